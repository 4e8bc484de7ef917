import Derived.Test.YtbobnfjbbablkabZF
namespace Go.Proofs.Ytbobnfjbbablkab
open Go.RowKit

theorem res_cell_tmp {P : Program} {fn : Func} {p q : Tmp} {ty : TypeId} (h : fn.results = #[.cell p ty, .tmp q]) (tmps : Array Value) (w : World) (g : Nat) (t : TypeId) (cs : Array Value) (fr : Nat × Nat) (d : TypeDesc)
    (hp : tmps.getD p undef = .pointer (some ⟨g, 0, none⟩)) (hg : w.heap[g]? = some (.cells cs t fr))
    (hu : P.underlying ty = some d) (hd : (match d with | .struct _ | .array _ _ => true | _ => false) = true) (hi : (P.info? ty).map (·.size) = some cs.size) :
    (results fn tmps).run P w = .ok (.tuple #[.agg cs, tmps.getD q undef]) w := by
  have hp' : tmps[p]?.getD undef = .pointer (some ⟨g, 0, none⟩) := by simpa using hp
  simp [results, h, hp', asAddr, run_loadVar_row w g t ty cs fr d hg hu hd hi]
theorem Own.setRow {w wx : World} {a : Option Addr} {cap : Nat} {l : List Nat} (h : Own w wx a cap l) {g : Nat} (hg : w.heap.size ≤ g) (hn : ∀ x, a = some x → x.block ≠ g) (cs : Array Value) : Own w (wx.setRow g cs) a cap l :=
  ⟨h.r.but (S := fun k => k = g) ⟨rfl, rfl, rfl, by simp, fun k _ hk => setRow_other _ _ _ _ (by simpa using hk)⟩ (fun x hx e => hn x hx e), h.n, below_setRow h.b hg cs⟩
theorem row3_cells {w : World} {g : Nat} {a b c : Value} {t : TypeId} (h : w.heap[g]? = some (.cells #[a, b, c] t (0, 0))) : w.cell? ⟨g, 0, none⟩ = some a ∧ w.cell? ⟨g, 1, none⟩ = some b ∧ w.cell? ⟨g, 2, none⟩ = some c := by
  refine ⟨?_, ?_, ?_⟩ <;> rw [cell_of_row _ _ _ _ _ _ h] <;> rfl
theorem two_blocks (w : World) (o p : Obj) {w1 : World} (hb : Below ((w.alloc o).alloc p).heap.size ((w.alloc o).alloc p) w1) : w1.heap[w.heap.size]? = some o ∧ w1.heap[w.heap.size + 1]? = some p ∧ Below w.heap.size w w1 ∧ w.heap.size + 2 ≤ w1.heap.size := by
  have hs : ((w.alloc o).alloc p).heap.size = w.heap.size + 2 := by rw [size_alloc, size_alloc]
  refine ⟨(hb.block _ (by rw [hs]; omega)).trans ?_, (hb.block _ (by rw [hs]; omega)).trans ?_, bt (bt (al _ _) (al _ _)) hb, by have := hb.size; omega⟩
  · rw [heap_alloc_old _ _ (by rw [size_alloc]; omega)]; exact heap_alloc_new _ _
  · have := heap_alloc_new (w.alloc o) p; rw [size_alloc] at this; exact this

def fOf : Option Fm → Rg
  | none => ⟨[], [], false⟩
  | some f => rgOf f
theorem form_no {r : Rg} (h : has r (least r.lo) = false) : form r = none := by unfold form; rw [h]; rfl
theorem form_open {r : Rg} (h : has r (least r.lo) = true) (ho : r.op = true) : form r = some (least r.lo, []) := by unfold form; rw [h, ho]; rfl
theorem form_to {r : Rg} (h : has r (least r.lo) = true) (ho : r.op = false) : form r = some (least r.lo, least r.hi) := by unfold form; rw [h, ho]; rfl
theorem len0 {l : List Nat} : (((l.length : Nat) : Int) == 0) = decide (l = []) := by
  cases l with
  | nil => simp
  | cons x l => simp; omega

set_option maxHeartbeats 3200000 in
theorem oneForm_any (w : World) (r : Rv) (hR : Ri w r) :
    Calls Try.prog 24 #[r.val] w fun e w' => ∃ q : Rv, e = .returned (.tuple #[q.val, .bool (form r.rg).isSome]) ∧ Ro w w' q ∧ q.rg = fOf (form r.rg) := by
  have L8 := hide (least_b8 hR.bl.1)
  have H8 := hide (least_b8 hR.bh.1)
  have F1 := hide (@form_no r.rg)
  have F2 := hide (@form_open r.rg)
  have F3 := hide (@form_to r.rg)
  have LE := hide fun w1 (hb : Below w.heap.size w w1) => least_any w1 r.aL r.lo.length r.cL r.lo (hR.bl.keep hb) rfl hR.cl
  have LH := hide fun w1 (hb : Below w.heap.size w w1) => least_any w1 r.aH r.hi.length r.cH r.hi (hR.bh.keep hb) rfl hR.ch
  have HH := hide fun w1 (hb : Below w.heap.size w w1) a c k (hK : Bs w1 a k) => Has_any w1 r a k.length c k (hR.keep hb) hK rfl
  clear hR
  unfold Rv.val Rv.cs at HH ⊢
  obtain ⟨aL, cL, lo, aH, cH, hi, op⟩ := r
  dsimp only [Rv.rg] at *
  go_enter Try.func24, Try.ntmps24
  go_wp2_with fail
  refine (LE.out _ (bt (al _ _) (al _ _))).mono ?_
  rintro e w1 ⟨a1, c1, rfl, o1⟩
  obtain ⟨m0, m1, hb1, hs1⟩ := two_blocks _ _ _ o1.b
  obtain ⟨k0, k1, k2⟩ := row3_cells m0
  have O1 := hide (Own.pre (bt (al _ _) (al _ _)) o1)
  have N1 : Hid (∀ x, a1 = some x → w.heap.size + 2 ≤ x.block) := fun x hx => by have := o1.fresh hx; rw [size_alloc, size_alloc] at this; exact this
  have HB1 := hide hb1
  have M1 := hide m1
  have M0 := hide m0
  have S1 := hide hs1
  clear o1 m0 m1 hb1 hs1 LE
  go_wp2_with fail
  refine (HH.out _ HB1.out a1 c1 (least lo) (O1.out.bs L8.out)).mono ?_
  rintro e w2 ⟨rfl, hb2⟩
  clear k0 k1 k2
  obtain ⟨k0, k1, k2⟩ := row3_cells ((hb2.block _ (by have := S1.out; omega)).trans M0.out)
  have O2 := hide (O1.out.keep hb2)
  have HB2 := hide (bt HB1.out hb2)
  have M2 := hide ((hb2.block _ (by have := S1.out; omega)).trans M1.out)
  have S2 : Hid (w.heap.size + 2 ≤ w2.heap.size) := Nat.le_trans S1.out hb2.size
  clear hb2 O1 HB1 M1 M0 S1 HH
  cases hh : has ⟨lo, hi, op⟩ (least lo) with
  | false =>
    have HF := hide (F1.out hh)
    clear hh k0 k1 k2
    go_wp2_with (refine wpList_store_row rfl 24 _ _ rfl (w.heap.size + 1) _ rfl rfl 24 _ M2.out sizeRange rfl (by simp [Value.oneCell']) ?_)
    refine bodyPost_ret (v := .tuple #[.agg _, _]) (res_cell_tmp Try.results24 _ _ (w.heap.size + 1) 24 _ (0, 0) _ rfl (setRow_heap _ _ _ _ _ _ M2.out) Try.underlying24 rfl sizeRange) rfl ?_
    rw [HF.out]
    have hbz := below_setRow HB2.out (show w.heap.size ≤ w.heap.size + 1 by omega) #[.slice none 0 0, .slice none 0 0, .bool false]
    exact ⟨⟨none, 0, [], none, 0, [], false⟩, rfl, ⟨Own.nil w hbz, Own.nil w hbz, (fun x y hx => by cases hx), B8.nil, B8.nil⟩, rfl⟩
  | true =>
    cases op with
    | true =>
      have HF := hide (F2.out hh rfl)
      clear hh k0 k1
      go_wp2_with (refine wpList_store_row rfl 24 _ _ rfl (w.heap.size + 1) _ rfl rfl 24 _ M2.out sizeRange rfl (by simp [Value.oneCell']) ?_)
      refine bodyPost_ret (v := .tuple #[.agg _, _]) (res_cell_tmp Try.results24 _ _ (w.heap.size + 1) 24 _ (0, 0) _ rfl (setRow_heap _ _ _ _ _ _ M2.out) Try.underlying24 rfl sizeRange) rfl ?_
      rw [HF.out]
      have hbz := below_setRow HB2.out (show w.heap.size ≤ w.heap.size + 1 by omega)
      exact ⟨⟨a1, c1, least lo, none, 0, [], true⟩, rfl, ⟨O2.out.setRow (by omega) (fun x hx e => by have := N1.out x hx; omega) _, Own.nil w (hbz _), (fun x y _ hy => by cases hy), L8.out, B8.nil⟩, rfl⟩
    | false =>
      have HF := hide (F3.out hh rfl)
      clear hh
      go_wp2_with fail
      refine (LH.out _ HB2.out).mono ?_
      rintro e w3 ⟨a3, c3, rfl, o3⟩
      have M3 := hide ((o3.b.block _ (by have := S2.out; omega)).trans M2.out)
      have O23 := hide (O2.out.keep o3.b)
      have O3 := hide (Own.pre HB2.out o3)
      have N3 : Hid (∀ x, a3 = some x → w2.heap.size ≤ x.block) := fun x hx => o3.fresh hx
      have L2 : Hid (∀ x, a1 = some x → x.block < w2.heap.size) := fun x hx => O2.out.r.lt hx
      have hz := @len0 (least hi)
      clear o3 k0 k1 k2
      go_wp2_with (refine wpList_store_row rfl 24 _ _ rfl (w.heap.size + 1) _ rfl rfl 24 _ M3.out sizeRange rfl (by simp [Value.oneCell']) ?_)
      refine bodyPost_ret (v := .tuple #[.agg _, _]) (res_cell_tmp Try.results24 _ _ (w.heap.size + 1) 24 _ (0, 0) _ rfl (setRow_heap _ _ _ _ _ _ M3.out) Try.underlying24 rfl sizeRange) rfl ?_
      rw [HF.out]
      refine ⟨⟨a1, c1, least lo, a3, c3, least hi, decide (least hi = [])⟩, ?_, ⟨O23.out.setRow (by omega) (fun x hx e => by have := N1.out x hx; omega) _, O3.out.setRow (by omega) (fun x hx e => by have := N3.out x hx; have := S2.out; omega) _, fun x y hx hy e => by have := N3.out y hy; have := L2.out x hx; omega, L8.out, H8.out⟩, rfl⟩
      simp

theorem fOf_eq {a b : Rg} (ha : a.b8) (hb : b.b8) : ((fOf (form a)).lo = (fOf (form b)).lo ∧ (fOf (form a)).hi = (fOf (form b)).hi ∧ (fOf (form a)).op = (fOf (form b)).op) ↔ form a = form b := by
  constructor
  · rintro ⟨h1, h2, h3⟩
    cases h : form a with
    | none =>
      cases h' : form b with
      | none => rfl
      | some g =>
        rw [h, h'] at h1
        exact absurd h1.symm (form_some hb h').1.1.ne
    | some f =>
      cases h' : form b with
      | none =>
        rw [h, h'] at h1
        exact absurd h1 (form_some ha h).1.1.ne
      | some g =>
        rw [h, h'] at h1 h2
        exact congrArg some (Prod.ext h1 h2)
  · intro h; rw [h]; exact ⟨rfl, rfl, rfl⟩
theorem blocks_two (w : World) (o p : Obj) : ((w.alloc o).alloc p).heap.size = w.heap.size + 2 := by rw [size_alloc, size_alloc]
set_option maxHeartbeats 3200000 in
theorem Equal_any (w : World) (r s : Rv) (hR : Ri w r) (hS : Ri w s) :
    Calls Try.prog 9 #[r.val, s.val] w fun e w' => e = .returned (.bool (decide (form r.rg = form s.rg))) ∧ Below w.heap.size w w' := by
  have FE := hide (fOf_eq hR.b8 hS.b8)
  have O1 := hide fun w1 (hb : Below w.heap.size w w1) => oneForm_any w1 r (hR.keep hb)
  have O2 := hide fun w1 (hb : Below w.heap.size w w1) => oneForm_any w1 s (hS.keep hb)
  clear hR hS
  unfold Rv.val Rv.cs at O1 O2 ⊢
  generalize hfr : form r.rg = fr at *
  generalize hfs : form s.rg = fs at *
  clear hfr hfs
  go_enter Try.func9, Try.ntmps9
  go_wp2_with fail
  refine (O1.out _ (bt (al _ _) (al _ _))).mono ?_
  rintro e w1 ⟨q, rfl, ro, hq⟩
  obtain ⟨m0, m1, hb1, hs1⟩ := two_blocks _ _ _ ro.l.b
  obtain ⟨k0, k1, k2⟩ := row3_cells m1
  have HQ := hide ro.ri
  have HB1 := hide hb1
  clear ro m0 m1 hb1 hs1 O1
  obtain ⟨q1, d1, l1, q2, d2, l2, po⟩ := q
  dsimp only at *
  have HW1 : Hid (∀ o, Below w.heap.size w (w1.alloc o)) := fun o => bt HB1.out (al _ _)
  have hlt1 := block_lt_of_cell k0
  dsimp only at hlt1
  go_wp2_with fail
  refine (O2.out _ (HW1.out _)).mono ?_
  rintro e w2 ⟨p, rfl, rp, hp⟩
  have hbl := rp.l.b
  have HQ2 := hide ((HQ.out.keep (al _ _)).keep hbl)
  have HP := hide rp.ri
  obtain ⟨m0, m1, m2⟩ := row3_cells ((hbl.block w1.heap.size (by rw [size_alloc]; omega)).trans (heap_alloc_new _ _))
  have HB2 := hide (bt (HW1.out _) hbl)
  have hlt2 := block_lt_of_cell m0
  dsimp only at hlt2
  clear k0 k1 k2 rp hbl HW1 HB1 HQ hlt1
  obtain ⟨p1, e1, u1, p2, e2, u2, pp⟩ := p
  dsimp only at *
  have C1 := hide fun w3 (hb : Below w2.heap.size w2 w3) => sCompare_any w3 q1 p1 l1.length d1 u1.length e1 l1 u1 (HQ2.out.bl.keep hb) (HP.out.bl.keep hb) rfl rfl
  have C2 := hide fun w3 (hb : Below w2.heap.size w2 w3) => sCompare_any w3 q2 p2 l2.length d2 u2.length e2 l2 u2 (HQ2.out.bh.keep hb) (HP.out.bh.keep hb) rfl rfl
  have HD : Hid (decide (fr = fs) = (decide (l1 = u1) && (decide (l2 = u2) && decide (po = pp)))) := by
    show _ = _
    rw [← Bool.decide_and, ← Bool.decide_and, decide_eq_decide, ← FE.out, ← hq, ← hp]
    exact Iff.rfl
  clear FE HQ2 HP hq hp
  by_cases h1 : l1 = u1
  · have z1 : cmpB l1 u1 = 0 := cmpB_zero.2 h1
    rw [z1] at C1
    rw [decide_eq_true h1] at HD
    by_cases h2 : l2 = u2
    · have z2 : cmpB l2 u2 = 0 := cmpB_zero.2 h2
      rw [z2] at C2
      rw [decide_eq_true h2] at HD
      clear h1 h2 z1 z2
      go_wp2_with fail
      refine (C1.out _ (al _ _)).mono ?_
      rintro e w3 ⟨rfl, hw⟩
      obtain rfl := hw.symm
      go_wp2_with fail
      refine (C2.out _ (al _ _)).mono ?_
      rintro e w3 ⟨rfl, hw⟩
      obtain rfl := hw.symm
      go_wp2
      go_ret
      refine ⟨?_, bt HB2.out (al _ _)⟩
      rw [HD.out]
      cases po <;> cases pp <;> rfl
    · have z2 : (cmpB l2 u2 == 0) = false := eqf fun e => h2 (cmpB_eq e)
      rw [decide_eq_false h2] at HD
      clear h1 h2 z1
      generalize cmpB l2 u2 = y at *
      go_wp2_with fail
      refine (C1.out _ (al _ _)).mono ?_
      rintro e w3 ⟨rfl, hw⟩
      obtain rfl := hw.symm
      go_wp2_with fail
      refine (C2.out _ (al _ _)).mono ?_
      rintro e w3 ⟨rfl, hw⟩
      obtain rfl := hw.symm
      go_wp2
      go_ret
      exact ⟨by rw [HD.out]; rfl, bt HB2.out (al _ _)⟩
  · have z1 : (cmpB l1 u1 == 0) = false := eqf fun e => h1 (cmpB_eq e)
    rw [decide_eq_false h1] at HD
    clear h1 C2
    generalize cmpB l1 u1 = y at *
    go_wp2_with fail
    refine (C1.out _ (al _ _)).mono ?_
    rintro e w3 ⟨rfl, hw⟩
    obtain rfl := hw.symm
    go_wp2
    go_ret
    exact ⟨by rw [HD.out]; rfl, bt HB2.out (al _ _)⟩

theorem three_keep {w w' : World} {g : Nat} {a b c : Value} (h : w.cell? ⟨g, 0, none⟩ = some a ∧ w.cell? ⟨g, 1, none⟩ = some b ∧ w.cell? ⟨g, 2, none⟩ = some c) (hb : Below w.heap.size w w') : w'.cell? ⟨g, 0, none⟩ = some a ∧ w'.cell? ⟨g, 1, none⟩ = some b ∧ w'.cell? ⟨g, 2, none⟩ = some c :=
  ⟨(hb.cell (p := ⟨g, 0, none⟩) (block_lt_of_cell h.1)).trans h.1, (hb.cell (p := ⟨g, 1, none⟩) (block_lt_of_cell h.2.1)).trans h.2.1, (hb.cell (p := ⟨g, 2, none⟩) (block_lt_of_cell h.2.2)).trans h.2.2⟩
set_option maxHeartbeats 3200000 in
theorem Empty_any (w : World) (r : Rv) (hR : Ri w r) :
    Calls Try.prog 7 #[r.val] w fun e w' => e = .returned (.bool (!has r.rg (least r.lo))) ∧ Below w.heap.size w w' := by
  have L8 := hide (least_b8 hR.bl.1)
  have LE := hide fun w1 (hb : Below w.heap.size w w1) => least_any w1 r.aL r.lo.length r.cL r.lo (hR.bl.keep hb) rfl hR.cl
  have HH := hide fun w1 (hb : Below w.heap.size w w1) a c k (hK : Bs w1 a k) => Has_any w1 r a k.length c k (hR.keep hb) hK rfl
  clear hR
  unfold Rv.val Rv.cs at HH ⊢
  obtain ⟨aL, cL, lo, aH, cH, hi, op⟩ := r
  dsimp only [Rv.rg] at *
  generalize hhv : has ⟨lo, hi, op⟩ = hv at *
  clear hhv
  go_enter Try.func7, Try.ntmps7
  go_wp2
  have S0 : (w.alloc (.cells #[.slice aL lo.length cL, .slice aH hi.length cH, .bool op] 24)).drew.cell? ⟨w.heap.size, 0, none⟩ = some (.slice aL lo.length cL) ∧ (w.alloc (.cells #[.slice aL lo.length cL, .slice aH hi.length cH, .bool op] 24)).drew.cell? ⟨w.heap.size, 1, none⟩ = some (.slice aH hi.length cH) ∧ (w.alloc (.cells #[.slice aL lo.length cL, .slice aH hi.length cH, .bool op] 24)).drew.cell? ⟨w.heap.size, 2, none⟩ = some (.bool op) := ⟨by simp, by simp, by simp⟩
  have B0 : Hid (Below w.heap.size w (w.alloc (.cells #[.slice aL lo.length cL, .slice aH hi.length cH, .bool op] 24)).drew) := (al w _).drew
  go_region_held3 (fun w' => w'.cell? ⟨w.heap.size, 0, none⟩ = some (.slice aL lo.length cL) ∧ w'.cell? ⟨w.heap.size, 1, none⟩ = some (.slice aH hi.length cH) ∧ w'.cell? ⟨w.heap.size, 2, none⟩ = some (.bool op))
    (first | exact S0 | exact S2 | exact S3)
    (first | (go_at_call 22; refine (LE.out _ B0.out).mono ?_; rintro e w2 ⟨a2, c2, rfl, o2⟩; have S2 := three_keep S0 o2.b; have B2 := hide (bt B0.out o2.b); have K2 := hide (o2.bs L8.out); clear o2) | (go_at_call 12; refine (HH.out _ B2.out a2 c2 (least lo) K2.out).mono ?_; rintro e w3 ⟨rfl, o3⟩; have S3 := three_keep S2 o3; have B3 := hide (bt B2.out o3); clear o3))
  go_wp2
  go_ret
  exact ⟨rfl, B3.out⟩
end Go.Proofs.Ytbobnfjbbablkab
