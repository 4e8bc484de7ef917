import Derived.Test.YtbobnfjbbablkabZI
namespace Go.Proofs.Ytbobnfjbbablkab
open Go.RowKit

def grt (a b : List Nat) : List Nat := if cmpB a b < 0 then b else a
def lsr (a b : List Nat) : List Nat := if cmpB a b < 0 then a else b
def meet (a b : Rg) : Rg := ⟨grt a.lo b.lo, if a.op then (if b.op then [] else b.hi) else (if b.op then a.hi else lsr a.hi b.hi), a.op && b.op⟩
def above (p : List Nat) : Rg := ⟨p, beh p, decide (beh p = [])⟩
theorem greater_any (w : World) (a b : Option Addr) (n c m d : Nat) (l k : List Nat) (hA : Bs w a l) (hB : Bs w b k) (hn : n = l.length) (hm : m = k.length) (hc : l.length ≤ c) (hd : k.length ≤ d) :
    Calls Try.prog 30 #[.slice a n c, .slice b m d] w fun e w' => ∃ a' c', e = .returned (.slice a' (grt l k).length c') ∧ Bs w a' (grt l k) ∧ (grt l k).length ≤ c' ∧ w' = w := by
  subst hn hm
  have CM := hide (sCompare_any w a b l.length c k.length d l k hA hB rfl rfl)
  have HA := hide hA
  have HB := hide hB
  clear hA hB
  by_cases h : cmpB l k < 0
  · have HG : Hid (grt l k = k) := by show _ = _; unfold grt; rw [if_pos h]
    generalize cmpB l k = z at *
    go_enter Try.func30, Try.ntmps30
    go_wp2_with fail
    refine CM.out.mono ?_
    rintro e w1 ⟨rfl, hw⟩
    obtain rfl := hw.symm
    go_wp2
    go_ret
    exact ⟨b, d, by rw [HG.out]; rfl, by rw [HG.out]; exact HB.out, by rw [HG.out]; exact hd, rfl⟩
  · have HG : Hid (grt l k = l) := by show _ = _; unfold grt; rw [if_neg h]
    generalize cmpB l k = z at *
    go_enter Try.func30, Try.ntmps30
    go_wp2_with fail
    refine CM.out.mono ?_
    rintro e w1 ⟨rfl, hw⟩
    obtain rfl := hw.symm
    go_wp2
    go_ret
    exact ⟨a, c, by rw [HG.out]; rfl, by rw [HG.out]; exact HA.out, by rw [HG.out]; exact hc, rfl⟩
theorem lesser_any (w : World) (a b : Option Addr) (n c m d : Nat) (l k : List Nat) (hA : Bs w a l) (hB : Bs w b k) (hn : n = l.length) (hm : m = k.length) (hc : l.length ≤ c) (hd : k.length ≤ d) :
    Calls Try.prog 31 #[.slice a n c, .slice b m d] w fun e w' => ∃ a' c', e = .returned (.slice a' (lsr l k).length c') ∧ Bs w a' (lsr l k) ∧ (lsr l k).length ≤ c' ∧ w' = w := by
  subst hn hm
  have CM := hide (sCompare_any w a b l.length c k.length d l k hA hB rfl rfl)
  have HA := hide hA
  have HB := hide hB
  clear hA hB
  by_cases h : cmpB l k < 0
  · have HG : Hid (lsr l k = l) := by show _ = _; unfold lsr; rw [if_pos h]
    generalize cmpB l k = z at *
    go_enter Try.func31, Try.ntmps31
    go_wp2_with fail
    refine CM.out.mono ?_
    rintro e w1 ⟨rfl, hw⟩
    obtain rfl := hw.symm
    go_wp2
    go_ret
    exact ⟨a, c, by rw [HG.out]; rfl, by rw [HG.out]; exact HA.out, by rw [HG.out]; exact hc, rfl⟩
  · have HG : Hid (lsr l k = k) := by show _ = _; unfold lsr; rw [if_neg h]
    generalize cmpB l k = z at *
    go_enter Try.func31, Try.ntmps31
    go_wp2_with fail
    refine CM.out.mono ?_
    rintro e w1 ⟨rfl, hw⟩
    obtain rfl := hw.symm
    go_wp2
    go_ret
    exact ⟨b, d, by rw [HG.out]; rfl, by rw [HG.out]; exact HB.out, by rw [HG.out]; exact hd, rfl⟩
def Rb (r : Rv) : Prop := r.lo.length ≤ 140737488355328 ∧ r.hi.length ≤ 140737488355328
theorem grt_len {a b : List Nat} {n : Nat} (ha : a.length ≤ n) (hb : b.length ≤ n) : (grt a b).length ≤ n := by unfold grt; split <;> assumption
theorem lsr_len {a b : List Nat} {n : Nat} (ha : a.length ≤ n) (hb : b.length ≤ n) : (lsr a b).length ≤ n := by unfold lsr; split <;> assumption
theorem grt_b8 {a b : List Nat} (ha : B8 a) (hb : B8 b) : B8 (grt a b) := by unfold grt; split <;> assumption
theorem lsr_b8 {a b : List Nat} (ha : B8 a) (hb : B8 b) : B8 (lsr a b) := by unfold lsr; split <;> assumption
theorem three_blocks (w : World) (o p q : Obj) {w1 : World} (hb : Below (((w.alloc o).alloc p).alloc q).heap.size (((w.alloc o).alloc p).alloc q) w1) : w1.heap[w.heap.size]? = some o ∧ w1.heap[w.heap.size + 1]? = some p ∧ w1.heap[w.heap.size + 2]? = some q ∧ Below w.heap.size w w1 ∧ w.heap.size + 3 ≤ w1.heap.size := by
  have hs : (((w.alloc o).alloc p).alloc q).heap.size = w.heap.size + 3 := by rw [size_alloc, size_alloc, size_alloc]
  have h2 := two_blocks w o p (bt (al ((w.alloc o).alloc p) q) hb)
  refine ⟨h2.1, h2.2.1, (hb.block _ (by rw [hs]; omega)).trans ?_, h2.2.2.1, by have := hb.size; omega⟩
  have := heap_alloc_new ((w.alloc o).alloc p) q
  rw [size_alloc, size_alloc] at this
  exact this
theorem Own.setCell {w wx : World} {a : Option Addr} {cap : Nat} {l : List Nat} (h : Own w wx a cap l) {p : Addr} (hg : w.heap.size ≤ p.block) (hn : ∀ x, a = some x → x.block ≠ p.block) (v : Value) : Own w (wx.setCell p v) a cap l :=
  ⟨h.r.but (S := fun k => k = p.block) ⟨rfl, rfl, rfl, by simp [World.setCell], fun k _ hk => Below.heap_setCell _ _ _ _ (by simpa using hk)⟩ (fun x hx e => hn x hx e), h.n, h.b.setCell hg v⟩
set_option maxRecDepth 100000 in
set_option maxHeartbeats 6400000 in
theorem Meet_any (w : World) (r s : Rv) (hR : Ri w r) (hS : Ri w s) (hr : Rb r) (hs : Rb s) :
    Calls Try.prog 14 #[r.val, s.val] w fun e w' => ∃ q : Rv, e = .returned q.val ∧ Ro w w' q ∧ q.rg = meet r.rg s.rg := by
  have GL := hide fun w1 (hb : Below w.heap.size w w1) => greater_any w1 r.aL s.aL r.lo.length r.cL s.lo.length s.cL r.lo s.lo (hR.bl.keep hb) (hS.bl.keep hb) rfl rfl hR.cl hS.cl
  have LH := hide fun w1 (hb : Below w.heap.size w w1) => lesser_any w1 r.aH s.aH r.hi.length r.cH s.hi.length s.cH r.hi s.hi (hR.bh.keep hb) (hS.bh.keep hb) rfl rfl hR.ch hS.ch
  have CP := hide fun (w1 : World) a c l (hB : Bs w1 a l) (h : l.length ≤ 140737488355328) => copied_any w1 a l.length c l hB rfl (by omega)
  have G8 := hide (grt_b8 hR.bl.1 hS.bl.1)
  have S8 := hide (lsr_b8 hR.bh.1 hS.bh.1)
  have GN := hide (grt_len hr.1 hs.1)
  have SN := hide (lsr_len hr.2 hs.2)
  have HR := hide hR
  have HS := hide hS
  have HRB := hide hr
  have HSB := hide hs
  clear hR hS hr hs
  obtain ⟨aL, cL, lo, aH, cH, hi, op⟩ := r
  obtain ⟨bL, dL, ko, bH, dH, ki, oq⟩ := s
  unfold Rv.val
  dsimp only [Rv.cs, Rv.rg, meet] at *
  generalize grt lo ko = g at *
  generalize lsr hi ki = lw at *
  go_enter Try.func14, Try.ntmps14
  go_wp2_with fail
  refine (GL.out _ (bt (bt (al _ _) (al _ _)) (al _ _))).mono ?_
  rintro e w1 ⟨a1, c1, rfl, hb1, hc1, hw⟩
  obtain rfl := hw.symm
  have HB1 := hide hb1
  clear hb1
  go_wp2_with fail
  refine (CP.out _ a1 c1 g HB1.out GN.out).mono ?_
  rintro e w1 ⟨rfl, o1⟩
  rw [size_alloc, size_alloc, size_alloc] at o1 ⊢
  obtain ⟨m0, m1, m2, hb1, hs1⟩ := three_blocks _ _ _ _ o1.b
  obtain ⟨j0, j1, j2⟩ := row3_cells m0
  obtain ⟨k0, k1, k2⟩ := row3_cells m1
  have O1 := hide (Own.pre (bt (bt (al _ _) (al _ _)) (al _ _)) o1)
  have M2 : Hid (∀ o, (w1.alloc o).heap[w.heap.size + 1 + 1]? = some (.cells #[.slice none 0 0, .slice none 0 0, .bool false] 24 (0, 0))) := fun o => ((al w1 o).block _ (by omega)).trans m2
  have HBL : Hid (∀ o, Below w.heap.size w (w1.alloc o)) := fun o => bt hb1 (al _ _)
  have HSZ := hide hs1
  have hl0 : w.heap.size < w1.heap.size := by omega
  have hl1 : w.heap.size + 1 < w1.heap.size := by omega
  clear o1 m0 m1 m2 hb1 hs1 GL hc1 HB1
  cases op with
  | true =>
    cases oq with
    | true =>
      go_wp2_with (refine wpList_store_row rfl 24 _ _ rfl (w.heap.size + 1 + 1) _ rfl rfl 24 _ (M2.out _) sizeRange rfl (by simp [Value.oneCell']) ?_)
      refine bodyPost_ret (v := .agg _) (results_cell_row Try.results14 _ _ (w.heap.size + 1 + 1) 24 _ (0, 0) _ rfl (setRow_heap _ _ _ _ _ _ (M2.out _)) Try.underlying24 rfl sizeRange) rfl ?_
      refine ⟨⟨some ⟨w.heap.size + 1 + 1 + 1, 0, none⟩, g.length, g, none, 0, [], true⟩, rfl, ⟨(O1.out.keep (al _ _)).setRow (by omega) (fun x hx e => ?_) _, Own.nil w (below_setRow (HBL.out _) (by omega) _), (fun x y _ hy => by cases hy), G8.out, B8.nil⟩, by simp⟩
      simp only [Option.some.injEq] at hx
      subst hx
      simp at e
    | false =>
      go_wp2_with fail
      refine (CP.out _ bH dH ki ((HS.out.keep (HBL.out _)).bh) HSB.out.2).mono ?_
      rintro e w2 ⟨rfl, o2⟩
      have O2 := hide (Own.pre (HBL.out _) o2)
      have M3 : Hid (∀ v, (w2.setCell ⟨w1.heap.size, 1, none⟩ v).heap[w.heap.size + 1 + 1]? = some (.cells #[.slice none 0 0, .slice none 0 0, .bool false] 24 (0, 0))) := fun v => (Below.heap_setCell _ _ _ _ (by have := HSZ.out; show _ ≠ w1.heap.size; omega)).trans ((o2.b.block _ (by rw [size_alloc]; have := HSZ.out; omega)).trans (M2.out _))
      have mm := (o2.b.block w1.heap.size (by rw [size_alloc]; omega)).trans (heap_alloc_new _ _)
      obtain ⟨n0, n1, n2⟩ := row3_cells mm
      have nf := frozen_of_row w2 w1.heap.size 1 _ _ mm
      have O1b := hide ((O1.out.keep (al _ _)).keep o2.b)
      rw [size_alloc] at O2 ⊢
      clear o2 mm j0 j1 j2 k0 k1 k2
      go_wp2_with (refine wpList_store_row rfl 24 _ _ rfl (w.heap.size + 1 + 1) _ rfl rfl 24 _ (M3.out _) sizeRange rfl (by simp [Value.oneCell']) ?_)
      refine bodyPost_ret (v := .agg _) (results_cell_row Try.results14 _ _ (w.heap.size + 1 + 1) 24 _ (0, 0) _ rfl (setRow_heap _ _ _ _ _ _ (M3.out _)) Try.underlying24 rfl sizeRange) rfl ?_
      have hlt1 := O1.out.r.lt rfl
      dsimp only at hlt1
      refine ⟨⟨some ⟨w.heap.size + 1 + 1 + 1, 0, none⟩, g.length, g, some ⟨w1.heap.size + 1, 0, none⟩, (ki).length, ki, false⟩, rfl, ⟨(O1b.out.setCell (p := ⟨w1.heap.size, 1, none⟩) (by show _ ≤ w1.heap.size; omega) (fun x hx e => ?_) _).setRow (by omega) (fun x hx e => ?_) _, (O2.out.setCell (p := ⟨w1.heap.size, 1, none⟩) (by show _ ≤ w1.heap.size; omega) (fun x hx e => ?_) _).setRow (by omega) (fun x hx e => ?_) _, fun x y hx hy e => ?_, G8.out, HS.out.bh.1⟩, by simp⟩
      all_goals (simp only [Option.some.injEq] at hx; subst hx)
      all_goals (try (simp only [Option.some.injEq] at hy; subst hy))
      all_goals (dsimp only at e; have := HSZ.out; omega)
  | false =>
    cases oq with
    | true =>
      go_wp2_with fail
      refine (CP.out _ aH cH hi ((HR.out.keep (HBL.out _)).bh) HRB.out.2).mono ?_
      rintro e w2 ⟨rfl, o2⟩
      have O2 := hide (Own.pre (HBL.out _) o2)
      have M3 : Hid (∀ v, (w2.setCell ⟨w1.heap.size, 1, none⟩ v).heap[w.heap.size + 1 + 1]? = some (.cells #[.slice none 0 0, .slice none 0 0, .bool false] 24 (0, 0))) := fun v => (Below.heap_setCell _ _ _ _ (by have := HSZ.out; show _ ≠ w1.heap.size; omega)).trans ((o2.b.block _ (by rw [size_alloc]; have := HSZ.out; omega)).trans (M2.out _))
      have mm := (o2.b.block w1.heap.size (by rw [size_alloc]; omega)).trans (heap_alloc_new _ _)
      obtain ⟨n0, n1, n2⟩ := row3_cells mm
      have nf := frozen_of_row w2 w1.heap.size 1 _ _ mm
      have O1b := hide ((O1.out.keep (al _ _)).keep o2.b)
      rw [size_alloc] at O2 ⊢
      clear o2 mm j0 j1 j2 k0 k1 k2
      go_wp2_with (refine wpList_store_row rfl 24 _ _ rfl (w.heap.size + 1 + 1) _ rfl rfl 24 _ (M3.out _) sizeRange rfl (by simp [Value.oneCell']) ?_)
      refine bodyPost_ret (v := .agg _) (results_cell_row Try.results14 _ _ (w.heap.size + 1 + 1) 24 _ (0, 0) _ rfl (setRow_heap _ _ _ _ _ _ (M3.out _)) Try.underlying24 rfl sizeRange) rfl ?_
      have hlt1 := O1.out.r.lt rfl
      dsimp only at hlt1
      refine ⟨⟨some ⟨w.heap.size + 1 + 1 + 1, 0, none⟩, g.length, g, some ⟨w1.heap.size + 1, 0, none⟩, (hi).length, hi, false⟩, rfl, ⟨(O1b.out.setCell (p := ⟨w1.heap.size, 1, none⟩) (by show _ ≤ w1.heap.size; omega) (fun x hx e => ?_) _).setRow (by omega) (fun x hx e => ?_) _, (O2.out.setCell (p := ⟨w1.heap.size, 1, none⟩) (by show _ ≤ w1.heap.size; omega) (fun x hx e => ?_) _).setRow (by omega) (fun x hx e => ?_) _, fun x y hx hy e => ?_, G8.out, HR.out.bh.1⟩, by simp⟩
      all_goals (simp only [Option.some.injEq] at hx; subst hx)
      all_goals (try (simp only [Option.some.injEq] at hy; subst hy))
      all_goals (dsimp only at e; have := HSZ.out; omega)
    | false =>
      go_wp2_with fail
      refine (LH.out _ (HBL.out _)).mono ?_
      rintro e w2 ⟨a2, c2, rfl, hb2, hc2, hw⟩
      obtain rfl := hw.symm
      have HB2 := hide hb2
      clear hb2
      go_wp2_with fail
      refine (CP.out _ a2 c2 lw HB2.out SN.out).mono ?_
      rintro e w2 ⟨rfl, o2⟩
      have O2 := hide (Own.pre (HBL.out _) o2)
      have M3 : Hid (∀ v, (w2.setCell ⟨w1.heap.size, 1, none⟩ v).heap[w.heap.size + 1 + 1]? = some (.cells #[.slice none 0 0, .slice none 0 0, .bool false] 24 (0, 0))) := fun v => (Below.heap_setCell _ _ _ _ (by have := HSZ.out; show _ ≠ w1.heap.size; omega)).trans ((o2.b.block _ (by rw [size_alloc]; have := HSZ.out; omega)).trans (M2.out _))
      have mm := (o2.b.block w1.heap.size (by rw [size_alloc]; omega)).trans (heap_alloc_new _ _)
      obtain ⟨n0, n1, n2⟩ := row3_cells mm
      have nf := frozen_of_row w2 w1.heap.size 1 _ _ mm
      have O1b := hide ((O1.out.keep (al _ _)).keep o2.b)
      rw [size_alloc] at O2 ⊢
      clear o2 mm j0 j1 j2 k0 k1 k2
      go_wp2_with (refine wpList_store_row rfl 24 _ _ rfl (w.heap.size + 1 + 1) _ rfl rfl 24 _ (M3.out _) sizeRange rfl (by simp [Value.oneCell']) ?_)
      refine bodyPost_ret (v := .agg _) (results_cell_row Try.results14 _ _ (w.heap.size + 1 + 1) 24 _ (0, 0) _ rfl (setRow_heap _ _ _ _ _ _ (M3.out _)) Try.underlying24 rfl sizeRange) rfl ?_
      have hlt1 := O1.out.r.lt rfl
      dsimp only at hlt1
      refine ⟨⟨some ⟨w.heap.size + 1 + 1 + 1, 0, none⟩, g.length, g, some ⟨w1.heap.size + 1, 0, none⟩, (lw).length, lw, false⟩, rfl, ⟨(O1b.out.setCell (p := ⟨w1.heap.size, 1, none⟩) (by show _ ≤ w1.heap.size; omega) (fun x hx e => ?_) _).setRow (by omega) (fun x hx e => ?_) _, (O2.out.setCell (p := ⟨w1.heap.size, 1, none⟩) (by show _ ≤ w1.heap.size; omega) (fun x hx e => ?_) _).setRow (by omega) (fun x hx e => ?_) _, fun x y hx hy e => ?_, G8.out, S8.out⟩, by simp⟩
      all_goals (simp only [Option.some.injEq] at hx; subst hx)
      all_goals (try (simp only [Option.some.injEq] at hy; subst hy))
      all_goals (dsimp only at e; have := HSZ.out; omega)

set_option maxHeartbeats 1600000 in
theorem Above_any (w : World) (a : Option Addr) (n c : Nat) (p : List Nat) (hB : Bs w a p) (hn : n = p.length) (hcap : p.length ≤ c) (hlen : p.length ≤ 140737488355328) :
    Calls Try.prog 15 #[.slice a n c] w fun e w' => ∃ q : Rv, e = .returned q.val ∧ Ro w w' q ∧ q.rg = above p := by
  subst hn
  have BE := hide fun w1 (hb : Below w.heap.size w w1) => behind_any w1 a p.length c p (hB.keep hb) rfl hcap (by omega)
  have CP := hide fun w1 (hb : Below w.heap.size w w1) => copied_any w1 a p.length c p (hB.keep hb) rfl (by omega)
  have P8 := hide (B8_of hB)
  have B8' := hide (beh_b8 p (B8_of hB))
  have hz := @len0 (beh p)
  clear hB
  unfold Rv.val above
  dsimp only [Rv.cs, Rv.rg]
  generalize beh p = b at *
  go_enter Try.func15, Try.ntmps15
  go_wp2_with fail
  refine (BE.out _ (al _ _)).mono ?_
  rintro e w1 ⟨a1, c1, rfl, o1⟩
  have O1 := hide (Own.pre (al _ _) o1)
  have M1 := hide ((o1.b.block w.heap.size (by rw [size_alloc]; omega)).trans (heap_alloc_new _ _))
  have S1 : Hid (w.heap.size < w1.heap.size) := by have := o1.b.size; rw [size_alloc] at this; show _ < _; omega
  have N1 : Hid (∀ x, a1 = some x → w.heap.size < x.block) := fun x hx => by have := o1.fresh hx; rw [size_alloc] at this; omega
  clear o1
  go_wp2_with fail
  refine (CP.out _ O1.out.b).mono ?_
  rintro e w2 ⟨rfl, o2⟩
  have O2 := hide (Own.pre O1.out.b o2)
  have M2 := hide ((o2.b.block w.heap.size S1.out).trans M1.out)
  have O12 := hide (O1.out.keep o2.b)
  have N2 : Hid (∀ x, a1 = some x → x.block ≠ w1.heap.size) := fun x hx e => by have := O1.out.r.lt hx; omega
  clear o2
  go_wp2_with (refine wpList_store_row rfl 24 _ _ rfl w.heap.size _ rfl rfl 24 _ M2.out sizeRange rfl (by simp [Value.oneCell']) ?_)
  refine bodyPost_ret (v := .agg _) (results_cell_row Try.results15 _ _ w.heap.size 24 _ (0, 0) _ rfl (setRow_heap _ _ _ _ _ _ M2.out) Try.underlying24 rfl sizeRange) rfl ?_
  refine ⟨⟨some ⟨w1.heap.size, 0, none⟩, p.length, p, a1, c1, b, decide (b = [])⟩, by simp, ⟨O2.out.setRow (Nat.le_refl _) (fun x hx e => ?_) _, O12.out.setRow (Nat.le_refl _) (fun x hx e => ?_) _, fun x y hx hy e => ?_, P8.out, B8'.out⟩, rfl⟩
  · simp only [Option.some.injEq] at hx
    subst hx
    dsimp only at e
    have := S1.out
    omega
  · have := N1.out x hx
    omega
  · simp only [Option.some.injEq] at hx
    subst hx
    exact N2.out y hy e.symm
end Go.Proofs.Ytbobnfjbbablkab
