import Derived.Test.YtmfelkncomfipaaDYB
import Derived.Test.YtmfelkncomfipaaDYC
namespace Go.Proofs.Ytmfelkncomfipaa
set_option linter.unusedVariables false
set_option linter.unusedSimpArgs false
open Go.RowKit
/-! ### the item of a key -/
theorem Bs.ntb {W : World} {a : Option Addr} {l : List Nat} (h : Bs W a l) {t : TypeId} {g : Nat} (hX : Bx W t g #[.slice none 0 0, .slice none 0 0, .int .i64 0, .int .i64 0]) (ht : t ≠ 5) (cs : Array Value) : Bs (W.setRow g cs) a l := by
  refine ⟨h.1, h.2.1, h.2.2.imp id (fun ⟨b, o, e, hc⟩ => ⟨b, o, e, fun i hi => ?_⟩)⟩
  have k := hc i hi
  have hne : b ≠ g := fun e => by
    subst e
    rw [cell_of_row _ _ _ _ _ _ hX] at k
    have hlt := (Array.getElem?_eq_some_iff.1 k).1
    simp only [List.size_toArray, List.length_cons, List.length_nil] at hlt
    generalize o + i = oi at k hlt
    match oi, hlt with
    | 0, _ => simp at k
    | 1, _ => simp at k
    | 2, _ => simp at k
    | 3, _ => simp at k
  have hs := (but_setRow W g cs).block b (block_lt_of_cell k) hne
  simp only [World.cell?, hs]
  exact k
def leadI (k : Int) (L : List It) (key : List Nat) : It × Bool := if k = 2 then (⟨[], [], (L.getD (rout key L) It.zero).child, 0⟩, true) else if hasK key L = true then (L.getD (srch key L) It.zero, true) else (It.zero, false)
def foundI (l r : Pg) (s key : List Nat) : It × Bool := if key < s then leadI l.kind l.items key else leadI r.kind r.items key
theorem rout_lt {key : List Nat} {L : List It} (h : 1 ≤ L.length) : rout key L < L.length := by
  have := upto_le key (L.drop 1)
  unfold rout
  rw [List.length_drop] at this
  omega
set_option maxHeartbeats 16000000 in
set_option maxRecDepth 8000 in
theorem lead_any (w : World) (p : Pv) (ak : Option Addr) (ck : Nat) (key : List Nat) (hP : Pi w p) (hB : Bs w ak key) (h1 : 1 ≤ p.items.length) (hn : p.items.length ≤ 100) :
    Calls Try.prog 25 #[p.vl, .slice ak key.length ck] w fun e w' => ∃ x : Iv, e = .returned (.tuple #[x.vl, .bool (leadI p.pg.kind p.pg.items key).2]) ∧ Ii w' x ∧ x.it = (leadI p.pg.kind p.pg.items key).1 ∧ Below w.heap.size w w' := by
  have SE := hide fun (W : World) (hb : Below w.heap.size w W) => Search_any W p ak ck key (hP.keep hb) (hB.keep hb)
  have RO := hide fun (W : World) (hb : Below w.heap.size w W) => Route_any W p ak ck key (hP.keep hb) (hB.keep hb)
  have JP := hide hP.it
  have LP : Hid (p.pg.items.length = p.items.length) := List.length_map _
  have RL : Hid (rout key p.pg.items < p.items.length) := by
    have := rout_lt (key := key) (L := p.pg.items) (by rw [LP.out]; exact h1)
    rw [LP.out] at this
    exact this
  have SL : Hid (hasK key p.pg.items = true → srch key p.pg.items < p.items.length) := fun h => by
    unfold hasK at h
    simp only [Bool.and_eq_true, decide_eq_true_eq] at h
    rw [← LP.out]
    exact h.1
  have GI := hide fun (i : Nat) => it_getD p.items i
  clear hP hB
  have LE : Hid (leadI p.pg.kind p.pg.items key = if p.kind = 2 then (⟨[], [], (p.items.getD (rout key p.pg.items) Iv.zero).child, 0⟩, true) else if hasK key p.pg.items = true then ((p.items.getD (srch key p.pg.items) Iv.zero).it, true) else (It.zero, false)) := by
    show _ = _
    unfold leadI
    have e1 : (p.pg.items.getD (rout key p.pg.items) It.zero).child = (p.items.getD (rout key p.pg.items) Iv.zero).child := congrArg It.child (GI.out _)
    have e2 : p.pg.items.getD (srch key p.pg.items) It.zero = (p.items.getD (srch key p.pg.items) Iv.zero).it := GI.out _
    rw [e1, e2]
    rfl
  rw [LE.out]
  generalize rout key p.pg.items = ro at *
  generalize srch key p.pg.items = se at *
  generalize hasK key p.pg.items = ha at *
  clear LE GI LP
  obtain ⟨kind, level, aI, cI, L, aD, cD, data, next⟩ := p
  unfold Pv.vl at SE RO ⊢
  simp only [Pv.cs] at SE RO JP RL SL h1 hn ⊢
  obtain ⟨m, hm⟩ : ∃ m, L.length = m := ⟨_, rfl⟩
  have HM := hide hm
  simp only [hm] at SE RO RL SL h1 hn ⊢
  clear hm
  have U := hide (two_blocks w (.cells #[.int .i64 kind, .int .i64 level, .slice aI m cI, .slice aD data.length cD, .int .i64 next] 25) (.cells #[.slice none 0 0, .slice none 0 0, .int .i64 0, .int .i64 0] 40) (Below.refl _ _))
  by_cases hk : kind = 2
  · subst hk
    rw [if_pos rfl]
    have hro := RL.out
    have hroI : (ro : Int) < (m : Int) := by omega
    have d1 : decide ((m : Int) ≤ (ro : Int)) = false := decide_eq_false (by omega)
    have d2 : decide ((ro : Int) < 0) = false := decide_eq_false (by omega)
    have g1 : ro < L.length := by rw [HM.out]; exact hro
    obtain ⟨b1, o1, rfl, r1⟩ := JP.out.at g1
    have RR := hide fun (W : World) (h : Below w.heap.size w W) => range4 (range_below r1 h)
    have NC := hide (JP.out.1 _ (getD_memR g1)).nc
    generalize L.getD ro Iv.zero = v1 at *
    obtain ⟨xK, xcK, xkey, xV, xcV, xval, xch, xsz⟩ := v1
    simp only at RR NC
    clear r1 JP SE SL
    go_enter Try.func25, Try.ntmps25
    go_upto_region 1 with fail
    have X1 := hide U.out.1
    have X2 := hide U.out.2.1
    have B2 := hide U.out.2.2.1
    clear U
    generalize ((w.alloc (.cells #[.int .i64 2, .int .i64 level, .slice (some ⟨b1, o1, none⟩) m cI, .slice aD data.length cD, .int .i64 next] 25)).alloc (.cells #[.slice none 0 0, .slice none 0 0, .int .i64 0, .int .i64 0] 40)) = w2 at *
    obtain ⟨p0, p1, p2, p3, p4⟩ := cells5 X1.out
    go_wp2_with fail
    refine (RO.out _ B2.out).mono ?_
    rintro _ w3 ⟨rfl, hb⟩
    have X13 := hide (blk_keep X1.out hb)
    have X23 := hide (blk_keep X2.out hb)
    have B3 := hide (bt B2.out hb)
    clear hb p0 p1 p2 p3 p4 RO X1 X2 B2
    obtain ⟨p0, p1, p2, p3, p4⟩ := cells5 X13.out
    obtain ⟨r0, r1, r2, r3⟩ := RR.out _ B3.out
    go_wp2_with (first | (refine wpList_store_row rfl 40 _ _ rfl (w.heap.size + 1) _ rfl rfl 40 _ X23.out sizeItem rfl (by simp [Value.oneCell']) ?_) | fail)
    refine bodyPost_ret (v := .tuple #[.agg _, _]) (results_cell_one Try.results25 _ _ (w.heap.size + 1) 40 _ (0, 0) _ rfl (setRow_heap _ _ _ _ _ _ X23.out) Try.underlying40 rfl sizeItem) rfl ?_
    exact ⟨⟨none, 0, [], none, 0, [], xch, 0⟩, rfl, ⟨Bs.nil _, Nat.zero_le _, Bs.nil _, Nat.zero_le _, NC.out, by simp [N64]⟩, rfl, below_row _ B3.out (by omega)⟩
  · have hkb : (kind == 2) = false := by simpa using hk
    rw [if_neg hk]
    clear hk RL
    cases hh : ha with
    | true =>
      have hse := SL.out hh
      rw [hh] at SE
      rw [if_pos rfl]
      clear hh SL RO
      have hseI : (se : Int) < (m : Int) := by omega
      have d1 : decide ((m : Int) ≤ (se : Int)) = false := decide_eq_false (by omega)
      have d2 : decide ((se : Int) < 0) = false := decide_eq_false (by omega)
      have g1 : se < L.length := by rw [HM.out]; exact hse
      obtain ⟨b1, o1, rfl, r1⟩ := JP.out.at g1
      have RR := hide fun (W : World) (h : Below w.heap.size w W) => range4 (range_below r1 h)
      have NC := hide fun (W : World) (h : Below w.heap.size w W) => (JP.out.1 _ (getD_memR g1)).keep h
      generalize L.getD se Iv.zero = v1 at *
      obtain ⟨xK, xcK, xkey, xV, xcV, xval, xch, xsz⟩ := v1
      simp only at RR
      clear r1 JP
      go_enter Try.func25, Try.ntmps25
      go_upto_region 1 with fail
      have X1 := hide U.out.1
      have X2 := hide U.out.2.1
      have B2 := hide U.out.2.2.1
      clear U
      generalize ((w.alloc (.cells #[.int .i64 kind, .int .i64 level, .slice (some ⟨b1, o1, none⟩) m cI, .slice aD data.length cD, .int .i64 next] 25)).alloc (.cells #[.slice none 0 0, .slice none 0 0, .int .i64 0, .int .i64 0] 40)) = w2 at *
      obtain ⟨p0, p1, p2, p3, p4⟩ := cells5 X1.out
      go_wp2_with fail
      refine (SE.out _ B2.out).mono ?_
      rintro _ w3 ⟨rfl, hb⟩
      have X13 := hide (blk_keep X1.out hb)
      have X23 := hide (blk_keep X2.out hb)
      have B3 := hide (bt B2.out hb)
      clear hb p0 p1 p2 p3 p4 SE X1 X2 B2
      obtain ⟨p0, p1, p2, p3, p4⟩ := cells5 X13.out
      obtain ⟨r0, r1, r2, r3⟩ := RR.out _ B3.out
      go_wp2_with (first | (refine wpList_store_row rfl 40 _ _ rfl (w.heap.size + 1) _ rfl rfl 40 _ X23.out sizeItem rfl (by simp [Value.oneCell']) ?_) | fail)
      refine bodyPost_ret (v := .tuple #[.agg _, _]) (results_cell_one Try.results25 _ _ (w.heap.size + 1) 40 _ (0, 0) _ rfl (setRow_heap _ _ _ _ _ _ X23.out) Try.underlying40 rfl sizeItem) rfl ?_
      have hb := below_row (W := w3) (g := w.heap.size + 1) #[.slice xK xkey.length xcK, .slice xV xval.length xcV, .int .i64 xch, .int .i64 xsz] B3.out (by omega)
      exact ⟨⟨xK, xcK, xkey, xV, xcV, xval, xch, xsz⟩, rfl, NC.out _ hb, rfl, hb⟩
    | false =>
      rw [hh] at SE
      rw [if_neg (by decide)]
      clear hh SL RO JP
      go_enter Try.func25, Try.ntmps25
      go_upto_region 1 with fail
      have X1 := hide U.out.1
      have X2 := hide U.out.2.1
      have B2 := hide U.out.2.2.1
      clear U
      generalize ((w.alloc (.cells #[.int .i64 kind, .int .i64 level, .slice aI m cI, .slice aD data.length cD, .int .i64 next] 25)).alloc (.cells #[.slice none 0 0, .slice none 0 0, .int .i64 0, .int .i64 0] 40)) = w2 at *
      obtain ⟨p0, p1, p2, p3, p4⟩ := cells5 X1.out
      go_wp2_with fail
      refine (SE.out _ B2.out).mono ?_
      rintro _ w3 ⟨rfl, hb⟩
      have X23 := hide (blk_keep X2.out hb)
      have B3 := hide (bt B2.out hb)
      clear hb p0 p1 p2 p3 p4 SE X1 X2 B2
      go_wp2_with (first | (refine wpList_store_row rfl 40 _ _ rfl (w.heap.size + 1) _ rfl rfl 40 _ X23.out sizeItem rfl (by simp [Value.oneCell']) ?_) | fail)
      refine bodyPost_ret (v := .tuple #[.agg _, _]) (results_cell_one Try.results25 _ _ (w.heap.size + 1) 40 _ (0, 0) _ rfl (setRow_heap _ _ _ _ _ _ X23.out) Try.underlying40 rfl sizeItem) rfl ?_
      exact ⟨Iv.zero, rfl, ⟨Bs.nil _, Nat.zero_le _, Bs.nil _, Nat.zero_le _, by simp [N64, Iv.zero], by simp [N64, Iv.zero]⟩, rfl, below_row _ B3.out (by omega)⟩
set_option maxHeartbeats 16000000 in
set_option maxRecDepth 8000 in
theorem found_any (w : World) (l r : Pv) (aS ak : Option Addr) (cS ck : Nat) (s key : List Nat) (hl : Pi w l) (hr : Pi w r) (hS : Bs w aS s) (hB : Bs w ak key) (l1 : 1 ≤ l.items.length) (l2 : l.items.length ≤ 100) (r1 : 1 ≤ r.items.length) (r2 : r.items.length ≤ 100) :
    Calls Try.prog 22 #[l.vl, r.vl, .slice aS s.length cS, .slice ak key.length ck] w fun e w' => ∃ x : Iv, e = .returned (.tuple #[x.vl, .bool (foundI l.pg r.pg s key).2]) ∧ Ii w' x ∧ x.it = (foundI l.pg r.pg s key).1 ∧ Below w.heap.size w w' := by
  have CC := hide fun (W : World) (hb : Below w.heap.size w W) => Compare_any W ak aS key.length s.length ck cS key s (hB.keep hb) (hS.keep hb) rfl rfl
  have LL := hide fun (W : World) (hb : Below w.heap.size w W) => lead_any W l ak ck key (hl.keep hb) (hB.keep hb) l1 l2
  have LR := hide fun (W : World) (hb : Below w.heap.size w W) => lead_any W r ak ck key (hr.keep hb) (hB.keep hb) r1 r2
  unfold Pv.vl at LL LR ⊢
  simp only [Pv.cs] at LL LR ⊢
  unfold foundI
  clear hl hr hS hB l1 l2 r1 r2
  generalize leadI l.pg.kind l.pg.items key = F1 at *
  generalize leadI r.pg.kind r.pg.items key = F2 at *
  have U := hide (four_blocks w (.cells #[.int .i64 l.kind, .int .i64 l.level, .slice l.aI l.items.length l.cI, .slice l.aD l.data.length l.cD, .int .i64 l.next] 25) (.cells #[.int .i64 r.kind, .int .i64 r.level, .slice r.aI r.items.length r.cI, .slice r.aD r.data.length r.cD, .int .i64 r.next] 25) (.cells #[.slice none 0 0, .slice none 0 0, .int .i64 0, .int .i64 0] 40) (.cells #[.int .i64 r.kind, .int .i64 r.level, .slice r.aI r.items.length r.cI, .slice r.aD r.data.length r.cD, .int .i64 r.next] 25))
  by_cases hlt : key < s
  · rw [if_pos hlt]
    obtain ⟨z, hz, hzf⟩ : ∃ z, cmpB key s = z ∧ decide (z < 0) = true := ⟨_, rfl, decide_eq_true (cmpB_neg.2 hlt)⟩
    rw [hz] at CC
    clear hlt hz LR
    go_enter Try.func22, Try.ntmps22
    go_upto_region 2 with fail
    have X1 := hide U.out.1
    have X2 := hide U.out.2.1
    have X3 := hide U.out.2.2.1
    have X4 := hide U.out.2.2.2.1
    have B4 := hide U.out.2.2.2.2
    clear U
    generalize ((((w.alloc (.cells #[.int .i64 l.kind, .int .i64 l.level, .slice l.aI l.items.length l.cI, .slice l.aD l.data.length l.cD, .int .i64 l.next] 25)).alloc (.cells #[.int .i64 r.kind, .int .i64 r.level, .slice r.aI r.items.length r.cI, .slice r.aD r.data.length r.cD, .int .i64 r.next] 25)).alloc (.cells #[.slice none 0 0, .slice none 0 0, .int .i64 0, .int .i64 0] 40)).alloc (.cells #[.int .i64 r.kind, .int .i64 r.level, .slice r.aI r.items.length r.cI, .slice r.aD r.data.length r.cD, .int .i64 r.next] 25)) = w4 at *
    go_wp2_with fail
    refine (CC.out _ B4.out).mono ?_
    rintro _ w5 ⟨rfl, hb⟩
    have hb5 := hb
    obtain ⟨p0, p1, p2, p3, p4⟩ := cells5 (blk_keep X1.out hb)
    have X45 := hide (blk_keep X4.out hb)
    have X35 := hide (blk_keep X3.out hb)
    have B5 := hide (bt B4.out hb)
    clear hb hb5 CC X1 X2 X3 X4 B4
    have hz4 : w.heap.size + 3 < w5.heap.size := (Array.getElem?_eq_some_iff.1 X45.out).1
    go_upto_region 4 with (first | (refine wpList_store_row rfl 25 _ _ rfl (w.heap.size + 3) _ rfl rfl 25 _ X45.out sizePage rfl (by simp [Value.oneCell']) ?_) | fail)
    have X46 := hide (setRow_heap w5 (w.heap.size + 3) _ #[.int .i64 l.kind, .int .i64 l.level, .slice l.aI l.items.length l.cI, .slice l.aD l.data.length l.cD, .int .i64 l.next] _ _ X45.out)
    have X36 := hide (row_far (W := w5) (g := w.heap.size + 3) #[.int .i64 l.kind, .int .i64 l.level, .slice l.aI l.items.length l.cI, .slice l.aD l.data.length l.cD, .int .i64 l.next] X35.out (by omega))
    have B6 := hide (below_row (W := w5) (g := w.heap.size + 3) #[.int .i64 l.kind, .int .i64 l.level, .slice l.aI l.items.length l.cI, .slice l.aD l.data.length l.cD, .int .i64 l.next] B5.out (by omega))
    clear p0 p1 p2 p3 p4 X45 X35 B5
    generalize w5.setRow (w.heap.size + 3) #[.int .i64 l.kind, .int .i64 l.level, .slice l.aI l.items.length l.cI, .slice l.aD l.data.length l.cD, .int .i64 l.next] = w6 at *
    obtain ⟨p0, p1, p2, p3, p4⟩ := cells5 X46.out
    go_wp2_with fail
    refine (LL.out _ B6.out).mono ?_
    rintro _ w7 ⟨x, rfl, hx, ex, hb⟩
    have IX := hide hx
    have EX := hide ex
    have X37 := hide (blk_keep X36.out hb)
    have B7 := hide (bt B6.out hb)
    have hz7 : w.heap.size + 3 < w7.heap.size := (Array.getElem?_eq_some_iff.1 (blk_keep X46.out hb)).1
    clear hx ex hb LL p0 p1 p2 p3 p4 X46 X36 B6
    unfold Iv.vl
    simp only [Iv.cs]
    go_wp2_with (first | (refine wpList_store_row rfl 40 _ _ rfl (w.heap.size + 2) _ rfl rfl 40 _ X37.out sizeItem rfl (by simp [Value.oneCell']) ?_) | fail)
    refine bodyPost_ret (v := .tuple #[.agg _, _]) (results_cell_one Try.results22 _ _ (w.heap.size + 2) 40 _ (0, 0) _ rfl (setRow_heap _ _ _ _ _ _ X37.out) Try.underlying40 rfl sizeItem) rfl ?_
    have hB := but_setRow w7 (w.heap.size + 2) #[.slice x.aK x.key.length x.cK, .slice x.aV x.val.length x.cV, .int .i64 x.child, .int .i64 x.size]
    have hX : Bx w7 40 (w.heap.size + 2) _ := X37.out
    have bw := below_row (W := w7) (g := w.heap.size + 2) #[.slice x.aK x.key.length x.cK, .slice x.aV x.val.length x.cV, .int .i64 x.child, .int .i64 x.size] B7.out (by omega)
    refine ⟨x, rfl, ⟨Bs.ntb IX.out.bk hX (by decide) _, IX.out.ck, Bs.ntb IX.out.bv hX (by decide) _, IX.out.cv, IX.out.nc, IX.out.ns⟩, EX.out, bw⟩
  · rw [if_neg hlt]
    obtain ⟨z, hz, hzf⟩ : ∃ z, cmpB key s = z ∧ decide (z < 0) = false := ⟨_, rfl, decide_eq_false (fun h => hlt (cmpB_neg.1 h))⟩
    rw [hz] at CC
    clear hlt hz LL
    go_enter Try.func22, Try.ntmps22
    go_upto_region 2 with fail
    have X1 := hide U.out.1
    have X2 := hide U.out.2.1
    have X3 := hide U.out.2.2.1
    have X4 := hide U.out.2.2.2.1
    have B4 := hide U.out.2.2.2.2
    clear U
    generalize ((((w.alloc (.cells #[.int .i64 l.kind, .int .i64 l.level, .slice l.aI l.items.length l.cI, .slice l.aD l.data.length l.cD, .int .i64 l.next] 25)).alloc (.cells #[.int .i64 r.kind, .int .i64 r.level, .slice r.aI r.items.length r.cI, .slice r.aD r.data.length r.cD, .int .i64 r.next] 25)).alloc (.cells #[.slice none 0 0, .slice none 0 0, .int .i64 0, .int .i64 0] 40)).alloc (.cells #[.int .i64 r.kind, .int .i64 r.level, .slice r.aI r.items.length r.cI, .slice r.aD r.data.length r.cD, .int .i64 r.next] 25)) = w4 at *
    go_wp2_with fail
    refine (CC.out _ B4.out).mono ?_
    rintro _ w5 ⟨rfl, hb⟩
    have X46 := hide (blk_keep X4.out hb)
    have X36 := hide (blk_keep X3.out hb)
    have B6 := hide (bt B4.out hb)
    clear hb CC X1 X2 X3 X4 B4
    obtain ⟨p0, p1, p2, p3, p4⟩ := cells5 X46.out
    go_wp2_with fail
    refine (LR.out _ B6.out).mono ?_
    rintro _ w7 ⟨x, rfl, hx, ex, hb⟩
    have IX := hide hx
    have EX := hide ex
    have X37 := hide (blk_keep X36.out hb)
    have B7 := hide (bt B6.out hb)
    have hz7 : w.heap.size + 3 < w7.heap.size := (Array.getElem?_eq_some_iff.1 (blk_keep X46.out hb)).1
    clear hx ex hb LR p0 p1 p2 p3 p4 X46 X36 B6
    unfold Iv.vl
    simp only [Iv.cs]
    go_wp2_with (first | (refine wpList_store_row rfl 40 _ _ rfl (w.heap.size + 2) _ rfl rfl 40 _ X37.out sizeItem rfl (by simp [Value.oneCell']) ?_) | fail)
    refine bodyPost_ret (v := .tuple #[.agg _, _]) (results_cell_one Try.results22 _ _ (w.heap.size + 2) 40 _ (0, 0) _ rfl (setRow_heap _ _ _ _ _ _ X37.out) Try.underlying40 rfl sizeItem) rfl ?_
    have hB := but_setRow w7 (w.heap.size + 2) #[.slice x.aK x.key.length x.cK, .slice x.aV x.val.length x.cV, .int .i64 x.child, .int .i64 x.size]
    have hX : Bx w7 40 (w.heap.size + 2) _ := X37.out
    have bw := below_row (W := w7) (g := w.heap.size + 2) #[.slice x.aK x.key.length x.cK, .slice x.aV x.val.length x.cV, .int .i64 x.child, .int .i64 x.size] B7.out (by omega)
    refine ⟨x, rfl, ⟨Bs.ntb IX.out.bk hX (by decide) _, IX.out.ck, Bs.ntb IX.out.bv hX (by decide) _, IX.out.cv, IX.out.nc, IX.out.ns⟩, EX.out, bw⟩
end Go.Proofs.Ytmfelkncomfipaa
