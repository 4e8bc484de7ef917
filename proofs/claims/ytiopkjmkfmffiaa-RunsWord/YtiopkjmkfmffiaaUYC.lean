import Derived.Test.YtiopkjmkfmffiaaUYF
namespace Go.Proofs.Ytiopkjmkfmffiaa
set_option linter.unusedVariables false
open Go.RowKit

/-! ### the document's Same, Copy -/
theorem run_neqR (p q p' q' : Int) (w : World) : (binOp .neq 86 (.agg #[.int .i64 p, .int .i64 q]) (.agg #[.int .i64 p', .int .i64 q'])).run Try.prog w = .ok (.bool (!(decide (p = p') && decide (q = q')))) w := by
  have hS : Try.prog.underlying 86 = some (.struct (Try.prog.fieldsOf 86)) := by kernel_rfl
  have hp : Try.prog.stoodInHeld 86 = false := by kernel_rfl
  rw [run_neq_struct, show (10000 : Nat) = 9999 + 1 from rfl, run_equalIn_agg w 9999 86 _ _ hS hp]
  simp only [Program.fieldsOf, Try.underlying86]
  go_simp
  by_cases h1 : p = p' <;> by_cases h2 : q = q' <;> simp [h1, h2]
set_option maxHeartbeats 2000000 in
set_option maxRecDepth 10000 in
theorem rSame_any (w : World) (b b' : Nat) (a a' : Option Addr) (cap cap' : Nat) (L M : List Rn) (hS : Rt w b a cap L) (hT : Rt w b' a' cap' M) :
    Calls Try.prog 27 #[.pointer (some ⟨b, 0, none⟩), .pointer (some ⟨b', 0, none⟩)] w fun e w' => e = .returned (.bool (decide (L = M))) ∧ Below w.heap.size w w' := by
  have c1 := hS.cell
  have c2 := hT.cell
  have hL := hS.row.vs
  have hM := hT.row.vs
  have l1 := hS.len
  have l2 := hT.len
  clear hS hT
  by_cases hl : L.length = M.length
  · obtain ⟨n, hn⟩ : ∃ n : Nat, n = L.length := ⟨_, rfl⟩
    have hn2 : n = M.length := by omega
    have N1 := hide hn
    have N2 := hide hn2
    obtain ⟨ans, hans⟩ : ∃ ans, decide (L = M) = ans := ⟨_, rfl⟩
    rw [hans]
    have AN := hide hans
    rw [← hn] at c1 l1
    rw [← hn2] at c2
    clear hn hn2 hl hans l2
    go_enter Try.func27, Try.ntmps27
    go_wp2
    go_quiet (fail)
    go_wp2
    go_loopw [5] (fun i wx => ∃ k : Nat, k ≤ n ∧ i = .int .i64 k ∧ L.take k = M.take k ∧ Below w.heap.size w wx) (fun i _ => n - (intOf i).toNat)
    case atStart => exact ⟨0, Nat.zero_le _, rfl, by simp, drews _ _⟩
    case round =>
      obtain ⟨k, hk, rfl, ht, hb⟩ := hrel
      have e1 : wr.cell? ⟨b, 0, none⟩ = some (.slice a n cap) := (hb.cell (p := ⟨b, 0, none⟩) (block_lt_of_cell c1)).trans c1
      have e2 : wr.cell? ⟨b', 0, none⟩ = some (.slice a' n cap') := (hb.cell (p := ⟨b', 0, none⟩) (block_lt_of_cell c2)).trans c2
      by_cases hlt : k < n
      · obtain ⟨b1, o1, rfl, d1, d2⟩ := (hL.keep hb).at (show k < L.length by rw [← N1.out]; exact hlt)
        obtain ⟨b2, o2, rfl, d3, d4⟩ := (hM.keep hb).at (show k < M.length by rw [← N2.out]; exact hlt)
        have x1 : (k : Int) < (n : Int) := by omega
        have tl := take_next L Rn.zero (show k < L.length by rw [← N1.out]; exact hlt)
        have tm := take_next M Rn.zero (show k < M.length by rw [← N2.out]; exact hlt)
        generalize L.getD k Rn.zero = r at *
        generalize M.getD k Rn.zero = s at *
        have TL := hide tl
        have TM := hide tm
        have HT := hide ht
        clear tl tm ht
        have hq := run_neqR
        have hgd : Try.prog.eqGuardType Try.prog.depth 86 = false := by kernel_rfl
        obtain ⟨p, q⟩ := r
        obtain ⟨p', q'⟩ := s
        by_cases e : p = p' ∧ q = q'
        · obtain ⟨rfl, rfl⟩ := e
          go_wp2
          go_quiet (fail)
          go_wp2
          go_roundw
          case rel => exact ⟨k + 1, by omega, by simp, by rw [TL.out, TM.out, HT.out], bt hb (drews _ _)⟩
          case measure => simp [intOf]; omega
        · have hne : ¬ L = M := fun h => e (by
            subst h
            have := List.append_cancel_left (TL.out.symm.trans TM.out)
            simpa using this)
          have ea : ans = false := by rw [← AN.out]; exact decide_eq_false hne
          have hd : (decide (p = p') && decide (q = q')) = false := by
            rw [Bool.and_eq_false_iff, decide_eq_false_iff_not, decide_eq_false_iff_not]
            omega
          subst ea
          go_wp2
          go_quiet (fail)
          go_wp2
          go_ret
          exact ⟨rfl, bt hb (drews _ _)⟩
      · obtain rfl : k = n := by omega
        have HT := hide ht
        clear ht
        go_wp2
        go_ret
        have : L = M := by
          have h1 := HT.out
          rwa [N1.out, List.take_length, ← N1.out, N2.out, List.take_length] at h1
        rw [← AN.out, decide_eq_true this]
        exact ⟨rfl, hb⟩
  · have hd : decide (L = M) = false := decide_eq_false (fun e => hl (by rw [e]))
    rw [hd]
    generalize L.length = n at *
    generalize M.length = m at *
    clear hd hL hM
    go_enter Try.func27, Try.ntmps27
    go_wp2
    go_quiet (fail)
    go_wp2
    go_ret
    exact ⟨rfl, drews _ _⟩
/-- a new set of the document's, under way -/
structure Rnw (w wx : World) (bo : Nat) (a : Option Addr) (c : Nat) (P : List Rn) : Prop where
  blk : wx.heap[bo]? = some (.cells #[.slice a P.length c] 38 (0, 0))
  row : Rf.Vw wx a c P
  nb : w.heap.size ≤ bo
  na : ∀ x, a = some x → w.heap.size ≤ x.block
  b : Below w.heap.size w wx
theorem Rnw.keep {w wx wy : World} {bo : Nat} {a : Option Addr} {c : Nat} {P : List Rn} (h : Rnw w wx bo a c P) (hb : Below wx.heap.size wx wy) : Rnw w wy bo a c P :=
  ⟨(hb.block bo (Array.getElem?_eq_some_iff.1 h.blk).1).trans h.blk, h.row.keep hb, h.nb, h.na, bt h.b hb⟩
theorem Rnw.ne {w wx : World} {bo : Nat} {a : Option Addr} {c : Nat} {P : List Rn} (h : Rnw w wx bo a c P) {x : Addr} (hx : a = some x) : x.block ≠ bo := by
  rcases h.row.cases with ⟨rfl, _⟩ | ⟨g, Y, rfl, hg, _⟩
  · cases hx
  · cases hx
    intro e
    have h1 := h.blk
    rw [← show g = bo from e, show wx.heap[g]? = _ from hg] at h1
    simp at h1
theorem Rnw.cell {w wx : World} {bo : Nat} {a : Option Addr} {c : Nat} {P : List Rn} (h : Rnw w wx bo a c P) : wx.cell? ⟨bo, 0, none⟩ = some (.slice a P.length c) := cell_of_one h.blk
theorem Rnw.grow {w W w2 : World} {bo : Nat} {a : Option Addr} {c n g cap' : Nat} {P : List Rn} {r : Rn} (h : Rnw w W bo a c P) (hn : n = P.length) (v1 : Rf.Vw w2 (some ⟨g, 0, none⟩) cap' (P ++ [r])) (v2 : New W a (some ⟨g, 0, none⟩)) (v3 : W.grownBy w2 (a.map Addr.block)) :
    w2.cell? ⟨bo, 0, none⟩ = some (.slice a n c) ∧ w2.frozen? ⟨bo, 0, none⟩ = false ∧ Rnw w (w2.setCell ⟨bo, 0, none⟩ (.slice (some ⟨g, 0, none⟩) (n + 1) cap')) bo (some ⟨g, 0, none⟩) cap' (P ++ [r]) := by
  have hb := But.inA v3
  have nI : ¬ InA a bo := fun ⟨x, hx, e⟩ => h.ne hx e
  have h2 : w2.heap[bo]? = some (.cells #[.slice a P.length c] 38 (0, 0)) := hb.same h.blk nI
  subst hn
  have hB : But (fun k => k = bo) w2 (w2.setCell ⟨bo, 0, none⟩ (.slice (some ⟨g, 0, none⟩) (P.length + 1) cap')) := (But.refl (fun k => k = bo) w2).setCell (p := ⟨bo, 0, none⟩) (fun _ => rfl) _
  have gb : g ≠ bo := fun e => by
    rcases v1.cases with ⟨h0, _⟩ | ⟨g', Y, h0, hg, _⟩
    · cases h0
    · cases h0
      subst e
      have := h2
      rw [show w2.heap[g]? = _ from hg] at this
      simp at this
  have gn : w.heap.size ≤ g := by
    rcases v2 _ rfl with ⟨y, hy, e⟩ | h3
    · have e' : y.block = g := e
      have := h.na y hy
      omega
    · exact Nat.le_trans h.b.size h3
  refine ⟨cell_of_one h2, free_of_one h2, ⟨?_, v1.but hB (fun x hx e => by cases hx; exact gb e), h.nb, fun x hx => by cases hx; exact gn, ?_⟩⟩
  · have := one_setCell (u := .slice (some ⟨g, 0, none⟩) (P.length + 1) cap') h2
    rw [List.length_append]
    exact this
  · refine (((But.ofBelow (S := fun _ => False) h.b).trans hb (fun k hk ⟨x, hx, e⟩ => ?_)).trans hB (fun k hk e => ?_)).below (fun _ _ h => h)
    · have := h.na x hx
      omega
    · have := h.nb
      omega
set_option maxHeartbeats 4000000 in
set_option maxRecDepth 20000 in
theorem rCopy_any (w : World) (b : Nat) (a : Option Addr) (cap : Nat) (L : List Rn) (hS : Rt w b a cap L) :
    Calls Try.prog 21 #[.pointer (some ⟨b, 0, none⟩)] w fun e w' => ∃ b' a' cap', e = .returned (.pointer (some ⟨b', 0, none⟩)) ∧ Rt w' b' a' cap' L ∧ w.heap.size ≤ b' ∧ (∀ x, a' = some x → w.heap.size ≤ x.block) ∧ Below w.heap.size w w' := by
  have hc := hS.cell
  have hl := hS.len
  have HS := hide hS
  have hbl := hS.lt
  obtain ⟨n, hn⟩ : ∃ n : Nat, n = L.length := ⟨_, rfl⟩
  have NL := hide hn
  rw [← hn] at hc hl
  clear hS hn
  have R0 := hide (show Rnw w (w.alloc (.cells #[.slice none 0 0] 38)) w.heap.size none 0 [] from ⟨World.alloc_heap_new w _, Rf.Vw.nil _, Nat.le_refl _, fun x hx => by (cases hx), al _ _⟩)
  go_enter Try.func21, Try.ntmps21
  go_wp2
  go_loopw [4] (fun i wx => ∃ (k : Nat) (a1 : Option Addr) (c1 : Nat), k ≤ n ∧ i = .int .i64 k ∧ Rnw w wx w.heap.size a1 c1 (L.take k)) (fun i _ => n - (intOf i).toNat)
  case atStart => exact ⟨0, none, 0, Nat.zero_le _, rfl, R0.out⟩
  case round =>
    obtain ⟨k, a1, c1, hk, rfl, hR⟩ := hrel
    clear R0
    have lk : k = (L.take k).length := by rw [List.length_take, ← NL.out]; omega
    have LK := hide lk
    have hc1 : wr.cell? ⟨b, 0, none⟩ = some (.slice a n cap) := (hR.b.cell (p := ⟨b, 0, none⟩) (block_lt_of_cell hc)).trans hc
    have hc2 := hR.cell
    rw [← lk] at hc2
    by_cases hlt : k < n
    · have hkL : k < L.length := by rw [← NL.out]; exact hlt
      obtain ⟨b1, o1, rfl, d1, d2⟩ := (HS.out.row.vs.keep hR.b).at hkL
      have TK := hide (take_next L Rn.zero hkL)
      generalize L.getD k Rn.zero = r at *
      have aw := al wr (.cells #[.int .i64 r.1, .int .i64 r.2] 86)
      have hc3 := (aw.cell (p := ⟨w.heap.size, 0, none⟩) (block_lt_of_cell hc2)).trans hc2
      have R1 := hide ((hR.keep aw).keep (show Below _ _ ((wr.alloc (.cells #[.int .i64 r.1, .int .i64 r.2] 86)).drew) from ⟨rfl, rfl, rfl, Nat.le_refl _, fun _ _ => rfl⟩))
      have vn := hide (show Rf.Vs ((wr.alloc (.cells #[.int .i64 r.1, .int .i64 r.2] 86)).drew) (some ⟨wr.heap.size, 0, none⟩) [r] from Rf.vs_new1 wr r)
      clear hR aw lk
      go_wp2
      go_region_law (first | (refine Rf.step_apR rfl _ _ rfl a1 k c1 (L.take k) (by simp [Act.eval]) LK.out R1.out.row _ 1 1 [r] (by simp [Act.eval]) rfl vn.out (by simp) (by rw [← LK.out]; simp; omega) ?_; intro g1 d1' w1 q1 q2 q3; obtain ⟨z1, z2, z3⟩ := R1.out.grow LK.out q1 q2 q3; have R2 := hide z3; clear q1 q2 q3 z3))
      all_goals
        go_wp2
        go_roundw
        (case rel => exact ⟨k + 1, _, _, by omega, by simp, by rw [TK.out]; exact R2.out⟩)
        (case measure => simp [intOf]; omega)
    · obtain rfl : k = n := by omega
      have e1 : L.take k = L := by rw [NL.out, List.take_length]
      rw [e1] at hR
      have HR := hide hR
      clear hR e1 lk
      go_wp2
      go_ret
      exact ⟨_, a1, c1, rfl, ⟨HR.out.blk, HR.out.row, HS.out.can, HS.out.bnd, HS.out.len⟩, HR.out.nb, HR.out.na, HR.out.b⟩
end Go.Proofs.Ytiopkjmkfmffiaa
