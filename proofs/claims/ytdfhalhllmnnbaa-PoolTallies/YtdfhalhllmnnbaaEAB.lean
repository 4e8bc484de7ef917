import Derived.Test.YtdfhalhllmnnbaaEY
namespace Go.Proofs.Ytdfhalhllmnnbaa
set_option linter.unusedVariables false
open Go.RowKit

/-! ### what the document's pool tells -/
theorem start_pg (r : Int) (C : List Int) : (Po.start r C).pg = pgOf C := rfl
theorem start_len (r : Int) (C : List Int) : (Po.start r C).pg.length = C.length := pgOf_length C
theorem start_counts (r : Int) (C : List Int) : (Po.start r C).counts = C := by
  show (C.map _).map Prod.fst = C
  rw [List.map_map]
  exact List.map_id' C
theorem pgOf_get (C : List Int) {i : Nat} (h : i < C.length) : (pgOf C).getD i Pg.zero = (C.getD i 0, decide (0 < C.getD i 0)) := by
  unfold pgOf; simp [h]
theorem lasOf_get (C : List Int) {i : Nat} (h : i < C.length) : (lasOf C).getD i false = decide (0 < C.getD i 0) := by
  unfold lasOf; simp [h]
set_option maxHeartbeats 1000000 in
theorem yLen_any (w : World) (q : Nat) (r : Int) (C : List Int) (B : List Bool) (cb lb : Nat) (h : Rp w q r C B cb lb) : Calls Try.prog 33 #[.pointer (some ⟨q, 0, none⟩)] w fun e w' => e = .returned (.int .i64 ((C.length : Nat) : Int)) ∧ w' = w := by
  obtain ⟨c0, c1, c2, c3, c4⟩ := h.cell
  clear h
  generalize C.length = n at *
  go_enter Try.func33, Try.ntmps33
  go_wp2
  go_ret
  exact ⟨rfl, rfl⟩
set_option maxHeartbeats 1000000 in
theorem yRefs_any (w : World) (q : Nat) (r : Int) (C : List Int) (B : List Bool) (cb lb : Nat) (h : Rp w q r C B cb lb) : Calls Try.prog 34 #[.pointer (some ⟨q, 0, none⟩)] w fun e w' => e = .returned (.int .i64 r) ∧ w' = w := by
  obtain ⟨c0, c1, c2, c3, c4⟩ := h.cell
  clear h
  go_enter Try.func34, Try.ntmps34
  go_wp2
  go_ret
  exact ⟨rfl, rfl⟩
set_option maxHeartbeats 1000000 in
theorem yMark_any (w : World) (q : Nat) (r : Int) (C : List Int) (B : List Bool) (cb lb : Nat) (h : Rp w q r C B cb lb) : Calls Try.prog 35 #[.pointer (some ⟨q, 0, none⟩)] w fun e w' => e = .returned (.int .i64 0) ∧ w' = w := by
  obtain ⟨c0, c1, c2, c3, c4⟩ := h.cell
  clear h
  go_enter Try.func35, Try.ntmps35
  go_wp2
  go_ret
  exact ⟨rfl, rfl⟩
theorem make_int0 (n : Nat) (hc : n ≤ 65536) (w : World) : (Instr.makeSlice 22 (.int .i64 0) (.int .i64 (n : Int))).run Try.prog w = .ok (.slice (some ⟨w.heap.size, 0, none⟩) 0 n) (w.alloc (.cells (vi (List.replicate n 0)).toArray 3)) := by
  obtain ⟨i0, hi, hz0, hz1, hz2⟩ := info_parts infoI64
  have hr := run_make (P := Try.prog) w 22 3 i0 (.int .i64 0) Try.underlying22 hi hz0 .i64 .i64 (0 : Nat) n (by omega) (by omega) (by rw [hz2]; omega) (by omega)
  simp only [Int.toNat_natCast, hz1, Nat.mul_one] at hr
  have e : madeCells (Value.int .i64 0).cells n = (vi (List.replicate n 0)).toArray := made_ints n
  rw [e] at hr
  exact hr
set_option maxHeartbeats 2000000 in
theorem CopyInts_any (w : World) (a : Option Addr) (n cap : Nat) (l : List Int) (hI : Ir w a l) (hn : n = l.length) (hl : l.length ≤ 65536) :
    Calls Try.prog 50 #[.slice a n cap] w fun e w' => ∃ a' c', e = .returned (.slice a' n c') ∧ IOwn w w' a' c' l := by
  have HI := hide hI
  have HN := hide hn
  rw [← hn] at hl
  have hmk := make_int0 n hl w
  have O0 := hide (show IOwn w (w.alloc (.cells (vi (List.replicate n 0)).toArray 3)) (some ⟨w.heap.size, 0, none⟩) n (l.take 0) from ⟨Ig.mk (World.alloc_heap_new w _) (by simp) (by unfold maxLen; omega) (by simp [vi]) (by simp [vi]), fun x hx => .inr (by cases hx; exact Nat.le_refl _), al _ _⟩)
  clear hI hn
  go_enter Try.func50, Try.ntmps50
  go_wp2_with fail
  go_loopw [3, 4] (fun s i wr => ∃ (j : Nat) (a' : Option Addr) (c' : Nat), j ≤ n ∧ i = .int .i64 (j : Int) ∧ s = .slice a' j c' ∧ IOwn w wr a' c' (l.take j)) (fun _ i _ => n - (intOf i).toNat)
  case atStart => exact ⟨0, _, n, Nat.zero_le _, rfl, rfl, O0.out⟩
  case round =>
    clear O0
    obtain ⟨j, a', c', hj, rfl, rfl, hO⟩ := hrel
    have O := hide hO
    clear hO
    by_cases hlt : j < n
    · have hjl : j < l.length := by rw [← HN.out]; exact hlt
      have hji : (j : Int) < (n : Int) := by omega
      obtain ⟨b1, o1, rfl, cA⟩ := (HI.out.keep O.out.b).at hjl
      have tl : (l.take j).length = j := by rw [List.length_take, ← HN.out]; omega
      have SN := hide (take_next l 0 hjl)
      obtain ⟨x, hx⟩ : ∃ x, l.getD j 0 = x := ⟨_, rfl⟩
      rw [hx] at cA SN
      have aw := al wr (.cells #[.int .i64 x] 3)
      have nc := cell_alloc_new wr (.int .i64 x) 3
      have O1 := hide (O.out.keep aw)
      have R1 := hide O1.out.r
      have HAW := hide aw
      clear hx aw
      go_wp2_with (refine wpList_apI rfl _ _ rfl a' j c' (l.take j) (by simp [Act.eval]) tl.symm R1.out ⟨wr.heap.size, 0, none⟩ 1 x (by simp [Act.eval]) nc (by rw [tl]; omega) ?_; intro g c2 w2 hR hN hg hgl; have O2 := hide (O.out.step HAW.out hR hN hg); clear hR hN hg hgl)
      go_roundw
      case rel => exact ⟨j + 1, _, c2, by omega, by go_num, rfl, by rw [SN.out]; exact O2.out⟩
      case measure => simp [intOf]; omega
    · obtain rfl : j = n := by omega
      go_wp2
      go_ret
      exact ⟨a', c', rfl, by have o := O.out; rwa [HN.out, List.take_length] at o⟩
theorem Rp.ir {w : World} {q : Nat} {r : Int} {C : List Int} {B : List Bool} {cb lb : Nat} (h : Rp w q r C B cb lb) : Ir w (some ⟨cb, 0, none⟩) C := .inr ⟨cb, 0, rfl, fun i hi => by rw [Nat.zero_add]; exact (h.cAt hi).1⟩
set_option maxHeartbeats 1000000 in
theorem yCounts_any (w : World) (q : Nat) (r : Int) (C : List Int) (B : List Bool) (cb lb : Nat) (h : Rp w q r C B cb lb) (hl : C.length ≤ 65536) : Calls Try.prog 36 #[.pointer (some ⟨q, 0, none⟩)] w fun e w' => ∃ a' c', e = .returned (.slice a' C.length c') ∧ IOwn w w' a' c' C := by
  obtain ⟨c0, c1, c2, c3, c4⟩ := h.cell
  have CP := hide (CopyInts_any w (some ⟨cb, 0, none⟩) C.length C.length C h.ir rfl hl)
  clear h hl
  generalize C.length = n at *
  go_enter Try.func36, Try.ntmps36
  go_wp2_with fail
  refine CP.out.mono ?_
  rintro _ w1 ⟨a', c', rfl, hO⟩
  have O := hide hO
  clear hO
  go_wp2
  go_ret
  exact ⟨a', c', rfl, O.out⟩
set_option maxHeartbeats 2000000 in
theorem yState_any (w : World) (q : Nat) (r : Int) (C : List Int) (cb lb : Nat) (h : Rp w q r C (lasOf C) cb lb) (hl : C.length ≤ 65536) (z : Int) : Calls Try.prog 51 #[.pointer (some ⟨q, 0, none⟩), .int .i64 z] w fun e w' => e = .returned (.int .i64 (((Po.start r C).state z : Nat) : Int)) ∧ w' = w := by
  obtain ⟨c0, c1, c2, c3, c4⟩ := h.cell
  by_cases h1 : z < 1
  · have d1 : decide (z < 1) = true := decide_eq_true h1
    have e : (Po.start r C).state z = 0 := by
      unfold Po.state
      rw [if_neg (fun h => by have := (Po.has_iff.1 h).1; omega)]
    rw [e]
    clear h e
    generalize C.length = n at *
    go_enter Try.func51, Try.ntmps51
    go_wp2
    go_ret
    exact ⟨rfl, rfl⟩
  · have d1 : decide (z < 1) = false := decide_eq_false h1
    by_cases h2 : (C.length : Int) < z
    · have d2 : decide ((C.length : Int) < z) = true := decide_eq_true h2
      have e : (Po.start r C).state z = 0 := by
        unfold Po.state
        rw [if_neg (fun h => by have := (Po.has_iff.1 h).2; rw [start_len] at this; omega)]
      rw [e]
      clear h e
      generalize C.length = n at *
      go_enter Try.func51, Try.ntmps51
      go_wp2
      go_ret
      exact ⟨rfl, rfl⟩
    · have d2 : decide ((C.length : Int) < z) = false := decide_eq_false h2
      obtain ⟨i, rfl⟩ : ∃ i : Nat, z = (i : Int) + 1 := ⟨(z - 1).toNat, by omega⟩
      have hi : i < C.length := by omega
      have e : (Po.start r C).state ((i : Int) + 1) = stt (C.getD i 0, decide (0 < C.getD i 0)) := by
        unfold Po.state
        rw [if_pos (Po.has_iff.2 ⟨by omega, by rw [start_len]; omega⟩), show ((i : Int) + 1 - 1).toNat = i by omega, start_pg, pgOf_get C hi]
      rw [e]
      have m1 := (h.cAt hi).1
      have m2 := (h.lAt hi).1
      rw [lasOf_get C hi] at m2
      generalize C.getD i 0 = c at *
      have s1 : IntKind.i64.wrap (i : Int) = (i : Int) := wrapI (by omega) (by omega)
      have s2 : wrap64 (i : Int) = (i : Int) := by unfold wrap64; omega
      have hiI : (i : Int) < (C.length : Int) := by omega
      clear h e
      generalize C.length = n at *
      by_cases hc : c = 0
      · subst hc
        have e0 : decide ((0 : Int) < 0) = false := by decide
        rw [e0] at m2 ⊢
        go_enter Try.func51, Try.ntmps51
        go_wp2
        go_ret
        exact ⟨rfl, rfl⟩
      · have e0 : (c == 0) = false := by simp [hc]
        cases hd : decide (0 < c) with
        | true =>
          rw [hd] at m2
          have e1 : stt (c, true) = 4 := by unfold stt; rw [if_neg hc]; rfl
          rw [e1]
          go_enter Try.func51, Try.ntmps51
          go_wp2
          go_ret
          exact ⟨rfl, rfl⟩
        | false =>
          rw [hd] at m2
          have e1 : stt (c, false) = 3 := by unfold stt; rw [if_neg hc]; rfl
          rw [e1]
          go_enter Try.func51, Try.ntmps51
          go_wp2
          go_ret
          exact ⟨rfl, rfl⟩
end Go.Proofs.Ytdfhalhllmnnbaa
