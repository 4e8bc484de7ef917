import Derived.Test.YtceeeofkigkpkaaGreatEL
namespace Go.Proofs.YtceeeofkigkpkaaGreat
set_option linter.unusedVariables false
open Go.RowKit

/-! ### New, Load -/
theorem made_ints (n : Nat) : madeCells #[Value.int .i64 0] n = (vi (List.replicate n 0)).toArray := by
  unfold madeCells vi
  apply Array.ext
  · simp
  · intro i h1 h2
    simp [Nat.mod_one]
theorem made_ir (w : World) (n : Nat) : Ir (w.alloc (.cells (vi (List.replicate n 0)).toArray 3)) (some ⟨w.heap.size, 0, none⟩) (List.replicate n 0) :=
  .inr ⟨w.heap.size, 0, rfl, fun i hi => by
    rw [Nat.zero_add, cell_of_row _ _ _ _ _ _ (World.alloc_heap_new w _)]
    rw [List.getElem?_toArray]
    exact vi_get _ i hi⟩
/-- a pool that was made: all its memory is new -/
def Made (w w' : World) (b : Nat) (P : Po) : Prop := ∃ col, Pl w' b P col ∧ Below w.heap.size w w' ∧ ∀ k, col k ≠ 0 → w.heap.size ≤ k
set_option maxHeartbeats 1000000 in
theorem New_no (w : World) (n r : Int) (h : fits n r = false) : Calls Tryz.prog 12 #[.int .i64 n, .int .i64 r] w fun e w' => e = .returned (.tuple #[.pointer none, .int .i64 1]) ∧ w' = w := by
  have C := hide (fits_any w n r)
  rw [h] at C
  clear h
  go_enter Tryz.func12, Tryz.ntmps12
  go_wp2_with fail
  refine C.out.mono ?_
  rintro _ wq ⟨rfl, hwq⟩
  obtain rfl := hwq.symm
  go_wp2
  go_ret2
  exact ⟨rfl, rfl⟩
theorem fits_iff {n r : Int} : fits n r = true ↔ (1 ≤ n ∧ n ≤ 65536) ∧ 2 ≤ r ∧ r < 65536 := by unfold fits; simp [and_assoc]
set_option maxHeartbeats 1000000 in
theorem New_yes (w : World) (n r : Int) (h : fits n r = true) : Calls Tryz.prog 12 #[.int .i64 n, .int .i64 r] w fun e w' => ∃ b, e = .returned (.tuple #[.pointer (some ⟨b, 0, none⟩), .int .i64 0]) ∧ Made w w' b (Po.start r (List.replicate n.toNat 0)) := by
  have C := hide (fits_any w n r)
  rw [h] at C
  obtain ⟨⟨h1, h2⟩, h3⟩ := fits_iff.1 h
  obtain ⟨m, rfl⟩ : ∃ m : Nat, n = (m : Int) := ⟨n.toNat, by omega⟩
  have hmk := make_int m (by omega) w
  rw [made_ints] at hmk
  have aw := al w (.cells (vi (List.replicate m 0)).toArray 3)
  have F := hide (filled_any (w.alloc (.cells (vi (List.replicate m 0)).toArray 3)) r (some ⟨w.heap.size, 0, none⟩) m (List.replicate m 0) (made_ir w m) (by rw [List.length_replicate]; omega) (by rw [List.length_replicate]; omega) h3 (fun c hc => by rw [(List.mem_replicate.1 hc).2]; omega))
  rw [List.length_replicate] at F
  rw [Int.toNat_natCast]
  have AW := hide aw
  clear h aw h1 h2 h3
  go_enter Tryz.func12, Tryz.ntmps12
  go_wp2_with fail
  refine C.out.mono ?_
  rintro _ wq ⟨rfl, hwq⟩
  obtain rfl := hwq.symm
  go_wp2_with fail
  refine F.out.mono ?_
  rintro _ w1 ⟨b, col, rfl, hP, hB, hN⟩
  have HM := hide (show Made w w1 b (Po.start r (List.replicate m 0)) from ⟨col, hP, bt AW.out hB, fun k hk => by have := hN k hk; have := AW.out.size; omega⟩)
  clear hP hB hN
  go_wp2
  go_ret2
  exact ⟨b, rfl, HM.out⟩
def badC (r : Int) (C : List Int) : Bool := C.any fun c => decide (c < 0) || decide (r < c)
set_option maxHeartbeats 1000000 in
theorem Load_no (w : World) (r : Int) (a : Option Addr) (n cap : Nat) (h : fits n r = false) : Calls Tryz.prog 18 #[.int .i64 r, .slice a n cap] w fun e w' => e = .returned (.tuple #[.pointer none, .int .i64 1]) ∧ w' = w := by
  have C := hide (fits_any w n r)
  rw [h] at C
  clear h
  go_enter Tryz.func18, Tryz.ntmps18
  go_wp2_with fail
  refine C.out.mono ?_
  rintro _ wq ⟨rfl, hwq⟩
  obtain rfl := hwq.symm
  go_wp2
  go_ret2
  exact ⟨rfl, rfl⟩
theorem badC_iff {r : Int} {C : List Int} : badC r C = false ↔ ∀ c ∈ C, 0 ≤ c ∧ c ≤ r := by
  unfold badC
  rw [List.any_eq_false]
  constructor
  · intro h c hc
    have := h c hc
    simp only [Bool.or_eq_true, decide_eq_true_eq] at this
    omega
  · intro h c hc
    have := h c hc
    simp only [Bool.or_eq_true, decide_eq_true_eq]
    omega
theorem bad_at {r : Int} {C : List Int} {i : Nat} (h : i < C.length) (hb : C.getD i 0 < 0 ∨ r < C.getD i 0) : badC r C = true := by
  unfold badC
  rw [List.any_eq_true]
  refine ⟨C.getD i 0, by simp [h], ?_⟩
  simp only [Bool.or_eq_true, decide_eq_true_eq]
  exact hb
set_option maxHeartbeats 2000000 in
theorem Load_any (w : World) (r : Int) (a : Option Addr) (n cap : Nat) (C : List Int) (hC : Ir w a C) (hn : n = C.length) (h : fits n r = true) : Calls Tryz.prog 18 #[.int .i64 r, .slice a n cap] w fun e w' =>
    (badC r C = true ∧ e = .returned (.tuple #[.pointer none, .int .i64 13]) ∧ w' = w) ∨ (badC r C = false ∧ ∃ b, e = .returned (.tuple #[.pointer (some ⟨b, 0, none⟩), .int .i64 0]) ∧ Made w w' b (Po.start r C)) := by
  have CF := hide (fits_any w n r)
  rw [h] at CF
  obtain ⟨⟨h1, h2⟩, h3⟩ := fits_iff.1 h
  have HN := hide hn
  have HC := hide hC
  have HR := hide h3
  clear h hn hC h3
  go_enter Tryz.func18, Tryz.ntmps18
  go_wp2_with fail
  refine CF.out.mono ?_
  rintro _ wq ⟨rfl, hwq⟩
  obtain rfl := hwq.symm
  go_wp2_with fail
  go_loopw [15] (fun i wr => ∃ k : Nat, k ≤ n ∧ i = .int .i64 (k : Int) ∧ (∀ c ∈ C.take k, 0 ≤ c ∧ c ≤ r) ∧ wr = w) (fun i _ => n - (intOf i).toNat)
  case atStart => exact ⟨0, Nat.zero_le _, rfl, by simp, rfl⟩
  case round =>
    obtain ⟨i, hi, rfl, hg, hwr⟩ := hrel
    obtain rfl := hwr.symm
    have HG := hide hg
    clear hg
    by_cases hlt : i < n
    · have hil : i < C.length := by rw [← HN.out]; exact hlt
      obtain ⟨b1, o1, rfl, cA⟩ := HC.out.at hil
      have BA := hide (bad_at (r := r) hil)
      have SN := hide (take_next C 0 hil)
      obtain ⟨c, hc⟩ : ∃ c, C.getD i 0 = c := ⟨_, rfl⟩
      rw [hc] at cA BA SN
      have hiI : (i : Int) < (n : Int) := by omega
      clear hc
      by_cases h0 : c < 0
      · have d0 : decide (c < 0) = true := decide_eq_true h0
        go_wp2
        go_ret2
        exact .inl ⟨BA.out (.inl h0), rfl, rfl⟩
      · have d0 : decide (c < 0) = false := decide_eq_false h0
        by_cases hr : r < c
        · have d1 : decide (r < c) = true := decide_eq_true hr
          go_wp2
          go_ret2
          exact .inl ⟨BA.out (.inr hr), rfl, rfl⟩
        · have d1 : decide (r < c) = false := decide_eq_false hr
          go_wp2
          go_roundw
          case rel => exact ⟨i + 1, by omega, by go_num, fun x hx => by
            rw [SN.out] at hx
            rcases List.mem_append.1 hx with hx | hx
            · exact HG.out x hx
            · obtain rfl := List.mem_singleton.1 hx; omega, by trivial⟩
          case measure => simp [intOf]; omega
    · obtain rfl : i = n := by omega
      have hall : ∀ c ∈ C, 0 ≤ c ∧ c ≤ r := by have t := HG.out; rwa [HN.out, List.take_length] at t
      have F := hide (filled_any w r a cap C HC.out (by rw [← HN.out]; omega) (by rw [← HN.out]; omega) HR.out hall)
      rw [← HN.out] at F
      have HB := hide (badC_iff.2 hall)
      clear hall
      go_wp2_with fail
      refine F.out.mono ?_
      rintro _ w1 ⟨b, col, rfl, hP, hB, hN⟩
      have HM := hide (show Made w w1 b (Po.start r C) from ⟨col, hP, hB, hN⟩)
      clear hP hB hN
      go_wp2
      go_ret2
      exact .inr ⟨HB.out, b, rfl, HM.out⟩

/-! ### Counts, Tally, Pages -/
def Po.counts (P : Po) : List Int := P.pg.map Prod.fst
def Po.pages (P : Po) (z : Int) : List Int := if 1 ≤ z ∧ z ≤ 4 then pagesOf P.pg z.toNat else []
theorem Po.pages_len {P : Po} (h : P.Ok) (z : Int) : (P.pages z).length ≤ 65536 := by
  unfold Po.pages
  split
  · exact Nat.le_trans (pagesOf_len _ _) h.l2
  · simp
set_option maxHeartbeats 1000000 in
theorem Tally_any (w : World) (b : Nat) (P : Po) (col : Nat → Nat) (h : Pl w b P col) (z : Int) : Calls Tryz.prog 24 #[.pointer (some ⟨b, 0, none⟩), .int .i64 z] w fun e w' => e = .returned (.int .i64 (((P.pages z).length : Nat) : Int)) ∧ Below w.heap.size w w' := by
  obtain ⟨D, h⟩ := h
  have C := hide (isState_any w z)
  unfold Po.pages
  by_cases h1 : 1 ≤ z ∧ z ≤ 4
  · rw [if_pos h1]
    rw [decide_eq_true h1.1, decide_eq_true h1.2] at C
    obtain ⟨s, rfl⟩ : ∃ s : Nat, z = (s : Int) := ⟨z.toNat, by omega⟩
    rw [Int.toNat_natCast]
    have ci := h.q.cin (s := s) (by omega)
    have np := nums_pages (h.q.set s (by omega)).can (h.mem s (by omega))
    have LE := hide (Len_any w (D.s s) (D.a s) (D.c s) (D.L s) (h.q.set s (by omega)))
    have hl := pagesOf_len P.pg s
    have := h.ok.l2
    rw [← nums_len, np, Nat.min_eq_left (by unfold mxi; omega)] at LE
    clear h np hl this
    generalize (pagesOf P.pg s).length = m at *
    simp only [Bool.and_self] at C
    go_enter Tryz.func24, Tryz.ntmps24
    go_wp2_with fail
    refine C.out.mono ?_
    rintro _ wq ⟨rfl, hwq⟩
    obtain rfl := hwq.symm
    go_wp2_with fail
    refine LE.out.mono ?_
    rintro _ w1 ⟨rfl, hb⟩
    have HB := hide hb
    clear hb
    go_wp2
    go_ret
    exact ⟨rfl, HB.out⟩
  · rw [if_neg h1]
    have e : (decide (1 ≤ z) && decide (z ≤ 4)) = false := by
      by_cases a : 1 ≤ z
      · rw [decide_eq_false (show ¬ z ≤ 4 by omega)]; simp
      · rw [decide_eq_false a]; simp
    rw [e] at C
    clear h h1 e
    go_enter Tryz.func24, Tryz.ntmps24
    go_wp2_with fail
    refine C.out.mono ?_
    rintro _ wq ⟨rfl, hwq⟩
    obtain rfl := hwq.symm
    go_wp2
    go_ret
    exact ⟨rfl, Below.refl _ _⟩
end Go.Proofs.YtceeeofkigkpkaaGreat
