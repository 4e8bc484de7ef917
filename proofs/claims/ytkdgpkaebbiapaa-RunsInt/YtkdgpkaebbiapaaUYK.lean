import Derived.Test.YtkdgpkaebbiapaaUYI
namespace Go.Proofs.Ytkdgpkaebbiapaa
set_option linter.unusedVariables false
open Go.RowKit

/-! ### slot, least, eqRuns, New -/
theorem slot_any (w : World) (x : Int) (hx : N64 x) : ∃ s : Nat, s < 3 ∧ ∀ W, Calls Try.prog 9 #[.int .i64 x] W fun e w' => e = .returned (.int .i64 ((s : Nat) : Int)) ∧ w' = W := by
  obtain ⟨h1, h2⟩ := hx
  have t1 := Int.tmod_lt_of_pos x (show (0 : Int) < 3 by decide)
  have t2 : -3 < x.tmod 3 := by
    by_cases hp : 0 ≤ x
    · have := Int.tmod_nonneg (3 : Int) hp
      omega
    · have h3 := Int.tmod_lt_of_pos (-x) (show (0 : Int) < 3 by decide)
      rw [Int.neg_tmod] at h3
      omega
  obtain ⟨y, hy⟩ : ∃ y : Nat, (y : Int) = x.tmod 3 + 3 := ⟨(x.tmod 3 + 3).toNat, by omega⟩
  refine ⟨y % 3, Nat.mod_lt _ (by decide), fun W => ?_⟩
  have e1 : (x.tmod 3 + 3) % 3 = ((y % 3 : Nat) : Int) := by omega
  have e2 : (x.tmod 3 + 3).tmod 3 = ((y % 3 : Nat) : Int) := by
    rw [← e1]
    exact Int.tmod_eq_emod_of_nonneg (by omega)
  generalize y % 3 = s at *
  have e3 : IntKind.i64.wrap (x.tmod 3) = x.tmod 3 := wrapI (by omega) (by omega)
  have e4 : wrap64 (x.tmod 3) = x.tmod 3 := by unfold wrap64; omega
  have e5 : IntKind.i64.wrap (x.tmod 3 + 3) = x.tmod 3 + 3 := wrapI (by omega) (by omega)
  have e6 : wrap64 (x.tmod 3 + 3) = x.tmod 3 + 3 := by unfold wrap64; omega
  clear hy
  go_enter Try.func9, Try.ntmps9
  go_wp2
  go_ret
  refine ⟨?_, rfl⟩
  first
    | rfl
    | (simp [e1, e2])
theorem least_any (w : World) (x : Int) (hx : N64 x) : ∃ k : Nat, k ≤ 200 ∧ ∀ W, Calls Try.prog 25 #[.int .i64 x] W fun e w' => e = .returned (.int .i64 ((k : Nat) : Int)) ∧ w' = W := by
  obtain ⟨h1, h2⟩ := hx
  by_cases h : x < 0
  · refine ⟨0, by omega, fun W => ?_⟩
    go_enter Try.func25, Try.ntmps25
    go_wp2
    go_ret
    exact ⟨rfl, rfl⟩
  · refine ⟨(min x 200).toNat, by omega, fun W => ?_⟩
    have e : (((min x 200).toNat : Nat) : Int) = min x 200 := by omega
    rw [e]
    go_enter Try.func25, Try.ntmps25
    go_wp2
    go_ret
    refine ⟨?_, rfl⟩
    first
      | rfl
      | (simp; omega)
set_option maxHeartbeats 2000000 in
set_option maxRecDepth 10000 in
theorem eqRuns_any (w : World) (a a' : Option Addr) (cap cap' : Nat) (L : List Rn) (hL : Vs w a L) (hM : Rf.Vs w a' L) (l1 : L.length ≤ 11000000000000) (hb : ∀ r ∈ L, Nm r.1 ∧ Nm r.2) :
    Calls Try.prog 22 #[.slice a L.length cap, .slice a' L.length cap'] w fun e w' => e = .returned (.bool true) ∧ Below w.heap.size w w' := by
  obtain ⟨n, hn⟩ : ∃ n : Nat, n = L.length := ⟨_, rfl⟩
  have N1 := hide hn
  have HB := hide hb
  rw [← hn] at l1 ⊢
  clear hn hb
  go_enter Try.func22, Try.ntmps22
  go_wp2
  go_loopw [5] (fun i wx => ∃ k : Nat, k ≤ n ∧ i = .int .i64 k ∧ Below w.heap.size w wx) (fun i _ => n - (intOf i).toNat)
  case atStart => exact ⟨0, Nat.zero_le _, rfl, Below.refl _ _⟩
  case round =>
    obtain ⟨k, hk, rfl, hb⟩ := hrel
    by_cases hlt : k < n
    · have hkL : k < L.length := by rw [← N1.out]; exact hlt
      obtain ⟨b1, o1, rfl, d1, d2⟩ := (hL.keep hb).at hkL
      obtain ⟨b2, o2, rfl, d3, d4⟩ := (hM.keep hb).at hkL
      have hm := HB.out _ (getD_mem hkL)
      generalize L.getD k Rn.zero = r at *
      obtain ⟨p, q⟩ := r
      simp only at d1 d2 d3 d4 hm
      obtain ⟨⟨m1, m2⟩, m3, m4⟩ := hm
      have c1 : IntKind.i64.wrap p = p := wrapI (by omega) (by omega)
      have c2 : IntKind.i64.wrap q = q := wrapI (by omega) (by omega)
      have z1 : (p == p) = true := by simp
      have z2 : (q == q) = true := by simp
      go_wp2
      go_quiet (fail)
      go_wp2
      go_roundw
      case rel => exact ⟨k + 1, by omega, by simp, bt hb (drews _ _)⟩
      case measure => simp [intOf]; omega
    · obtain rfl : k = n := by omega
      go_wp2
      go_ret
      exact ⟨rfl, hb⟩
/-- numbers of the kind in memory -/
def Ks (w : World) (a : Option Addr) (X : List Int) : Prop := X = [] ∨ ∃ b o, a = some ⟨b, o, none⟩ ∧ ∀ i, i < X.length → w.cell? ⟨b, o + i, none⟩ = some (.int .i64 (X.getD i 0))
theorem Ks.keep {w w' : World} {a : Option Addr} {X : List Int} (h : Ks w a X) (hb : Below w.heap.size w w') : Ks w' a X := h.imp id fun ⟨b, o, e, hc⟩ => ⟨b, o, e, fun i hi => (hb.cell (p := ⟨b, o + i, none⟩) (block_lt_of_cell (hc i hi))).trans (hc i hi)⟩
theorem Ks.at {w : World} {a : Option Addr} {X : List Int} (h : Ks w a X) {i : Nat} (hi : i < X.length) : ∃ b o, a = some ⟨b, o, none⟩ ∧ w.cell? ⟨b, o + i, none⟩ = some (.int .i64 (X.getD i 0)) := by
  rcases h with rfl | ⟨b, o, e, hc⟩
  · simp at hi
  · exact ⟨b, o, e, hc i hi⟩
def dup (x : Int) : Rn := (x, x)
theorem next_map {X : List Int} {k : Nat} (hk : k < X.length) : (X.take (k + 1)).map dup = (X.take k).map dup ++ [dup (X.getD k 0)] := by
  rw [take_next X 0 hk, List.map_append]
  rfl
set_option maxHeartbeats 4000000 in
set_option maxRecDepth 10000 in
theorem New_any (w : World) (a : Option Addr) (c : Nat) (X : List Int) (hX : Ks w a X) (hl : X.length ≤ 8796093022200) (hb : ∀ x ∈ X, Nm x) :
    Calls Try.prog 5 #[.slice a X.length c] w fun e w' => ∃ b' a' cap' R, e = .returned (.pointer (some ⟨b', 0, none⟩)) ∧ Nw w w' b' a' cap' R ∧ (∀ z, has R z = has (X.map dup) z) ∧ R.length ≤ X.length := by
  obtain ⟨n, hn⟩ : ∃ n : Nat, n = X.length := ⟨_, rfl⟩
  have N1 := hide hn
  have HX := hide hX
  have HB := hide hb
  rw [← hn] at hl ⊢
  clear hn hb hX
  have hmk := make_run 0 n (Nat.zero_le _) (by omega) w
  rw [show ((0 : Nat) : Int) = 0 from rfl] at hmk
  have ha := al w (.cells (madeCells (rcs Rn.zero) (n * 2)) 45)
  have hr := made_row w n
  have lm : (madeCells (rcs Rn.zero) (n * 2)).toList.length = n * 2 := by rw [Array.length_toList, size_madeCells]
  have V0 := hide (show Vw (w.alloc (.cells (madeCells (rcs Rn.zero) (n * 2)) 45)) (some ⟨w.heap.size, 0, none⟩) n [] from Vw.mk (L := []) (Y := (madeCells (rcs Rn.zero) (n * 2)).toList) (by simpa [rc_nil] using hr) (Nat.zero_le _) (by unfold maxLen; omega) (by simp [lm]))
  have A0 := hide ha
  generalize w.alloc (.cells (madeCells (rcs Rn.zero) (n * 2)) 45) = W0 at *
  clear ha hr lm
  have C := hide fun (W : World) (g : Nat) (cc : Nat) (hV : Vs W (some ⟨g, 0, none⟩) (X.map dup)) => Of_any W (some ⟨g, 0, none⟩) cc (X.map dup) hV (by rw [List.length_map, ← N1.out]; exact hl) (fun h => by cases h) (fun r hr => by
    obtain ⟨x, hx, rfl⟩ := List.mem_map.1 hr
    exact ⟨HB.out x hx, HB.out x hx⟩)
  rw [List.length_map, ← N1.out] at C
  go_enter Try.func5, Try.ntmps5
  go_wp2
  go_loopw [3, 11] (fun p i wx => ∃ (k g c1 : Nat), k ≤ n ∧ i = .int .i64 k ∧ p = .slice (some ⟨g, 0, none⟩) k c1 ∧ w.heap.size ≤ g ∧ Vw wx (some ⟨g, 0, none⟩) c1 ((X.take k).map dup) ∧ Below w.heap.size w wx) (fun _ i _ => n - (intOf i).toNat)
  case atStart => exact ⟨0, w.heap.size, n, Nat.zero_le _, rfl, rfl, Nat.le_refl _, V0.out, A0.out⟩
  case round =>
    obtain ⟨k, g, c1, hk, rfl, rfl, hg, hV, hb⟩ := hrel
    have VV := hide hV
    have BB := hide hb
    clear hV
    by_cases hlt : k < n
    · have hkX : k < X.length := by rw [← N1.out]; exact hlt
      obtain ⟨b1, o1, rfl, d1⟩ := (HX.out.keep hb).at hkX
      have NM := hide (next_map hkX)
      generalize X.getD k 0 = x at *
      have lk : k = ((X.take k).map dup).length := by rw [List.length_map, List.length_take]; omega
      obtain ⟨g', cap', w1, hrun, v1, v2, v3⟩ := run_apR (wr.alloc (.cells #[.int .i64 x, .int .i64 x] 45)) 43 (some ⟨g, 0, none⟩) k c1 _ lk (VV.out.keep (al _ _)) (some ⟨wr.heap.size, 0, none⟩) 1 1 [dup x] rfl (vs_new wr x x) (by simp) (by rw [← lk]; simp; omega)
      have V1 := hide v1
      have G1 := hide (show w.heap.size ≤ g' by
        rcases v2 _ rfl with ⟨y, hy, e⟩ | h2
        · cases hy
          have e' : g = g' := e
          omega
        · have h2' : (wr.alloc (.cells #[.int .i64 x, .int .i64 x] 45)).heap.size ≤ g' := h2
          rw [size_alloc] at h2'
          have := BB.out.size
          omega)
      have B1 := hide (show Below w.heap.size w w1 from (((But.ofBelow (S := fun _ => False) BB.out).andBelow (al _ _)).trans (But.inA v3) (fun q hq ⟨y, hy, e⟩ => by cases hy; have e' : g = q := e; omega)).below (fun _ _ h => h))
      clear v1 v2 v3 lk hb
      go_wp2_with (at_builtin; refine Lib.wpList_append_run _ rfl _ _ _ _ rfl _ _ rfl rfl _ _ hrun ?_)
      go_roundw
      case rel => exact ⟨k + 1, g', cap', by omega, by simp, rfl, G1.out, by rw [NM.out]; exact V1.out, B1.out⟩
      case measure => simp [intOf]; omega
    · obtain rfl : k = n := by omega
      have e1 : X.take k = X := by rw [N1.out, List.take_length]
      rw [e1] at VV
      clear e1
      go_wp2_with fail
      refine (C.out wr g c1 VV.out.vs).mono ?_
      rintro e w1 ⟨b', a', cap', R, rfl, q1, q2, q3⟩
      have Q := hide (show Nw w w1 b' a' cap' R from ⟨q1.st, Nat.le_trans BB.out.size q1.b, fun x hx => Nat.le_trans BB.out.size (q1.a x hx), bt BB.out q1.w⟩)
      have Q2 := hide q2
      have Q3 := hide q3
      clear q1 q2 q3
      go_wp2
      go_ret
      exact ⟨b', a', cap', R, rfl, Q.out, Q2.out, Q3.out⟩
end Go.Proofs.Ytkdgpkaebbiapaa
