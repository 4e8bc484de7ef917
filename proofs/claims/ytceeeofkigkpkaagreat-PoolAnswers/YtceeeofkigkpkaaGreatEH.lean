import Derived.Test.YtceeeofkigkpkaaGreatEG
namespace Go.Proofs.YtceeeofkigkpkaaGreat
set_option linter.unusedVariables false
open Go.RowKit

/-! ### Alloc, Inc, Dec -/
def Po.alloc (P : Po) : (Int × Int) × Po := match pagesOf P.pg 1 with
  | [] => ((0, 12), P)
  | n :: _ => ((n, 0), P.act n.toNat 1)
def Po.inc (P : Po) (z : Int) : Int × Po := if P.count z = 0 then (15, P) else if P.count z = P.rf then (13, P) else (0, P.act z.toNat (P.count z + 1))
def Po.dec (P : Po) (z : Int) : (Int × Int) × Po := if P.count z = 0 then ((0, 15), P) else ((P.count z - 1, 0), P.act z.toNat (P.count z - 1))
theorem Po.count_has {P : Po} {z : Int} (h : P.count z ≠ 0) : 1 ≤ z ∧ z ≤ P.pg.length := by
  unfold Po.count at h
  split at h
  · exact Po.has_iff.1 (by assumption)
  · exact absurd rfl h
theorem Po.Ok.count {P : Po} (h : P.Ok) (z : Int) : 0 ≤ P.count z ∧ P.count z ≤ P.rf := by
  unfold Po.count
  split
  · rename_i hz
    have := Po.has_iff.1 hz
    exact h.cs _ (getD_memP (by omega))
  · have := h.r1; omega
set_option maxHeartbeats 2000000 in
theorem Alloc_any (w : World) (b : Nat) (P : Po) (col : Nat → Nat) (h : Pl w b P col) (hm : P.ac.length + 1 ≤ 17592186044416) :
    Calls Tryz.prog 13 #[.pointer (some ⟨b, 0, none⟩)] w fun e w' => e = .returned (.tuple #[.int .i64 P.alloc.1.1, .int .i64 P.alloc.1.2]) ∧ ∃ col', Pl w' b P.alloc.2 col' ∧ Fr w col w' col' := by
  have HP := hide h
  obtain ⟨D, h⟩ := h
  have c1 := h.q.cin (s := 1) (by decide)
  have LO := hide (Lowest_any w (D.s 1) (D.a 1) (D.c 1) (D.L 1) (h.q.set 1 (by decide)))
  have np := nums_pages (h.q.set 1 (by decide)).can (h.mem 1 (by decide))
  have hle := (h.q.set 1 (by decide)).can.1
  change w.cell? ⟨b, 3, none⟩ = _ at c1
  by_cases h0 : D.L 1 = []
  · have e : P.alloc = ((0, 12), P) := by
      unfold Po.alloc
      rw [← np, h0]; rfl
    rw [e]
    rw [h0] at LO
    simp only [List.isEmpty_nil, Bool.not_true] at LO
    clear h np hle h0 e
    go_enter Tryz.func13, Tryz.ntmps13
    go_wp2_with fail
    refine LO.out.mono ?_
    rintro _ _ ⟨rfl, rfl⟩
    go_wp2
    go_ret2
    exact ⟨rfl, col, HP.out, Fr.refl _ _⟩
  · have nl := nums_low hle h0
    have e : P.alloc = ((low (D.L 1), 0), P.act (low (D.L 1)).toNat 1) := by
      unfold Po.alloc
      rw [← np, nl]
    have hin := inS_iff.1 ((mem_pagesOf P.pg 1 (low (D.L 1))).1 (by rw [← np, nl]; simp))
    have hne : (D.L 1).isEmpty = false := by cases hL : D.L 1 with
      | nil => exact absurd hL h0
      | cons => rfl
    rw [e]
    rw [hne] at LO
    obtain ⟨h1, h2, h3⟩ := hin
    obtain ⟨n, hn⟩ : ∃ n : Nat, low (D.L 1) = (n : Int) := ⟨(low (D.L 1)).toNat, by omega⟩
    rw [hn] at h1 h2 LO ⊢
    have AC := hide (act_any w b P col HP.out n (by omega) (by omega) 1 ⟨by decide, by have := h.ok.r1; omega⟩ hm)
    rw [Int.toNat_natCast]
    simp only [Bool.not_false] at LO
    clear h np hle h0 e nl hne hn h1 h2 h3
    go_enter Tryz.func13, Tryz.ntmps13
    go_wp2_with fail
    refine LO.out.mono ?_
    rintro _ _ ⟨rfl, rfl⟩
    go_wp2_with fail
    refine AC.out.mono ?_
    rintro _ w1 ⟨rfl, hc⟩
    have HC := hide hc
    clear hc
    go_wp2
    go_ret2
    exact ⟨rfl, HC.out⟩
set_option maxHeartbeats 2000000 in
theorem Inc_any (w : World) (b : Nat) (P : Po) (col : Nat → Nat) (h : Pl w b P col) (z : Int) (hm : P.ac.length + 1 ≤ 17592186044416) :
    Calls Tryz.prog 16 #[.pointer (some ⟨b, 0, none⟩), .int .i64 z] w fun e w' => e = .returned (.int .i64 (P.inc z).1) ∧ ∃ col', Pl w' b (P.inc z).2 col' ∧ Fr w col w' col' := by
  have HP := hide h
  obtain ⟨D, h⟩ := h
  have CO := hide (Count_any w b P D col h.q h.ok.l2 z)
  have c0 := h.q.c0
  have hk := h.ok.count z
  have r2 := h.ok.r2
  unfold Po.inc
  by_cases h0 : P.count z = 0
  · rw [if_pos h0]
    rw [h0] at CO
    clear h h0 hk r2
    go_enter Tryz.func16, Tryz.ntmps16
    go_wp2_with fail
    refine CO.out.mono ?_
    rintro _ _ ⟨rfl, rfl⟩
    go_wp2
    go_ret
    exact ⟨rfl, col, HP.out, Fr.refl _ _⟩
  · rw [if_neg h0]
    have q0 : (P.count z == 0) = false := by simp [h0]
    by_cases h1 : P.count z = P.rf
    · rw [if_pos h1]
      have q1 : (P.rf == P.rf) = true := by simp
      rw [h1] at CO q0
      generalize P.rf = r at *
      clear h h0 h1 hk r2
      go_enter Tryz.func16, Tryz.ntmps16
      go_wp2_with fail
      refine CO.out.mono ?_
      rintro _ _ ⟨rfl, rfl⟩
      go_wp2
      go_ret
      exact ⟨rfl, col, HP.out, Fr.refl _ _⟩
    · rw [if_neg h1]
      have q1 : (P.count z == P.rf) = false := by simp [h1]
      obtain ⟨z1, z2⟩ := Po.count_has h0
      obtain ⟨n, rfl⟩ : ∃ n : Nat, z = (n : Int) := ⟨z.toNat, by omega⟩
      have AC := hide (act_any w b P col HP.out n (by omega) (by omega) (P.count n + 1) ⟨by omega, by omega⟩ hm)
      rw [Int.toNat_natCast]
      have s1 : IntKind.i64.wrap (P.count n + 1) = P.count n + 1 := wrapI (by omega) (by omega)
      have s2 : wrap64 (P.count n + 1) = P.count n + 1 := by unfold wrap64; omega
      clear h h0 h1 hk r2 z1 z2 hm
      show Calls _ _ _ _ fun e w' => e = .returned (.int .i64 0) ∧ ∃ col', Pl w' b (P.act n (P.count n + 1)) col' ∧ Fr w col w' col'
      generalize P.count (n : Int) = k at *
      go_enter Tryz.func16, Tryz.ntmps16
      go_wp2_with fail
      refine CO.out.mono ?_
      rintro _ _ ⟨rfl, rfl⟩
      go_wp2_with fail
      refine AC.out.mono ?_
      rintro _ w1 ⟨rfl, hc⟩
      have HC := hide hc
      clear hc
      go_wp2
      go_ret
      exact ⟨rfl, HC.out⟩
set_option maxHeartbeats 2000000 in
theorem Dec_any (w : World) (b : Nat) (P : Po) (col : Nat → Nat) (h : Pl w b P col) (z : Int) (hm : P.ac.length + 1 ≤ 17592186044416) :
    Calls Tryz.prog 22 #[.pointer (some ⟨b, 0, none⟩), .int .i64 z] w fun e w' => e = .returned (.tuple #[.int .i64 (P.dec z).1.1, .int .i64 (P.dec z).1.2]) ∧ ∃ col', Pl w' b (P.dec z).2 col' ∧ Fr w col w' col' := by
  have HP := hide h
  obtain ⟨D, h⟩ := h
  have CO := hide (Count_any w b P D col h.q h.ok.l2 z)
  have hk := h.ok.count z
  have r2 := h.ok.r2
  unfold Po.dec
  by_cases h0 : P.count z = 0
  · rw [if_pos h0]
    rw [h0] at CO
    clear h h0 hk r2
    go_enter Tryz.func22, Tryz.ntmps22
    go_wp2_with fail
    refine CO.out.mono ?_
    rintro _ _ ⟨rfl, rfl⟩
    go_wp2
    go_ret2
    exact ⟨rfl, col, HP.out, Fr.refl _ _⟩
  · rw [if_neg h0]
    have q0 : (P.count z == 0) = false := by simp [h0]
    obtain ⟨z1, z2⟩ := Po.count_has h0
    obtain ⟨n, rfl⟩ : ∃ n : Nat, z = (n : Int) := ⟨z.toNat, by omega⟩
    have AC := hide (act_any w b P col HP.out n (by omega) (by omega) (P.count n - 1) ⟨by omega, by omega⟩ hm)
    rw [Int.toNat_natCast]
    have s1 : IntKind.i64.wrap (P.count n - 1) = P.count n - 1 := wrapI (by omega) (by omega)
    have s2 : wrap64 (P.count n - 1) = P.count n - 1 := by unfold wrap64; omega
    clear h h0 hk r2 z1 z2 hm
    show Calls _ _ _ _ fun e w' => e = .returned (.tuple #[.int .i64 (P.count n - 1), .int .i64 0]) ∧ ∃ col', Pl w' b (P.act n (P.count n - 1)) col' ∧ Fr w col w' col'
    generalize P.count (n : Int) = k at *
    go_enter Tryz.func22, Tryz.ntmps22
    go_wp2_with fail
    refine CO.out.mono ?_
    rintro _ _ ⟨rfl, rfl⟩
    go_wp2_with fail
    refine AC.out.mono ?_
    rintro _ w1 ⟨rfl, hc⟩
    have HC := hide hc
    clear hc
    go_wp2
    go_ret2
    exact ⟨rfl, HC.out⟩
end Go.Proofs.YtceeeofkigkpkaaGreat
