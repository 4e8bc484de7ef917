import Derived.Test.YthfcgfdboienkaaXM
namespace Go.Proofs.Ythfcgfdboienkaa
open Go.RowKit

theorem vget_valid (l : List Nat) : (vget l).valid = true := by
  unfold vget
  dsimp only
  repeat' split
  all_goals simp [VV.valid, VV.zero]
  all_goals rfl
theorem readR_bytes {b : List Nat} (h : (readR b).2.2 = 0) : (readR b).1.bytes = b.take (readR b).2.1 ∧ (readR b).1.valid = true := by
  obtain ⟨_, _, h3, h4⟩ := readR_good h
  rw [h3, h4]
  refine ⟨?_, vget_valid _⟩
  unfold readR at h
  split at h
  · cases h
  · split at h
    · cases h
    · split at h
      · cases h
      · rename_i hh
        simpa using hh
theorem dec_enc : ∀ (n : Nat) (b : List Nat), b.length ≤ n → (dec b).2 = 0 → enc (dec b).1 = b ∧ (dec b).1.all VV.valid = true := by
  intro n
  induction n with
  | zero =>
    intro b hb _
    have : b = [] := List.length_eq_zero_iff.1 (by omega)
    subst this
    unfold dec
    rw [decF_nil]
    exact ⟨rfl, rfl⟩
  | succ n ih =>
    intro b hb h
    by_cases h0 : b = []
    · subst h0
      unfold dec
      rw [decF_nil]
      exact ⟨rfl, rfl⟩
    · have hp : 0 < b.length := List.length_pos_iff.2 h0
      rw [dec_step h0] at h ⊢
      by_cases h1 : (readR b).2.2 = 0
      · rw [if_neg (by rw [h1]; simp)] at h ⊢
        obtain ⟨g1, g2, _, _⟩ := readR_good h1
        obtain ⟨e1, e2⟩ := readR_bytes h1
        by_cases h2 : (dec (b.drop (readR b).2.1)).2 = 0
        · rw [if_neg (by rw [h2]; simp)]
          obtain ⟨i1, i2⟩ := ih (b.drop (readR b).2.1) (by rw [List.length_drop]; omega) h2
          refine ⟨?_, ?_⟩
          · show enc (_ :: _) = b
            rw [enc_cons, i1, e1, List.take_append_drop]
          · show List.all (_ :: _) VV.valid = true
            rw [List.all_cons, e2, i2]
            rfl
        · rw [if_pos h2] at h
          exact absurd h h2
      · rw [if_pos h1] at h
        exact absurd h h1
theorem dec_len : ∀ (n : Nat) (b : List Nat), b.length ≤ n → (dec b).1.length ≤ b.length := by
  intro n
  induction n with
  | zero =>
    intro b hb
    have : b = [] := List.length_eq_zero_iff.1 (by omega)
    subst this
    unfold dec
    rw [decF_nil]
    exact Nat.le_refl _
  | succ n ih =>
    intro b hb
    by_cases h0 : b = []
    · subst h0
      unfold dec
      rw [decF_nil]
      exact Nat.le_refl _
    · have hp : 0 < b.length := List.length_pos_iff.2 h0
      rw [dec_step h0]
      by_cases h1 : (readR b).2.2 = 0
      · rw [if_neg (by rw [h1]; simp)]
        obtain ⟨g1, g2, _, _⟩ := readR_good h1
        split
        · exact Nat.zero_le _
        · have := ih (b.drop (readR b).2.1) (by rw [List.length_drop]; omega)
          rw [List.length_drop] at this
          show List.length (_ :: _) ≤ _
          rw [List.length_cons]
          omega
      · rw [if_pos h1]
        exact Nat.zero_le _
theorem decR_len (l : List Nat) : (decR l).1.length ≤ 4096 := by
  by_cases hl : 4096 < l.length
  · unfold decR; rw [if_pos hl]; exact Nat.zero_le _
  · have e : decR l = dec l := by unfold decR dec; rw [if_neg hl]
    rw [e]
    have := dec_len l.length l (Nat.le_refl _)
    omega
theorem decR_err (l : List Nat) : (decR l).2 ≠ 0 → (decR l).1 = [] := by
  intro h
  by_cases hl : 4096 < l.length
  · unfold decR; rw [if_pos hl]
  · rw [decA_start l (by omega)] at h ⊢
    unfold decA at h ⊢
    split
    · rfl
    · rename_i hh
      rw [if_neg hh] at h
      exact absurd rfl h
/-- what is read is laid as it was -/
theorem one_form (l : List Nat) (h : (decR l).2 = 0) : encR (decR l).1 = (l, 0) := by
  have hl : l.length ≤ 4096 := by
    by_cases hl : 4096 < l.length
    · unfold decR at h
      rw [if_pos hl] at h
      cases h
    · omega
  have e : decR l = dec l := by unfold decR dec; rw [if_neg (by omega)]
  rw [e] at h ⊢
  obtain ⟨h1, h2⟩ := dec_enc l.length l (Nat.le_refl _) h
  rw [encR_ok h2 (by rw [h1]; exact hl), h1]
end Go.Proofs.Ythfcgfdboienkaa
