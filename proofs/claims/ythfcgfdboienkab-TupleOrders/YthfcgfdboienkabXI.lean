import Derived.Test.YthfcgfdboienkabXH
import Derived.Test.YthfcgfdboienkabVX
namespace Go.Proofs.Ythfcgfdboienkab
open Go.RowKit

theorem bEqual_any (w : World) (a a2 : Option Addr) (n m c c2 : Nat) (l k : List Nat) (hA : Bs w a l) (hB : Bs w a2 k) (hn : n = l.length) (hm : m = k.length) :
    Calls Try.prog 43 #[.slice a n c, .slice a2 m c2] w fun e w' => e = .returned (.bool (decide (l = k))) ∧ w' = w := by
  subst hn hm
  have h1 := conv_back w a c l hA
  have h2 := conv_back w a2 c2 k hB
  have h3 := str_eq (lt l) (lt k)
  rw [tl_lt_ l hA.1, tl_lt_ k hB.1] at h3
  have h4 : decide (cmpB l k = 0) = decide (l = k) := by rw [decide_eq_decide]; exact cmpB_zero
  rw [h4] at h3
  clear hA hB h4
  go_enter Try.func43, Try.ntmps43
  go_wp2
  go_ret
  exact ⟨by first | rfl | simp, rfl⟩
/-- the first value of what is left -/
def readR (l : List Nat) : VV × Nat × Int :=
  if vlen l = 0 then (VV.zero, 0, 5) else if l.length < vlen l then (VV.zero, 0, 2)
  else if (vget (l.take (vlen l))).bytes ≠ l.take (vlen l) then (VV.zero, 0, 5) else (vget (l.take (vlen l)), vlen l, 0)
theorem vlen_eq (l : List Nat) : vlen l = if 1 ≤ l.getD 0 0 ∧ l.getD 0 0 ≤ 3 then 1 else if 23 ≤ l.getD 0 0 ∧ l.getD 0 0 ≤ 31 then 32 - l.getD 0 0 else if 32 ≤ l.getD 0 0 ∧ l.getD 0 0 ≤ 40 then l.getD 0 0 - 31 else if l.getD 0 0 = 48 then 9 else if l.getD 0 0 = 56 then 17 else if l.getD 0 0 = 64 then 1 + tlen (l.drop 1) else 0 := by
  have hhd : l.headD 0 = l.getD 0 0 := by cases l <;> simp
  unfold vlen
  simp only [hhd, List.drop_one]
theorem tlen_pos (l : List Nat) : 1 ≤ tlen l := by
  rw [← tlenS_eq]
  cases l with
  | nil => decide
  | cons x l => rw [tlenS]; split <;> omega
theorem vlen_first (l : List Nat) : isFirst (l.getD 0 0) = decide (vlen l ≠ 0) := by
  have := tlen_pos (l.drop 1)
  rw [vlen_eq]
  unfold isFirst
  rw [decide_eq_decide]
  repeat' split
  all_goals omega
theorem vlen_parts (l : List Nat) (h : vlen l ≠ 0) : (l.getD 0 0 = 48 → vlen l = 9) ∧ (l.getD 0 0 = 56 → vlen l = 17) ∧ (23 ≤ l.getD 0 0 ∧ l.getD 0 0 ≤ 40 → vlen l ≤ 9) ∧ (l.getD 0 0 = 64 → 2 ≤ vlen l) := by
  have := tlen_pos (l.drop 1)
  rw [vlen_eq] at h ⊢
  generalize l.getD 0 0 = c at *
  generalize tlen (l.drop 1) = t at *
  refine ⟨fun e => ?_, fun e => ?_, fun e => ?_, fun e => ?_⟩
  · subst e; rfl
  · subst e; rfl
  · revert h
    repeat' split
    all_goals omega
  · subst e
    rw [if_neg (by omega), if_neg (by omega), if_neg (by omega), if_neg (by omega), if_neg (by omega), if_pos rfl]
    omega
theorem sint_range (y : Nat) (h : y < 18446744073709551616) : -9223372036854775808 ≤ sint y ∧ sint y ≤ 9223372036854775807 := by
  unfold sint
  split <;> omega
theorem ok_of (k : Int) (b : Bool) (i : Int) (r re im : Nat) (t : ByteArray) (h1 : 0 ≤ k ∧ k ≤ 5) (h2 : -9223372036854775808 ≤ i ∧ i ≤ 9223372036854775807) (hr : r < 18446744073709551616) (hre : re < 18446744073709551616) (him : im < 18446744073709551616) (ht : t.size ≤ 4096) :
    (VV.mk k b i r re im t).ok ∧ (VV.mk k b i r re im t).text.size ≤ 4096 ∧ 0 ≤ (VV.mk k b i r re im t).kind ∧ (VV.mk k b i r re im t).kind ≤ 5 :=
  ⟨⟨by show _ ≤ k; omega, by show k ≤ _; omega, h2.1, h2.2, hr, hre, him, by show t.size ≤ _; omega⟩, ht, h1.1, h1.2⟩
theorem vget_ok (l : List Nat) (hb : ∀ x ∈ l, x < 256) (hl : l.length ≤ 4096) (hL : (l.headD 0 = 48 → l.length = 9) ∧ (l.headD 0 = 56 → l.length = 17) ∧ (23 ≤ l.headD 0 ∧ l.headD 0 ≤ 40 → l.length ≤ 9)) (hf : isFirst (l.headD 0) = true) :
    (vget l).ok ∧ (vget l).text.size ≤ 4096 ∧ 0 ≤ (vget l).kind ∧ (vget l).kind ≤ 5 := by
  have hd := of_decide_eq_true hf
  have htb : ∀ x ∈ l.tail, x < 256 := fun x hx => hb x (List.mem_of_mem_tail hx)
  have htl : l.tail.length = l.length - 1 := List.length_tail
  unfold vget
  dsimp only
  split
  · exact ok_of 0 false 0 0 0 0 ByteArray.empty (by decide) (by decide) (by decide) (by decide) (by decide) (by decide)
  split
  · exact ok_of 1 _ 0 0 0 0 ByteArray.empty (by decide) (by decide) (by decide) (by decide) (by decide) (by decide)
  split
  · rename_i h1 h2 h3
    have hlen := hL.2.2 (by omega)
    have hbe := be_lt l.tail htb
    have hsm := be_small htb (by omega)
    have hb8 : 256 ^ l.tail.length ≤ 18446744073709551616 := by
      have h2 : 256 ^ l.tail.length ≤ 256 ^ 8 := Nat.pow_le_pow_right (by decide) (by omega)
      have h3 : (256 : Nat) ^ 8 = 18446744073709551616 := by decide
      omega
    have hr := sint_range (if l.headD 0 < 32 then 18446744073709551616 - 256 ^ l.tail.length + be l.tail else be l.tail) (by split <;> omega)
    exact ok_of 2 false _ 0 0 0 ByteArray.empty (by decide) hr (by decide) (by decide) (by decide) (by decide)
  split
  · rename_i h1 h2 h3 h4
    have hlen := hL.1 h4
    exact ok_of 3 false 0 _ 0 0 ByteArray.empty (by decide) (by decide) (unrank_lt (be_small htb (by omega))) (by decide) (by decide) (by decide)
  split
  · rename_i h1 h2 h3 h4 h5
    have hlen := hL.2.1 h5
    exact ok_of 4 false 0 0 _ _ ByteArray.empty (by decide) (by decide) (by decide) (unrank_lt (be_small (take_lt htb 8) (by rw [List.length_take]; omega))) (unrank_lt (be_small (fun x hx => htb x (List.mem_of_mem_drop hx)) (by rw [List.length_drop]; omega))) (by decide)
  · have hs : (lt (unesc l.tail.dropLast)).size ≤ 4096 := by
      have h1 := unesc_le l.tail.dropLast
      have h2 : (lt (unesc l.tail.dropLast)).size = (unesc l.tail.dropLast).length := by
        rw [← tl_length, tl_lt_ _ (unesc_lt _ (fun x hx => htb x (List.dropLast_subset _ hx)))]
      rw [h2]
      rw [List.length_dropLast] at h1
      omega
    exact ok_of 5 false 0 0 0 0 _ (by decide) (by decide) (by decide) (by decide) (by decide) hs
end Go.Proofs.Ythfcgfdboienkab
