import Derived.Test.YticcpkdhfdefpaaPWX
import Derived.Test.YticcpkdhfdefpaaNB
import Derived.Laws.MakeOwn
import Derived.Deep.OwnRows
import Derived.Deep.RegionHeldLaw
import Derived.Deep.RegionLaw
import Derived.Deep.LoopGhost
namespace Go.Proofs.Yticcpkdhfdefpaa
open Go.RowKit

set_option maxHeartbeats 800000 in
theorem rNewWriter_any (w : World) (m : Int) :
    Calls Try.prog 56 #[.int .i64 m] w fun x w' => x = .returned (.pointer (some ⟨w.heap.size, 0, none⟩)) ∧ Wt 84 w' w.heap.size none 0 ⟨clamp m, [], 0⟩ ∧ Below w.heap.size w w' := by
  go_enter Try.func56, Try.ntmps56
  go_wp2
  all_goals go_ret
  all_goals exact ⟨rfl, newWt _ _ _ _ (by unfold clamp; omega), (Below.refl _ _).alloc (Nat.le_refl _) _⟩
set_option maxHeartbeats 1600000 in
theorem Number_any (w : World) (x k : Nat) (hx : x < 18446744073709551616) (hk : k ≤ 8) :
    Calls Try.prog 70 #[.int .u64 (x : Int), .int .i64 (k : Int)] w fun y w' => ∃ a' cap', y = .returned (.slice a' k cap') ∧ Rw w' a' cap' (numB x k) ∧ New w none a' ∧ Below w.heap.size w w' := by
  go_enter Try.func70, Try.ntmps70
  go_wp2
  go_loopw [0, 5, 6] (fun r v i wx => ∃ (j : Nat) (aj : Option Addr) (cj : Nat), j ≤ k ∧ i = .int .i64 j ∧ r = .int .u64 ((x / 256 ^ j : Nat) : Int) ∧ v = .slice aj j cj ∧ (Rw wx aj cj ((numB x k).take j) ∧ New w none aj ∧ Below w.heap.size w wx)) (fun _ _ i _ => k - (intOf i).toNat)
  case atStart => exact ⟨0, none, 0, Nat.zero_le _, rfl, by simp, rfl, Rw.nil _, New.none _ _, Below.refl _ _⟩
  case round =>
    obtain ⟨j, aj, cj, hj, rfl, rfl, rfl, hG⟩ := hrel
    have HG := hide hG
    clear hG
    by_cases hlt : j < k
    · have hi : (j : Int) < (k : Int) := by omega
      have hxl : x / 256 ^ j < 18446744073709551616 := Nat.lt_of_le_of_lt (Nat.div_le_self _ _) hx
      have hsn := take_snoc (numB x k) (k := j) (by rw [numB_length]; exact hlt)
      rw [numB_get x k j hlt] at hsn
      have HSN := hide hsn
      have HDV := hide (div_step x j)
      have hz : ((numB x k).take j).length = j := by rw [List.length_take, numB_length]; omega
      clear hsn
      generalize x / 256 ^ j = y at *
      generalize (numB x k).take j = L at *
      have hw8 : IntKind.u8.wrap (y : Int) = ((y % 256 : Nat) : Int) := by rw [IntKind.wrap_u8']; omega
      go_wp2_with (at_builtin; refine wpList_ap1 rfl _ _ rfl aj j cj L rfl hz.symm (HG.out.1.keep ((Below.refl _ _).alloc (Nat.le_refl _) _)) ⟨wr.heap.size, 0, none⟩ 1 (y % 256) rfl ?c1 (by omega) ?_)
      try case c1 => simp
      intro g cap' w2 hR hN hg _
      obtain ⟨h1, h2⟩ := fresh_step HG.out.2.1 HG.out.2.2 hg hN
      rw [HSN.out] at hR
      have HR := hide hR
      clear hR hN hg
      go_wp2
      go_roundw
      case rel => exact ⟨j + 1, _, cap', by omega, by go_num, by rw [← HDV.out]; simp, rfl, HR.out, h1, h2⟩
      case measure => simp [intOf]; omega
    · obtain rfl : j = k := by omega
      go_wp2
      go_ret
      refine ⟨aj, cj, rfl, ?_⟩
      have h := HG.out
      rw [List.take_of_length_le (by rw [numB_length]; exact Nat.le_refl _)] at h
      exact h
theorem Rw.addr {w : World} {a : Option Addr} {cap : Nat} {l : List Nat} (h : Rw w a cap l) (hl : 0 < l.length) : ∃ g, a = some ⟨g, 0, none⟩ ∧ l.length ≤ cap ∧ cap ≤ maxLen := by
  rcases h.cases with ⟨rfl, rfl, rfl⟩ | ⟨g, cur, rfl, hg, h1, h2, h3, h4⟩
  · simp at hl
  · exact ⟨g, rfl, h1, h2⟩
end Go.Proofs.Yticcpkdhfdefpaa
