import Derived.Test.YthfcgfdboienkabVH
import Derived.Lib.ConvBytes
namespace Go.Proofs.Ythfcgfdboienkab
open Go.RowKit

theorem conv_str (W : World) (s : ByteArray) : (convert 9 22 (.string s)).run Try.prog W = .ok (.slice (some ⟨W.heap.size, 0, none⟩) s.size (grownCap W s.size 0 5)) (Lib.bytesWorld W 5 s) := Lib.run_convert_string_bytes W 9 22 5 s Try.underlying9 Try.underlying22 Try.underlying5
theorem conv_below (W : World) (s : ByteArray) : Below W.heap.size W (Lib.bytesWorld W 5 s) := ⟨rfl, rfl, rfl, by rw [Lib.bytesWorld_size]; omega, fun k hk => Lib.bytesWorld_at_old W 5 s k hk⟩
theorem conv_bs (W : World) (s : ByteArray) (n : Nat) (hn : n = W.heap.size) (hs : s.size ≤ 9223372036854775807) : Bs (Lib.bytesWorld W 5 s) (some ⟨n, 0, none⟩) (tl s) := by
  subst hn
  refine ⟨tl_lt s, by rw [tl_length]; exact hs, .inr ⟨W.heap.size, 0, rfl, fun i hi => ?_⟩⟩
  rw [tl_length] at hi
  rw [Nat.zero_add, Lib.bytesWorld_cell W 5 s i hi]
  congr 2
  unfold tl
  have h2 : i < s.data.toList.length := by simpa using hi
  simp [hi]
end Go.Proofs.Ythfcgfdboienkab
