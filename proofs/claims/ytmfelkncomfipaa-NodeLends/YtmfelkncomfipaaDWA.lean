import Derived.Test.YtmfelkncomfipaaDW
namespace Go.Proofs.Ytmfelkncomfipaa
set_option linter.unusedVariables false
set_option linter.unusedSimpArgs false
open Go.RowKit
theorem take_nx {L : List Iv} {k : Nat} (h : k < L.length) : L.take (k + 1) = L.take k ++ [L.getD k Iv.zero] := by
  rw [List.take_succ_eq_append_getElem h]; simp [h]
theorem drop_nx {L : List Iv} {n k : Nat} (hn : n ≤ k) (h : k < L.length) : (L.drop n).take (k + 1 - n) = (L.drop n).take (k - n) ++ [L.getD k Iv.zero] := by
  have h2 : k - n < (L.drop n).length := by rw [List.length_drop]; omega
  rw [show k + 1 - n = (k - n) + 1 by omega, List.take_succ_eq_append_getElem h2]
  simp [h, show n + (k - n) = k by omega]
end Go.Proofs.Ytmfelkncomfipaa
