import Derived.Test.YtceeeofkigkpkaaUE
namespace Go.Proofs.Ytceeeofkigkpkaa
open Go.RowKit Go.Shelf
attribute [local go_sem] Oper.semAt_some

/-! ### the iterators -/
def enR (r : Rn) : Array Value := #[.agg (rcs r)]
theorem take_split {α : Type} [Inhabited α] (L : List α) (d : α) {k : Nat} (h : k < L.length) : L = L.take k ++ L.getD k d :: L.drop (k + 1) := by
  rw [List.getD_eq_getElem?_getD, List.getElem?_eq_getElem h]
  simp
theorem take_next {α : Type} (L : List α) (d : α) {k : Nat} (h : k < L.length) : L.take (k + 1) = L.take k ++ [L.getD k d] := by
  rw [List.take_succ_eq_append_getElem h, List.getD_eq_getElem?_getD, List.getElem?_eq_getElem h]
  rfl
end Go.Proofs.Ytceeeofkigkpkaa
