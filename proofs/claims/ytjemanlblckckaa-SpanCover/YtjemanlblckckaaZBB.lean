import Derived.Test.YtjemanlblckckaaZBA
namespace Go.Proofs.Ytjemanlblckckaa
open Go.RowKit

theorem form_isSome (r : Rg) : (form r).isSome = has r (least r.lo) := by
  unfold form
  cases h : has r (least r.lo) <;> simp
theorem ends_eq {f g : Option Fm} (hf : f.isSome = true) (hg : g.isSome = true) : decide (f = g) = (decide (endL f = endL g) && decide (endH f = endH g)) := by
  obtain ⟨x, rfl⟩ := Option.isSome_iff_exists.1 hf
  obtain ⟨y, rfl⟩ := Option.isSome_iff_exists.1 hg
  rw [← Bool.decide_and, decide_eq_decide]
  unfold endL endH
  simp only [Option.some.injEq]
  exact Prod.ext_iff
theorem ends_ne {f g : Option Fm} (h : f.isSome = false ∨ g.isSome = false) : decide (f = g) = (f.isSome == g.isSome) := by
  cases f <;> cases g <;> simp_all
theorem drew1 (w : World) : Below w.heap.size w w.drew := (Below.refl _ _).drew
theorem s6_keep {w w' : World} {g k : Nat} {a b c x y z : Value} (h : (w.cell? ⟨g, 0, none⟩ = some a ∧ w.cell? ⟨g, 1, none⟩ = some b ∧ w.cell? ⟨g, 2, none⟩ = some c) ∧ w.cell? ⟨k, 0, none⟩ = some x ∧ w.cell? ⟨k, 1, none⟩ = some y ∧ w.cell? ⟨k, 2, none⟩ = some z) (hb : Below w.heap.size w w') : (w'.cell? ⟨g, 0, none⟩ = some a ∧ w'.cell? ⟨g, 1, none⟩ = some b ∧ w'.cell? ⟨g, 2, none⟩ = some c) ∧ w'.cell? ⟨k, 0, none⟩ = some x ∧ w'.cell? ⟨k, 1, none⟩ = some y ∧ w'.cell? ⟨k, 2, none⟩ = some z := ⟨three_keep h.1 hb, three_keep h.2 hb⟩
end Go.Proofs.Ytjemanlblckckaa
