import Derived.Test.YtmfelkncomfipaaDWA
namespace Go.Proofs.Ytmfelkncomfipaa
set_option linter.unusedVariables false
set_option linter.unusedSimpArgs false
open Go.RowKit
theorem meant_any (w : World) (k : Int) : Calls Try.prog 41 #[.int .i64 k] w fun e w' => e = .returned (.bool (mnt k)) ∧ Below w.heap.size w w' := by
  by_cases h1 : k = 1
  · subst h1
    go_enter Try.func41, Try.ntmps41
    go_wp2
    go_ret
    exact ⟨rfl, Below.refl _ _⟩
  · by_cases h2 : k = 2
    · subst h2
      go_enter Try.func41, Try.ntmps41
      go_wp2
      go_ret
      exact ⟨rfl, Below.refl _ _⟩
    · have hm : mnt k = false := by simp [mnt, h1, h2]
      rw [hm]
      clear hm
      go_enter Try.func41, Try.ntmps41
      go_wp2
      go_ret
      exact ⟨by simp [h1, h2], Below.refl _ _⟩
theorem but_cell {S : Nat → Prop} {w w' : World} (hb : But S w w') {b o : Nat} (hn : ¬ S b) (hl : b < w.heap.size) : w'.cell? ⟨b, o, none⟩ = w.cell? ⟨b, o, none⟩ := by
  have h := hb.block b hl hn
  simp [World.cell?, h]
/-- a page in a box -/
structure Cp (v W : World) (g : Nat) (q : Pv) (P : Pg) : Prop where
  x : W.heap[g]? = some (.cells q.cs 25 (0, 0))
  n : Pn v W q
  e : q.pg = P
  b : Below v.heap.size v W
  l : v.heap.size ≤ g
end Go.Proofs.Ytmfelkncomfipaa
