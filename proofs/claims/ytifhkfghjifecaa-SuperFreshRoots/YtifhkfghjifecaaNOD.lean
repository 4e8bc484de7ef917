import Derived.Test.YtifhkfghjifecaaNK
namespace Go.Proofs.Ytifhkfghjifecaa
open Go.RowKit

structure Od (v : World) (G : Nat → Prop) (w w' : World) (a : Option Addr) (cap : Nat) (l : List Nat) : Prop where
  r : Rw w' a cap l
  b : Below v.heap.size v w'
  f : ∀ x, a = some x → v.heap.size ≤ x.block ∧ ¬ G x.block
  g : ∀ k, k < w.heap.size → G k → w'.heap[k]? = w.heap[k]?
  s : w.heap.size ≤ w'.heap.size
section
variable {v w w' w1 w2 w3 : World} {G : Nat → Prop} {a a' : Option Addr} {cap cap' : Nat} {l l' : List Nat}
theorem Od.gl (h : Od v G w w1 a cap l) (hG : Gl G w) : Gl G w1 := fun k hk => Nat.lt_of_lt_of_le (hG k hk) h.s
theorem Od.keep (h : Od v G w w1 a cap l) (hb : Below w1.heap.size w1 w2) : Od v G w w2 a cap l :=
  ⟨h.r.keep hb, bt h.b hb, h.f, fun i hi hg => (hb.block i (Nat.lt_of_lt_of_le hi h.s)).trans (h.g i hi hg), Nat.le_trans h.s hb.size⟩
theorem Od.grow (h : Od v G w w1 a cap l) (hG : Gl G w) (hR : Rw w2 a' cap' l') (hN : New w1 a a') (hg : w1.grownBy w2 (a.map Addr.block)) : Od v G w w2 a' cap' l' := by
  have hB : But (fun k => a.map Addr.block = some k) w1 w2 := (But.refl _ _).grown hg fun k hk _ => hk
  have hf : ∀ k, a.map Addr.block = some k → v.heap.size ≤ k ∧ ¬ G k := fun k hk => by
    obtain ⟨x, hx, e⟩ := map_some hk
    rw [← e]; exact h.f x hx
  refine ⟨hR, ((But.ofBelow (S := fun _ => False) h.b).trans hB fun x hx hk => by have := (hf x hk).1; omega).below fun _ _ h => h, fun x hx => ?_, fun k hk hg' => (hB.block k (Nat.lt_of_lt_of_le hk h.s) fun e => (hf k e).2 hg').trans (h.g k hk hg'), Nat.le_trans h.s hB.size⟩
  rcases hN x hx with ⟨y, hy, e⟩ | h4
  · rw [← e]; exact h.f y hy
  · have := h.b.size
    have := h.s
    exact ⟨by omega, fun hg' => by have := hG _ hg'; omega⟩
theorem Od.trans (h : Od v G w w1 a cap l) (k : Od v G w1 w2 a' cap' l') : Od v G w w2 a' cap' l' :=
  ⟨k.r, k.b, k.f, fun i hi hg => (k.g i (Nat.lt_of_lt_of_le hi h.s) hg).trans (h.g i hi hg), Nat.le_trans h.s k.s⟩
theorem Od.refl' (h : Od v G w w1 a cap l) : Od v G w1 w1 a cap l := ⟨h.r, h.b, h.f, fun _ _ _ => rfl, Nat.le_refl _⟩
theorem Od.box (h : Od v G w w1 a cap l) {g : Nat} {o : Obj} (hg : w.heap[g]? = some o) (hG : G g) : w1.heap[g]? = some o := (h.g g (Array.getElem?_eq_some_iff.1 hg).1 hG).trans hg
/-- other blocks are watched -/
theorem Od.more (h : Od v G w w1 a cap l) (hb : Below w1.heap.size w1 w2) (G' : Nat → Prop) (hg : ∀ k, G' k → G k ∨ w1.heap.size ≤ k) : Od v G' w2 w2 a cap l :=
  ⟨h.r.keep hb, bt h.b hb, fun x hx => ⟨(h.f x hx).1, fun hg' => by
    rcases hg _ hg' with h1 | h1
    · exact (h.f x hx).2 h1
    · have := h.r.lt hx; omega⟩, fun _ _ _ => rfl, Nat.le_refl _⟩
theorem Od.back {w0 : World} {G' : Nat → Prop} (h0 : Od v G w w0 a cap l) (hb : Below w0.heap.size w0 w1) (h : Od v G' w1 w2 a' cap' l') (hG : ∀ k, G k → G' k) : Od v G w w2 a' cap' l' :=
  ⟨h.r, h.b, fun x hx => ⟨(h.f x hx).1, fun hg => (h.f x hx).2 (hG _ hg)⟩, fun k hk hg => (h.g k (by have := h0.s; have := hb.size; omega) (hG k hg)).trans ((hb.block k (by have := h0.s; omega)).trans (h0.g k hk hg)), Nat.le_trans h0.s (Nat.le_trans hb.size h.s)⟩
theorem Od.own (h : Od v G w w1 a cap l) : Own v w1 a cap l := ⟨h.r, fun x hx => .inr (h.f x hx).1, h.b⟩
end
theorem Od.first {v w : World} {a : Option Addr} {cap : Nat} {l : List Nat} (h : Own v w a cap l) : Od v (fun _ => False) w w a cap l := ⟨h.r, h.b, fun _ hx => ⟨h.fresh hx, id⟩, fun _ _ h => h.elim, Nat.le_refl _⟩
end Go.Proofs.Ytifhkfghjifecaa
