import Derived.Test.YtifhkfghjifecaaPWX
import Derived.Test.YtifhkfghjifecaaNB
import Derived.Test.YtifhkfghjifecaaPSX
namespace Go.Proofs.Ytifhkfghjifecaa
open Go.RowKit

/-! ### a writer of a block: its memory lies apart from v and from the blocks of G -/
def Wk (v : World) (G : Nat → Prop) (w : World) (b : Nat) (l : List Nat) : Prop :=
  Below v.heap.size v w ∧ ∃ a cap, Wt 104 w b a cap ⟨512, l, 0⟩ ∧ ∀ k, Ft b a k → v.heap.size ≤ k ∧ ¬ G k
/-- what a call has done -/
structure Dk (v : World) (G : Nat → Prop) (w w' : World) (b : Nat) (l : List Nat) : Prop where
  k : Wk v G w' b l
  g : ∀ k, k < w.heap.size → G k → w'.heap[k]? = w.heap[k]?
  s : w.heap.size ≤ w'.heap.size
def Gl (G : Nat → Prop) (w : World) : Prop := ∀ k, G k → k < w.heap.size
theorem Dk.of {v w w' : World} {G : Nat → Prop} {b : Nat} {l l' : List Nat} {a : Option Addr} {cap : Nat} (h1 : Below v.heap.size v w) (h2 : Wt 104 w b a cap ⟨512, l, 0⟩) (h3 : ∀ k, Ft b a k → v.heap.size ≤ k ∧ ¬ G k) (hG : Gl G w) (hd : Did 104 w w' b a ⟨512, l', 0⟩) : Dk v G w w' b l' := by
  obtain ⟨a', cap', k1, k2, k3⟩ := hd
  have hb : Below v.heap.size v w' := ((But.ofBelow (S := fun _ => False) h1).trans k3 fun x hx hf => by have := (h3 x hf).1; omega).below fun _ _ h => h
  refine ⟨⟨hb, a', cap', k1, ?_⟩, fun k hk hg => k3.block k hk fun hf => (h3 k hf).2 hg, k3.size⟩
  rintro k (rfl | ⟨x, hx, rfl⟩)
  · exact h3 k (.inl rfl)
  · rcases k2 x hx with ⟨y, hy, e⟩ | h4
    · rw [← e]; exact h3 _ (.inr ⟨y, hy, rfl⟩)
    · have := h1.size
      exact ⟨by omega, fun hg => by have := hG _ hg; omega⟩
theorem Wk.keep {v w w' : World} {G : Nat → Prop} {b : Nat} {l : List Nat} (h : Wk v G w b l) (hb : Below w.heap.size w w') : Wk v G w' b l := by
  obtain ⟨h1, a, cap, h2, h3⟩ := h
  exact ⟨bt h1 hb, a, cap, h2.keep hb, h3⟩
theorem Wk.len {v w : World} {G : Nat → Prop} {b : Nat} {l : List Nat} (h : Wk v G w b l) : l.length ≤ 512 := by
  obtain ⟨_, a, cap, h2, _⟩ := h
  exact h2.2.2.2.1
/-- one block more is watched -/
theorem Wk.more {v w w' : World} {G : Nat → Prop} {b : Nat} {l : List Nat} (h : Wk v G w b l) (hb : Below w.heap.size w w') (G' : Nat → Prop) (hg : ∀ k, G' k → G k ∨ w.heap.size ≤ k) : Wk v G' w' b l := by
  obtain ⟨h1, a, cap, h2, h3⟩ := h
  refine ⟨bt h1 hb, a, cap, h2.keep hb, fun k hk => ⟨(h3 k hk).1, fun hg' => ?_⟩⟩
  rcases hg k hg' with h | h
  · exact (h3 k hk).2 h
  · rcases hk with rfl | ⟨x, hx, rfl⟩
    · have := h2.lt; omega
    · have := h2.2.1.lt hx; omega
theorem Dk.refl {v w : World} {G : Nat → Prop} {b : Nat} {l : List Nat} (h : Wk v G w b l) : Dk v G w w b l := ⟨h, fun _ _ _ => rfl, Nat.le_refl _⟩
theorem Dk.trans {v w w1 w2 : World} {G : Nat → Prop} {b : Nat} {l l' : List Nat} (h : Dk v G w w1 b l) (k : Dk v G w1 w2 b l') : Dk v G w w2 b l' :=
  ⟨k.k, fun i hi hg => (k.g i (Nat.lt_of_lt_of_le hi h.s) hg).trans (h.g i hi hg), Nat.le_trans h.s k.s⟩
theorem Dk.keep {v w w1 w2 : World} {G : Nat → Prop} {b : Nat} {l : List Nat} (h : Dk v G w w1 b l) (hb : Below w1.heap.size w1 w2) : Dk v G w w2 b l :=
  ⟨h.k.keep hb, fun i hi hg => (hb.block i (Nat.lt_of_lt_of_le hi h.s)).trans (h.g i hi hg), Nat.le_trans h.s hb.size⟩
theorem Dk.gl {v w w1 : World} {G : Nat → Prop} {b : Nat} {l : List Nat} (h : Dk v G w w1 b l) (hG : Gl G w) : Gl G w1 := fun k hk => Nat.lt_of_lt_of_le (hG k hk) h.s
theorem Dk.box {v w w1 : World} {G : Nat → Prop} {b : Nat} {l : List Nat} (h : Dk v G w w1 b l) {g : Nat} {o : Obj} (hg : w.heap[g]? = some o) (hG : G g) : w1.heap[g]? = some o := (h.g g (Array.getElem?_eq_some_iff.1 hg).1 hG).trans hg
/-- back in the caller -/
theorem Dk.back {v w w0 w1 : World} {G G' : Nat → Prop} {b : Nat} {l : List Nat} (hb : Below w.heap.size w w0) (h : Dk v G' w0 w1 b l) (hG : ∀ k, G k → G' k) : Dk v G w w1 b l := by
  obtain ⟨h1, a, cap, h2, h3⟩ := h.k
  exact ⟨⟨h1, a, cap, h2, fun k hk => ⟨(h3 k hk).1, fun hg => (h3 k hk).2 (hG k hg)⟩⟩, fun k hk hg => (h.g k (Nat.lt_of_lt_of_le hk hb.size) (hG k hg)).trans (hb.block k hk), Nat.le_trans hb.size h.s⟩

section
variable {v w : World} {G : Nat → Prop} {b : Nat} {l : List Nat}
theorem put_512 {l p : List Nat} (hp : l.length + p.length ≤ 512) : (⟨512, l, 0⟩ : WS).put p = ⟨512, l ++ p, 0⟩ := WS.put_fits rfl hp
theorem wPut8 (h : Wk v G w b l) (hG : Gl G w) (x : Nat) (hx : x < 256) (hl : l.length + 1 ≤ 512) : Calls Try.prog 68 #[.pointer (some ⟨b, 0, none⟩), .int .u8 (x : Int)] w fun y w' => y = .returned (.tuple #[]) ∧ Dk v G w w' b (l ++ numB x 1) := by
  obtain ⟨h1, a, cap, h2, h3⟩ := h
  refine (Put8_any w b a cap ⟨512, l, 0⟩ x hx h2).mono ?_
  rintro y w' ⟨rfl, hd⟩
  rw [put_512 (by rw [numB_length]; exact hl)] at hd
  exact ⟨rfl, Dk.of h1 h2 h3 hG hd⟩
theorem wPut32 (h : Wk v G w b l) (hG : Gl G w) (x : Nat) (hx : x < 4294967296) (hl : l.length + 4 ≤ 512) : Calls Try.prog 66 #[.pointer (some ⟨b, 0, none⟩), .int .u32 (x : Int)] w fun y w' => y = .returned (.tuple #[]) ∧ Dk v G w w' b (l ++ numB x 4) := by
  obtain ⟨h1, a, cap, h2, h3⟩ := h
  refine (Put32_any w b a cap ⟨512, l, 0⟩ x hx h2).mono ?_
  rintro y w' ⟨rfl, hd⟩
  rw [put_512 (by rw [numB_length]; exact hl)] at hd
  exact ⟨rfl, Dk.of h1 h2 h3 hG hd⟩
theorem wPut64 (h : Wk v G w b l) (hG : Gl G w) (x : Nat) (hx : x < 18446744073709551616) (hl : l.length + 8 ≤ 512) : Calls Try.prog 67 #[.pointer (some ⟨b, 0, none⟩), .int .u64 (x : Int)] w fun y w' => y = .returned (.tuple #[]) ∧ Dk v G w w' b (l ++ numB x 8) := by
  obtain ⟨h1, a, cap, h2, h3⟩ := h
  refine (Put64_any w b a cap ⟨512, l, 0⟩ x hx h2).mono ?_
  rintro y w' ⟨rfl, hd⟩
  rw [put_512 (by rw [numB_length]; exact hl)] at hd
  exact ⟨rfl, Dk.of h1 h2 h3 hG hd⟩
theorem Bs.lt {w : World} {a : Option Addr} {l : List Nat} (h : Bs w a l) {x : Addr} (hx : a = some x) (h0 : l ≠ []) : x.block < w.heap.size := by
  obtain ⟨_, _, h⟩ := h
  rcases h with h | ⟨b, off, e, hc⟩
  · exact absurd h h0
  · rw [hx, Option.some.injEq] at e
    subst e
    exact block_lt_of_cell (a := ⟨b, off + 0, none⟩) (hc 0 (List.length_pos_iff.2 h0))
theorem wFill (h : Wk v G w b l) (hG : Gl G w) (hl : l.length ≤ 508) : Calls Try.prog 76 #[.pointer (some ⟨b, 0, none⟩), .int .i64 508] w fun y w' => y = .returned (.tuple #[]) ∧ Dk v G w w' b (l ++ List.replicate (508 - l.length) 0) := by
  obtain ⟨h1, a, cap, h2, h3⟩ := h
  refine (Fill_any w b a cap ⟨512, l, 0⟩ 508 h2 (by decide)).mono ?_
  rintro y w' ⟨rfl, hd⟩
  have e : (⟨512, l, 0⟩ : WS).fill 508 = ⟨512, l ++ List.replicate (508 - l.length) 0, 0⟩ := by
    unfold WS.fill
    rw [if_neg (by simp), if_neg (by simp only []; omega), if_neg (by simp)]
    rfl
  rw [e] at hd
  exact ⟨rfl, Dk.of h1 h2 h3 hG hd⟩
theorem wDone (h : Wk v G w b l) : Calls Try.prog 77 #[.pointer (some ⟨b, 0, none⟩)] w fun y w' => ∃ a' cap', y = .returned (.tuple #[.slice a' l.length cap', .int .i64 0]) ∧ Own w w' a' cap' l := by
  obtain ⟨h1, a, cap, h2, h3⟩ := h
  refine (Done_ok w b a cap ⟨512, l, 0⟩ h2 rfl).mono ?_
  rintro y w' ⟨a', cap', rfl, k1, k2, k3⟩
  exact ⟨a', cap', rfl, k1, k2, k3⟩
theorem Wk.b8 (h : Wk v G w b l) : B8 l := by
  obtain ⟨h1, a, cap, h2, h3⟩ := h
  exact h2.2.2.2.2
theorem wNew (v : World) : Calls Try.prog 65 #[.int .i64 512] v fun y w' => y = .returned (.pointer (some ⟨v.heap.size, 0, none⟩)) ∧ Wk v (fun _ => False) w' v.heap.size [] := by
  refine (NewWriter_any v 512).mono ?_
  rintro y w' ⟨rfl, h1, h2⟩
  refine ⟨rfl, h2, none, 0, h1, ?_⟩
  rintro k (rfl | ⟨x, hx, _⟩)
  · exact ⟨Nat.le_refl _, id⟩
  · cases hx
end
end Go.Proofs.Ytifhkfghjifecaa
