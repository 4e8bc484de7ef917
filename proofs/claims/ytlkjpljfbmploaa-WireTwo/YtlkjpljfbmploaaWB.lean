import Derived.Test.YtlkjpljfbmploaaWA
import Derived.BigRegion
import Derived.BigQuiet
import Derived.Deep.QuietTactic
namespace Go.Proofs.Ytlkjpljfbmploaa
open Go.RowKit

theorem But.cell1 (w : World) (b i : Nat) (u : Value) : But (fun k => k = b) w (w.setCell ⟨b, i, none⟩ u) := (But.refl (fun k => k = b) w).setCell (p := ⟨b, i, none⟩) (fun _ => rfl) u

/-- a writer, as the document has it -/
structure WS where
  most : Nat
  l : List Nat
  e : Nat
def WS.ok (s : WS) : Prop := s.most ≤ 16777216 ∧ s.l.length ≤ s.most ∧ ∀ x ∈ s.l, x < 256
def WS.err (s : WS) (e : Nat) : WS := ⟨s.most, s.l, e⟩
def WS.put (s : WS) (p : List Nat) : WS := if s.e ≠ 0 then s else if s.most < s.l.length + p.length then s.err 4 else ⟨s.most, s.l ++ p, 0⟩
def WS.short (s : WS) (p : List Nat) : WS := if s.e ≠ 0 then s else if 255 < p.length then s.err 3 else s.put (p.length :: p)
def WS.fill (s : WS) (n : Int) : WS := if s.e ≠ 0 then s else if n < s.l.length then s.err 3 else if (s.most : Int) < n then s.err 4 else ⟨s.most, s.l ++ List.replicate (n.toNat - s.l.length) 0, 0⟩
theorem WS.ok.err {s : WS} (h : s.ok) (e : Nat) : (s.err e).ok := h
theorem WS.put_ok {s : WS} (h : s.ok) {p : List Nat} (hp : ∀ x ∈ p, x < 256) : (s.put p).ok := by
  unfold WS.put
  split
  · exact h
  · split
    · exact h.err 4
    · rename_i h1 h2
      refine ⟨h.1, ?_, ?_⟩
      · show (s.l ++ p).length ≤ s.most
        rw [List.length_append]; omega
      · intro x hx
        rcases List.mem_append.1 hx with hx | hx
        · exact h.2.2 x hx
        · exact hp x hx
theorem WS.put_err {s : WS} (h : s.e ≠ 0) (p : List Nat) : s.put p = s := by unfold WS.put; rw [if_pos h]
theorem WS.put_many {s : WS} (h : s.e = 0) {p : List Nat} (hm : s.most < s.l.length + p.length) : s.put p = s.err 4 := by unfold WS.put; rw [if_neg (by omega), if_pos hm]
theorem WS.put_fits {s : WS} (h : s.e = 0) {p : List Nat} (hm : s.l.length + p.length ≤ s.most) : s.put p = ⟨s.most, s.l ++ p, 0⟩ := by unfold WS.put; rw [if_neg (by omega), if_neg (by omega)]

/-- a writer in memory -/
def Wt (T : TypeId) (w : World) (b : Nat) (a : Option Addr) (cap : Nat) (s : WS) : Prop :=
  w.heap[b]? = some (.cells #[.int .i64 (s.most : Int), .slice a s.l.length cap, .int .i64 (s.e : Int)] T (0, 0)) ∧ Rw w a cap s.l ∧ s.ok
/-- the blocks of a writer -/
def Ft (b : Nat) (a : Option Addr) (k : Nat) : Prop := k = b ∨ ∃ x, a = some x ∧ x.block = k
/-- what a call of a writer has done -/
def Did (T : TypeId) (w w' : World) (b : Nat) (a : Option Addr) (s' : WS) : Prop := ∃ a' cap', Wt T w' b a' cap' s' ∧ New w a a' ∧ But (Ft b a) w w'

section
variable {T : TypeId} {w w' : World} {b : Nat} {a : Option Addr} {cap : Nat} {s : WS}
theorem Wt.lt (h : Wt T w b a cap s) : b < w.heap.size := (Array.getElem?_eq_some_iff.1 h.1).1
theorem Wt.c0 (h : Wt T w b a cap s) : w.cell? ⟨b, 0, none⟩ = some (.int .i64 (s.most : Int)) := by rw [cell_of_row _ _ _ _ _ _ h.1]; rfl
theorem Wt.c1 (h : Wt T w b a cap s) : w.cell? ⟨b, 1, none⟩ = some (.slice a s.l.length cap) := by rw [cell_of_row _ _ _ _ _ _ h.1]; rfl
theorem Wt.c2 (h : Wt T w b a cap s) : w.cell? ⟨b, 2, none⟩ = some (.int .i64 (s.e : Int)) := by rw [cell_of_row _ _ _ _ _ _ h.1]; rfl
theorem Wt.f (h : Wt T w b a cap s) (i : Nat) : w.frozen? ⟨b, i, none⟩ = false := frozen_of_row w b i _ _ h.1
/-- the struct's block is not the bytes' one -/
theorem Wt.ne (h : Wt T w b a cap s) (hT : T ≠ 5) {x : Addr} (hx : a = some x) : x.block ≠ b := by
  intro e
  rcases h.2.1.cases with ⟨h0, _⟩ | ⟨g, cur, h0, hg, _⟩
  · rw [hx] at h0; cases h0
  · rw [hx, Option.some.injEq] at h0
    subst h0
    have e' : g = b := e
    subst e'
    have := h.1
    rw [hg] at this
    simp at this
    exact hT this.2.symm
theorem Wt.but {S : Nat → Prop} (h : Wt T w b a cap s) (hb : But S w w') (hn : ∀ k, Ft b a k → ¬ S k) : Wt T w' b a cap s :=
  ⟨(hb.block b h.lt (hn b (.inl rfl))).trans h.1, h.2.1.but hb fun x hx => hn _ (.inr ⟨x, hx, rfl⟩), h.2.2⟩
theorem Wt.keep (h : Wt T w b a cap s) (hb : Below w.heap.size w w') : Wt T w' b a cap s := h.but (S := fun _ => False) (But.ofBelow hb) fun _ _ hf => hf
theorem Wt.drew (h : Wt T w b a cap s) : Wt T w.drew b a cap s := h.keep (Below.refl _ _).drew
theorem Wt.alloc (h : Wt T w b a cap s) (o : Obj) : Wt T (w.alloc o) b a cap s := h.keep ((Below.refl _ _).alloc (Nat.le_refl _) o)
theorem Wt.setE (h : Wt T w b a cap s) (hT : T ≠ 5) (e : Nat) : Wt T (w.setCell ⟨b, 2, none⟩ (.int .i64 (e : Int))) b a cap (s.err e) := by
  refine ⟨heap_setCell_same w b 2 _ _ _ h.1, ?_, h.2.2⟩
  exact h.2.1.but (S := fun k => k = b) (But.cell1 _ _ _ _) fun x hx => h.ne hT hx
theorem Did.same (h : Wt T w' b a cap s) (hb : But (Ft b a) w w') : Did T w w' b a s := ⟨a, cap, h, New.refl _ _, hb⟩
theorem But.toFt {b : Nat} (a : Option Addr) (hb : But (fun k => k = b) w w') : But (Ft b a) w w' := hb.mono fun _ _ e => .inl e
/-- the bytes have grown in memory, and the field is written -/
theorem Wt.grow (h : Wt T w b a cap s) (hT : T ≠ 5) {w1 : World} {a' : Option Addr} {n cap' : Nat} {p : List Nat} (hR : Rw w1 a' cap' (s.l ++ p)) (hN : New w a a') (hg : w.grownBy w1 (a.map Addr.block))
    (hp : ∀ x ∈ p, x < 256) (hm : s.l.length + p.length ≤ s.most) (he : s.e = 0) (hn : n = s.l.length + p.length) :
    Wt T (w1.setCell ⟨b, 1, none⟩ (.slice a' n cap')) b a' cap' ⟨s.most, s.l ++ p, 0⟩ ∧ New w a a' ∧ But (Ft b a) w (w1.setCell ⟨b, 1, none⟩ (.slice a' n cap')) := by
  have hb1 : But (Ft b a) w w1 := (But.refl _ _).grown hg fun k hk _ => by
    obtain ⟨x, hx, e⟩ := map_some hk
    exact .inr ⟨x, hx, e⟩
  have hblk : w1.heap[b]? = w.heap[b]? := hg.block b h.lt fun e => by
    obtain ⟨x, hx, e⟩ := map_some e.symm
    exact h.ne hT hx e
  have hne : ∀ x, a' = some x → x.block ≠ b := by
    intro x hx e
    rcases hN x hx with ⟨y, hy, e2⟩ | h2
    · exact h.ne hT hy (e2.trans e)
    · have := h.lt; omega
  refine ⟨⟨?_, ?_, h.2.2.1, ?_, ?_⟩, hN, hb1.setCell (fun _ => .inl rfl) _⟩
  · rw [heap_setCell_same w1 b 1 _ _ _ (hblk.trans h.1)]
    subst hn
    simp [he]
  · exact hR.but (S := fun k => k = b) (But.cell1 _ _ _ _) fun x hx => hne x hx
  · show (s.l ++ p).length ≤ s.most
    rw [List.length_append]; exact hm
  · intro x hx
    rcases List.mem_append.1 hx with hx | hx
    · exact h.2.2.2.2 x hx
    · exact hp x hx
theorem Did.trans {w1 w2 : World} {s1 s2 : WS} (h : Did T w w1 b a s1) (k : ∀ a1 cap1, Wt T w1 b a1 cap1 s1 → Did T w1 w2 b a1 s2) : Did T w w2 b a s2 := by
  obtain ⟨a1, cap1, h1, h2, h3⟩ := h
  obtain ⟨a2, cap2, k1, k2, k3⟩ := k a1 cap1 h1
  refine ⟨a2, cap2, k1, h2.trans k2 h3.size, h3.trans k3 ?_⟩
  rintro x hx (rfl | ⟨y, hy, e⟩)
  · exact .inl rfl
  · rcases h2 y hy with ⟨z, hz, e2⟩ | h4
    · exact .inr ⟨z, hz, e2.trans e⟩
    · omega
end

set_option maxHeartbeats 400000 in
theorem fail_ok (w : World) (b : Nat) (a : Option Addr) (cap : Nat) (s : WS) (e : Nat) (h : Wt 68 w b a cap s) (he : s.e = 0) :
    Calls Try.prog 58 #[.pointer (some ⟨b, 0, none⟩), .int .i64 (e : Int)] w fun x w' => x = .returned (.tuple #[]) ∧ Wt 68 w' b a cap (s.err e) ∧ But (fun k => k = b) w w' := by
  have c2 := h.c2
  have f2 := h.f 2
  rw [he] at c2
  have H := hide h
  clear h he
  go_enter Try.func58, Try.ntmps58
  go_wp2
  go_end0
  exact ⟨rfl, H.out.setE (by decide) e, But.cell1 _ _ _ _⟩
set_option maxHeartbeats 400000 in
theorem fail_err (w : World) (b : Nat) (a : Option Addr) (cap : Nat) (s : WS) (e : Nat) (h : Wt 68 w b a cap s) (he : s.e ≠ 0) :
    Calls Try.prog 58 #[.pointer (some ⟨b, 0, none⟩), .int .i64 (e : Int)] w fun x w' => x = .returned (.tuple #[]) ∧ w' = w := by
  have c2 := h.c2
  have hz : (((s.e : Nat) : Int) == 0) = false := by simp; omega
  clear h he
  go_enter Try.func58, Try.ntmps58
  go_wp2
  go_end0
  exact ⟨rfl, rfl⟩
end Go.Proofs.Ytlkjpljfbmploaa
