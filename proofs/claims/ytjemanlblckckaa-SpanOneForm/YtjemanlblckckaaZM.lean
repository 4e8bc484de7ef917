import Derived.Test.YtjemanlblckckaaZI
namespace Go.Proofs.Ytjemanlblckckaa
open Go.RowKit

def grt (a b : List Nat) : List Nat := if cmpB a b < 0 then b else a
def lsr (a b : List Nat) : List Nat := if cmpB a b < 0 then a else b
def meet (a b : Rg) : Rg := ⟨grt a.lo b.lo, if a.op then (if b.op then [] else b.hi) else (if b.op then a.hi else lsr a.hi b.hi), a.op && b.op⟩
def above (p : List Nat) : Rg := ⟨p, beh p, decide (beh p = [])⟩
def Rb (r : Rv) : Prop := r.lo.length ≤ 140737488355328 ∧ r.hi.length ≤ 140737488355328
theorem grt_len {a b : List Nat} {n : Nat} (ha : a.length ≤ n) (hb : b.length ≤ n) : (grt a b).length ≤ n := by unfold grt; split <;> assumption
theorem lsr_len {a b : List Nat} {n : Nat} (ha : a.length ≤ n) (hb : b.length ≤ n) : (lsr a b).length ≤ n := by unfold lsr; split <;> assumption
theorem grt_b8 {a b : List Nat} (ha : B8 a) (hb : B8 b) : B8 (grt a b) := by unfold grt; split <;> assumption
theorem lsr_b8 {a b : List Nat} (ha : B8 a) (hb : B8 b) : B8 (lsr a b) := by unfold lsr; split <;> assumption
theorem three_blocks (w : World) (o p q : Obj) {w1 : World} (hb : Below (((w.alloc o).alloc p).alloc q).heap.size (((w.alloc o).alloc p).alloc q) w1) : w1.heap[w.heap.size]? = some o ∧ w1.heap[w.heap.size + 1]? = some p ∧ w1.heap[w.heap.size + 2]? = some q ∧ Below w.heap.size w w1 ∧ w.heap.size + 3 ≤ w1.heap.size := by
  have hs : (((w.alloc o).alloc p).alloc q).heap.size = w.heap.size + 3 := by rw [size_alloc, size_alloc, size_alloc]
  have h2 := two_blocks w o p (bt (al ((w.alloc o).alloc p) q) hb)
  refine ⟨h2.1, h2.2.1, (hb.block _ (by rw [hs]; omega)).trans ?_, h2.2.2.1, by have := hb.size; omega⟩
  have := heap_alloc_new ((w.alloc o).alloc p) q
  rw [size_alloc, size_alloc] at this
  exact this
theorem Own.setCell {w wx : World} {a : Option Addr} {cap : Nat} {l : List Nat} (h : Own w wx a cap l) {p : Addr} (hg : w.heap.size ≤ p.block) (hn : ∀ x, a = some x → x.block ≠ p.block) (v : Value) : Own w (wx.setCell p v) a cap l :=
  ⟨h.r.but (S := fun k => k = p.block) ⟨rfl, rfl, rfl, by simp [World.setCell], fun k _ hk => Below.heap_setCell _ _ _ _ (by simpa using hk)⟩ (fun x hx e => hn x hx e), h.n, h.b.setCell hg v⟩
end Go.Proofs.Ytjemanlblckckaa
