import Derived.Test.YtifhkfghjifecaaIM
import Derived.Test.YtifhkfghjifecaaIU
import Derived.Deep.RegionLaw
namespace Go.Proofs.Ytifhkfghjifecaa
open Go.RowKit

/-- the boxes of CopySuper -/
structure S5 (w : World) (C : Array Value) (s : Su) (W : World) (a : Option Addr) (c : Nat) (L : List Ro) : Prop where
  p : Bx W 28 w.heap.size C
  o : Bx W 28 (w.heap.size + 1) z6
  i : Bx W 28 (w.heap.size + 1 + 1) (suH s (.slice a L.length c))
  r : JOwn w W a c L
theorem S5.keep {w : World} {C : Array Value} {s : Su} {W W' : World} {a : Option Addr} {c : Nat} {L : List Ro} (h : S5 w C s W a c L) (hb : Below W.heap.size W W') : S5 w C s W' a c L := ⟨h.p.keep hb, h.o.keep hb, h.i.keep hb, h.r.keep hb⟩
theorem S5.step {w : World} {C : Array Value} {s : Su} {W W1 W2 : World} {a : Option Addr} {c g c' : Nat} {L : List Ro} {t : Ro} (h : S5 w C s W a c L) (hb : Below W.heap.size W W1) (hR : Jw W2 (some ⟨g, 0, none⟩) c' (L ++ [t])) (hN : New W1 a (some ⟨g, 0, none⟩)) (hg : W1.grownBy W2 (a.map Addr.block)) :
    S5 w C s (W2.setCell ⟨w.heap.size + 1 + 1, 5, none⟩ (.slice (some ⟨g, 0, none⟩) (L.length + 1) c')) (some ⟨g, 0, none⟩) c' (L ++ [t]) := by
  have h1 := h.keep hb
  have hB : But (fun k => a.map Addr.block = some k) W1 W2 := (But.refl _ W1).grown hg fun k hk _ => hk
  have p2 := h1.p.but hB fun e => h1.r.r.off h1.p (by decide) _ e rfl
  have o2 := h1.o.but hB fun e => h1.r.r.off h1.o (by decide) _ e rfl
  have i2 := h1.i.but hB fun e => h1.r.r.off h1.i (by decide) _ e rfl
  have r2 := h.r.step hb hR hN hg
  have hne := hR.off i2 (by decide) g rfl
  have hS : But (fun k => k = w.heap.size + 1 + 1) W2 (W2.setCell ⟨w.heap.size + 1 + 1, 5, none⟩ (.slice (some ⟨g, 0, none⟩) (L.length + 1) c')) := (But.refl (fun k => k = w.heap.size + 1 + 1) W2).setCell (p := ⟨w.heap.size + 1 + 1, 5, none⟩) (fun _ => rfl) _
  refine ⟨p2.but hS (by omega), o2.but hS (by omega), ?_, ⟨hR.but hS (fun x hx => by cases hx; exact hne), r2.n, ((But.ofBelow (S := fun _ => False) r2.b).trans hS fun x hx e => by omega).below fun _ _ h => h⟩⟩
  have := i2.setc 5 (.slice (some ⟨g, 0, none⟩) (L.length + 1) c')
  rw [List.length_append]
  exact this
theorem S5.start (w : World) (C : Array Value) (s : Su) : S5 w C s (((w.alloc (.cells C 28)).alloc (.cells z6 28)).alloc (.cells (suH s (.slice none 0 0)) 28)) none 0 [] := by
  refine ⟨((Bx.new w 28 C).keep (al _ _)).keep (al _ _), ?_, ?_, JOwn.nil w (bt (bt (al w _) (al _ _)) (al _ _))⟩
  · have := (Bx.new (w.alloc (.cells C 28)) 28 z6).keep (al _ (.cells (suH s (.slice none 0 0)) 28))
    rwa [size_alloc] at this
  · have := Bx.new ((w.alloc (.cells C 28)).alloc (.cells z6 28)) 28 (suH s (.slice none 0 0))
    rwa [size_alloc, size_alloc] at this
theorem S5.grown {w : World} {C : Array Value} {s : Su} {W W1 W2 : World} {a : Option Addr} {c : Nat} {L : List Ro} (h : S5 w C s W a c L) (hb : Below W.heap.size W W1) (hg : W1.grownBy W2 (a.map Addr.block)) :
    W2.cell? ⟨w.heap.size + 1 + 1, 5, none⟩ = some (.slice a L.length c) ∧ W2.frozen? ⟨w.heap.size + 1 + 1, 5, none⟩ = false := by
  have h1 := h.keep hb
  have hB : But (fun k => a.map Addr.block = some k) W1 W2 := (But.refl _ W1).grown hg fun k hk _ => hk
  have i2 := h1.i.but hB fun e => h1.r.r.off h1.i (by decide) _ e rfl
  exact ⟨i2.cell 5 rfl, frozen_of_row _ _ 5 _ _ i2⟩
theorem step_apS {w : World} {ops : Array Oper} {o : Oper} {a : Act} {K : Act → World → Prop} {Q : Exit → Act → World → Prop} {E : Prop} (hgd : o.guard = none) (s x : Operand)
    (ho : o.op = .call { callee := .builtin .append, args := #[s, x], argTypes := #[26, 26] }) (ao : Option Addr) (n cap : Nat) (L : List Ro) (hs : a.eval s = .slice ao n cap) (hn : n = L.length) (hR : Jw w ao cap L)
    (ad : Addr) (c : Nat) (v : Ro) (hx : a.eval x = .slice (some ad) 1 c) (hc : ∀ j u, v.cs.toList[j]? = some u → w.cell? (ad.add j) = some u) (hlen : L.length + 1 ≤ 4398046511000)
    (h : ∀ g cap' w', Jw w' (some ⟨g, 0, none⟩) cap' (L ++ [v]) → New w ao (some ⟨g, 0, none⟩) → w.grownBy w' (ao.map Addr.block) → K (a.put o.dst (.slice (some ⟨g, 0, none⟩) (n + 1) cap')) w') :
    if Region.wanted o (yielded ops a.tmps) = true then Oper.wp Try.prog o a w K Q else E := by
  have hw : Region.wanted o (yielded ops a.tmps) = true := by simp [Region.wanted, hgd]
  rw [if_pos hw]
  exact wp_apJ s x ho ao n cap L hs hn hR ad c v hx hc hlen h
theorem takeRo (L : List Ro) {j : Nat} (h : j < L.length) : L.take (j + 1) = L.take j ++ [L.getD j ro0] := by
  rw [List.take_succ_eq_append_getElem h]; simp [h]
end Go.Proofs.Ytifhkfghjifecaa
