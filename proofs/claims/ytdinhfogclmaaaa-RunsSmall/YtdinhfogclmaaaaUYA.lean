import Derived.Test.YtdinhfogclmaaaaUK
import Derived.Test.YtdinhfogclmaaaaUM
import Derived.Test.YtdinhfogclmaaaaUXC
import Derived.Deep.CutRange
namespace Go.Proofs.Ytdinhfogclmaaaa
set_option linter.unusedVariables false
open Go.RowKit

/-! ### the document's runs in memory -/
namespace Rf
def rcs (r : Rn) : Array Value := #[.int .i64 r.1, .int .i64 r.2]
theorem infoRun : (Try.prog.info? 87).map (fun i => (i.zero, i.size, i.bytes)) = some (some (.agg (rcs Rn.zero)), 2, 16) := by kernel_rfl
theorem rcs_one (r : Rn) : ∀ u ∈ (rcs r).toList, u.oneCell' = true := by
  intro u hu
  simp [rcs] at hu
  rcases hu with rfl | rfl <;> rfl
def rc (L : List Rn) : List Value := (L.map fun r => (rcs r).toList).flatten
theorem rc_nil : rc [] = [] := rfl
theorem rc_cons (r : Rn) (L : List Rn) : rc (r :: L) = .int .i64 r.1 :: .int .i64 r.2 :: rc L := by simp [rc, rcs]
theorem rc_append (L M : List Rn) : rc (L ++ M) = rc L ++ rc M := by simp [rc]
theorem rc_length (L : List Rn) : (rc L).length = L.length * 2 := by
  induction L with
  | nil => rfl
  | cons r L ih => rw [rc_cons, List.length_cons, List.length_cons, ih, List.length_cons]; omega
theorem rc_one (L : List Rn) : ∀ u ∈ rc L, u.oneCell' = true := by
  intro u hu
  obtain ⟨l, hl, h⟩ := List.mem_flatten.1 hu
  obtain ⟨r, _, rfl⟩ := List.mem_map.1 hl
  exact rcs_one r u h
theorem rc_get (L : List Rn) : ∀ (i : Nat), i < L.length → (rc L)[i * 2]? = some (.int .i64 (L.getD i Rn.zero).1) ∧ (rc L)[i * 2 + 1]? = some (.int .i64 (L.getD i Rn.zero).2) := by
  induction L with
  | nil => intro i hi; simp at hi
  | cons r L ih =>
    intro i hi
    rw [rc_cons]
    cases i with
    | zero => exact ⟨rfl, rfl⟩
    | succ i =>
      have h := ih i (by simpa using hi)
      rw [show (i + 1) * 2 = i * 2 + 1 + 1 by omega, List.getElem?_cons_succ, List.getElem?_cons_succ, show i * 2 + 1 + 1 + 1 = i * 2 + 1 + 1 + 1 by rfl, List.getElem?_cons_succ, List.getElem?_cons_succ]
      exact h

/-- runs that can be read -/
def Vs (w : World) (a : Option Addr) (L : List Rn) : Prop := L = [] ∨ ∃ b o, a = some ⟨b, o, none⟩ ∧ Cs w b o (rc L)
theorem Vs.keep {w w' : World} {a : Option Addr} {L : List Rn} (h : Vs w a L) (hb : Below w.heap.size w w') : Vs w' a L := h.imp id fun ⟨b, o, e, hc⟩ => ⟨b, o, e, hc.keep hb⟩
theorem Vs.but {S : Nat → Prop} {w w' : World} {a : Option Addr} {L : List Rn} (h : Vs w a L) (hb : But S w w') (hn : ∀ x, a = some x → ¬ S x.block) : Vs w' a L := h.imp id fun ⟨b, o, e, hc⟩ => ⟨b, o, e, hc.but hb (hn _ e)⟩
theorem Vs.nil (w : World) (a : Option Addr) : Vs w a [] := .inl rfl
theorem Vs.at {w : World} {a : Option Addr} {L : List Rn} (h : Vs w a L) {i : Nat} (hi : i < L.length) : ∃ b o, a = some ⟨b, o, none⟩ ∧ w.cell? ⟨b, o + i * 2, none⟩ = some (.int .i64 (L.getD i Rn.zero).1) ∧ w.cell? ⟨b, o + i * 2 + 1, none⟩ = some (.int .i64 (L.getD i Rn.zero).2) := by
  rcases h with rfl | ⟨b, o, e, hc⟩
  · simp at hi
  · obtain ⟨h1, h2⟩ := rc_get L i hi
    exact ⟨b, o, e, hc _ _ h1, hc _ _ h2⟩
/-- a block of runs -/
def Rowb (w : World) (g : Nat) (C : List Value) : Prop := w.heap[g]? = some (.cells C.toArray 87 (0, 0))
theorem Rowb.but {S : Nat → Prop} {w w' : World} {g : Nat} {C : List Value} (h : Rowb w g C) (hb : But S w w') (hn : ¬ S g) : Rowb w' g C := hb.same h hn
theorem Rowb.keep {w w' : World} {g : Nat} {C : List Value} (h : Rowb w g C) (hb : Below w.heap.size w w') : Rowb w' g C := (hb.block g (Array.getElem?_eq_some_iff.1 h).1).trans h
theorem Rowb.lt {w : World} {g : Nat} {C : List Value} (h : Rowb w g C) : g < w.heap.size := (Array.getElem?_eq_some_iff.1 h).1
theorem Rowb.cs {w : World} {g : Nat} {C : List Value} (h : Rowb w g C) {P X Y : List Value} (e : C = P ++ X ++ Y) : Cs w g P.length X := by
  intro j u hu
  rw [cell_of_row _ _ _ _ _ _ h, e]
  have hj := (List.getElem?_eq_some_iff.1 hu).1
  simp only [List.getElem?_toArray]
  rw [List.append_assoc, List.getElem?_append_right (by omega), Nat.add_sub_cancel_left, List.getElem?_append_left hj]
  exact hu
/-- runs in a block of their own, or nil -/
def Vw (w : World) (a : Option Addr) (cap : Nat) (L : List Rn) : Prop := w.ownsRow 0 87 2 (.slice a L.length cap) L.length (rc L)
theorem Vw.nil (w : World) : Vw w none 0 [] := World.ownsRow_nil w 0 87 2
theorem Vw.cases {w : World} {a : Option Addr} {cap : Nat} {L : List Rn} (h : Vw w a cap L) : (a = none ∧ cap = 0 ∧ L = []) ∨
    ∃ g Y, a = some ⟨g, 0, none⟩ ∧ Rowb w g (rc L ++ Y) ∧ L.length ≤ cap ∧ cap ≤ maxLen ∧ L.length * 2 + Y.length = cap * 2 := by
  obtain ⟨_, h2⟩ := h
  rcases h2 with ⟨hv, h0⟩ | ⟨g, cap', cur, hv, _, hg, hn, hm, hs, ht⟩
  · simp only [Value.slice.injEq] at hv
    exact .inl ⟨hv.1, hv.2.2, List.length_eq_zero_iff.1 h0⟩
  · simp only [Value.slice.injEq] at hv
    obtain ⟨h1, _, rfl⟩ := hv
    refine .inr ⟨g, cur.toList.drop (L.length * 2), h1, ?_, hn, hm, ?_⟩
    · unfold Rowb
      rw [← ht, List.take_append_drop, Array.toArray_toList]
      exact hg
    · have hl := Array.length_toList (xs := cur)
      rw [List.length_drop]
      omega
theorem Vw.mk {w : World} {g cap : Nat} {L : List Rn} {Y : List Value} (hg : Rowb w g (rc L ++ Y)) (hn : L.length ≤ cap) (hm : cap ≤ maxLen) (hs : L.length * 2 + Y.length = cap * 2) : Vw w (some ⟨g, 0, none⟩) cap L :=
  ⟨rc_length L, .inr ⟨g, cap, (rc L ++ Y).toArray, rfl, Nat.zero_le _, hg, hn, hm, by simp [rc_length]; omega, by rw [List.toList_toArray, List.take_left' (rc_length L)]⟩⟩
theorem Vw.lt {w : World} {a : Option Addr} {cap : Nat} {L : List Rn} (h : Vw w a cap L) {x : Addr} (hx : a = some x) : x.block < w.heap.size := by
  rcases h.cases with ⟨rfl, _⟩ | ⟨g, Y, rfl, hg, _⟩
  · cases hx
  · cases hx; exact hg.lt
theorem Vw.but {S : Nat → Prop} {w w' : World} {a : Option Addr} {cap : Nat} {L : List Rn} (h : Vw w a cap L) (hb : But S w w') (hn : ∀ x, a = some x → ¬ S x.block) : Vw w' a cap L := by
  rcases h.cases with ⟨rfl, rfl, rfl⟩ | ⟨g, Y, rfl, hg, h1, h2, h3⟩
  · exact Vw.nil w'
  · exact Vw.mk (hg.but hb (hn _ rfl)) h1 h2 h3
theorem Vw.keep {w w' : World} {a : Option Addr} {cap : Nat} {L : List Rn} (h : Vw w a cap L) (hb : Below w.heap.size w w') : Vw w' a cap L :=
  h.but (S := fun _ => False) (But.ofBelow hb) (fun _ _ hf => hf)
theorem Vw.vs {w : World} {a : Option Addr} {cap : Nat} {L : List Rn} (h : Vw w a cap L) : Vs w a L := by
  rcases h.cases with ⟨rfl, rfl, rfl⟩ | ⟨g, Y, rfl, hg, h1, h2, h3⟩
  · exact .inl rfl
  · exact .inr ⟨g, 0, rfl, hg.cs (P := []) (X := rc L) (Y := Y) (by simp)⟩
theorem Vw.len {w : World} {a : Option Addr} {cap : Nat} {L : List Rn} (h : Vw w a cap L) : L.length ≤ cap ∧ cap ≤ maxLen := by
  rcases h.cases with ⟨rfl, rfl, rfl⟩ | ⟨g, Y, rfl, hg, h1, h2, h3⟩
  · exact ⟨Nat.le_refl _, Nat.zero_le _⟩
  · exact ⟨h1, h2⟩

/-- runs are appended -/
theorem run_apR (w : World) (ty : TypeId) (a : Option Addr) (n cap : Nat) (L : List Rn) (hn : n = L.length) (hR : Vw w a cap L) (av : Option Addr) (m c : Nat) (V : List Rn) (hm : m = V.length) (hV : Vs w av V) (h0 : V ≠ []) (hlen : L.length + V.length ≤ 8589934592) :
    ∃ g cap' w', (Builtin.append_ #[37, 37] ty #[.slice a n cap, .slice av m c]).run Try.prog w = .ok (.slice (some ⟨g, 0, none⟩) (n + m) cap') w' ∧
      Vw w' (some ⟨g, 0, none⟩) cap' (L ++ V) ∧ New w a (some ⟨g, 0, none⟩) ∧ w.grownBy w' (a.map Addr.block) := by
  subst hn hm
  obtain ⟨i0, hi, hz0, hz1, hz2⟩ := info_parts infoRun
  rcases hV with hV | ⟨b, o, rfl, hc⟩
  · exact absurd hV h0
  obtain ⟨g, cap', w', hr, h1, h2, h3, h4⟩ := run_append_lies (P := Try.prog) w 37 ty 0 87 i0 (.agg (rcs Rn.zero)) 2 16 Try.underlying37 hi hz0 hz1 hz2 rfl (by decide) (.slice a L.length cap) L.length (rc L) hR ⟨b, o, none⟩ V.length c (rc V) (rc_length V)
    (fun j u hu => by rw [Addr.add_mid]; exact hc j u hu) (rc_one V) (List.length_pos_iff.2 h0) (by unfold maxLen; omega) (by omega) (Nat.zero_le _) w.heap.size rfl
  rw [ob_eq] at h2 h3
  refine ⟨g, cap', w', hr, ?_, ?_, h2⟩
  · unfold Vw
    rw [rc_append, List.length_append]
    exact h1
  · intro y hy
    simp only [Option.some.injEq] at hy
    subst hy
    rcases h3 with h3 | h3
    · obtain ⟨z, hz, e⟩ := map_some h3
      exact .inl ⟨z, hz, e⟩
    · exact .inr (by show _ ≤ g; omega)
theorem wp_apR {w : World} {o : Oper} {a : Act} {K : Act → World → Prop} {Q : Exit → Act → World → Prop} (s x : Operand)
    (ho : o.op = .call { callee := .builtin .append, args := #[s, x], argTypes := #[37, 37] }) (ao : Option Addr) (n cap : Nat) (L : List Rn) (hs : a.eval s = .slice ao n cap) (hn : n = L.length) (hR : Vw w ao cap L)
    (av : Option Addr) (m c : Nat) (V : List Rn) (hx : a.eval x = .slice av m c) (hm : m = V.length) (hV : Vs w av V) (h0 : V ≠ []) (hlen : L.length + V.length ≤ 8589934592)
    (h : ∀ g cap' w', Vw w' (some ⟨g, 0, none⟩) cap' (L ++ V) → New w ao (some ⟨g, 0, none⟩) → w.grownBy w' (ao.map Addr.block) → K (a.put o.dst (.slice (some ⟨g, 0, none⟩) (n + m) cap')) w') : o.wp Try.prog a w K Q := by
  obtain ⟨g, cap', w', hr, h1, h2, h3⟩ := run_apR w o.type ao n cap L hn hR av m c V hm hV h0 hlen
  unfold Oper.wp execOp
  simp only [ho, resolve, invoke, builtin, Sem.run_bind, Sem.run_pure, Result.andThen_ok, List.map_toArray, List.map_cons, List.map_nil, hs, hx, hr]
  exact h g cap' w' h1 h2 h3
theorem wpList_apR {w : World} {ops : Array Oper} {rest : List Oper} {o : Oper} {a : Act} {Q : Exit → Act → World → Prop} (hgd : o.guard = none) (s x : Operand)
    (ho : o.op = .call { callee := .builtin .append, args := #[s, x], argTypes := #[37, 37] }) (ao : Option Addr) (n cap : Nat) (L : List Rn) (hs : a.eval s = .slice ao n cap) (hn : n = L.length) (hR : Vw w ao cap L)
    (av : Option Addr) (m c : Nat) (V : List Rn) (hx : a.eval x = .slice av m c) (hm : m = V.length) (hV : Vs w av V) (h0 : V ≠ []) (hlen : L.length + V.length ≤ 8589934592)
    (h : ∀ g cap' w', Vw w' (some ⟨g, 0, none⟩) cap' (L ++ V) → New w ao (some ⟨g, 0, none⟩) → w.grownBy w' (ao.map Addr.block) → wpList Try.prog ops Q rest (a.put o.dst (.slice (some ⟨g, 0, none⟩) (n + m) cap')) w') : wpList Try.prog ops Q (o :: rest) a w :=
  wpList_plain hgd fun _ hK => wp_apR s x ho ao n cap L hs hn hR av m c V hx hm hV h0 hlen fun g cap' w' h1 h2 h3 => hK _ _ (h g cap' w' h1 h2 h3)
theorem Vw.front {w : World} {a : Option Addr} {cap : Nat} {L M : List Rn} (h : Vw w a cap (L ++ M)) : Vw w a cap L ∨ a = none := by
  rcases h.cases with ⟨rfl, rfl, hn⟩ | ⟨g, Y, rfl, hg, h1, h2, h3⟩
  · exact .inr rfl
  · rw [rc_append, List.append_assoc] at hg
    rw [List.length_append] at h1 h3
    exact .inl (Vw.mk hg (by omega) h2 (by rw [List.length_append, rc_length]; omega))
theorem step_apR {w : World} {ops : Array Oper} {o : Oper} {a : Act} {K : Act → World → Prop} {Q : Exit → Act → World → Prop} {E : Prop} (hgd : o.guard = none) (s x : Operand)
    (ho : o.op = .call { callee := .builtin .append, args := #[s, x], argTypes := #[37, 37] }) (ao : Option Addr) (n cap : Nat) (L : List Rn) (hs : a.eval s = .slice ao n cap) (hn : n = L.length) (hR : Vw w ao cap L)
    (av : Option Addr) (m c : Nat) (V : List Rn) (hx : a.eval x = .slice av m c) (hm : m = V.length) (hV : Vs w av V) (h0 : V ≠ []) (hlen : L.length + V.length ≤ 8589934592)
    (h : ∀ g cap' w', Vw w' (some ⟨g, 0, none⟩) cap' (L ++ V) → New w ao (some ⟨g, 0, none⟩) → w.grownBy w' (ao.map Addr.block) → K (a.put o.dst (.slice (some ⟨g, 0, none⟩) (n + m) cap')) w') :
    if Region.wanted o (yielded ops a.tmps) = true then Oper.wp Try.prog o a w K Q else E := by
  have hw : Region.wanted o (yielded ops a.tmps) = true := by simp [Region.wanted, hgd]
  rw [if_pos hw]
  exact wp_apR s x ho ao n cap L hs hn hR av m c V hx hm hV h0 hlen h
theorem vs_new1 (w : World) (r : Rn) : Vs (w.alloc (.cells #[.int .i64 r.1, .int .i64 r.2] 87)) (some ⟨w.heap.size, 0, none⟩) [r] := by
  refine .inr ⟨_, _, rfl, fun j u hu => ?_⟩
  rw [cell_of_row _ _ _ _ _ _ (World.alloc_heap_new w _), Nat.zero_add]
  simpa [rc, rcs] using hu
theorem new_run (w : World) (r : Rn) : (w.alloc (.cells #[.int .i64 r.1, .int .i64 r.2] 87)).cell? ⟨w.heap.size, 0, none⟩ = some (.int .i64 r.1) ∧ (w.alloc (.cells #[.int .i64 r.1, .int .i64 r.2] 87)).cell? ⟨w.heap.size, 1, none⟩ = some (.int .i64 r.2) := by
  rw [cell_of_row _ _ _ _ _ _ (World.alloc_heap_new w _), cell_of_row _ _ _ _ _ _ (World.alloc_heap_new w _)]
  exact ⟨rfl, rfl⟩
/-- the two rows that grow -/
structure Two (w wx : World) (a1 a2 : Option Addr) (c1 c2 : Nat) (P Q : List Rn) : Prop where
  r1 : Vw wx a1 c1 P
  r2 : Vw wx a2 c2 Q
  n1 : New w none a1
  n2 : New w none a2
  ne : ∀ x y, a1 = some x → a2 = some y → x.block ≠ y.block
  b : Below w.heap.size w wx
theorem Two.keep {w wx wy : World} {a1 a2 : Option Addr} {c1 c2 : Nat} {P Q : List Rn} (h : Two w wx a1 a2 c1 c2 P Q) (hb : Below wx.heap.size wx wy) : Two w wy a1 a2 c1 c2 P Q :=
  ⟨h.r1.keep hb, h.r2.keep hb, h.n1, h.n2, h.ne, bt h.b hb⟩
theorem Two.one {w wx wy : World} {a1 a2 : Option Addr} {c1 c2 g c : Nat} {P Q P' : List Rn} (h : Two w wx a1 a2 c1 c2 P Q) (hR : Vw wy (some ⟨g, 0, none⟩) c P') (hN : New wx a1 (some ⟨g, 0, none⟩)) (hg : wx.grownBy wy (a1.map Addr.block)) : Two w wy (some ⟨g, 0, none⟩) a2 c c2 P' Q := by
  have hb := But.inA hg
  have ne1 : ∀ y, a2 = some y → ¬ InA a1 y.block := fun y hy ⟨x, hx, e⟩ => h.ne x y hx hy e
  refine ⟨hR, h.r2.but hb ne1, h.n1.trans hN h.b.size, h.n2, fun x y hx hy e => ?_, ?_⟩
  · rcases hN x hx with ⟨z, hz, e2⟩ | h2
    · exact h.ne z y hz hy (e2.trans e)
    · have := h.r2.lt hy
      omega
  · refine ((But.ofBelow (S := fun _ => False) h.b).trans hb (fun k hk ⟨x, hx, e⟩ => ?_)).below (fun _ _ h => h)
    rcases h.n1 x hx with ⟨z, hz, _⟩ | h2
    · cases hz
    · omega
theorem Two.symm {w wx : World} {a1 a2 : Option Addr} {c1 c2 : Nat} {P Q : List Rn} (h : Two w wx a1 a2 c1 c2 P Q) : Two w wx a2 a1 c2 c1 Q P := ⟨h.r2, h.r1, h.n2, h.n1, fun x y hx hy e => h.ne y x hy hx e.symm, h.b⟩
theorem of_ir {w : World} {a : Option Addr} {L : List Rn} (h : Ir w a L) : Vs w a L := h.imp id fun ⟨b, o, e, hc⟩ => ⟨b, o, e, fun j u hu => by
  have hj : j < (rc L).length := (List.getElem?_eq_some_iff.1 hu).1
  rw [rc_length] at hj
  obtain ⟨h1, h2⟩ := rc_get L (j / 2) (by omega)
  obtain ⟨h3, h4⟩ := hc (j / 2) (by omega)
  by_cases hp : j % 2 = 0
  · have e1 : j / 2 * 2 = j := by omega
    rw [e1] at h1 h3
    rw [h3, ← h1, hu]
  · have e1 : j / 2 * 2 + 1 = j := by omega
    rw [e1] at h2
    rw [Nat.add_assoc, e1] at h4
    rw [h4, ← h2, hu]⟩
theorem Vw.addr {w : World} {a : Option Addr} {cap : Nat} {L : List Rn} (h : Vw w a cap L) (h0 : L ≠ []) : ∃ g, a = some ⟨g, 0, none⟩ := by
  rcases h.cases with ⟨_, _, rfl⟩ | ⟨g, Y, rfl, _⟩
  · exact absurd rfl h0
  · exact ⟨g, rfl⟩
theorem Vw.thaw {w : World} {g cap : Nat} {L : List Rn} (h : Vw w (some ⟨g, 0, none⟩) cap L) (k : Nat) : w.frozen? ⟨g, k, none⟩ = false := by
  rcases h.cases with ⟨h0, _⟩ | ⟨g', Y, h0, hg, _⟩
  · cases h0
  · cases h0
    exact frozen_of_row _ _ _ _ _ hg
theorem Vw.cell {w : World} {g cap : Nat} {L : List Rn} (h : Vw w (some ⟨g, 0, none⟩) cap L) {i : Nat} (hi : i < L.length) : w.cell? ⟨g, i * 2, none⟩ = some (.int .i64 (L.getD i Rn.zero).1) ∧ w.cell? ⟨g, i * 2 + 1, none⟩ = some (.int .i64 (L.getD i Rn.zero).2) := by
  obtain ⟨b, o, e, h1, h2⟩ := h.vs.at hi
  rcases h.cases with ⟨h0, _⟩ | ⟨g', Y, h0, _⟩
  · cases h0
  · rcases h.vs with rfl | ⟨b', o', e', hc⟩
    · simp at hi
    · have r := rc_get L i hi
      have ee := e'
      simp only [Option.some.injEq, Addr.mk.injEq, and_true] at ee
      obtain ⟨rfl, rfl⟩ := ee
      have c1 := hc _ _ r.1
      have c2 := hc _ _ r.2
      rw [Nat.zero_add] at c1 c2
      exact ⟨c1, c2⟩
theorem rc_set : ∀ (L : List Rn) (i : Nat) (r : Rn), i < L.length → rc (L.set i r) = ((rc L).set (i * 2) (.int .i64 r.1)).set (i * 2 + 1) (.int .i64 r.2)
  | [], i, r, h => by simp at h
  | x :: L, 0, r, _ => by rw [List.set_cons_zero, rc_cons, rc_cons]; rfl
  | x :: L, i + 1, r, h => by
    rw [List.set_cons_succ, rc_cons, rc_cons, show (i + 1) * 2 = i * 2 + 1 + 1 by omega, List.set_cons_succ, List.set_cons_succ, List.set_cons_succ, List.set_cons_succ, rc_set L i r (by simpa using h)]
/-- one number of a run is stored -/
theorem Rowb.set {w : World} {g : Nat} {C : List Value} (h : Rowb w g C) (k : Nat) (v : Value) : Rowb (w.setCell ⟨g, k, none⟩ v) g (C.set k v) := by
  unfold Rowb at *
  rw [heap_setCell_same w g k _ _ v h]
  simp
theorem Vw.setv {w : World} {g cap : Nat} {L : List Rn} (h : Vw w (some ⟨g, 0, none⟩) cap L) {i : Nat} (hi : i < L.length) (r : Rn) : Vw ((w.setCell ⟨g, i * 2, none⟩ (.int .i64 r.1)).setCell ⟨g, i * 2 + 1, none⟩ (.int .i64 r.2)) (some ⟨g, 0, none⟩) cap (L.set i r) := by
  rcases h.cases with ⟨h0, _⟩ | ⟨g', Y, h0, hg, h1, h2, h3⟩
  · cases h0
  · simp only [Option.some.injEq, Addr.mk.injEq, and_true] at h0
    subst h0
    have h := (hg.set (i * 2) (.int .i64 r.1)).set (i * 2 + 1) (.int .i64 r.2)
    have hl := rc_length L
    rw [List.set_append_left _ _ (by omega), List.set_append_left _ _ (by rw [List.length_set]; omega), ← rc_set L i r hi] at h
    exact Vw.mk h (by rw [List.length_set]; exact h1) h2 (by rw [List.length_set]; exact h3)
theorem rc_setHi : ∀ (L : List Rn) (i : Nat) (y : Int), i < L.length → rc (L.set i ((L.getD i Rn.zero).1, y)) = (rc L).set (i * 2 + 1) (.int .i64 y)
  | [], i, r, h => by simp at h
  | x :: L, 0, r, _ => by rw [List.set_cons_zero, rc_cons, rc_cons]; rfl
  | x :: L, i + 1, r, h => by
    rw [List.set_cons_succ, rc_cons, rc_cons, show (i + 1) * 2 + 1 = i * 2 + 1 + 1 + 1 by omega, List.set_cons_succ, List.set_cons_succ, List.getD_cons_succ, rc_setHi L i r (by simpa using h)]
theorem Vw.setHi {w : World} {g cap : Nat} {L : List Rn} (h : Vw w (some ⟨g, 0, none⟩) cap L) {i : Nat} (hi : i < L.length) (y : Int) : Vw (w.setCell ⟨g, i * 2 + 1, none⟩ (.int .i64 y)) (some ⟨g, 0, none⟩) cap (L.set i ((L.getD i Rn.zero).1, y)) := by
  rcases h.cases with ⟨h0, _⟩ | ⟨g', Y, h0, hg, h1, h2, h3⟩
  · cases h0
  · simp only [Option.some.injEq, Addr.mk.injEq, and_true] at h0
    subst h0
    have h := hg.set (i * 2 + 1) (.int .i64 y)
    have hl := rc_length L
    rw [List.set_append_left _ _ (by omega), ← rc_setHi L i y hi] at h
    exact Vw.mk h (by rw [List.length_set]; exact h1) h2 (by rw [List.length_set]; exact h3)
/-- the last one goes -/
theorem Vw.shorter {w : World} {a : Option Addr} {cap : Nat} {L : List Rn} (h : Vw w a cap L) (h0 : L ≠ []) : Vw w a cap L.dropLast := by
  have e := List.dropLast_concat_getLast h0
  rw [← e] at h
  rcases h.front with h | rfl
  · exact h
  · obtain ⟨g, hg⟩ := h.addr (by simp)
    cases hg
end Rf
end Go.Proofs.Ytdinhfogclmaaaa
