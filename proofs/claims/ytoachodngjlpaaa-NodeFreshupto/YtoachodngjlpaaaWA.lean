import Derived.Test.YtoachodngjlpaaaProg
import Derived.WalkKit
import Derived.WalkSpells
import Derived.WalkLawsBesides
import Derived.Laws.Rows
import Derived.Laws.Tables
import Derived.Deep.WholeRow
import Derived.Below
import Derived.Outline
import Derived.Deep.AppendLies
import Derived.OwnWalk
namespace Go.Proofs.Ytoachodngjlpaaa
open Go.RowKit

theorem hide {p : Prop} (h : p) : Hid p := h
theorem size_alloc (w : World) (o : Obj) : (w.alloc o).heap.size = w.heap.size + 1 := by
  show (w.heap.push o).size = _
  simp
theorem getD_at (l : List Nat) {k : Nat} (h : k < l.length) : l.getD k 0 = l[k] := by simp [h]
theorem bt {w a b : World} (h : Below w.heap.size w a) (k : Below a.heap.size a b) : Below w.heap.size w b := h.trans (k.mono h.size)
theorem block_lt_of_cell {w : World} {a : Addr} {v : Value} (h : w.cell? a = some v) : a.block < w.heap.size := World.block_lt_of_cell? w a h

/-- bytes that can be read -/
def Bs (w : World) (a : Option Addr) (l : List Nat) : Prop :=
  (∀ x ∈ l, x < 256) ∧ l.length ≤ 9223372036854775807 ∧ (l = [] ∨ ∃ b off, a = some ⟨b, off, none⟩ ∧ ∀ i, i < l.length → w.cell? ⟨b, off + i, none⟩ = some (.int .u8 ((l.getD i 0 : Nat) : Int)))
theorem Bs.keep {w w' : World} {a : Option Addr} {l : List Nat} (h : Bs w a l) (hb : Below w.heap.size w w') : Bs w' a l := by
  obtain ⟨h1, h2, h3⟩ := h
  refine ⟨h1, h2, ?_⟩
  rcases h3 with h3 | ⟨b, off, rfl, hc⟩
  · exact .inl h3
  · exact .inr ⟨b, off, rfl, fun i hi => (hb.cell (p := ⟨b, off + i, none⟩) (block_lt_of_cell (hc i hi))).trans (hc i hi)⟩
theorem Bs.nil (w : World) : Bs w none [] := ⟨by simp, by simp, .inl rfl⟩
theorem Bs.empty (w : World) (a : Option Addr) : Bs w a [] := ⟨by simp, by simp, .inl rfl⟩

/-- bytes as values -/
def vb (l : List Nat) : List Value := l.map fun x => Value.int .u8 ((x : Nat) : Int)
theorem vb_snoc (l : List Nat) {k : Nat} (h : k < l.length) : vb (l.take k) ++ [.int .u8 ((l.getD k 0 : Nat) : Int)] = vb (l.take (k + 1)) := by
  unfold vb
  rw [List.take_succ_eq_append_getElem h, List.map_append, getD_at l h]
  rfl
theorem vb_append (a b : List Nat) : vb (a ++ b) = vb a ++ vb b := by unfold vb; rw [List.map_append]
theorem vb_length (a : List Nat) : (vb a).length = a.length := by unfold vb; rw [List.length_map]
theorem vb_get (l : List Nat) (i : Nat) (hi : i < l.length) : (vb l)[i]? = some (.int .u8 ((l.getD i 0 : Nat) : Int)) := by simp [vb, hi]
theorem vb_one (l : List Nat) : ∀ u ∈ vb l, u.oneCell' = true := by
  intro u hu
  obtain ⟨x, _, rfl⟩ := List.mem_map.1 hu
  rfl
theorem take_snoc (l : List Nat) {k : Nat} (h : k < l.length) : l.take k ++ [l.getD k 0] = l.take (k + 1) := by
  rw [List.take_succ_eq_append_getElem h, getD_at l h]

/-- all blocks but those of S are as they were -/
structure But (S : Nat → Prop) (w w' : World) : Prop where
  os : w'.os = w.os
  tape : w'.tape = w.tape
  output : w'.output = w.output
  size : w.heap.size ≤ w'.heap.size
  block : ∀ k, k < w.heap.size → ¬ S k → w'.heap[k]? = w.heap[k]?
theorem But.refl (S : Nat → Prop) (w : World) : But S w w := ⟨rfl, rfl, rfl, Nat.le_refl _, fun _ _ _ => rfl⟩
theorem But.trans {S T : Nat → Prop} {a b c : World} (h : But S a b) (k : But T b c) (hT : ∀ x, x < a.heap.size → T x → S x) : But S a c :=
  ⟨k.os.trans h.os, k.tape.trans h.tape, k.output.trans h.output, Nat.le_trans h.size k.size, fun i hi hn => (k.block i (Nat.lt_of_lt_of_le hi h.size) (fun ht => hn (hT i hi ht))).trans (h.block i hi hn)⟩
theorem But.mono {S T : Nat → Prop} {a b : World} (h : But S a b) (hT : ∀ x, x < a.heap.size → S x → T x) : But T a b :=
  ⟨h.os, h.tape, h.output, h.size, fun k hk hn => h.block k hk fun hs => hn (hT k hk hs)⟩
theorem But.drew {S : Nat → Prop} {a w : World} (h : But S a w) : But S a w.drew := ⟨h.os, h.tape, h.output, h.size, h.block⟩
theorem But.ofBelow {S : Nat → Prop} {w w' : World} (h : Below w.heap.size w w') : But S w w' := ⟨h.os, h.tape, h.output, h.size, fun k hk _ => h.block k hk⟩
theorem But.below {S : Nat → Prop} {w w' : World} (h : But S w w') (hS : ∀ k, k < w.heap.size → ¬ S k) : Below w.heap.size w w' := ⟨h.os, h.tape, h.output, h.size, fun k hk => h.block k hk (hS k hk)⟩
theorem But.alloc {S : Nat → Prop} {a w : World} (h : But S a w) (o : Obj) : But S a (w.alloc o) :=
  h.trans (T := fun _ => False) (But.ofBelow ((Below.refl _ _).alloc (Nat.le_refl _) o)) (fun _ _ hf => hf.elim)
theorem But.setCell {S : Nat → Prop} {a w : World} (h : But S a w) {p : Addr} (hp : p.block < a.heap.size → S p.block) (u : Value) : But S a (w.setCell p u) :=
  h.trans (T := fun k => k = p.block) ⟨rfl, rfl, rfl, by simp [World.setCell], fun k _ hn => Below.heap_setCell _ _ _ _ hn⟩ (fun x hx e => by subst e; exact hp hx)
theorem But.grown {S : Nat → Prop} {a w w' : World} {row : Option Nat} (h : But S a w) (hg : w.grownBy w' row) (hr : ∀ k, row = some k → k < a.heap.size → S k) : But S a w' :=
  h.trans (T := fun k => row = some k) ⟨hg.os, hg.tape, hg.output, hg.size, fun k hk hn => hg.block k hk fun e => hn e.symm⟩ (fun x hx e => hr x e hx)
theorem But.andBelow {S : Nat → Prop} {a b c : World} (h : But S a b) (k : Below b.heap.size b c) : But S a c :=
  h.trans (T := fun _ => False) (But.ofBelow k) (fun _ _ hf => hf.elim)
theorem But.cell {S : Nat → Prop} {w w' : World} (h : But S w w') {p : Addr} (hp : p.block < w.heap.size) (hn : ¬ S p.block) : w'.cell? p = w.cell? p := World.cell?_of_block (w := w) (h.block p.block hp hn)
theorem But.frozen {S : Nat → Prop} {w w' : World} (h : But S w w') {p : Addr} (hp : p.block < w.heap.size) (hn : ¬ S p.block) : w'.frozen? p = w.frozen? p := World.frozen?_of_block (w := w) (h.block p.block hp hn)

theorem Bs.but {S : Nat → Prop} {w w' : World} {a : Option Addr} {l : List Nat} (h : Bs w a l) (hb : But S w w') (hn : ∀ x, a = some x → l ≠ [] → ¬ S x.block) : Bs w' a l := by
  obtain ⟨h1, h2, h3⟩ := h
  refine ⟨h1, h2, ?_⟩
  by_cases h0 : l = []
  · exact .inl h0
  rcases h3 with h3 | ⟨b, off, rfl, hc⟩
  · exact .inl h3
  · exact .inr ⟨b, off, rfl, fun i hi => (hb.cell (p := ⟨b, off + i, none⟩) (block_lt_of_cell (hc i hi)) (show ¬ S b from hn ⟨b, off, none⟩ rfl h0)).trans (hc i hi)⟩

/-- bytes in a block of their own, or nil -/
def Rw (w : World) (a : Option Addr) (cap : Nat) (l : List Nat) : Prop := w.ownsRow 0 5 1 (.slice a l.length cap) l.length (vb l)
theorem ownBlock_some {a : Option Addr} {n c k : Nat} (h : (Value.slice a n c).ownBlock = some k) : ∃ x, a = some x ∧ x.block = k := by
  cases a with
  | none => simp [Value.ownBlock] at h
  | some x => simp [Value.ownBlock] at h; exact ⟨x, rfl, h⟩
theorem ob_eq (a : Option Addr) (n c : Nat) : (Value.slice a n c).ownBlock = a.map Addr.block := by cases a <;> rfl
theorem map_some {a : Option Addr} {k : Nat} (h : a.map Addr.block = some k) : ∃ x, a = some x ∧ x.block = k := by
  cases a with
  | none => simp at h
  | some x => simp at h; exact ⟨x, rfl, h⟩
theorem Rw.nil (w : World) : Rw w none 0 [] := World.ownsRow_nil w 0 5 1
theorem Rw.cases {w : World} {a : Option Addr} {cap : Nat} {l : List Nat} (h : Rw w a cap l) : (a = none ∧ cap = 0 ∧ l = []) ∨
    ∃ g cur, a = some ⟨g, 0, none⟩ ∧ w.heap[g]? = some (.cells cur 5 (0, 0)) ∧ l.length ≤ cap ∧ cap ≤ maxLen ∧ cur.size = cap ∧ cur.toList.take l.length = vb l := by
  obtain ⟨_, h2⟩ := h
  rcases h2 with ⟨hv, h0⟩ | ⟨g, cap', cur, hv, _, hg, hn, hm, hs, ht⟩
  · simp only [Value.slice.injEq] at hv
    exact .inl ⟨hv.1, hv.2.2, List.length_eq_zero_iff.1 h0⟩
  · simp only [Value.slice.injEq] at hv
    obtain ⟨h1, _, rfl⟩ := hv
    exact .inr ⟨g, cur, h1, hg, hn, hm, by omega, by rw [Nat.mul_one] at ht; exact ht⟩
theorem Rw.mk {w : World} {g cap : Nat} {cur : Array Value} {l : List Nat} (hg : w.heap[g]? = some (.cells cur 5 (0, 0))) (hn : l.length ≤ cap) (hm : cap ≤ maxLen) (hs : cur.size = cap) (ht : cur.toList.take l.length = vb l) : Rw w (some ⟨g, 0, none⟩) cap l :=
  ⟨by rw [vb_length, Nat.mul_one], .inr ⟨g, cap, cur, rfl, Nat.zero_le _, hg, hn, hm, by omega, by rw [Nat.mul_one]; exact ht⟩⟩
theorem Rw.lt {w : World} {a : Option Addr} {cap : Nat} {l : List Nat} (h : Rw w a cap l) {x : Addr} (hx : a = some x) : x.block < w.heap.size := by
  rcases h.cases with ⟨rfl, _⟩ | ⟨g, cur, rfl, hg, _⟩
  · cases hx
  · cases hx; exact (Array.getElem?_eq_some_iff.1 hg).1
theorem Rw.but {S : Nat → Prop} {w w' : World} {a : Option Addr} {cap : Nat} {l : List Nat} (h : Rw w a cap l) (hb : But S w w') (hn : ∀ x, a = some x → ¬ S x.block) : Rw w' a cap l := by
  rcases h.cases with ⟨rfl, rfl, rfl⟩ | ⟨g, cur, rfl, hg, h1, h2, h3, h4⟩
  · exact Rw.nil w'
  · exact Rw.mk ((hb.block g (Array.getElem?_eq_some_iff.1 hg).1 (hn _ rfl)).trans hg) h1 h2 h3 h4
theorem Rw.keep {w w' : World} {a : Option Addr} {cap : Nat} {l : List Nat} (h : Rw w a cap l) (hb : Below w.heap.size w w') : Rw w' a cap l :=
  h.but (S := fun _ => False) (But.ofBelow hb) (fun _ _ hf => hf)
theorem Rw.cell {w : World} {g cap : Nat} {l : List Nat} (h : Rw w (some ⟨g, 0, none⟩) cap l) {i : Nat} (hi : i < l.length) : w.cell? ⟨g, i, none⟩ = some (.int .u8 ((l.getD i 0 : Nat) : Int)) := by
  rcases h.cases with ⟨h0, _⟩ | ⟨g', cur, h0, hg, h1, h2, h3, h4⟩
  · cases h0
  · simp only [Option.some.injEq, Addr.mk.injEq] at h0
    obtain ⟨rfl, _⟩ := h0
    rw [cell_of_row _ _ _ _ _ _ hg, ← vb_get l i hi, ← h4, List.getElem?_take, if_pos hi]
    simp
theorem Rw.bs {w : World} {a : Option Addr} {cap : Nat} {l : List Nat} (h : Rw w a cap l) (hl : ∀ x ∈ l, x < 256) (hlen : l.length ≤ 9223372036854775807) : Bs w a l := by
  refine ⟨hl, hlen, ?_⟩
  rcases h.cases with ⟨rfl, rfl, rfl⟩ | ⟨g, cur, rfl, hg, h1, h2, h3, h4⟩
  · exact .inl rfl
  · exact .inr ⟨g, 0, rfl, fun i hi => by rw [Nat.zero_add]; exact h.cell hi⟩
theorem Rw.len_le {w : World} {a : Option Addr} {cap : Nat} {l : List Nat} (h : Rw w a cap l) : l.length ≤ 9223372036854775807 := by
  rcases h.cases with ⟨rfl, rfl, rfl⟩ | ⟨g, cur, rfl, hg, h1, h2, h3, h4⟩
  · simp
  · unfold maxLen at h2; omega

/-- where the bytes lie now: where they lay, or in new memory -/
def New (w : World) (a a' : Option Addr) : Prop := ∀ x, a' = some x → (∃ y, a = some y ∧ y.block = x.block) ∨ w.heap.size ≤ x.block
theorem New.refl (w : World) (a : Option Addr) : New w a a := fun x hx => .inl ⟨x, hx, rfl⟩
theorem New.none (w : World) (a : Option Addr) : New w a Option.none := fun x hx => by cases hx
theorem New.trans {w w1 : World} {a b c : Option Addr} (h : New w a b) (k : New w1 b c) (hs : w.heap.size ≤ w1.heap.size) : New w a c := by
  intro x hx
  rcases k x hx with ⟨y, hy, e⟩ | h1
  · rcases h y hy with ⟨z, hz, e2⟩ | h2
    · exact .inl ⟨z, hz, e2.trans e⟩
    · exact .inr (by omega)
  · exact .inr (by omega)
theorem New.mono {w w1 : World} {a b : Option Addr} (h : New w1 a b) (hs : w.heap.size ≤ w1.heap.size) : New w a b := (New.refl w a).trans h hs

theorem infoU8 : (Try.prog.info? 5).map (fun i => (i.zero, i.size, i.bytes)) = some (some (.int .u8 0), 1, 1) := by kernel_rfl

/-- one byte is appended -/
theorem run_ap1 (w : World) (ty : TypeId) (a : Option Addr) (n cap : Nat) (l : List Nat) (hn : n = l.length) (hR : Rw w a cap l) (ad : Addr) (c x : Nat) (hc : w.cell? ad = some (.int .u8 ((x : Nat) : Int))) (hlen : l.length + 1 ≤ 140737488355328) :
    ∃ g cap' w', (Builtin.append_ #[23, 23] ty #[.slice a n cap, .slice (some ad) 1 c]).run Try.prog w = .ok (.slice (some ⟨g, 0, none⟩) (n + 1) cap') w' ∧
      Rw w' (some ⟨g, 0, none⟩) cap' (l ++ [x]) ∧ New w a (some ⟨g, 0, none⟩) ∧ w.grownBy w' (a.map Addr.block) ∧ g < w'.heap.size := by
  subst hn
  obtain ⟨i0, hi, hz0, hz1, hz2⟩ := info_parts infoU8
  obtain ⟨g, cap', w', hr, h1, h2, h3, h4⟩ := run_append_lies (P := Try.prog) w 23 ty 0 5 i0 (.int .u8 0) 1 1 Try.underlying23 hi hz0 hz1 hz2 rfl (by decide) (.slice a l.length cap) l.length (vb l) hR ad 1 c [.int .u8 ((x : Nat) : Int)] rfl
    (by intro j u hj
        match j, hj with
        | 0, hj => simp at hj; subst hj; simpa [Addr.add] using hc) (by intro u hu; simp at hu; subst hu; rfl) (by decide) (by unfold maxLen; omega) (by omega) (Nat.zero_le _) w.heap.size rfl
  rw [ob_eq] at h2 h3
  refine ⟨g, cap', w', hr, ?_, ?_, h2, h4⟩
  · unfold Rw
    rw [vb_append, List.length_append]
    exact h1
  · intro y hy
    simp only [Option.some.injEq] at hy
    subst hy
    rcases h3 with h3 | h3
    · obtain ⟨z, hz, e⟩ := map_some h3
      exact .inl ⟨z, hz, e⟩
    · exact .inr (by show _ ≤ g; omega)

theorem wp_ap1 {w : World} {o : Oper} {a : Act} {K : Act → World → Prop} {Q : Exit → Act → World → Prop} (s x : Operand)
    (ho : o.op = .call { callee := .builtin .append, args := #[s, x], argTypes := #[23, 23] }) (ao : Option Addr) (n cap : Nat) (l : List Nat) (hs : a.eval s = .slice ao n cap) (hn : n = l.length) (hR : Rw w ao cap l)
    (ad : Addr) (c xx : Nat) (hx : a.eval x = .slice (some ad) 1 c) (hc : w.cell? ad = some (.int .u8 ((xx : Nat) : Int))) (hlen : l.length + 1 ≤ 140737488355328)
    (h : ∀ g cap' w', Rw w' (some ⟨g, 0, none⟩) cap' (l ++ [xx]) → New w ao (some ⟨g, 0, none⟩) → w.grownBy w' (ao.map Addr.block) → g < w'.heap.size → K (a.put o.dst (.slice (some ⟨g, 0, none⟩) (n + 1) cap')) w') : o.wp Try.prog a w K Q := by
  obtain ⟨g, cap', w', hr, h1, h2, h3, h4⟩ := run_ap1 w o.type ao n cap l hn hR ad c xx hc hlen
  unfold Oper.wp execOp
  simp only [ho, resolve, invoke, builtin, Sem.run_bind, Sem.run_pure, Result.andThen_ok, List.map_toArray, List.map_cons, List.map_nil, hs, hx, hr]
  exact h g cap' w' h1 h2 h3 h4
theorem wpList_ap1 {w : World} {ops : Array Oper} {rest : List Oper} {o : Oper} {a : Act} {Q : Exit → Act → World → Prop} (hgd : o.guard = none) (s x : Operand)
    (ho : o.op = .call { callee := .builtin .append, args := #[s, x], argTypes := #[23, 23] }) (ao : Option Addr) (n cap : Nat) (l : List Nat) (hs : a.eval s = .slice ao n cap) (hn : n = l.length) (hR : Rw w ao cap l)
    (ad : Addr) (c xx : Nat) (hx : a.eval x = .slice (some ad) 1 c) (hc : w.cell? ad = some (.int .u8 ((xx : Nat) : Int))) (hlen : l.length + 1 ≤ 140737488355328)
    (h : ∀ g cap' w', Rw w' (some ⟨g, 0, none⟩) cap' (l ++ [xx]) → New w ao (some ⟨g, 0, none⟩) → w.grownBy w' (ao.map Addr.block) → g < w'.heap.size → wpList Try.prog ops Q rest (a.put o.dst (.slice (some ⟨g, 0, none⟩) (n + 1) cap')) w') : wpList Try.prog ops Q (o :: rest) a w :=
  wpList_plain hgd fun _ hK => wp_ap1 s x ho ao n cap l hs hn hR ad c xx hx hc hlen fun g cap' w' h1 h2 h3 h4 => hK _ _ (h g cap' w' h1 h2 h3 h4)
theorem step_ap1 {w : World} {ops : Array Oper} {o : Oper} {a : Act} {K : Act → World → Prop} {Q : Exit → Act → World → Prop} {E : Prop} (hgd : o.guard = none) (s x : Operand)
    (ho : o.op = .call { callee := .builtin .append, args := #[s, x], argTypes := #[23, 23] }) (ao : Option Addr) (n cap : Nat) (l : List Nat) (hs : a.eval s = .slice ao n cap) (hn : n = l.length) (hR : Rw w ao cap l)
    (ad : Addr) (c xx : Nat) (hx : a.eval x = .slice (some ad) 1 c) (hc : w.cell? ad = some (.int .u8 ((xx : Nat) : Int))) (hlen : l.length + 1 ≤ 140737488355328)
    (h : ∀ g cap' w', Rw w' (some ⟨g, 0, none⟩) cap' (l ++ [xx]) → New w ao (some ⟨g, 0, none⟩) → w.grownBy w' (ao.map Addr.block) → g < w'.heap.size → K (a.put o.dst (.slice (some ⟨g, 0, none⟩) (n + 1) cap')) w') :
    if Region.wanted o (yielded ops a.tmps) = true then Oper.wp Try.prog o a w K Q else E := by
  have hw : Region.wanted o (yielded ops a.tmps) = true := by simp [Region.wanted, hgd]
  rw [if_pos hw]
  exact wp_ap1 s x ho ao n cap l hs hn hR ad c xx hx hc hlen h

/-- bytes are appended -/
theorem run_apB (w : World) (ty : TypeId) (a : Option Addr) (n cap : Nat) (l : List Nat) (hn : n = l.length) (hR : Rw w a cap l) (ab : Option Addr) (m c : Nat) (lb : List Nat) (hm : m = lb.length) (hB : Bs w ab lb) (hlen : l.length + lb.length ≤ 140737488355328) :
    ∃ a' cap' w', (Builtin.append_ #[23, 23] ty #[.slice a n cap, .slice ab m c]).run Try.prog w = .ok (.slice a' (n + m) cap') w' ∧
      Rw w' a' cap' (l ++ lb) ∧ New w a a' ∧ w.grownBy w' (a.map Addr.block) ∧ (a ≠ none → a' ≠ none) := by
  subst hn hm
  obtain ⟨i0, hi, hz0, hz1, hz2⟩ := info_parts infoU8
  by_cases h0 : lb = []
  · subst h0
    have hfc : ∀ z : Option Addr, (Builtin.firstCells 1 0 (.slice z 0 c)).run Try.prog w = .ok #[] w := by
      intro z
      cases z with
      | none => rfl
      | some z => simp [Builtin.firstCells, loadCells, loadCellsFrom]
    refine ⟨a, cap, w, ?_, by simpa using hR, New.refl _ _, ⟨rfl, rfl, rfl, Nat.le_refl _, fun _ _ _ => rfl⟩, id⟩
    rcases hR.cases with ⟨rfl, rfl, rfl⟩ | ⟨g, cur, rfl, hg, h1, h2, h3, h4⟩
    · simp [Builtin.append_, run_underlying Try.underlying23, sizeOf, typeInfo, hi, hz1, Builtin.lenOf, hfc]
    · simp [Builtin.append_, run_underlying Try.underlying23, sizeOf, typeInfo, hi, hz1, Builtin.lenOf, hfc, h1, storeCells]
  · rcases hB.2.2 with h | ⟨b, off, rfl, hc⟩
    · exact absurd h h0
    · have hpos : 0 < lb.length := List.length_pos_iff.2 h0
      obtain ⟨g, cap', w', hr, h1, h2, h3, h4⟩ := run_append_lies (P := Try.prog) w 23 ty 0 5 i0 (.int .u8 0) 1 1 Try.underlying23 hi hz0 hz1 hz2 rfl (by decide) (.slice a l.length cap) l.length (vb l) hR ⟨b, off, none⟩ lb.length c (vb lb) (by rw [vb_length, Nat.mul_one])
        (by intro j u hj
            have hlt : j < lb.length := by
              have := (List.getElem?_eq_some_iff.1 hj).1
              rwa [vb_length] at this
            rw [vb_get lb j hlt, Option.some.injEq] at hj
            subst hj
            have ea : (⟨b, off, none⟩ : Addr).add j = ⟨b, off + j, none⟩ := by unfold Addr.add; split <;> simp_all
            rw [ea]
            exact hc j hlt) (vb_one lb) hpos (by unfold maxLen; omega) (by omega) (Nat.zero_le _) w.heap.size rfl
      rw [ob_eq] at h2 h3
      refine ⟨_, cap', w', hr, ?_, ?_, h2, fun _ => by simp⟩
      · unfold Rw
        rw [vb_append, List.length_append]
        exact h1
      · intro y hy
        simp only [Option.some.injEq] at hy
        subst hy
        rcases h3 with h3 | h3
        · obtain ⟨z, hz, e⟩ := map_some h3
          exact .inl ⟨z, hz, e⟩
        · exact .inr (by show _ ≤ g; omega)
theorem wp_apB {w : World} {o : Oper} {a : Act} {K : Act → World → Prop} {Q : Exit → Act → World → Prop} (s x : Operand)
    (ho : o.op = .call { callee := .builtin .append, args := #[s, x], argTypes := #[23, 23] }) (ao : Option Addr) (n cap : Nat) (l : List Nat) (hs : a.eval s = .slice ao n cap) (hn : n = l.length) (hR : Rw w ao cap l)
    (ab : Option Addr) (m c : Nat) (lb : List Nat) (hx : a.eval x = .slice ab m c) (hm : m = lb.length) (hB : Bs w ab lb) (hlen : l.length + lb.length ≤ 140737488355328)
    (h : ∀ a' cap' w', Rw w' a' cap' (l ++ lb) → New w ao a' → w.grownBy w' (ao.map Addr.block) → (ao ≠ none → a' ≠ none) → K (a.put o.dst (.slice a' (n + m) cap')) w') : o.wp Try.prog a w K Q := by
  obtain ⟨a', cap', w', hr, h1, h2, h3, h4⟩ := run_apB w o.type ao n cap l hn hR ab m c lb hm hB hlen
  unfold Oper.wp execOp
  simp only [ho, resolve, invoke, builtin, Sem.run_bind, Sem.run_pure, Result.andThen_ok, List.map_toArray, List.map_cons, List.map_nil, hs, hx, hr]
  exact h a' cap' w' h1 h2 h3 h4
theorem wpList_apB {w : World} {ops : Array Oper} {rest : List Oper} {o : Oper} {a : Act} {Q : Exit → Act → World → Prop} (hgd : o.guard = none) (s x : Operand)
    (ho : o.op = .call { callee := .builtin .append, args := #[s, x], argTypes := #[23, 23] }) (ao : Option Addr) (n cap : Nat) (l : List Nat) (hs : a.eval s = .slice ao n cap) (hn : n = l.length) (hR : Rw w ao cap l)
    (ab : Option Addr) (m c : Nat) (lb : List Nat) (hx : a.eval x = .slice ab m c) (hm : m = lb.length) (hB : Bs w ab lb) (hlen : l.length + lb.length ≤ 140737488355328)
    (h : ∀ a' cap' w', Rw w' a' cap' (l ++ lb) → New w ao a' → w.grownBy w' (ao.map Addr.block) → (ao ≠ none → a' ≠ none) → wpList Try.prog ops Q rest (a.put o.dst (.slice a' (n + m) cap')) w') : wpList Try.prog ops Q (o :: rest) a w :=
  wpList_plain hgd fun _ hK => wp_apB s x ho ao n cap l hs hn hR ab m c lb hx hm hB hlen fun a' cap' w' h1 h2 h3 h4 => hK _ _ (h a' cap' w' h1 h2 h3 h4)
end Go.Proofs.Ytoachodngjlpaaa
