import Derived.Test.YthfcgfdboienkabXJ
namespace Go.Proofs.Ythfcgfdboienkab
open Go.RowKit

/-- values in a block of their own, or nil -/
def Pc (L : List VV) : List Value := (L.map fun v => v.pc.toList).flatten
theorem Pc_snoc (L : List VV) (v : VV) : Pc (L ++ [v]) = Pc L ++ v.pc.toList := by simp [Pc]
theorem Pc_length (L : List VV) : (Pc L).length = L.length * 6 := by
  induction L with
  | nil => rfl
  | cons v L ih =>
    have : Pc (v :: L) = v.pc.toList ++ Pc L := by simp [Pc]
    rw [this, List.length_append, ih, List.length_cons]
    have : v.pc.toList.length = 6 := rfl
    omega
theorem Pc_get (L : List VV) (r j : Nat) (hr : r < L.length) (hj : j < 6) : (Pc L)[r * 6 + j]? = (L.getD r VV.zero).pc.toList[j]? := by
  induction L generalizing r with
  | nil => simp at hr
  | cons v L ih =>
    have e : Pc (v :: L) = v.pc.toList ++ Pc L := by simp [Pc]
    have hl : v.pc.toList.length = 6 := rfl
    rw [e]
    cases r with
    | zero =>
      rw [Nat.zero_mul, Nat.zero_add, List.getElem?_append_left (by omega)]
      simp
    | succ r =>
      rw [List.getElem?_append_right (by rw [hl]; omega), hl, show (r + 1) * 6 + j - 6 = r * 6 + j by omega, ih r (by simpa using hr)]
      simp
def Pw (w : World) (a : Option Addr) (cap : Nat) (L : List VV) : Prop := w.ownsRow 0 48 6 (.slice a L.length cap) L.length (Pc L)
theorem Pw.nil (w : World) : Pw w none 0 [] := World.ownsRow_nil w 0 48 6
theorem Pw.cases {w : World} {a : Option Addr} {cap : Nat} {L : List VV} (h : Pw w a cap L) : (a = none ∧ cap = 0 ∧ L = []) ∨
    ∃ g cur, a = some ⟨g, 0, none⟩ ∧ w.heap[g]? = some (.cells cur 48 (0, 0)) ∧ L.length ≤ cap ∧ cap ≤ maxLen ∧ cur.size = cap * 6 ∧ cur.toList.take (L.length * 6) = Pc L := by
  obtain ⟨_, h2⟩ := h
  rcases h2 with ⟨hv, h0⟩ | ⟨g, cap', cur, hv, _, hg, hn, hm, hs, ht⟩
  · simp only [Value.slice.injEq] at hv
    exact .inl ⟨hv.1, hv.2.2, List.length_eq_zero_iff.1 h0⟩
  · simp only [Value.slice.injEq] at hv
    obtain ⟨h1, _, rfl⟩ := hv
    exact .inr ⟨g, cur, h1, hg, hn, hm, hs, ht⟩
theorem Pw.mk {w : World} {g cap : Nat} {cur : Array Value} {L : List VV} (hg : w.heap[g]? = some (.cells cur 48 (0, 0))) (hn : L.length ≤ cap) (hm : cap ≤ maxLen) (hs : cur.size = cap * 6) (ht : cur.toList.take (L.length * 6) = Pc L) : Pw w (some ⟨g, 0, none⟩) cap L :=
  ⟨Pc_length L, .inr ⟨g, cap, cur, rfl, Nat.zero_le _, hg, hn, hm, hs, ht⟩⟩
theorem Pw.lt {w : World} {a : Option Addr} {cap : Nat} {L : List VV} (h : Pw w a cap L) {x : Addr} (hx : a = some x) : x.block < w.heap.size := by
  rcases h.cases with ⟨rfl, _⟩ | ⟨g, cur, rfl, hg, _⟩
  · cases hx
  · cases hx; exact (Array.getElem?_eq_some_iff.1 hg).1
theorem Pw.but {S : Nat → Prop} {w w' : World} {a : Option Addr} {cap : Nat} {L : List VV} (h : Pw w a cap L) (hb : But S w w') (hn : ∀ x, a = some x → ¬ S x.block) : Pw w' a cap L := by
  rcases h.cases with ⟨rfl, rfl, rfl⟩ | ⟨g, cur, rfl, hg, h1, h2, h3, h4⟩
  · exact Pw.nil w'
  · exact Pw.mk ((hb.block g (Array.getElem?_eq_some_iff.1 hg).1 (hn _ rfl)).trans hg) h1 h2 h3 h4
theorem Pw.keep {w w' : World} {a : Option Addr} {cap : Nat} {L : List VV} (h : Pw w a cap L) (hb : Below w.heap.size w w') : Pw w' a cap L :=
  h.but (S := fun _ => False) (But.ofBelow hb) (fun _ _ hf => hf)
theorem Pw.read {w : World} {a : Option Addr} {cap : Nat} {L : List VV} (h : Pw w a cap L) (hk : ∀ v ∈ L, v.ok) (hl : L.length ≤ 2199023255552) : Ps w a L := by
  refine ⟨hk, hl, ?_⟩
  rcases h.cases with ⟨rfl, rfl, rfl⟩ | ⟨g, cur, rfl, hg, h1, h2, h3, h4⟩
  · exact .inl rfl
  · refine .inr ⟨g, 0, rfl, fun r hr j u hu => ?_⟩
    have hj : j < 6 := (List.getElem?_eq_some_iff.1 hu).1
    rw [cell_of_row _ _ _ _ _ _ hg, Nat.zero_add, ← hu, ← Pc_get L r j hr hj, ← h4, List.getElem?_take, if_pos (by have : (r + 1) * 6 ≤ L.length * 6 := Nat.mul_le_mul_right _ hr; omega)]
    simp
theorem run_apP (w : World) (ty : TypeId) (a : Option Addr) (n cap : Nat) (L : List VV) (hn : n = L.length) (hR : Pw w a cap L) (ad : Addr) (c : Nat) (v : VV) (hc : ∀ j u, v.pc.toList[j]? = some u → w.cell? (ad.add j) = some u) (hlen : L.length + 1 ≤ 4294967296) :
    ∃ g cap' w', (Builtin.append_ #[24, 24] ty #[.slice a n cap, .slice (some ad) 1 c]).run Try.prog w = .ok (.slice (some ⟨g, 0, none⟩) (n + 1) cap') w' ∧
      Pw w' (some ⟨g, 0, none⟩) cap' (L ++ [v]) ∧ New w a (some ⟨g, 0, none⟩) ∧ w.grownBy w' (a.map Addr.block) := by
  subst hn
  obtain ⟨i0, hi, hz0, hz1, hz2⟩ := info_parts infoVal
  obtain ⟨g, cap', w', hr, h1, h2, h3, h4⟩ := run_append_lies (P := Try.prog) w 24 ty 0 48 i0 (.agg VV.zero.pc) 6 64 Try.underlying24 hi hz0 hz1 hz2 rfl (by decide) (.slice a L.length cap) L.length (Pc L) hR ad 1 c v.pc.toList rfl
    hc (fun u hu => (Array.all_eq_true_iff_forall_mem.1 (pc_one v)) u (by simpa using hu)) (by decide) (by unfold maxLen; omega) (by omega) (Nat.zero_le _) w.heap.size rfl
  rw [ob_eq] at h2 h3
  refine ⟨g, cap', w', hr, ?_, ?_, h2⟩
  · unfold Pw
    rw [Pc_snoc, List.length_append]
    exact h1
  · intro y hy
    simp only [Option.some.injEq] at hy
    subst hy
    rcases h3 with h3 | h3
    · obtain ⟨z, hz, e⟩ := map_some h3
      exact .inl ⟨z, hz, e⟩
    · exact .inr (by show _ ≤ g; omega)
theorem wp_apP {w : World} {o : Oper} {a : Act} {K : Act → World → Prop} {Q : Exit → Act → World → Prop} (s x : Operand)
    (ho : o.op = .call { callee := .builtin .append, args := #[s, x], argTypes := #[24, 24] }) (ao : Option Addr) (n cap : Nat) (L : List VV) (hs : a.eval s = .slice ao n cap) (hn : n = L.length) (hR : Pw w ao cap L)
    (ad : Addr) (c : Nat) (v : VV) (hx : a.eval x = .slice (some ad) 1 c) (hc : ∀ j u, v.pc.toList[j]? = some u → w.cell? (ad.add j) = some u) (hlen : L.length + 1 ≤ 4294967296)
    (h : ∀ g cap' w', Pw w' (some ⟨g, 0, none⟩) cap' (L ++ [v]) → New w ao (some ⟨g, 0, none⟩) → w.grownBy w' (ao.map Addr.block) → K (a.put o.dst (.slice (some ⟨g, 0, none⟩) (n + 1) cap')) w') : o.wp Try.prog a w K Q := by
  obtain ⟨g, cap', w', hr, h1, h2, h3⟩ := run_apP w o.type ao n cap L hn hR ad c v hc hlen
  unfold Oper.wp execOp
  simp only [ho, resolve, invoke, builtin, Sem.run_bind, Sem.run_pure, Result.andThen_ok, List.map_toArray, List.map_cons, List.map_nil, hs, hx, hr]
  exact h g cap' w' h1 h2 h3
theorem wpList_apP {w : World} {ops : Array Oper} {rest : List Oper} {o : Oper} {a : Act} {Q : Exit → Act → World → Prop} (hgd : o.guard = none) (s x : Operand)
    (ho : o.op = .call { callee := .builtin .append, args := #[s, x], argTypes := #[24, 24] }) (ao : Option Addr) (n cap : Nat) (L : List VV) (hs : a.eval s = .slice ao n cap) (hn : n = L.length) (hR : Pw w ao cap L)
    (ad : Addr) (c : Nat) (v : VV) (hx : a.eval x = .slice (some ad) 1 c) (hc : ∀ j u, v.pc.toList[j]? = some u → w.cell? (ad.add j) = some u) (hlen : L.length + 1 ≤ 4294967296)
    (h : ∀ g cap' w', Pw w' (some ⟨g, 0, none⟩) cap' (L ++ [v]) → New w ao (some ⟨g, 0, none⟩) → w.grownBy w' (ao.map Addr.block) → wpList Try.prog ops Q rest (a.put o.dst (.slice (some ⟨g, 0, none⟩) (n + 1) cap')) w') : wpList Try.prog ops Q (o :: rest) a w :=
  wpList_plain hgd fun _ hK => wp_apP s x ho ao n cap L hs hn hR ad c v hx hc hlen fun g cap' w' h1 h2 h3 => hK _ _ (h g cap' w' h1 h2 h3)
/-- a row of values of the call's own -/
structure POwn (w wx : World) (a : Option Addr) (cap : Nat) (L : List VV) : Prop where
  r : Pw wx a cap L
  n : New w none a
  b : Below w.heap.size w wx
theorem POwn.nil (w : World) {wx : World} (h : Below w.heap.size w wx) : POwn w wx none 0 [] := ⟨Pw.nil _, New.none _ _, h⟩
theorem POwn.keep {w wx wy : World} {a : Option Addr} {cap : Nat} {L : List VV} (h : POwn w wx a cap L) (hb : Below wx.heap.size wx wy) : POwn w wy a cap L := ⟨h.r.keep hb, h.n, bt h.b hb⟩
theorem POwn.step {w wx w1 wy : World} {a a' : Option Addr} {cap cap' : Nat} {L L' : List VV} (h : POwn w wx a cap L) (hb : Below wx.heap.size wx w1) (hR : Pw wy a' cap' L') (hN : New w1 a a') (hg : w1.grownBy wy (a.map Addr.block)) : POwn w wy a' cap' L' := by
  refine ⟨hR, h.n.trans hN (Nat.le_trans h.b.size hb.size), ?_⟩
  have h1 := bt h.b hb
  have hh : But (fun _ => False) w wy := (But.ofBelow h1).grown hg fun k hk hlt => by
    obtain ⟨y, hy, e⟩ := map_some hk
    rcases h.n y hy with ⟨z, hz, _⟩ | h2
    · cases hz
    · omega
  exact hh.below fun _ _ h => h
/-- values in a block of their own, or nil -/
def Rc (L : List VV) : List Value := (L.map fun v => v.rc.toList).flatten
theorem Rc_snoc (L : List VV) (v : VV) : Rc (L ++ [v]) = Rc L ++ v.rc.toList := by simp [Rc]
theorem Rc_length (L : List VV) : (Rc L).length = L.length * 7 := by
  induction L with
  | nil => rfl
  | cons v L ih =>
    have : Rc (v :: L) = v.rc.toList ++ Rc L := by simp [Rc]
    rw [this, List.length_append, ih, List.length_cons]
    have : v.rc.toList.length = 7 := rfl
    omega
theorem Rc_get (L : List VV) (r j : Nat) (hr : r < L.length) (hj : j < 7) : (Rc L)[r * 7 + j]? = (L.getD r VV.zero).rc.toList[j]? := by
  induction L generalizing r with
  | nil => simp at hr
  | cons v L ih =>
    have e : Rc (v :: L) = v.rc.toList ++ Rc L := by simp [Rc]
    have hl : v.rc.toList.length = 7 := rfl
    rw [e]
    cases r with
    | zero =>
      rw [Nat.zero_mul, Nat.zero_add, List.getElem?_append_left (by omega)]
      simp
    | succ r =>
      rw [List.getElem?_append_right (by rw [hl]; omega), hl, show (r + 1) * 7 + j - 7 = r * 7 + j by omega, ih r (by simpa using hr)]
      simp
def Rvw (w : World) (a : Option Addr) (cap : Nat) (L : List VV) : Prop := w.ownsRow 0 52 7 (.slice a L.length cap) L.length (Rc L)
theorem Rvw.nil (w : World) : Rvw w none 0 [] := World.ownsRow_nil w 0 52 7
theorem Rvw.cases {w : World} {a : Option Addr} {cap : Nat} {L : List VV} (h : Rvw w a cap L) : (a = none ∧ cap = 0 ∧ L = []) ∨
    ∃ g cur, a = some ⟨g, 0, none⟩ ∧ w.heap[g]? = some (.cells cur 52 (0, 0)) ∧ L.length ≤ cap ∧ cap ≤ maxLen ∧ cur.size = cap * 7 ∧ cur.toList.take (L.length * 7) = Rc L := by
  obtain ⟨_, h2⟩ := h
  rcases h2 with ⟨hv, h0⟩ | ⟨g, cap', cur, hv, _, hg, hn, hm, hs, ht⟩
  · simp only [Value.slice.injEq] at hv
    exact .inl ⟨hv.1, hv.2.2, List.length_eq_zero_iff.1 h0⟩
  · simp only [Value.slice.injEq] at hv
    obtain ⟨h1, _, rfl⟩ := hv
    exact .inr ⟨g, cur, h1, hg, hn, hm, hs, ht⟩
theorem Rvw.mk {w : World} {g cap : Nat} {cur : Array Value} {L : List VV} (hg : w.heap[g]? = some (.cells cur 52 (0, 0))) (hn : L.length ≤ cap) (hm : cap ≤ maxLen) (hs : cur.size = cap * 7) (ht : cur.toList.take (L.length * 7) = Rc L) : Rvw w (some ⟨g, 0, none⟩) cap L :=
  ⟨Rc_length L, .inr ⟨g, cap, cur, rfl, Nat.zero_le _, hg, hn, hm, hs, ht⟩⟩
theorem Rvw.lt {w : World} {a : Option Addr} {cap : Nat} {L : List VV} (h : Rvw w a cap L) {x : Addr} (hx : a = some x) : x.block < w.heap.size := by
  rcases h.cases with ⟨rfl, _⟩ | ⟨g, cur, rfl, hg, _⟩
  · cases hx
  · cases hx; exact (Array.getElem?_eq_some_iff.1 hg).1
theorem Rvw.but {S : Nat → Prop} {w w' : World} {a : Option Addr} {cap : Nat} {L : List VV} (h : Rvw w a cap L) (hb : But S w w') (hn : ∀ x, a = some x → ¬ S x.block) : Rvw w' a cap L := by
  rcases h.cases with ⟨rfl, rfl, rfl⟩ | ⟨g, cur, rfl, hg, h1, h2, h3, h4⟩
  · exact Rvw.nil w'
  · exact Rvw.mk ((hb.block g (Array.getElem?_eq_some_iff.1 hg).1 (hn _ rfl)).trans hg) h1 h2 h3 h4
theorem Rvw.keep {w w' : World} {a : Option Addr} {cap : Nat} {L : List VV} (h : Rvw w a cap L) (hb : Below w.heap.size w w') : Rvw w' a cap L :=
  h.but (S := fun _ => False) (But.ofBelow hb) (fun _ _ hf => hf)
theorem Rvw.read {w : World} {a : Option Addr} {cap : Nat} {L : List VV} (h : Rvw w a cap L) (hk : ∀ v ∈ L, v.ok) (hl : L.length ≤ 2199023255552) : Rs w a L := by
  refine ⟨hk, hl, ?_⟩
  rcases h.cases with ⟨rfl, rfl, rfl⟩ | ⟨g, cur, rfl, hg, h1, h2, h3, h4⟩
  · exact .inl rfl
  · refine .inr ⟨g, 0, rfl, fun r hr j u hu => ?_⟩
    have hj : j < 7 := (List.getElem?_eq_some_iff.1 hu).1
    rw [cell_of_row _ _ _ _ _ _ hg, Nat.zero_add, ← hu, ← Rc_get L r j hr hj, ← h4, List.getElem?_take, if_pos (by have : (r + 1) * 7 ≤ L.length * 7 := Nat.mul_le_mul_right _ hr; omega)]
    simp
theorem run_apR (w : World) (ty : TypeId) (a : Option Addr) (n cap : Nat) (L : List VV) (hn : n = L.length) (hR : Rvw w a cap L) (ad : Addr) (c : Nat) (v : VV) (hc : ∀ j u, v.rc.toList[j]? = some u → w.cell? (ad.add j) = some u) (hlen : L.length + 1 ≤ 4294967296) :
    ∃ g cap' w', (Builtin.append_ #[33, 33] ty #[.slice a n cap, .slice (some ad) 1 c]).run Try.prog w = .ok (.slice (some ⟨g, 0, none⟩) (n + 1) cap') w' ∧
      Rvw w' (some ⟨g, 0, none⟩) cap' (L ++ [v]) ∧ New w a (some ⟨g, 0, none⟩) ∧ w.grownBy w' (a.map Addr.block) := by
  subst hn
  obtain ⟨i0, hi, hz0, hz1, hz2⟩ := info_parts infoV
  obtain ⟨g, cap', w', hr, h1, h2, h3, h4⟩ := run_append_lies (P := Try.prog) w 33 ty 0 52 i0 (.agg VV.zero.rc) 7 64 Try.underlying33 hi hz0 hz1 hz2 rfl (by decide) (.slice a L.length cap) L.length (Rc L) hR ad 1 c v.rc.toList rfl
    hc (fun u hu => (Array.all_eq_true_iff_forall_mem.1 (rc_one v)) u (by simpa using hu)) (by decide) (by unfold maxLen; omega) (by omega) (Nat.zero_le _) w.heap.size rfl
  rw [ob_eq] at h2 h3
  refine ⟨g, cap', w', hr, ?_, ?_, h2⟩
  · unfold Rvw
    rw [Rc_snoc, List.length_append]
    exact h1
  · intro y hy
    simp only [Option.some.injEq] at hy
    subst hy
    rcases h3 with h3 | h3
    · obtain ⟨z, hz, e⟩ := map_some h3
      exact .inl ⟨z, hz, e⟩
    · exact .inr (by show _ ≤ g; omega)
theorem wp_apR {w : World} {o : Oper} {a : Act} {K : Act → World → Prop} {Q : Exit → Act → World → Prop} (s x : Operand)
    (ho : o.op = .call { callee := .builtin .append, args := #[s, x], argTypes := #[33, 33] }) (ao : Option Addr) (n cap : Nat) (L : List VV) (hs : a.eval s = .slice ao n cap) (hn : n = L.length) (hR : Rvw w ao cap L)
    (ad : Addr) (c : Nat) (v : VV) (hx : a.eval x = .slice (some ad) 1 c) (hc : ∀ j u, v.rc.toList[j]? = some u → w.cell? (ad.add j) = some u) (hlen : L.length + 1 ≤ 4294967296)
    (h : ∀ g cap' w', Rvw w' (some ⟨g, 0, none⟩) cap' (L ++ [v]) → New w ao (some ⟨g, 0, none⟩) → w.grownBy w' (ao.map Addr.block) → K (a.put o.dst (.slice (some ⟨g, 0, none⟩) (n + 1) cap')) w') : o.wp Try.prog a w K Q := by
  obtain ⟨g, cap', w', hr, h1, h2, h3⟩ := run_apR w o.type ao n cap L hn hR ad c v hc hlen
  unfold Oper.wp execOp
  simp only [ho, resolve, invoke, builtin, Sem.run_bind, Sem.run_pure, Result.andThen_ok, List.map_toArray, List.map_cons, List.map_nil, hs, hx, hr]
  exact h g cap' w' h1 h2 h3
theorem wpList_apR {w : World} {ops : Array Oper} {rest : List Oper} {o : Oper} {a : Act} {Q : Exit → Act → World → Prop} (hgd : o.guard = none) (s x : Operand)
    (ho : o.op = .call { callee := .builtin .append, args := #[s, x], argTypes := #[33, 33] }) (ao : Option Addr) (n cap : Nat) (L : List VV) (hs : a.eval s = .slice ao n cap) (hn : n = L.length) (hR : Rvw w ao cap L)
    (ad : Addr) (c : Nat) (v : VV) (hx : a.eval x = .slice (some ad) 1 c) (hc : ∀ j u, v.rc.toList[j]? = some u → w.cell? (ad.add j) = some u) (hlen : L.length + 1 ≤ 4294967296)
    (h : ∀ g cap' w', Rvw w' (some ⟨g, 0, none⟩) cap' (L ++ [v]) → New w ao (some ⟨g, 0, none⟩) → w.grownBy w' (ao.map Addr.block) → wpList Try.prog ops Q rest (a.put o.dst (.slice (some ⟨g, 0, none⟩) (n + 1) cap')) w') : wpList Try.prog ops Q (o :: rest) a w :=
  wpList_plain hgd fun _ hK => wp_apR s x ho ao n cap L hs hn hR ad c v hx hc hlen fun g cap' w' h1 h2 h3 => hK _ _ (h g cap' w' h1 h2 h3)
/-- a row of values of the call's own -/
structure ROwn (w wx : World) (a : Option Addr) (cap : Nat) (L : List VV) : Prop where
  r : Rvw wx a cap L
  n : New w none a
  b : Below w.heap.size w wx
theorem ROwn.nil (w : World) {wx : World} (h : Below w.heap.size w wx) : ROwn w wx none 0 [] := ⟨Rvw.nil _, New.none _ _, h⟩
theorem ROwn.keep {w wx wy : World} {a : Option Addr} {cap : Nat} {L : List VV} (h : ROwn w wx a cap L) (hb : Below wx.heap.size wx wy) : ROwn w wy a cap L := ⟨h.r.keep hb, h.n, bt h.b hb⟩
theorem ROwn.step {w wx w1 wy : World} {a a' : Option Addr} {cap cap' : Nat} {L L' : List VV} (h : ROwn w wx a cap L) (hb : Below wx.heap.size wx w1) (hR : Rvw wy a' cap' L') (hN : New w1 a a') (hg : w1.grownBy wy (a.map Addr.block)) : ROwn w wy a' cap' L' := by
  refine ⟨hR, h.n.trans hN (Nat.le_trans h.b.size hb.size), ?_⟩
  have h1 := bt h.b hb
  have hh : But (fun _ => False) w wy := (But.ofBelow h1).grown hg fun k hk hlt => by
    obtain ⟨y, hy, e⟩ := map_some hk
    rcases h.n y hy with ⟨z, hz, _⟩ | h2
    · cases hz
    · omega
  exact hh.below fun _ _ h => h
end Go.Proofs.Ythfcgfdboienkab
