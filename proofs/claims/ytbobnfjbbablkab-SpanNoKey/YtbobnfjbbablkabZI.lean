import Derived.Test.YtbobnfjbbablkabZG
import Derived.Deep.MidRow
namespace Go.Proofs.Ytbobnfjbbablkab
open Go.RowKit

def Rv.zero : Rv := ⟨none, 0, [], none, 0, [], false⟩
theorem infoRng : (Try.prog.info? 24).map (fun i => (i.zero, i.size, i.bytes)) = some (some (.agg Rv.zero.cs), 3, 56) := by kernel_rfl
theorem cs_one (v : Rv) : v.cs.all (·.oneCell') = true := by simp [Rv.cs, Value.oneCell']
theorem range_below {w w' : World} {b o : Nat} {cs : List Value} (h : w.rangeAt b o cs) (hb : Below w.heap.size w w') : w'.rangeAt b o cs := fun j v hv => (hb.cell (p := ⟨b, o + j, none⟩) (block_lt_of_cell (h j v hv))).trans (h j v hv)
/-- ranges that can be read -/
def Qs (w : World) (a : Option Addr) (L : List Rv) : Prop :=
  (∀ r ∈ L, Ri w r) ∧ L.length ≤ 2199023255552 ∧ (L = [] ∨ ∃ b off, a = some ⟨b, off, none⟩ ∧ ∀ r, r < L.length → w.rangeAt b (off + r * 3) (L.getD r Rv.zero).cs.toList)
theorem getD_memR {L : List Rv} {r : Nat} (h : r < L.length) : L.getD r Rv.zero ∈ L := by simp [h]
theorem Qs.keep {w w' : World} {a : Option Addr} {L : List Rv} (h : Qs w a L) (hb : Below w.heap.size w w') : Qs w' a L :=
  ⟨fun r hr => (h.1 r hr).keep hb, h.2.1, h.2.2.imp id fun ⟨b, off, e, hr⟩ => ⟨b, off, e, fun r hr2 => range_below (hr r hr2) hb⟩⟩
theorem Qs.at {w : World} {a : Option Addr} {L : List Rv} (h : Qs w a L) {r : Nat} (hr : r < L.length) : ∃ b off, a = some ⟨b, off, none⟩ ∧ w.rangeAt b (off + r * 3) (L.getD r Rv.zero).cs.toList := by
  rcases h.2.2 with rfl | ⟨b, off, e, hc⟩
  · simp at hr
  · exact ⟨b, off, e, hc r hr⟩
theorem range3 {w : World} {b o : Nat} {r : Rv} (h : w.rangeAt b o r.cs.toList) : w.cell? ⟨b, o, none⟩ = some (.slice r.aL r.lo.length r.cL) ∧ w.cell? ⟨b, o + 1, none⟩ = some (.slice r.aH r.hi.length r.cH) ∧ w.cell? ⟨b, o + 2, none⟩ = some (.bool r.op) :=
  ⟨h 0 _ rfl, h 1 _ rfl, h 2 _ rfl⟩
/-- values in a block of their own, or nil -/
def Qc (L : List Rv) : List Value := (L.map fun v => v.cs.toList).flatten
theorem Qc_snoc (L : List Rv) (v : Rv) : Qc (L ++ [v]) = Qc L ++ v.cs.toList := by simp [Qc]
theorem Qc_length (L : List Rv) : (Qc L).length = L.length * 3 := by
  induction L with
  | nil => rfl
  | cons v L ih =>
    have : Qc (v :: L) = v.cs.toList ++ Qc L := by simp [Qc]
    rw [this, List.length_append, ih, List.length_cons]
    have : v.cs.toList.length = 3 := rfl
    omega
theorem Qc_get (L : List Rv) (r j : Nat) (hr : r < L.length) (hj : j < 3) : (Qc L)[r * 3 + j]? = (L.getD r Rv.zero).cs.toList[j]? := by
  induction L generalizing r with
  | nil => simp at hr
  | cons v L ih =>
    have e : Qc (v :: L) = v.cs.toList ++ Qc L := by simp [Qc]
    have hl : v.cs.toList.length = 3 := rfl
    rw [e]
    cases r with
    | zero =>
      rw [Nat.zero_mul, Nat.zero_add, List.getElem?_append_left (by omega)]
      simp
    | succ r =>
      rw [List.getElem?_append_right (by rw [hl]; omega), hl, show (r + 1) * 3 + j - 3 = r * 3 + j by omega, ih r (by simpa using hr)]
      simp
def Qw (w : World) (a : Option Addr) (cap : Nat) (L : List Rv) : Prop := w.ownsRow 0 24 3 (.slice a L.length cap) L.length (Qc L)
theorem Qw.nil (w : World) : Qw w none 0 [] := World.ownsRow_nil w 0 24 3
theorem Qw.cases {w : World} {a : Option Addr} {cap : Nat} {L : List Rv} (h : Qw w a cap L) : (a = none ∧ cap = 0 ∧ L = []) ∨
    ∃ g cur, a = some ⟨g, 0, none⟩ ∧ w.heap[g]? = some (.cells cur 24 (0, 0)) ∧ L.length ≤ cap ∧ cap ≤ maxLen ∧ cur.size = cap * 3 ∧ cur.toList.take (L.length * 3) = Qc L := by
  obtain ⟨_, h2⟩ := h
  rcases h2 with ⟨hv, h0⟩ | ⟨g, cap', cur, hv, _, hg, hn, hm, hs, ht⟩
  · simp only [Value.slice.injEq] at hv
    exact .inl ⟨hv.1, hv.2.2, List.length_eq_zero_iff.1 h0⟩
  · simp only [Value.slice.injEq] at hv
    obtain ⟨h1, _, rfl⟩ := hv
    exact .inr ⟨g, cur, h1, hg, hn, hm, hs, ht⟩
theorem Qw.mk {w : World} {g cap : Nat} {cur : Array Value} {L : List Rv} (hg : w.heap[g]? = some (.cells cur 24 (0, 0))) (hn : L.length ≤ cap) (hm : cap ≤ maxLen) (hs : cur.size = cap * 3) (ht : cur.toList.take (L.length * 3) = Qc L) : Qw w (some ⟨g, 0, none⟩) cap L :=
  ⟨Qc_length L, .inr ⟨g, cap, cur, rfl, Nat.zero_le _, hg, hn, hm, hs, ht⟩⟩
theorem Qw.lt {w : World} {a : Option Addr} {cap : Nat} {L : List Rv} (h : Qw w a cap L) {x : Addr} (hx : a = some x) : x.block < w.heap.size := by
  rcases h.cases with ⟨rfl, _⟩ | ⟨g, cur, rfl, hg, _⟩
  · cases hx
  · cases hx; exact (Array.getElem?_eq_some_iff.1 hg).1
theorem Qw.but {S : Nat → Prop} {w w' : World} {a : Option Addr} {cap : Nat} {L : List Rv} (h : Qw w a cap L) (hb : But S w w') (hn : ∀ x, a = some x → ¬ S x.block) : Qw w' a cap L := by
  rcases h.cases with ⟨rfl, rfl, rfl⟩ | ⟨g, cur, rfl, hg, h1, h2, h3, h4⟩
  · exact Qw.nil w'
  · exact Qw.mk ((hb.block g (Array.getElem?_eq_some_iff.1 hg).1 (hn _ rfl)).trans hg) h1 h2 h3 h4
theorem Qw.keep {w w' : World} {a : Option Addr} {cap : Nat} {L : List Rv} (h : Qw w a cap L) (hb : Below w.heap.size w w') : Qw w' a cap L :=
  h.but (S := fun _ => False) (But.ofBelow hb) (fun _ _ hf => hf)
theorem Qw.qs {w : World} {a : Option Addr} {cap : Nat} {L : List Rv} (h : Qw w a cap L) (hk : ∀ r ∈ L, Ri w r) (hl : L.length ≤ 2199023255552) : Qs w a L := by
  refine ⟨hk, hl, ?_⟩
  rcases h.cases with ⟨rfl, rfl, rfl⟩ | ⟨g, cur, rfl, hg, h1, h2, h3, h4⟩
  · exact .inl rfl
  · refine .inr ⟨g, 0, rfl, fun r hr j u hu => ?_⟩
    have hj : j < 3 := (List.getElem?_eq_some_iff.1 hu).1
    rw [cell_of_row _ _ _ _ _ _ hg, Nat.zero_add, ← hu, ← Qc_get L r j hr hj, ← h4, List.getElem?_take, if_pos (by have : (r + 1) * 3 ≤ L.length * 3 := Nat.mul_le_mul_right _ hr; omega)]
    simp
theorem run_apQ (w : World) (ty : TypeId) (a : Option Addr) (n cap : Nat) (L : List Rv) (hn : n = L.length) (hR : Qw w a cap L) (ad : Addr) (c : Nat) (v : Rv) (hc : ∀ j u, v.cs.toList[j]? = some u → w.cell? (ad.add j) = some u) (hlen : L.length + 1 ≤ 4294967296) :
    ∃ g cap' w', (Builtin.append_ #[38, 38] ty #[.slice a n cap, .slice (some ad) 1 c]).run Try.prog w = .ok (.slice (some ⟨g, 0, none⟩) (n + 1) cap') w' ∧
      Qw w' (some ⟨g, 0, none⟩) cap' (L ++ [v]) ∧ New w a (some ⟨g, 0, none⟩) ∧ w.grownBy w' (a.map Addr.block) := by
  subst hn
  obtain ⟨i0, hi, hz0, hz1, hz2⟩ := info_parts infoRng
  obtain ⟨g, cap', w', hr, h1, h2, h3, h4⟩ := run_append_lies (P := Try.prog) w 38 ty 0 24 i0 (.agg Rv.zero.cs) 3 56 Try.underlying38 hi hz0 hz1 hz2 rfl (by decide) (.slice a L.length cap) L.length (Qc L) hR ad 1 c v.cs.toList rfl
    hc (fun u hu => (Array.all_eq_true_iff_forall_mem.1 (cs_one v)) u (by simpa using hu)) (by decide) (by unfold maxLen; omega) (by omega) (Nat.zero_le _) w.heap.size rfl
  rw [ob_eq] at h2 h3
  refine ⟨g, cap', w', hr, ?_, ?_, h2⟩
  · unfold Qw
    rw [Qc_snoc, List.length_append]
    exact h1
  · intro y hy
    simp only [Option.some.injEq] at hy
    subst hy
    rcases h3 with h3 | h3
    · obtain ⟨z, hz, e⟩ := map_some h3
      exact .inl ⟨z, hz, e⟩
    · exact .inr (by show _ ≤ g; omega)
theorem wp_apQ {w : World} {o : Oper} {a : Act} {K : Act → World → Prop} {Q : Exit → Act → World → Prop} (s x : Operand)
    (ho : o.op = .call { callee := .builtin .append, args := #[s, x], argTypes := #[38, 38] }) (ao : Option Addr) (n cap : Nat) (L : List Rv) (hs : a.eval s = .slice ao n cap) (hn : n = L.length) (hR : Qw w ao cap L)
    (ad : Addr) (c : Nat) (v : Rv) (hx : a.eval x = .slice (some ad) 1 c) (hc : ∀ j u, v.cs.toList[j]? = some u → w.cell? (ad.add j) = some u) (hlen : L.length + 1 ≤ 4294967296)
    (h : ∀ g cap' w', Qw w' (some ⟨g, 0, none⟩) cap' (L ++ [v]) → New w ao (some ⟨g, 0, none⟩) → w.grownBy w' (ao.map Addr.block) → K (a.put o.dst (.slice (some ⟨g, 0, none⟩) (n + 1) cap')) w') : o.wp Try.prog a w K Q := by
  obtain ⟨g, cap', w', hr, h1, h2, h3⟩ := run_apQ w o.type ao n cap L hn hR ad c v hc hlen
  unfold Oper.wp execOp
  simp only [ho, resolve, invoke, builtin, Sem.run_bind, Sem.run_pure, Result.andThen_ok, List.map_toArray, List.map_cons, List.map_nil, hs, hx, hr]
  exact h g cap' w' h1 h2 h3
theorem wpList_apQ {w : World} {ops : Array Oper} {rest : List Oper} {o : Oper} {a : Act} {Q : Exit → Act → World → Prop} (hgd : o.guard = none) (s x : Operand)
    (ho : o.op = .call { callee := .builtin .append, args := #[s, x], argTypes := #[38, 38] }) (ao : Option Addr) (n cap : Nat) (L : List Rv) (hs : a.eval s = .slice ao n cap) (hn : n = L.length) (hR : Qw w ao cap L)
    (ad : Addr) (c : Nat) (v : Rv) (hx : a.eval x = .slice (some ad) 1 c) (hc : ∀ j u, v.cs.toList[j]? = some u → w.cell? (ad.add j) = some u) (hlen : L.length + 1 ≤ 4294967296)
    (h : ∀ g cap' w', Qw w' (some ⟨g, 0, none⟩) cap' (L ++ [v]) → New w ao (some ⟨g, 0, none⟩) → w.grownBy w' (ao.map Addr.block) → wpList Try.prog ops Q rest (a.put o.dst (.slice (some ⟨g, 0, none⟩) (n + 1) cap')) w') : wpList Try.prog ops Q (o :: rest) a w :=
  wpList_plain hgd fun _ hK => wp_apQ s x ho ao n cap L hs hn hR ad c v hx hc hlen fun g cap' w' h1 h2 h3 => hK _ _ (h g cap' w' h1 h2 h3)
/-- a row of values of the call's own -/
structure QOwn (w wx : World) (a : Option Addr) (cap : Nat) (L : List Rv) : Prop where
  r : Qw wx a cap L
  n : New w none a
  b : Below w.heap.size w wx
theorem QOwn.nil (w : World) {wx : World} (h : Below w.heap.size w wx) : QOwn w wx none 0 [] := ⟨Qw.nil _, New.none _ _, h⟩
theorem QOwn.keep {w wx wy : World} {a : Option Addr} {cap : Nat} {L : List Rv} (h : QOwn w wx a cap L) (hb : Below wx.heap.size wx wy) : QOwn w wy a cap L := ⟨h.r.keep hb, h.n, bt h.b hb⟩
theorem QOwn.step {w wx w1 wy : World} {a a' : Option Addr} {cap cap' : Nat} {L L' : List Rv} (h : QOwn w wx a cap L) (hb : Below wx.heap.size wx w1) (hR : Qw wy a' cap' L') (hN : New w1 a a') (hg : w1.grownBy wy (a.map Addr.block)) : QOwn w wy a' cap' L' := by
  refine ⟨hR, h.n.trans hN (Nat.le_trans h.b.size hb.size), ?_⟩
  have h1 := bt h.b hb
  have hh : But (fun _ => False) w wy := (But.ofBelow h1).grown hg fun k hk hlt => by
    obtain ⟨y, hy, e⟩ := map_some hk
    rcases h.n y hy with ⟨z, hz, _⟩ | h2
    · cases hz
    · omega
  exact hh.below fun _ _ h => h
theorem Qc_append (L M : List Rv) : Qc (L ++ M) = Qc L ++ Qc M := by simp [Qc]
theorem Qw.cells {w : World} {g cap : Nat} {L : List Rv} (h : Qw w (some ⟨g, 0, none⟩) cap L) : ∀ j u, (Qc L)[j]? = some u → w.cell? ((⟨g, 0, none⟩ : Addr).add j) = some u := by
  rcases h.cases with ⟨h0, _⟩ | ⟨g', cur, h0, hg, h1, h2, h3, h4⟩
  · cases h0
  · simp only [Option.some.injEq, Addr.mk.injEq] at h0
    obtain ⟨rfl, _⟩ := h0
    intro j u hj
    rw [Addr.add_mid, Nat.zero_add, cell_of_row _ _ _ _ _ _ hg]
    have hlt := (List.getElem?_eq_some_iff.1 hj).1
    rw [Qc_length] at hlt
    rw [← h4, List.getElem?_take, if_pos hlt] at hj
    rw [← hj]
    simp
theorem heap_setCells_same (g : Nat) (t : TypeId) : ∀ (vs : List Value) (w : World) (o : Nat) (cur : Array Value), w.heap[g]? = some (.cells cur t (0, 0)) →
    ∃ cur' : Array Value, (w.setCells g o vs).heap[g]? = some (.cells cur' t (0, 0)) ∧ cur'.size = cur.size ∧ ∀ i, i < cur.size → cur'[i]? = if o ≤ i ∧ i < o + vs.length then vs[i - o]? else cur[i]? := by
  intro vs
  induction vs with
  | nil => exact fun w o cur hg => ⟨cur, hg, rfl, fun i _ => by rw [if_neg (by simp)]⟩
  | cons v vs ih =>
    intro w o cur hg
    obtain ⟨cur', h1, h2, h3⟩ := ih (w.setCell ⟨g, o, none⟩ v) (o + 1) (cur.setIfInBounds o v) (heap_setCell_same w g o _ _ _ hg)
    refine ⟨cur', h1, by rw [h2]; simp, fun i hi => ?_⟩
    rw [h3 i (by simpa using hi), List.length_cons]
    by_cases e : i = o
    · subst e
      rw [if_neg (by omega), if_pos (by omega), Nat.sub_self]
      simp [hi]
    · by_cases h4 : o + 1 ≤ i ∧ i < o + 1 + vs.length
      · rw [if_pos h4, if_pos (by omega), show i - o = (i - (o + 1)) + 1 by omega, List.getElem?_cons_succ]
      · rw [if_neg h4, if_neg (by omega), Array.getElem?_setIfInBounds_ne (by omega)]
theorem Qw.setv {w : World} {g cap : Nat} {L : List Rv} (h : Qw w (some ⟨g, 0, none⟩) cap L) (k : Nat) (v : Rv) : Qw (w.setCells g (k * 3) v.cs.toList) (some ⟨g, 0, none⟩) cap (L.set k v) := by
  rcases h.cases with ⟨h0, _⟩ | ⟨g', cur, h0, hg, h1, h2, h3, h4⟩
  · cases h0
  · simp only [Option.some.injEq, Addr.mk.injEq] at h0
    obtain ⟨rfl, _⟩ := h0
    obtain ⟨cur', k1, k2, k3⟩ := heap_setCells_same g 24 v.cs.toList w (k * 3) cur hg
    have hvl : v.cs.toList.length = 3 := rfl
    refine Qw.mk k1 (by rw [List.length_set]; exact h1) h2 (by rw [k2]; exact h3) ?_
    rw [List.length_set]
    apply List.ext_getElem?
    intro i
    have hle : L.length * 3 ≤ cap * 3 := Nat.mul_le_mul_right _ h1
    by_cases hi : i < L.length * 3
    · have ho : (Qc L)[i]? = cur[i]? := by rw [← h4, List.getElem?_take, if_pos hi]; simp
      have hr : i / 3 < L.length := by omega
      have hsp : i = i / 3 * 3 + i % 3 := by omega
      have hmod : i % 3 < 3 := Nat.mod_lt _ (by decide)
      rw [List.getElem?_take, if_pos hi, Array.getElem?_toList, k3 i (by omega), hvl]
      have hR : (Qc (L.set k v))[i]? = ((L.set k v).getD (i / 3) Rv.zero).cs.toList[i % 3]? := by
        conv => lhs; rw [hsp]
        exact Qc_get (L.set k v) (i / 3) (i % 3) (by rw [List.length_set]; exact hr) hmod
      have hO : (Qc L)[i]? = (L.getD (i / 3) Rv.zero).cs.toList[i % 3]? := by
        conv => lhs; rw [hsp]
        exact Qc_get L (i / 3) (i % 3) hr hmod
      rw [hR]
      by_cases hin : k * 3 ≤ i ∧ i < k * 3 + 3
      · have e : i / 3 = k := by omega
        rw [if_pos hin, e, show i - k * 3 = i % 3 by omega]
        simp [show k < L.length by omega]
      · have e : ¬ k = i / 3 := by omega
        rw [if_neg hin, ← ho, hO]
        simp [List.getElem?_set_ne e]
    · rw [List.getElem?_take, if_neg hi, List.getElem?_eq_none (by rw [Qc_length, List.length_set]; omega)]
theorem Qw.front {w : World} {a : Option Addr} {cap : Nat} {L M : List Rv} (h : Qw w a cap (L ++ M)) : Qw w a cap L ∨ a = none := by
  rcases h.cases with ⟨rfl, rfl, hn⟩ | ⟨g, cur, rfl, hg, h1, h2, h3, h4⟩
  · exact .inr rfl
  · refine .inl (Qw.mk hg (by rw [List.length_append] at h1; omega) h2 h3 ?_)
    have e := congrArg (List.take (L.length * 3)) h4
    rw [List.take_take, List.length_append, Nat.min_eq_left (by omega), Qc_append, List.take_left' (Qc_length L)] at e
    exact e
theorem Qw.addr {w : World} {a : Option Addr} {cap : Nat} {L : List Rv} (h : Qw w a cap L) (hl : 0 < L.length) : ∃ g, a = some ⟨g, 0, none⟩ ∧ L.length ≤ cap ∧ cap ≤ maxLen := by
  rcases h.cases with ⟨rfl, rfl, rfl⟩ | ⟨g, cur, rfl, hg, h1, h2, h3, h4⟩
  · simp at hl
  · exact ⟨g, rfl, h1, h2⟩
theorem Qw.there {w : World} {g cap : Nat} {L : List Rv} (h : Qw w (some ⟨g, 0, none⟩) cap L) : w.there g 0 (L.length * 3) := by
  rcases h.cases with ⟨h0, _⟩ | ⟨g', cur, h0, hg, h1, h2, h3, h4⟩
  · cases h0
  · simp only [Option.some.injEq, Addr.mk.injEq] at h0
    obtain ⟨rfl, _⟩ := h0
    intro j hj
    have hle : L.length * 3 ≤ cap * 3 := Nat.mul_le_mul_right _ h1
    rw [Nat.zero_add]
    constructor
    · rw [cell_of_row _ _ _ _ _ _ hg]
      simp [show j < cur.size by omega]
    · exact frozen_of_row _ _ _ _ _ hg

/-! ### lists of bytes of one's own, each in memory of its own -/
structure Br where
  a : Option Addr
  c : Nat
  l : List Nat
def brApart (s t : Br) : Prop := ∀ x y, s.a = some x → t.a = some y → x.block ≠ y.block
theorem brApart.symm {s t : Br} (h : brApart s t) : brApart t s := fun x y hx hy e => h y x hy hx e.symm
structure Fam (w W : World) (T : List Br) : Prop where
  own : ∀ t ∈ T, Own w W t.a t.c t.l ∧ B8 t.l
  dist : T.Pairwise brApart
theorem Fam.nil (w W : World) : Fam w W [] := ⟨fun _ h => (List.not_mem_nil h).elim, List.Pairwise.nil⟩
theorem Fam.keep {w W W' : World} {T : List Br} (h : Fam w W T) (hb : Below W.heap.size W W') : Fam w W' T := ⟨fun t ht => ⟨(h.own t ht).1.keep hb, (h.own t ht).2⟩, h.dist⟩
theorem Fam.pre {w w0 W : World} {T : List Br} (hb : Below w.heap.size w w0) (h : Fam w0 W T) : Fam w W T := ⟨fun t ht => ⟨Own.pre hb (h.own t ht).1, (h.own t ht).2⟩, h.dist⟩
theorem Fam.add {w W W' : World} {T U : List Br} (h : Fam w W T) (k : Fam W W' U) (hb : Below W.heap.size W W') (hw : Below w.heap.size w W) : Fam w W' (T ++ U) := by
  refine ⟨fun t ht => ?_, List.pairwise_append.2 ⟨h.dist, k.dist, fun s hs t ht x y hx hy e => ?_⟩⟩
  · rcases List.mem_append.1 ht with ht | ht
    · exact ⟨(h.own t ht).1.keep hb, (h.own t ht).2⟩
    · exact ⟨Own.pre hw (k.own t ht).1, (k.own t ht).2⟩
  · have h1 := (h.own s hs).1.r.lt hx
    have h2 := (k.own t ht).1.fresh hy
    omega
theorem Fam.sub {w W : World} {T U : List Br} (h : Fam w W T) (hs : U.Sublist T) : Fam w W U := ⟨fun t ht => h.own t (hs.subset ht), h.dist.sublist hs⟩
theorem Fam.perm {w W : World} {T U : List Br} (h : Fam w W T) (hp : U.Perm T) : Fam w W U := ⟨fun t ht => h.own t (hp.subset ht), (hp.pairwise_iff fun h => brApart.symm h).2 h.dist⟩
def Rv.rows (r : Rv) : List Br := [⟨r.aL, r.cL, r.lo⟩, ⟨r.aH, r.cH, r.hi⟩]
def rowsOf (L : List Rv) : List Br := (L.map Rv.rows).flatten
theorem rowsOf_append (L M : List Rv) : rowsOf (L ++ M) = rowsOf L ++ rowsOf M := by simp [rowsOf]
theorem rowsOf_cons (r : Rv) (M : List Rv) : rowsOf (r :: M) = r.rows ++ rowsOf M := by simp [rowsOf]
theorem rowsOf_one (r : Rv) : rowsOf [r] = r.rows := by simp [rowsOf]
theorem Ro.fam {w W : World} {r : Rv} (h : Ro w W r) : Fam w W r.rows :=
  ⟨fun t ht => by
    simp only [Rv.rows, List.mem_cons, List.not_mem_nil, or_false] at ht
    rcases ht with rfl | rfl
    · exact ⟨h.l, h.l8⟩
    · exact ⟨h.h, h.h8⟩, List.pairwise_cons.2 ⟨fun t ht => by rw [List.mem_singleton.1 ht]; exact h.apart, List.pairwise_singleton _ _⟩⟩
theorem Fam.ro {w W : World} {r : Rv} (h : Fam w W r.rows) : Ro w W r :=
  ⟨(h.own ⟨r.aL, r.cL, r.lo⟩ (by simp [Rv.rows])).1, (h.own ⟨r.aH, r.cH, r.hi⟩ (by simp [Rv.rows])).1, (List.pairwise_cons.1 h.dist).1 ⟨r.aH, r.cH, r.hi⟩ (by simp), (h.own ⟨r.aL, r.cL, r.lo⟩ (by simp [Rv.rows])).2, (h.own ⟨r.aH, r.cH, r.hi⟩ (by simp [Rv.rows])).2⟩
theorem rows_sub {L : List Rv} {r : Rv} (h : r ∈ L) : r.rows.Sublist (rowsOf L) := by
  obtain ⟨a, b, rfl⟩ := List.append_of_mem h
  rw [rowsOf_append, rowsOf_cons]
  exact (List.sublist_append_left _ _).trans (List.sublist_append_right _ _)
theorem Fam.ri {w W : World} {L : List Rv} (h : Fam w W (rowsOf L)) : ∀ r ∈ L, Ri W r := fun _ hr => (Fam.ro (h.sub (rows_sub hr))).ri
/-- a row of ranges and a row of bytes lie in two blocks -/
theorem Qw.ne {w : World} {a b : Option Addr} {cap c : Nat} {L : List Rv} {l : List Nat} (h : Qw w a cap L) (k : Rw w b c l) {x y : Addr} (hx : a = some x) (hy : b = some y) : x.block ≠ y.block := by
  intro e
  rcases h.cases with ⟨rfl, _⟩ | ⟨g, cur, rfl, hg, _⟩
  · cases hx
  · rcases k.cases with ⟨rfl, _⟩ | ⟨g', cur', rfl, hg', _⟩
    · cases hy
    · cases hx; cases hy
      dsimp only at e
      subst e
      rw [hg] at hg'
      simp only [Option.some.injEq, Obj.cells.injEq] at hg'
      exact absurd hg'.2.1 (by decide)
theorem Own.but {S : Nat → Prop} {w W W' : World} {a : Option Addr} {cap : Nat} {l : List Nat} (h : Own w W a cap l) (hb : But S W W') (hw : Below w.heap.size w W') (hn : ∀ x, a = some x → ¬ S x.block) : Own w W' a cap l := ⟨h.r.but hb hn, h.n, hw⟩
theorem Fam.but {S : Nat → Prop} {w W W' : World} {T : List Br} (h : Fam w W T) (hb : But S W W') (hw : Below w.heap.size w W') (hn : ∀ t ∈ T, ∀ x, t.a = some x → ¬ S x.block) : Fam w W' T := ⟨fun t ht => ⟨(h.own t ht).1.but hb hw (hn t ht), (h.own t ht).2⟩, h.dist⟩
end Go.Proofs.Ytbobnfjbbablkab
