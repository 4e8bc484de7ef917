import Derived.Test.YtoachodngjlpaaaPZD
import Derived.Test.YtoachodngjlpaaaPMX
import Derived.Deep.MidRow
import Derived.Laws.ResultCell
namespace Go.Proofs.Ytoachodngjlpaaa
open Go.RowKit

def N64 (x : Int) : Prop := -9223372036854775808 ≤ x ∧ x ≤ 9223372036854775807
/-- an item in memory -/
structure Iv where
  aK : Option Addr
  cK : Nat
  key : List Nat
  aV : Option Addr
  cV : Nat
  val : List Nat
  child : Int
  size : Int
def Iv.cs (r : Iv) : Array Value := #[.slice r.aK r.key.length r.cK, .slice r.aV r.val.length r.cV, .int .i64 r.child, .int .i64 r.size]
def Iv.vl (r : Iv) : Value := .agg r.cs
def Iv.it (r : Iv) : It := ⟨r.key, r.val, r.child, r.size⟩
structure Ii (w : World) (r : Iv) : Prop where
  bk : Bs w r.aK r.key
  ck : r.key.length ≤ r.cK
  bv : Bs w r.aV r.val
  cv : r.val.length ≤ r.cV
  nc : N64 r.child
  ns : N64 r.size
theorem Ii.keep {w w' : World} {r : Iv} (h : Ii w r) (hb : Below w.heap.size w w') : Ii w' r := ⟨h.bk.keep hb, h.ck, h.bv.keep hb, h.cv, h.nc, h.ns⟩
theorem Ii.b8 {w : World} {r : Iv} (h : Ii w r) : r.it.b8 := ⟨h.bk.1, h.bv.1⟩
theorem sizeItem : (Try.prog.info? 29).map (·.size) = some 4 := by kernel_rfl
/-- an item of the call's own -/
structure Io (w wx : World) (r : Iv) : Prop where
  k : Own w wx r.aK r.cK r.key
  v : Own w wx r.aV r.cV r.val
  apart : ∀ x y, r.aK = some x → r.aV = some y → x.block ≠ y.block
  k8 : B8 r.key
  v8 : B8 r.val
theorem Rw.cap {w : World} {a : Option Addr} {cap : Nat} {l : List Nat} (h : Rw w a cap l) : l.length ≤ cap := by
  rcases h.cases with ⟨_, rfl, rfl⟩ | ⟨g, cur, _, _, h1, _⟩
  · exact Nat.le_refl _
  · exact h1
theorem Io.keep {w wx wy : World} {r : Iv} (h : Io w wx r) (hb : Below wx.heap.size wx wy) : Io w wy r := ⟨h.k.keep hb, h.v.keep hb, h.apart, h.k8, h.v8⟩
theorem Io.pre {w w0 wx : World} {r : Iv} (hb : Below w.heap.size w w0) (h : Io w0 wx r) : Io w wx r := ⟨Own.pre hb h.k, Own.pre hb h.v, h.apart, h.k8, h.v8⟩
theorem Own.bs {w wx : World} {a : Option Addr} {cap : Nat} {l : List Nat} (h : Own w wx a cap l) (h8 : B8 l) : Bs wx a l := h.r.bs h8 h.r.len_le
theorem Io.ii {w wx : World} {r : Iv} (h : Io w wx r) (hc : N64 r.child) (hs : N64 r.size) : Ii wx r := ⟨h.k.bs h.k8, h.k.r.cap, h.v.bs h.v8, h.v.r.cap, hc, hs⟩
def Iv.zero : Iv := ⟨none, 0, [], none, 0, [], 0, 0⟩
theorem infoItem : (Try.prog.info? 29).map (fun i => (i.zero, i.size, i.bytes)) = some (some (.agg Iv.zero.cs), 4, 64) := by kernel_rfl
theorem cs_one (v : Iv) : v.cs.all (·.oneCell') = true := by simp [Iv.cs, Value.oneCell']
theorem range_below {w w' : World} {b o : Nat} {cs : List Value} (h : w.rangeAt b o cs) (hb : Below w.heap.size w w') : w'.rangeAt b o cs := fun j v hv => (hb.cell (p := ⟨b, o + j, none⟩) (block_lt_of_cell (h j v hv))).trans (h j v hv)
/-- ranges that can be read -/
def Js (w : World) (a : Option Addr) (L : List Iv) : Prop :=
  (∀ r ∈ L, Ii w r) ∧ L.length ≤ 2199023255520 ∧ (L = [] ∨ ∃ b off, a = some ⟨b, off, none⟩ ∧ ∀ r, r < L.length → w.rangeAt b (off + r * 4) (L.getD r Iv.zero).cs.toList)
theorem getD_memR {L : List Iv} {r : Nat} (h : r < L.length) : L.getD r Iv.zero ∈ L := by simp [h]
theorem Js.keep {w w' : World} {a : Option Addr} {L : List Iv} (h : Js w a L) (hb : Below w.heap.size w w') : Js w' a L :=
  ⟨fun r hr => (h.1 r hr).keep hb, h.2.1, h.2.2.imp id fun ⟨b, off, e, hr⟩ => ⟨b, off, e, fun r hr2 => range_below (hr r hr2) hb⟩⟩
theorem Js.at {w : World} {a : Option Addr} {L : List Iv} (h : Js w a L) {r : Nat} (hr : r < L.length) : ∃ b off, a = some ⟨b, off, none⟩ ∧ w.rangeAt b (off + r * 4) (L.getD r Iv.zero).cs.toList := by
  rcases h.2.2 with rfl | ⟨b, off, e, hc⟩
  · simp at hr
  · exact ⟨b, off, e, hc r hr⟩
theorem range4 {w : World} {b o : Nat} {r : Iv} (h : w.rangeAt b o r.cs.toList) : w.cell? ⟨b, o, none⟩ = some (.slice r.aK r.key.length r.cK) ∧ w.cell? ⟨b, o + 1, none⟩ = some (.slice r.aV r.val.length r.cV) ∧ w.cell? ⟨b, o + 2, none⟩ = some (.int .i64 r.child) ∧ w.cell? ⟨b, o + 3, none⟩ = some (.int .i64 r.size) :=
  ⟨h 0 _ rfl, h 1 _ rfl, h 2 _ rfl, h 3 _ rfl⟩
/-- values in a block of their own, or nil -/
def Jc (L : List Iv) : List Value := (L.map fun v => v.cs.toList).flatten
theorem Jc_snoc (L : List Iv) (v : Iv) : Jc (L ++ [v]) = Jc L ++ v.cs.toList := by simp [Jc]
theorem Jc_length (L : List Iv) : (Jc L).length = L.length * 4 := by
  induction L with
  | nil => rfl
  | cons v L ih =>
    have : Jc (v :: L) = v.cs.toList ++ Jc L := by simp [Jc]
    rw [this, List.length_append, ih, List.length_cons]
    have : v.cs.toList.length = 4 := rfl
    omega
theorem Jc_get (L : List Iv) (r j : Nat) (hr : r < L.length) (hj : j < 4) : (Jc L)[r * 4 + j]? = (L.getD r Iv.zero).cs.toList[j]? := by
  induction L generalizing r with
  | nil => simp at hr
  | cons v L ih =>
    have e : Jc (v :: L) = v.cs.toList ++ Jc L := by simp [Jc]
    have hl : v.cs.toList.length = 4 := rfl
    rw [e]
    cases r with
    | zero =>
      rw [Nat.zero_mul, Nat.zero_add, List.getElem?_append_left (by omega)]
      simp
    | succ r =>
      rw [List.getElem?_append_right (by rw [hl]; omega), hl, show (r + 1) * 4 + j - 4 = r * 4 + j by omega, ih r (by simpa using hr)]
      simp
def Jw (w : World) (a : Option Addr) (cap : Nat) (L : List Iv) : Prop := w.ownsRow 0 29 4 (.slice a L.length cap) L.length (Jc L)
theorem Jw.nil (w : World) : Jw w none 0 [] := World.ownsRow_nil w 0 29 4
theorem Jw.cases {w : World} {a : Option Addr} {cap : Nat} {L : List Iv} (h : Jw w a cap L) : (a = none ∧ cap = 0 ∧ L = []) ∨
    ∃ g cur, a = some ⟨g, 0, none⟩ ∧ w.heap[g]? = some (.cells cur 29 (0, 0)) ∧ L.length ≤ cap ∧ cap ≤ maxLen ∧ cur.size = cap * 4 ∧ cur.toList.take (L.length * 4) = Jc L := by
  obtain ⟨_, h2⟩ := h
  rcases h2 with ⟨hv, h0⟩ | ⟨g, cap', cur, hv, _, hg, hn, hm, hs, ht⟩
  · simp only [Value.slice.injEq] at hv
    exact .inl ⟨hv.1, hv.2.2, List.length_eq_zero_iff.1 h0⟩
  · simp only [Value.slice.injEq] at hv
    obtain ⟨h1, _, rfl⟩ := hv
    exact .inr ⟨g, cur, h1, hg, hn, hm, hs, ht⟩
theorem Jw.mk {w : World} {g cap : Nat} {cur : Array Value} {L : List Iv} (hg : w.heap[g]? = some (.cells cur 29 (0, 0))) (hn : L.length ≤ cap) (hm : cap ≤ maxLen) (hs : cur.size = cap * 4) (ht : cur.toList.take (L.length * 4) = Jc L) : Jw w (some ⟨g, 0, none⟩) cap L :=
  ⟨Jc_length L, .inr ⟨g, cap, cur, rfl, Nat.zero_le _, hg, hn, hm, hs, ht⟩⟩
theorem Jw.lt {w : World} {a : Option Addr} {cap : Nat} {L : List Iv} (h : Jw w a cap L) {x : Addr} (hx : a = some x) : x.block < w.heap.size := by
  rcases h.cases with ⟨rfl, _⟩ | ⟨g, cur, rfl, hg, _⟩
  · cases hx
  · cases hx; exact (Array.getElem?_eq_some_iff.1 hg).1
theorem Jw.but {S : Nat → Prop} {w w' : World} {a : Option Addr} {cap : Nat} {L : List Iv} (h : Jw w a cap L) (hb : But S w w') (hn : ∀ x, a = some x → ¬ S x.block) : Jw w' a cap L := by
  rcases h.cases with ⟨rfl, rfl, rfl⟩ | ⟨g, cur, rfl, hg, h1, h2, h3, h4⟩
  · exact Jw.nil w'
  · exact Jw.mk ((hb.block g (Array.getElem?_eq_some_iff.1 hg).1 (hn _ rfl)).trans hg) h1 h2 h3 h4
theorem Jw.keep {w w' : World} {a : Option Addr} {cap : Nat} {L : List Iv} (h : Jw w a cap L) (hb : Below w.heap.size w w') : Jw w' a cap L :=
  h.but (S := fun _ => False) (But.ofBelow hb) (fun _ _ hf => hf)
theorem Jw.qs {w : World} {a : Option Addr} {cap : Nat} {L : List Iv} (h : Jw w a cap L) (hk : ∀ r ∈ L, Ii w r) (hl : L.length ≤ 2199023255520) : Js w a L := by
  refine ⟨hk, hl, ?_⟩
  rcases h.cases with ⟨rfl, rfl, rfl⟩ | ⟨g, cur, rfl, hg, h1, h2, h3, h4⟩
  · exact .inl rfl
  · refine .inr ⟨g, 0, rfl, fun r hr j u hu => ?_⟩
    have hj : j < 4 := (List.getElem?_eq_some_iff.1 hu).1
    rw [cell_of_row _ _ _ _ _ _ hg, Nat.zero_add, ← hu, ← Jc_get L r j hr hj, ← h4, List.getElem?_take, if_pos (by have : (r + 1) * 4 ≤ L.length * 4 := Nat.mul_le_mul_right _ hr; omega)]
    simp
theorem run_apJ (w : World) (ty : TypeId) (a : Option Addr) (n cap : Nat) (L : List Iv) (hn : n = L.length) (hR : Jw w a cap L) (ad : Addr) (c : Nat) (v : Iv) (hc : ∀ j u, v.cs.toList[j]? = some u → w.cell? (ad.add j) = some u) (hlen : L.length + 1 ≤ 2199023255520) :
    ∃ g cap' w', (Builtin.append_ #[22, 22] ty #[.slice a n cap, .slice (some ad) 1 c]).run Try.prog w = .ok (.slice (some ⟨g, 0, none⟩) (n + 1) cap') w' ∧
      Jw w' (some ⟨g, 0, none⟩) cap' (L ++ [v]) ∧ New w a (some ⟨g, 0, none⟩) ∧ w.grownBy w' (a.map Addr.block) := by
  subst hn
  obtain ⟨i0, hi, hz0, hz1, hz2⟩ := info_parts infoItem
  obtain ⟨g, cap', w', hr, h1, h2, h3, h4⟩ := run_append_lies (P := Try.prog) w 22 ty 0 29 i0 (.agg Iv.zero.cs) 4 64 Try.underlying22 hi hz0 hz1 hz2 rfl (by decide) (.slice a L.length cap) L.length (Jc L) hR ad 1 c v.cs.toList rfl
    hc (fun u hu => (Array.all_eq_true_iff_forall_mem.1 (cs_one v)) u (by simpa using hu)) (by decide) (by unfold maxLen; omega) (by omega) (Nat.zero_le _) w.heap.size rfl
  rw [ob_eq] at h2 h3
  refine ⟨g, cap', w', hr, ?_, ?_, h2⟩
  · unfold Jw
    rw [Jc_snoc, List.length_append]
    exact h1
  · intro y hy
    simp only [Option.some.injEq] at hy
    subst hy
    rcases h3 with h3 | h3
    · obtain ⟨z, hz, e⟩ := map_some h3
      exact .inl ⟨z, hz, e⟩
    · exact .inr (by show _ ≤ g; omega)
theorem wp_apJ {w : World} {o : Oper} {a : Act} {K : Act → World → Prop} {Q : Exit → Act → World → Prop} (s x : Operand)
    (ho : o.op = .call { callee := .builtin .append, args := #[s, x], argTypes := #[22, 22] }) (ao : Option Addr) (n cap : Nat) (L : List Iv) (hs : a.eval s = .slice ao n cap) (hn : n = L.length) (hR : Jw w ao cap L)
    (ad : Addr) (c : Nat) (v : Iv) (hx : a.eval x = .slice (some ad) 1 c) (hc : ∀ j u, v.cs.toList[j]? = some u → w.cell? (ad.add j) = some u) (hlen : L.length + 1 ≤ 2199023255520)
    (h : ∀ g cap' w', Jw w' (some ⟨g, 0, none⟩) cap' (L ++ [v]) → New w ao (some ⟨g, 0, none⟩) → w.grownBy w' (ao.map Addr.block) → K (a.put o.dst (.slice (some ⟨g, 0, none⟩) (n + 1) cap')) w') : o.wp Try.prog a w K Q := by
  obtain ⟨g, cap', w', hr, h1, h2, h3⟩ := run_apJ w o.type ao n cap L hn hR ad c v hc hlen
  unfold Oper.wp execOp
  simp only [ho, resolve, invoke, builtin, Sem.run_bind, Sem.run_pure, Result.andThen_ok, List.map_toArray, List.map_cons, List.map_nil, hs, hx, hr]
  exact h g cap' w' h1 h2 h3
theorem wpList_apJ {w : World} {ops : Array Oper} {rest : List Oper} {o : Oper} {a : Act} {Q : Exit → Act → World → Prop} (hgd : o.guard = none) (s x : Operand)
    (ho : o.op = .call { callee := .builtin .append, args := #[s, x], argTypes := #[22, 22] }) (ao : Option Addr) (n cap : Nat) (L : List Iv) (hs : a.eval s = .slice ao n cap) (hn : n = L.length) (hR : Jw w ao cap L)
    (ad : Addr) (c : Nat) (v : Iv) (hx : a.eval x = .slice (some ad) 1 c) (hc : ∀ j u, v.cs.toList[j]? = some u → w.cell? (ad.add j) = some u) (hlen : L.length + 1 ≤ 2199023255520)
    (h : ∀ g cap' w', Jw w' (some ⟨g, 0, none⟩) cap' (L ++ [v]) → New w ao (some ⟨g, 0, none⟩) → w.grownBy w' (ao.map Addr.block) → wpList Try.prog ops Q rest (a.put o.dst (.slice (some ⟨g, 0, none⟩) (n + 1) cap')) w') : wpList Try.prog ops Q (o :: rest) a w :=
  wpList_plain hgd fun _ hK => wp_apJ s x ho ao n cap L hs hn hR ad c v hx hc hlen fun g cap' w' h1 h2 h3 => hK _ _ (h g cap' w' h1 h2 h3)
/-- a row of values of the call's own -/
structure JOwn (w wx : World) (a : Option Addr) (cap : Nat) (L : List Iv) : Prop where
  r : Jw wx a cap L
  n : New w none a
  b : Below w.heap.size w wx
theorem JOwn.nil (w : World) {wx : World} (h : Below w.heap.size w wx) : JOwn w wx none 0 [] := ⟨Jw.nil _, New.none _ _, h⟩
theorem JOwn.keep {w wx wy : World} {a : Option Addr} {cap : Nat} {L : List Iv} (h : JOwn w wx a cap L) (hb : Below wx.heap.size wx wy) : JOwn w wy a cap L := ⟨h.r.keep hb, h.n, bt h.b hb⟩
theorem JOwn.step {w wx w1 wy : World} {a a' : Option Addr} {cap cap' : Nat} {L L' : List Iv} (h : JOwn w wx a cap L) (hb : Below wx.heap.size wx w1) (hR : Jw wy a' cap' L') (hN : New w1 a a') (hg : w1.grownBy wy (a.map Addr.block)) : JOwn w wy a' cap' L' := by
  refine ⟨hR, h.n.trans hN (Nat.le_trans h.b.size hb.size), ?_⟩
  have h1 := bt h.b hb
  have hh : But (fun _ => False) w wy := (But.ofBelow h1).grown hg fun k hk hlt => by
    obtain ⟨y, hy, e⟩ := map_some hk
    rcases h.n y hy with ⟨z, hz, _⟩ | h2
    · cases hz
    · omega
  exact hh.below fun _ _ h => h
theorem Jc_append (L M : List Iv) : Jc (L ++ M) = Jc L ++ Jc M := by simp [Jc]
theorem Jw.cells {w : World} {g cap : Nat} {L : List Iv} (h : Jw w (some ⟨g, 0, none⟩) cap L) : ∀ j u, (Jc L)[j]? = some u → w.cell? ((⟨g, 0, none⟩ : Addr).add j) = some u := by
  rcases h.cases with ⟨h0, _⟩ | ⟨g', cur, h0, hg, h1, h2, h3, h4⟩
  · cases h0
  · simp only [Option.some.injEq, Addr.mk.injEq] at h0
    obtain ⟨rfl, _⟩ := h0
    intro j u hj
    rw [Addr.add_mid, Nat.zero_add, cell_of_row _ _ _ _ _ _ hg]
    have hlt := (List.getElem?_eq_some_iff.1 hj).1
    rw [Jc_length] at hlt
    rw [← h4, List.getElem?_take, if_pos hlt] at hj
    rw [← hj]
    simp
theorem heap_setCells_same (g : Nat) (t : TypeId) : ∀ (vs : List Value) (w : World) (o : Nat) (cur : Array Value), w.heap[g]? = some (.cells cur t (0, 0)) →
    ∃ cur' : Array Value, (w.setCells g o vs).heap[g]? = some (.cells cur' t (0, 0)) ∧ cur'.size = cur.size ∧ ∀ i, i < cur.size → cur'[i]? = if o ≤ i ∧ i < o + vs.length then vs[i - o]? else cur[i]? := by
  intro vs
  induction vs with
  | nil => exact fun w o cur hg => ⟨cur, hg, rfl, fun i _ => by rw [if_neg (by simp)]⟩
  | cons v vs ih =>
    intro w o cur hg
    obtain ⟨cur', h1, h2, h3⟩ := ih (w.setCell ⟨g, o, none⟩ v) (o + 1) (cur.setIfInBounds o v) (heap_setCell_same w g o _ _ _ hg)
    refine ⟨cur', h1, by rw [h2]; simp, fun i hi => ?_⟩
    rw [h3 i (by simpa using hi), List.length_cons]
    by_cases e : i = o
    · subst e
      rw [if_neg (by omega), if_pos (by omega), Nat.sub_self]
      simp [hi]
    · by_cases h4 : o + 1 ≤ i ∧ i < o + 1 + vs.length
      · rw [if_pos h4, if_pos (by omega), show i - o = (i - (o + 1)) + 1 by omega, List.getElem?_cons_succ]
      · rw [if_neg h4, if_neg (by omega), Array.getElem?_setIfInBounds_ne (by omega)]
theorem Jw.setv {w : World} {g cap : Nat} {L : List Iv} (h : Jw w (some ⟨g, 0, none⟩) cap L) (k : Nat) (v : Iv) : Jw (w.setCells g (k * 4) v.cs.toList) (some ⟨g, 0, none⟩) cap (L.set k v) := by
  rcases h.cases with ⟨h0, _⟩ | ⟨g', cur, h0, hg, h1, h2, h3, h4⟩
  · cases h0
  · simp only [Option.some.injEq, Addr.mk.injEq] at h0
    obtain ⟨rfl, _⟩ := h0
    obtain ⟨cur', k1, k2, k3⟩ := heap_setCells_same g 29 v.cs.toList w (k * 4) cur hg
    have hvl : v.cs.toList.length = 4 := rfl
    refine Jw.mk k1 (by rw [List.length_set]; exact h1) h2 (by rw [k2]; exact h3) ?_
    rw [List.length_set]
    apply List.ext_getElem?
    intro i
    have hle : L.length * 4 ≤ cap * 4 := Nat.mul_le_mul_right _ h1
    by_cases hi : i < L.length * 4
    · have ho : (Jc L)[i]? = cur[i]? := by rw [← h4, List.getElem?_take, if_pos hi]; simp
      have hr : i / 4 < L.length := by omega
      have hsp : i = i / 4 * 4 + i % 4 := by omega
      have hmod : i % 4 < 4 := Nat.mod_lt _ (by decide)
      rw [List.getElem?_take, if_pos hi, Array.getElem?_toList, k3 i (by omega), hvl]
      have hR : (Jc (L.set k v))[i]? = ((L.set k v).getD (i / 4) Iv.zero).cs.toList[i % 4]? := by
        conv => lhs; rw [hsp]
        exact Jc_get (L.set k v) (i / 4) (i % 4) (by rw [List.length_set]; exact hr) hmod
      have hO : (Jc L)[i]? = (L.getD (i / 4) Iv.zero).cs.toList[i % 4]? := by
        conv => lhs; rw [hsp]
        exact Jc_get L (i / 4) (i % 4) hr hmod
      rw [hR]
      by_cases hin : k * 4 ≤ i ∧ i < k * 4 + 4
      · have e : i / 4 = k := by omega
        rw [if_pos hin, e, show i - k * 4 = i % 4 by omega]
        simp [show k < L.length by omega]
      · have e : ¬ k = i / 4 := by omega
        rw [if_neg hin, ← ho, hO]
        simp [List.getElem?_set_ne e]
    · rw [List.getElem?_take, if_neg hi, List.getElem?_eq_none (by rw [Jc_length, List.length_set]; omega)]
theorem Jw.front {w : World} {a : Option Addr} {cap : Nat} {L M : List Iv} (h : Jw w a cap (L ++ M)) : Jw w a cap L ∨ a = none := by
  rcases h.cases with ⟨rfl, rfl, hn⟩ | ⟨g, cur, rfl, hg, h1, h2, h3, h4⟩
  · exact .inr rfl
  · refine .inl (Jw.mk hg (by rw [List.length_append] at h1; omega) h2 h3 ?_)
    have e := congrArg (List.take (L.length * 4)) h4
    rw [List.take_take, List.length_append, Nat.min_eq_left (by omega), Jc_append, List.take_left' (Jc_length L)] at e
    exact e
theorem Jw.addr {w : World} {a : Option Addr} {cap : Nat} {L : List Iv} (h : Jw w a cap L) (hl : 0 < L.length) : ∃ g, a = some ⟨g, 0, none⟩ ∧ L.length ≤ cap ∧ cap ≤ maxLen := by
  rcases h.cases with ⟨rfl, rfl, rfl⟩ | ⟨g, cur, rfl, hg, h1, h2, h3, h4⟩
  · simp at hl
  · exact ⟨g, rfl, h1, h2⟩
theorem Jw.there {w : World} {g cap : Nat} {L : List Iv} (h : Jw w (some ⟨g, 0, none⟩) cap L) : w.there g 0 (L.length * 4) := by
  rcases h.cases with ⟨h0, _⟩ | ⟨g', cur, h0, hg, h1, h2, h3, h4⟩
  · cases h0
  · simp only [Option.some.injEq, Addr.mk.injEq] at h0
    obtain ⟨rfl, _⟩ := h0
    intro j hj
    have hle : L.length * 4 ≤ cap * 4 := Nat.mul_le_mul_right _ h1
    rw [Nat.zero_add]
    constructor
    · rw [cell_of_row _ _ _ _ _ _ hg]
      simp [show j < cur.size by omega]
    · exact frozen_of_row _ _ _ _ _ hg

/-! ### lists of bytes of one's own, each in memory of its own -/
structure Br where
  a : Option Addr
  c : Nat
  l : List Nat
def brApart (s t : Br) : Prop := ∀ x y, s.a = some x → t.a = some y → x.block ≠ y.block
theorem brApart.symm {s t : Br} (h : brApart s t) : brApart t s := fun x y hx hy e => h y x hy hx e.symm
structure Fam (w W : World) (T : List Br) : Prop where
  own : ∀ t ∈ T, Own w W t.a t.c t.l ∧ B8 t.l
  dist : T.Pairwise brApart
theorem Fam.nil (w W : World) : Fam w W [] := ⟨fun _ h => (List.not_mem_nil h).elim, List.Pairwise.nil⟩
theorem Fam.keep {w W W' : World} {T : List Br} (h : Fam w W T) (hb : Below W.heap.size W W') : Fam w W' T := ⟨fun t ht => ⟨(h.own t ht).1.keep hb, (h.own t ht).2⟩, h.dist⟩
theorem Fam.pre {w w0 W : World} {T : List Br} (hb : Below w.heap.size w w0) (h : Fam w0 W T) : Fam w W T := ⟨fun t ht => ⟨Own.pre hb (h.own t ht).1, (h.own t ht).2⟩, h.dist⟩
theorem Fam.add {w W W' : World} {T U : List Br} (h : Fam w W T) (k : Fam W W' U) (hb : Below W.heap.size W W') (hw : Below w.heap.size w W) : Fam w W' (T ++ U) := by
  refine ⟨fun t ht => ?_, List.pairwise_append.2 ⟨h.dist, k.dist, fun s hs t ht x y hx hy e => ?_⟩⟩
  · rcases List.mem_append.1 ht with ht | ht
    · exact ⟨(h.own t ht).1.keep hb, (h.own t ht).2⟩
    · exact ⟨Own.pre hw (k.own t ht).1, (k.own t ht).2⟩
  · have h1 := (h.own s hs).1.r.lt hx
    have h2 := (k.own t ht).1.fresh hy
    omega
theorem Fam.sub {w W : World} {T U : List Br} (h : Fam w W T) (hs : U.Sublist T) : Fam w W U := ⟨fun t ht => h.own t (hs.subset ht), h.dist.sublist hs⟩
theorem Fam.perm {w W : World} {T U : List Br} (h : Fam w W T) (hp : U.Perm T) : Fam w W U := ⟨fun t ht => h.own t (hp.subset ht), (hp.pairwise_iff fun h => brApart.symm h).2 h.dist⟩
def Iv.rows (r : Iv) : List Br := [⟨r.aK, r.cK, r.key⟩, ⟨r.aV, r.cV, r.val⟩]
def rowsOf (L : List Iv) : List Br := (L.map Iv.rows).flatten
theorem rowsOf_append (L M : List Iv) : rowsOf (L ++ M) = rowsOf L ++ rowsOf M := by simp [rowsOf]
theorem rowsOf_cons (r : Iv) (M : List Iv) : rowsOf (r :: M) = r.rows ++ rowsOf M := by simp [rowsOf]
theorem rowsOf_one (r : Iv) : rowsOf [r] = r.rows := by simp [rowsOf]
theorem Io.fam {w W : World} {r : Iv} (h : Io w W r) : Fam w W r.rows :=
  ⟨fun t ht => by
    simp only [Iv.rows, List.mem_cons, List.not_mem_nil, or_false] at ht
    rcases ht with rfl | rfl
    · exact ⟨h.k, h.k8⟩
    · exact ⟨h.v, h.v8⟩, List.pairwise_cons.2 ⟨fun t ht => by rw [List.mem_singleton.1 ht]; exact h.apart, List.pairwise_singleton _ _⟩⟩
theorem Fam.io {w W : World} {r : Iv} (h : Fam w W r.rows) : Io w W r :=
  ⟨(h.own ⟨r.aK, r.cK, r.key⟩ (by simp [Iv.rows])).1, (h.own ⟨r.aV, r.cV, r.val⟩ (by simp [Iv.rows])).1, (List.pairwise_cons.1 h.dist).1 ⟨r.aV, r.cV, r.val⟩ (by simp), (h.own ⟨r.aK, r.cK, r.key⟩ (by simp [Iv.rows])).2, (h.own ⟨r.aV, r.cV, r.val⟩ (by simp [Iv.rows])).2⟩
theorem rows_sub {L : List Iv} {r : Iv} (h : r ∈ L) : r.rows.Sublist (rowsOf L) := by
  obtain ⟨a, b, rfl⟩ := List.append_of_mem h
  rw [rowsOf_append, rowsOf_cons]
  exact (List.sublist_append_left _ _).trans (List.sublist_append_right _ _)
theorem Fam.ii {w W : World} {L : List Iv} (h : Fam w W (rowsOf L)) (hn : ∀ r ∈ L, N64 r.child ∧ N64 r.size) : ∀ r ∈ L, Ii W r := fun r hr => (Fam.io (h.sub (rows_sub hr))).ii (hn r hr).1 (hn r hr).2
/-- a row of ranges and a row of bytes lie in two blocks -/
theorem Jw.ne {w : World} {a b : Option Addr} {cap c : Nat} {L : List Iv} {l : List Nat} (h : Jw w a cap L) (k : Rw w b c l) {x y : Addr} (hx : a = some x) (hy : b = some y) : x.block ≠ y.block := by
  intro e
  rcases h.cases with ⟨rfl, _⟩ | ⟨g, cur, rfl, hg, _⟩
  · cases hx
  · rcases k.cases with ⟨rfl, _⟩ | ⟨g', cur', rfl, hg', _⟩
    · cases hy
    · cases hx; cases hy
      dsimp only at e
      subst e
      rw [hg] at hg'
      simp only [Option.some.injEq, Obj.cells.injEq] at hg'
      exact absurd hg'.2.1 (by decide)
theorem Own.but {S : Nat → Prop} {w W W' : World} {a : Option Addr} {cap : Nat} {l : List Nat} (h : Own w W a cap l) (hb : But S W W') (hw : Below w.heap.size w W') (hn : ∀ x, a = some x → ¬ S x.block) : Own w W' a cap l := ⟨h.r.but hb hn, h.n, hw⟩
theorem Fam.but {S : Nat → Prop} {w W W' : World} {T : List Br} (h : Fam w W T) (hb : But S W W') (hw : Below w.heap.size w W') (hn : ∀ t ∈ T, ∀ x, t.a = some x → ¬ S x.block) : Fam w W' T := ⟨fun t ht => ⟨(h.own t ht).1.but hb hw (hn t ht), (h.own t ht).2⟩, h.dist⟩

/-! ### a page in memory -/
structure Pv where
  kind : Int
  level : Int
  aI : Option Addr
  cI : Nat
  items : List Iv
  aD : Option Addr
  cD : Nat
  data : List Nat
  next : Int
def Pv.cs (p : Pv) : Array Value := #[.int .i64 p.kind, .int .i64 p.level, .slice p.aI p.items.length p.cI, .slice p.aD p.data.length p.cD, .int .i64 p.next]
def Pv.vl (p : Pv) : Value := .agg p.cs
def Pv.pg (p : Pv) : Pg := ⟨p.kind, p.level, p.items.map Iv.it, p.data, p.next⟩
def Pv.zero : Pv := ⟨0, 0, none, 0, [], none, 0, [], 0⟩
structure Pi (w : World) (p : Pv) : Prop where
  it : Js w p.aI p.items
  ci : p.items.length ≤ p.cI
  bd : Bs w p.aD p.data
  cd : p.data.length ≤ p.cD
  nk : N64 p.kind
  nl : N64 p.level
  nn : N64 p.next
theorem Pi.keep {w w' : World} {p : Pv} (h : Pi w p) (hb : Below w.heap.size w w') : Pi w' p := ⟨h.it.keep hb, h.ci, h.bd.keep hb, h.cd, h.nk, h.nl, h.nn⟩
theorem Pi.b8 {w : World} {p : Pv} (h : Pi w p) : p.pg.b8 := by
  refine ⟨fun x hx => ?_, h.bd.1⟩
  obtain ⟨r, hr, rfl⟩ := List.mem_map.1 hx
  exact (h.it.1 r hr).b8
theorem Pi.zero (w : World) : Pi w Pv.zero := ⟨⟨fun _ h => (List.not_mem_nil h).elim, by simp [Pv.zero], .inl rfl⟩, Nat.le_refl _, Bs.nil w, Nat.le_refl _, by simp [Pv.zero, N64], by simp [Pv.zero, N64], by simp [Pv.zero, N64]⟩
theorem Pv.at (p : Pv) (i : Nat) : p.pg.at i = (p.items.getD i Iv.zero).it := by
  show (p.items.map Iv.it).getD i It.zero = _
  have : It.zero = Iv.zero.it := rfl
  rw [this]
  simp [List.getD_eq_getElem?_getD, List.getElem?_map]
theorem sizePage : (Try.prog.info? 25).map (·.size) = some 5 := by kernel_rfl
end Go.Proofs.Ytoachodngjlpaaa
