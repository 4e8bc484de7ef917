import Derived.Test.YtifhkfghjifecaaNB
import Derived.Test.YtifhkfghjifecaaIA
import Derived.Laws.MakeOwn
namespace Go.Proofs.Ytifhkfghjifecaa
open Go.RowKit

/-! ### roots in memory -/
def Ro.cs (r : Ro) : Array Value := #[.int .i64 r.id, .int .i64 r.r, .int .i64 r.h, .int .i64 r.n]
theorem sizeRoot : (Try.prog.info? 59).map (·.size) = some 4 := by kernel_rfl
theorem infoRoot : (Try.prog.info? 59).map (fun i => (i.zero, i.size, i.bytes)) = some (some (.agg ro0.cs), 4, 32) := by kernel_rfl
theorem cs_one (v : Ro) : v.cs.all (·.oneCell') = true := by simp [Ro.cs, Value.oneCell']
theorem range_below {w w' : World} {b o : Nat} {cs : List Value} (h : w.rangeAt b o cs) (hb : Below w.heap.size w w') : w'.rangeAt b o cs := fun j v hv => (hb.cell (p := ⟨b, o + j, none⟩) (block_lt_of_cell (h j v hv))).trans (h j v hv)
/-- ranges that can be read -/
def Js (w : World) (a : Option Addr) (L : List Ro) : Prop :=
  L = [] ∨ ∃ b off, a = some ⟨b, off, none⟩ ∧ ∀ r, r < L.length → w.rangeAt b (off + r * 4) (L.getD r ro0).cs.toList
theorem getD_memR {L : List Ro} {r : Nat} (h : r < L.length) : L.getD r ro0 ∈ L := by simp [h]
theorem Js.keep {w w' : World} {a : Option Addr} {L : List Ro} (h : Js w a L) (hb : Below w.heap.size w w') : Js w' a L :=
  h.imp id fun ⟨b, off, e, hr⟩ => ⟨b, off, e, fun r hr2 => range_below (hr r hr2) hb⟩
theorem Js.at {w : World} {a : Option Addr} {L : List Ro} (h : Js w a L) {r : Nat} (hr : r < L.length) : ∃ b off, a = some ⟨b, off, none⟩ ∧ w.rangeAt b (off + r * 4) (L.getD r ro0).cs.toList := by
  rcases h with rfl | ⟨b, off, e, hc⟩
  · simp at hr
  · exact ⟨b, off, e, hc r hr⟩
theorem range4 {w : World} {b o : Nat} {r : Ro} (h : w.rangeAt b o r.cs.toList) : w.cell? ⟨b, o, none⟩ = some (.int .i64 r.id) ∧ w.cell? ⟨b, o + 1, none⟩ = some (.int .i64 r.r) ∧ w.cell? ⟨b, o + 2, none⟩ = some (.int .i64 r.h) ∧ w.cell? ⟨b, o + 3, none⟩ = some (.int .i64 r.n) :=
  ⟨h 0 _ rfl, h 1 _ rfl, h 2 _ rfl, h 3 _ rfl⟩
/-- values in a block of their own, or nil -/
def Jc (L : List Ro) : List Value := (L.map fun v => v.cs.toList).flatten
theorem Jc_snoc (L : List Ro) (v : Ro) : Jc (L ++ [v]) = Jc L ++ v.cs.toList := by simp [Jc]
theorem Jc_length (L : List Ro) : (Jc L).length = L.length * 4 := by
  induction L with
  | nil => rfl
  | cons v L ih =>
    have : Jc (v :: L) = v.cs.toList ++ Jc L := by simp [Jc]
    rw [this, List.length_append, ih, List.length_cons]
    have : v.cs.toList.length = 4 := rfl
    omega
theorem Jc_get (L : List Ro) (r j : Nat) (hr : r < L.length) (hj : j < 4) : (Jc L)[r * 4 + j]? = (L.getD r ro0).cs.toList[j]? := by
  induction L generalizing r with
  | nil => simp at hr
  | cons v L ih =>
    have e : Jc (v :: L) = v.cs.toList ++ Jc L := by simp [Jc]
    have hl : v.cs.toList.length = 4 := rfl
    rw [e]
    cases r with
    | zero =>
      rw [Nat.zero_mul, Nat.zero_add, List.getElem?_append_left (by omega)]
      simp
    | succ r =>
      rw [List.getElem?_append_right (by rw [hl]; omega), hl, show (r + 1) * 4 + j - 4 = r * 4 + j by omega, ih r (by simpa using hr)]
      simp
def Jw (w : World) (a : Option Addr) (cap : Nat) (L : List Ro) : Prop := w.ownsRow 0 59 4 (.slice a L.length cap) L.length (Jc L)
theorem Jw.nil (w : World) : Jw w none 0 [] := World.ownsRow_nil w 0 59 4
theorem Jw.cases {w : World} {a : Option Addr} {cap : Nat} {L : List Ro} (h : Jw w a cap L) : (a = none ∧ cap = 0 ∧ L = []) ∨
    ∃ g cur, a = some ⟨g, 0, none⟩ ∧ w.heap[g]? = some (.cells cur 59 (0, 0)) ∧ L.length ≤ cap ∧ cap ≤ maxLen ∧ cur.size = cap * 4 ∧ cur.toList.take (L.length * 4) = Jc L := by
  obtain ⟨_, h2⟩ := h
  rcases h2 with ⟨hv, h0⟩ | ⟨g, cap', cur, hv, _, hg, hn, hm, hs, ht⟩
  · simp only [Value.slice.injEq] at hv
    exact .inl ⟨hv.1, hv.2.2, List.length_eq_zero_iff.1 h0⟩
  · simp only [Value.slice.injEq] at hv
    obtain ⟨h1, _, rfl⟩ := hv
    exact .inr ⟨g, cur, h1, hg, hn, hm, hs, ht⟩
theorem Jw.mk {w : World} {g cap : Nat} {cur : Array Value} {L : List Ro} (hg : w.heap[g]? = some (.cells cur 59 (0, 0))) (hn : L.length ≤ cap) (hm : cap ≤ maxLen) (hs : cur.size = cap * 4) (ht : cur.toList.take (L.length * 4) = Jc L) : Jw w (some ⟨g, 0, none⟩) cap L :=
  ⟨Jc_length L, .inr ⟨g, cap, cur, rfl, Nat.zero_le _, hg, hn, hm, hs, ht⟩⟩
theorem Jw.lt {w : World} {a : Option Addr} {cap : Nat} {L : List Ro} (h : Jw w a cap L) {x : Addr} (hx : a = some x) : x.block < w.heap.size := by
  rcases h.cases with ⟨rfl, _⟩ | ⟨g, cur, rfl, hg, _⟩
  · cases hx
  · cases hx; exact (Array.getElem?_eq_some_iff.1 hg).1
theorem Jw.but {S : Nat → Prop} {w w' : World} {a : Option Addr} {cap : Nat} {L : List Ro} (h : Jw w a cap L) (hb : But S w w') (hn : ∀ x, a = some x → ¬ S x.block) : Jw w' a cap L := by
  rcases h.cases with ⟨rfl, rfl, rfl⟩ | ⟨g, cur, rfl, hg, h1, h2, h3, h4⟩
  · exact Jw.nil w'
  · exact Jw.mk ((hb.block g (Array.getElem?_eq_some_iff.1 hg).1 (hn _ rfl)).trans hg) h1 h2 h3 h4
theorem Jw.keep {w w' : World} {a : Option Addr} {cap : Nat} {L : List Ro} (h : Jw w a cap L) (hb : Below w.heap.size w w') : Jw w' a cap L :=
  h.but (S := fun _ => False) (But.ofBelow hb) (fun _ _ hf => hf)
theorem Jw.qs {w : World} {a : Option Addr} {cap : Nat} {L : List Ro} (h : Jw w a cap L) : Js w a L := by
  rcases h.cases with ⟨rfl, rfl, rfl⟩ | ⟨g, cur, rfl, hg, h1, h2, h3, h4⟩
  · exact .inl rfl
  · refine .inr ⟨g, 0, rfl, fun r hr j u hu => ?_⟩
    have hj : j < 4 := (List.getElem?_eq_some_iff.1 hu).1
    rw [cell_of_row _ _ _ _ _ _ hg, Nat.zero_add, ← hu, ← Jc_get L r j hr hj, ← h4, List.getElem?_take, if_pos (by have : (r + 1) * 4 ≤ L.length * 4 := Nat.mul_le_mul_right _ hr; omega)]
    simp
theorem run_apJ (w : World) (ty : TypeId) (a : Option Addr) (n cap : Nat) (L : List Ro) (hn : n = L.length) (hR : Jw w a cap L) (ad : Addr) (c : Nat) (v : Ro) (hc : ∀ j u, v.cs.toList[j]? = some u → w.cell? (ad.add j) = some u) (hlen : L.length + 1 ≤ 4398046511000) :
    ∃ g cap' w', (Builtin.append_ #[26, 26] ty #[.slice a n cap, .slice (some ad) 1 c]).run Try.prog w = .ok (.slice (some ⟨g, 0, none⟩) (n + 1) cap') w' ∧
      Jw w' (some ⟨g, 0, none⟩) cap' (L ++ [v]) ∧ New w a (some ⟨g, 0, none⟩) ∧ w.grownBy w' (a.map Addr.block) := by
  subst hn
  obtain ⟨i0, hi, hz0, hz1, hz2⟩ := info_parts infoRoot
  obtain ⟨g, cap', w', hr, h1, h2, h3, h4⟩ := run_append_lies (P := Try.prog) w 26 ty 0 59 i0 (.agg ro0.cs) 4 32 Try.underlying26 hi hz0 hz1 hz2 rfl (by decide) (.slice a L.length cap) L.length (Jc L) hR ad 1 c v.cs.toList rfl
    hc (fun u hu => (Array.all_eq_true_iff_forall_mem.1 (cs_one v)) u (by simpa using hu)) (by decide) (by unfold maxLen; omega) (by omega) (Nat.zero_le _) w.heap.size rfl
  rw [ob_eq] at h2 h3
  refine ⟨g, cap', w', hr, ?_, ?_, h2⟩
  · unfold Jw
    rw [Jc_snoc, List.length_append]
    exact h1
  · intro y hy
    simp only [Option.some.injEq] at hy
    subst hy
    rcases h3 with h3 | h3
    · obtain ⟨z, hz, e⟩ := map_some h3
      exact .inl ⟨z, hz, e⟩
    · exact .inr (by show _ ≤ g; omega)
theorem wp_apJ {w : World} {o : Oper} {a : Act} {K : Act → World → Prop} {Q : Exit → Act → World → Prop} (s x : Operand)
    (ho : o.op = .call { callee := .builtin .append, args := #[s, x], argTypes := #[26, 26] }) (ao : Option Addr) (n cap : Nat) (L : List Ro) (hs : a.eval s = .slice ao n cap) (hn : n = L.length) (hR : Jw w ao cap L)
    (ad : Addr) (c : Nat) (v : Ro) (hx : a.eval x = .slice (some ad) 1 c) (hc : ∀ j u, v.cs.toList[j]? = some u → w.cell? (ad.add j) = some u) (hlen : L.length + 1 ≤ 4398046511000)
    (h : ∀ g cap' w', Jw w' (some ⟨g, 0, none⟩) cap' (L ++ [v]) → New w ao (some ⟨g, 0, none⟩) → w.grownBy w' (ao.map Addr.block) → K (a.put o.dst (.slice (some ⟨g, 0, none⟩) (n + 1) cap')) w') : o.wp Try.prog a w K Q := by
  obtain ⟨g, cap', w', hr, h1, h2, h3⟩ := run_apJ w o.type ao n cap L hn hR ad c v hc hlen
  unfold Oper.wp execOp
  simp only [ho, resolve, invoke, builtin, Sem.run_bind, Sem.run_pure, Result.andThen_ok, List.map_toArray, List.map_cons, List.map_nil, hs, hx, hr]
  exact h g cap' w' h1 h2 h3
theorem wpList_apJ {w : World} {ops : Array Oper} {rest : List Oper} {o : Oper} {a : Act} {Q : Exit → Act → World → Prop} (hgd : o.guard = none) (s x : Operand)
    (ho : o.op = .call { callee := .builtin .append, args := #[s, x], argTypes := #[26, 26] }) (ao : Option Addr) (n cap : Nat) (L : List Ro) (hs : a.eval s = .slice ao n cap) (hn : n = L.length) (hR : Jw w ao cap L)
    (ad : Addr) (c : Nat) (v : Ro) (hx : a.eval x = .slice (some ad) 1 c) (hc : ∀ j u, v.cs.toList[j]? = some u → w.cell? (ad.add j) = some u) (hlen : L.length + 1 ≤ 4398046511000)
    (h : ∀ g cap' w', Jw w' (some ⟨g, 0, none⟩) cap' (L ++ [v]) → New w ao (some ⟨g, 0, none⟩) → w.grownBy w' (ao.map Addr.block) → wpList Try.prog ops Q rest (a.put o.dst (.slice (some ⟨g, 0, none⟩) (n + 1) cap')) w') : wpList Try.prog ops Q (o :: rest) a w :=
  wpList_plain hgd fun _ hK => wp_apJ s x ho ao n cap L hs hn hR ad c v hx hc hlen fun g cap' w' h1 h2 h3 => hK _ _ (h g cap' w' h1 h2 h3)
/-- a row of values of the call's own -/
structure JOwn (w wx : World) (a : Option Addr) (cap : Nat) (L : List Ro) : Prop where
  r : Jw wx a cap L
  n : New w none a
  b : Below w.heap.size w wx
theorem JOwn.nil (w : World) {wx : World} (h : Below w.heap.size w wx) : JOwn w wx none 0 [] := ⟨Jw.nil _, New.none _ _, h⟩
theorem JOwn.keep {w wx wy : World} {a : Option Addr} {cap : Nat} {L : List Ro} (h : JOwn w wx a cap L) (hb : Below wx.heap.size wx wy) : JOwn w wy a cap L := ⟨h.r.keep hb, h.n, bt h.b hb⟩
theorem JOwn.step {w wx w1 wy : World} {a a' : Option Addr} {cap cap' : Nat} {L L' : List Ro} (h : JOwn w wx a cap L) (hb : Below wx.heap.size wx w1) (hR : Jw wy a' cap' L') (hN : New w1 a a') (hg : w1.grownBy wy (a.map Addr.block)) : JOwn w wy a' cap' L' := by
  refine ⟨hR, h.n.trans hN (Nat.le_trans h.b.size hb.size), ?_⟩
  have h1 := bt h.b hb
  have hh : But (fun _ => False) w wy := (But.ofBelow h1).grown hg fun k hk hlt => by
    obtain ⟨y, hy, e⟩ := map_some hk
    rcases h.n y hy with ⟨z, hz, _⟩ | h2
    · cases hz
    · omega
  exact hh.below fun _ _ h => h
theorem Jc_append (L M : List Ro) : Jc (L ++ M) = Jc L ++ Jc M := by simp [Jc]
theorem Jw.cells {w : World} {g cap : Nat} {L : List Ro} (h : Jw w (some ⟨g, 0, none⟩) cap L) : ∀ j u, (Jc L)[j]? = some u → w.cell? ((⟨g, 0, none⟩ : Addr).add j) = some u := by
  rcases h.cases with ⟨h0, _⟩ | ⟨g', cur, h0, hg, h1, h2, h3, h4⟩
  · cases h0
  · simp only [Option.some.injEq, Addr.mk.injEq] at h0
    obtain ⟨rfl, _⟩ := h0
    intro j u hj
    rw [Addr.add_mid, Nat.zero_add, cell_of_row _ _ _ _ _ _ hg]
    have hlt := (List.getElem?_eq_some_iff.1 hj).1
    rw [Jc_length] at hlt
    rw [← h4, List.getElem?_take, if_pos hlt] at hj
    rw [← hj]
    simp
theorem heap_setCells_same (g : Nat) (t : TypeId) : ∀ (vs : List Value) (w : World) (o : Nat) (cur : Array Value), w.heap[g]? = some (.cells cur t (0, 0)) →
    ∃ cur' : Array Value, (w.setCells g o vs).heap[g]? = some (.cells cur' t (0, 0)) ∧ cur'.size = cur.size ∧ ∀ i, i < cur.size → cur'[i]? = if o ≤ i ∧ i < o + vs.length then vs[i - o]? else cur[i]? := by
  intro vs
  induction vs with
  | nil => exact fun w o cur hg => ⟨cur, hg, rfl, fun i _ => by rw [if_neg (by simp)]⟩
  | cons v vs ih =>
    intro w o cur hg
    obtain ⟨cur', h1, h2, h3⟩ := ih (w.setCell ⟨g, o, none⟩ v) (o + 1) (cur.setIfInBounds o v) (heap_setCell_same w g o _ _ _ hg)
    refine ⟨cur', h1, by rw [h2]; simp, fun i hi => ?_⟩
    rw [h3 i (by simpa using hi), List.length_cons]
    by_cases e : i = o
    · subst e
      rw [if_neg (by omega), if_pos (by omega), Nat.sub_self]
      simp [hi]
    · by_cases h4 : o + 1 ≤ i ∧ i < o + 1 + vs.length
      · rw [if_pos h4, if_pos (by omega), show i - o = (i - (o + 1)) + 1 by omega, List.getElem?_cons_succ]
      · rw [if_neg h4, if_neg (by omega), Array.getElem?_setIfInBounds_ne (by omega)]
theorem Jw.setv {w : World} {g cap : Nat} {L : List Ro} (h : Jw w (some ⟨g, 0, none⟩) cap L) (k : Nat) (v : Ro) : Jw (w.setCells g (k * 4) v.cs.toList) (some ⟨g, 0, none⟩) cap (L.set k v) := by
  rcases h.cases with ⟨h0, _⟩ | ⟨g', cur, h0, hg, h1, h2, h3, h4⟩
  · cases h0
  · simp only [Option.some.injEq, Addr.mk.injEq] at h0
    obtain ⟨rfl, _⟩ := h0
    obtain ⟨cur', k1, k2, k3⟩ := heap_setCells_same g 59 v.cs.toList w (k * 4) cur hg
    have hvl : v.cs.toList.length = 4 := rfl
    refine Jw.mk k1 (by rw [List.length_set]; exact h1) h2 (by rw [k2]; exact h3) ?_
    rw [List.length_set]
    apply List.ext_getElem?
    intro i
    have hle : L.length * 4 ≤ cap * 4 := Nat.mul_le_mul_right _ h1
    by_cases hi : i < L.length * 4
    · have ho : (Jc L)[i]? = cur[i]? := by rw [← h4, List.getElem?_take, if_pos hi]; simp
      have hr : i / 4 < L.length := by omega
      have hsp : i = i / 4 * 4 + i % 4 := by omega
      have hmod : i % 4 < 4 := Nat.mod_lt _ (by decide)
      rw [List.getElem?_take, if_pos hi, Array.getElem?_toList, k3 i (by omega), hvl]
      have hR : (Jc (L.set k v))[i]? = ((L.set k v).getD (i / 4) ro0).cs.toList[i % 4]? := by
        conv => lhs; rw [hsp]
        exact Jc_get (L.set k v) (i / 4) (i % 4) (by rw [List.length_set]; exact hr) hmod
      have hO : (Jc L)[i]? = (L.getD (i / 4) ro0).cs.toList[i % 4]? := by
        conv => lhs; rw [hsp]
        exact Jc_get L (i / 4) (i % 4) hr hmod
      rw [hR]
      by_cases hin : k * 4 ≤ i ∧ i < k * 4 + 4
      · have e : i / 4 = k := by omega
        rw [if_pos hin, e, show i - k * 4 = i % 4 by omega]
        simp [show k < L.length by omega]
      · have e : ¬ k = i / 4 := by omega
        rw [if_neg hin, ← ho, hO]
        simp [List.getElem?_set_ne e]
    · rw [List.getElem?_take, if_neg hi, List.getElem?_eq_none (by rw [Jc_length, List.length_set]; omega)]
theorem Jw.front {w : World} {a : Option Addr} {cap : Nat} {L M : List Ro} (h : Jw w a cap (L ++ M)) : Jw w a cap L ∨ a = none := by
  rcases h.cases with ⟨rfl, rfl, hn⟩ | ⟨g, cur, rfl, hg, h1, h2, h3, h4⟩
  · exact .inr rfl
  · refine .inl (Jw.mk hg (by rw [List.length_append] at h1; omega) h2 h3 ?_)
    have e := congrArg (List.take (L.length * 4)) h4
    rw [List.take_take, List.length_append, Nat.min_eq_left (by omega), Jc_append, List.take_left' (Jc_length L)] at e
    exact e
theorem Jw.addr {w : World} {a : Option Addr} {cap : Nat} {L : List Ro} (h : Jw w a cap L) (hl : 0 < L.length) : ∃ g, a = some ⟨g, 0, none⟩ ∧ L.length ≤ cap ∧ cap ≤ maxLen := by
  rcases h.cases with ⟨rfl, rfl, rfl⟩ | ⟨g, cur, rfl, hg, h1, h2, h3, h4⟩
  · simp at hl
  · exact ⟨g, rfl, h1, h2⟩
theorem Jw.there {w : World} {g cap : Nat} {L : List Ro} (h : Jw w (some ⟨g, 0, none⟩) cap L) : w.there g 0 (L.length * 4) := by
  rcases h.cases with ⟨h0, _⟩ | ⟨g', cur, h0, hg, h1, h2, h3, h4⟩
  · cases h0
  · simp only [Option.some.injEq, Addr.mk.injEq] at h0
    obtain ⟨rfl, _⟩ := h0
    intro j hj
    have hle : L.length * 4 ≤ cap * 4 := Nat.mul_le_mul_right _ h1
    rw [Nat.zero_add]
    constructor
    · rw [cell_of_row _ _ _ _ _ _ hg]
      simp [show j < cur.size by omega]
    · exact frozen_of_row _ _ _ _ _ hg

theorem Jc_replicate (n : Nat) : ∀ i, i < n * 4 → (Jc (List.replicate n ro0))[i]? = ro0.cs.toList[i % 4]? := by
  intro i hi
  have h := Jc_get (List.replicate n ro0) (i / 4) (i % 4) (by rw [List.length_replicate]; omega) (by omega)
  rw [show i / 4 * 4 + i % 4 = i by omega] at h
  rw [h]
  congr 1
  have : (List.replicate n ro0).getD (i / 4) ro0 = ro0 := by
    rw [List.getD_eq_getElem?_getD, List.getElem?_replicate]
    split <;> rfl
  rw [this]
theorem made_root (n : Nat) : (madeCells ro0.cs (n * 4)).toList = Jc (List.replicate n ro0) := by
  apply List.ext_getElem?
  intro i
  by_cases hi : i < n * 4
  · rw [Jc_replicate n i hi, Array.getElem?_toList]
    unfold madeCells
    simp [hi, ro0, Ro.cs]
    have : i % 4 = 0 ∨ i % 4 = 1 ∨ i % 4 = 2 ∨ i % 4 = 3 := by omega
    rcases this with h | h | h | h <;> rw [h] <;> rfl
  · rw [List.getElem?_eq_none (by simp [size_madeCells]; omega), List.getElem?_eq_none (by rw [Jc_length, List.length_replicate]; omega)]
theorem Jw.start {W : World} {n : Nat} (hn : n ≤ 4398046511000) : Jw (W.alloc (.cells (madeCells ro0.cs (n * 4)) 59)) (some ⟨W.heap.size, 0, none⟩) n (List.replicate n ro0) := by
  refine Jw.mk (heap_alloc_new _ _) (by simp) (by unfold maxLen; omega) (by simp [size_madeCells]) ?_
  rw [List.length_replicate, List.take_of_length_le (by simp [size_madeCells]), made_root]
theorem make_roots (n : Nat) (hn : n ≤ 4398046511000) (w : World) : (Instr.makeSlice 26 (.int .i64 (n : Int)) (.int .i64 (n : Int))).run Try.prog w = .ok (.slice (some ⟨w.heap.size, 0, none⟩) n n) (w.alloc (.cells (madeCells ro0.cs (n * 4)) 59)) := by
  obtain ⟨i0, hi, hz0, hz1, hz2⟩ := info_parts infoRoot
  have hr := run_make (P := Try.prog) w 26 59 i0 (.agg ro0.cs) Try.underlying26 hi hz0 .i64 .i64 n n (by omega) (by omega) (by rw [hz2]; omega) (by omega)
  simp only [Int.toNat_natCast, hz1] at hr
  exact hr
theorem set_zero {D : List Ro} {n j : Nat} (hD : D.length = j) (hj : j < n) (v : Ro) : (D ++ List.replicate (n - j) ro0).set j v = (D ++ [v]) ++ List.replicate (n - (j + 1)) ro0 := by
  subst hD
  rw [List.set_append_right _ _ (Nat.le_refl _), Nat.sub_self, show n - D.length = (n - (D.length + 1)) + 1 by omega, List.replicate_succ, List.set_cons_zero, List.append_assoc]
  rfl
theorem Jw.four {w : World} {g cap : Nat} {L : List Ro} (h : Jw w (some ⟨g, 0, none⟩) cap L) {k : Nat} (hk : k < L.length) : w.there g (k * 4) 4 := by
  have := h.there
  intro i hi
  have h2 := this (k * 4 + i) (by have : (k + 1) * 4 ≤ L.length * 4 := Nat.mul_le_mul_right _ hk; omega)
  simpa using h2
theorem step_store_mid {w : World} {ops : Array Oper} {o : Oper} {a : Act} {K : Act → World → Prop} {Q : Exit → Act → World → Prop} {E : Prop} (hgd : o.guard = none) (ty : TypeId) (x y : Operand) (ho : o.op = .store ty x y) (b off : Nat) (cells : Array Value) (hx : a.eval x = .pointer (some ⟨b, off, none⟩)) (hy : a.eval y = .agg cells)
    (ht : w.there b off cells.size) (hi : (Try.prog.info? ty).map (·.size) = some cells.size) (h1 : cells.all (·.oneCell') = true) (h : K (a.put o.dst undef) (w.setCells b off cells.toList)) :
    if Region.wanted o (yielded ops a.tmps) = true then Oper.wp Try.prog o a w K Q else E := by
  have hw : Region.wanted o (yielded ops a.tmps) = true := by simp [Region.wanted, hgd]
  rw [if_pos hw]
  exact wp_store_mid ty x y ho b off cells hx hy ht hi h1 h
theorem but_setCells (g : Nat) : ∀ (vs : List Value) (w : World) (o : Nat), But (fun k => k = g) w (w.setCells g o vs)
  | [], _, _ => But.refl _ _
  | v :: vs, w, o => ((But.refl (fun k => k = g) w).setCell (p := ⟨g, o, none⟩) (fun _ => rfl) v).trans (but_setCells g vs _ (o + 1)) fun _ _ h => h
end Go.Proofs.Ytifhkfghjifecaa
