import Derived.Test.YthfcgfdboienkabXL
import Derived.Test.YthfcgfdboienkabVL
import Derived.Test.YthfcgfdboienkabYE
namespace Go.Proofs.Ythfcgfdboienkab
open Go.RowKit

/-- what apart lays -/
def mine (i k : Nat) : VV := ⟨(i : Int), false, (k : Int), 0, 0, 0, ⟨#[109, 105, 110, 101]⟩⟩
set_option maxHeartbeats 1600000 in
theorem neq_mine (i k : Nat) (w : World) : (binOp .neq 48 (.agg (mine i k).pc) (.agg (mine i k).pc)).run Try.prog w = .ok (.bool false) w := by
  have h0 : Op.floatEq .f64 0 0 = true := by decide +kernel
  have hf : ∀ (d : Nat) (t : TypeId), Try.prog.underlying t = some (.float .f64) → (Op.equalIn (d + 1) t (.float .f64 0) (.float .f64 0)).run Try.prog w = .ok true w := fun d t h => by
    simp [Op.equalIn, run_underlying h, h0]
  have hc : ∀ (d : Nat) (t : TypeId), Try.prog.underlying t = some (.complex .f64) → (Op.equalIn (d + 1) t (.complex .f64 0 0) (.complex .f64 0 0)).run Try.prog w = .ok true w := fun d t h => by
    simp [Op.equalIn, run_underlying h, h0]
  unfold VV.pc mine
  simp [binOp, Op.equal, Op.maxDepth, hf, hc, go_sem]

theorem Pc_append (L M : List VV) : Pc (L ++ M) = Pc L ++ Pc M := by simp [Pc]
theorem Pw.cells {w : World} {g cap : Nat} {L : List VV} (h : Pw w (some ⟨g, 0, none⟩) cap L) : ∀ j u, (Pc L)[j]? = some u → w.cell? ((⟨g, 0, none⟩ : Addr).add j) = some u := by
  rcases h.cases with ⟨h0, _⟩ | ⟨g', cur, h0, hg, h1, h2, h3, h4⟩
  · cases h0
  · simp only [Option.some.injEq, Addr.mk.injEq] at h0
    obtain ⟨rfl, _⟩ := h0
    intro j u hj
    rw [Addr.add_mid, Nat.zero_add, cell_of_row _ _ _ _ _ _ hg]
    have hlt := (List.getElem?_eq_some_iff.1 hj).1
    rw [Pc_length] at hlt
    rw [← h4, List.getElem?_take, if_pos hlt] at hj
    rw [← hj]
    simp
theorem heap_setCells_same (g : Nat) (t : TypeId) : ∀ (vs : List Value) (w : World) (o : Nat) (cur : Array Value), w.heap[g]? = some (.cells cur t (0, 0)) →
    ∃ cur' : Array Value, (w.setCells g o vs).heap[g]? = some (.cells cur' t (0, 0)) ∧ cur'.size = cur.size ∧ ∀ i, i < cur.size → cur'[i]? = if o ≤ i ∧ i < o + vs.length then vs[i - o]? else cur[i]? := by
  intro vs
  induction vs with
  | nil => exact fun w o cur hg => ⟨cur, hg, rfl, fun i _ => by rw [if_neg (by simp)]⟩
  | cons v vs ih =>
    intro w o cur hg
    obtain ⟨cur', h1, h2, h3⟩ := ih (w.setCell ⟨g, o, none⟩ v) (o + 1) (cur.setIfInBounds o v) (heap_setCell_same w g o _ _ _ hg)
    refine ⟨cur', h1, by rw [h2]; simp, fun i hi => ?_⟩
    rw [h3 i (by simpa using hi), List.length_cons]
    by_cases e : i = o
    · subst e
      rw [if_neg (by omega), if_pos (by omega), Nat.sub_self]
      simp [hi]
    · by_cases h4 : o + 1 ≤ i ∧ i < o + 1 + vs.length
      · rw [if_pos h4, if_pos (by omega), show i - o = (i - (o + 1)) + 1 by omega, List.getElem?_cons_succ]
      · rw [if_neg h4, if_neg (by omega), Array.getElem?_setIfInBounds_ne (by omega)]
theorem Pw.setv {w : World} {g cap : Nat} {L : List VV} (h : Pw w (some ⟨g, 0, none⟩) cap L) (k : Nat) (v : VV) : Pw (w.setCells g (k * 6) v.pc.toList) (some ⟨g, 0, none⟩) cap (L.set k v) := by
  rcases h.cases with ⟨h0, _⟩ | ⟨g', cur, h0, hg, h1, h2, h3, h4⟩
  · cases h0
  · simp only [Option.some.injEq, Addr.mk.injEq] at h0
    obtain ⟨rfl, _⟩ := h0
    obtain ⟨cur', k1, k2, k3⟩ := heap_setCells_same g 48 v.pc.toList w (k * 6) cur hg
    have hvl : v.pc.toList.length = 6 := rfl
    refine Pw.mk k1 (by rw [List.length_set]; exact h1) h2 (by rw [k2]; exact h3) ?_
    rw [List.length_set]
    apply List.ext_getElem?
    intro i
    have hle : L.length * 6 ≤ cap * 6 := Nat.mul_le_mul_right _ h1
    by_cases hi : i < L.length * 6
    · have ho : (Pc L)[i]? = cur[i]? := by rw [← h4, List.getElem?_take, if_pos hi]; simp
      have hr : i / 6 < L.length := by omega
      have hsp : i = i / 6 * 6 + i % 6 := by omega
      have hmod : i % 6 < 6 := Nat.mod_lt _ (by decide)
      rw [List.getElem?_take, if_pos hi, Array.getElem?_toList, k3 i (by omega), hvl]
      have hR : (Pc (L.set k v))[i]? = ((L.set k v).getD (i / 6) VV.zero).pc.toList[i % 6]? := by
        conv => lhs; rw [hsp]
        exact Pc_get (L.set k v) (i / 6) (i % 6) (by rw [List.length_set]; exact hr) hmod
      have hO : (Pc L)[i]? = (L.getD (i / 6) VV.zero).pc.toList[i % 6]? := by
        conv => lhs; rw [hsp]
        exact Pc_get L (i / 6) (i % 6) hr hmod
      rw [hR]
      by_cases hin : k * 6 ≤ i ∧ i < k * 6 + 6
      · have e : i / 6 = k := by omega
        rw [if_pos hin, e, show i - k * 6 = i % 6 by omega]
        simp [show k < L.length by omega]
      · have e : ¬ k = i / 6 := by omega
        rw [if_neg hin, ← ho, hO]
        simp [List.getElem?_set_ne e]
    · rw [List.getElem?_take, if_neg hi, List.getElem?_eq_none (by rw [Pc_length, List.length_set]; omega)]
theorem Pw.front {w : World} {a : Option Addr} {cap : Nat} {L M : List VV} (h : Pw w a cap (L ++ M)) : Pw w a cap L ∨ a = none := by
  rcases h.cases with ⟨rfl, rfl, hn⟩ | ⟨g, cur, rfl, hg, h1, h2, h3, h4⟩
  · exact .inr rfl
  · refine .inl (Pw.mk hg (by rw [List.length_append] at h1; omega) h2 h3 ?_)
    have e := congrArg (List.take (L.length * 6)) h4
    rw [List.take_take, List.length_append, Nat.min_eq_left (by omega), Pc_append, List.take_left' (Pc_length L)] at e
    exact e
theorem Pw.addr {w : World} {a : Option Addr} {cap : Nat} {L : List VV} (h : Pw w a cap L) (hl : 0 < L.length) : ∃ g, a = some ⟨g, 0, none⟩ ∧ L.length ≤ cap ∧ cap ≤ maxLen := by
  rcases h.cases with ⟨rfl, rfl, rfl⟩ | ⟨g, cur, rfl, hg, h1, h2, h3, h4⟩
  · simp at hl
  · exact ⟨g, rfl, h1, h2⟩
theorem Pw.there {w : World} {g cap : Nat} {L : List VV} (h : Pw w (some ⟨g, 0, none⟩) cap L) : w.there g 0 (L.length * 6) := by
  rcases h.cases with ⟨h0, _⟩ | ⟨g', cur, h0, hg, h1, h2, h3, h4⟩
  · cases h0
  · simp only [Option.some.injEq, Addr.mk.injEq] at h0
    obtain ⟨rfl, _⟩ := h0
    intro j hj
    have hle : L.length * 6 ≤ cap * 6 := Nat.mul_le_mul_right _ h1
    rw [Nat.zero_add]
    constructor
    · rw [cell_of_row _ _ _ _ _ _ hg]
      simp [show j < cur.size by omega]
    · exact frozen_of_row _ _ _ _ _ hg
/-- values that can be read, whatever they are -/
def Pr (w : World) (a : Option Addr) (L : List VV) : Prop := L = [] ∨ ∃ b off, a = some ⟨b, off, none⟩ ∧ ∀ r, r < L.length → w.rangeAt b (off + r * 6) (L.getD r VV.zero).pc.toList
theorem Pw.pr {w : World} {a : Option Addr} {cap : Nat} {L : List VV} (h : Pw w a cap L) : Pr w a L := by
  rcases h.cases with ⟨rfl, rfl, rfl⟩ | ⟨g, cur, rfl, hg, h1, h2, h3, h4⟩
  · exact .inl rfl
  · refine .inr ⟨g, 0, rfl, fun r hr j u hu => ?_⟩
    have hj : j < 6 := (List.getElem?_eq_some_iff.1 hu).1
    rw [cell_of_row _ _ _ _ _ _ hg, Nat.zero_add, ← hu, ← Pc_get L r j hr hj, ← h4, List.getElem?_take, if_pos (by have : (r + 1) * 6 ≤ L.length * 6 := Nat.mul_le_mul_right _ hr; omega)]
    simp
theorem Pr.but {S : Nat → Prop} {w w' : World} {a : Option Addr} {L : List VV} (h : Pr w a L) (hb : But S w w') (hn : ∀ x, a = some x → L ≠ [] → ¬ S x.block) : Pr w' a L := by
  by_cases h0 : L = []
  · exact .inl h0
  rcases h with h | ⟨b, off, e, hr⟩
  · exact .inl h
  · exact .inr ⟨b, off, e, fun r hr2 => range_but (hr r hr2) hb (hn _ e h0)⟩
theorem Pr.keep {w w' : World} {a : Option Addr} {L : List VV} (h : Pr w a L) (hb : Below w.heap.size w w') : Pr w' a L :=
  h.but (S := fun _ => False) (But.ofBelow hb) (fun _ _ _ hf => hf)
theorem Pr.at {w : World} {a : Option Addr} {L : List VV} (h : Pr w a L) {r : Nat} (hr : r < L.length) : ∃ b off, a = some ⟨b, off, none⟩ ∧ w.rangeAt b (off + r * 6) (L.getD r VV.zero).pc.toList := by
  rcases h with rfl | ⟨b, off, e, hc⟩
  · simp at hr
  · exact ⟨b, off, e, hc r hr⟩
/-- one value is appended: in place, or the old memory is as it was -/
theorem run_apP' (w : World) (ty : TypeId) (a : Option Addr) (n cap : Nat) (L : List VV) (hn : n = L.length) (hR : Pw w a cap L) (ad : Addr) (c : Nat) (v : VV) (hc : ∀ j u, v.pc.toList[j]? = some u → w.cell? (ad.add j) = some u) (hlen : L.length + 1 ≤ 4294967296) :
    ∃ g cap' w', (Builtin.append_ #[24, 24] ty #[.slice a n cap, .slice (some ad) 1 c]).run Try.prog w = .ok (.slice (some ⟨g, 0, none⟩) (n + 1) cap') w' ∧
      Pw w' (some ⟨g, 0, none⟩) cap' (L ++ [v]) ∧ New w a (some ⟨g, 0, none⟩) ∧ w.grownBy w' (a.map Addr.block) ∧ (a = some ⟨g, 0, none⟩ ∨ w.heap.size ≤ g ∧ Below w.heap.size w w') := by
  obtain ⟨g, cap', w', hr, h1, h2, h3⟩ := run_apP w ty a n cap L hn hR ad c v hc hlen
  refine ⟨g, cap', w', hr, h1, h2, h3, ?_⟩
  subst hn
  obtain ⟨i0, hi, hz0, hz1, hz2⟩ := info_parts infoVal
  have hone : ∀ u ∈ v.pc.toList, u.oneCell' = true := fun u hu => (Array.all_eq_true_iff_forall_mem.1 (pc_one v)) u (by simpa using hu)
  rcases hR.cases with ⟨rfl, rfl, rfl⟩ | ⟨g', cur, rfl, hg, k1, k2, k3, k4⟩
  · have hr2 := run_append_nil (P := Try.prog) w 24 ty 48 i0 (.agg VV.zero.pc) Try.underlying24 hi hz0 ad 1 c v.pc.toList (by rw [hz1]; rfl) hc (by decide) (by decide) (by rw [hz2]; decide)
    rw [show ([] : List VV).length = 0 from rfl, hr2] at hr
    simp only [Result.ok.injEq, Value.slice.injEq, Option.some.injEq, Addr.mk.injEq] at hr
    obtain ⟨⟨⟨rfl, _⟩, _⟩, rfl⟩ := hr
    exact .inr ⟨Nat.le_refl _, ⟨rfl, rfl, rfl, by simp, fun k hk => heap_alloc_old w.drew _ hk⟩⟩
  · by_cases hroom : L.length + 1 ≤ cap
    · have hr2 := run_append_room (P := Try.prog) w 24 ty 48 i0 Try.underlying24 hi g' L.length cap cur hg ad 1 c v.pc.toList (by rw [hz1]; rfl) hc hone hroom (by rw [hz1]; show L.length * 6 + 6 ≤ cur.size; omega)
      rw [hr2] at hr
      simp only [Result.ok.injEq, Value.slice.injEq, Option.some.injEq, Addr.mk.injEq] at hr
      obtain ⟨⟨⟨rfl, _⟩, _⟩, rfl⟩ := hr
      exact .inl rfl
    · have hr2 := run_append_grow (P := Try.prog) w 24 ty 48 i0 (.agg VV.zero.pc) Try.underlying24 hi hz0 ⟨g', 0, none⟩ L.length cap (Pc L) (by rw [Pc_length, hz1]) hR.cells ad 1 c v.pc.toList (by rw [hz1]; rfl) hc (by omega) (by omega) (growslice_fits (by omega) (by rw [hz2]; omega))
      rw [hr2] at hr
      simp only [Result.ok.injEq, Value.slice.injEq, Option.some.injEq, Addr.mk.injEq] at hr
      obtain ⟨⟨⟨rfl, _⟩, _⟩, rfl⟩ := hr
      exact .inr ⟨Nat.le_refl _, ⟨rfl, rfl, rfl, by simp, fun k hk => heap_alloc_old w.drew _ hk⟩⟩
theorem wpList_apP' {w : World} {ops : Array Oper} {rest : List Oper} {o : Oper} {a : Act} {Q : Exit → Act → World → Prop} (hgd : o.guard = none) (s x : Operand)
    (ho : o.op = .call { callee := .builtin .append, args := #[s, x], argTypes := #[24, 24] }) (ao : Option Addr) (n cap : Nat) (L : List VV) (hs : a.eval s = .slice ao n cap) (hn : n = L.length) (hR : Pw w ao cap L)
    (ad : Addr) (c : Nat) (v : VV) (hx : a.eval x = .slice (some ad) 1 c) (hc : ∀ j u, v.pc.toList[j]? = some u → w.cell? (ad.add j) = some u) (hlen : L.length + 1 ≤ 4294967296)
    (h : ∀ g cap' w', Pw w' (some ⟨g, 0, none⟩) cap' (L ++ [v]) → New w ao (some ⟨g, 0, none⟩) → w.grownBy w' (ao.map Addr.block) → (ao = some ⟨g, 0, none⟩ ∨ w.heap.size ≤ g ∧ Below w.heap.size w w') → wpList Try.prog ops Q rest (a.put o.dst (.slice (some ⟨g, 0, none⟩) (n + 1) cap')) w') : wpList Try.prog ops Q (o :: rest) a w := by
  refine wpList_plain hgd fun K hK => ?_
  obtain ⟨g, cap', w', hr, h1, h2, h3, h4⟩ := run_apP' w o.type ao n cap L hn hR ad c v hc hlen
  unfold Oper.wp execOp
  simp only [ho, resolve, invoke, builtin, Sem.run_bind, Sem.run_pure, Result.andThen_ok, List.map_toArray, List.map_cons, List.map_nil, hs, hx, hr]
  exact hK _ _ (h g cap' w' h1 h2 h3 h4)

theorem infoVals : (Try.prog.info? 24).map (fun i => (i.zero, i.size, i.bytes)) = some (some (.slice none 0 0), 1, 24) := by kernel_rfl
/-- lists of values in a row of their own -/
def Av (w : World) (at' : Option Addr) (ct : Nat) (vs : List Value) : Prop := w.ownsRow 0 24 1 (.slice at' vs.length ct) vs.length vs
theorem Av.nil (w : World) : Av w none 0 [] := World.ownsRow_nil w 0 24 1
theorem Av.cases {w : World} {a : Option Addr} {cap : Nat} {vs : List Value} (h : Av w a cap vs) : (a = none ∧ cap = 0 ∧ vs = []) ∨
    ∃ g cur, a = some ⟨g, 0, none⟩ ∧ w.heap[g]? = some (.cells cur 24 (0, 0)) ∧ vs.length ≤ cap ∧ cap ≤ maxLen ∧ cur.size = cap ∧ cur.toList.take vs.length = vs := by
  obtain ⟨_, h2⟩ := h
  rcases h2 with ⟨hv, h0⟩ | ⟨g, cap', cur, hv, _, hg, hn, hm, hs, ht⟩
  · simp only [Value.slice.injEq] at hv
    exact .inl ⟨hv.1, hv.2.2, List.length_eq_zero_iff.1 h0⟩
  · simp only [Value.slice.injEq] at hv
    obtain ⟨h1, _, rfl⟩ := hv
    exact .inr ⟨g, cur, h1, hg, hn, hm, by omega, by rw [Nat.mul_one] at ht; exact ht⟩
theorem Av.mk {w : World} {g cap : Nat} {cur : Array Value} {vs : List Value} (hg : w.heap[g]? = some (.cells cur 24 (0, 0))) (hn : vs.length ≤ cap) (hm : cap ≤ maxLen) (hs : cur.size = cap) (ht : cur.toList.take vs.length = vs) : Av w (some ⟨g, 0, none⟩) cap vs :=
  ⟨by rw [Nat.mul_one], .inr ⟨g, cap, cur, rfl, Nat.zero_le _, hg, hn, hm, by omega, by rw [Nat.mul_one]; exact ht⟩⟩
theorem Av.lt {w : World} {a : Option Addr} {cap : Nat} {vs : List Value} (h : Av w a cap vs) {x : Addr} (hx : a = some x) : x.block < w.heap.size := by
  rcases h.cases with ⟨rfl, _⟩ | ⟨g, cur, rfl, hg, _⟩
  · cases hx
  · cases hx; exact (Array.getElem?_eq_some_iff.1 hg).1
theorem Av.but {S : Nat → Prop} {w w' : World} {a : Option Addr} {cap : Nat} {vs : List Value} (h : Av w a cap vs) (hb : But S w w') (hn : ∀ x, a = some x → ¬ S x.block) : Av w' a cap vs := by
  rcases h.cases with ⟨rfl, rfl, rfl⟩ | ⟨g, cur, rfl, hg, h1, h2, h3, h4⟩
  · exact Av.nil w'
  · exact Av.mk ((hb.block g (Array.getElem?_eq_some_iff.1 hg).1 (hn _ rfl)).trans hg) h1 h2 h3 h4
theorem Av.keep {w w' : World} {a : Option Addr} {cap : Nat} {vs : List Value} (h : Av w a cap vs) (hb : Below w.heap.size w w') : Av w' a cap vs :=
  h.but (S := fun _ => False) (But.ofBelow hb) (fun _ _ hf => hf)
theorem Av.cell {w : World} {a : Option Addr} {cap : Nat} {vs : List Value} (h : Av w a cap vs) {i : Nat} {v : Value} (hi : vs[i]? = some v) : ∃ g, a = some ⟨g, 0, none⟩ ∧ w.cell? ⟨g, i, none⟩ = some v := by
  rcases h.cases with ⟨rfl, rfl, rfl⟩ | ⟨g, cur, rfl, hg, h1, h2, h3, h4⟩
  · cases hi
  · refine ⟨g, rfl, ?_⟩
    have hlt := (List.getElem?_eq_some_iff.1 hi).1
    have e : (cur.toList.take vs.length)[i]? = some v := by rw [h4]; exact hi
    rw [List.getElem?_take, if_pos hlt] at e
    rw [cell_of_row _ _ _ _ _ _ hg, ← e]
    simp
/-- the array of lists is no list of values -/
theorem Av.ne {w : World} {a a' : Option Addr} {cap cap' : Nat} {vs : List Value} {l : List VV} (h : Av w a cap vs) (hR : Pw w a' cap' l) {x y : Addr} (hx : a = some x) (hy : a' = some y) : x.block ≠ y.block := by
  rcases h.cases with ⟨rfl, _⟩ | ⟨g, cur, rfl, hg, _⟩
  · cases hx
  rcases hR.cases with ⟨rfl, _⟩ | ⟨g', cur', rfl, hg', _⟩
  · cases hy
  simp only [Option.some.injEq] at hx hy
  subst hx hy
  show g ≠ g'
  intro e
  subst e
  rw [hg] at hg'
  simp at hg'
theorem run_apValss (w : World) (ty : TypeId) (a : Option Addr) (n cap : Nat) (vs : List Value) (hn : n = vs.length) (hR : Av w a cap vs) (ad : Addr) (c : Nat) (v : Value) (hc : w.cell? ad = some v) (h1 : v.oneCell' = true) (hlen : (vs.length + 1) * 24 ≤ 140737488355328) :
    ∃ g cap' w', (Builtin.append_ #[59, 59] ty #[.slice a n cap, .slice (some ad) 1 c]).run Try.prog w = .ok (.slice (some ⟨g, 0, none⟩) (n + 1) cap') w' ∧
      Av w' (some ⟨g, 0, none⟩) cap' (vs ++ [v]) ∧ New w a (some ⟨g, 0, none⟩) ∧ w.grownBy w' (a.map Addr.block) := by
  subst hn
  obtain ⟨i0, hi, hz0, hz1, hz2⟩ := info_parts infoVals
  obtain ⟨g, cap', w', hr, k1, k2, k3, k4⟩ := run_append_lies (P := Try.prog) w 59 ty 0 24 i0 (.slice none 0 0) 1 24 Try.underlying59 hi hz0 hz1 hz2 rfl (by decide) (.slice a vs.length cap) vs.length vs hR ad 1 c [v] rfl
    (by intro j u hj
        match j, hj with
        | 0, hj => simp at hj; subst hj; simpa [Addr.add] using hc) (by intro u hu; simp at hu; subst hu; exact h1) (by decide) (by unfold maxLen; omega) hlen (Nat.zero_le _) w.heap.size rfl
  rw [ob_eq] at k2 k3
  refine ⟨g, cap', w', hr, ?_, ?_, k2⟩
  · unfold Av
    rw [List.length_append]
    exact k1
  · intro y hy
    simp only [Option.some.injEq] at hy
    subst hy
    rcases k3 with k3 | k3
    · obtain ⟨z, hz, e⟩ := map_some k3
      exact .inl ⟨z, hz, e⟩
    · exact .inr (by show _ ≤ g; omega)
theorem wpList_apValss {w : World} {ops : Array Oper} {rest : List Oper} {o : Oper} {a : Act} {Q : Exit → Act → World → Prop} (hgd : o.guard = none) (s x : Operand)
    (ho : o.op = .call { callee := .builtin .append, args := #[s, x], argTypes := #[59, 59] }) (ao : Option Addr) (n cap : Nat) (vs : List Value) (hs : a.eval s = .slice ao n cap) (hn : n = vs.length) (hR : Av w ao cap vs)
    (ad : Addr) (c : Nat) (v : Value) (hx : a.eval x = .slice (some ad) 1 c) (hc : w.cell? ad = some v) (h1 : v.oneCell' = true) (hlen : (vs.length + 1) * 24 ≤ 140737488355328)
    (h : ∀ g cap' w', Av w' (some ⟨g, 0, none⟩) cap' (vs ++ [v]) → New w ao (some ⟨g, 0, none⟩) → w.grownBy w' (ao.map Addr.block) → wpList Try.prog ops Q rest (a.put o.dst (.slice (some ⟨g, 0, none⟩) (n + 1) cap')) w') : wpList Try.prog ops Q (o :: rest) a w := by
  refine wpList_plain hgd fun K hK => ?_
  obtain ⟨g, cap', w', hr, k1, k2, k3⟩ := run_apValss w o.type ao n cap vs hn hR ad c v hc h1 hlen
  unfold Oper.wp execOp
  simp only [ho, resolve, invoke, builtin, Sem.run_bind, Sem.run_pure, Result.andThen_ok, List.map_toArray, List.map_cons, List.map_nil, hs, hx, hr]
  exact hK _ _ (h g cap' w' k1 k2 k3)

end Go.Proofs.Ythfcgfdboienkab
