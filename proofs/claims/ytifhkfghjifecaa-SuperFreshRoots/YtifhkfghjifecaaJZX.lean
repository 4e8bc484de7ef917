import Derived.Test.YtifhkfghjifecaaJV
import Derived.Test.YtifhkfghjifecaaJR
namespace Go.Proofs.Ytifhkfghjifecaa
open Go.RowKit

/-! ### lists of roots that lie apart -/
def idJ (i k : Nat) : Int := (i : Int) * 1000 + (k : Int)
def mkJ (i k : Nat) : Ro := ⟨idJ i k, 0, 0, 0⟩
def gr (i n : Nat) : List Ro := (List.range n).map (mkJ i)
theorem gr_length (i n : Nat) : (gr i n).length = n := by simp [gr]
theorem gr_succ (i n : Nat) : gr i (n + 1) = gr i n ++ [mkJ i n] := by simp [gr, List.range_succ]
theorem gr_get (i n k : Nat) (h : k < n) : (gr i n).getD k ro0 = mkJ i k := by simp [gr, h]
theorem hset_step (i k : Nat) (l : List Ro) (h : k < l.length) : (gr i k ++ l.drop k).set k (mkJ i k) = gr i (k + 1) ++ l.drop (k + 1) := by
  rw [List.set_append_right _ _ (by rw [gr_length]; exact Nat.le_refl _), gr_length, Nat.sub_self, List.drop_eq_getElem_cons h, List.set_cons_zero, gr_succ, List.append_assoc]
  rfl
theorem Js.but {S : Nat → Prop} {w w' : World} {a : Option Addr} {l : List Ro} (h : Js w a l) (hb : But S w w') (hn : ∀ x, a = some x → l ≠ [] → ¬ S x.block) : Js w' a l := by
  rcases h with rfl | ⟨b, off, rfl, hc⟩
  · exact .inl rfl
  · by_cases hl : l = []
    · exact .inl hl
    · refine .inr ⟨b, off, rfl, fun r hr j u hu => ?_⟩
      have h1 := hc r hr j u hu
      have hlt := block_lt_of_cell h1
      have e := hb.block b hlt (hn _ rfl hl)
      rw [← h1]
      unfold World.cell?
      dsimp only
      rw [e]
/-- one root is appended: in place, or the old memory is as it was -/
theorem run_apJ' (w : World) (ty : TypeId) (a : Option Addr) (n cap : Nat) (L : List Ro) (hn : n = L.length) (hR : Jw w a cap L) (ad : Addr) (c : Nat) (v : Ro) (hc : ∀ j u, v.cs.toList[j]? = some u → w.cell? (ad.add j) = some u) (hlen : L.length + 1 ≤ 1000000) :
    ∃ g cap' w', (Builtin.append_ #[26, 26] ty #[.slice a n cap, .slice (some ad) 1 c]).run Try.prog w = .ok (.slice (some ⟨g, 0, none⟩) (n + 1) cap') w' ∧
      Jw w' (some ⟨g, 0, none⟩) cap' (L ++ [v]) ∧ New w a (some ⟨g, 0, none⟩) ∧ w.grownBy w' (a.map Addr.block) ∧ (a = some ⟨g, 0, none⟩ ∨ w.heap.size ≤ g ∧ Below w.heap.size w w') := by
  obtain ⟨g, cap', w', hr, h1, h2, h3⟩ := run_apJ w ty a n cap L hn hR ad c v hc (by omega)
  refine ⟨g, cap', w', hr, h1, h2, h3, ?_⟩
  subst hn
  obtain ⟨i0, hi, hz0, hz1, hz2⟩ := info_parts infoRoot
  rcases hR.cases with ⟨rfl, rfl, rfl⟩ | ⟨g', cur, rfl, hg, k1, k2, k3, k4⟩
  · have hr2 := run_append_nil (P := Try.prog) w 26 ty 59 i0 (.agg ro0.cs) Try.underlying26 hi hz0 ad 1 c v.cs.toList (by rw [hz1]; rfl) hc (by decide) (by decide) (by rw [hz2]; decide)
    rw [show ([] : List Ro).length = 0 from rfl, hr2] at hr
    simp only [Result.ok.injEq, Value.slice.injEq, Option.some.injEq, Addr.mk.injEq] at hr
    obtain ⟨⟨⟨rfl, _⟩, _⟩, rfl⟩ := hr
    exact .inr ⟨Nat.le_refl _, ⟨rfl, rfl, rfl, by simp, fun k hk => heap_alloc_old w.drew _ hk⟩⟩
  · by_cases hroom : L.length + 1 ≤ cap
    · have hr2 := run_append_room (P := Try.prog) w 26 ty 59 i0 Try.underlying26 hi g' L.length cap cur hg ad 1 c v.cs.toList (by rw [hz1]; rfl) hc (fun u hu => (Array.all_eq_true_iff_forall_mem.1 (cs_one v)) u (by simpa using hu)) hroom (by rw [hz1]; show L.length * 4 + 4 ≤ cur.size; omega)
      rw [hr2] at hr
      simp only [Result.ok.injEq, Value.slice.injEq, Option.some.injEq, Addr.mk.injEq] at hr
      obtain ⟨⟨⟨rfl, _⟩, _⟩, rfl⟩ := hr
      exact .inl rfl
    · have hr2 := run_append_grow (P := Try.prog) w 26 ty 59 i0 (.agg ro0.cs) Try.underlying26 hi hz0 ⟨g', 0, none⟩ L.length cap (Jc L) (by rw [Jc_length, hz1]) (hR.cells (g := g')) ad 1 c v.cs.toList (by rw [hz1]; rfl) hc (by omega) (by omega) (growslice_fits (by omega) (by rw [hz2]; omega))
      rw [hr2] at hr
      simp only [Result.ok.injEq, Value.slice.injEq, Option.some.injEq, Addr.mk.injEq] at hr
      obtain ⟨⟨⟨rfl, _⟩, _⟩, rfl⟩ := hr
      exact .inr ⟨Nat.le_refl _, ⟨rfl, rfl, rfl, by simp, fun k hk => heap_alloc_old w.drew _ hk⟩⟩
theorem wpList_apJ' {w : World} {ops : Array Oper} {rest : List Oper} {o : Oper} {a : Act} {Q : Exit → Act → World → Prop} (hgd : o.guard = none) (s x : Operand)
    (ho : o.op = .call { callee := .builtin .append, args := #[s, x], argTypes := #[26, 26] }) (ao : Option Addr) (n cap : Nat) (L : List Ro) (hs : a.eval s = .slice ao n cap) (hn : n = L.length) (hR : Jw w ao cap L)
    (ad : Addr) (c : Nat) (v : Ro) (hx : a.eval x = .slice (some ad) 1 c) (hc : ∀ j u, v.cs.toList[j]? = some u → w.cell? (ad.add j) = some u) (hlen : L.length + 1 ≤ 1000000)
    (h : ∀ g cap' w', Jw w' (some ⟨g, 0, none⟩) cap' (L ++ [v]) → New w ao (some ⟨g, 0, none⟩) → w.grownBy w' (ao.map Addr.block) → (ao = some ⟨g, 0, none⟩ ∨ w.heap.size ≤ g ∧ Below w.heap.size w w') → wpList Try.prog ops Q rest (a.put o.dst (.slice (some ⟨g, 0, none⟩) (n + 1) cap')) w') : wpList Try.prog ops Q (o :: rest) a w := by
  refine wpList_plain hgd fun K hK => ?_
  obtain ⟨g, cap', w', hr, h1, h2, h3, h4⟩ := run_apJ' w o.type ao n cap L hn hR ad c v hc hlen
  unfold Oper.wp execOp
  simp only [ho, resolve, invoke, builtin, Sem.run_bind, Sem.run_pure, Result.andThen_ok, List.map_toArray, List.map_cons, List.map_nil, hs, hx, hr]
  exact hK _ _ (h g cap' w' h1 h2 h3 h4)
theorem infoRootL : (Try.prog.info? 26).map (fun i => (i.zero, i.size, i.bytes)) = some (some (.slice none 0 0), 1, 24) := by kernel_rfl
/-- lists of bytes in a row of their own -/
def Aj (w : World) (at' : Option Addr) (ct : Nat) (vs : List Value) : Prop := w.ownsRow 0 26 1 (.slice at' vs.length ct) vs.length vs
theorem Aj.nil (w : World) : Aj w none 0 [] := World.ownsRow_nil w 0 26 1
theorem Aj.cases {w : World} {a : Option Addr} {cap : Nat} {vs : List Value} (h : Aj w a cap vs) : (a = none ∧ cap = 0 ∧ vs = []) ∨
    ∃ g cur, a = some ⟨g, 0, none⟩ ∧ w.heap[g]? = some (.cells cur 26 (0, 0)) ∧ vs.length ≤ cap ∧ cap ≤ maxLen ∧ cur.size = cap ∧ cur.toList.take vs.length = vs := by
  obtain ⟨_, h2⟩ := h
  rcases h2 with ⟨hv, h0⟩ | ⟨g, cap', cur, hv, _, hg, hn, hm, hs, ht⟩
  · simp only [Value.slice.injEq] at hv
    exact .inl ⟨hv.1, hv.2.2, List.length_eq_zero_iff.1 h0⟩
  · simp only [Value.slice.injEq] at hv
    obtain ⟨h1, _, rfl⟩ := hv
    exact .inr ⟨g, cur, h1, hg, hn, hm, by omega, by rw [Nat.mul_one] at ht; exact ht⟩
theorem Aj.mk {w : World} {g cap : Nat} {cur : Array Value} {vs : List Value} (hg : w.heap[g]? = some (.cells cur 26 (0, 0))) (hn : vs.length ≤ cap) (hm : cap ≤ maxLen) (hs : cur.size = cap) (ht : cur.toList.take vs.length = vs) : Aj w (some ⟨g, 0, none⟩) cap vs :=
  ⟨by rw [Nat.mul_one], .inr ⟨g, cap, cur, rfl, Nat.zero_le _, hg, hn, hm, by omega, by rw [Nat.mul_one]; exact ht⟩⟩
theorem Aj.lt {w : World} {a : Option Addr} {cap : Nat} {vs : List Value} (h : Aj w a cap vs) {x : Addr} (hx : a = some x) : x.block < w.heap.size := by
  rcases h.cases with ⟨rfl, _⟩ | ⟨g, cur, rfl, hg, _⟩
  · cases hx
  · cases hx; exact (Array.getElem?_eq_some_iff.1 hg).1
theorem Aj.but {S : Nat → Prop} {w w' : World} {a : Option Addr} {cap : Nat} {vs : List Value} (h : Aj w a cap vs) (hb : But S w w') (hn : ∀ x, a = some x → ¬ S x.block) : Aj w' a cap vs := by
  rcases h.cases with ⟨rfl, rfl, rfl⟩ | ⟨g, cur, rfl, hg, h1, h2, h3, h4⟩
  · exact Aj.nil w'
  · exact Aj.mk ((hb.block g (Array.getElem?_eq_some_iff.1 hg).1 (hn _ rfl)).trans hg) h1 h2 h3 h4
theorem Aj.keep {w w' : World} {a : Option Addr} {cap : Nat} {vs : List Value} (h : Aj w a cap vs) (hb : Below w.heap.size w w') : Aj w' a cap vs :=
  h.but (S := fun _ => False) (But.ofBelow hb) (fun _ _ hf => hf)
theorem Aj.cell {w : World} {a : Option Addr} {cap : Nat} {vs : List Value} (h : Aj w a cap vs) {i : Nat} {v : Value} (hi : vs[i]? = some v) : ∃ g, a = some ⟨g, 0, none⟩ ∧ w.cell? ⟨g, i, none⟩ = some v := by
  rcases h.cases with ⟨rfl, rfl, rfl⟩ | ⟨g, cur, rfl, hg, h1, h2, h3, h4⟩
  · cases hi
  · refine ⟨g, rfl, ?_⟩
    have hlt := (List.getElem?_eq_some_iff.1 hi).1
    have e : (cur.toList.take vs.length)[i]? = some v := by rw [h4]; exact hi
    rw [List.getElem?_take, if_pos hlt] at e
    rw [cell_of_row _ _ _ _ _ _ hg, ← e]
    simp
/-- the array of lists is no list of bytes -/
theorem Aj.ne {w : World} {a a' : Option Addr} {cap cap' : Nat} {vs : List Value} {l : List Ro} (h : Aj w a cap vs) (hR : Jw w a' cap' l) {x y : Addr} (hx : a = some x) (hy : a' = some y) : x.block ≠ y.block := by
  rcases h.cases with ⟨rfl, _⟩ | ⟨g, cur, rfl, hg, _⟩
  · cases hx
  rcases hR.cases with ⟨rfl, _⟩ | ⟨g', cur', rfl, hg', _⟩
  · cases hy
  simp only [Option.some.injEq] at hx hy
  subst hx hy
  show g ≠ g'
  intro e
  subst e
  rw [hg] at hg'
  simp at hg'
theorem run_apRootL (w : World) (ty : TypeId) (a : Option Addr) (n cap : Nat) (vs : List Value) (hn : n = vs.length) (hR : Aj w a cap vs) (ad : Addr) (c : Nat) (v : Value) (hc : w.cell? ad = some v) (h1 : v.oneCell' = true) (hlen : (vs.length + 1) * 24 ≤ 140737488355328) :
    ∃ g cap' w', (Builtin.append_ #[35, 35] ty #[.slice a n cap, .slice (some ad) 1 c]).run Try.prog w = .ok (.slice (some ⟨g, 0, none⟩) (n + 1) cap') w' ∧
      Aj w' (some ⟨g, 0, none⟩) cap' (vs ++ [v]) ∧ New w a (some ⟨g, 0, none⟩) ∧ w.grownBy w' (a.map Addr.block) := by
  subst hn
  obtain ⟨i0, hi, hz0, hz1, hz2⟩ := info_parts infoRootL
  obtain ⟨g, cap', w', hr, k1, k2, k3, k4⟩ := run_append_lies (P := Try.prog) w 35 ty 0 26 i0 (.slice none 0 0) 1 24 Try.underlying35 hi hz0 hz1 hz2 rfl (by decide) (.slice a vs.length cap) vs.length vs hR ad 1 c [v] rfl
    (by intro j u hj
        match j, hj with
        | 0, hj => simp at hj; subst hj; simpa [Addr.add] using hc) (by intro u hu; simp at hu; subst hu; exact h1) (by decide) (by unfold maxLen; omega) hlen (Nat.zero_le _) w.heap.size rfl
  rw [ob_eq] at k2 k3
  refine ⟨g, cap', w', hr, ?_, ?_, k2⟩
  · unfold Aj
    rw [List.length_append]
    exact k1
  · intro y hy
    simp only [Option.some.injEq] at hy
    subst hy
    rcases k3 with k3 | k3
    · obtain ⟨z, hz, e⟩ := map_some k3
      exact .inl ⟨z, hz, e⟩
    · exact .inr (by show _ ≤ g; omega)
theorem wpList_apRootL {w : World} {ops : Array Oper} {rest : List Oper} {o : Oper} {a : Act} {Q : Exit → Act → World → Prop} (hgd : o.guard = none) (s x : Operand)
    (ho : o.op = .call { callee := .builtin .append, args := #[s, x], argTypes := #[35, 35] }) (ao : Option Addr) (n cap : Nat) (vs : List Value) (hs : a.eval s = .slice ao n cap) (hn : n = vs.length) (hR : Aj w ao cap vs)
    (ad : Addr) (c : Nat) (v : Value) (hx : a.eval x = .slice (some ad) 1 c) (hc : w.cell? ad = some v) (h1 : v.oneCell' = true) (hlen : (vs.length + 1) * 24 ≤ 140737488355328)
    (h : ∀ g cap' w', Aj w' (some ⟨g, 0, none⟩) cap' (vs ++ [v]) → New w ao (some ⟨g, 0, none⟩) → w.grownBy w' (ao.map Addr.block) → wpList Try.prog ops Q rest (a.put o.dst (.slice (some ⟨g, 0, none⟩) (n + 1) cap')) w') : wpList Try.prog ops Q (o :: rest) a w := by
  refine wpList_plain hgd fun K hK => ?_
  obtain ⟨g, cap', w', hr, k1, k2, k3⟩ := run_apRootL w o.type ao n cap vs hn hR ad c v hc h1 hlen
  unfold Oper.wp execOp
  simp only [ho, resolve, invoke, builtin, Sem.run_bind, Sem.run_pure, Result.andThen_ok, List.map_toArray, List.map_cons, List.map_nil, hs, hx, hr]
  exact hK _ _ (h g cap' w' k1 k2 k3)

/-- rows of bytes -/
def RowsJ (w : World) (n : Nat) (A : Nat → Option Addr) (C : Nat → Nat) (G : Nat → List Ro) : Prop := ∀ i, i < n → Jw w (A i) (C i) (G i)
theorem RowsJ.congr {w : World} {n : Nat} {A : Nat → Option Addr} {C : Nat → Nat} {G G' : Nat → List Ro} (h : RowsJ w n A C G) (e : ∀ i, i < n → G i = G' i) : RowsJ w n A C G' := fun i hi => by rw [← e i hi]; exact h i hi
theorem RowsJ.set {w : World} {n : Nat} {A : Nat → Option Addr} {C : Nat → Nat} {G : Nat → List Ro} (h : RowsJ w n A C G) (hd : Dist n A) {j g : Nat} (hj : j < n) (hA : A j = some ⟨g, 0, none⟩) (k : Nat) (v : Ro) :
    RowsJ (w.setCells g (k * 4) v.cs.toList) n A C (fun i => if i = j then (G j).set k v else G i) := by
  intro i hi
  by_cases e : i = j
  · subst e
    dsimp only
    rw [if_pos rfl, hA]
    have := h i hi
    rw [hA] at this
    exact this.setv k v
  · dsimp only
    rw [if_neg e]
    exact (h i hi).but (but_setCells _ _ _ _) fun x hx => hd i j hi hj e x _ hx hA

/-- behind the second loop's first rounds -/
def Q3 (w wx : World) (n : Nat) (A : Nat → Option Addr) (C : Nat → Nat) (N : Nat → Nat) (j : Nat) (ag : Option Addr) (cg : Nat) (B : Nat → Option Addr) (D : Nat → Nat) : Prop :=
  Aj wx ag cg ((List.range j).map fun i => Value.slice (B i) (N i + 20) (D i)) ∧
  (∀ i, i < j → Jw wx (B i) (D i) (gr i (N i + 20)) ∧ Js wx (A i) (gr i (N i)) ∧ New w (A i) (B i)) ∧
  (∀ i, j ≤ i → i < n → Jw wx (A i) (C i) (gr i (N i))) ∧
  (∀ i i', i < i' → i' < j → ∀ x y, B i = some x → B i' = some y → x.block ≠ y.block) ∧
  But (InRows n A) w wx ∧ New w none ag
theorem Q3.next {w wx w3 wr : World} {n : Nat} {A : Nat → Option Addr} {C N : Nat → Nat} {j : Nat} {ag ag' gj : Option Addr} {cg cg' cj : Nat} {B : Nat → Option Addr} {D : Nat → Nat} {o : Obj}
    (hd : Dist n A) (hA0 : ∀ i, i < n → ∀ x, A i = some x → x.block < w.heap.size) (hj : j < n) (h : Q3 w wr n A C N j ag cg B D) (hin : But (fun q => ∃ x, A j = some x ∧ x.block = q) wr wx)
    (hRg : Jw wx gj cj (gr j (N j + 20))) (hBs : Js wx (A j) (gr j (N j))) (hgj : gj = A j ∨ ∀ x, gj = some x → wr.heap.size ≤ x.block)
    (hAr : Aj w3 ag' cg' (((List.range j).map fun i => Value.slice (B i) (N i + 20) (D i)) ++ [.slice gj (N j + 20) cj])) (hN : New (wx.alloc o) ag ag') (hg : (wx.alloc o).grownBy w3 (ag.map Addr.block)) :
    Q3 w w3 n A C N (j + 1) ag' cg' (fun i => if i = j then gj else B i) (fun i => if i = j then cj else D i) := by
  obtain ⟨h1, h2, h3, h4, h5, h6⟩ := h
  have hsz := h5.size
  have hsz2 := hin.size
  -- the array is none of the rows
  have hagx : Aj wx ag cg ((List.range j).map fun i => Value.slice (B i) (N i + 20) (D i)) := h1.but hin fun x hx ⟨y, hy, e⟩ => h1.ne (h3 j (Nat.le_refl _) hj) hx hy e.symm
  have step : But (fun q => ∃ x, ag = some x ∧ x.block = q) wx w3 := ((But.refl _ wx).alloc o).trans (grown_but hg) fun _ _ h => h
  have row : ∀ {a c l}, Jw wx a c l → Jw w3 a c l := fun hr => hr.but step fun x hx ⟨y, hy, e⟩ => hagx.ne hr hy hx e
  have bs : ∀ {a : Option Addr} {l : List Ro}, Js wx a l → (∀ x, a = some x → x.block < w.heap.size) → Js w3 a l := fun hb hlt => hb.but step fun x hx _ ⟨y, hy, e⟩ => by
    have h7 := hlt x hx
    rcases h6 y hy with ⟨z, hz, _⟩ | h8
    · cases hz
    · omega
  have hBold : ∀ i, i < j → ∀ x, B i = some x → ¬ ∃ y, A j = some y ∧ y.block = x.block := by
    rintro i hi x hx ⟨y, hy, e⟩
    rcases (h2 i hi).2.2 x hx with ⟨z, hz, e2⟩ | h7
    · exact hd i j (by omega) hj (by omega) z y hz hy (e2.trans e.symm)
    · have := hA0 j hj y hy; omega
  refine ⟨?_, ?_, ?_, ?_, ?_, ?_⟩
  · rw [List.range_succ, List.map_append]
    have e : ((List.range j).map fun i => Value.slice (if i = j then gj else B i) (N i + 20) (if i = j then cj else D i)) = (List.range j).map fun i => Value.slice (B i) (N i + 20) (D i) := by
      apply List.map_congr_left
      intro i hi
      have := List.mem_range.1 hi
      simp [show i ≠ j by omega]
    rw [e]
    simpa using hAr
  · intro i hi
    by_cases e : i = j
    · subst e
      dsimp only
      rw [if_pos rfl, if_pos rfl]
      refine ⟨row hRg, bs hBs (hA0 i hj), ?_⟩
      intro x hx
      rcases hgj with h7 | h7
      · exact .inl ⟨x, by rw [← h7]; exact hx, rfl⟩
      · exact .inr (by have := h7 x hx; omega)
    · dsimp only
      rw [if_neg e, if_neg e]
      obtain ⟨k1, k2, k3⟩ := h2 i (by omega)
      refine ⟨row (k1.but hin fun x hx => hBold i (by omega) x hx), bs (k2.but hin fun x hx _ ⟨y, hy, e2⟩ => hd i j (by omega) hj e x y hx hy e2.symm) (hA0 i (by omega)), k3⟩
  · intro i hi hin'
    exact row ((h3 i (by omega) hin').but hin fun x hx ⟨y, hy, e2⟩ => hd i j hin' hj (by omega) x y hx hy e2.symm)
  · intro i i' hii hi' x y hx hy
    dsimp only at hx hy
    rw [if_neg (by omega)] at hx
    by_cases e : i' = j
    · rw [if_pos e] at hy
      subst e
      rcases hgj with h7 | h7
      · rw [h7] at hy
        exact fun e2 => hBold i hii x hx ⟨y, hy, e2.symm⟩
      · have h8 := h7 y hy
        have h9 := (h2 i hii).1.lt hx
        omega
    · rw [if_neg e] at hy
      exact h4 i i' hii (by omega) x y hx hy
  · refine (h5.trans hin fun x _ ⟨y, hy, e⟩ => ⟨j, hj, y, hy, e⟩).trans step ?_
    rintro x hx ⟨y, hy, e⟩
    rcases h6 y hy with ⟨z, hz, _⟩ | h8
    · cases hz
    · omega
  · exact h6.trans hN (by rw [size_alloc]; omega)

/-- a byte is appended to a row: what of the row that it grew out of -/
theorem inner_stepJ {wr wx w2 : World} {aj gj : Option Addr} {g : Nat} {cap' : Nat} {l m : List Ro} {x : Ro} {o : Obj} (hlt : ∀ y, aj = some y → y.block < wr.heap.size) 
    (hin : But (fun q => ∃ y, aj = some y ∧ y.block = q) wr wx) (hBs : Js wx aj l) (hgj : gj = aj ∨ ∀ y, gj = some y → wr.heap.size ≤ y.block)
    (hR : Jw w2 (some ⟨g, 0, none⟩) cap' (l ++ m ++ [x])) (hg : (wx.alloc o).grownBy w2 (gj.map Addr.block)) (hc : gj = some ⟨g, 0, none⟩ ∨ (wx.alloc o).heap.size ≤ g ∧ Below (wx.alloc o).heap.size (wx.alloc o) w2) :
    But (fun q => ∃ y, aj = some y ∧ y.block = q) wr w2 ∧ Js w2 aj l ∧ (some ⟨g, 0, none⟩ = aj ∨ ∀ y, some (⟨g, 0, none⟩ : Addr) = some y → wr.heap.size ≤ y.block) := by
  have hsz := hin.size
  refine ⟨?_, ?_, ?_⟩
  · refine (hin.alloc o).trans (grown_but hg) ?_
    rintro q hq ⟨y, hy, e⟩
    rcases hgj with h | h
    · exact ⟨y, by rw [← h]; exact hy, e⟩
    · have := h y hy; omega
  · rcases hc with hc | ⟨_, hb⟩
    · rcases hgj with h | h
      · rw [← h, hc]
        rw [List.append_assoc] at hR
        rcases hR.front with h7 | h7
        · exact h7.qs
        · cases h7
      · refine (hBs.keep ((Below.refl _ _).alloc (Nat.le_refl _) o)).but (grown_but hg) ?_
        rintro y hy _ ⟨z, hz, e⟩
        have h8 := h z hz
        have h9 := hlt y hy
        omega
    · exact (hBs.keep ((Below.refl _ _).alloc (Nat.le_refl _) o)).keep hb
  · rcases hc with hc | ⟨hc, _⟩
    · rw [← hc]
      rcases hgj with h | h
      · exact .inl h
      · exact .inr h
    · refine .inr fun y hy => ?_
      simp only [Option.some.injEq] at hy
      subst hy
      rw [size_alloc] at hc
      show _ ≤ g
      omega
end Go.Proofs.Ytifhkfghjifecaa

namespace Go.Proofs.Ytifhkfghjifecaa
open Go.RowKit

theorem Jw.facts {W : World} {g cap : Nat} {Y : List Ro} (h : Jw W (some ⟨g, 0, none⟩) cap Y) {k : Nat} (hk : k < Y.length) :
    (∃ v, W.cell? ⟨g, k * 4, none⟩ = some v) ∧ (∃ v, W.cell? ⟨g, k * 4 + 1, none⟩ = some v) ∧ (∃ v, W.cell? ⟨g, k * 4 + 2, none⟩ = some v) ∧ (∃ v, W.cell? ⟨g, k * 4 + 3, none⟩ = some v) ∧
    W.frozen? ⟨g, k * 4, none⟩ = false ∧ W.frozen? ⟨g, k * 4 + 1, none⟩ = false ∧ W.frozen? ⟨g, k * 4 + 2, none⟩ = false ∧ W.frozen? ⟨g, k * 4 + 3, none⟩ = false := by
  have HT := h.four hk
  exact ⟨Option.isSome_iff_exists.1 (HT 0 (by omega)).1, Option.isSome_iff_exists.1 (HT 1 (by omega)).1, Option.isSome_iff_exists.1 (HT 2 (by omega)).1, Option.isSome_iff_exists.1 (HT 3 (by omega)).1, (HT 0 (by omega)).2, (HT 1 (by omega)).2, (HT 2 (by omega)).2, (HT 3 (by omega)).2⟩
theorem Jw.idAt {W : World} {g cap : Nat} {Y : List Ro} (h : Jw W (some ⟨g, 0, none⟩) cap Y) {k : Nat} (hk : k < Y.length) : W.cell? ⟨g, k * 4, none⟩ = some (.int .i64 (Y.getD k ro0).id) := by
  obtain ⟨b, off, e, hr⟩ := h.qs.at hk
  cases e
  have h := (range4 hr).1
  rwa [Nat.zero_add] at h
set_option maxRecDepth 100000 in
set_option maxHeartbeats 8000000 in
theorem apart_some (w : World) (at' : Option Addr) (ct n : Nat) (A : Nat → Option Addr) (C : Nat → Nat) (L : Nat → List Ro) (hAr : Aj w at' ct ((List.range n).map fun i => Value.slice (A i) (L i).length (C i))) (hR : RowsJ w n A C L) (hd : Dist n A) (hn : n ≤ 1000) (hl : ∀ i, i < n → (L i).length ≤ 1000) :
    Calls Try.prog 10 #[.slice at' n ct] w fun x w' => x = .returned (.bool true) ∧ But (InRows n A) w w' := by
  have HA := hide hAr
  have HR := hide hR
  have HD := hide hd
  have HL := hide hl
  have arr : ∀ wx, But (InRows n A) w wx → ∀ i, i < n → ∃ g, at' = some ⟨g, 0, none⟩ ∧ wx.cell? ⟨g, i, none⟩ = some (.slice (A i) (L i).length (C i)) := by
    intro wx hb i hi
    refine (HA.out.but hb ?_).cell (by simp [hi])
    rintro x hx ⟨q, hq, y, hy, e⟩
    exact HA.out.ne (HR.out q hq) hx hy e.symm
  have ARR := hide arr
  clear hAr hR hd hl arr
  go_enter Try.func10, Try.ntmps10
  go_wp2
  go_loopw [3, 4] (fun i _ wx => ∃ j : Nat, j ≤ n ∧ i = .int .i64 j ∧ (RowsJ wx n A C (fun i => if i < j then gr i (L i).length else L i) ∧ But (InRows n A) w wx)) (fun i _ _ => n - (intOf i).toNat)
  case atStart => exact ⟨0, Nat.zero_le _, rfl, HR.out.congr fun i _ => by simp, But.refl _ _⟩
  case round =>
    obtain ⟨j, hj, rfl, hG⟩ := hrel
    have HG := hide hG
    clear hG
    by_cases hlt : j < n
    · have hi : (j : Int) < (n : Int) := by omega
      obtain ⟨bt', hat, hc⟩ := ARR.out wr HG.out.2 j hlt
      subst hat
      have hlj := HL.out j hlt
      go_wp2
      go_loopw [4] (fun k' wx => ∃ k : Nat, k ≤ (L j).length ∧ k' = .int .i64 k ∧ (RowsJ wx n A C (fun i => if i < j then gr i (L i).length else if i = j then gr j k ++ (L j).drop k else L i) ∧ But (InRows n A) w wx)) (fun k' _ => (L j).length - (intOf k').toNat)
      case atStart =>
        refine ⟨0, Nat.zero_le _, rfl, HG.out.1.congr fun i _ => ?_, HG.out.2⟩
        by_cases e : i = j
        · subst e; simp [gr]
        · simp [e]
      case round =>
        clear hc
        obtain ⟨k, hk, rfl, hG2⟩ := hrel
        have HG2 := hide hG2
        clear hG2
        obtain ⟨b2, e2, hc⟩ := ARR.out wr HG2.out.2 j hlt
        simp only [Option.some.injEq, Addr.mk.injEq] at e2
        obtain ⟨rfl, _⟩ := e2
        by_cases hlk : k < (L j).length
        · have hik : (k : Int) < ((L j).length : Int) := by omega
          have hrow := HG2.out.1 j hlt
          simp only [Nat.lt_irrefl, if_false, if_true] at hrow
          have hrl : (gr j k ++ (L j).drop k).length = (L j).length := by rw [List.length_append, gr_length, List.length_drop]; omega
          obtain ⟨g, hAj, _, _⟩ := hrow.addr (by rw [hrl]; omega)
          rw [hAj] at hc hrow
          obtain ⟨⟨v0, e0⟩, ⟨v1, e1⟩, ⟨v2, e2⟩, ⟨v3, e3⟩, f0, f1, f2, f3⟩ := hrow.facts (k := k) (by rw [hrl]; exact hlk)
          have hmk : (j : Int) * 1000 + (k : Int) = idJ j k := rfl
          have HSS := hide (hset_step j k (L j) hlk)
          have HAJ := hide hAj
          have HXX := hide (HG2.out.1.set HD.out hlt HAJ.out k (mkJ j k))
          have HBU := hide (HG2.out.2.trans (show But (fun x => x = g) wr (wr.setCells g (k * 4) (mkJ j k).cs.toList) from but_setCells _ _ _ _) fun x _ e => ⟨j, hlt, _, HAJ.out, e.symm⟩)
          rw [nest4r] at HXX HBU
          unfold mkJ at HXX HBU HSS
          dsimp only at HXX HBU
          clear hAj hrow hrl
          generalize idJ j k = mm at *
          go_wp2
          go_roundw
          case rel =>
            refine ⟨k + 1, by omega, by go_num, HXX.out.congr fun i hi => ?_, HBU.out⟩
            by_cases e : i = j
            · subst e; simp only [if_true, Nat.lt_irrefl, if_false]; exact HSS.out
            · simp only [e, if_false]
          case measure => simp [intOf]; omega
        · obtain rfl : k = (L j).length := by omega
          go_wp2
          go_roundw
          case rel =>
            refine ⟨j + 1, by omega, by go_num, HG2.out.1.congr fun i hi => ?_, HG2.out.2⟩
            by_cases e : i = j
            · subst e; simp
            · by_cases e2 : i < j
              · rw [if_pos e2, if_pos (by omega)]
              · rw [if_neg e2, if_neg e, if_neg (by omega)]
          case measure => simp [intOf]; omega
    · obtain rfl : n = j := by omega
      have hA0 : ∀ i, i < n → ∀ x, A i = some x → x.block < w.heap.size := fun i hi x hx => (HR.out i hi).lt hx
      have HA0 := hide hA0
      have H1 : Hid (Q3 w wr n A C (fun i => (L i).length) 0 none 0 (fun _ => none) (fun _ => 0)) := ⟨Aj.nil _, fun i hi => by omega, fun i _ hi => by have := HG.out.1 i hi; dsimp only at this; rwa [if_pos hi] at this, fun i i' _ hi' => by omega, HG.out.2, New.none _ _⟩
      clear hA0 HG
      go_wp2
      go_loopw [5, 6, 7, 8] (fun gr i _ _ wx => ∃ (j : Nat) (ag : Option Addr) (cg : Nat) (B : Nat → Option Addr) (D : Nat → Nat), j ≤ n ∧ i = .int .i64 j ∧ gr = .slice ag j cg ∧ Q3 w wx n A C (fun i => (L i).length) j ag cg B D) (fun _ i _ _ _ => n - (intOf i).toNat)
      case atStart => exact ⟨0, none, 0, _, _, Nat.zero_le _, rfl, rfl, H1.out⟩
      case round =>
        clear H1
        obtain ⟨j, ag, cg, B, D, hj, rfl, rfl, hP⟩ := hrel
        have HP := hide hP
        clear hP
        by_cases hlt : j < n
        · have hi : (j : Int) < (n : Int) := by omega
          have hlj := HL.out j hlt
          obtain ⟨bt', hat, hc⟩ := ARR.out wr HP.out.2.2.2.2.1 j hlt
          subst hat
          have hrow0 := HP.out.2.2.1 j (Nat.le_refl _) hlt
          have HROW0 := hide hrow0
          have HBS0 := hide hrow0.qs
          have HLTJ : Hid (∀ y, A j = some y → y.block < wr.heap.size) := fun y hy => hrow0.lt hy
          have HARW : Hid (∀ wx, But (fun q => ∃ y, A j = some y ∧ y.block = q) wr wx → wx.cell? ⟨bt', j, none⟩ = some (.slice (A j) (L j).length (C j))) := fun wx hb => by
            obtain ⟨b2, e2, h2⟩ := ARR.out wx (HP.out.2.2.2.2.1.trans hb fun x _ ⟨y, hy, e⟩ => ⟨j, hlt, y, hy, e⟩) j hlt
            simp only [Option.some.injEq, Addr.mk.injEq] at e2
            obtain ⟨rfl, _⟩ := e2
            exact h2
          clear hrow0
          go_wp2
          generalize hW : wr = W at *
          go_loopw [7, 8] (fun gv k' wx => ∃ (k : Nat) (gj : Option Addr) (cj : Nat), k ≤ 20 ∧ k' = .int .i64 k ∧ gv = .slice gj ((L j).length + k) cj ∧ (Jw wx gj cj (gr j ((L j).length + k)) ∧ (But (fun q => ∃ y, A j = some y ∧ y.block = q) W wx ∧ Js wx (A j) (gr j (L j).length) ∧ (gj = A j ∨ ∀ y, gj = some y → W.heap.size ≤ y.block)))) (fun _ k' _ => 20 - (intOf k').toNat)
          case atStart => exact ⟨0, A j, C j, by decide, rfl, rfl, HROW0.out, But.refl _ _, HBS0.out, .inl rfl⟩
          case round =>
            clear hc
            obtain ⟨k, gj, cj, hk, rfl, rfl, hG⟩ := hrel
            have HG := hide hG
            clear hG
            by_cases hlk : k < 20
            · have hik : (k : Int) < 20 := by omega
              have hc := HARW.out wr HG.out.2.1
              have hbt := block_lt_of_cell hc
              have hmk : (j : Int) * 1000 + ((L j).length : Int) + (k : Int) = idJ j ((L j).length + k) := by unfold idJ; omega
              have HS : Hid (gr j ((L j).length + k) ++ [⟨idJ j ((L j).length + k), 0, 0, 0⟩] = gr j ((L j).length + (k + 1))) := (gr_succ j ((L j).length + k)).symm
              have HSP : Hid (∃ m, gr j ((L j).length + k) = gr j (L j).length ++ m) := ⟨(gr j ((L j).length + k)).drop (L j).length, by
                have e : (gr j ((L j).length + k)).take (L j).length = gr j (L j).length := by simp [gr, ← List.map_take, List.take_range]
                rw [← e]; exact (List.take_append_drop _ _).symm⟩
              have hz := gr_length j ((L j).length + k)
              have hzn := gr_length j (L j).length
              generalize idJ j ((L j).length + k) = mm at *
              generalize gr j ((L j).length + k) = FL at *
              go_wp2_with (at_builtin; refine wpList_apJ' rfl _ _ rfl gj ((L j).length + k) cj FL ?q1 hz.symm (HG.out.1.keep ((Below.refl _ _).alloc (Nat.le_refl _) _)) ⟨wr.heap.size, 0, none⟩ 1 ⟨mm, 0, 0, 0⟩ ?q2 (fresh4 wr ⟨mm, 0, 0, 0⟩) (by omega) ?_)
              try case q1 => rfl
              try case q2 => rfl
              intro g cap' w2 hR hN hg hcase
              obtain ⟨m, hm⟩ := HSP.out
              have hst := inner_stepJ (m := m) (x := ⟨mm, 0, 0, 0⟩) HLTJ.out HG.out.2.1 HG.out.2.2.1 HG.out.2.2.2 (by rw [← hm]; exact hR) hg (by rw [size_alloc]; exact hcase)
              rw [HS.out] at hR
              have HR2 := hide hR
              have HST := hide hst
              clear hR hN hg hcase hst hm
              go_wp2
              go_roundw
              case rel => exact ⟨k + 1, _, cap', by omega, by go_num, rfl, HR2.out, HST.out⟩
              case measure => simp [intOf]; omega
            · obtain rfl : k = 20 := by omega
              have hAgx : Aj wr ag cg ((List.range j).map fun i => Value.slice (B i) ((L i).length + 20) (D i)) := HP.out.1.but HG.out.2.1 fun x hx ⟨y, hy, e⟩ => HP.out.1.ne HROW0.out hx hy e.symm
              have hvl : ((List.range j).map fun i => Value.slice (B i) ((L i).length + 20) (D i)).length = j := by simp
              have HAG := hide hAgx
              have HNX : Hid (∀ w3 ag' cg' o, Aj w3 ag' cg' (((List.range j).map fun i => Value.slice (B i) ((L i).length + 20) (D i)) ++ [.slice gj ((L j).length + 20) cj]) → New (wr.alloc o) ag ag' → (wr.alloc o).grownBy w3 (ag.map Addr.block) → Q3 w w3 n A C (fun i => (L i).length) (j + 1) ag' cg' (fun i => if i = j then gj else B i) (fun i => if i = j then cj else D i)) :=
                fun w3 ag' cg' o h1 h2 h3 => HP.out.next HD.out HA0.out hlt HG.out.2.1 HG.out.1 HG.out.2.2.1 HG.out.2.2.2 h1 h2 h3
              clear hAgx
              generalize ((List.range j).map fun i => Value.slice (B i) ((L i).length + 20) (D i)) = vs at *
              go_wp2_with (at_builtin; refine wpList_apRootL rfl _ _ rfl ag j cg vs ?r1 hvl.symm (HAG.out.keep ((Below.refl _ _).alloc (Nat.le_refl _) _)) ⟨wr.heap.size, 0, none⟩ 1 (.slice gj ((L j).length + 20) cj) ?r2 ?r3 rfl (by omega) ?_)
              try case r1 => rfl
              try case r2 => rfl
              try case r3 => simp
              intro g cap' w2 hR hN hg
              have HQ := hide (HNX.out w2 _ cap' _ hR hN hg)
              clear hR hN hg
              go_wp2
              go_roundw
              case rel => exact ⟨j + 1, _, cap', _, _, by omega, by go_num, rfl, HQ.out⟩
              case measure => simp [intOf]; omega
        · obtain rfl : n = j := by omega
          go_wp2
          generalize hW : wr = W at *
          go_loopw [9, 10] (fun i _ wx => ∃ j : Nat, j ≤ n ∧ i = .int .i64 j ∧ wx = W) (fun i _ _ => n - (intOf i).toNat)
          case atStart => exact ⟨0, Nat.zero_le _, rfl, rfl⟩
          case round =>
            obtain ⟨j, hj, rfl, hwW⟩ := hrel
            subst hwW
            by_cases hlt : j < n
            · have hi : (j : Int) < (n : Int) := by omega
              have hlj := HL.out j hlt
              obtain ⟨bt', hat, hc⟩ := ARR.out _ HP.out.2.2.2.2.1 j hlt
              obtain ⟨gg, hag, hcg⟩ := HP.out.1.cell (i := j) (v := .slice (B j) ((L j).length + 20) (D j)) (by simp [hlt])
              subst hat hag
              obtain ⟨hrow, hbs, _⟩ := HP.out.2.1 j hlt
              obtain ⟨g, hBj, hle, hmx⟩ := hrow.addr (by rw [gr_length]; omega)
              rw [hBj] at hcg hrow
              have HROW := hide hrow
              have HBS := hide hbs
              clear hrow hbs hBj
              unfold maxLen at hmx
              rw [gr_length] at hle
              go_wp2
              go_loopw [10] (fun k' wx => ∃ k : Nat, k ≤ (L j).length + 20 ∧ k' = .int .i64 k ∧ wx = wr) (fun k' _ => (L j).length + 20 - (intOf k').toNat)
              case atStart => exact ⟨0, Nat.zero_le _, rfl, rfl⟩
              case round =>
                obtain ⟨k, hk, rfl, hwW⟩ := hrel
                subst hwW
                by_cases hlk : k < (L j).length + 20
                · have hik : (k : Int) < ((L j).length : Int) + 20 := by omega
                  have hcell := HROW.out.idAt (k := k) (by rw [gr_length]; exact hlk)
                  rw [gr_get j _ k hlk] at hcell
                  have hmk : (j : Int) * 1000 + (k : Int) = idJ j k := rfl
                  change _ = some (Value.int IntKind.i64 (idJ j k)) at hcell
                  by_cases hkl : k < (L j).length
                  · have hkl2 : (k : Int) < ((L j).length : Int) := by omega
                    obtain ⟨ba, oa, hAj, hra⟩ := HBS.out.at (r := k) (by rw [gr_length]; exact hkl)
                    have hca := (range4 hra).1
                    rw [gr_get j _ k hkl] at hca
                    change _ = some (Value.int IntKind.i64 (idJ j k)) at hca
                    rw [hAj] at hc
                    clear hra
                    generalize idJ j k = mm at *
                    go_wp2
                    go_roundw
                    case rel => exact ⟨k + 1, by omega, by go_num, trivial⟩
                    case measure => simp [intOf]; omega
                  · have hkl2 : ¬ (k : Int) < ((L j).length : Int) := by omega
                    generalize idJ j k = mm at *
                    go_wp2
                    go_roundw
                    case rel => exact ⟨k + 1, by omega, by go_num, trivial⟩
                    case measure => simp [intOf]; omega
                · obtain rfl : k = (L j).length + 20 := by omega
                  go_wp2
                  go_roundw
                  case rel => exact ⟨j + 1, by omega, by go_num, trivial⟩
                  case measure => simp [intOf]; omega
            · obtain rfl : n = j := by omega
              go_wp2
              go_ret
              exact ⟨rfl, HP.out.2.2.2.2.1⟩
end Go.Proofs.Ytifhkfghjifecaa

namespace Go.Proofs.Ytifhkfghjifecaa
open Go.RowKit

structure Rr where
  a : Option Addr
  c : Nat
  l : List Ro
def Rr0 : Rr := ⟨none, 0, []⟩
def jv (t : Rr) : Value := .slice t.a t.l.length t.c
/-- lists of roots, each of its own -/
structure FamJ (w W : World) (T : List Rr) : Prop where
  own : ∀ t ∈ T, JOwn w W t.a t.c t.l
  dist : T.Pairwise fun s t => ∀ x y, s.a = some x → t.a = some y → x.block ≠ y.block
theorem JOwn.fresh {w W : World} {a : Option Addr} {c : Nat} {l : List Ro} (h : JOwn w W a c l) {x : Addr} (hx : a = some x) : w.heap.size ≤ x.block := new_at h.n hx
theorem FamJ.keep {w W W' : World} {T : List Rr} (h : FamJ w W T) (hb : Below W.heap.size W W') : FamJ w W' T := ⟨fun t ht => (h.own t ht).keep hb, h.dist⟩
theorem FamJ.but {S : Nat → Prop} {w W W' : World} {T : List Rr} (h : FamJ w W T) (hb : But S W W') (hw : Below w.heap.size w W') (hn : ∀ t ∈ T, ∀ x, t.a = some x → ¬ S x.block) : FamJ w W' T := ⟨fun t ht => ⟨(h.own t ht).r.but hb (hn t ht), (h.own t ht).n, hw⟩, h.dist⟩
theorem FamJ.nil (w W : World) : FamJ w W [] := ⟨fun _ h => (List.not_mem_nil h).elim, List.Pairwise.nil⟩
theorem FamJ.snoc {w W W' : World} {T : List Rr} {a : Option Addr} {c : Nat} {l : List Ro} (h : FamJ w W T) (hw : Below w.heap.size w W) (k : JOwn W W' a c l) : FamJ w W' (T ++ [⟨a, c, l⟩]) := by
  refine ⟨fun t ht => ?_, ?_⟩
  · rcases List.mem_append.1 ht with h1 | h1
    · exact (h.own t h1).keep k.b
    · rw [List.mem_singleton] at h1
      subst h1
      exact JOwn.pre hw k
  · refine List.pairwise_append.2 ⟨h.dist, List.pairwise_singleton _ _, fun s hs t ht x y hx hy => ?_⟩
    rw [List.mem_singleton] at ht
    subst ht
    have h1 := (h.own s hs).r.lt hx
    have h2 := new_at k.n hy
    omega
def uA (T : List Rr) (i : Nat) : Option Addr := (T.getD i Rr0).a
def uC (T : List Rr) (i : Nat) : Nat := (T.getD i Rr0).c
def uL (T : List Rr) (i : Nat) : List Ro := (T.getD i Rr0).l
theorem u_mem {T : List Rr} {i : Nat} (h : i < T.length) : T.getD i Rr0 ∈ T := by simp [h]
theorem FamJ.rowsG {w W : World} {T : List Rr} (h : FamJ w W T) : RowsJ W T.length (uA T) (uC T) (uL T) := fun _ hi => (h.own _ (u_mem hi)).r
theorem FamJ.distG {w W : World} {T : List Rr} (h : FamJ w W T) : Dist T.length (uA T) := by
  intro i j hi hj hne x y hx hy
  have hp := List.pairwise_iff_getElem.1 h.dist
  have ei : T.getD i Rr0 = T[i] := by simp [hi]
  have ej : T.getD j Rr0 = T[j] := by simp [hj]
  unfold uA at hx hy
  rw [ei] at hx
  rw [ej] at hy
  rcases Nat.lt_or_gt_of_ne hne with h1 | h1
  · exact hp i j hi hj h1 x y hx hy
  · exact fun e => hp j i hj hi h1 y x hy hx e.symm
theorem jv_get (T : List Rr) {i : Nat} (hi : i < T.length) : (T.map jv)[i]? = some (.slice (uA T i) (uL T i).length (uC T i)) := by
  simp [hi, jv, uA, uL, uC]
theorem jrows_val (T : List Rr) : T.map jv = (List.range T.length).map (fun i => Value.slice (uA T i) (uL T i).length (uC T i)) := by
  apply List.ext_getElem?
  intro i
  by_cases hi : i < T.length
  · rw [jv_get _ hi]; simp only [List.getElem?_map, List.getElem?_range hi, Option.map_some]
  · rw [List.getElem?_eq_none (by rw [List.length_map]; omega), List.getElem?_eq_none (by rw [List.length_map, List.length_range]; omega)]
theorem apart_fam (w B0 : World) (T : List Rr) (a : Option Addr) (ct : Nat) (hf : FamJ B0 w T) (hw : Below B0.heap.size B0 w) (hA : Aj w a ct (T.map jv)) (hn : T.length ≤ 1000) (hl : ∀ t ∈ T, t.l.length ≤ 1000) :
    Calls Try.prog 10 #[.slice a T.length ct] w fun x w' => x = .returned (.bool true) ∧ Below B0.heap.size B0 w' := by
  rw [jrows_val] at hA
  refine (apart_some w _ ct _ _ _ _ hA hf.rowsG hf.distG (by omega) fun i hi => ?_).mono ?_
  · have := hl _ (u_mem hi)
    unfold uL
    omega
  · rintro x w' ⟨rfl, hbut⟩
    refine ⟨rfl, ((But.ofBelow (S := InRows T.length (uA T)) hw).trans hbut fun _ _ e => e).below fun k hk ⟨i, hi, y, hy, e⟩ => ?_⟩
    have := (hf.own _ (u_mem hi)).fresh hy
    omega

theorem rowIs_rw {W : World} {g N : Nat} {l : List Nat} (h : W.rowIs g 5 N (spF l)) (hN : N = l.length + 64) (hm : N ≤ maxLen) : Rw W (some ⟨g, 0, none⟩) N l := by
  obtain ⟨cur, hg, hs, hf⟩ := h
  refine Rw.mk (cur := cur) hg (by omega) hm hs ?_
  apply List.ext_getElem?
  intro i
  by_cases hi : i < l.length
  · rw [List.getElem?_take, if_pos hi, vb_get l i hi]
    have := hf i (by omega)
    unfold spF at this
    rw [if_pos hi] at this
    simpa using this
  · rw [List.getElem?_eq_none (by rw [List.length_take]; omega), List.getElem?_eq_none (by rw [vb_length]; omega)]
theorem b8_set {l : List Nat} (h : B8 l) (k : Nat) {x : Nat} (hx : x < 256) : B8 (l.set k x) := fun y hy => by
  rcases List.mem_or_eq_of_mem_set hy with h1 | h1
  · exact h y h1
  · omega
/-- what is held while the bytes are being written over -/
structure Gz (w W : World) (g6 g8 g10 g12 : Nat) (D6 D8 D10 D12 : Array Value) (n : Nat) (X : List Nat) (T : List Rr) : Prop where
  b6 : Bx W 28 g6 D6
  b8 : Bx W 28 g8 D8
  b10 : Bx W 28 g10 D10
  b12 : Bx W 28 g12 D12
  x : Rw W (some ⟨w.heap.size, 0, none⟩) (n + 64) X
  xl : X.length = n
  x8 : B8 X
  f : FamJ w W T
  b : Below w.heap.size w W
theorem bx_offB {w : World} {g g' cap : Nat} {l : List Nat} {D : Array Value} (h : Bx w 28 g' D) (hR : Rw w (some ⟨g, 0, none⟩) cap l) : ¬ g' = g := by
  rcases hR.cases with ⟨h0, _⟩ | ⟨g2, cur, h0, hg, _⟩
  · cases h0
  · cases h0
    exact h.ne hg (by decide)
theorem Gz.keep {w W W' : World} {g6 g8 g10 g12 : Nat} {D6 D8 D10 D12 : Array Value} {n : Nat} {X : List Nat} {T : List Rr} (h : Gz w W g6 g8 g10 g12 D6 D8 D10 D12 n X T) (hb : Below W.heap.size W W') : Gz w W' g6 g8 g10 g12 D6 D8 D10 D12 n X T :=
  ⟨h.b6.keep hb, h.b8.keep hb, h.b10.keep hb, h.b12.keep hb, h.x.keep hb, h.xl, h.x8, h.f.keep hb, bt h.b hb⟩
theorem Gz.set {w W : World} {g6 g8 g10 g12 : Nat} {D6 D8 D10 D12 : Array Value} {n : Nat} {X : List Nat} {T : List Rr} (h : Gz w W g6 g8 g10 g12 D6 D8 D10 D12 n X T) (k : Nat) {v : Nat} (hv : v < 256) :
    Gz w (W.setCell ⟨w.heap.size, k, none⟩ (.int .u8 ((v : Nat) : Int))) g6 g8 g10 g12 D6 D8 D10 D12 n (X.set k v) T := by
  have hB : But (fun x => x = w.heap.size) W (W.setCell ⟨w.heap.size, k, none⟩ (.int .u8 ((v : Nat) : Int))) := (But.refl (fun x => x = w.heap.size) W).setCell (p := ⟨w.heap.size, k, none⟩) (fun _ => rfl) _
  have hb : Below w.heap.size w (W.setCell ⟨w.heap.size, k, none⟩ (.int .u8 ((v : Nat) : Int))) := ((But.ofBelow (S := fun _ => False) h.b).trans hB fun x hx e => by omega).below fun _ _ h => h
  refine ⟨h.b6.but hB (bx_offB h.b6 h.x), h.b8.but hB (bx_offB h.b8 h.x), h.b10.but hB (bx_offB h.b10 h.x), h.b12.but hB (bx_offB h.b12 h.x), h.x.set k v, by rw [List.length_set]; exact h.xl, b8_set h.x8 k hv, h.f.but hB hb fun t ht x hx e => ?_, hb⟩
  have hj := (h.f.own t ht).r
  rcases hj.cases with ⟨h0, _⟩ | ⟨g', cur, h0, hg, _⟩
  · rw [h0] at hx; cases hx
  · rw [h0] at hx
    cases hx
    rw [h0] at hj
    exact hj.offB h.x rfl e.symm
end Go.Proofs.Ytifhkfghjifecaa
