import Derived.Test.YtceeeofkigkpkaaGreatEBEX
import Derived.Deep.RegionHeld3
import Derived.Test.YtceeeofkigkpkaaGreatEABX
namespace Go.Proofs.YtceeeofkigkpkaaGreat
set_option linter.unusedVariables false
open Go.RowKit
theorem But.cell1 (w : World) (b i : Nat) (u : Value) : But (fun k => k = b) w (w.setCell ⟨b, i, none⟩ u) := (But.refl (fun k => k = b) w).setCell (p := ⟨b, i, none⟩) (fun _ => rfl) _
theorem new_at {w : World} {a : Option Addr} (h : New w none a) {x : Addr} (hx : a = some x) : w.heap.size ≤ x.block := by
  rcases h x hx with ⟨y, hy, _⟩ | h
  · cases hy
  · exact h
theorem blk_keep {W W' : World} {g : Nat} {o : Obj} (h : W.heap[g]? = some o) (hb : Below W.heap.size W W') : W'.heap[g]? = some o := (hb.block _ (Array.getElem?_eq_some_iff.1 h).1).trans h
def Dist (n : Nat) (A : Nat → Option Addr) : Prop := ∀ i j, i < n → j < n → i ≠ j → ∀ x y, A i = some x → A j = some y → x.block ≠ y.block
def InRows (n : Nat) (A : Nat → Option Addr) (k : Nat) : Prop := ∃ i, i < n ∧ ∃ x, A i = some x ∧ x.block = k
theorem grown_but {w w2 : World} {a : Option Addr} (h : w.grownBy w2 (a.map Addr.block)) : But (fun q => ∃ x, a = some x ∧ x.block = q) w w2 :=
  (But.refl _ _).grown h fun _ hk _ => map_some hk


theorem infoIntL : (Tryz.prog.info? 22).map (fun i => (i.zero, i.size, i.bytes)) = some (some (.slice none 0 0), 1, 24) := by kernel_rfl

/-- one byte is appended: in place, or the old memory is as it was -/
theorem run_apI' (w : World) (ty : TypeId) (a : Option Addr) (n cap : Nat) (l : List Int) (hn : n = l.length) (hR : Ig w a cap l) (ad : Addr) (c : Nat) (x : Int) (hc : w.cell? ad = some (.int .i64 x)) (hlen : l.length + 1 ≤ 268435457) :
    ∃ g cap' w', (Builtin.append_ #[22, 22] ty #[.slice a n cap, .slice (some ad) 1 c]).run Tryz.prog w = .ok (.slice (some ⟨g, 0, none⟩) (n + 1) cap') w' ∧
      Ig w' (some ⟨g, 0, none⟩) cap' (l ++ [x]) ∧ New w a (some ⟨g, 0, none⟩) ∧ w.grownBy w' (a.map Addr.block) ∧ (a = some ⟨g, 0, none⟩ ∨ w.heap.size ≤ g ∧ Below w.heap.size w w') := by
  obtain ⟨g, cap', w', hr, h1, h2, h3, h4⟩ := run_apI w ty a n cap l hn hR ad c x hc (by omega)
  refine ⟨g, cap', w', hr, h1, h2, h3, ?_⟩
  subst hn
  obtain ⟨i0, hi, hz0, hz1, hz2⟩ := info_parts infoI64
  have hnews : ∀ j u, ([.int .i64 x] : List Value)[j]? = some u → w.cell? (ad.add j) = some u := by
    intro j u hj
    match j, hj with
    | 0, hj => simp at hj; subst hj; simpa [Addr.add] using hc
  rcases hR.cases with ⟨rfl, rfl, rfl⟩ | ⟨g', cur, rfl, hg, k1, k2, k3, k4⟩
  · have hr2 := run_append_nil (P := Tryz.prog) w 22 ty 3 i0 (.int .i64 0) Tryz.underlying22 hi hz0 ad 1 c [.int .i64 x] (by rw [hz1]; rfl) hnews (by decide) (by decide) (by rw [hz2]; decide)
    rw [show ([] : List Int).length = 0 from rfl, hr2] at hr
    simp only [Result.ok.injEq, Value.slice.injEq, Option.some.injEq, Addr.mk.injEq] at hr
    obtain ⟨⟨⟨rfl, _⟩, _⟩, rfl⟩ := hr
    exact .inr ⟨Nat.le_refl _, ⟨rfl, rfl, rfl, by simp, fun k hk => heap_alloc_old w.drew _ hk⟩⟩
  · by_cases hroom : l.length + 1 ≤ cap
    · have hr2 := run_append_room (P := Tryz.prog) w 22 ty 3 i0 Tryz.underlying22 hi g' l.length cap cur hg ad 1 c [.int .i64 x] (by rw [hz1]; rfl) hnews (by intro u hu; simp at hu; subst hu; rfl) hroom (by rw [hz1]; show l.length * 1 + 1 ≤ cur.size; omega)
      rw [hr2] at hr
      simp only [Result.ok.injEq, Value.slice.injEq, Option.some.injEq, Addr.mk.injEq] at hr
      obtain ⟨⟨⟨rfl, _⟩, _⟩, rfl⟩ := hr
      exact .inl rfl
    · have holds : ∀ j u, (vi l)[j]? = some u → w.cell? ((⟨g', 0, none⟩ : Addr).add j) = some u := hR.cells (g := g') rfl
      have hr2 := run_append_grow (P := Tryz.prog) w 22 ty 3 i0 (.int .i64 0) Tryz.underlying22 hi hz0 ⟨g', 0, none⟩ l.length cap (vi l) (by rw [vi_length, hz1, Nat.mul_one]) holds ad 1 c [.int .i64 x] (by rw [hz1]; rfl) hnews (by omega) (by omega) (growslice_fits (by omega) (by rw [hz2]; omega))
      rw [hr2] at hr
      simp only [Result.ok.injEq, Value.slice.injEq, Option.some.injEq, Addr.mk.injEq] at hr
      obtain ⟨⟨⟨rfl, _⟩, _⟩, rfl⟩ := hr
      exact .inr ⟨Nat.le_refl _, ⟨rfl, rfl, rfl, by simp, fun k hk => heap_alloc_old w.drew _ hk⟩⟩
theorem wpList_apI' {w : World} {ops : Array Oper} {rest : List Oper} {o : Oper} {a : Act} {Q : Exit → Act → World → Prop} (hgd : o.guard = none) (s x : Operand)
    (ho : o.op = .call { callee := .builtin .append, args := #[s, x], argTypes := #[22, 22] }) (ao : Option Addr) (n cap : Nat) (l : List Int) (hs : a.eval s = .slice ao n cap) (hn : n = l.length) (hR : Ig w ao cap l)
    (ad : Addr) (c : Nat) (xx : Int) (hx : a.eval x = .slice (some ad) 1 c) (hc : w.cell? ad = some (.int .i64 xx)) (hlen : l.length + 1 ≤ 268435457)
    (h : ∀ g cap' w', Ig w' (some ⟨g, 0, none⟩) cap' (l ++ [xx]) → New w ao (some ⟨g, 0, none⟩) → w.grownBy w' (ao.map Addr.block) → (ao = some ⟨g, 0, none⟩ ∨ w.heap.size ≤ g ∧ Below w.heap.size w w') → wpList Tryz.prog ops Q rest (a.put o.dst (.slice (some ⟨g, 0, none⟩) (n + 1) cap')) w') : wpList Tryz.prog ops Q (o :: rest) a w := by
  refine wpList_plain hgd fun K hK => ?_
  obtain ⟨g, cap', w', hr, h1, h2, h3, h4⟩ := run_apI' w o.type ao n cap l hn hR ad c xx hc hlen
  unfold Oper.wp execOp
  simp only [ho, resolve, invoke, builtin, Sem.run_bind, Sem.run_pure, Result.andThen_ok, List.map_toArray, List.map_cons, List.map_nil, hs, hx, hr]
  exact hK _ _ (h g cap' w' h1 h2 h3 h4)

/-- lists of bytes in a row of their own -/
def Ai (w : World) (at' : Option Addr) (ct : Nat) (vs : List Value) : Prop := w.ownsRow 0 22 1 (.slice at' vs.length ct) vs.length vs
theorem Ai.nil (w : World) : Ai w none 0 [] := World.ownsRow_nil w 0 22 1
theorem Ai.cases {w : World} {a : Option Addr} {cap : Nat} {vs : List Value} (h : Ai w a cap vs) : (a = none ∧ cap = 0 ∧ vs = []) ∨
    ∃ g cur, a = some ⟨g, 0, none⟩ ∧ w.heap[g]? = some (.cells cur 22 (0, 0)) ∧ vs.length ≤ cap ∧ cap ≤ maxLen ∧ cur.size = cap ∧ cur.toList.take vs.length = vs := by
  obtain ⟨_, h2⟩ := h
  rcases h2 with ⟨hv, h0⟩ | ⟨g, cap', cur, hv, _, hg, hn, hm, hs, ht⟩
  · simp only [Value.slice.injEq] at hv
    exact .inl ⟨hv.1, hv.2.2, List.length_eq_zero_iff.1 h0⟩
  · simp only [Value.slice.injEq] at hv
    obtain ⟨h1, _, rfl⟩ := hv
    exact .inr ⟨g, cur, h1, hg, hn, hm, by omega, by rw [Nat.mul_one] at ht; exact ht⟩
theorem Ai.mk {w : World} {g cap : Nat} {cur : Array Value} {vs : List Value} (hg : w.heap[g]? = some (.cells cur 22 (0, 0))) (hn : vs.length ≤ cap) (hm : cap ≤ maxLen) (hs : cur.size = cap) (ht : cur.toList.take vs.length = vs) : Ai w (some ⟨g, 0, none⟩) cap vs :=
  ⟨by rw [Nat.mul_one], .inr ⟨g, cap, cur, rfl, Nat.zero_le _, hg, hn, hm, by omega, by rw [Nat.mul_one]; exact ht⟩⟩
theorem Ai.lt {w : World} {a : Option Addr} {cap : Nat} {vs : List Value} (h : Ai w a cap vs) {x : Addr} (hx : a = some x) : x.block < w.heap.size := by
  rcases h.cases with ⟨rfl, _⟩ | ⟨g, cur, rfl, hg, _⟩
  · cases hx
  · cases hx; exact (Array.getElem?_eq_some_iff.1 hg).1
theorem Ai.but {S : Nat → Prop} {w w' : World} {a : Option Addr} {cap : Nat} {vs : List Value} (h : Ai w a cap vs) (hb : But S w w') (hn : ∀ x, a = some x → ¬ S x.block) : Ai w' a cap vs := by
  rcases h.cases with ⟨rfl, rfl, rfl⟩ | ⟨g, cur, rfl, hg, h1, h2, h3, h4⟩
  · exact Ai.nil w'
  · exact Ai.mk ((hb.block g (Array.getElem?_eq_some_iff.1 hg).1 (hn _ rfl)).trans hg) h1 h2 h3 h4
theorem Ai.keep {w w' : World} {a : Option Addr} {cap : Nat} {vs : List Value} (h : Ai w a cap vs) (hb : Below w.heap.size w w') : Ai w' a cap vs :=
  h.but (S := fun _ => False) (But.ofBelow hb) (fun _ _ hf => hf)
theorem Ai.cell {w : World} {a : Option Addr} {cap : Nat} {vs : List Value} (h : Ai w a cap vs) {i : Nat} {v : Value} (hi : vs[i]? = some v) : ∃ g, a = some ⟨g, 0, none⟩ ∧ w.cell? ⟨g, i, none⟩ = some v := by
  rcases h.cases with ⟨rfl, rfl, rfl⟩ | ⟨g, cur, rfl, hg, h1, h2, h3, h4⟩
  · cases hi
  · refine ⟨g, rfl, ?_⟩
    have hlt := (List.getElem?_eq_some_iff.1 hi).1
    have e : (cur.toList.take vs.length)[i]? = some v := by rw [h4]; exact hi
    rw [List.getElem?_take, if_pos hlt] at e
    rw [cell_of_row _ _ _ _ _ _ hg, ← e]
    simp
/-- the array of lists is no list of bytes -/
theorem Ai.ne {w : World} {a a' : Option Addr} {cap cap' : Nat} {vs : List Value} {l : List Int} (h : Ai w a cap vs) (hR : Ig w a' cap' l) {x y : Addr} (hx : a = some x) (hy : a' = some y) : x.block ≠ y.block := by
  rcases h.cases with ⟨rfl, _⟩ | ⟨g, cur, rfl, hg, _⟩
  · cases hx
  rcases hR.cases with ⟨rfl, _⟩ | ⟨g', cur', rfl, hg', _⟩
  · cases hy
  simp only [Option.some.injEq] at hx hy
  subst hx hy
  show g ≠ g'
  intro e
  subst e
  rw [hg] at hg'
  simp at hg'
theorem run_apIntL (w : World) (ty : TypeId) (a : Option Addr) (n cap : Nat) (vs : List Value) (hn : n = vs.length) (hR : Ai w a cap vs) (ad : Addr) (c : Nat) (v : Value) (hc : w.cell? ad = some v) (h1 : v.oneCell' = true) (hlen : (vs.length + 1) * 24 ≤ 140737488355328) :
    ∃ g cap' w', (Builtin.append_ #[31, 31] ty #[.slice a n cap, .slice (some ad) 1 c]).run Tryz.prog w = .ok (.slice (some ⟨g, 0, none⟩) (n + 1) cap') w' ∧
      Ai w' (some ⟨g, 0, none⟩) cap' (vs ++ [v]) ∧ New w a (some ⟨g, 0, none⟩) ∧ w.grownBy w' (a.map Addr.block) := by
  subst hn
  obtain ⟨i0, hi, hz0, hz1, hz2⟩ := info_parts infoIntL
  obtain ⟨g, cap', w', hr, k1, k2, k3, k4⟩ := run_append_lies (P := Tryz.prog) w 31 ty 0 22 i0 (.slice none 0 0) 1 24 Tryz.underlying31 hi hz0 hz1 hz2 rfl (by decide) (.slice a vs.length cap) vs.length vs hR ad 1 c [v] rfl
    (by intro j u hj
        match j, hj with
        | 0, hj => simp at hj; subst hj; simpa [Addr.add] using hc) (by intro u hu; simp at hu; subst hu; exact h1) (by decide) (by unfold maxLen; omega) hlen (Nat.zero_le _) w.heap.size rfl
  rw [ob_eq] at k2 k3
  refine ⟨g, cap', w', hr, ?_, ?_, k2⟩
  · unfold Ai
    rw [List.length_append]
    exact k1
  · intro y hy
    simp only [Option.some.injEq] at hy
    subst hy
    rcases k3 with k3 | k3
    · obtain ⟨z, hz, e⟩ := map_some k3
      exact .inl ⟨z, hz, e⟩
    · exact .inr (by show _ ≤ g; omega)
theorem wpList_apIntL {w : World} {ops : Array Oper} {rest : List Oper} {o : Oper} {a : Act} {Q : Exit → Act → World → Prop} (hgd : o.guard = none) (s x : Operand)
    (ho : o.op = .call { callee := .builtin .append, args := #[s, x], argTypes := #[31, 31] }) (ao : Option Addr) (n cap : Nat) (vs : List Value) (hs : a.eval s = .slice ao n cap) (hn : n = vs.length) (hR : Ai w ao cap vs)
    (ad : Addr) (c : Nat) (v : Value) (hx : a.eval x = .slice (some ad) 1 c) (hc : w.cell? ad = some v) (h1 : v.oneCell' = true) (hlen : (vs.length + 1) * 24 ≤ 140737488355328)
    (h : ∀ g cap' w', Ai w' (some ⟨g, 0, none⟩) cap' (vs ++ [v]) → New w ao (some ⟨g, 0, none⟩) → w.grownBy w' (ao.map Addr.block) → wpList Tryz.prog ops Q rest (a.put o.dst (.slice (some ⟨g, 0, none⟩) (n + 1) cap')) w') : wpList Tryz.prog ops Q (o :: rest) a w := by
  refine wpList_plain hgd fun K hK => ?_
  obtain ⟨g, cap', w', hr, k1, k2, k3⟩ := run_apIntL w o.type ao n cap vs hn hR ad c v hc h1 hlen
  unfold Oper.wp execOp
  simp only [ho, resolve, invoke, builtin, Sem.run_bind, Sem.run_pure, Result.andThen_ok, List.map_toArray, List.map_cons, List.map_nil, hs, hx, hr]
  exact hK _ _ (h g cap' w' k1 k2 k3)

theorem Ig.front {w : World} {a : Option Addr} {cap : Nat} {l m : List Int} (h : Ig w a cap (l ++ m)) : Ig w a cap l ∨ a = none := by
  rcases h.cases with ⟨rfl, rfl, hn⟩ | ⟨g, cur, rfl, hg, h1, h2, h3, h4⟩
  · exact .inr rfl
  · refine .inl (Ig.mk hg (by rw [List.length_append] at h1; omega) h2 h3 ?_)
    have e := congrArg (List.take l.length) h4
    rw [List.take_take, List.length_append, Nat.min_eq_left (by omega), vi_append, List.take_left' (vi_length l)] at e
    exact e
theorem Ig.addr2 {w : World} {a : Option Addr} {cap : Nat} {l : List Int} (h : Ig w a cap l) (hl : 0 < l.length) : ∃ g, a = some ⟨g, 0, none⟩ ∧ l.length ≤ cap ∧ cap ≤ maxLen := by
  rcases h.cases with ⟨rfl, rfl, rfl⟩ | ⟨g, cur, rfl, hg, h1, h2, h3, h4⟩
  · simp at hl
  · exact ⟨g, rfl, h1, h2⟩
/-- lists are appended -/
theorem run_apAiL (w : World) (ty : TypeId) (a : Option Addr) (n cap : Nat) (vs : List Value) (hn : n = vs.length) (hR : Ai w a cap vs) (ad : Addr) (m c : Nat) (us : List Value) (hm : m = us.length) (hc : ∀ j u, us[j]? = some u → w.cell? (ad.add j) = some u) (h1 : ∀ u ∈ us, u.oneCell' = true) (hp : 0 < us.length) (hlen : (vs.length + us.length) * 24 ≤ 140737488355328) :
    ∃ g cap' w', (Builtin.append_ #[31, 31] ty #[.slice a n cap, .slice (some ad) m c]).run Tryz.prog w = .ok (.slice (some ⟨g, 0, none⟩) (n + m) cap') w' ∧
      Ai w' (some ⟨g, 0, none⟩) cap' (vs ++ us) ∧ New w a (some ⟨g, 0, none⟩) ∧ w.grownBy w' (a.map Addr.block) := by
  subst hn hm
  obtain ⟨i0, hi, hz0, hz1, hz2⟩ := info_parts infoIntL
  obtain ⟨g, cap', w', hr, k1, k2, k3, k4⟩ := run_append_lies (P := Tryz.prog) w 31 ty 0 22 i0 (.slice none 0 0) 1 24 Tryz.underlying31 hi hz0 hz1 hz2 rfl (by decide) (.slice a vs.length cap) vs.length vs hR ad us.length c us (by rw [Nat.mul_one])
    hc h1 hp (by unfold maxLen; omega) hlen (Nat.zero_le _) w.heap.size rfl
  rw [ob_eq] at k2 k3
  refine ⟨g, cap', w', hr, ?_, ?_, k2⟩
  · unfold Ai
    rw [List.length_append]
    exact k1
  · intro y hy
    simp only [Option.some.injEq] at hy
    subst hy
    rcases k3 with k3 | k3
    · obtain ⟨z, hz, e⟩ := map_some k3
      exact .inl ⟨z, hz, e⟩
    · exact .inr (by show _ ≤ g; omega)
theorem wp_apAiL {w : World} {o : Oper} {a : Act} {K : Act → World → Prop} {Q : Exit → Act → World → Prop} (s x : Operand)
    (ho : o.op = .call { callee := .builtin .append, args := #[s, x], argTypes := #[31, 31] }) (ao : Option Addr) (n cap : Nat) (vs : List Value) (hs : a.eval s = .slice ao n cap) (hn : n = vs.length) (hR : Ai w ao cap vs)
    (ad : Addr) (m c : Nat) (us : List Value) (hx : a.eval x = .slice (some ad) m c) (hm : m = us.length) (hc : ∀ j u, us[j]? = some u → w.cell? (ad.add j) = some u) (h1 : ∀ u ∈ us, u.oneCell' = true) (hp : 0 < us.length) (hlen : (vs.length + us.length) * 24 ≤ 140737488355328)
    (h : ∀ g cap' w', Ai w' (some ⟨g, 0, none⟩) cap' (vs ++ us) → New w ao (some ⟨g, 0, none⟩) → w.grownBy w' (ao.map Addr.block) → K (a.put o.dst (.slice (some ⟨g, 0, none⟩) (n + m) cap')) w') : o.wp Tryz.prog a w K Q := by
  obtain ⟨g, cap', w', hr, k1, k2, k3⟩ := run_apAiL w o.type ao n cap vs hn hR ad m c us hm hc h1 hp hlen
  unfold Oper.wp execOp
  simp only [ho, resolve, invoke, builtin, Sem.run_bind, Sem.run_pure, Result.andThen_ok, List.map_toArray, List.map_cons, List.map_nil, hs, hx, hr]
  exact h g cap' w' k1 k2 k3
theorem wpList_apAiL {w : World} {ops : Array Oper} {rest : List Oper} {o : Oper} {a : Act} {Q : Exit → Act → World → Prop} (hgd : o.guard = none) (s x : Operand)
    (ho : o.op = .call { callee := .builtin .append, args := #[s, x], argTypes := #[31, 31] }) (ao : Option Addr) (n cap : Nat) (vs : List Value) (hs : a.eval s = .slice ao n cap) (hn : n = vs.length) (hR : Ai w ao cap vs)
    (ad : Addr) (m c : Nat) (us : List Value) (hx : a.eval x = .slice (some ad) m c) (hm : m = us.length) (hc : ∀ j u, us[j]? = some u → w.cell? (ad.add j) = some u) (h1 : ∀ u ∈ us, u.oneCell' = true) (hp : 0 < us.length) (hlen : (vs.length + us.length) * 24 ≤ 140737488355328)
    (h : ∀ g cap' w', Ai w' (some ⟨g, 0, none⟩) cap' (vs ++ us) → New w ao (some ⟨g, 0, none⟩) → w.grownBy w' (ao.map Addr.block) → wpList Tryz.prog ops Q rest (a.put o.dst (.slice (some ⟨g, 0, none⟩) (n + m) cap')) w') : wpList Tryz.prog ops Q (o :: rest) a w :=
  wpList_plain hgd fun _ hK => wp_apAiL s x ho ao n cap vs hs hn hR ad m c us hx hm hc h1 hp hlen fun g cap' w' k1 k2 k3 => hK _ _ (h g cap' w' k1 k2 k3)



def mkI (i k : Nat) : Int := (i : Int) * 100003 + (k : Int)
def gl (i n : Nat) : List Int := (List.range n).map (mkI i)
theorem gl_length (i n : Nat) : (gl i n).length = n := by simp [gl]
theorem gl_succ (i n : Nat) : gl i (n + 1) = gl i n ++ [mkI i n] := by simp [gl, List.range_succ]
theorem gl_get (i n k : Nat) (h : k < n) : (gl i n).getD k 0 = mkI i k := by simp [gl, h]
theorem gset_step (i k : Nat) (l : List Int) (h : k < l.length) : (gl i k ++ l.drop k).set k (mkI i k) = gl i (k + 1) ++ l.drop (k + 1) := by
  rw [List.set_append_right _ _ (by rw [gl_length]; exact Nat.le_refl _), gl_length, Nat.sub_self, List.drop_eq_getElem_cons h, List.set_cons_zero, gl_succ, List.append_assoc]
  rfl
/-- rows of bytes -/
def RowsI (w : World) (n : Nat) (A : Nat → Option Addr) (C : Nat → Nat) (G : Nat → List Int) : Prop := ∀ i, i < n → Ig w (A i) (C i) (G i)
theorem RowsI.congr {w : World} {n : Nat} {A : Nat → Option Addr} {C : Nat → Nat} {G G' : Nat → List Int} (h : RowsI w n A C G) (e : ∀ i, i < n → G i = G' i) : RowsI w n A C G' := fun i hi => by rw [← e i hi]; exact h i hi
theorem RowsI.set {w : World} {n : Nat} {A : Nat → Option Addr} {C : Nat → Nat} {G : Nat → List Int} (h : RowsI w n A C G) (hd : Dist n A) {j g : Nat} (hj : j < n) (hA : A j = some ⟨g, 0, none⟩) (k : Nat) (v : Int) :
    RowsI (w.setCell ⟨g, k, none⟩ (.int .i64 v)) n A C (fun i => if i = j then (G j).set k v else G i) := by
  intro i hi
  by_cases e : i = j
  · subst e
    dsimp only
    rw [if_pos rfl, hA]
    have := h i hi
    rw [hA] at this
    exact this.set k v
  · dsimp only
    rw [if_neg e]
    exact (h i hi).but (But.cell1 w g k _) fun x hx => hd i j hi hj e x _ hx hA

/-- behind the second loop's first rounds -/
def P3 (w wx : World) (n : Nat) (A : Nat → Option Addr) (C : Nat → Nat) (N : Nat → Nat) (j : Nat) (ag : Option Addr) (cg : Nat) (B : Nat → Option Addr) (D : Nat → Nat) : Prop :=
  Ai wx ag cg ((List.range j).map fun i => Value.slice (B i) (N i + 20) (D i)) ∧
  (∀ i, i < j → Ig wx (B i) (D i) (gl i (N i + 20)) ∧ Ir wx (A i) (gl i (N i)) ∧ New w (A i) (B i)) ∧
  (∀ i, j ≤ i → i < n → Ig wx (A i) (C i) (gl i (N i))) ∧
  (∀ i i', i < i' → i' < j → ∀ x y, B i = some x → B i' = some y → x.block ≠ y.block) ∧
  But (InRows n A) w wx ∧ New w none ag
theorem P3.next {w wx w3 wr : World} {n : Nat} {A : Nat → Option Addr} {C N : Nat → Nat} {j : Nat} {ag ag' gj : Option Addr} {cg cg' cj : Nat} {B : Nat → Option Addr} {D : Nat → Nat} {o : Obj}
    (hd : Dist n A) (hA0 : ∀ i, i < n → ∀ x, A i = some x → x.block < w.heap.size) (hj : j < n) (h : P3 w wr n A C N j ag cg B D) (hin : But (fun q => ∃ x, A j = some x ∧ x.block = q) wr wx)
    (hRg : Ig wx gj cj (gl j (N j + 20))) (hBs : Ir wx (A j) (gl j (N j))) (hgj : gj = A j ∨ ∀ x, gj = some x → wr.heap.size ≤ x.block)
    (hAr : Ai w3 ag' cg' (((List.range j).map fun i => Value.slice (B i) (N i + 20) (D i)) ++ [.slice gj (N j + 20) cj])) (hN : New (wx.alloc o) ag ag') (hg : (wx.alloc o).grownBy w3 (ag.map Addr.block)) :
    P3 w w3 n A C N (j + 1) ag' cg' (fun i => if i = j then gj else B i) (fun i => if i = j then cj else D i) := by
  obtain ⟨h1, h2, h3, h4, h5, h6⟩ := h
  have hsz := h5.size
  have hsz2 := hin.size
  -- the array is none of the rows
  have hagx : Ai wx ag cg ((List.range j).map fun i => Value.slice (B i) (N i + 20) (D i)) := h1.but hin fun x hx ⟨y, hy, e⟩ => h1.ne (h3 j (Nat.le_refl _) hj) hx hy e.symm
  have step : But (fun q => ∃ x, ag = some x ∧ x.block = q) wx w3 := ((But.refl _ wx).alloc o).trans (grown_but hg) fun _ _ h => h
  have row : ∀ {a c l}, Ig wx a c l → Ig w3 a c l := fun hr => hr.but step fun x hx ⟨y, hy, e⟩ => hagx.ne hr hy hx e
  have bs : ∀ {a : Option Addr} {l : List Int}, Ir wx a l → (∀ x, a = some x → x.block < w.heap.size) → Ir w3 a l := fun hb hlt => hb.but step fun x hx _ ⟨y, hy, e⟩ => by
    have h7 := hlt x hx
    rcases h6 y hy with ⟨z, hz, _⟩ | h8
    · cases hz
    · omega
  have hBold : ∀ i, i < j → ∀ x, B i = some x → ¬ ∃ y, A j = some y ∧ y.block = x.block := by
    rintro i hi x hx ⟨y, hy, e⟩
    rcases (h2 i hi).2.2 x hx with ⟨z, hz, e2⟩ | h7
    · exact hd i j (by omega) hj (by omega) z y hz hy (e2.trans e.symm)
    · have := hA0 j hj y hy; omega
  refine ⟨?_, ?_, ?_, ?_, ?_, ?_⟩
  · rw [List.range_succ, List.map_append]
    have e : ((List.range j).map fun i => Value.slice (if i = j then gj else B i) (N i + 20) (if i = j then cj else D i)) = (List.range j).map fun i => Value.slice (B i) (N i + 20) (D i) := by
      apply List.map_congr_left
      intro i hi
      have := List.mem_range.1 hi
      simp [show i ≠ j by omega]
    rw [e]
    simpa using hAr
  · intro i hi
    by_cases e : i = j
    · subst e
      dsimp only
      rw [if_pos rfl, if_pos rfl]
      refine ⟨row hRg, bs hBs (hA0 i hj), ?_⟩
      intro x hx
      rcases hgj with h7 | h7
      · exact .inl ⟨x, by rw [← h7]; exact hx, rfl⟩
      · exact .inr (by have := h7 x hx; omega)
    · dsimp only
      rw [if_neg e, if_neg e]
      obtain ⟨k1, k2, k3⟩ := h2 i (by omega)
      refine ⟨row (k1.but hin fun x hx => hBold i (by omega) x hx), bs (k2.but hin fun x hx _ ⟨y, hy, e2⟩ => hd i j (by omega) hj e x y hx hy e2.symm) (hA0 i (by omega)), k3⟩
  · intro i hi hin'
    exact row ((h3 i (by omega) hin').but hin fun x hx ⟨y, hy, e2⟩ => hd i j hin' hj (by omega) x y hx hy e2.symm)
  · intro i i' hii hi' x y hx hy
    dsimp only at hx hy
    rw [if_neg (by omega)] at hx
    by_cases e : i' = j
    · rw [if_pos e] at hy
      subst e
      rcases hgj with h7 | h7
      · rw [h7] at hy
        exact fun e2 => hBold i hii x hx ⟨y, hy, e2.symm⟩
      · have h8 := h7 y hy
        have h9 := (h2 i hii).1.lt hx
        omega
    · rw [if_neg e] at hy
      exact h4 i i' hii (by omega) x y hx hy
  · refine (h5.trans hin fun x _ ⟨y, hy, e⟩ => ⟨j, hj, y, hy, e⟩).trans step ?_
    rintro x hx ⟨y, hy, e⟩
    rcases h6 y hy with ⟨z, hz, _⟩ | h8
    · cases hz
    · omega
  · exact h6.trans hN (by rw [size_alloc]; omega)

/-- a byte is appended to a row: what of the row that it grew out of -/
theorem inner_stepI {wr wx w2 : World} {aj gj : Option Addr} {g : Nat} {cap' : Nat} {l m : List Int} {x : Int} {o : Obj} (hlt : ∀ y, aj = some y → y.block < wr.heap.size) 
    (hin : But (fun q => ∃ y, aj = some y ∧ y.block = q) wr wx) (hBs : Ir wx aj l) (hgj : gj = aj ∨ ∀ y, gj = some y → wr.heap.size ≤ y.block)
    (hR : Ig w2 (some ⟨g, 0, none⟩) cap' (l ++ m ++ [x])) (hg : (wx.alloc o).grownBy w2 (gj.map Addr.block)) (hc : gj = some ⟨g, 0, none⟩ ∨ (wx.alloc o).heap.size ≤ g ∧ Below (wx.alloc o).heap.size (wx.alloc o) w2) :
    But (fun q => ∃ y, aj = some y ∧ y.block = q) wr w2 ∧ Ir w2 aj l ∧ (some ⟨g, 0, none⟩ = aj ∨ ∀ y, some (⟨g, 0, none⟩ : Addr) = some y → wr.heap.size ≤ y.block) := by
  have hsz := hin.size
  refine ⟨?_, ?_, ?_⟩
  · refine (hin.alloc o).trans (grown_but hg) ?_
    rintro q hq ⟨y, hy, e⟩
    rcases hgj with h | h
    · exact ⟨y, by rw [← h]; exact hy, e⟩
    · have := h y hy; omega
  · rcases hc with hc | ⟨_, hb⟩
    · rcases hgj with h | h
      · rw [← h, hc]
        rw [List.append_assoc] at hR
        rcases hR.front with h7 | h7
        · exact h7.ir
        · cases h7
      · refine (hBs.keep ((Below.refl _ _).alloc (Nat.le_refl _) o)).but (grown_but hg) ?_
        rintro y hy _ ⟨z, hz, e⟩
        have h8 := h z hz
        have h9 := hlt y hy
        omega
    · exact (hBs.keep ((Below.refl _ _).alloc (Nat.le_refl _) o)).keep hb
  · rcases hc with hc | ⟨hc, _⟩
    · rw [← hc]
      rcases hgj with h | h
      · exact .inl h
      · exact .inr h
    · refine .inr fun y hy => ?_
      simp only [Option.some.injEq] at hy
      subst hy
      rw [size_alloc] at hc
      show _ ≤ g
      omega

set_option maxRecDepth 100000 in
set_option maxHeartbeats 8000000 in
theorem ApartInts_some (w : World) (at' : Option Addr) (ct n : Nat) (A : Nat → Option Addr) (C : Nat → Nat) (L : Nat → List Int) (hAr : Ai w at' ct ((List.range n).map fun i => Value.slice (A i) (L i).length (C i))) (hR : RowsI w n A C L) (hd : Dist n A) (hn : n ≤ 5864062014636) (hl : ∀ i, i < n → (L i).length ≤ 268435436) :
    Calls Tryz.prog 10 #[.slice at' n ct] w fun x w' => x = .returned (.bool true) ∧ But (InRows n A) w w' := by
  have HA := hide hAr
  have HR := hide hR
  have HD := hide hd
  have HL := hide hl
  have arr : ∀ wx, But (InRows n A) w wx → ∀ i, i < n → ∃ g, at' = some ⟨g, 0, none⟩ ∧ wx.cell? ⟨g, i, none⟩ = some (.slice (A i) (L i).length (C i)) := by
    intro wx hb i hi
    refine (HA.out.but hb ?_).cell (by simp [hi])
    rintro x hx ⟨q, hq, y, hy, e⟩
    exact HA.out.ne (HR.out q hq) hx hy e.symm
  have ARR := hide arr
  clear hAr hR hd hl arr
  go_enter Tryz.func10, Tryz.ntmps10
  go_wp2
  go_loopw [3, 4] (fun i _ wx => ∃ j : Nat, j ≤ n ∧ i = .int .i64 j ∧ (RowsI wx n A C (fun i => if i < j then gl i (L i).length else L i) ∧ But (InRows n A) w wx)) (fun i _ _ => n - (intOf i).toNat)
  case atStart => exact ⟨0, Nat.zero_le _, rfl, HR.out.congr fun i _ => by simp, But.refl _ _⟩
  case round =>
    obtain ⟨j, hj, rfl, hG⟩ := hrel
    have HG := hide hG
    clear hG
    by_cases hlt : j < n
    · have hi : (j : Int) < (n : Int) := by omega
      obtain ⟨bt', hat, hc⟩ := ARR.out wr HG.out.2 j hlt
      subst hat
      have hlj := HL.out j hlt
      go_wp2
      go_loopw [4] (fun k' wx => ∃ k : Nat, k ≤ (L j).length ∧ k' = .int .i64 k ∧ (RowsI wx n A C (fun i => if i < j then gl i (L i).length else if i = j then gl j k ++ (L j).drop k else L i) ∧ But (InRows n A) w wx)) (fun k' _ => (L j).length - (intOf k').toNat)
      case atStart =>
        refine ⟨0, Nat.zero_le _, rfl, HG.out.1.congr fun i _ => ?_, HG.out.2⟩
        by_cases e : i = j
        · subst e; simp [gl]
        · simp [e]
      case round =>
        clear hc
        obtain ⟨k, hk, rfl, hG2⟩ := hrel
        have HG2 := hide hG2
        clear hG2
        obtain ⟨b2, e2, hc⟩ := ARR.out wr HG2.out.2 j hlt
        simp only [Option.some.injEq, Addr.mk.injEq] at e2
        obtain ⟨rfl, _⟩ := e2
        by_cases hlk : k < (L j).length
        · have hik : (k : Int) < ((L j).length : Int) := by omega
          have hrow := HG2.out.1 j hlt
          simp only [Nat.lt_irrefl, if_false, if_true] at hrow
          have hrl : (gl j k ++ (L j).drop k).length = (L j).length := by rw [List.length_append, gl_length, List.length_drop]; omega
          obtain ⟨g, hAj, _, _⟩ := hrow.addr2 (by rw [hrl]; omega)
          rw [hAj] at hc hrow
          have hcg := hrow.cell (i := k) (by rw [hrl]; exact hlk)
          have hfg : wr.frozen? ⟨g, k, none⟩ = false := by
            rcases hrow.cases with ⟨h0, _⟩ | ⟨g', cur, h0, hg', _⟩
            · cases h0
            · simp only [Option.some.injEq, Addr.mk.injEq] at h0
              obtain ⟨rfl, _⟩ := h0
              exact frozen_of_row wr g k _ _ hg'
          have hmk : (j : Int) * 100003 + (k : Int) = (mkI j k) := by unfold mkI; omega
          have HSS := hide (gset_step j k (L j) hlk)
          have HAJ := hide hAj
          clear hAj hrow hrl
          generalize hx : (gl j k ++ (L j).drop k).getD k 0 = x at *
          clear hx
          generalize mkI j k = mm at *
          go_wp2
          go_roundw
          case rel =>
            refine ⟨k + 1, by omega, by go_num, (HG2.out.1.set HD.out hlt HAJ.out k mm).congr fun i hi => ?_, HG2.out.2.setCell (p := ⟨g, k, none⟩) (fun _ => ⟨j, hlt, _, HAJ.out, rfl⟩) _⟩
            by_cases e : i = j
            · subst e; simp only [if_true, Nat.lt_irrefl, if_false]; exact HSS.out
            · simp only [e, if_false]
          case measure => simp [intOf]; omega
        · obtain rfl : k = (L j).length := by omega
          go_wp2
          go_roundw
          case rel =>
            refine ⟨j + 1, by omega, by go_num, HG2.out.1.congr fun i hi => ?_, HG2.out.2⟩
            by_cases e : i = j
            · subst e; simp
            · by_cases e2 : i < j
              · rw [if_pos e2, if_pos (by omega)]
              · rw [if_neg e2, if_neg e, if_neg (by omega)]
          case measure => simp [intOf]; omega
    · obtain rfl : n = j := by omega
      have hA0 : ∀ i, i < n → ∀ x, A i = some x → x.block < w.heap.size := fun i hi x hx => (HR.out i hi).lt hx
      have HA0 := hide hA0
      have H1 : Hid (P3 w wr n A C (fun i => (L i).length) 0 none 0 (fun _ => none) (fun _ => 0)) := ⟨Ai.nil _, fun i hi => by omega, fun i _ hi => by have := HG.out.1 i hi; dsimp only at this; rwa [if_pos hi] at this, fun i i' _ hi' => by omega, HG.out.2, New.none _ _⟩
      clear hA0 HG
      go_wp2
      go_loopw [5, 6, 7, 8] (fun gr i _ _ wx => ∃ (j : Nat) (ag : Option Addr) (cg : Nat) (B : Nat → Option Addr) (D : Nat → Nat), j ≤ n ∧ i = .int .i64 j ∧ gr = .slice ag j cg ∧ P3 w wx n A C (fun i => (L i).length) j ag cg B D) (fun _ i _ _ _ => n - (intOf i).toNat)
      case atStart => exact ⟨0, none, 0, _, _, Nat.zero_le _, rfl, rfl, H1.out⟩
      case round =>
        clear H1
        obtain ⟨j, ag, cg, B, D, hj, rfl, rfl, hP⟩ := hrel
        have HP := hide hP
        clear hP
        by_cases hlt : j < n
        · have hi : (j : Int) < (n : Int) := by omega
          have hlj := HL.out j hlt
          obtain ⟨bt', hat, hc⟩ := ARR.out wr HP.out.2.2.2.2.1 j hlt
          subst hat
          have hrow0 := HP.out.2.2.1 j (Nat.le_refl _) hlt
          have HROW0 := hide hrow0
          have HBS0 := hide hrow0.ir
          have HLTJ : Hid (∀ y, A j = some y → y.block < wr.heap.size) := fun y hy => hrow0.lt hy
          have HARW : Hid (∀ wx, But (fun q => ∃ y, A j = some y ∧ y.block = q) wr wx → wx.cell? ⟨bt', j, none⟩ = some (.slice (A j) (L j).length (C j))) := fun wx hb => by
            obtain ⟨b2, e2, h2⟩ := ARR.out wx (HP.out.2.2.2.2.1.trans hb fun x _ ⟨y, hy, e⟩ => ⟨j, hlt, y, hy, e⟩) j hlt
            simp only [Option.some.injEq, Addr.mk.injEq] at e2
            obtain ⟨rfl, _⟩ := e2
            exact h2
          clear hrow0
          go_wp2
          generalize hW : wr = W at *
          go_loopw [7, 8] (fun gv k' wx => ∃ (k : Nat) (gj : Option Addr) (cj : Nat), k ≤ 20 ∧ k' = .int .i64 k ∧ gv = .slice gj ((L j).length + k) cj ∧ (Ig wx gj cj (gl j ((L j).length + k)) ∧ (But (fun q => ∃ y, A j = some y ∧ y.block = q) W wx ∧ Ir wx (A j) (gl j (L j).length) ∧ (gj = A j ∨ ∀ y, gj = some y → W.heap.size ≤ y.block)))) (fun _ k' _ => 20 - (intOf k').toNat)
          case atStart => exact ⟨0, A j, C j, by decide, rfl, rfl, HROW0.out, But.refl _ _, HBS0.out, .inl rfl⟩
          case round =>
            clear hc
            obtain ⟨k, gj, cj, hk, rfl, rfl, hG⟩ := hrel
            have HG := hide hG
            clear hG
            by_cases hlk : k < 20
            · have hik : (k : Int) < 20 := by omega
              have hc := HARW.out wr HG.out.2.1
              have hbt := block_lt_of_cell hc
              have hmk : (j : Int) * 100003 + ((L j).length : Int) + (k : Int) = (mkI j ((L j).length + k)) := by unfold mkI; omega
              have HS : Hid (gl j ((L j).length + k) ++ [mkI j ((L j).length + k)] = gl j ((L j).length + (k + 1))) := (gl_succ j ((L j).length + k)).symm
              have HSP : Hid (∃ m, gl j ((L j).length + k) = gl j (L j).length ++ m) := ⟨(gl j ((L j).length + k)).drop (L j).length, by
                have e : (gl j ((L j).length + k)).take (L j).length = gl j (L j).length := by simp [gl, ← List.map_take, List.take_range]
                rw [← e]; exact (List.take_append_drop _ _).symm⟩
              have hz := gl_length j ((L j).length + k)
              have hzn := gl_length j (L j).length
              generalize mkI j ((L j).length + k) = mm at *
              generalize gl j ((L j).length + k) = FL at *
              go_wp2_with (at_builtin; refine wpList_apI' rfl _ _ rfl gj ((L j).length + k) cj FL ?q1 hz.symm (HG.out.1.keep ((Below.refl _ _).alloc (Nat.le_refl _) _)) ⟨wr.heap.size, 0, none⟩ 1 mm ?q2 ?q3 (by omega) ?_)
              try case q1 => rfl
              try case q2 => rfl
              try case q3 => simp
              intro g cap' w2 hR hN hg hcase
              obtain ⟨m, hm⟩ := HSP.out
              have hst := inner_stepI (m := m) (x := mm) HLTJ.out HG.out.2.1 HG.out.2.2.1 HG.out.2.2.2 (by rw [← hm]; exact hR) hg (by rw [size_alloc]; exact hcase)
              rw [HS.out] at hR
              have HR2 := hide hR
              have HST := hide hst
              clear hR hN hg hcase hst hm
              go_wp2
              go_roundw
              case rel => exact ⟨k + 1, _, cap', by omega, by go_num, rfl, HR2.out, HST.out⟩
              case measure => simp [intOf]; omega
            · obtain rfl : k = 20 := by omega
              have hAgx : Ai wr ag cg ((List.range j).map fun i => Value.slice (B i) ((L i).length + 20) (D i)) := HP.out.1.but HG.out.2.1 fun x hx ⟨y, hy, e⟩ => HP.out.1.ne HROW0.out hx hy e.symm
              have hvl : ((List.range j).map fun i => Value.slice (B i) ((L i).length + 20) (D i)).length = j := by simp
              have HAG := hide hAgx
              have HNX : Hid (∀ w3 ag' cg' o, Ai w3 ag' cg' (((List.range j).map fun i => Value.slice (B i) ((L i).length + 20) (D i)) ++ [.slice gj ((L j).length + 20) cj]) → New (wr.alloc o) ag ag' → (wr.alloc o).grownBy w3 (ag.map Addr.block) → P3 w w3 n A C (fun i => (L i).length) (j + 1) ag' cg' (fun i => if i = j then gj else B i) (fun i => if i = j then cj else D i)) :=
                fun w3 ag' cg' o h1 h2 h3 => HP.out.next HD.out HA0.out hlt HG.out.2.1 HG.out.1 HG.out.2.2.1 HG.out.2.2.2 h1 h2 h3
              clear hAgx
              generalize ((List.range j).map fun i => Value.slice (B i) ((L i).length + 20) (D i)) = vs at *
              go_wp2_with (at_builtin; refine wpList_apIntL rfl _ _ rfl ag j cg vs ?r1 hvl.symm (HAG.out.keep ((Below.refl _ _).alloc (Nat.le_refl _) _)) ⟨wr.heap.size, 0, none⟩ 1 (.slice gj ((L j).length + 20) cj) ?r2 ?r3 rfl (by omega) ?_)
              try case r1 => rfl
              try case r2 => rfl
              try case r3 => simp
              intro g cap' w2 hR hN hg
              have HQ := hide (HNX.out w2 _ cap' _ hR hN hg)
              clear hR hN hg
              go_wp2
              go_roundw
              case rel => exact ⟨j + 1, _, cap', _, _, by omega, by go_num, rfl, HQ.out⟩
              case measure => simp [intOf]; omega
        · obtain rfl : n = j := by omega
          go_wp2
          generalize hW : wr = W at *
          go_loopw [9, 10] (fun i _ wx => ∃ j : Nat, j ≤ n ∧ i = .int .i64 j ∧ wx = W) (fun i _ _ => n - (intOf i).toNat)
          case atStart => exact ⟨0, Nat.zero_le _, rfl, rfl⟩
          case round =>
            obtain ⟨j, hj, rfl, hwW⟩ := hrel
            subst hwW
            by_cases hlt : j < n
            · have hi : (j : Int) < (n : Int) := by omega
              have hlj := HL.out j hlt
              obtain ⟨bt', hat, hc⟩ := ARR.out _ HP.out.2.2.2.2.1 j hlt
              obtain ⟨gg, hag, hcg⟩ := HP.out.1.cell (i := j) (v := .slice (B j) ((L j).length + 20) (D j)) (by simp [hlt])
              subst hat hag
              obtain ⟨hrow, hbs, _⟩ := HP.out.2.1 j hlt
              obtain ⟨g, hBj, hle, hmx⟩ := hrow.addr2 (by rw [gl_length]; omega)
              rw [hBj] at hcg hrow
              have HROW := hide hrow
              have HBS := hide hbs
              clear hrow hbs hBj
              unfold maxLen at hmx
              rw [gl_length] at hle
              go_wp2
              go_loopw [10] (fun k' wx => ∃ k : Nat, k ≤ (L j).length + 20 ∧ k' = .int .i64 k ∧ wx = wr) (fun k' _ => (L j).length + 20 - (intOf k').toNat)
              case atStart => exact ⟨0, Nat.zero_le _, rfl, rfl⟩
              case round =>
                obtain ⟨k, hk, rfl, hwW⟩ := hrel
                subst hwW
                by_cases hlk : k < (L j).length + 20
                · have hik : (k : Int) < ((L j).length : Int) + 20 := by omega
                  have hcell := HROW.out.cell (i := k) (by rw [gl_length]; exact hlk)
                  rw [gl_get j _ k hlk] at hcell
                  have hmk : (j : Int) * 100003 + (k : Int) = (mkI j k) := by unfold mkI; omega
                  by_cases hkl : k < (L j).length
                  · have hkl2 : (k : Int) < ((L j).length : Int) := by omega
                    obtain ⟨ba, oa, hAj, hca⟩ := HBS.out.at (j := k) (by rw [gl_length]; exact hkl)
                    rw [gl_get j _ k hkl] at hca
                    rw [hAj] at hc
                    generalize mkI j k = mm at *
                    go_wp2
                    go_roundw
                    case rel => exact ⟨k + 1, by omega, by go_num, trivial⟩
                    case measure => simp [intOf]; omega
                  · have hkl2 : ¬ (k : Int) < ((L j).length : Int) := by omega
                    generalize mkI j k = mm at *
                    go_wp2
                    go_roundw
                    case rel => exact ⟨k + 1, by omega, by go_num, trivial⟩
                    case measure => simp [intOf]; omega
                · obtain rfl : k = (L j).length + 20 := by omega
                  go_wp2
                  go_roundw
                  case rel => exact ⟨j + 1, by omega, by go_num, trivial⟩
                  case measure => simp [intOf]; omega
            · obtain rfl : n = j := by omega
              go_wp2
              go_ret
              exact ⟨rfl, HP.out.2.2.2.2.1⟩
structure Bi where
  a : Option Addr
  c : Nat
  l : List Int
def Bi0 : Bi := ⟨none, 0, []⟩
def biv (u : Bi) : Value := .slice u.a u.l.length u.c
structure Fi (w W : World) (U : List Bi) : Prop where
  own : ∀ u ∈ U, IOwn w W u.a u.c u.l
  dist : U.Pairwise fun s t => ∀ x y, s.a = some x → t.a = some y → x.block ≠ y.block
theorem Fi.keep {w W W' : World} {U : List Bi} (h : Fi w W U) (hb : Below W.heap.size W W') : Fi w W' U := ⟨fun u hu => (h.own u hu).keep hb, h.dist⟩
theorem Fi.add {w W W' : World} {U : List Bi} {u : Bi} (h : Fi w W U) (hu : IOwn W W' u.a u.c u.l) (hw : Below w.heap.size w W) : Fi w W' (U ++ [u]) := by
  refine ⟨fun t ht => ?_, List.pairwise_append.2 ⟨h.dist, List.pairwise_singleton _ _, fun s hs t ht x y hx hy e => ?_⟩⟩
  · rcases List.mem_append.1 ht with h1 | h1
    · exact (h.own t h1).keep hu.b
    · rw [List.mem_singleton.1 h1]; exact ⟨hu.r, hu.n.mono hw.size, bt hw hu.b⟩
  · rw [List.mem_singleton.1 ht] at hy
    have h1 := (h.own s hs).r.lt hx
    have h2 := new_at hu.n hy
    omega
theorem Fi.but {S : Nat → Prop} {w W W' : World} {U : List Bi} (h : Fi w W U) (hb : But S W W') (hw : Below w.heap.size w W') (hn : ∀ u ∈ U, ∀ x, u.a = some x → ¬ S x.block) : Fi w W' U := ⟨fun u hu => ⟨(h.own u hu).r.but hb (hn u hu), (h.own u hu).n, hw⟩, h.dist⟩
theorem Fi.apart (w B0 : World) (U : List Bi) (a : Option Addr) (ct : Nat) (hf : Fi B0 w U) (hw : Below B0.heap.size B0 w) (hA : Ai w a ct (U.map biv)) (hn : U.length ≤ 5864062014636) (hl : ∀ u ∈ U, u.l.length ≤ 268435436) :
    Calls Tryz.prog 10 #[.slice a U.length ct] w fun x w' => x = .returned (.bool true) ∧ Below B0.heap.size B0 w' := by
  have hv : U.map biv = (List.range U.length).map (fun i => Value.slice (U.getD i Bi0).a (U.getD i Bi0).l.length (U.getD i Bi0).c) := by
    apply List.ext_getElem?
    intro i
    by_cases hi : i < U.length
    · simp [hi, biv]
    · rw [List.getElem?_eq_none (by rw [List.length_map]; omega), List.getElem?_eq_none (by rw [List.length_map, List.length_range]; omega)]
  rw [hv] at hA
  have hmem : ∀ i, i < U.length → U.getD i Bi0 ∈ U := fun i hi => by simp [hi]
  refine (ApartInts_some w a ct U.length _ _ _ hA (fun i hi => (hf.own _ (hmem i hi)).r) (fun i j hi hj hne x y hx hy => ?_) hn fun i hi => hl _ (hmem i hi)).mono ?_
  · have hp := List.pairwise_iff_getElem.1 hf.dist
    have ei : U.getD i Bi0 = U[i] := by simp [hi]
    have ej : U.getD j Bi0 = U[j] := by simp [hj]
    rw [ei] at hx
    rw [ej] at hy
    rcases Nat.lt_or_gt_of_ne hne with h1 | h1
    · exact hp i j hi hj h1 x y hx hy
    · exact fun e => hp j i hj hi h1 y x hy hx e.symm
  · rintro x w' ⟨rfl, hbut⟩
    refine ⟨rfl, ((But.ofBelow (S := InRows U.length fun i => (U.getD i Bi0).a) hw).trans hbut fun _ _ e => e).below fun k hk ⟨i, hi, y, hy, e⟩ => ?_⟩
    have := new_at (hf.own _ (hmem i hi)).n hy
    omega
end Go.Proofs.YtceeeofkigkpkaaGreat

namespace Go.Proofs.YtceeeofkigkpkaaGreat
set_option linter.unusedVariables false
open Go.RowKit

/-! ### two pools tell the same -/
set_option maxHeartbeats 8000000 in
set_option maxRecDepth 8000 in
theorem likelyG_any (w : World) (b q : Nat) (P : Po) (col : Nat → Nat) (F : Nat → Prop) (hP : Pl w b P col) (hR : Rl w q P F) (hmk : P.mark ≤ 8796093022208) :
    Calls Tryz.prog 11 #[.pointer (some ⟨b, 0, none⟩), .pointer (some ⟨q, 0, none⟩)] w fun e w' => e = .returned (.bool true) ∧ Below w.heap.size w w' := by
  have hl : P.pg.length ≤ 65536 := hP.ok.l2
  have LP := hide fun (W : World) (hb : Below w.heap.size w W) => Len_pl W b _ col (hP.keep hb)
  have RP := hide fun (W : World) (hb : Below w.heap.size w W) => Refs_pl W b _ col (hP.keep hb)
  have MP := hide fun (W : World) (hb : Below w.heap.size w W) => Mark_pl W b _ col (hP.keep hb) (by omega)
  have CP := hide fun (W : World) (hb : Below w.heap.size w W) => Counts_any W b _ col (hP.keep hb)
  have TP := hide fun (W : World) (hb : Below w.heap.size w W) (z : Int) => Tally_any W b _ col (hP.keep hb) z
  have WP := hide fun (W : World) (hb : Below w.heap.size w W) (z : Int) => walked_any W b _ col (hP.keep hb) z (-1)
  have C0 := hide fun (W : World) (hb : Below w.heap.size w W) => Count_pl W b _ col (hP.keep hb) 0
  have S0 := hide fun (W : World) (hb : Below w.heap.size w W) => State_pl W b _ col (hP.keep hb) 0
  have C1 := hide fun (W : World) (hb : Below w.heap.size w W) => Count_pl W b _ col (hP.keep hb) ((P.pg.length : Int) + 1)
  have S1 := hide fun (W : World) (hb : Below w.heap.size w W) => State_pl W b _ col (hP.keep hb) ((P.pg.length : Int) + 1)
  have LR := hide fun (W : World) (hb : Below w.heap.size w W) => qLen_any W q P F (hR.keep hb)
  have RR := hide fun (W : World) (hb : Below w.heap.size w W) => qRefs_any W q P F (hR.keep hb)
  have MR := hide fun (W : World) (hb : Below w.heap.size w W) => qMark_any W q P F (hR.keep hb)
  have CR := hide fun (W : World) (hb : Below w.heap.size w W) => qCounts_any W q P F (hR.keep hb)
  have PR := hide fun (W : World) (hb : Below w.heap.size w W) (z : Int) => qPages_any W q P F (hR.keep hb) z
  have PL := hide fun (z : Int) => Po.pages_len hP.ok z
  simp only [wl_all] at WP
  rw [count_out (.inl (by decide))] at C0
  rw [state_out (.inl (by decide))] at S0
  rw [count_out (.inr (by omega))] at C1
  rw [state_out (.inr (by omega))] at S1
  have HN0 := Po.counts_len' P
  obtain ⟨n, hn⟩ : ∃ n, P.pg.length = n := ⟨_, rfl⟩
  rw [hn] at LP C1 S1 LR hl HN0
  have HN := hide HN0
  clear hP hR hn HN0
  generalize P.mark = mk at *
  have e0 : ((mk : Int) != (mk : Int)) = false := by simp
  generalize Po.pages P = pg at *
  have e1 : ((n : Int) != (n : Int)) = false := by simp
  have e2 : (P.rf != P.rf) = false := by simp
  have B0 := hide (show Below w.heap.size w w from Below.refl _ _)
  go_enter Tryz.func11, Tryz.ntmps11
  go_wp2_with fail
  refine (LP.out _ B0.out).mono ?_
  rintro _ wq ⟨rfl, hwq⟩
  obtain rfl := hwq.symm
  go_wp2_with fail
  refine (LR.out _ B0.out).mono ?_
  rintro _ wq ⟨rfl, hwq⟩
  obtain rfl := hwq.symm
  go_wp2_with fail
  refine (RP.out _ B0.out).mono ?_
  rintro _ wq ⟨rfl, hwq⟩
  obtain rfl := hwq.symm
  go_wp2_with fail
  refine (RR.out _ B0.out).mono ?_
  rintro _ wq ⟨rfl, hwq⟩
  obtain rfl := hwq.symm
  go_wp2_with fail
  refine (MP.out _ B0.out).mono ?_
  rintro _ w1 ⟨rfl, hb⟩
  have B1 := hide (bt B0.out hb)
  clear hb
  go_wp2_with fail
  refine (MR.out _ B1.out).mono ?_
  rintro _ wq ⟨rfl, hwq⟩
  obtain rfl := hwq.symm
  go_wp2_with fail
  refine (CP.out _ B1.out).mono ?_
  rintro _ w2 ⟨a2, d2, rfl, hI⟩
  have R2 := hide hI.r
  have B2 := hide (bt B1.out hI.b)
  clear hI
  rw [HN.out]
  go_wp2_with fail
  refine (CR.out _ B2.out).mono ?_
  rintro _ w3 ⟨a3, d3, rfl, hI⟩
  have R3 := hide (R2.out.keep hI.b)
  have I3 := hide hI.r
  have B3 := hide (bt B2.out hI.b)
  clear hI R2
  rw [HN.out]
  have EQ := hide (EqInts_same w3 a2 a3 n n d2 d3 P.counts R3.out.ir I3.out.ir HN.out.symm HN.out.symm (by rw [HN.out]; omega))
  go_wp2_with fail
  refine EQ.out.mono ?_
  rintro _ w4 ⟨rfl, hb⟩
  have B4 := hide (bt B3.out hb)
  clear hb EQ R3 I3 B0 B1 B2 B3
  go_wp2_with fail
  go_loopw [5, 6] (fun i s wr => ∃ (j : Nat), j ≤ 6 ∧ i = .int .i64 (j : Int) ∧ Below w.heap.size w wr) (fun i _ _ => 6 - (intOf i).toNat)
  case atStart => exact ⟨0, Nat.zero_le _, rfl, B4.out⟩
  case round =>
    clear B4
    obtain ⟨j, hj, rfl, hb⟩ := hrel
    have B := hide hb
    clear hb
    by_cases hlt : j < 6
    · have d1 : decide ((j : Int) ≤ 5) = true := decide_eq_true (by omega)
      have hle : (j : Int) ≤ 5 := by omega
      have TP' := hide fun (W : World) (hb : Below w.heap.size w W) => TP.out W hb (j : Int)
      have WP' := hide fun (W : World) (hb : Below w.heap.size w W) => WP.out W hb (j : Int)
      have PR' := hide (PR.out _ B.out (j : Int))
      have hpl := PL.out (j : Int)
      generalize pg (j : Int) = L at *
      obtain ⟨m, hm⟩ : ∃ m, L.length = m := ⟨_, rfl⟩
      have HM := hide hm
      rw [hm] at hpl TP'
      clear hm
      go_wp2_with fail
      refine PR'.out.mono ?_
      rintro _ w5 ⟨a5, d5, rfl, hI⟩
      have R5 := hide hI.r
      have B5 := hide (bt B.out hI.b)
      clear hI PR'
      rw [HM.out]
      go_wp2_with fail
      refine (TP'.out _ B5.out).mono ?_
      rintro _ w6 ⟨rfl, hb⟩
      have R6 := hide (R5.out.keep hb)
      have B6 := hide (bt B5.out hb)
      clear hb R5 TP'
      have e3 : ((m : Int) != (m : Int)) = false := by simp
      go_wp2_with fail
      refine (WP'.out _ B6.out).mono ?_
      rintro _ w7 ⟨a7, d7, rfl, hI⟩
      have R7 := hide (R6.out.keep hI.b)
      have I7 := hide hI.r
      have B7 := hide (bt B6.out hI.b)
      clear hI R6 WP'
      rw [HM.out]
      have EQ := hide (EqInts_same w7 a7 a5 m m d7 d5 L I7.out.ir R7.out.ir HM.out.symm HM.out.symm (by rw [HM.out]; omega))
      go_wp2_with fail
      refine EQ.out.mono ?_
      rintro _ w8 ⟨rfl, hb⟩
      have B8 := hide (bt B7.out hb)
      clear hb EQ R7 I7 B5 B6 B7
      go_wp2
      go_roundw
      case rel => exact ⟨j + 1, by omega, by go_num, B8.out⟩
      case measure => simp [intOf]; omega
    · obtain rfl : j = 6 := by omega
      have s1 : IntKind.i64.wrap ((n : Int) + 1) = (n : Int) + 1 := wrapI (by omega) (by omega)
      have s2 : wrap64 ((n : Int) + 1) = (n : Int) + 1 := by unfold wrap64; omega
      go_wp2_with fail
      refine (C0.out _ B.out).mono ?_
      rintro _ wq ⟨rfl, hwq⟩
      obtain rfl := hwq.symm
      go_wp2_with fail
      refine (S0.out _ B.out).mono ?_
      rintro _ w5 ⟨rfl, hb⟩
      have B5 := hide (bt B.out hb)
      clear hb
      go_wp2_with fail
      refine (LR.out _ B5.out).mono ?_
      rintro _ wq ⟨rfl, hwq⟩
      obtain rfl := hwq.symm
      go_wp2_with fail
      refine (C1.out _ B5.out).mono ?_
      rintro _ wq ⟨rfl, hwq⟩
      obtain rfl := hwq.symm
      go_wp2_with fail
      refine (LR.out _ B5.out).mono ?_
      rintro _ wq ⟨rfl, hwq⟩
      obtain rfl := hwq.symm
      go_wp2_with fail
      refine (S1.out _ B5.out).mono ?_
      rintro _ w6 ⟨rfl, hb⟩
      have B6 := hide (bt B5.out hb)
      clear hb
      go_wp2
      go_ret
      exact ⟨rfl, B6.out⟩
end Go.Proofs.YtceeeofkigkpkaaGreat

namespace Go.Proofs.YtceeeofkigkpkaaGreat
set_option linter.unusedVariables false
open Go.RowKit

/-! ### what PoolAnswers holds -/
def far (w : World) (col : Nat → Nat) (F E : Nat → Prop) (a : Option Addr) : Prop := ∀ x, a = some x → w.heap.size ≤ x.block ∧ col x.block = 0 ∧ ¬ F x.block ∧ ¬ E x.block
/-- p with Pp, q with Pr; the marks M; the rows of lists U (kept) and V (wanted); E: the blocks of these lists -/
structure Zs (w W : World) (b q : Nat) (Pp Pr : Po) (col : Nat → Nat) (F E : Nat → Prop) (am : Option Addr) (cm : Nat) (M : List Int) (ak : Option Addr) (ck : Nat) (U : List Bi) (aw : Option Addr) (cw : Nat) (V : List Bi) : Prop where
  np : Np w W b Pp col
  rl : Rl W q Pr F
  f0 : ∀ k, F k → w.heap.size ≤ k ∧ col k = 0
  mg : Ig W am cm M
  m0 : far w col F E am
  kg : Ai W ak ck (U.map biv)
  k0 : far w col F E ak
  wg : Ai W aw cw (V.map biv)
  w0 : far w col F E aw
  kw : ∀ x y, ak = some x → aw = some y → x.block ≠ y.block
  fi : Fi w W U
  vr : ∀ v ∈ V, Ir W v.a v.l
  eu : ∀ u ∈ U, ∀ x, u.a = some x → E x.block
  ev : ∀ v ∈ V, ∀ x, v.a = some x → v.l ≠ [] → E x.block
  e0 : ∀ k, E k → w.heap.size ≤ k ∧ k < W.heap.size ∧ col k = 0 ∧ ¬ F k
  uv : V.map Bi.l = U.map Bi.l
  n40 : U.length ≤ 40
  len : ∀ u ∈ U, u.l.length ≤ 65536
theorem Ai.ltb {W : World} {a : Option Addr} {c : Nat} {vs : List Value} (h : Ai W a c vs) {x : Addr} (hx : a = some x) : x.block < W.heap.size := h.lt hx
theorem Ir.offb {S : Nat → Prop} {w w' : World} {a : Option Addr} {l : List Int} (h : Ir w a l) (hb : But S w w') (hn : ∀ x, a = some x → l ≠ [] → ¬ S x.block) : Ir w' a l := h.but hb hn
/-- what changes none of its memory -/
theorem Zs.but {S : Nat → Prop} {w W W' : World} {b q : Nat} {Pp Pr : Po} {col : Nat → Nat} {F E : Nat → Prop} {am : Option Addr} {cm : Nat} {M : List Int} {ak : Option Addr} {ck : Nat} {U : List Bi} {aw : Option Addr} {cw : Nat} {V : List Bi} (h : Zs w W b q Pp Pr col F E am cm M ak ck U aw cw V) (hb : But S W W') (hS : ∀ k, k < W.heap.size → S k → w.heap.size ≤ k ∧ col k = 0 ∧ ¬ F k ∧ ¬ E k ∧ (∀ x, am = some x → x.block ≠ k) ∧ (∀ x, ak = some x → x.block ≠ k) ∧ (∀ x, aw = some x → x.block ≠ k)) : Zs w W' b q Pp Pr col F E am cm M ak ck U aw cw V := by
  have B : But (fun k => k < W.heap.size ∧ S k) W W' := hb.mono fun k hk hs => ⟨hk, hs⟩
  refine ⟨⟨h.np.p.but B (fun k hk hs => hk (hS k hs.1 hs.2).2.1), ((But.ofBelow (S := fun _ => False) h.np.b).trans B (fun k hk hs => by have := (hS k hs.1 hs.2).1; omega)).below (fun _ _ h => h), h.np.n⟩, h.rl.but B (fun k hk hs => (hS k hs.1 hs.2).2.2.1 hk), h.f0, h.mg.but B (fun x hx hs => (hS _ hs.1 hs.2).2.2.2.2.1 x hx rfl), h.m0, h.kg.but B (fun x hx hs => (hS _ hs.1 hs.2).2.2.2.2.2.1 x hx rfl), h.k0, h.wg.but B (fun x hx hs => (hS _ hs.1 hs.2).2.2.2.2.2.2 x hx rfl), h.w0, h.kw, ?_, fun v hv => (h.vr v hv).offb B (fun x hx h0 hs => (hS _ hs.1 hs.2).2.2.2.1 (h.ev v hv x hx h0)), h.eu, h.ev, fun k hk => ⟨(h.e0 k hk).1, Nat.lt_of_lt_of_le (h.e0 k hk).2.1 hb.size, (h.e0 k hk).2.2⟩, h.uv, h.n40, h.len⟩
  exact h.fi.but B (((But.ofBelow (S := fun _ => False) h.np.b).trans B (fun k hk hs => by have := (hS k hs.1 hs.2).1; omega)).below (fun _ _ h => h)) (fun u hu x hx hs => (hS _ hs.1 hs.2).2.2.2.1 (h.eu u hu x hx))
theorem Zs.keep {w W W' : World} {b q : Nat} {Pp Pr : Po} {col : Nat → Nat} {F E : Nat → Prop} {am : Option Addr} {cm : Nat} {M : List Int} {ak : Option Addr} {ck : Nat} {U : List Bi} {aw : Option Addr} {cw : Nat} {V : List Bi} (h : Zs w W b q Pp Pr col F E am cm M ak ck U aw cw V) (hb : Below W.heap.size W W') : Zs w W' b q Pp Pr col F E am cm M ak ck U aw cw V :=
  h.but (S := fun _ => False) (But.ofBelow hb) (fun _ _ h => h.elim)
theorem far.col {w W : World} {col col' : Nat → Nat} {F E : Nat → Prop} {a : Option Addr} (h : far w col F E a) (hl : ∀ x, a = some x → x.block < W.heap.size) (hc : ∀ k, k < W.heap.size → col' k = col k) : far w col' F E a := fun x hx => by
  obtain ⟨h1, h2, h3⟩ := h x hx
  exact ⟨h1, (hc _ (hl x hx)).trans h2, h3⟩
theorem far.set {w W : World} {col : Nat → Nat} {F F' E : Nat → Prop} {a : Option Addr} (h : far w col F E a) (hl : ∀ x, a = some x → x.block < W.heap.size) (hf : ∀ k, k < W.heap.size → (F' k ↔ F k)) : far w col F' E a := fun x hx => by
  obtain ⟨h1, h2, h3, h4⟩ := h x hx
  exact ⟨h1, h2, fun e => h3 ((hf _ (hl x hx)).1 e), h4⟩
/-- the program's pool was asked -/
theorem Zs.asked {w W W' : World} {b q : Nat} {Pp Pr P' : Po} {col col' : Nat → Nat} {F E : Nat → Prop} {am : Option Addr} {cm : Nat} {M : List Int} {ak : Option Addr} {ck : Nat} {U : List Bi} {aw : Option Addr} {cw : Nat} {V : List Bi} (h : Zs w W b q Pp Pr col F E am cm M ak ck U aw cw V) (hp : Pl W' b P' col') (hf : Fr W col W' col') : Zs w W' b q P' Pr col' F E am cm M ak ck U aw cw V := by
  have cl : ∀ {a : Option Addr}, far w col F E a → ∀ x, a = some x → ¬ (col x.block ≠ 0) := fun h x hx e => e (h x hx).2.1
  refine ⟨h.np.step hp hf, h.rl.but hf.b (fun k hk e => e (h.f0 k hk).2), fun k hk => ⟨(h.f0 k hk).1, (hf.c k (h.rl.lt k hk)).trans (h.f0 k hk).2⟩, h.mg.but hf.b (cl h.m0), h.m0.col (fun x hx => h.mg.lt hx) hf.c, h.kg.but hf.b (cl h.k0), h.k0.col (fun x hx => h.kg.lt hx) hf.c, h.wg.but hf.b (cl h.w0), h.w0.col (fun x hx => h.wg.lt hx) hf.c, h.kw, h.fi.but hf.b (h.np.step hp hf).b (fun u hu x hx e => e (h.e0 _ (h.eu u hu x hx)).2.2.1), fun v hv => (h.vr v hv).offb hf.b (fun x hx h0 e => e (h.e0 _ (h.ev v hv x hx h0)).2.2.1), h.eu, h.ev, fun k hk => ⟨(h.e0 k hk).1, Nat.lt_of_lt_of_le (h.e0 k hk).2.1 hf.b.size, (hf.c k (h.e0 k hk).2.1).trans (h.e0 k hk).2.2.1, (h.e0 k hk).2.2.2⟩, h.uv, h.n40, h.len⟩
/-- the document's was -/
theorem Zs.told {w W W' : World} {b q : Nat} {Pp Pr P' : Po} {col : Nat → Nat} {F F' E : Nat → Prop} {am : Option Addr} {cm : Nat} {M : List Int} {ak : Option Addr} {ck : Nat} {U : List Bi} {aw : Option Addr} {cw : Nat} {V : List Bi} (h : Zs w W b q Pp Pr col F E am cm M ak ck U aw cw V) (hr : Rl W' q P' F') (hg : Gr W F W' F') : Zs w W' b q Pp P' col F' E am cm M ak ck U aw cw V := by
  have bl : Below w.heap.size w W' := ((But.ofBelow (S := fun _ => False) h.np.b).trans hg.b (fun k hk e => by have := (h.f0 k e).1; omega)).below (fun _ _ h => h)
  have nf : ∀ {a : Option Addr}, far w col F E a → ∀ x, a = some x → ¬ F x.block := fun h x hx => (h x hx).2.2.1
  refine ⟨⟨h.np.p.but hg.b (fun k hk e => hk (h.f0 k e).2), bl, h.np.n⟩, hr, fun k hk => ?_, h.mg.but hg.b (nf h.m0), h.m0.set (fun x hx => h.mg.lt hx) hg.f, h.kg.but hg.b (nf h.k0), h.k0.set (fun x hx => h.kg.lt hx) hg.f, h.wg.but hg.b (nf h.w0), h.w0.set (fun x hx => h.wg.lt hx) hg.f, h.kw, h.fi.but hg.b bl (fun u hu x hx => (h.e0 _ (h.eu u hu x hx)).2.2.2), fun v hv => (h.vr v hv).offb hg.b (fun x hx h0 => (h.e0 _ (h.ev v hv x hx h0)).2.2.2), h.eu, h.ev, fun k hk => ⟨(h.e0 k hk).1, Nat.lt_of_lt_of_le (h.e0 k hk).2.1 hg.b.size, (h.e0 k hk).2.2.1, fun e => (h.e0 k hk).2.2.2 ((hg.f k (h.e0 k hk).2.1).1 e)⟩, h.uv, h.n40, h.len⟩
  by_cases hk2 : k < W.heap.size
  · exact h.f0 k ((hg.f k hk2).1 hk)
  · refine ⟨by have := h.np.b.size; omega, ?_⟩
    by_cases e : col k = 0
    · exact e
    · exact absurd (h.np.p.lt k e) (by omega)
theorem undo_markq (P : Po) (z : Int) : (P.undo z).mark ≤ P.mark := by
  unfold Po.undo
  split
  · obtain ⟨b1, _, b3, _⟩ := Po.back_len ((P.mark : Int) - z).toNat P
    show (Po.back _ P).fl + (Po.back _ P).ac.length ≤ P.fl + P.ac.length
    rw [b1, b3]; omega
  · exact Nat.le_refl _
theorem askM_mark (P : Po) (M : List Int) (o : Ov) : (P.askM M o).2.mark ≤ P.mark + 1 := by
  unfold Po.askM
  split
  · exact ask_mark P o
  · exact Nat.le_succ_of_le (undo_markq P _)
theorem askM_len {P : Po} (h : P.Ok) (M : List Int) (o : Ov) : (P.askM M o).1.l.length ≤ 65536 := by
  unfold Po.askM
  split
  · exact ask_len h o
  · exact Nat.zero_le _
/-- a block that was made since B -/
structure Bf (B W : World) (col : Nat → Nat) (F : Nat → Prop) (g : Nat) : Prop where
  b : B.heap.size ≤ g
  l : g < W.heap.size
  c : col g = 0
  f : ¬ F g
theorem Bf.keep {B W W' : World} {col : Nat → Nat} {F : Nat → Prop} {g : Nat} (h : Bf B W col F g) (hb : Below W.heap.size W W') : Bf B W' col F g := ⟨h.b, Nat.lt_of_lt_of_le h.l hb.size, h.c, h.f⟩
theorem Bf.asked {B W W' : World} {col col' : Nat → Nat} {F : Nat → Prop} {g : Nat} (h : Bf B W col F g) (hf : Fr W col W' col') : Bf B W' col' F g := ⟨h.b, Nat.lt_of_lt_of_le h.l hf.b.size, (hf.c g h.l).trans h.c, h.f⟩
theorem Bf.told {B W W' : World} {col : Nat → Nat} {F F' : Nat → Prop} {g : Nat} (h : Bf B W col F g) (hg : Gr W F W' F') : Bf B W' col F' g := ⟨h.b, Nat.lt_of_lt_of_le h.l hg.b.size, h.c, fun e => h.f ((hg.f g h.l).1 e)⟩
theorem Zs.new {w B W : World} {b q : Nat} {Pp Pr : Po} {col : Nat → Nat} {F E : Nat → Prop} {am : Option Addr} {cm : Nat} {M : List Int} {ak : Option Addr} {ck : Nat} {U : List Bi} {aw : Option Addr} {cw : Nat} {V : List Bi} (h : Zs w W b q Pp Pr col F E am cm M ak ck U aw cw V) (hB : B.heap.size ≤ W.heap.size) (o : Obj) : Bf B (W.alloc o) col F W.heap.size :=
  ⟨hB, by rw [size_alloc]; omega, h.np.away (Nat.le_refl _), fun e => by have := h.rl.lt _ e; omega⟩
/-- an answer's list: where it lies -/
def Af (B W : World) (col : Nat → Nat) (F : Nat → Prop) (a : Option Addr) : Prop := ∀ x, a = some x → Bf B W col F x.block
theorem Af.keep {B W W' : World} {col : Nat → Nat} {F : Nat → Prop} {a : Option Addr} (h : Af B W col F a) (hb : Below W.heap.size W W') : Af B W' col F a := fun x hx => (h x hx).keep hb
theorem Af.told {B W W' : World} {col : Nat → Nat} {F F' : Nat → Prop} {a : Option Addr} (h : Af B W col F a) (hg : Gr W F W' F') : Af B W' col F' a := fun x hx => (h x hx).told hg
/-- what lies there behind both calls -/
structure Qz (w B W : World) (b q : Nat) (P : Po) (col : Nat → Nat) (F E : Nat → Prop) (am : Option Addr) (cm : Nat) (M : List Int) (ak : Option Addr) (ck : Nat) (U : List Bi) (aw : Option Addr) (cw : Nat) (V : List Bi) (A : An) (g h : Nat) (a : Option Addr) (c : Nat) (d : Option Addr) (e : Nat) : Prop where
  z : Zs w W b q P P col F E am cm M ak ck U aw cw V
  s : B.heap.size ≤ W.heap.size
  x : W.heap[g]? = some (.cells #[.int .i64 A.n, .int .i64 A.m, .bool A.is, .slice a A.l.length c, .int .i64 A.e] 34 (0, 0))
  y : W.heap[h]? = some (.cells #[.int .i64 A.n, .int .i64 A.m, .bool A.is, .slice d A.l.length e, .int .i64 A.e] 34 (0, 0))
  i : Ig W a c A.l
  ia : Af B W col F a
  j : Ir W d A.l
  jd : Af B W col F d
/-- the rows that were held ahead of the round lie below B -/
structure Lo (B : World) (E : Nat → Prop) (am ak aw : Option Addr) : Prop where
  m : ∀ x, am = some x → x.block < B.heap.size
  k : ∀ x, ak = some x → x.block < B.heap.size
  w : ∀ x, aw = some x → x.block < B.heap.size
  e : ∀ k, E k → k < B.heap.size
theorem Zs.lo {w W : World} {b q : Nat} {Pp Pr : Po} {col : Nat → Nat} {F E : Nat → Prop} {am : Option Addr} {cm : Nat} {M : List Int} {ak : Option Addr} {ck : Nat} {U : List Bi} {aw : Option Addr} {cw : Nat} {V : List Bi} (h : Zs w W b q Pp Pr col F E am cm M ak ck U aw cw V) : Lo W E am ak aw := ⟨fun x hx => h.mg.lt hx, fun x hx => h.kg.lt hx, fun x hx => h.wg.lt hx, fun k hk => (h.e0 k hk).2.1⟩
theorem Qz.fin {w B W : World} {b q : Nat} {P : Po} {col : Nat → Nat} {F E : Nat → Prop} {am : Option Addr} {cm : Nat} {M : List Int} {ak : Option Addr} {ck : Nat} {U : List Bi} {aw : Option Addr} {cw : Nat} {V : List Bi} {A : An} {g h : Nat} {a : Option Addr} {c : Nat} {d : Option Addr} {e : Nat} {o1 o2 : Array Value}
    (hz : Zs w W b q P P col F E am cm M ak ck U aw cw V) (hlo : Lo B E am ak aw) (hwB : w.heap.size ≤ B.heap.size) (hg : Bf B W col F g) (hh : Bf B W col F h) (gx : W.heap[g]? = some (.cells o1 34 (0, 0))) (hx : W.heap[h]? = some (.cells o2 34 (0, 0))) (ne : g ≠ h) (i : Ig W a c A.l) (ia : Af B W col F a) (j : Ir W d A.l) (jd : Af B W col F d)
    (n1 : ∀ x, a = some x → x.block ≠ g ∧ x.block ≠ h) (n2 : ∀ x, d = some x → x.block ≠ g ∧ x.block ≠ h) :
    Qz w B ((W.setRow g #[.int .i64 A.n, .int .i64 A.m, .bool A.is, .slice a A.l.length c, .int .i64 A.e]).setRow h #[.int .i64 A.n, .int .i64 A.m, .bool A.is, .slice d A.l.length e, .int .i64 A.e]) b q P col F E am cm M ak ck U aw cw V A g h a c d e := by
  have B1 := setRow_but W g #[.int .i64 A.n, .int .i64 A.m, .bool A.is, .slice a A.l.length c, .int .i64 A.e]
  have B2 := setRow_but (W.setRow g #[.int .i64 A.n, .int .i64 A.m, .bool A.is, .slice a A.l.length c, .int .i64 A.e]) h #[.int .i64 A.n, .int .i64 A.m, .bool A.is, .slice d A.l.length e, .int .i64 A.e]
  have BB := (B1.mono (T := fun k => k = g ∨ k = h) fun _ _ e => .inl e).trans B2 (fun _ _ e => .inr e)
  have hhx := B1.same hx (fun e => ne e.symm)
  have ok : ∀ {k : Nat}, Bf B W col F k → w.heap.size ≤ k ∧ col k = 0 ∧ ¬ F k ∧ ¬ E k ∧ (∀ x, am = some x → x.block ≠ k) ∧ (∀ x, ak = some x → x.block ≠ k) ∧ (∀ x, aw = some x → x.block ≠ k) := fun hk => ⟨Nat.le_trans hwB hk.b, hk.c, hk.f, fun e => by have := hlo.e _ e; have := hk.b; omega, fun x hx e => by have := hlo.m x hx; have := hk.b; omega, fun x hx e => by have := hlo.k x hx; have := hk.b; omega, fun x hx e => by have := hlo.w x hx; have := hk.b; omega⟩
  refine ⟨hz.but BB (fun k hk e => ?_), Nat.le_trans (Nat.le_trans hg.b (Nat.le_of_lt hg.l)) BB.size, ?_, setRow_heap _ _ _ _ _ _ hhx, i.but BB (fun x hx e => ?_), fun x hx => ?_, j.offb BB (fun x hx _ e => ?_), fun x hx => ?_⟩
  · rcases e with rfl | rfl
    · exact ok hg
    · exact ok hh
  · exact B2.same (setRow_heap _ _ _ _ _ _ gx) ne
  · rcases e with e | e
    · exact (n1 x hx).1 e
    · exact (n1 x hx).2 e
  · exact ⟨(ia x hx).b, Nat.lt_of_lt_of_le (ia x hx).l BB.size, (ia x hx).c, (ia x hx).f⟩
  · rcases e with e | e
    · exact (n2 x hx).1 e
    · exact (n2 x hx).2 e
  · exact ⟨(jd x hx).b, Nat.lt_of_lt_of_le (jd x hx).l BB.size, (jd x hx).c, (jd x hx).f⟩
end Go.Proofs.YtceeeofkigkpkaaGreat

namespace Go.Proofs.YtceeeofkigkpkaaGreat
set_option linter.unusedVariables false
open Go.RowKit

/-! ### the law's own rows grow -/
theorem Qz.keep {w B W W' : World} {b q : Nat} {P : Po} {col : Nat → Nat} {F E : Nat → Prop} {am : Option Addr} {cm : Nat} {M : List Int} {ak : Option Addr} {ck : Nat} {U : List Bi} {aw : Option Addr} {cw : Nat} {V : List Bi} {A : An} {g h : Nat} {a : Option Addr} {c : Nat} {d : Option Addr} {e : Nat} (H : Qz w B W b q P col F E am cm M ak ck U aw cw V A g h a c d e) (hb : Below W.heap.size W W') : Qz w B W' b q P col F E am cm M ak ck U aw cw V A g h a c d e :=
  ⟨H.z.keep hb, Nat.le_trans H.s hb.size, (hb.block _ (Array.getElem?_eq_some_iff.1 H.x).1).trans H.x, (hb.block _ (Array.getElem?_eq_some_iff.1 H.y).1).trans H.y, H.i.keep hb, H.ia.keep hb, H.j.keep hb, H.jd.keep hb⟩
theorem five {W : World} {g : Nat} {v0 v1 v2 v3 v4 : Value} {t : TypeId} (h : W.heap[g]? = some (.cells #[v0, v1, v2, v3, v4] t (0, 0))) : W.cell? ⟨g, 0, none⟩ = some v0 ∧ W.cell? ⟨g, 1, none⟩ = some v1 ∧ W.cell? ⟨g, 2, none⟩ = some v2 ∧ W.cell? ⟨g, 3, none⟩ = some v3 ∧ W.cell? ⟨g, 4, none⟩ = some v4 := by
  rw [cell_of_row _ _ _ _ _ _ h, cell_of_row _ _ _ _ _ _ h, cell_of_row _ _ _ _ _ _ h, cell_of_row _ _ _ _ _ _ h, cell_of_row _ _ _ _ _ _ h]
  exact ⟨rfl, rfl, rfl, rfl, rfl⟩
/-- where a row that was appended to lies -/
theorem far.grow {w W W1 : World} {col : Nat → Nat} {F E : Nat → Prop} {a : Option Addr} {g : Nat} (h : far w col F E a) (hw : w.heap.size ≤ W.heap.size) (h1 : W.heap.size ≤ W1.heap.size) (hc : ∀ k, W.heap.size ≤ k → col k = 0 ∧ ¬ F k ∧ ¬ E k) (hN : New W1 a (some ⟨g, 0, none⟩)) : far w col F E (some ⟨g, 0, none⟩) ∧ ((∃ y, a = some y ∧ y.block = g) ∨ W.heap.size ≤ g) := by
  rcases hN ⟨g, 0, none⟩ rfl with ⟨y, hy, e⟩ | h2
  · have e : y.block = g := e
    refine ⟨fun x hx => ?_, .inl ⟨y, hy, e⟩⟩
    cases hx
    rw [show ({ block := g, off := 0, spot := none } : Addr).block = y.block from e.symm]
    exact h y hy
  · have h2 : W1.heap.size ≤ g := h2
    refine ⟨fun x hx => ?_, .inr (by omega)⟩
    cases hx
    exact ⟨by show w.heap.size ≤ g; omega, hc g (by omega)⟩
theorem Zs.above {w W : World} {b q : Nat} {Pp Pr : Po} {col : Nat → Nat} {F E : Nat → Prop} {am : Option Addr} {cm : Nat} {M : List Int} {ak : Option Addr} {ck : Nat} {U : List Bi} {aw : Option Addr} {cw : Nat} {V : List Bi} (h : Zs w W b q Pp Pr col F E am cm M ak ck U aw cw V) : ∀ k, W.heap.size ≤ k → col k = 0 ∧ ¬ F k ∧ ¬ E k := fun k hk =>
  ⟨h.np.away hk, fun e => by have := h.rl.lt _ e; omega, fun e => by have := (h.e0 k e).2.1; omega⟩
theorem Zs.tm {w W : World} {b q : Nat} {Pp Pr : Po} {col : Nat → Nat} {F E : Nat → Prop} {am : Option Addr} {cm : Nat} {M : List Int} {ak : Option Addr} {ck : Nat} {U : List Bi} {aw : Option Addr} {cw : Nat} {V : List Bi} (h : Zs w W b q Pp Pr col F E am cm M ak ck U aw cw V) {x y : Addr} (hx : am = some x) (hy : ak = some y ∨ aw = some y) : x.block ≠ y.block := by
  intro e
  rcases hy with hy | hy
  · exact h.kg.ne h.mg hy hx e.symm
  · exact h.wg.ne h.mg hy hx e.symm
/-- a mark more -/
theorem Zs.mark {w W W1 W2 : World} {b q : Nat} {Pp Pr : Po} {col : Nat → Nat} {F E : Nat → Prop} {am : Option Addr} {cm : Nat} {M M2 : List Int} {ak : Option Addr} {ck : Nat} {U : List Bi} {aw : Option Addr} {cw : Nat} {V : List Bi} (h : Zs w W b q Pp Pr col F E am cm M ak ck U aw cw V) (h1 : Below W.heap.size W W1) {g c2 : Nat} (hR : Ig W2 (some ⟨g, 0, none⟩) c2 M2) (hN : New W1 am (some ⟨g, 0, none⟩)) (hb : But (InA am) W1 W2) : Zs w W2 b q Pp Pr col F E (some ⟨g, 0, none⟩) c2 M2 ak ck U aw cw V := by
  have B : But (InA am) W W2 := (But.ofBelow (S := InA am) h1).trans hb (fun _ _ e => e)
  have bl : Below w.heap.size w W2 := ((But.ofBelow (S := fun _ => False) h.np.b).trans B (fun k hk ⟨x, hx, e⟩ => by have := (h.m0 x hx).1; omega)).below (fun _ _ h => h)
  obtain ⟨f1, f2⟩ := h.m0.grow h.np.b.size h1.size h.above hN
  refine ⟨⟨h.np.p.but B (fun k hk ⟨x, hx, e⟩ => hk (by rw [← e]; exact (h.m0 x hx).2.1)), bl, h.np.n⟩, h.rl.but B (fun k hk ⟨x, hx, e⟩ => (h.m0 x hx).2.2.1 (by rw [e]; exact hk)), h.f0, hR, f1, h.kg.but B (fun y hy ⟨x, hx, e⟩ => h.tm hx (.inl hy) e), h.k0, h.wg.but B (fun y hy ⟨x, hx, e⟩ => h.tm hx (.inr hy) e), h.w0, h.kw, h.fi.but B bl (fun u hu y hy ⟨x, hx, e⟩ => (h.m0 x hx).2.2.2 (by rw [e]; exact h.eu u hu y hy)), fun v hv => (h.vr v hv).offb B (fun y hy h0 ⟨x, hx, e⟩ => (h.m0 x hx).2.2.2 (by rw [e]; exact h.ev v hv y hy h0)), h.eu, h.ev, fun k hk => ⟨(h.e0 k hk).1, Nat.lt_of_lt_of_le (h.e0 k hk).2.1 B.size, (h.e0 k hk).2.2⟩, h.uv, h.n40, h.len⟩
/-- a list more in each row -/
theorem Zs.both {w B W W1 W2 W3 W4 : World} {b q : Nat} {P : Po} {col : Nat → Nat} {F E : Nat → Prop} {am : Option Addr} {cm : Nat} {M : List Int} {ak : Option Addr} {ck : Nat} {U : List Bi} {aw : Option Addr} {cw : Nat} {V : List Bi} {l : List Int} {a1 a2 : Option Addr} {d1 d2 : Nat}
    (h : Zs w W b q P P col F E am cm M ak ck U aw cw V) (hlo : Lo B E am ak aw) (hs : w.heap.size ≤ B.heap.size) (i : Ig W a1 d1 l) (ia : Af B W col F a1) (j : Ir W a2 l) (jd : Af B W col F a2)
    (h1 : Below W.heap.size W W1) {g c2 : Nat} (hR : Ai W2 (some ⟨g, 0, none⟩) c2 (U.map biv ++ [.slice a1 l.length d1])) (hN : New W1 ak (some ⟨g, 0, none⟩)) (hb : But (InA ak) W1 W2)
    (h3 : Below W2.heap.size W2 W3) {g' c3 : Nat} (hR' : Ai W4 (some ⟨g', 0, none⟩) c3 (V.map biv ++ [.slice a2 l.length d2])) (hN' : New W3 aw (some ⟨g', 0, none⟩)) (hb' : But (InA aw) W3 W4) (h40 : U.length < 40) (hl : l.length ≤ 65536) :
    Zs w W4 b q P P col F (fun k => E k ∨ (∃ x, a1 = some x ∧ x.block = k) ∨ (l ≠ [] ∧ ∃ x, a2 = some x ∧ x.block = k)) am cm M (some ⟨g, 0, none⟩) c2 (U ++ [⟨a1, d1, l⟩]) (some ⟨g', 0, none⟩) c3 (V ++ [⟨a2, d2, l⟩]) := by
  have B1 : But (InA ak) W W2 := (But.ofBelow (S := InA ak) h1).trans hb (fun _ _ e => e)
  have B2 : But (InA aw) W2 W4 := (But.ofBelow (S := InA aw) h3).trans hb' (fun _ _ e => e)
  have BB : But (fun k => InA ak k ∨ InA aw k) W W4 := (B1.mono (T := fun k => InA ak k ∨ InA aw k) fun _ _ e => .inl e).trans B2 (fun _ _ e => .inr e)
  have ok : ∀ {k : Nat}, (InA ak k ∨ InA aw k) → w.heap.size ≤ k ∧ col k = 0 ∧ ¬ F k ∧ ¬ E k ∧ k < B.heap.size := fun {k} e => by
    rcases e with ⟨x, hx, rfl⟩ | ⟨x, hx, rfl⟩
    · obtain ⟨p1, p2, p3, p4⟩ := h.k0 x hx
      exact ⟨p1, p2, p3, p4, hlo.k x hx⟩
    · obtain ⟨p1, p2, p3, p4⟩ := h.w0 x hx
      exact ⟨p1, p2, p3, p4, hlo.w x hx⟩
  have bl : Below w.heap.size w W4 := ((But.ofBelow (S := fun _ => False) h.np.b).trans BB (fun k hk e => by have := (ok e).1; omega)).below (fun _ _ h => h)
  have hE : ∀ k, (E k ∨ (∃ x, a1 = some x ∧ x.block = k) ∨ (l ≠ [] ∧ ∃ x, a2 = some x ∧ x.block = k)) → w.heap.size ≤ k ∧ k < W.heap.size ∧ col k = 0 ∧ ¬ F k := fun k e => by
    rcases e with e | ⟨x, hx, rfl⟩ | ⟨-, x, hx, rfl⟩
    · exact h.e0 k e
    · obtain ⟨p1, p2, p3, p4⟩ := ia x hx
      exact ⟨by omega, p2, p3, p4⟩
    · obtain ⟨p1, p2, p3, p4⟩ := jd x hx
      exact ⟨by omega, p2, p3, p4⟩
  have nE : ∀ {k : Nat}, k < B.heap.size → ¬ E k → ¬ (E k ∨ (∃ x, a1 = some x ∧ x.block = k) ∨ (l ≠ [] ∧ ∃ x, a2 = some x ∧ x.block = k)) := fun {k} hk hn e => by
    rcases e with e | ⟨x, hx, rfl⟩ | ⟨-, x, hx, rfl⟩
    · exact hn e
    · have := (ia x hx).b; omega
    · have := (jd x hx).b; omega
  have up : ∀ {k : Nat}, W.heap.size ≤ k → w.heap.size ≤ k ∧ col k = 0 ∧ ¬ F k ∧ ¬ (E k ∨ (∃ x, a1 = some x ∧ x.block = k) ∨ (l ≠ [] ∧ ∃ x, a2 = some x ∧ x.block = k)) := fun {k} hk => by
    have p := h.above k hk
    have := h.np.b.size
    exact ⟨by omega, p.1, p.2.1, fun e => by have := (hE k e).2.1; omega⟩
  have kF : far w col F (fun k => E k ∨ (∃ x, a1 = some x ∧ x.block = k) ∨ (l ≠ [] ∧ ∃ x, a2 = some x ∧ x.block = k)) (some ⟨g, 0, none⟩) ∧ ((∃ y, ak = some y ∧ y.block = g) ∨ W1.heap.size ≤ g) := by
    rcases hN ⟨g, 0, none⟩ rfl with ⟨y, hy, e⟩ | h2
    · have e : y.block = g := e
      subst e
      refine ⟨fun x hx => ?_, .inl ⟨y, hy, rfl⟩⟩
      cases hx
      obtain ⟨p1, p2, p3, p4⟩ := h.k0 y hy
      exact ⟨p1, p2, p3, nE (hlo.k y hy) p4⟩
    · have h2 : W1.heap.size ≤ g := h2
      refine ⟨fun x hx => ?_, .inr h2⟩
      cases hx
      exact up (Nat.le_trans h1.size h2)
  have wF : far w col F (fun k => E k ∨ (∃ x, a1 = some x ∧ x.block = k) ∨ (l ≠ [] ∧ ∃ x, a2 = some x ∧ x.block = k)) (some ⟨g', 0, none⟩) ∧ ((∃ y, aw = some y ∧ y.block = g') ∨ W2.heap.size ≤ g') := by
    rcases hN' ⟨g', 0, none⟩ rfl with ⟨y, hy, e⟩ | h2
    · have e : y.block = g' := e
      subst e
      refine ⟨fun x hx => ?_, .inl ⟨y, hy, rfl⟩⟩
      cases hx
      obtain ⟨p1, p2, p3, p4⟩ := h.w0 y hy
      exact ⟨p1, p2, p3, nE (hlo.w y hy) p4⟩
    · have h2 : W3.heap.size ≤ g' := h2
      have h4 := h3.size
      refine ⟨fun x hx => ?_, .inr (by omega)⟩
      cases hx
      exact up (Nat.le_trans B1.size (by omega))
  have gl : g < W2.heap.size := hR.lt rfl
  have gg : g ≠ g' := by
    rcases wF.2 with ⟨y, hy, e⟩ | h2
    · rcases kF.2 with ⟨z, hz, e2⟩ | h3
      · rw [← e, ← e2]; exact h.kw z y hz hy
      · have := hlo.w y hy
        have := h.wg.lt hy
        have := h1.size
        omega
    · omega
  refine ⟨⟨h.np.p.but BB (fun k hk e => hk (ok e).2.1), bl, h.np.n⟩, h.rl.but BB (fun k hk e => (ok e).2.2.1 hk), h.f0, h.mg.but BB (fun x hx e => ?_), fun x hx => ?_, ?_, kF.1, ?_, wF.1, fun x y hx hy => by cases hx; cases hy; exact gg, ⟨fun u hu => ?_, ?_⟩, fun v hv => ?_, fun u hu x hx => ?_, fun v hv x hx h0 => ?_, fun k hk => ?_, ?_, ?_, fun u hu => ?_⟩
  · rcases e with ⟨y, hy, e⟩ | ⟨y, hy, e⟩
    · exact h.tm hx (.inl hy) e.symm
    · exact h.tm hx (.inr hy) e.symm
  · obtain ⟨p1, p2, p3, p4⟩ := h.m0 x hx
    exact ⟨p1, p2, p3, nE (hlo.m x hx) p4⟩
  · rw [List.map_append]
    refine hR.but B2 (fun x hx ⟨y, hy, e⟩ => ?_)
    cases hx
    have e : y.block = g := e
    rcases kF.2 with ⟨z, hz, e2⟩ | h3
    · exact h.kw z y hz hy (by rw [e2, e])
    · have := h.wg.lt hy
      have := h1.size
      omega
  · rw [List.map_append]; exact hR'
  · rcases List.mem_append.1 hu with hu | hu
    · have o := h.fi.own u hu
      exact ⟨o.r.but BB (fun x hx e => (ok e).2.2.2.1 (h.eu u hu x hx)), o.n, bl⟩
    · rw [List.mem_singleton] at hu
      subst hu
      exact ⟨i.but BB (fun x hx e => by have := (ok e).2.2.2.2; have := (ia x hx).b; omega), fun x hx => .inr (by have := (ia x hx).b; omega), bl⟩
  · refine List.pairwise_append.2 ⟨h.fi.dist, List.pairwise_singleton _ _, fun s hs' t ht x y hx hy e => ?_⟩
    rw [List.mem_singleton] at ht
    subst ht
    have := hlo.e _ (h.eu s hs' x hx)
    have := (ia y hy).b
    omega
  · rcases List.mem_append.1 hv with hv | hv
    · exact (h.vr v hv).offb BB (fun x hx h0 e => (ok e).2.2.2.1 (h.ev v hv x hx h0))
    · rw [List.mem_singleton] at hv
      subst hv
      exact j.offb BB (fun x hx _ e => by have := (ok e).2.2.2.2; have := (jd x hx).b; omega)
  · rcases List.mem_append.1 hu with hu | hu
    · exact .inl (h.eu u hu x hx)
    · rw [List.mem_singleton] at hu
      subst hu
      exact .inr (.inl ⟨x, hx, rfl⟩)
  · rcases List.mem_append.1 hv with hv | hv
    · exact .inl (h.ev v hv x hx h0)
    · rw [List.mem_singleton] at hv
      subst hv
      exact .inr (.inr ⟨h0, x, hx, rfl⟩)
  · obtain ⟨p1, p2, p3⟩ := hE k hk
    exact ⟨p1, Nat.lt_of_lt_of_le p2 BB.size, p3⟩
  · rw [List.map_append, List.map_append, h.uv]; rfl
  · rw [List.length_append]; exact h40
  · rcases List.mem_append.1 hu with hu | hu
    · exact h.len u hu
    · rw [List.mem_singleton] at hu
      subst hu
      exact hl
theorem Fi.apart2 (w B0 : World) (U : List Bi) (a : Option Addr) (ct n : Nat) (hn' : n = U.length) (hf : Fi B0 w U) (hA : Ai w a ct (U.map biv)) (hn : U.length ≤ 5864062014636) (hl : ∀ u ∈ U, u.l.length ≤ 268435436) :
    Calls Tryz.prog 10 #[.slice a n ct] w fun x w' => x = .returned (.bool true) ∧ But (fun k => ∃ u ∈ U, ∃ x, u.a = some x ∧ x.block = k) w w' := by
  subst hn'
  have hv : U.map biv = (List.range U.length).map (fun i => Value.slice (U.getD i Bi0).a (U.getD i Bi0).l.length (U.getD i Bi0).c) := by
    apply List.ext_getElem?
    intro i
    by_cases hi : i < U.length
    · simp [hi, biv]
    · rw [List.getElem?_eq_none (by rw [List.length_map]; omega), List.getElem?_eq_none (by rw [List.length_map, List.length_range]; omega)]
  rw [hv] at hA
  have hmem : ∀ i, i < U.length → U.getD i Bi0 ∈ U := fun i hi => by simp [hi]
  refine (ApartInts_some w a ct U.length _ _ _ hA (fun i hi => (hf.own _ (hmem i hi)).r) (fun i j hi hj hne x y hx hy => ?_) hn fun i hi => hl _ (hmem i hi)).mono ?_
  · have hp := List.pairwise_iff_getElem.1 hf.dist
    have ei : U.getD i Bi0 = U[i] := by simp [hi]
    have ej : U.getD j Bi0 = U[j] := by simp [hj]
    rw [ei] at hx
    rw [ej] at hy
    rcases Nat.lt_or_gt_of_ne hne with h1 | h1
    · exact hp i j hi hj h1 x y hx hy
    · exact fun e => hp j i hj hi h1 y x hy hx e.symm
  · rintro x w' ⟨rfl, hbut⟩
    exact ⟨rfl, hbut.mono fun k _ ⟨i, hi, y, hy, e⟩ => ⟨_, hmem i hi, y, hy, e⟩⟩
end Go.Proofs.YtceeeofkigkpkaaGreat
