import Derived.Test.YticcpkdhfdefpaaNYK
namespace Go.Proofs.Yticcpkdhfdefpaa
open Go.RowKit

theorem infoIntL : (Try.prog.info? 22).map (fun i => (i.zero, i.size, i.bytes)) = some (some (.slice none 0 0), 1, 24) := by kernel_rfl

/-- one byte is appended: in place, or the old memory is as it was -/
theorem run_apI' (w : World) (ty : TypeId) (a : Option Addr) (n cap : Nat) (l : List Int) (hn : n = l.length) (hR : Ig w a cap l) (ad : Addr) (c : Nat) (x : Int) (hc : w.cell? ad = some (.int .i64 x)) (hlen : l.length + 1 ≤ 268435457) :
    ∃ g cap' w', (Builtin.append_ #[22, 22] ty #[.slice a n cap, .slice (some ad) 1 c]).run Try.prog w = .ok (.slice (some ⟨g, 0, none⟩) (n + 1) cap') w' ∧
      Ig w' (some ⟨g, 0, none⟩) cap' (l ++ [x]) ∧ New w a (some ⟨g, 0, none⟩) ∧ w.grownBy w' (a.map Addr.block) ∧ (a = some ⟨g, 0, none⟩ ∨ w.heap.size ≤ g ∧ Below w.heap.size w w') := by
  obtain ⟨g, cap', w', hr, h1, h2, h3, h4⟩ := run_apI w ty a n cap l hn hR ad c x hc (by omega)
  refine ⟨g, cap', w', hr, h1, h2, h3, ?_⟩
  subst hn
  obtain ⟨i0, hi, hz0, hz1, hz2⟩ := info_parts infoI64
  have hnews : ∀ j u, ([.int .i64 x] : List Value)[j]? = some u → w.cell? (ad.add j) = some u := by
    intro j u hj
    match j, hj with
    | 0, hj => simp at hj; subst hj; simpa [Addr.add] using hc
  rcases hR.cases with ⟨rfl, rfl, rfl⟩ | ⟨g', cur, rfl, hg, k1, k2, k3, k4⟩
  · have hr2 := run_append_nil (P := Try.prog) w 22 ty 3 i0 (.int .i64 0) Try.underlying22 hi hz0 ad 1 c [.int .i64 x] (by rw [hz1]; rfl) hnews (by decide) (by decide) (by rw [hz2]; decide)
    rw [show ([] : List Int).length = 0 from rfl, hr2] at hr
    simp only [Result.ok.injEq, Value.slice.injEq, Option.some.injEq, Addr.mk.injEq] at hr
    obtain ⟨⟨⟨rfl, _⟩, _⟩, rfl⟩ := hr
    exact .inr ⟨Nat.le_refl _, ⟨rfl, rfl, rfl, by simp, fun k hk => heap_alloc_old w.drew _ hk⟩⟩
  · by_cases hroom : l.length + 1 ≤ cap
    · have hr2 := run_append_room (P := Try.prog) w 22 ty 3 i0 Try.underlying22 hi g' l.length cap cur hg ad 1 c [.int .i64 x] (by rw [hz1]; rfl) hnews (by intro u hu; simp at hu; subst hu; rfl) hroom (by rw [hz1]; show l.length * 1 + 1 ≤ cur.size; omega)
      rw [hr2] at hr
      simp only [Result.ok.injEq, Value.slice.injEq, Option.some.injEq, Addr.mk.injEq] at hr
      obtain ⟨⟨⟨rfl, _⟩, _⟩, rfl⟩ := hr
      exact .inl rfl
    · have holds : ∀ j u, (vi l)[j]? = some u → w.cell? ((⟨g', 0, none⟩ : Addr).add j) = some u := hR.cells (g := g') rfl
      have hr2 := run_append_grow (P := Try.prog) w 22 ty 3 i0 (.int .i64 0) Try.underlying22 hi hz0 ⟨g', 0, none⟩ l.length cap (vi l) (by rw [vi_length, hz1, Nat.mul_one]) holds ad 1 c [.int .i64 x] (by rw [hz1]; rfl) hnews (by omega) (by omega) (growslice_fits (by omega) (by rw [hz2]; omega))
      rw [hr2] at hr
      simp only [Result.ok.injEq, Value.slice.injEq, Option.some.injEq, Addr.mk.injEq] at hr
      obtain ⟨⟨⟨rfl, _⟩, _⟩, rfl⟩ := hr
      exact .inr ⟨Nat.le_refl _, ⟨rfl, rfl, rfl, by simp, fun k hk => heap_alloc_old w.drew _ hk⟩⟩
theorem wpList_apI' {w : World} {ops : Array Oper} {rest : List Oper} {o : Oper} {a : Act} {Q : Exit → Act → World → Prop} (hgd : o.guard = none) (s x : Operand)
    (ho : o.op = .call { callee := .builtin .append, args := #[s, x], argTypes := #[22, 22] }) (ao : Option Addr) (n cap : Nat) (l : List Int) (hs : a.eval s = .slice ao n cap) (hn : n = l.length) (hR : Ig w ao cap l)
    (ad : Addr) (c : Nat) (xx : Int) (hx : a.eval x = .slice (some ad) 1 c) (hc : w.cell? ad = some (.int .i64 xx)) (hlen : l.length + 1 ≤ 268435457)
    (h : ∀ g cap' w', Ig w' (some ⟨g, 0, none⟩) cap' (l ++ [xx]) → New w ao (some ⟨g, 0, none⟩) → w.grownBy w' (ao.map Addr.block) → (ao = some ⟨g, 0, none⟩ ∨ w.heap.size ≤ g ∧ Below w.heap.size w w') → wpList Try.prog ops Q rest (a.put o.dst (.slice (some ⟨g, 0, none⟩) (n + 1) cap')) w') : wpList Try.prog ops Q (o :: rest) a w := by
  refine wpList_plain hgd fun K hK => ?_
  obtain ⟨g, cap', w', hr, h1, h2, h3, h4⟩ := run_apI' w o.type ao n cap l hn hR ad c xx hc hlen
  unfold Oper.wp execOp
  simp only [ho, resolve, invoke, builtin, Sem.run_bind, Sem.run_pure, Result.andThen_ok, List.map_toArray, List.map_cons, List.map_nil, hs, hx, hr]
  exact hK _ _ (h g cap' w' h1 h2 h3 h4)

/-- lists of bytes in a row of their own -/
def Ai (w : World) (at' : Option Addr) (ct : Nat) (vs : List Value) : Prop := w.ownsRow 0 22 1 (.slice at' vs.length ct) vs.length vs
theorem Ai.nil (w : World) : Ai w none 0 [] := World.ownsRow_nil w 0 22 1
theorem Ai.cases {w : World} {a : Option Addr} {cap : Nat} {vs : List Value} (h : Ai w a cap vs) : (a = none ∧ cap = 0 ∧ vs = []) ∨
    ∃ g cur, a = some ⟨g, 0, none⟩ ∧ w.heap[g]? = some (.cells cur 22 (0, 0)) ∧ vs.length ≤ cap ∧ cap ≤ maxLen ∧ cur.size = cap ∧ cur.toList.take vs.length = vs := by
  obtain ⟨_, h2⟩ := h
  rcases h2 with ⟨hv, h0⟩ | ⟨g, cap', cur, hv, _, hg, hn, hm, hs, ht⟩
  · simp only [Value.slice.injEq] at hv
    exact .inl ⟨hv.1, hv.2.2, List.length_eq_zero_iff.1 h0⟩
  · simp only [Value.slice.injEq] at hv
    obtain ⟨h1, _, rfl⟩ := hv
    exact .inr ⟨g, cur, h1, hg, hn, hm, by omega, by rw [Nat.mul_one] at ht; exact ht⟩
theorem Ai.mk {w : World} {g cap : Nat} {cur : Array Value} {vs : List Value} (hg : w.heap[g]? = some (.cells cur 22 (0, 0))) (hn : vs.length ≤ cap) (hm : cap ≤ maxLen) (hs : cur.size = cap) (ht : cur.toList.take vs.length = vs) : Ai w (some ⟨g, 0, none⟩) cap vs :=
  ⟨by rw [Nat.mul_one], .inr ⟨g, cap, cur, rfl, Nat.zero_le _, hg, hn, hm, by omega, by rw [Nat.mul_one]; exact ht⟩⟩
theorem Ai.lt {w : World} {a : Option Addr} {cap : Nat} {vs : List Value} (h : Ai w a cap vs) {x : Addr} (hx : a = some x) : x.block < w.heap.size := by
  rcases h.cases with ⟨rfl, _⟩ | ⟨g, cur, rfl, hg, _⟩
  · cases hx
  · cases hx; exact (Array.getElem?_eq_some_iff.1 hg).1
theorem Ai.but {S : Nat → Prop} {w w' : World} {a : Option Addr} {cap : Nat} {vs : List Value} (h : Ai w a cap vs) (hb : But S w w') (hn : ∀ x, a = some x → ¬ S x.block) : Ai w' a cap vs := by
  rcases h.cases with ⟨rfl, rfl, rfl⟩ | ⟨g, cur, rfl, hg, h1, h2, h3, h4⟩
  · exact Ai.nil w'
  · exact Ai.mk ((hb.block g (Array.getElem?_eq_some_iff.1 hg).1 (hn _ rfl)).trans hg) h1 h2 h3 h4
theorem Ai.keep {w w' : World} {a : Option Addr} {cap : Nat} {vs : List Value} (h : Ai w a cap vs) (hb : Below w.heap.size w w') : Ai w' a cap vs :=
  h.but (S := fun _ => False) (But.ofBelow hb) (fun _ _ hf => hf)
theorem Ai.cell {w : World} {a : Option Addr} {cap : Nat} {vs : List Value} (h : Ai w a cap vs) {i : Nat} {v : Value} (hi : vs[i]? = some v) : ∃ g, a = some ⟨g, 0, none⟩ ∧ w.cell? ⟨g, i, none⟩ = some v := by
  rcases h.cases with ⟨rfl, rfl, rfl⟩ | ⟨g, cur, rfl, hg, h1, h2, h3, h4⟩
  · cases hi
  · refine ⟨g, rfl, ?_⟩
    have hlt := (List.getElem?_eq_some_iff.1 hi).1
    have e : (cur.toList.take vs.length)[i]? = some v := by rw [h4]; exact hi
    rw [List.getElem?_take, if_pos hlt] at e
    rw [cell_of_row _ _ _ _ _ _ hg, ← e]
    simp
/-- the array of lists is no list of bytes -/
theorem Ai.ne {w : World} {a a' : Option Addr} {cap cap' : Nat} {vs : List Value} {l : List Int} (h : Ai w a cap vs) (hR : Ig w a' cap' l) {x y : Addr} (hx : a = some x) (hy : a' = some y) : x.block ≠ y.block := by
  rcases h.cases with ⟨rfl, _⟩ | ⟨g, cur, rfl, hg, _⟩
  · cases hx
  rcases hR.cases with ⟨rfl, _⟩ | ⟨g', cur', rfl, hg', _⟩
  · cases hy
  simp only [Option.some.injEq] at hx hy
  subst hx hy
  show g ≠ g'
  intro e
  subst e
  rw [hg] at hg'
  simp at hg'
theorem run_apIntL (w : World) (ty : TypeId) (a : Option Addr) (n cap : Nat) (vs : List Value) (hn : n = vs.length) (hR : Ai w a cap vs) (ad : Addr) (c : Nat) (v : Value) (hc : w.cell? ad = some v) (h1 : v.oneCell' = true) (hlen : (vs.length + 1) * 24 ≤ 140737488355328) :
    ∃ g cap' w', (Builtin.append_ #[38, 38] ty #[.slice a n cap, .slice (some ad) 1 c]).run Try.prog w = .ok (.slice (some ⟨g, 0, none⟩) (n + 1) cap') w' ∧
      Ai w' (some ⟨g, 0, none⟩) cap' (vs ++ [v]) ∧ New w a (some ⟨g, 0, none⟩) ∧ w.grownBy w' (a.map Addr.block) := by
  subst hn
  obtain ⟨i0, hi, hz0, hz1, hz2⟩ := info_parts infoIntL
  obtain ⟨g, cap', w', hr, k1, k2, k3, k4⟩ := run_append_lies (P := Try.prog) w 38 ty 0 22 i0 (.slice none 0 0) 1 24 Try.underlying38 hi hz0 hz1 hz2 rfl (by decide) (.slice a vs.length cap) vs.length vs hR ad 1 c [v] rfl
    (by intro j u hj
        match j, hj with
        | 0, hj => simp at hj; subst hj; simpa [Addr.add] using hc) (by intro u hu; simp at hu; subst hu; exact h1) (by decide) (by unfold maxLen; omega) hlen (Nat.zero_le _) w.heap.size rfl
  rw [ob_eq] at k2 k3
  refine ⟨g, cap', w', hr, ?_, ?_, k2⟩
  · unfold Ai
    rw [List.length_append]
    exact k1
  · intro y hy
    simp only [Option.some.injEq] at hy
    subst hy
    rcases k3 with k3 | k3
    · obtain ⟨z, hz, e⟩ := map_some k3
      exact .inl ⟨z, hz, e⟩
    · exact .inr (by show _ ≤ g; omega)
theorem wpList_apIntL {w : World} {ops : Array Oper} {rest : List Oper} {o : Oper} {a : Act} {Q : Exit → Act → World → Prop} (hgd : o.guard = none) (s x : Operand)
    (ho : o.op = .call { callee := .builtin .append, args := #[s, x], argTypes := #[38, 38] }) (ao : Option Addr) (n cap : Nat) (vs : List Value) (hs : a.eval s = .slice ao n cap) (hn : n = vs.length) (hR : Ai w ao cap vs)
    (ad : Addr) (c : Nat) (v : Value) (hx : a.eval x = .slice (some ad) 1 c) (hc : w.cell? ad = some v) (h1 : v.oneCell' = true) (hlen : (vs.length + 1) * 24 ≤ 140737488355328)
    (h : ∀ g cap' w', Ai w' (some ⟨g, 0, none⟩) cap' (vs ++ [v]) → New w ao (some ⟨g, 0, none⟩) → w.grownBy w' (ao.map Addr.block) → wpList Try.prog ops Q rest (a.put o.dst (.slice (some ⟨g, 0, none⟩) (n + 1) cap')) w') : wpList Try.prog ops Q (o :: rest) a w := by
  refine wpList_plain hgd fun K hK => ?_
  obtain ⟨g, cap', w', hr, k1, k2, k3⟩ := run_apIntL w o.type ao n cap vs hn hR ad c v hc h1 hlen
  unfold Oper.wp execOp
  simp only [ho, resolve, invoke, builtin, Sem.run_bind, Sem.run_pure, Result.andThen_ok, List.map_toArray, List.map_cons, List.map_nil, hs, hx, hr]
  exact hK _ _ (h g cap' w' k1 k2 k3)

theorem Ig.front {w : World} {a : Option Addr} {cap : Nat} {l m : List Int} (h : Ig w a cap (l ++ m)) : Ig w a cap l ∨ a = none := by
  rcases h.cases with ⟨rfl, rfl, hn⟩ | ⟨g, cur, rfl, hg, h1, h2, h3, h4⟩
  · exact .inr rfl
  · refine .inl (Ig.mk hg (by rw [List.length_append] at h1; omega) h2 h3 ?_)
    have e := congrArg (List.take l.length) h4
    rw [List.take_take, List.length_append, Nat.min_eq_left (by omega), vi_append, List.take_left' (vi_length l)] at e
    exact e
theorem Ig.addr2 {w : World} {a : Option Addr} {cap : Nat} {l : List Int} (h : Ig w a cap l) (hl : 0 < l.length) : ∃ g, a = some ⟨g, 0, none⟩ ∧ l.length ≤ cap ∧ cap ≤ maxLen := by
  rcases h.cases with ⟨rfl, rfl, rfl⟩ | ⟨g, cur, rfl, hg, h1, h2, h3, h4⟩
  · simp at hl
  · exact ⟨g, rfl, h1, h2⟩
/-- lists are appended -/
theorem run_apAiL (w : World) (ty : TypeId) (a : Option Addr) (n cap : Nat) (vs : List Value) (hn : n = vs.length) (hR : Ai w a cap vs) (ad : Addr) (m c : Nat) (us : List Value) (hm : m = us.length) (hc : ∀ j u, us[j]? = some u → w.cell? (ad.add j) = some u) (h1 : ∀ u ∈ us, u.oneCell' = true) (hp : 0 < us.length) (hlen : (vs.length + us.length) * 24 ≤ 140737488355328) :
    ∃ g cap' w', (Builtin.append_ #[38, 38] ty #[.slice a n cap, .slice (some ad) m c]).run Try.prog w = .ok (.slice (some ⟨g, 0, none⟩) (n + m) cap') w' ∧
      Ai w' (some ⟨g, 0, none⟩) cap' (vs ++ us) ∧ New w a (some ⟨g, 0, none⟩) ∧ w.grownBy w' (a.map Addr.block) := by
  subst hn hm
  obtain ⟨i0, hi, hz0, hz1, hz2⟩ := info_parts infoIntL
  obtain ⟨g, cap', w', hr, k1, k2, k3, k4⟩ := run_append_lies (P := Try.prog) w 38 ty 0 22 i0 (.slice none 0 0) 1 24 Try.underlying38 hi hz0 hz1 hz2 rfl (by decide) (.slice a vs.length cap) vs.length vs hR ad us.length c us (by rw [Nat.mul_one])
    hc h1 hp (by unfold maxLen; omega) hlen (Nat.zero_le _) w.heap.size rfl
  rw [ob_eq] at k2 k3
  refine ⟨g, cap', w', hr, ?_, ?_, k2⟩
  · unfold Ai
    rw [List.length_append]
    exact k1
  · intro y hy
    simp only [Option.some.injEq] at hy
    subst hy
    rcases k3 with k3 | k3
    · obtain ⟨z, hz, e⟩ := map_some k3
      exact .inl ⟨z, hz, e⟩
    · exact .inr (by show _ ≤ g; omega)
theorem wp_apAiL {w : World} {o : Oper} {a : Act} {K : Act → World → Prop} {Q : Exit → Act → World → Prop} (s x : Operand)
    (ho : o.op = .call { callee := .builtin .append, args := #[s, x], argTypes := #[38, 38] }) (ao : Option Addr) (n cap : Nat) (vs : List Value) (hs : a.eval s = .slice ao n cap) (hn : n = vs.length) (hR : Ai w ao cap vs)
    (ad : Addr) (m c : Nat) (us : List Value) (hx : a.eval x = .slice (some ad) m c) (hm : m = us.length) (hc : ∀ j u, us[j]? = some u → w.cell? (ad.add j) = some u) (h1 : ∀ u ∈ us, u.oneCell' = true) (hp : 0 < us.length) (hlen : (vs.length + us.length) * 24 ≤ 140737488355328)
    (h : ∀ g cap' w', Ai w' (some ⟨g, 0, none⟩) cap' (vs ++ us) → New w ao (some ⟨g, 0, none⟩) → w.grownBy w' (ao.map Addr.block) → K (a.put o.dst (.slice (some ⟨g, 0, none⟩) (n + m) cap')) w') : o.wp Try.prog a w K Q := by
  obtain ⟨g, cap', w', hr, k1, k2, k3⟩ := run_apAiL w o.type ao n cap vs hn hR ad m c us hm hc h1 hp hlen
  unfold Oper.wp execOp
  simp only [ho, resolve, invoke, builtin, Sem.run_bind, Sem.run_pure, Result.andThen_ok, List.map_toArray, List.map_cons, List.map_nil, hs, hx, hr]
  exact h g cap' w' k1 k2 k3
theorem wpList_apAiL {w : World} {ops : Array Oper} {rest : List Oper} {o : Oper} {a : Act} {Q : Exit → Act → World → Prop} (hgd : o.guard = none) (s x : Operand)
    (ho : o.op = .call { callee := .builtin .append, args := #[s, x], argTypes := #[38, 38] }) (ao : Option Addr) (n cap : Nat) (vs : List Value) (hs : a.eval s = .slice ao n cap) (hn : n = vs.length) (hR : Ai w ao cap vs)
    (ad : Addr) (m c : Nat) (us : List Value) (hx : a.eval x = .slice (some ad) m c) (hm : m = us.length) (hc : ∀ j u, us[j]? = some u → w.cell? (ad.add j) = some u) (h1 : ∀ u ∈ us, u.oneCell' = true) (hp : 0 < us.length) (hlen : (vs.length + us.length) * 24 ≤ 140737488355328)
    (h : ∀ g cap' w', Ai w' (some ⟨g, 0, none⟩) cap' (vs ++ us) → New w ao (some ⟨g, 0, none⟩) → w.grownBy w' (ao.map Addr.block) → wpList Try.prog ops Q rest (a.put o.dst (.slice (some ⟨g, 0, none⟩) (n + m) cap')) w') : wpList Try.prog ops Q (o :: rest) a w :=
  wpList_plain hgd fun _ hK => wp_apAiL s x ho ao n cap vs hs hn hR ad m c us hx hm hc h1 hp hlen fun g cap' w' k1 k2 k3 => hK _ _ (h g cap' w' k1 k2 k3)
end Go.Proofs.Yticcpkdhfdefpaa
