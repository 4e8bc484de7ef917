import Derived.Test.YtoachodngjlpaaaDYL
namespace Go.Proofs.Ytoachodngjlpaaa
set_option linter.unusedVariables false
set_option linter.unusedSimpArgs false
open Go.RowKit
/-! ### a row of pages -/
def vpg (P : List Pv) : List Value := (P.map fun p => p.cs.toList).flatten
theorem vpg_append (A B : List Pv) : vpg (A ++ B) = vpg A ++ vpg B := by simp [vpg]
theorem vpg_length : ∀ (L : List Pv), (vpg L).length = L.length * 5
  | [] => rfl
  | x :: L => by
    have := vpg_length L
    simp only [vpg, List.map_cons, List.flatten_cons, List.length_append, List.length_cons, Pv.cs] at this ⊢
    simp only [List.length_nil] at this ⊢
    omega
theorem vpg_get : ∀ (L : List Pv) (i k : Nat), i < L.length → k < 5 → (vpg L)[i * 5 + k]? = (L.getD i Pv.zero).cs.toList[k]?
  | [], i, k, h, _ => absurd h (Nat.not_lt_zero _)
  | x :: L, 0, k, h, hk => by
    have hl : x.cs.toList.length = 5 := rfl
    simp only [vpg, List.map_cons, List.flatten_cons, Nat.zero_mul, Nat.zero_add]
    rw [List.getElem?_append_left (by omega)]
    rfl
  | x :: L, i + 1, k, h, hk => by
    have hl : x.cs.toList.length = 5 := rfl
    have ih := vpg_get L i k (by simpa using h) hk
    simp only [vpg, List.map_cons, List.flatten_cons] at ih ⊢
    rw [List.getElem?_append_right (by omega), hl, show (i + 1) * 5 + k - 5 = i * 5 + k by omega, ih]
    rfl
theorem pcs_one (p : Pv) : ∀ u ∈ p.cs.toList, u.oneCell' = true := by
  intro u hu
  simp only [Pv.cs, List.mem_cons, List.not_mem_nil, or_false] at hu
  rcases hu with rfl | rfl | rfl | rfl | rfl <;> rfl
theorem vpg_one (P : List Pv) : ∀ u ∈ vpg P, u.oneCell' = true := by
  intro u hu
  obtain ⟨l, hl, hu⟩ := List.mem_flatten.1 hu
  obtain ⟨p, _, rfl⟩ := List.mem_map.1 hl
  exact pcs_one p u hu
theorem infoPg : (Try.prog.info? 25).map (fun i => (i.zero, i.size, i.bytes)) = some (some (.agg Pv.zero.cs), 5, 72) := by kernel_rfl
def Pw (w : World) (a : Option Addr) (cap : Nat) (P : List Pv) : Prop := w.ownsRow 0 25 5 (.slice a P.length cap) P.length (vpg P)
theorem Pw.nil (w : World) : Pw w none 0 [] := World.ownsRow_nil w 0 25 5
theorem Pw.cases {w : World} {a : Option Addr} {cap : Nat} {P : List Pv} (h : Pw w a cap P) : (a = none ∧ cap = 0 ∧ P = []) ∨
    ∃ g cur, a = some ⟨g, 0, none⟩ ∧ w.heap[g]? = some (.cells cur 25 (0, 0)) ∧ P.length ≤ cap ∧ cap ≤ maxLen ∧ cur.size = cap * 5 ∧ cur.toList.take (P.length * 5) = vpg P := by
  obtain ⟨_, h2⟩ := h
  rcases h2 with ⟨hv, h0⟩ | ⟨g, cap', cur, hv, _, hg, hn, hm, hs, ht⟩
  · simp only [Value.slice.injEq] at hv
    exact .inl ⟨hv.1, hv.2.2, List.length_eq_zero_iff.1 h0⟩
  · simp only [Value.slice.injEq] at hv
    obtain ⟨h1, _, rfl⟩ := hv
    exact .inr ⟨g, cur, h1, hg, hn, hm, by omega, ht⟩
theorem Pw.mk {w : World} {g cap : Nat} {cur : Array Value} {P : List Pv} (hg : w.heap[g]? = some (.cells cur 25 (0, 0))) (hn : P.length ≤ cap) (hm : cap ≤ maxLen) (hs : cur.size = cap * 5) (ht : cur.toList.take (P.length * 5) = vpg P) : Pw w (some ⟨g, 0, none⟩) cap P :=
  ⟨by rw [vpg_length], .inr ⟨g, cap, cur, rfl, Nat.zero_le _, hg, hn, hm, by omega, ht⟩⟩
theorem Pw.but {S : Nat → Prop} {w w' : World} {a : Option Addr} {cap : Nat} {P : List Pv} (h : Pw w a cap P) (hb : But S w w') (hn : ∀ x, a = some x → ¬ S x.block) : Pw w' a cap P := by
  rcases h.cases with ⟨rfl, rfl, rfl⟩ | ⟨g, cur, rfl, hg, h1, h2, h3, h4⟩
  · exact Pw.nil w'
  · exact Pw.mk ((hb.block g (Array.getElem?_eq_some_iff.1 hg).1 (hn _ rfl)).trans hg) h1 h2 h3 h4
theorem Pw.keep {w w' : World} {a : Option Addr} {cap : Nat} {P : List Pv} (h : Pw w a cap P) (hb : Below w.heap.size w w') : Pw w' a cap P :=
  h.but (S := fun _ => False) (But.ofBelow hb) (fun _ _ hf => hf)
theorem Pw.at {w : World} {a : Option Addr} {cap : Nat} {P : List Pv} (h : Pw w a cap P) (hp : 0 < P.length) : ∃ g cur, a = some ⟨g, 0, none⟩ ∧ Bx w 25 g cur ∧ ∀ i k u, i < P.length → k < 5 → (P.getD i Pv.zero).cs.toList[k]? = some u → w.cell? ⟨g, i * 5 + k, none⟩ = some u := by
  rcases h.cases with ⟨rfl, rfl, rfl⟩ | ⟨g, cur, rfl, hg, h1, h2, h3, h4⟩
  · exact absurd hp (by simp)
  · refine ⟨g, cur, rfl, hg, fun i k u hi hk hu => ?_⟩
    rw [cell_of_row _ _ _ _ _ _ hg]
    rw [← vpg_get P i k hi hk, ← h4, List.getElem?_take, if_pos (by omega)] at hu
    simpa using hu
theorem run_apP (w : World) (ty : TypeId) (a : Option Addr) (n cap : Nat) (P : List Pv) (hn : n = P.length) (hR : Pw w a cap P) (ad : Addr) (m c : Nat) (M : List Pv) (hm : m = M.length) (hc : ∀ j u, (vpg M)[j]? = some u → w.cell? (ad.add j) = some u) (hp : 0 < M.length) (hlen : P.length + M.length ≤ 1000000) :
    ∃ g cap' w', (Builtin.append_ #[34, 34] ty #[.slice a n cap, .slice (some ad) m c]).run Try.prog w = .ok (.slice (some ⟨g, 0, none⟩) (n + m) cap') w' ∧
      Pw w' (some ⟨g, 0, none⟩) cap' (P ++ M) ∧ New w a (some ⟨g, 0, none⟩) ∧ w.grownBy w' (a.map Addr.block) := by
  subst hn hm
  obtain ⟨i0, hi, hz0, hz1, hz2⟩ := info_parts infoPg
  obtain ⟨g, cap', w', hr, k1, k2, k3, k4⟩ := run_append_lies (P := Try.prog) w 34 ty 0 25 i0 (.agg Pv.zero.cs) 5 72 Try.underlying34 hi hz0 hz1 hz2 rfl (by decide) (.slice a P.length cap) P.length (vpg P) hR ad M.length c (vpg M) (vpg_length M)
    hc (vpg_one M) hp (by unfold maxLen; omega) (by omega) (Nat.zero_le _) w.heap.size rfl
  rw [ob_eq] at k2 k3
  refine ⟨g, cap', w', hr, ?_, ?_, k2⟩
  · unfold Pw
    rw [List.length_append, vpg_append]
    exact k1
  · intro y hy
    simp only [Option.some.injEq] at hy
    subst hy
    rcases k3 with k3 | k3
    · obtain ⟨z, hz, e⟩ := map_some k3
      exact .inl ⟨z, hz, e⟩
    · exact .inr (by show _ ≤ g; omega)
theorem wpList_apP {w : World} {ops : Array Oper} {rest : List Oper} {o : Oper} {a : Act} {Q : Exit → Act → World → Prop} (hgd : o.guard = none) (s x : Operand)
    (ho : o.op = .call { callee := .builtin .append, args := #[s, x], argTypes := #[34, 34] }) (ao : Option Addr) (n cap : Nat) (P : List Pv) (hs : a.eval s = .slice ao n cap) (hn : n = P.length) (hR : Pw w ao cap P)
    (ad : Addr) (m c : Nat) (M : List Pv) (hx : a.eval x = .slice (some ad) m c) (hm : m = M.length) (hc : ∀ j u, (vpg M)[j]? = some u → w.cell? (ad.add j) = some u) (hp : 0 < M.length) (hlen : P.length + M.length ≤ 1000000)
    (h : ∀ g cap' w', Pw w' (some ⟨g, 0, none⟩) cap' (P ++ M) → New w ao (some ⟨g, 0, none⟩) → w.grownBy w' (ao.map Addr.block) → wpList Try.prog ops Q rest (a.put o.dst (.slice (some ⟨g, 0, none⟩) (n + m) cap')) w') : wpList Try.prog ops Q (o :: rest) a w := by
  refine wpList_plain hgd fun K hK => ?_
  obtain ⟨g, cap', w', hr, h1, h2, h3⟩ := run_apP w o.type ao n cap P hn hR ad m c M hm hc hp hlen
  unfold Oper.wp execOp
  simp only [ho, resolve, invoke, builtin, Sem.run_bind, Sem.run_pure, Result.andThen_ok, List.map_toArray, List.map_cons, List.map_nil, hs, hx, hr]
  exact hK _ _ (h g cap' w' h1 h2 h3)
theorem wpList_apL2 {w : World} {ops : Array Oper} {rest : List Oper} {o : Oper} {a : Act} {Q : Exit → Act → World → Prop} (hgd : o.guard = none) (s x : Operand)
    (ho : o.op = .call { callee := .builtin .append, args := #[s, x], argTypes := #[33, 33] }) (ao : Option Addr) (n cap : Nat) (vs : List Value) (hs : a.eval s = .slice ao n cap) (hn : n = vs.length) (hR : Ar w ao cap vs)
    (ad : Addr) (m c : Nat) (us : List Value) (hx : a.eval x = .slice (some ad) m c) (hm : m = us.length) (hc : ∀ j u, us[j]? = some u → w.cell? (ad.add j) = some u) (h1 : ∀ u ∈ us, u.oneCell' = true) (hp : 0 < us.length) (hlen : (vs.length + us.length) * 24 ≤ 140737488355328)
    (h : ∀ g cap' w', Ar w' (some ⟨g, 0, none⟩) cap' (vs ++ us) → New w ao (some ⟨g, 0, none⟩) → w.grownBy w' (ao.map Addr.block) → wpList Try.prog ops Q rest (a.put o.dst (.slice (some ⟨g, 0, none⟩) (n + m) cap')) w') : wpList Try.prog ops Q (o :: rest) a w :=
  wpList_plain hgd fun _ hK => wp_apArL s x ho ao n cap vs hs hn hR ad m c us hx hm hc h1 hp hlen fun g cap' w' h1 h2 h3 => hK _ _ (h g cap' w' h1 h2 h3)
end Go.Proofs.Ytoachodngjlpaaa
