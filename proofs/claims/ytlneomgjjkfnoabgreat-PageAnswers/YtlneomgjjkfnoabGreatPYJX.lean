import Derived.Test.YtlneomgjjkfnoabGreatPYEX
import Derived.Deep.RegionHeld3
namespace Go.Proofs.YtlneomgjjkfnoabGreat
open Go.RowKit

theorem infoBytes : (Tryz.prog.info? 25).map (fun i => (i.zero, i.size, i.bytes)) = some (some (.slice none 0 0), 1, 24) := by kernel_rfl

/-- one byte is appended: in place, or the old memory is as it was -/
theorem run_ap1' (w : World) (ty : TypeId) (a : Option Addr) (n cap : Nat) (l : List Nat) (hn : n = l.length) (hR : Rw w a cap l) (ad : Addr) (c x : Nat) (hc : w.cell? ad = some (.int .u8 ((x : Nat) : Int))) (hlen : l.length + 1 ≤ 140737488355328) :
    ∃ g cap' w', (Builtin.append_ #[25, 25] ty #[.slice a n cap, .slice (some ad) 1 c]).run Tryz.prog w = .ok (.slice (some ⟨g, 0, none⟩) (n + 1) cap') w' ∧
      Rw w' (some ⟨g, 0, none⟩) cap' (l ++ [x]) ∧ New w a (some ⟨g, 0, none⟩) ∧ w.grownBy w' (a.map Addr.block) ∧ (a = some ⟨g, 0, none⟩ ∨ w.heap.size ≤ g ∧ Below w.heap.size w w') := by
  obtain ⟨g, cap', w', hr, h1, h2, h3, h4⟩ := run_ap1 w ty a n cap l hn hR ad c x hc hlen
  refine ⟨g, cap', w', hr, h1, h2, h3, ?_⟩
  subst hn
  obtain ⟨i0, hi, hz0, hz1, hz2⟩ := info_parts infoU8
  have hnews : ∀ j u, ([.int .u8 ((x : Nat) : Int)] : List Value)[j]? = some u → w.cell? (ad.add j) = some u := by
    intro j u hj
    match j, hj with
    | 0, hj => simp at hj; subst hj; simpa [Addr.add] using hc
  rcases hR.cases with ⟨rfl, rfl, rfl⟩ | ⟨g', cur, rfl, hg, k1, k2, k3, k4⟩
  · have hr2 := run_append_nil (P := Tryz.prog) w 25 ty 5 i0 (.int .u8 0) Tryz.underlying25 hi hz0 ad 1 c [.int .u8 ((x : Nat) : Int)] (by rw [hz1]; rfl) hnews (by decide) (by decide) (by rw [hz2]; decide)
    rw [show ([] : List Nat).length = 0 from rfl, hr2] at hr
    simp only [Result.ok.injEq, Value.slice.injEq, Option.some.injEq, Addr.mk.injEq] at hr
    obtain ⟨⟨⟨rfl, _⟩, _⟩, rfl⟩ := hr
    exact .inr ⟨Nat.le_refl _, ⟨rfl, rfl, rfl, by simp, fun k hk => heap_alloc_old w.drew _ hk⟩⟩
  · by_cases hroom : l.length + 1 ≤ cap
    · have hr2 := run_append_room (P := Tryz.prog) w 25 ty 5 i0 Tryz.underlying25 hi g' l.length cap cur hg ad 1 c [.int .u8 ((x : Nat) : Int)] (by rw [hz1]; rfl) hnews (by intro u hu; simp at hu; subst hu; rfl) hroom (by rw [hz1]; show l.length * 1 + 1 ≤ cur.size; omega)
      rw [hr2] at hr
      simp only [Result.ok.injEq, Value.slice.injEq, Option.some.injEq, Addr.mk.injEq] at hr
      obtain ⟨⟨⟨rfl, _⟩, _⟩, rfl⟩ := hr
      exact .inl rfl
    · have holds : ∀ j u, (vb l)[j]? = some u → w.cell? ((⟨g', 0, none⟩ : Addr).add j) = some u := hR.cells (g := g') rfl
      have hr2 := run_append_grow (P := Tryz.prog) w 25 ty 5 i0 (.int .u8 0) Tryz.underlying25 hi hz0 ⟨g', 0, none⟩ l.length cap (vb l) (by rw [vb_length, hz1, Nat.mul_one]) holds ad 1 c [.int .u8 ((x : Nat) : Int)] (by rw [hz1]; rfl) hnews (by omega) (by omega) (growslice_fits (by omega) (by rw [hz2]; omega))
      rw [hr2] at hr
      simp only [Result.ok.injEq, Value.slice.injEq, Option.some.injEq, Addr.mk.injEq] at hr
      obtain ⟨⟨⟨rfl, _⟩, _⟩, rfl⟩ := hr
      exact .inr ⟨Nat.le_refl _, ⟨rfl, rfl, rfl, by simp, fun k hk => heap_alloc_old w.drew _ hk⟩⟩
theorem wpList_ap1' {w : World} {ops : Array Oper} {rest : List Oper} {o : Oper} {a : Act} {Q : Exit → Act → World → Prop} (hgd : o.guard = none) (s x : Operand)
    (ho : o.op = .call { callee := .builtin .append, args := #[s, x], argTypes := #[25, 25] }) (ao : Option Addr) (n cap : Nat) (l : List Nat) (hs : a.eval s = .slice ao n cap) (hn : n = l.length) (hR : Rw w ao cap l)
    (ad : Addr) (c xx : Nat) (hx : a.eval x = .slice (some ad) 1 c) (hc : w.cell? ad = some (.int .u8 ((xx : Nat) : Int))) (hlen : l.length + 1 ≤ 140737488355328)
    (h : ∀ g cap' w', Rw w' (some ⟨g, 0, none⟩) cap' (l ++ [xx]) → New w ao (some ⟨g, 0, none⟩) → w.grownBy w' (ao.map Addr.block) → (ao = some ⟨g, 0, none⟩ ∨ w.heap.size ≤ g ∧ Below w.heap.size w w') → wpList Tryz.prog ops Q rest (a.put o.dst (.slice (some ⟨g, 0, none⟩) (n + 1) cap')) w') : wpList Tryz.prog ops Q (o :: rest) a w := by
  refine wpList_plain hgd fun K hK => ?_
  obtain ⟨g, cap', w', hr, h1, h2, h3, h4⟩ := run_ap1' w o.type ao n cap l hn hR ad c xx hc hlen
  unfold Oper.wp execOp
  simp only [ho, resolve, invoke, builtin, Sem.run_bind, Sem.run_pure, Result.andThen_ok, List.map_toArray, List.map_cons, List.map_nil, hs, hx, hr]
  exact hK _ _ (h g cap' w' h1 h2 h3 h4)

/-- lists of bytes in a row of their own -/
def Ar (w : World) (at' : Option Addr) (ct : Nat) (vs : List Value) : Prop := w.ownsRow 0 25 1 (.slice at' vs.length ct) vs.length vs
theorem Ar.nil (w : World) : Ar w none 0 [] := World.ownsRow_nil w 0 25 1
theorem Ar.cases {w : World} {a : Option Addr} {cap : Nat} {vs : List Value} (h : Ar w a cap vs) : (a = none ∧ cap = 0 ∧ vs = []) ∨
    ∃ g cur, a = some ⟨g, 0, none⟩ ∧ w.heap[g]? = some (.cells cur 25 (0, 0)) ∧ vs.length ≤ cap ∧ cap ≤ maxLen ∧ cur.size = cap ∧ cur.toList.take vs.length = vs := by
  obtain ⟨_, h2⟩ := h
  rcases h2 with ⟨hv, h0⟩ | ⟨g, cap', cur, hv, _, hg, hn, hm, hs, ht⟩
  · simp only [Value.slice.injEq] at hv
    exact .inl ⟨hv.1, hv.2.2, List.length_eq_zero_iff.1 h0⟩
  · simp only [Value.slice.injEq] at hv
    obtain ⟨h1, _, rfl⟩ := hv
    exact .inr ⟨g, cur, h1, hg, hn, hm, by omega, by rw [Nat.mul_one] at ht; exact ht⟩
theorem Ar.mk {w : World} {g cap : Nat} {cur : Array Value} {vs : List Value} (hg : w.heap[g]? = some (.cells cur 25 (0, 0))) (hn : vs.length ≤ cap) (hm : cap ≤ maxLen) (hs : cur.size = cap) (ht : cur.toList.take vs.length = vs) : Ar w (some ⟨g, 0, none⟩) cap vs :=
  ⟨by rw [Nat.mul_one], .inr ⟨g, cap, cur, rfl, Nat.zero_le _, hg, hn, hm, by omega, by rw [Nat.mul_one]; exact ht⟩⟩
theorem Ar.lt {w : World} {a : Option Addr} {cap : Nat} {vs : List Value} (h : Ar w a cap vs) {x : Addr} (hx : a = some x) : x.block < w.heap.size := by
  rcases h.cases with ⟨rfl, _⟩ | ⟨g, cur, rfl, hg, _⟩
  · cases hx
  · cases hx; exact (Array.getElem?_eq_some_iff.1 hg).1
theorem Ar.but {S : Nat → Prop} {w w' : World} {a : Option Addr} {cap : Nat} {vs : List Value} (h : Ar w a cap vs) (hb : But S w w') (hn : ∀ x, a = some x → ¬ S x.block) : Ar w' a cap vs := by
  rcases h.cases with ⟨rfl, rfl, rfl⟩ | ⟨g, cur, rfl, hg, h1, h2, h3, h4⟩
  · exact Ar.nil w'
  · exact Ar.mk ((hb.block g (Array.getElem?_eq_some_iff.1 hg).1 (hn _ rfl)).trans hg) h1 h2 h3 h4
theorem Ar.keep {w w' : World} {a : Option Addr} {cap : Nat} {vs : List Value} (h : Ar w a cap vs) (hb : Below w.heap.size w w') : Ar w' a cap vs :=
  h.but (S := fun _ => False) (But.ofBelow hb) (fun _ _ hf => hf)
theorem Ar.cell {w : World} {a : Option Addr} {cap : Nat} {vs : List Value} (h : Ar w a cap vs) {i : Nat} {v : Value} (hi : vs[i]? = some v) : ∃ g, a = some ⟨g, 0, none⟩ ∧ w.cell? ⟨g, i, none⟩ = some v := by
  rcases h.cases with ⟨rfl, rfl, rfl⟩ | ⟨g, cur, rfl, hg, h1, h2, h3, h4⟩
  · cases hi
  · refine ⟨g, rfl, ?_⟩
    have hlt := (List.getElem?_eq_some_iff.1 hi).1
    have e : (cur.toList.take vs.length)[i]? = some v := by rw [h4]; exact hi
    rw [List.getElem?_take, if_pos hlt] at e
    rw [cell_of_row _ _ _ _ _ _ hg, ← e]
    simp
/-- the array of lists is no list of bytes -/
theorem Ar.ne {w : World} {a a' : Option Addr} {cap cap' : Nat} {vs : List Value} {l : List Nat} (h : Ar w a cap vs) (hR : Rw w a' cap' l) {x y : Addr} (hx : a = some x) (hy : a' = some y) : x.block ≠ y.block := by
  rcases h.cases with ⟨rfl, _⟩ | ⟨g, cur, rfl, hg, _⟩
  · cases hx
  rcases hR.cases with ⟨rfl, _⟩ | ⟨g', cur', rfl, hg', _⟩
  · cases hy
  simp only [Option.some.injEq] at hx hy
  subst hx hy
  show g ≠ g'
  intro e
  subst e
  rw [hg] at hg'
  simp at hg'
theorem run_apRows (w : World) (ty : TypeId) (a : Option Addr) (n cap : Nat) (vs : List Value) (hn : n = vs.length) (hR : Ar w a cap vs) (ad : Addr) (c : Nat) (v : Value) (hc : w.cell? ad = some v) (h1 : v.oneCell' = true) (hlen : (vs.length + 1) * 24 ≤ 140737488355328) :
    ∃ g cap' w', (Builtin.append_ #[41, 41] ty #[.slice a n cap, .slice (some ad) 1 c]).run Tryz.prog w = .ok (.slice (some ⟨g, 0, none⟩) (n + 1) cap') w' ∧
      Ar w' (some ⟨g, 0, none⟩) cap' (vs ++ [v]) ∧ New w a (some ⟨g, 0, none⟩) ∧ w.grownBy w' (a.map Addr.block) := by
  subst hn
  obtain ⟨i0, hi, hz0, hz1, hz2⟩ := info_parts infoBytes
  obtain ⟨g, cap', w', hr, k1, k2, k3, k4⟩ := run_append_lies (P := Tryz.prog) w 41 ty 0 25 i0 (.slice none 0 0) 1 24 Tryz.underlying41 hi hz0 hz1 hz2 rfl (by decide) (.slice a vs.length cap) vs.length vs hR ad 1 c [v] rfl
    (by intro j u hj
        match j, hj with
        | 0, hj => simp at hj; subst hj; simpa [Addr.add] using hc) (by intro u hu; simp at hu; subst hu; exact h1) (by decide) (by unfold maxLen; omega) hlen (Nat.zero_le _) w.heap.size rfl
  rw [ob_eq] at k2 k3
  refine ⟨g, cap', w', hr, ?_, ?_, k2⟩
  · unfold Ar
    rw [List.length_append]
    exact k1
  · intro y hy
    simp only [Option.some.injEq] at hy
    subst hy
    rcases k3 with k3 | k3
    · obtain ⟨z, hz, e⟩ := map_some k3
      exact .inl ⟨z, hz, e⟩
    · exact .inr (by show _ ≤ g; omega)
theorem wpList_apRows {w : World} {ops : Array Oper} {rest : List Oper} {o : Oper} {a : Act} {Q : Exit → Act → World → Prop} (hgd : o.guard = none) (s x : Operand)
    (ho : o.op = .call { callee := .builtin .append, args := #[s, x], argTypes := #[41, 41] }) (ao : Option Addr) (n cap : Nat) (vs : List Value) (hs : a.eval s = .slice ao n cap) (hn : n = vs.length) (hR : Ar w ao cap vs)
    (ad : Addr) (c : Nat) (v : Value) (hx : a.eval x = .slice (some ad) 1 c) (hc : w.cell? ad = some v) (h1 : v.oneCell' = true) (hlen : (vs.length + 1) * 24 ≤ 140737488355328)
    (h : ∀ g cap' w', Ar w' (some ⟨g, 0, none⟩) cap' (vs ++ [v]) → New w ao (some ⟨g, 0, none⟩) → w.grownBy w' (ao.map Addr.block) → wpList Tryz.prog ops Q rest (a.put o.dst (.slice (some ⟨g, 0, none⟩) (n + 1) cap')) w') : wpList Tryz.prog ops Q (o :: rest) a w := by
  refine wpList_plain hgd fun K hK => ?_
  obtain ⟨g, cap', w', hr, k1, k2, k3⟩ := run_apRows w o.type ao n cap vs hn hR ad c v hc h1 hlen
  unfold Oper.wp execOp
  simp only [ho, resolve, invoke, builtin, Sem.run_bind, Sem.run_pure, Result.andThen_ok, List.map_toArray, List.map_cons, List.map_nil, hs, hx, hr]
  exact hK _ _ (h g cap' w' k1 k2 k3)

theorem Rw.front {w : World} {a : Option Addr} {cap : Nat} {l m : List Nat} (h : Rw w a cap (l ++ m)) : Rw w a cap l ∨ a = none := by
  rcases h.cases with ⟨rfl, rfl, hn⟩ | ⟨g, cur, rfl, hg, h1, h2, h3, h4⟩
  · exact .inr rfl
  · refine .inl (Rw.mk hg (by rw [List.length_append] at h1; omega) h2 h3 ?_)
    have e := congrArg (List.take l.length) h4
    rw [List.take_take, List.length_append, Nat.min_eq_left (by omega), vb_append, List.take_left' (vb_length l)] at e
    exact e
theorem Rw.addr2 {w : World} {a : Option Addr} {cap : Nat} {l : List Nat} (h : Rw w a cap l) (hl : 0 < l.length) : ∃ g, a = some ⟨g, 0, none⟩ ∧ l.length ≤ cap ∧ cap ≤ maxLen := by
  rcases h.cases with ⟨rfl, rfl, rfl⟩ | ⟨g, cur, rfl, hg, h1, h2, h3, h4⟩
  · simp at hl
  · exact ⟨g, rfl, h1, h2⟩
/-- lists are appended -/
theorem run_apArL (w : World) (ty : TypeId) (a : Option Addr) (n cap : Nat) (vs : List Value) (hn : n = vs.length) (hR : Ar w a cap vs) (ad : Addr) (m c : Nat) (us : List Value) (hm : m = us.length) (hc : ∀ j u, us[j]? = some u → w.cell? (ad.add j) = some u) (h1 : ∀ u ∈ us, u.oneCell' = true) (hp : 0 < us.length) (hlen : (vs.length + us.length) * 24 ≤ 140737488355328) :
    ∃ g cap' w', (Builtin.append_ #[41, 41] ty #[.slice a n cap, .slice (some ad) m c]).run Tryz.prog w = .ok (.slice (some ⟨g, 0, none⟩) (n + m) cap') w' ∧
      Ar w' (some ⟨g, 0, none⟩) cap' (vs ++ us) ∧ New w a (some ⟨g, 0, none⟩) ∧ w.grownBy w' (a.map Addr.block) := by
  subst hn hm
  obtain ⟨i0, hi, hz0, hz1, hz2⟩ := info_parts infoBytes
  obtain ⟨g, cap', w', hr, k1, k2, k3, k4⟩ := run_append_lies (P := Tryz.prog) w 41 ty 0 25 i0 (.slice none 0 0) 1 24 Tryz.underlying41 hi hz0 hz1 hz2 rfl (by decide) (.slice a vs.length cap) vs.length vs hR ad us.length c us (by rw [Nat.mul_one])
    hc h1 hp (by unfold maxLen; omega) hlen (Nat.zero_le _) w.heap.size rfl
  rw [ob_eq] at k2 k3
  refine ⟨g, cap', w', hr, ?_, ?_, k2⟩
  · unfold Ar
    rw [List.length_append]
    exact k1
  · intro y hy
    simp only [Option.some.injEq] at hy
    subst hy
    rcases k3 with k3 | k3
    · obtain ⟨z, hz, e⟩ := map_some k3
      exact .inl ⟨z, hz, e⟩
    · exact .inr (by show _ ≤ g; omega)
theorem wp_apArL {w : World} {o : Oper} {a : Act} {K : Act → World → Prop} {Q : Exit → Act → World → Prop} (s x : Operand)
    (ho : o.op = .call { callee := .builtin .append, args := #[s, x], argTypes := #[41, 41] }) (ao : Option Addr) (n cap : Nat) (vs : List Value) (hs : a.eval s = .slice ao n cap) (hn : n = vs.length) (hR : Ar w ao cap vs)
    (ad : Addr) (m c : Nat) (us : List Value) (hx : a.eval x = .slice (some ad) m c) (hm : m = us.length) (hc : ∀ j u, us[j]? = some u → w.cell? (ad.add j) = some u) (h1 : ∀ u ∈ us, u.oneCell' = true) (hp : 0 < us.length) (hlen : (vs.length + us.length) * 24 ≤ 140737488355328)
    (h : ∀ g cap' w', Ar w' (some ⟨g, 0, none⟩) cap' (vs ++ us) → New w ao (some ⟨g, 0, none⟩) → w.grownBy w' (ao.map Addr.block) → K (a.put o.dst (.slice (some ⟨g, 0, none⟩) (n + m) cap')) w') : o.wp Tryz.prog a w K Q := by
  obtain ⟨g, cap', w', hr, k1, k2, k3⟩ := run_apArL w o.type ao n cap vs hn hR ad m c us hm hc h1 hp hlen
  unfold Oper.wp execOp
  simp only [ho, resolve, invoke, builtin, Sem.run_bind, Sem.run_pure, Result.andThen_ok, List.map_toArray, List.map_cons, List.map_nil, hs, hx, hr]
  exact h g cap' w' k1 k2 k3
theorem wpList_apArL {w : World} {ops : Array Oper} {rest : List Oper} {o : Oper} {a : Act} {Q : Exit → Act → World → Prop} (hgd : o.guard = none) (s x : Operand)
    (ho : o.op = .call { callee := .builtin .append, args := #[s, x], argTypes := #[41, 41] }) (ao : Option Addr) (n cap : Nat) (vs : List Value) (hs : a.eval s = .slice ao n cap) (hn : n = vs.length) (hR : Ar w ao cap vs)
    (ad : Addr) (m c : Nat) (us : List Value) (hx : a.eval x = .slice (some ad) m c) (hm : m = us.length) (hc : ∀ j u, us[j]? = some u → w.cell? (ad.add j) = some u) (h1 : ∀ u ∈ us, u.oneCell' = true) (hp : 0 < us.length) (hlen : (vs.length + us.length) * 24 ≤ 140737488355328)
    (h : ∀ g cap' w', Ar w' (some ⟨g, 0, none⟩) cap' (vs ++ us) → New w ao (some ⟨g, 0, none⟩) → w.grownBy w' (ao.map Addr.block) → wpList Tryz.prog ops Q rest (a.put o.dst (.slice (some ⟨g, 0, none⟩) (n + m) cap')) w') : wpList Tryz.prog ops Q (o :: rest) a w :=
  wpList_plain hgd fun _ hK => wp_apArL s x ho ao n cap vs hs hn hR ad m c us hx hm hc h1 hp hlen fun g cap' w' k1 k2 k3 => hK _ _ (h g cap' w' k1 k2 k3)
theorem blk_keep {W W' : World} {g : Nat} {o : Obj} (h : W.heap[g]? = some o) (hb : Below W.heap.size W W') : W'.heap[g]? = some o := (hb.block _ (Array.getElem?_eq_some_iff.1 h).1).trans h
theorem step_apArL {w : World} {ops : Array Oper} {o : Oper} {a : Act} {K : Act → World → Prop} {Q : Exit → Act → World → Prop} {E : Prop} (hgd : o.guard = none) (s x : Operand)
    (ho : o.op = .call { callee := .builtin .append, args := #[s, x], argTypes := #[41, 41] }) (ao : Option Addr) (n cap : Nat) (vs : List Value) (hs : a.eval s = .slice ao n cap) (hn : n = vs.length) (hR : Ar w ao cap vs)
    (ad : Addr) (m c : Nat) (us : List Value) (hx : a.eval x = .slice (some ad) m c) (hm : m = us.length) (hc : ∀ j u, us[j]? = some u → w.cell? (ad.add j) = some u) (h1 : ∀ u ∈ us, u.oneCell' = true) (hp : 0 < us.length) (hlen : (vs.length + us.length) * 24 ≤ 140737488355328)
    (h : ∀ g cap' w', Ar w' (some ⟨g, 0, none⟩) cap' (vs ++ us) → New w ao (some ⟨g, 0, none⟩) → w.grownBy w' (ao.map Addr.block) → K (a.put o.dst (.slice (some ⟨g, 0, none⟩) (n + m) cap')) w') :
    if Region.wanted o (yielded ops a.tmps) = true then Oper.wp Tryz.prog o a w K Q else E := by
  have hw : Region.wanted o (yielded ops a.tmps) = true := by simp [Region.wanted, hgd]
  rw [if_pos hw]
  exact wp_apArL s x ho ao n cap vs hs hn hR ad m c us hx hm hc h1 hp hlen h
def bv (t : Br) : Value := .slice t.a t.l.length t.c
theorem bv_one (T : List Br) : ∀ u ∈ T.map bv, u.oneCell' = true := by
  intro u hu
  obtain ⟨t, _, rfl⟩ := List.mem_map.1 hu
  rfl
/-- an array of lists of the call's own -/
structure Ax (w W : World) (a : Option Addr) (c : Nat) (T : List Br) : Prop where
  r : Ar W a c (T.map bv)
  n : New w none a
  b : Below w.heap.size w W
theorem Ax.keep {w W W' : World} {a : Option Addr} {c : Nat} {T : List Br} (h : Ax w W a c T) (hb : Below W.heap.size W W') : Ax w W' a c T := ⟨h.r.keep hb, h.n, bt h.b hb⟩
theorem Ax.step {w W W1 W2 : World} {a : Option Addr} {c c' g : Nat} {T U : List Br} (h : Ax w W a c T) (hb : Below W.heap.size W W1) (hR : Ar W2 (some ⟨g, 0, none⟩) c' (T.map bv ++ U.map bv)) (hN : New W1 a (some ⟨g, 0, none⟩)) (hg : W1.grownBy W2 (a.map Addr.block)) : Ax w W2 (some ⟨g, 0, none⟩) c' (T ++ U) := by
  have b1 := bt h.b hb
  refine ⟨by rw [List.map_append]; exact hR, h.n.trans hN b1.size, ?_⟩
  have hh : But (fun _ => False) w W2 := (But.ofBelow b1).grown hg fun k hk hlt => by
    obtain ⟨y, hy, e⟩ := map_some hk
    have := new_at h.n hy
    omega
  exact hh.below fun _ _ h => h
/-- what such an append leaves of the rest -/
theorem Ax.but {w W W1 W2 : World} {a : Option Addr} {c : Nat} {T : List Br} (h : Ax w W a c T) (hb : Below W.heap.size W W1) (hg : W1.grownBy W2 (a.map Addr.block)) {k : Nat} {o : Obj} (hk : W.heap[k]? = some o) (hne : ∀ cs, o ≠ .cells cs 25 (0, 0)) : W2.heap[k]? = some o := by
  have hk1 := blk_keep hk hb
  refine (hg.block k (Array.getElem?_eq_some_iff.1 hk1).1 fun e => ?_).trans hk1
  obtain ⟨y, hy, e2⟩ := map_some e.symm
  rcases h.r.cases with ⟨h0, _⟩ | ⟨g', cur, h0, hg', _⟩
  · rw [h0] at hy; cases hy
  · rw [h0, Option.some.injEq] at hy
    subst hy
    dsimp only at e2
    subst e2
    rw [hk] at hg'
    exact hne cur (Option.some.inj hg')
end Go.Proofs.YtlneomgjjkfnoabGreat

namespace Go.Proofs.YtlneomgjjkfnoabGreat
open Go.RowKit


def mkA (i k : Nat) : Nat := (i * 31 + k * 7 + 1) % 256
def fl (i n : Nat) : List Nat := (List.range n).map (mkA i)
theorem fl_length (i n : Nat) : (fl i n).length = n := by simp [fl]
theorem fl_succ (i n : Nat) : fl i (n + 1) = fl i n ++ [mkA i n] := by simp [fl, List.range_succ]
theorem fl_get (i n k : Nat) (h : k < n) : (fl i n).getD k 0 = mkA i k := by simp [fl, h]
theorem fl_lt (i n : Nat) : ∀ x ∈ fl i n, x < 256 := by
  intro x hx
  obtain ⟨k, _, rfl⟩ := List.mem_map.1 hx
  exact Nat.mod_lt _ (by decide)
theorem set_step (i k : Nat) (l : List Nat) (h : k < l.length) : (fl i k ++ l.drop k).set k (mkA i k) = fl i (k + 1) ++ l.drop (k + 1) := by
  rw [List.set_append_right _ _ (by rw [fl_length]; exact Nat.le_refl _), fl_length, Nat.sub_self, List.drop_eq_getElem_cons h, List.set_cons_zero, fl_succ, List.append_assoc]
  rfl
/-- rows of bytes -/
def RowsG (w : World) (n : Nat) (A : Nat → Option Addr) (C : Nat → Nat) (G : Nat → List Nat) : Prop := ∀ i, i < n → Rw w (A i) (C i) (G i)
def Dist (n : Nat) (A : Nat → Option Addr) : Prop := ∀ i j, i < n → j < n → i ≠ j → ∀ x y, A i = some x → A j = some y → x.block ≠ y.block
def InRows (n : Nat) (A : Nat → Option Addr) (k : Nat) : Prop := ∃ i, i < n ∧ ∃ x, A i = some x ∧ x.block = k
theorem RowsG.congr {w : World} {n : Nat} {A : Nat → Option Addr} {C : Nat → Nat} {G G' : Nat → List Nat} (h : RowsG w n A C G) (e : ∀ i, i < n → G i = G' i) : RowsG w n A C G' := fun i hi => by rw [← e i hi]; exact h i hi
theorem RowsG.set {w : World} {n : Nat} {A : Nat → Option Addr} {C : Nat → Nat} {G : Nat → List Nat} (h : RowsG w n A C G) (hd : Dist n A) {j g : Nat} (hj : j < n) (hA : A j = some ⟨g, 0, none⟩) (k v : Nat) :
    RowsG (w.setCell ⟨g, k, none⟩ (.int .u8 ((v : Nat) : Int))) n A C (fun i => if i = j then (G j).set k v else G i) := by
  intro i hi
  by_cases e : i = j
  · subst e
    dsimp only
    rw [if_pos rfl, hA]
    have := h i hi
    rw [hA] at this
    exact this.set k v
  · dsimp only
    rw [if_neg e]
    exact (h i hi).but (But.cell1 w g k _) fun x hx => hd i j hi hj e x _ hx hA

/-- behind the second loop's first rounds -/
def P2 (w wx : World) (n : Nat) (A : Nat → Option Addr) (C : Nat → Nat) (N : Nat → Nat) (j : Nat) (ag : Option Addr) (cg : Nat) (B : Nat → Option Addr) (D : Nat → Nat) : Prop :=
  Ar wx ag cg ((List.range j).map fun i => Value.slice (B i) (N i + 20) (D i)) ∧
  (∀ i, i < j → Rw wx (B i) (D i) (fl i (N i + 20)) ∧ Bs wx (A i) (fl i (N i)) ∧ New w (A i) (B i)) ∧
  (∀ i, j ≤ i → i < n → Rw wx (A i) (C i) (fl i (N i))) ∧
  (∀ i i', i < i' → i' < j → ∀ x y, B i = some x → B i' = some y → x.block ≠ y.block) ∧
  But (InRows n A) w wx ∧ New w none ag
theorem grown_but {w w2 : World} {a : Option Addr} (h : w.grownBy w2 (a.map Addr.block)) : But (fun q => ∃ x, a = some x ∧ x.block = q) w w2 :=
  (But.refl _ _).grown h fun _ hk _ => map_some hk
theorem P2.next {w wx w3 wr : World} {n : Nat} {A : Nat → Option Addr} {C N : Nat → Nat} {j : Nat} {ag ag' gj : Option Addr} {cg cg' cj : Nat} {B : Nat → Option Addr} {D : Nat → Nat} {o : Obj}
    (hd : Dist n A) (hA0 : ∀ i, i < n → ∀ x, A i = some x → x.block < w.heap.size) (hj : j < n) (h : P2 w wr n A C N j ag cg B D) (hin : But (fun q => ∃ x, A j = some x ∧ x.block = q) wr wx)
    (hRg : Rw wx gj cj (fl j (N j + 20))) (hBs : Bs wx (A j) (fl j (N j))) (hgj : gj = A j ∨ ∀ x, gj = some x → wr.heap.size ≤ x.block)
    (hAr : Ar w3 ag' cg' (((List.range j).map fun i => Value.slice (B i) (N i + 20) (D i)) ++ [.slice gj (N j + 20) cj])) (hN : New (wx.alloc o) ag ag') (hg : (wx.alloc o).grownBy w3 (ag.map Addr.block)) :
    P2 w w3 n A C N (j + 1) ag' cg' (fun i => if i = j then gj else B i) (fun i => if i = j then cj else D i) := by
  obtain ⟨h1, h2, h3, h4, h5, h6⟩ := h
  have hsz := h5.size
  have hsz2 := hin.size
  -- the array is none of the rows
  have hagx : Ar wx ag cg ((List.range j).map fun i => Value.slice (B i) (N i + 20) (D i)) := h1.but hin fun x hx ⟨y, hy, e⟩ => h1.ne (h3 j (Nat.le_refl _) hj) hx hy e.symm
  have step : But (fun q => ∃ x, ag = some x ∧ x.block = q) wx w3 := ((But.refl _ wx).alloc o).trans (grown_but hg) fun _ _ h => h
  have row : ∀ {a c l}, Rw wx a c l → Rw w3 a c l := fun hr => hr.but step fun x hx ⟨y, hy, e⟩ => hagx.ne hr hy hx e
  have bs : ∀ {a : Option Addr} {l : List Nat}, Bs wx a l → (∀ x, a = some x → x.block < w.heap.size) → Bs w3 a l := fun hb hlt => hb.but step fun x hx _ ⟨y, hy, e⟩ => by
    have h7 := hlt x hx
    rcases h6 y hy with ⟨z, hz, _⟩ | h8
    · cases hz
    · omega
  have hBold : ∀ i, i < j → ∀ x, B i = some x → ¬ ∃ y, A j = some y ∧ y.block = x.block := by
    rintro i hi x hx ⟨y, hy, e⟩
    rcases (h2 i hi).2.2 x hx with ⟨z, hz, e2⟩ | h7
    · exact hd i j (by omega) hj (by omega) z y hz hy (e2.trans e.symm)
    · have := hA0 j hj y hy; omega
  refine ⟨?_, ?_, ?_, ?_, ?_, ?_⟩
  · rw [List.range_succ, List.map_append]
    have e : ((List.range j).map fun i => Value.slice (if i = j then gj else B i) (N i + 20) (if i = j then cj else D i)) = (List.range j).map fun i => Value.slice (B i) (N i + 20) (D i) := by
      apply List.map_congr_left
      intro i hi
      have := List.mem_range.1 hi
      simp [show i ≠ j by omega]
    rw [e]
    simpa using hAr
  · intro i hi
    by_cases e : i = j
    · subst e
      dsimp only
      rw [if_pos rfl, if_pos rfl]
      refine ⟨row hRg, bs hBs (hA0 i hj), ?_⟩
      intro x hx
      rcases hgj with h7 | h7
      · exact .inl ⟨x, by rw [← h7]; exact hx, rfl⟩
      · exact .inr (by have := h7 x hx; omega)
    · dsimp only
      rw [if_neg e, if_neg e]
      obtain ⟨k1, k2, k3⟩ := h2 i (by omega)
      refine ⟨row (k1.but hin fun x hx => hBold i (by omega) x hx), bs (k2.but hin fun x hx _ ⟨y, hy, e2⟩ => hd i j (by omega) hj e x y hx hy e2.symm) (hA0 i (by omega)), k3⟩
  · intro i hi hin'
    exact row ((h3 i (by omega) hin').but hin fun x hx ⟨y, hy, e2⟩ => hd i j hin' hj (by omega) x y hx hy e2.symm)
  · intro i i' hii hi' x y hx hy
    dsimp only at hx hy
    rw [if_neg (by omega)] at hx
    by_cases e : i' = j
    · rw [if_pos e] at hy
      subst e
      rcases hgj with h7 | h7
      · rw [h7] at hy
        exact fun e2 => hBold i hii x hx ⟨y, hy, e2.symm⟩
      · have h8 := h7 y hy
        have h9 := (h2 i hii).1.lt hx
        omega
    · rw [if_neg e] at hy
      exact h4 i i' hii (by omega) x y hx hy
  · refine (h5.trans hin fun x _ ⟨y, hy, e⟩ => ⟨j, hj, y, hy, e⟩).trans step ?_
    rintro x hx ⟨y, hy, e⟩
    rcases h6 y hy with ⟨z, hz, _⟩ | h8
    · cases hz
    · omega
  · exact h6.trans hN (by rw [size_alloc]; omega)

/-- a byte is appended to a row: what of the row that it grew out of -/
theorem inner_step {wr wx w2 : World} {aj gj : Option Addr} {g : Nat} {cap' : Nat} {l m : List Nat} {x : Nat} {o : Obj} (hlt : ∀ y, aj = some y → y.block < wr.heap.size) (hb8 : ∀ z ∈ l ++ m ++ [x], z < 256) (hlen : l.length ≤ 9223372036854775807)
    (hin : But (fun q => ∃ y, aj = some y ∧ y.block = q) wr wx) (hBs : Bs wx aj l) (hgj : gj = aj ∨ ∀ y, gj = some y → wr.heap.size ≤ y.block)
    (hR : Rw w2 (some ⟨g, 0, none⟩) cap' (l ++ m ++ [x])) (hg : (wx.alloc o).grownBy w2 (gj.map Addr.block)) (hc : gj = some ⟨g, 0, none⟩ ∨ (wx.alloc o).heap.size ≤ g ∧ Below (wx.alloc o).heap.size (wx.alloc o) w2) :
    But (fun q => ∃ y, aj = some y ∧ y.block = q) wr w2 ∧ Bs w2 aj l ∧ (some ⟨g, 0, none⟩ = aj ∨ ∀ y, some (⟨g, 0, none⟩ : Addr) = some y → wr.heap.size ≤ y.block) := by
  have hsz := hin.size
  refine ⟨?_, ?_, ?_⟩
  · refine (hin.alloc o).trans (grown_but hg) ?_
    rintro q hq ⟨y, hy, e⟩
    rcases hgj with h | h
    · exact ⟨y, by rw [← h]; exact hy, e⟩
    · have := h y hy; omega
  · rcases hc with hc | ⟨_, hb⟩
    · rcases hgj with h | h
      · rw [← h, hc]
        rw [List.append_assoc] at hR hb8
        rcases hR.front with h7 | h7
        · exact h7.bs (fun z hz => hb8 z (List.mem_append_left _ hz)) hlen
        · cases h7
      · refine (hBs.keep ((Below.refl _ _).alloc (Nat.le_refl _) o)).but (grown_but hg) ?_
        rintro y hy _ ⟨z, hz, e⟩
        have h8 := h z hz
        have h9 := hlt y hy
        omega
    · exact (hBs.keep ((Below.refl _ _).alloc (Nat.le_refl _) o)).keep hb
  · rcases hc with hc | ⟨hc, _⟩
    · rw [← hc]
      rcases hgj with h | h
      · exact .inl h
      · exact .inr h
    · refine .inr fun y hy => ?_
      simp only [Option.some.injEq] at hy
      subst hy
      rw [size_alloc] at hc
      show _ ≤ g
      omega

set_option maxRecDepth 100000 in
set_option maxHeartbeats 8000000 in
theorem Apart_some (w : World) (at' : Option Addr) (ct n : Nat) (A : Nat → Option Addr) (C : Nat → Nat) (L : Nat → List Nat) (hAr : Ar w at' ct ((List.range n).map fun i => Value.slice (A i) (L i).length (C i))) (hR : RowsG w n A C L) (hd : Dist n A) (hn : n ≤ 2932031007410) (hl : ∀ i, i < n → (L i).length + 20 ≤ 140737488355328) :
    Calls Tryz.prog 17 #[.slice at' n ct] w fun x w' => x = .returned (.bool true) ∧ But (InRows n A) w w' := by
  have HA := hide hAr
  have HR := hide hR
  have HD := hide hd
  have HL := hide hl
  have arr : ∀ wx, But (InRows n A) w wx → ∀ i, i < n → ∃ g, at' = some ⟨g, 0, none⟩ ∧ wx.cell? ⟨g, i, none⟩ = some (.slice (A i) (L i).length (C i)) := by
    intro wx hb i hi
    refine (HA.out.but hb ?_).cell (by simp [hi])
    rintro x hx ⟨q, hq, y, hy, e⟩
    exact HA.out.ne (HR.out q hq) hx hy e.symm
  have ARR := hide arr
  clear hAr hR hd hl arr
  go_enter Tryz.func17, Tryz.ntmps17
  go_wp2
  go_loopw [3, 4] (fun i _ wx => ∃ j : Nat, j ≤ n ∧ i = .int .i64 j ∧ (RowsG wx n A C (fun i => if i < j then fl i (L i).length else L i) ∧ But (InRows n A) w wx)) (fun i _ _ => n - (intOf i).toNat)
  case atStart => exact ⟨0, Nat.zero_le _, rfl, HR.out.congr fun i _ => by simp, But.refl _ _⟩
  case round =>
    obtain ⟨j, hj, rfl, hG⟩ := hrel
    have HG := hide hG
    clear hG
    by_cases hlt : j < n
    · have hi : (j : Int) < (n : Int) := by omega
      obtain ⟨bt', hat, hc⟩ := ARR.out wr HG.out.2 j hlt
      subst hat
      have hlj := HL.out j hlt
      go_wp2
      go_loopw [4] (fun k' wx => ∃ k : Nat, k ≤ (L j).length ∧ k' = .int .i64 k ∧ (RowsG wx n A C (fun i => if i < j then fl i (L i).length else if i = j then fl j k ++ (L j).drop k else L i) ∧ But (InRows n A) w wx)) (fun k' _ => (L j).length - (intOf k').toNat)
      case atStart =>
        refine ⟨0, Nat.zero_le _, rfl, HG.out.1.congr fun i _ => ?_, HG.out.2⟩
        by_cases e : i = j
        · subst e; simp [fl]
        · simp [e]
      case round =>
        clear hc
        obtain ⟨k, hk, rfl, hG2⟩ := hrel
        have HG2 := hide hG2
        clear hG2
        obtain ⟨b2, e2, hc⟩ := ARR.out wr HG2.out.2 j hlt
        simp only [Option.some.injEq, Addr.mk.injEq] at e2
        obtain ⟨rfl, _⟩ := e2
        by_cases hlk : k < (L j).length
        · have hik : (k : Int) < ((L j).length : Int) := by omega
          have hrow := HG2.out.1 j hlt
          simp only [Nat.lt_irrefl, if_false, if_true] at hrow
          have hrl : (fl j k ++ (L j).drop k).length = (L j).length := by rw [List.length_append, fl_length, List.length_drop]; omega
          obtain ⟨g, hAj, _, _⟩ := hrow.addr2 (by rw [hrl]; omega)
          rw [hAj] at hc hrow
          have hcg := hrow.cell (i := k) (by rw [hrl]; exact hlk)
          have hfg : wr.frozen? ⟨g, k, none⟩ = false := by
            rcases hrow.cases with ⟨h0, _⟩ | ⟨g', cur, h0, hg', _⟩
            · cases h0
            · simp only [Option.some.injEq, Addr.mk.injEq] at h0
              obtain ⟨rfl, _⟩ := h0
              exact frozen_of_row wr g k _ _ hg'
          have hmk : ((j : Int) * 31 + (k : Int) * 7 + 1) % 256 = ((mkA j k : Nat) : Int) := by unfold mkA; omega
          have HSS := hide (set_step j k (L j) hlk)
          have HAJ := hide hAj
          clear hAj hrow hrl
          generalize hx : (fl j k ++ (L j).drop k).getD k 0 = x at *
          clear hx
          generalize mkA j k = mm at *
          go_wp2
          go_roundw
          case rel =>
            refine ⟨k + 1, by omega, by go_num, (HG2.out.1.set HD.out hlt HAJ.out k mm).congr fun i hi => ?_, HG2.out.2.setCell (p := ⟨g, k, none⟩) (fun _ => ⟨j, hlt, _, HAJ.out, rfl⟩) _⟩
            by_cases e : i = j
            · subst e; simp only [if_true, Nat.lt_irrefl, if_false]; exact HSS.out
            · simp only [e, if_false]
          case measure => simp [intOf]; omega
        · obtain rfl : k = (L j).length := by omega
          go_wp2
          go_roundw
          case rel =>
            refine ⟨j + 1, by omega, by go_num, HG2.out.1.congr fun i hi => ?_, HG2.out.2⟩
            by_cases e : i = j
            · subst e; simp
            · by_cases e2 : i < j
              · rw [if_pos e2, if_pos (by omega)]
              · rw [if_neg e2, if_neg e, if_neg (by omega)]
          case measure => simp [intOf]; omega
    · obtain rfl : n = j := by omega
      have hA0 : ∀ i, i < n → ∀ x, A i = some x → x.block < w.heap.size := fun i hi x hx => (HR.out i hi).lt hx
      have HA0 := hide hA0
      have H1 : Hid (P2 w wr n A C (fun i => (L i).length) 0 none 0 (fun _ => none) (fun _ => 0)) := ⟨Ar.nil _, fun i hi => by omega, fun i _ hi => by have := HG.out.1 i hi; dsimp only at this; rwa [if_pos hi] at this, fun i i' _ hi' => by omega, HG.out.2, New.none _ _⟩
      clear hA0 HG
      go_wp2
      go_loopw [5, 6, 7, 8] (fun gr i _ _ wx => ∃ (j : Nat) (ag : Option Addr) (cg : Nat) (B : Nat → Option Addr) (D : Nat → Nat), j ≤ n ∧ i = .int .i64 j ∧ gr = .slice ag j cg ∧ P2 w wx n A C (fun i => (L i).length) j ag cg B D) (fun _ i _ _ _ => n - (intOf i).toNat)
      case atStart => exact ⟨0, none, 0, _, _, Nat.zero_le _, rfl, rfl, H1.out⟩
      case round =>
        clear H1
        obtain ⟨j, ag, cg, B, D, hj, rfl, rfl, hP⟩ := hrel
        have HP := hide hP
        clear hP
        by_cases hlt : j < n
        · have hi : (j : Int) < (n : Int) := by omega
          have hlj := HL.out j hlt
          obtain ⟨bt', hat, hc⟩ := ARR.out wr HP.out.2.2.2.2.1 j hlt
          subst hat
          have hrow0 := HP.out.2.2.1 j (Nat.le_refl _) hlt
          have HROW0 := hide hrow0
          have HBS0 := hide (hrow0.bs (fl_lt _ _) hrow0.len_le)
          have HLTJ : Hid (∀ y, A j = some y → y.block < wr.heap.size) := fun y hy => hrow0.lt hy
          have HARW : Hid (∀ wx, But (fun q => ∃ y, A j = some y ∧ y.block = q) wr wx → wx.cell? ⟨bt', j, none⟩ = some (.slice (A j) (L j).length (C j))) := fun wx hb => by
            obtain ⟨b2, e2, h2⟩ := ARR.out wx (HP.out.2.2.2.2.1.trans hb fun x _ ⟨y, hy, e⟩ => ⟨j, hlt, y, hy, e⟩) j hlt
            simp only [Option.some.injEq, Addr.mk.injEq] at e2
            obtain ⟨rfl, _⟩ := e2
            exact h2
          clear hrow0
          go_wp2
          generalize hW : wr = W at *
          go_loopw [7, 8] (fun gv k' wx => ∃ (k : Nat) (gj : Option Addr) (cj : Nat), k ≤ 20 ∧ k' = .int .i64 k ∧ gv = .slice gj ((L j).length + k) cj ∧ (Rw wx gj cj (fl j ((L j).length + k)) ∧ (But (fun q => ∃ y, A j = some y ∧ y.block = q) W wx ∧ Bs wx (A j) (fl j (L j).length) ∧ (gj = A j ∨ ∀ y, gj = some y → W.heap.size ≤ y.block)))) (fun _ k' _ => 20 - (intOf k').toNat)
          case atStart => exact ⟨0, A j, C j, by decide, rfl, rfl, HROW0.out, But.refl _ _, HBS0.out, .inl rfl⟩
          case round =>
            clear hc
            obtain ⟨k, gj, cj, hk, rfl, rfl, hG⟩ := hrel
            have HG := hide hG
            clear hG
            by_cases hlk : k < 20
            · have hik : (k : Int) < 20 := by omega
              have hc := HARW.out wr HG.out.2.1
              have hbt := block_lt_of_cell hc
              have hmk : ((j : Int) * 31 + (((L j).length : Int) + (k : Int)) * 7 + 1) % 256 = ((mkA j ((L j).length + k) : Nat) : Int) := by unfold mkA; omega
              have HS : Hid (fl j ((L j).length + k) ++ [mkA j ((L j).length + k)] = fl j ((L j).length + (k + 1))) := (fl_succ j ((L j).length + k)).symm
              have HSP : Hid (∃ m, fl j ((L j).length + k) = fl j (L j).length ++ m) := ⟨(fl j ((L j).length + k)).drop (L j).length, by
                have e : (fl j ((L j).length + k)).take (L j).length = fl j (L j).length := by simp [fl, ← List.map_take, List.take_range]
                rw [← e]; exact (List.take_append_drop _ _).symm⟩
              have HM8 : Hid (mkA j ((L j).length + k) < 256) := Nat.mod_lt _ (by decide)
              have HF8 := hide (fl_lt j ((L j).length + k))
              have hz := fl_length j ((L j).length + k)
              have hzn := fl_length j (L j).length
              generalize mkA j ((L j).length + k) = mm at *
              generalize fl j ((L j).length + k) = FL at *
              go_wp2_with (at_builtin; refine wpList_ap1' rfl _ _ rfl gj ((L j).length + k) cj FL ?q1 hz.symm (HG.out.1.keep ((Below.refl _ _).alloc (Nat.le_refl _) _)) ⟨wr.heap.size, 0, none⟩ 1 mm ?q2 ?q3 (by omega) ?_)
              try case q1 => rfl
              try case q2 => rfl
              try case q3 => simp
              intro g cap' w2 hR hN hg hcase
              obtain ⟨m, hm⟩ := HSP.out
              have hst := inner_step (m := m) (x := mm) HLTJ.out (by rw [← hm]; intro z hz'; rcases List.mem_append.1 hz' with h | h; exact HF8.out z h; rw [List.mem_singleton] at h; have := HM8.out; omega) (by omega) HG.out.2.1 HG.out.2.2.1 HG.out.2.2.2 (by rw [← hm]; exact hR) hg (by rw [size_alloc]; exact hcase)
              rw [HS.out] at hR
              have HR2 := hide hR
              have HST := hide hst
              clear hR hN hg hcase hst hm
              go_wp2
              go_roundw
              case rel => exact ⟨k + 1, _, cap', by omega, by go_num, rfl, HR2.out, HST.out⟩
              case measure => simp [intOf]; omega
            · obtain rfl : k = 20 := by omega
              have hAgx : Ar wr ag cg ((List.range j).map fun i => Value.slice (B i) ((L i).length + 20) (D i)) := HP.out.1.but HG.out.2.1 fun x hx ⟨y, hy, e⟩ => HP.out.1.ne HROW0.out hx hy e.symm
              have hvl : ((List.range j).map fun i => Value.slice (B i) ((L i).length + 20) (D i)).length = j := by simp
              have HAG := hide hAgx
              have HNX : Hid (∀ w3 ag' cg' o, Ar w3 ag' cg' (((List.range j).map fun i => Value.slice (B i) ((L i).length + 20) (D i)) ++ [.slice gj ((L j).length + 20) cj]) → New (wr.alloc o) ag ag' → (wr.alloc o).grownBy w3 (ag.map Addr.block) → P2 w w3 n A C (fun i => (L i).length) (j + 1) ag' cg' (fun i => if i = j then gj else B i) (fun i => if i = j then cj else D i)) :=
                fun w3 ag' cg' o h1 h2 h3 => HP.out.next HD.out HA0.out hlt HG.out.2.1 HG.out.1 HG.out.2.2.1 HG.out.2.2.2 h1 h2 h3
              clear hAgx
              generalize ((List.range j).map fun i => Value.slice (B i) ((L i).length + 20) (D i)) = vs at *
              go_wp2_with (at_builtin; refine wpList_apRows rfl _ _ rfl ag j cg vs ?r1 hvl.symm (HAG.out.keep ((Below.refl _ _).alloc (Nat.le_refl _) _)) ⟨wr.heap.size, 0, none⟩ 1 (.slice gj ((L j).length + 20) cj) ?r2 ?r3 rfl (by omega) ?_)
              try case r1 => rfl
              try case r2 => rfl
              try case r3 => simp
              intro g cap' w2 hR hN hg
              have HQ := hide (HNX.out w2 _ cap' _ hR hN hg)
              clear hR hN hg
              go_wp2
              go_roundw
              case rel => exact ⟨j + 1, _, cap', _, _, by omega, by go_num, rfl, HQ.out⟩
              case measure => simp [intOf]; omega
        · obtain rfl : n = j := by omega
          go_wp2
          generalize hW : wr = W at *
          go_loopw [9, 10, 11] (fun i _ _ wx => ∃ j : Nat, j ≤ n ∧ i = .int .i64 j ∧ wx = W) (fun i _ _ _ => n - (intOf i).toNat)
          case atStart => exact ⟨0, Nat.zero_le _, rfl, rfl⟩
          case round =>
            obtain ⟨j, hj, rfl, hwW⟩ := hrel
            subst hwW
            by_cases hlt : j < n
            · have hi : (j : Int) < (n : Int) := by omega
              have hlj := HL.out j hlt
              obtain ⟨bt', hat, hc⟩ := ARR.out _ HP.out.2.2.2.2.1 j hlt
              obtain ⟨gg, hag, hcg⟩ := HP.out.1.cell (i := j) (v := .slice (B j) ((L j).length + 20) (D j)) (by simp [hlt])
              subst hat hag
              obtain ⟨hrow, hbs, _⟩ := HP.out.2.1 j hlt
              obtain ⟨g, hBj, hle, hmx⟩ := hrow.addr2 (by rw [fl_length]; omega)
              rw [hBj] at hcg hrow
              have HROW := hide hrow
              have HBS := hide hbs
              clear hrow hbs hBj
              unfold maxLen at hmx
              rw [fl_length] at hle
              go_wp2
              go_loopw [10, 11] (fun k' _ wx => ∃ k : Nat, k ≤ (L j).length + 20 ∧ k' = .int .i64 k ∧ wx = wr) (fun k' _ _ => (L j).length + 20 - (intOf k').toNat)
              case atStart => exact ⟨0, Nat.zero_le _, rfl, rfl⟩
              case round =>
                obtain ⟨k, hk, rfl, hwW⟩ := hrel
                subst hwW
                by_cases hlk : k < (L j).length + 20
                · have hik : (k : Int) < ((L j).length : Int) + 20 := by omega
                  have hcell := HROW.out.cell (i := k) (by rw [fl_length]; exact hlk)
                  rw [fl_get j _ k hlk] at hcell
                  have hmk : ((j : Int) * 31 + (k : Int) * 7 + 1) % 256 = ((mkA j k : Nat) : Int) := by unfold mkA; omega
                  by_cases hkl : k < (L j).length
                  · have hkl2 : (k : Int) < ((L j).length : Int) := by omega
                    obtain ⟨ba, oa, hAj, hca⟩ := HBS.out.at (j := k) (by rw [fl_length]; exact hkl)
                    rw [fl_get j _ k hkl] at hca
                    rw [hAj] at hc
                    generalize mkA j k = mm at *
                    go_wp2
                    go_roundw
                    case rel => exact ⟨k + 1, by omega, by go_num, trivial⟩
                    case measure => simp [intOf]; omega
                  · have hkl2 : ¬ (k : Int) < ((L j).length : Int) := by omega
                    generalize mkA j k = mm at *
                    go_wp2
                    go_roundw
                    case rel => exact ⟨k + 1, by omega, by go_num, trivial⟩
                    case measure => simp [intOf]; omega
                · obtain rfl : k = (L j).length + 20 := by omega
                  go_wp2
                  go_roundw
                  case rel => exact ⟨j + 1, by omega, by go_num, trivial⟩
                  case measure => simp [intOf]; omega
            · obtain rfl : n = j := by omega
              go_wp2
              go_ret
              exact ⟨rfl, HP.out.2.2.2.2.1⟩
end Go.Proofs.YtlneomgjjkfnoabGreat

namespace Go.Proofs.YtlneomgjjkfnoabGreat
open Go.RowKit

theorem Ig.cases {w : World} {a : Option Addr} {cap : Nat} {l : List Int} (h : Ig w a cap l) : (a = none ∧ cap = 0 ∧ l = []) ∨
    ∃ g cur, a = some ⟨g, 0, none⟩ ∧ w.heap[g]? = some (.cells cur 3 (0, 0)) ∧ l.length ≤ cap ∧ cap ≤ maxLen ∧ cur.size = cap ∧ cur.toList.take l.length = vi l := by
  obtain ⟨_, h2⟩ := h
  rcases h2 with ⟨hv, h0⟩ | ⟨g, cap', cur, hv, _, hg, hn, hm, hs, ht⟩
  · simp only [Value.slice.injEq] at hv
    exact .inl ⟨hv.1, hv.2.2, List.length_eq_zero_iff.1 h0⟩
  · simp only [Value.slice.injEq] at hv
    obtain ⟨h1, _, rfl⟩ := hv
    exact .inr ⟨g, cur, h1, hg, hn, hm, by omega, by rw [Nat.mul_one] at ht; exact ht⟩
theorem Ig.mk {w : World} {g cap : Nat} {cur : Array Value} {l : List Int} (hg : w.heap[g]? = some (.cells cur 3 (0, 0))) (hn : l.length ≤ cap) (hm : cap ≤ maxLen) (hs : cur.size = cap) (ht : cur.toList.take l.length = vi l) : Ig w (some ⟨g, 0, none⟩) cap l :=
  ⟨by rw [vi_length, Nat.mul_one], .inr ⟨g, cap, cur, rfl, Nat.zero_le _, hg, hn, hm, by omega, by rw [Nat.mul_one]; exact ht⟩⟩
theorem Ig.lt {w : World} {a : Option Addr} {cap : Nat} {l : List Int} (h : Ig w a cap l) {x : Addr} (hx : a = some x) : x.block < w.heap.size := by
  rcases h.cases with ⟨rfl, _⟩ | ⟨g, cur, rfl, hg, _⟩
  · cases hx
  · cases hx; exact (Array.getElem?_eq_some_iff.1 hg).1
theorem Ig.cell {w : World} {g cap : Nat} {l : List Int} (h : Ig w (some ⟨g, 0, none⟩) cap l) {i : Nat} (hi : i < l.length) : w.cell? ⟨g, i, none⟩ = some (.int .i64 (l.getD i 0)) := by
  rcases h.cases with ⟨h0, _⟩ | ⟨g', cur, h0, hg, h1, h2, h3, h4⟩
  · cases h0
  · simp only [Option.some.injEq, Addr.mk.injEq] at h0
    obtain ⟨rfl, _⟩ := h0
    rw [cell_of_row _ _ _ _ _ _ hg, ← vi_get l i hi, ← h4, List.getElem?_take, if_pos hi]
    simp
theorem Ig.len_le {w : World} {a : Option Addr} {cap : Nat} {l : List Int} (h : Ig w a cap l) : l.length ≤ 9223372036854775807 := by
  rcases h.cases with ⟨rfl, rfl, rfl⟩ | ⟨g, cur, rfl, hg, h1, h2, h3, h4⟩
  · simp
  · unfold maxLen at h2; omega
theorem Ig.set {w : World} {g cap : Nat} {l : List Int} (h : Ig w (some ⟨g, 0, none⟩) cap l) (k : Nat) (v : Int) : Ig (w.setCell ⟨g, k, none⟩ (.int .i64 v)) (some ⟨g, 0, none⟩) cap (l.set k v) := by
  rcases h.cases with ⟨h0, _⟩ | ⟨g', cur, h0, hg, h1, h2, h3, h4⟩
  · cases h0
  · simp only [Option.some.injEq, Addr.mk.injEq] at h0
    obtain ⟨rfl, _⟩ := h0
    refine Ig.mk (heap_setCell_same w g k _ _ _ hg) (by rw [List.length_set]; exact h1) h2 (by simpa using h3) ?_
    rw [List.length_set, Array.toList_setIfInBounds, List.take_set, h4]
    simp only [vi, List.map_set]
theorem infoIntL : (Tryz.prog.info? 33).map (fun i => (i.zero, i.size, i.bytes)) = some (some (.slice none 0 0), 1, 24) := by kernel_rfl

/-- one byte is appended: in place, or the old memory is as it was -/
theorem run_apI' (w : World) (ty : TypeId) (a : Option Addr) (n cap : Nat) (l : List Int) (hn : n = l.length) (hR : Ig w a cap l) (ad : Addr) (c : Nat) (x : Int) (hc : w.cell? ad = some (.int .i64 x)) (hlen : l.length + 1 ≤ 268435457) :
    ∃ g cap' w', (Builtin.append_ #[33, 33] ty #[.slice a n cap, .slice (some ad) 1 c]).run Tryz.prog w = .ok (.slice (some ⟨g, 0, none⟩) (n + 1) cap') w' ∧
      Ig w' (some ⟨g, 0, none⟩) cap' (l ++ [x]) ∧ New w a (some ⟨g, 0, none⟩) ∧ w.grownBy w' (a.map Addr.block) ∧ (a = some ⟨g, 0, none⟩ ∨ w.heap.size ≤ g ∧ Below w.heap.size w w') := by
  obtain ⟨g, cap', w', hr, h1, h2, h3, h4⟩ := run_apI w ty a n cap l hn hR ad c x hc (by omega)
  refine ⟨g, cap', w', hr, h1, h2, h3, ?_⟩
  subst hn
  obtain ⟨i0, hi, hz0, hz1, hz2⟩ := info_parts infoI64
  have hnews : ∀ j u, ([.int .i64 x] : List Value)[j]? = some u → w.cell? (ad.add j) = some u := by
    intro j u hj
    match j, hj with
    | 0, hj => simp at hj; subst hj; simpa [Addr.add] using hc
  rcases hR.cases with ⟨rfl, rfl, rfl⟩ | ⟨g', cur, rfl, hg, k1, k2, k3, k4⟩
  · have hr2 := run_append_nil (P := Tryz.prog) w 33 ty 3 i0 (.int .i64 0) Tryz.underlying33 hi hz0 ad 1 c [.int .i64 x] (by rw [hz1]; rfl) hnews (by decide) (by decide) (by rw [hz2]; decide)
    rw [show ([] : List Int).length = 0 from rfl, hr2] at hr
    simp only [Result.ok.injEq, Value.slice.injEq, Option.some.injEq, Addr.mk.injEq] at hr
    obtain ⟨⟨⟨rfl, _⟩, _⟩, rfl⟩ := hr
    exact .inr ⟨Nat.le_refl _, ⟨rfl, rfl, rfl, by simp, fun k hk => heap_alloc_old w.drew _ hk⟩⟩
  · by_cases hroom : l.length + 1 ≤ cap
    · have hr2 := run_append_room (P := Tryz.prog) w 33 ty 3 i0 Tryz.underlying33 hi g' l.length cap cur hg ad 1 c [.int .i64 x] (by rw [hz1]; rfl) hnews (by intro u hu; simp at hu; subst hu; rfl) hroom (by rw [hz1]; show l.length * 1 + 1 ≤ cur.size; omega)
      rw [hr2] at hr
      simp only [Result.ok.injEq, Value.slice.injEq, Option.some.injEq, Addr.mk.injEq] at hr
      obtain ⟨⟨⟨rfl, _⟩, _⟩, rfl⟩ := hr
      exact .inl rfl
    · have holds : ∀ j u, (vi l)[j]? = some u → w.cell? ((⟨g', 0, none⟩ : Addr).add j) = some u := hR.cells (g := g') rfl
      have hr2 := run_append_grow (P := Tryz.prog) w 33 ty 3 i0 (.int .i64 0) Tryz.underlying33 hi hz0 ⟨g', 0, none⟩ l.length cap (vi l) (by rw [vi_length, hz1, Nat.mul_one]) holds ad 1 c [.int .i64 x] (by rw [hz1]; rfl) hnews (by omega) (by omega) (growslice_fits (by omega) (by rw [hz2]; omega))
      rw [hr2] at hr
      simp only [Result.ok.injEq, Value.slice.injEq, Option.some.injEq, Addr.mk.injEq] at hr
      obtain ⟨⟨⟨rfl, _⟩, _⟩, rfl⟩ := hr
      exact .inr ⟨Nat.le_refl _, ⟨rfl, rfl, rfl, by simp, fun k hk => heap_alloc_old w.drew _ hk⟩⟩
theorem wpList_apI' {w : World} {ops : Array Oper} {rest : List Oper} {o : Oper} {a : Act} {Q : Exit → Act → World → Prop} (hgd : o.guard = none) (s x : Operand)
    (ho : o.op = .call { callee := .builtin .append, args := #[s, x], argTypes := #[33, 33] }) (ao : Option Addr) (n cap : Nat) (l : List Int) (hs : a.eval s = .slice ao n cap) (hn : n = l.length) (hR : Ig w ao cap l)
    (ad : Addr) (c : Nat) (xx : Int) (hx : a.eval x = .slice (some ad) 1 c) (hc : w.cell? ad = some (.int .i64 xx)) (hlen : l.length + 1 ≤ 268435457)
    (h : ∀ g cap' w', Ig w' (some ⟨g, 0, none⟩) cap' (l ++ [xx]) → New w ao (some ⟨g, 0, none⟩) → w.grownBy w' (ao.map Addr.block) → (ao = some ⟨g, 0, none⟩ ∨ w.heap.size ≤ g ∧ Below w.heap.size w w') → wpList Tryz.prog ops Q rest (a.put o.dst (.slice (some ⟨g, 0, none⟩) (n + 1) cap')) w') : wpList Tryz.prog ops Q (o :: rest) a w := by
  refine wpList_plain hgd fun K hK => ?_
  obtain ⟨g, cap', w', hr, h1, h2, h3, h4⟩ := run_apI' w o.type ao n cap l hn hR ad c xx hc hlen
  unfold Oper.wp execOp
  simp only [ho, resolve, invoke, builtin, Sem.run_bind, Sem.run_pure, Result.andThen_ok, List.map_toArray, List.map_cons, List.map_nil, hs, hx, hr]
  exact hK _ _ (h g cap' w' h1 h2 h3 h4)

/-- lists of bytes in a row of their own -/
def Ai (w : World) (at' : Option Addr) (ct : Nat) (vs : List Value) : Prop := w.ownsRow 0 33 1 (.slice at' vs.length ct) vs.length vs
theorem Ai.nil (w : World) : Ai w none 0 [] := World.ownsRow_nil w 0 33 1
theorem Ai.cases {w : World} {a : Option Addr} {cap : Nat} {vs : List Value} (h : Ai w a cap vs) : (a = none ∧ cap = 0 ∧ vs = []) ∨
    ∃ g cur, a = some ⟨g, 0, none⟩ ∧ w.heap[g]? = some (.cells cur 33 (0, 0)) ∧ vs.length ≤ cap ∧ cap ≤ maxLen ∧ cur.size = cap ∧ cur.toList.take vs.length = vs := by
  obtain ⟨_, h2⟩ := h
  rcases h2 with ⟨hv, h0⟩ | ⟨g, cap', cur, hv, _, hg, hn, hm, hs, ht⟩
  · simp only [Value.slice.injEq] at hv
    exact .inl ⟨hv.1, hv.2.2, List.length_eq_zero_iff.1 h0⟩
  · simp only [Value.slice.injEq] at hv
    obtain ⟨h1, _, rfl⟩ := hv
    exact .inr ⟨g, cur, h1, hg, hn, hm, by omega, by rw [Nat.mul_one] at ht; exact ht⟩
theorem Ai.mk {w : World} {g cap : Nat} {cur : Array Value} {vs : List Value} (hg : w.heap[g]? = some (.cells cur 33 (0, 0))) (hn : vs.length ≤ cap) (hm : cap ≤ maxLen) (hs : cur.size = cap) (ht : cur.toList.take vs.length = vs) : Ai w (some ⟨g, 0, none⟩) cap vs :=
  ⟨by rw [Nat.mul_one], .inr ⟨g, cap, cur, rfl, Nat.zero_le _, hg, hn, hm, by omega, by rw [Nat.mul_one]; exact ht⟩⟩
theorem Ai.lt {w : World} {a : Option Addr} {cap : Nat} {vs : List Value} (h : Ai w a cap vs) {x : Addr} (hx : a = some x) : x.block < w.heap.size := by
  rcases h.cases with ⟨rfl, _⟩ | ⟨g, cur, rfl, hg, _⟩
  · cases hx
  · cases hx; exact (Array.getElem?_eq_some_iff.1 hg).1
theorem Ai.but {S : Nat → Prop} {w w' : World} {a : Option Addr} {cap : Nat} {vs : List Value} (h : Ai w a cap vs) (hb : But S w w') (hn : ∀ x, a = some x → ¬ S x.block) : Ai w' a cap vs := by
  rcases h.cases with ⟨rfl, rfl, rfl⟩ | ⟨g, cur, rfl, hg, h1, h2, h3, h4⟩
  · exact Ai.nil w'
  · exact Ai.mk ((hb.block g (Array.getElem?_eq_some_iff.1 hg).1 (hn _ rfl)).trans hg) h1 h2 h3 h4
theorem Ai.keep {w w' : World} {a : Option Addr} {cap : Nat} {vs : List Value} (h : Ai w a cap vs) (hb : Below w.heap.size w w') : Ai w' a cap vs :=
  h.but (S := fun _ => False) (But.ofBelow hb) (fun _ _ hf => hf)
theorem Ai.cell {w : World} {a : Option Addr} {cap : Nat} {vs : List Value} (h : Ai w a cap vs) {i : Nat} {v : Value} (hi : vs[i]? = some v) : ∃ g, a = some ⟨g, 0, none⟩ ∧ w.cell? ⟨g, i, none⟩ = some v := by
  rcases h.cases with ⟨rfl, rfl, rfl⟩ | ⟨g, cur, rfl, hg, h1, h2, h3, h4⟩
  · cases hi
  · refine ⟨g, rfl, ?_⟩
    have hlt := (List.getElem?_eq_some_iff.1 hi).1
    have e : (cur.toList.take vs.length)[i]? = some v := by rw [h4]; exact hi
    rw [List.getElem?_take, if_pos hlt] at e
    rw [cell_of_row _ _ _ _ _ _ hg, ← e]
    simp
/-- the array of lists is no list of bytes -/
theorem Ai.ne {w : World} {a a' : Option Addr} {cap cap' : Nat} {vs : List Value} {l : List Int} (h : Ai w a cap vs) (hR : Ig w a' cap' l) {x y : Addr} (hx : a = some x) (hy : a' = some y) : x.block ≠ y.block := by
  rcases h.cases with ⟨rfl, _⟩ | ⟨g, cur, rfl, hg, _⟩
  · cases hx
  rcases hR.cases with ⟨rfl, _⟩ | ⟨g', cur', rfl, hg', _⟩
  · cases hy
  simp only [Option.some.injEq] at hx hy
  subst hx hy
  show g ≠ g'
  intro e
  subst e
  rw [hg] at hg'
  simp at hg'
theorem run_apIntL (w : World) (ty : TypeId) (a : Option Addr) (n cap : Nat) (vs : List Value) (hn : n = vs.length) (hR : Ai w a cap vs) (ad : Addr) (c : Nat) (v : Value) (hc : w.cell? ad = some v) (h1 : v.oneCell' = true) (hlen : (vs.length + 1) * 24 ≤ 140737488355328) :
    ∃ g cap' w', (Builtin.append_ #[46, 46] ty #[.slice a n cap, .slice (some ad) 1 c]).run Tryz.prog w = .ok (.slice (some ⟨g, 0, none⟩) (n + 1) cap') w' ∧
      Ai w' (some ⟨g, 0, none⟩) cap' (vs ++ [v]) ∧ New w a (some ⟨g, 0, none⟩) ∧ w.grownBy w' (a.map Addr.block) := by
  subst hn
  obtain ⟨i0, hi, hz0, hz1, hz2⟩ := info_parts infoIntL
  obtain ⟨g, cap', w', hr, k1, k2, k3, k4⟩ := run_append_lies (P := Tryz.prog) w 46 ty 0 33 i0 (.slice none 0 0) 1 24 Tryz.underlying46 hi hz0 hz1 hz2 rfl (by decide) (.slice a vs.length cap) vs.length vs hR ad 1 c [v] rfl
    (by intro j u hj
        match j, hj with
        | 0, hj => simp at hj; subst hj; simpa [Addr.add] using hc) (by intro u hu; simp at hu; subst hu; exact h1) (by decide) (by unfold maxLen; omega) hlen (Nat.zero_le _) w.heap.size rfl
  rw [ob_eq] at k2 k3
  refine ⟨g, cap', w', hr, ?_, ?_, k2⟩
  · unfold Ai
    rw [List.length_append]
    exact k1
  · intro y hy
    simp only [Option.some.injEq] at hy
    subst hy
    rcases k3 with k3 | k3
    · obtain ⟨z, hz, e⟩ := map_some k3
      exact .inl ⟨z, hz, e⟩
    · exact .inr (by show _ ≤ g; omega)
theorem wpList_apIntL {w : World} {ops : Array Oper} {rest : List Oper} {o : Oper} {a : Act} {Q : Exit → Act → World → Prop} (hgd : o.guard = none) (s x : Operand)
    (ho : o.op = .call { callee := .builtin .append, args := #[s, x], argTypes := #[46, 46] }) (ao : Option Addr) (n cap : Nat) (vs : List Value) (hs : a.eval s = .slice ao n cap) (hn : n = vs.length) (hR : Ai w ao cap vs)
    (ad : Addr) (c : Nat) (v : Value) (hx : a.eval x = .slice (some ad) 1 c) (hc : w.cell? ad = some v) (h1 : v.oneCell' = true) (hlen : (vs.length + 1) * 24 ≤ 140737488355328)
    (h : ∀ g cap' w', Ai w' (some ⟨g, 0, none⟩) cap' (vs ++ [v]) → New w ao (some ⟨g, 0, none⟩) → w.grownBy w' (ao.map Addr.block) → wpList Tryz.prog ops Q rest (a.put o.dst (.slice (some ⟨g, 0, none⟩) (n + 1) cap')) w') : wpList Tryz.prog ops Q (o :: rest) a w := by
  refine wpList_plain hgd fun K hK => ?_
  obtain ⟨g, cap', w', hr, k1, k2, k3⟩ := run_apIntL w o.type ao n cap vs hn hR ad c v hc h1 hlen
  unfold Oper.wp execOp
  simp only [ho, resolve, invoke, builtin, Sem.run_bind, Sem.run_pure, Result.andThen_ok, List.map_toArray, List.map_cons, List.map_nil, hs, hx, hr]
  exact hK _ _ (h g cap' w' k1 k2 k3)

theorem Ig.front {w : World} {a : Option Addr} {cap : Nat} {l m : List Int} (h : Ig w a cap (l ++ m)) : Ig w a cap l ∨ a = none := by
  rcases h.cases with ⟨rfl, rfl, hn⟩ | ⟨g, cur, rfl, hg, h1, h2, h3, h4⟩
  · exact .inr rfl
  · refine .inl (Ig.mk hg (by rw [List.length_append] at h1; omega) h2 h3 ?_)
    have e := congrArg (List.take l.length) h4
    rw [List.take_take, List.length_append, Nat.min_eq_left (by omega), vi_append, List.take_left' (vi_length l)] at e
    exact e
theorem Ig.addr2 {w : World} {a : Option Addr} {cap : Nat} {l : List Int} (h : Ig w a cap l) (hl : 0 < l.length) : ∃ g, a = some ⟨g, 0, none⟩ ∧ l.length ≤ cap ∧ cap ≤ maxLen := by
  rcases h.cases with ⟨rfl, rfl, rfl⟩ | ⟨g, cur, rfl, hg, h1, h2, h3, h4⟩
  · simp at hl
  · exact ⟨g, rfl, h1, h2⟩
/-- lists are appended -/
theorem run_apAiL (w : World) (ty : TypeId) (a : Option Addr) (n cap : Nat) (vs : List Value) (hn : n = vs.length) (hR : Ai w a cap vs) (ad : Addr) (m c : Nat) (us : List Value) (hm : m = us.length) (hc : ∀ j u, us[j]? = some u → w.cell? (ad.add j) = some u) (h1 : ∀ u ∈ us, u.oneCell' = true) (hp : 0 < us.length) (hlen : (vs.length + us.length) * 24 ≤ 140737488355328) :
    ∃ g cap' w', (Builtin.append_ #[46, 46] ty #[.slice a n cap, .slice (some ad) m c]).run Tryz.prog w = .ok (.slice (some ⟨g, 0, none⟩) (n + m) cap') w' ∧
      Ai w' (some ⟨g, 0, none⟩) cap' (vs ++ us) ∧ New w a (some ⟨g, 0, none⟩) ∧ w.grownBy w' (a.map Addr.block) := by
  subst hn hm
  obtain ⟨i0, hi, hz0, hz1, hz2⟩ := info_parts infoIntL
  obtain ⟨g, cap', w', hr, k1, k2, k3, k4⟩ := run_append_lies (P := Tryz.prog) w 46 ty 0 33 i0 (.slice none 0 0) 1 24 Tryz.underlying46 hi hz0 hz1 hz2 rfl (by decide) (.slice a vs.length cap) vs.length vs hR ad us.length c us (by rw [Nat.mul_one])
    hc h1 hp (by unfold maxLen; omega) hlen (Nat.zero_le _) w.heap.size rfl
  rw [ob_eq] at k2 k3
  refine ⟨g, cap', w', hr, ?_, ?_, k2⟩
  · unfold Ai
    rw [List.length_append]
    exact k1
  · intro y hy
    simp only [Option.some.injEq] at hy
    subst hy
    rcases k3 with k3 | k3
    · obtain ⟨z, hz, e⟩ := map_some k3
      exact .inl ⟨z, hz, e⟩
    · exact .inr (by show _ ≤ g; omega)
theorem wp_apAiL {w : World} {o : Oper} {a : Act} {K : Act → World → Prop} {Q : Exit → Act → World → Prop} (s x : Operand)
    (ho : o.op = .call { callee := .builtin .append, args := #[s, x], argTypes := #[46, 46] }) (ao : Option Addr) (n cap : Nat) (vs : List Value) (hs : a.eval s = .slice ao n cap) (hn : n = vs.length) (hR : Ai w ao cap vs)
    (ad : Addr) (m c : Nat) (us : List Value) (hx : a.eval x = .slice (some ad) m c) (hm : m = us.length) (hc : ∀ j u, us[j]? = some u → w.cell? (ad.add j) = some u) (h1 : ∀ u ∈ us, u.oneCell' = true) (hp : 0 < us.length) (hlen : (vs.length + us.length) * 24 ≤ 140737488355328)
    (h : ∀ g cap' w', Ai w' (some ⟨g, 0, none⟩) cap' (vs ++ us) → New w ao (some ⟨g, 0, none⟩) → w.grownBy w' (ao.map Addr.block) → K (a.put o.dst (.slice (some ⟨g, 0, none⟩) (n + m) cap')) w') : o.wp Tryz.prog a w K Q := by
  obtain ⟨g, cap', w', hr, k1, k2, k3⟩ := run_apAiL w o.type ao n cap vs hn hR ad m c us hm hc h1 hp hlen
  unfold Oper.wp execOp
  simp only [ho, resolve, invoke, builtin, Sem.run_bind, Sem.run_pure, Result.andThen_ok, List.map_toArray, List.map_cons, List.map_nil, hs, hx, hr]
  exact h g cap' w' k1 k2 k3
theorem wpList_apAiL {w : World} {ops : Array Oper} {rest : List Oper} {o : Oper} {a : Act} {Q : Exit → Act → World → Prop} (hgd : o.guard = none) (s x : Operand)
    (ho : o.op = .call { callee := .builtin .append, args := #[s, x], argTypes := #[46, 46] }) (ao : Option Addr) (n cap : Nat) (vs : List Value) (hs : a.eval s = .slice ao n cap) (hn : n = vs.length) (hR : Ai w ao cap vs)
    (ad : Addr) (m c : Nat) (us : List Value) (hx : a.eval x = .slice (some ad) m c) (hm : m = us.length) (hc : ∀ j u, us[j]? = some u → w.cell? (ad.add j) = some u) (h1 : ∀ u ∈ us, u.oneCell' = true) (hp : 0 < us.length) (hlen : (vs.length + us.length) * 24 ≤ 140737488355328)
    (h : ∀ g cap' w', Ai w' (some ⟨g, 0, none⟩) cap' (vs ++ us) → New w ao (some ⟨g, 0, none⟩) → w.grownBy w' (ao.map Addr.block) → wpList Tryz.prog ops Q rest (a.put o.dst (.slice (some ⟨g, 0, none⟩) (n + m) cap')) w') : wpList Tryz.prog ops Q (o :: rest) a w :=
  wpList_plain hgd fun _ hK => wp_apAiL s x ho ao n cap vs hs hn hR ad m c us hx hm hc h1 hp hlen fun g cap' w' k1 k2 k3 => hK _ _ (h g cap' w' k1 k2 k3)
theorem Ir.but {T : Nat → Prop} {w w' : World} {a : Option Addr} {l : List Int} (h : Ir w a l) (hb : But T w w') (hn : ∀ x, a = some x → l ≠ [] → ¬ T x.block) : Ir w' a l := by
  by_cases h0 : l = []
  · exact .inl h0
  rcases h with h | ⟨b, off, rfl, hc⟩
  · exact .inl h
  · exact .inr ⟨b, off, rfl, fun i hi => (hb.cell (p := ⟨b, off + i, none⟩) (block_lt_of_cell (hc i hi)) (show ¬ T b from hn ⟨b, off, none⟩ rfl h0)).trans (hc i hi)⟩
end Go.Proofs.YtlneomgjjkfnoabGreat

namespace Go.Proofs.YtlneomgjjkfnoabGreat
open Go.RowKit


def mkI (i k : Nat) : Int := (i : Int) * 100003 + (k : Int)
def gl (i n : Nat) : List Int := (List.range n).map (mkI i)
theorem gl_length (i n : Nat) : (gl i n).length = n := by simp [gl]
theorem gl_succ (i n : Nat) : gl i (n + 1) = gl i n ++ [mkI i n] := by simp [gl, List.range_succ]
theorem gl_get (i n k : Nat) (h : k < n) : (gl i n).getD k 0 = mkI i k := by simp [gl, h]
theorem gset_step (i k : Nat) (l : List Int) (h : k < l.length) : (gl i k ++ l.drop k).set k (mkI i k) = gl i (k + 1) ++ l.drop (k + 1) := by
  rw [List.set_append_right _ _ (by rw [gl_length]; exact Nat.le_refl _), gl_length, Nat.sub_self, List.drop_eq_getElem_cons h, List.set_cons_zero, gl_succ, List.append_assoc]
  rfl
/-- rows of bytes -/
def RowsI (w : World) (n : Nat) (A : Nat → Option Addr) (C : Nat → Nat) (G : Nat → List Int) : Prop := ∀ i, i < n → Ig w (A i) (C i) (G i)
theorem RowsI.congr {w : World} {n : Nat} {A : Nat → Option Addr} {C : Nat → Nat} {G G' : Nat → List Int} (h : RowsI w n A C G) (e : ∀ i, i < n → G i = G' i) : RowsI w n A C G' := fun i hi => by rw [← e i hi]; exact h i hi
theorem RowsI.set {w : World} {n : Nat} {A : Nat → Option Addr} {C : Nat → Nat} {G : Nat → List Int} (h : RowsI w n A C G) (hd : Dist n A) {j g : Nat} (hj : j < n) (hA : A j = some ⟨g, 0, none⟩) (k : Nat) (v : Int) :
    RowsI (w.setCell ⟨g, k, none⟩ (.int .i64 v)) n A C (fun i => if i = j then (G j).set k v else G i) := by
  intro i hi
  by_cases e : i = j
  · subst e
    dsimp only
    rw [if_pos rfl, hA]
    have := h i hi
    rw [hA] at this
    exact this.set k v
  · dsimp only
    rw [if_neg e]
    exact (h i hi).but (But.cell1 w g k _) fun x hx => hd i j hi hj e x _ hx hA

/-- behind the second loop's first rounds -/
def P3 (w wx : World) (n : Nat) (A : Nat → Option Addr) (C : Nat → Nat) (N : Nat → Nat) (j : Nat) (ag : Option Addr) (cg : Nat) (B : Nat → Option Addr) (D : Nat → Nat) : Prop :=
  Ai wx ag cg ((List.range j).map fun i => Value.slice (B i) (N i + 20) (D i)) ∧
  (∀ i, i < j → Ig wx (B i) (D i) (gl i (N i + 20)) ∧ Ir wx (A i) (gl i (N i)) ∧ New w (A i) (B i)) ∧
  (∀ i, j ≤ i → i < n → Ig wx (A i) (C i) (gl i (N i))) ∧
  (∀ i i', i < i' → i' < j → ∀ x y, B i = some x → B i' = some y → x.block ≠ y.block) ∧
  But (InRows n A) w wx ∧ New w none ag
theorem P3.next {w wx w3 wr : World} {n : Nat} {A : Nat → Option Addr} {C N : Nat → Nat} {j : Nat} {ag ag' gj : Option Addr} {cg cg' cj : Nat} {B : Nat → Option Addr} {D : Nat → Nat} {o : Obj}
    (hd : Dist n A) (hA0 : ∀ i, i < n → ∀ x, A i = some x → x.block < w.heap.size) (hj : j < n) (h : P3 w wr n A C N j ag cg B D) (hin : But (fun q => ∃ x, A j = some x ∧ x.block = q) wr wx)
    (hRg : Ig wx gj cj (gl j (N j + 20))) (hBs : Ir wx (A j) (gl j (N j))) (hgj : gj = A j ∨ ∀ x, gj = some x → wr.heap.size ≤ x.block)
    (hAr : Ai w3 ag' cg' (((List.range j).map fun i => Value.slice (B i) (N i + 20) (D i)) ++ [.slice gj (N j + 20) cj])) (hN : New (wx.alloc o) ag ag') (hg : (wx.alloc o).grownBy w3 (ag.map Addr.block)) :
    P3 w w3 n A C N (j + 1) ag' cg' (fun i => if i = j then gj else B i) (fun i => if i = j then cj else D i) := by
  obtain ⟨h1, h2, h3, h4, h5, h6⟩ := h
  have hsz := h5.size
  have hsz2 := hin.size
  -- the array is none of the rows
  have hagx : Ai wx ag cg ((List.range j).map fun i => Value.slice (B i) (N i + 20) (D i)) := h1.but hin fun x hx ⟨y, hy, e⟩ => h1.ne (h3 j (Nat.le_refl _) hj) hx hy e.symm
  have step : But (fun q => ∃ x, ag = some x ∧ x.block = q) wx w3 := ((But.refl _ wx).alloc o).trans (grown_but hg) fun _ _ h => h
  have row : ∀ {a c l}, Ig wx a c l → Ig w3 a c l := fun hr => hr.but step fun x hx ⟨y, hy, e⟩ => hagx.ne hr hy hx e
  have bs : ∀ {a : Option Addr} {l : List Int}, Ir wx a l → (∀ x, a = some x → x.block < w.heap.size) → Ir w3 a l := fun hb hlt => hb.but step fun x hx _ ⟨y, hy, e⟩ => by
    have h7 := hlt x hx
    rcases h6 y hy with ⟨z, hz, _⟩ | h8
    · cases hz
    · omega
  have hBold : ∀ i, i < j → ∀ x, B i = some x → ¬ ∃ y, A j = some y ∧ y.block = x.block := by
    rintro i hi x hx ⟨y, hy, e⟩
    rcases (h2 i hi).2.2 x hx with ⟨z, hz, e2⟩ | h7
    · exact hd i j (by omega) hj (by omega) z y hz hy (e2.trans e.symm)
    · have := hA0 j hj y hy; omega
  refine ⟨?_, ?_, ?_, ?_, ?_, ?_⟩
  · rw [List.range_succ, List.map_append]
    have e : ((List.range j).map fun i => Value.slice (if i = j then gj else B i) (N i + 20) (if i = j then cj else D i)) = (List.range j).map fun i => Value.slice (B i) (N i + 20) (D i) := by
      apply List.map_congr_left
      intro i hi
      have := List.mem_range.1 hi
      simp [show i ≠ j by omega]
    rw [e]
    simpa using hAr
  · intro i hi
    by_cases e : i = j
    · subst e
      dsimp only
      rw [if_pos rfl, if_pos rfl]
      refine ⟨row hRg, bs hBs (hA0 i hj), ?_⟩
      intro x hx
      rcases hgj with h7 | h7
      · exact .inl ⟨x, by rw [← h7]; exact hx, rfl⟩
      · exact .inr (by have := h7 x hx; omega)
    · dsimp only
      rw [if_neg e, if_neg e]
      obtain ⟨k1, k2, k3⟩ := h2 i (by omega)
      refine ⟨row (k1.but hin fun x hx => hBold i (by omega) x hx), bs (k2.but hin fun x hx _ ⟨y, hy, e2⟩ => hd i j (by omega) hj e x y hx hy e2.symm) (hA0 i (by omega)), k3⟩
  · intro i hi hin'
    exact row ((h3 i (by omega) hin').but hin fun x hx ⟨y, hy, e2⟩ => hd i j hin' hj (by omega) x y hx hy e2.symm)
  · intro i i' hii hi' x y hx hy
    dsimp only at hx hy
    rw [if_neg (by omega)] at hx
    by_cases e : i' = j
    · rw [if_pos e] at hy
      subst e
      rcases hgj with h7 | h7
      · rw [h7] at hy
        exact fun e2 => hBold i hii x hx ⟨y, hy, e2.symm⟩
      · have h8 := h7 y hy
        have h9 := (h2 i hii).1.lt hx
        omega
    · rw [if_neg e] at hy
      exact h4 i i' hii (by omega) x y hx hy
  · refine (h5.trans hin fun x _ ⟨y, hy, e⟩ => ⟨j, hj, y, hy, e⟩).trans step ?_
    rintro x hx ⟨y, hy, e⟩
    rcases h6 y hy with ⟨z, hz, _⟩ | h8
    · cases hz
    · omega
  · exact h6.trans hN (by rw [size_alloc]; omega)

/-- a byte is appended to a row: what of the row that it grew out of -/
theorem inner_stepI {wr wx w2 : World} {aj gj : Option Addr} {g : Nat} {cap' : Nat} {l m : List Int} {x : Int} {o : Obj} (hlt : ∀ y, aj = some y → y.block < wr.heap.size) 
    (hin : But (fun q => ∃ y, aj = some y ∧ y.block = q) wr wx) (hBs : Ir wx aj l) (hgj : gj = aj ∨ ∀ y, gj = some y → wr.heap.size ≤ y.block)
    (hR : Ig w2 (some ⟨g, 0, none⟩) cap' (l ++ m ++ [x])) (hg : (wx.alloc o).grownBy w2 (gj.map Addr.block)) (hc : gj = some ⟨g, 0, none⟩ ∨ (wx.alloc o).heap.size ≤ g ∧ Below (wx.alloc o).heap.size (wx.alloc o) w2) :
    But (fun q => ∃ y, aj = some y ∧ y.block = q) wr w2 ∧ Ir w2 aj l ∧ (some ⟨g, 0, none⟩ = aj ∨ ∀ y, some (⟨g, 0, none⟩ : Addr) = some y → wr.heap.size ≤ y.block) := by
  have hsz := hin.size
  refine ⟨?_, ?_, ?_⟩
  · refine (hin.alloc o).trans (grown_but hg) ?_
    rintro q hq ⟨y, hy, e⟩
    rcases hgj with h | h
    · exact ⟨y, by rw [← h]; exact hy, e⟩
    · have := h y hy; omega
  · rcases hc with hc | ⟨_, hb⟩
    · rcases hgj with h | h
      · rw [← h, hc]
        rw [List.append_assoc] at hR
        rcases hR.front with h7 | h7
        · exact h7.ir
        · cases h7
      · refine (hBs.keep ((Below.refl _ _).alloc (Nat.le_refl _) o)).but (grown_but hg) ?_
        rintro y hy _ ⟨z, hz, e⟩
        have h8 := h z hz
        have h9 := hlt y hy
        omega
    · exact (hBs.keep ((Below.refl _ _).alloc (Nat.le_refl _) o)).keep hb
  · rcases hc with hc | ⟨hc, _⟩
    · rw [← hc]
      rcases hgj with h | h
      · exact .inl h
      · exact .inr h
    · refine .inr fun y hy => ?_
      simp only [Option.some.injEq] at hy
      subst hy
      rw [size_alloc] at hc
      show _ ≤ g
      omega

set_option maxRecDepth 100000 in
set_option maxHeartbeats 8000000 in
theorem ApartInts_some (w : World) (at' : Option Addr) (ct n : Nat) (A : Nat → Option Addr) (C : Nat → Nat) (L : Nat → List Int) (hAr : Ai w at' ct ((List.range n).map fun i => Value.slice (A i) (L i).length (C i))) (hR : RowsI w n A C L) (hd : Dist n A) (hn : n ≤ 2097154) (hl : ∀ i, i < n → (L i).length ≤ 268435436) :
    Calls Tryz.prog 18 #[.slice at' n ct] w fun x w' => x = .returned (.bool true) ∧ But (InRows n A) w w' := by
  have HA := hide hAr
  have HR := hide hR
  have HD := hide hd
  have HL := hide hl
  have arr : ∀ wx, But (InRows n A) w wx → ∀ i, i < n → ∃ g, at' = some ⟨g, 0, none⟩ ∧ wx.cell? ⟨g, i, none⟩ = some (.slice (A i) (L i).length (C i)) := by
    intro wx hb i hi
    refine (HA.out.but hb ?_).cell (by simp [hi])
    rintro x hx ⟨q, hq, y, hy, e⟩
    exact HA.out.ne (HR.out q hq) hx hy e.symm
  have ARR := hide arr
  clear hAr hR hd hl arr
  go_enter Tryz.func18, Tryz.ntmps18
  go_wp2
  go_loopw [3, 4] (fun i _ wx => ∃ j : Nat, j ≤ n ∧ i = .int .i64 j ∧ (RowsI wx n A C (fun i => if i < j then gl i (L i).length else L i) ∧ But (InRows n A) w wx)) (fun i _ _ => n - (intOf i).toNat)
  case atStart => exact ⟨0, Nat.zero_le _, rfl, HR.out.congr fun i _ => by simp, But.refl _ _⟩
  case round =>
    obtain ⟨j, hj, rfl, hG⟩ := hrel
    have HG := hide hG
    clear hG
    by_cases hlt : j < n
    · have hi : (j : Int) < (n : Int) := by omega
      obtain ⟨bt', hat, hc⟩ := ARR.out wr HG.out.2 j hlt
      subst hat
      have hlj := HL.out j hlt
      go_wp2
      go_loopw [4] (fun k' wx => ∃ k : Nat, k ≤ (L j).length ∧ k' = .int .i64 k ∧ (RowsI wx n A C (fun i => if i < j then gl i (L i).length else if i = j then gl j k ++ (L j).drop k else L i) ∧ But (InRows n A) w wx)) (fun k' _ => (L j).length - (intOf k').toNat)
      case atStart =>
        refine ⟨0, Nat.zero_le _, rfl, HG.out.1.congr fun i _ => ?_, HG.out.2⟩
        by_cases e : i = j
        · subst e; simp [gl]
        · simp [e]
      case round =>
        clear hc
        obtain ⟨k, hk, rfl, hG2⟩ := hrel
        have HG2 := hide hG2
        clear hG2
        obtain ⟨b2, e2, hc⟩ := ARR.out wr HG2.out.2 j hlt
        simp only [Option.some.injEq, Addr.mk.injEq] at e2
        obtain ⟨rfl, _⟩ := e2
        by_cases hlk : k < (L j).length
        · have hik : (k : Int) < ((L j).length : Int) := by omega
          have hrow := HG2.out.1 j hlt
          simp only [Nat.lt_irrefl, if_false, if_true] at hrow
          have hrl : (gl j k ++ (L j).drop k).length = (L j).length := by rw [List.length_append, gl_length, List.length_drop]; omega
          obtain ⟨g, hAj, _, _⟩ := hrow.addr2 (by rw [hrl]; omega)
          rw [hAj] at hc hrow
          have hcg := hrow.cell (i := k) (by rw [hrl]; exact hlk)
          have hfg : wr.frozen? ⟨g, k, none⟩ = false := by
            rcases hrow.cases with ⟨h0, _⟩ | ⟨g', cur, h0, hg', _⟩
            · cases h0
            · simp only [Option.some.injEq, Addr.mk.injEq] at h0
              obtain ⟨rfl, _⟩ := h0
              exact frozen_of_row wr g k _ _ hg'
          have hmk : (j : Int) * 100003 + (k : Int) = (mkI j k) := by unfold mkI; omega
          have HSS := hide (gset_step j k (L j) hlk)
          have HAJ := hide hAj
          clear hAj hrow hrl
          generalize hx : (gl j k ++ (L j).drop k).getD k 0 = x at *
          clear hx
          generalize mkI j k = mm at *
          go_wp2
          go_roundw
          case rel =>
            refine ⟨k + 1, by omega, by go_num, (HG2.out.1.set HD.out hlt HAJ.out k mm).congr fun i hi => ?_, HG2.out.2.setCell (p := ⟨g, k, none⟩) (fun _ => ⟨j, hlt, _, HAJ.out, rfl⟩) _⟩
            by_cases e : i = j
            · subst e; simp only [if_true, Nat.lt_irrefl, if_false]; exact HSS.out
            · simp only [e, if_false]
          case measure => simp [intOf]; omega
        · obtain rfl : k = (L j).length := by omega
          go_wp2
          go_roundw
          case rel =>
            refine ⟨j + 1, by omega, by go_num, HG2.out.1.congr fun i hi => ?_, HG2.out.2⟩
            by_cases e : i = j
            · subst e; simp
            · by_cases e2 : i < j
              · rw [if_pos e2, if_pos (by omega)]
              · rw [if_neg e2, if_neg e, if_neg (by omega)]
          case measure => simp [intOf]; omega
    · obtain rfl : n = j := by omega
      have hA0 : ∀ i, i < n → ∀ x, A i = some x → x.block < w.heap.size := fun i hi x hx => (HR.out i hi).lt hx
      have HA0 := hide hA0
      have H1 : Hid (P3 w wr n A C (fun i => (L i).length) 0 none 0 (fun _ => none) (fun _ => 0)) := ⟨Ai.nil _, fun i hi => by omega, fun i _ hi => by have := HG.out.1 i hi; dsimp only at this; rwa [if_pos hi] at this, fun i i' _ hi' => by omega, HG.out.2, New.none _ _⟩
      clear hA0 HG
      go_wp2
      go_loopw [5, 6, 7, 8] (fun gr i _ _ wx => ∃ (j : Nat) (ag : Option Addr) (cg : Nat) (B : Nat → Option Addr) (D : Nat → Nat), j ≤ n ∧ i = .int .i64 j ∧ gr = .slice ag j cg ∧ P3 w wx n A C (fun i => (L i).length) j ag cg B D) (fun _ i _ _ _ => n - (intOf i).toNat)
      case atStart => exact ⟨0, none, 0, _, _, Nat.zero_le _, rfl, rfl, H1.out⟩
      case round =>
        clear H1
        obtain ⟨j, ag, cg, B, D, hj, rfl, rfl, hP⟩ := hrel
        have HP := hide hP
        clear hP
        by_cases hlt : j < n
        · have hi : (j : Int) < (n : Int) := by omega
          have hlj := HL.out j hlt
          obtain ⟨bt', hat, hc⟩ := ARR.out wr HP.out.2.2.2.2.1 j hlt
          subst hat
          have hrow0 := HP.out.2.2.1 j (Nat.le_refl _) hlt
          have HROW0 := hide hrow0
          have HBS0 := hide hrow0.ir
          have HLTJ : Hid (∀ y, A j = some y → y.block < wr.heap.size) := fun y hy => hrow0.lt hy
          have HARW : Hid (∀ wx, But (fun q => ∃ y, A j = some y ∧ y.block = q) wr wx → wx.cell? ⟨bt', j, none⟩ = some (.slice (A j) (L j).length (C j))) := fun wx hb => by
            obtain ⟨b2, e2, h2⟩ := ARR.out wx (HP.out.2.2.2.2.1.trans hb fun x _ ⟨y, hy, e⟩ => ⟨j, hlt, y, hy, e⟩) j hlt
            simp only [Option.some.injEq, Addr.mk.injEq] at e2
            obtain ⟨rfl, _⟩ := e2
            exact h2
          clear hrow0
          go_wp2
          generalize hW : wr = W at *
          go_loopw [7, 8] (fun gv k' wx => ∃ (k : Nat) (gj : Option Addr) (cj : Nat), k ≤ 20 ∧ k' = .int .i64 k ∧ gv = .slice gj ((L j).length + k) cj ∧ (Ig wx gj cj (gl j ((L j).length + k)) ∧ (But (fun q => ∃ y, A j = some y ∧ y.block = q) W wx ∧ Ir wx (A j) (gl j (L j).length) ∧ (gj = A j ∨ ∀ y, gj = some y → W.heap.size ≤ y.block)))) (fun _ k' _ => 20 - (intOf k').toNat)
          case atStart => exact ⟨0, A j, C j, by decide, rfl, rfl, HROW0.out, But.refl _ _, HBS0.out, .inl rfl⟩
          case round =>
            clear hc
            obtain ⟨k, gj, cj, hk, rfl, rfl, hG⟩ := hrel
            have HG := hide hG
            clear hG
            by_cases hlk : k < 20
            · have hik : (k : Int) < 20 := by omega
              have hc := HARW.out wr HG.out.2.1
              have hbt := block_lt_of_cell hc
              have hmk : (j : Int) * 100003 + ((L j).length : Int) + (k : Int) = (mkI j ((L j).length + k)) := by unfold mkI; omega
              have HS : Hid (gl j ((L j).length + k) ++ [mkI j ((L j).length + k)] = gl j ((L j).length + (k + 1))) := (gl_succ j ((L j).length + k)).symm
              have HSP : Hid (∃ m, gl j ((L j).length + k) = gl j (L j).length ++ m) := ⟨(gl j ((L j).length + k)).drop (L j).length, by
                have e : (gl j ((L j).length + k)).take (L j).length = gl j (L j).length := by simp [gl, ← List.map_take, List.take_range]
                rw [← e]; exact (List.take_append_drop _ _).symm⟩
              have hz := gl_length j ((L j).length + k)
              have hzn := gl_length j (L j).length
              generalize mkI j ((L j).length + k) = mm at *
              generalize gl j ((L j).length + k) = FL at *
              go_wp2_with (at_builtin; refine wpList_apI' rfl _ _ rfl gj ((L j).length + k) cj FL ?q1 hz.symm (HG.out.1.keep ((Below.refl _ _).alloc (Nat.le_refl _) _)) ⟨wr.heap.size, 0, none⟩ 1 mm ?q2 ?q3 (by omega) ?_)
              try case q1 => rfl
              try case q2 => rfl
              try case q3 => simp
              intro g cap' w2 hR hN hg hcase
              obtain ⟨m, hm⟩ := HSP.out
              have hst := inner_stepI (m := m) (x := mm) HLTJ.out HG.out.2.1 HG.out.2.2.1 HG.out.2.2.2 (by rw [← hm]; exact hR) hg (by rw [size_alloc]; exact hcase)
              rw [HS.out] at hR
              have HR2 := hide hR
              have HST := hide hst
              clear hR hN hg hcase hst hm
              go_wp2
              go_roundw
              case rel => exact ⟨k + 1, _, cap', by omega, by go_num, rfl, HR2.out, HST.out⟩
              case measure => simp [intOf]; omega
            · obtain rfl : k = 20 := by omega
              have hAgx : Ai wr ag cg ((List.range j).map fun i => Value.slice (B i) ((L i).length + 20) (D i)) := HP.out.1.but HG.out.2.1 fun x hx ⟨y, hy, e⟩ => HP.out.1.ne HROW0.out hx hy e.symm
              have hvl : ((List.range j).map fun i => Value.slice (B i) ((L i).length + 20) (D i)).length = j := by simp
              have HAG := hide hAgx
              have HNX : Hid (∀ w3 ag' cg' o, Ai w3 ag' cg' (((List.range j).map fun i => Value.slice (B i) ((L i).length + 20) (D i)) ++ [.slice gj ((L j).length + 20) cj]) → New (wr.alloc o) ag ag' → (wr.alloc o).grownBy w3 (ag.map Addr.block) → P3 w w3 n A C (fun i => (L i).length) (j + 1) ag' cg' (fun i => if i = j then gj else B i) (fun i => if i = j then cj else D i)) :=
                fun w3 ag' cg' o h1 h2 h3 => HP.out.next HD.out HA0.out hlt HG.out.2.1 HG.out.1 HG.out.2.2.1 HG.out.2.2.2 h1 h2 h3
              clear hAgx
              generalize ((List.range j).map fun i => Value.slice (B i) ((L i).length + 20) (D i)) = vs at *
              go_wp2_with (at_builtin; refine wpList_apIntL rfl _ _ rfl ag j cg vs ?r1 hvl.symm (HAG.out.keep ((Below.refl _ _).alloc (Nat.le_refl _) _)) ⟨wr.heap.size, 0, none⟩ 1 (.slice gj ((L j).length + 20) cj) ?r2 ?r3 rfl (by omega) ?_)
              try case r1 => rfl
              try case r2 => rfl
              try case r3 => simp
              intro g cap' w2 hR hN hg
              have HQ := hide (HNX.out w2 _ cap' _ hR hN hg)
              clear hR hN hg
              go_wp2
              go_roundw
              case rel => exact ⟨j + 1, _, cap', _, _, by omega, by go_num, rfl, HQ.out⟩
              case measure => simp [intOf]; omega
        · obtain rfl : n = j := by omega
          go_wp2
          generalize hW : wr = W at *
          go_loopw [9, 10] (fun i _ wx => ∃ j : Nat, j ≤ n ∧ i = .int .i64 j ∧ wx = W) (fun i _ _ => n - (intOf i).toNat)
          case atStart => exact ⟨0, Nat.zero_le _, rfl, rfl⟩
          case round =>
            obtain ⟨j, hj, rfl, hwW⟩ := hrel
            subst hwW
            by_cases hlt : j < n
            · have hi : (j : Int) < (n : Int) := by omega
              have hlj := HL.out j hlt
              obtain ⟨bt', hat, hc⟩ := ARR.out _ HP.out.2.2.2.2.1 j hlt
              obtain ⟨gg, hag, hcg⟩ := HP.out.1.cell (i := j) (v := .slice (B j) ((L j).length + 20) (D j)) (by simp [hlt])
              subst hat hag
              obtain ⟨hrow, hbs, _⟩ := HP.out.2.1 j hlt
              obtain ⟨g, hBj, hle, hmx⟩ := hrow.addr2 (by rw [gl_length]; omega)
              rw [hBj] at hcg hrow
              have HROW := hide hrow
              have HBS := hide hbs
              clear hrow hbs hBj
              unfold maxLen at hmx
              rw [gl_length] at hle
              go_wp2
              go_loopw [10] (fun k' wx => ∃ k : Nat, k ≤ (L j).length + 20 ∧ k' = .int .i64 k ∧ wx = wr) (fun k' _ => (L j).length + 20 - (intOf k').toNat)
              case atStart => exact ⟨0, Nat.zero_le _, rfl, rfl⟩
              case round =>
                obtain ⟨k, hk, rfl, hwW⟩ := hrel
                subst hwW
                by_cases hlk : k < (L j).length + 20
                · have hik : (k : Int) < ((L j).length : Int) + 20 := by omega
                  have hcell := HROW.out.cell (i := k) (by rw [gl_length]; exact hlk)
                  rw [gl_get j _ k hlk] at hcell
                  have hmk : (j : Int) * 100003 + (k : Int) = (mkI j k) := by unfold mkI; omega
                  by_cases hkl : k < (L j).length
                  · have hkl2 : (k : Int) < ((L j).length : Int) := by omega
                    obtain ⟨ba, oa, hAj, hca⟩ := HBS.out.at (j := k) (by rw [gl_length]; exact hkl)
                    rw [gl_get j _ k hkl] at hca
                    rw [hAj] at hc
                    generalize mkI j k = mm at *
                    go_wp2
                    go_roundw
                    case rel => exact ⟨k + 1, by omega, by go_num, trivial⟩
                    case measure => simp [intOf]; omega
                  · have hkl2 : ¬ (k : Int) < ((L j).length : Int) := by omega
                    generalize mkI j k = mm at *
                    go_wp2
                    go_roundw
                    case rel => exact ⟨k + 1, by omega, by go_num, trivial⟩
                    case measure => simp [intOf]; omega
                · obtain rfl : k = (L j).length + 20 := by omega
                  go_wp2
                  go_roundw
                  case rel => exact ⟨j + 1, by omega, by go_num, trivial⟩
                  case measure => simp [intOf]; omega
            · obtain rfl : n = j := by omega
              go_wp2
              go_ret
              exact ⟨rfl, HP.out.2.2.2.2.1⟩
end Go.Proofs.YtlneomgjjkfnoabGreat

namespace Go.Proofs.YtlneomgjjkfnoabGreat
open Go.RowKit

theorem rowsOf_take_succ {M : List Iv} {j : Nat} (h : j < M.length) : rowsOf (M.take (j + 1)) = rowsOf (M.take j) ++ (M.getD j Iv.zero).rows := by
  rw [List.take_succ_eq_append_getElem h, rowsOf_append, rowsOf_one, show M[j] = M.getD j Iv.zero by simp [h]]
theorem rowsOf_len (M : List Iv) : (rowsOf M).length = 2 * M.length := by
  induction M with
  | nil => rfl
  | cons r M ih => rw [rowsOf_cons, List.length_append, ih, List.length_cons]; simp [Iv.rows]; omega
theorem rp_len (p : Pv) : (rp p).length = 1 + 2 * p.items.length := by unfold rp; rw [List.length_cons, rowsOf_len]; omega
theorem ra_len (a : Av) : (ra a).length = 1 + 2 * a.p.items.length + 1 := by unfold ra; rw [List.length_append, rp_len]; rfl
theorem lists_S {w w' : World} {g b k j : Nat} {a1 b1 b2 : Value} (hb : Below w.heap.size w w') (h : w.cell? ⟨g, 2, none⟩ = some a1 ∧ w.cell? ⟨b, k + j * 4, none⟩ = some b1 ∧ w.cell? ⟨b, k + j * 4 + 1, none⟩ = some b2) : w'.cell? ⟨g, 2, none⟩ = some a1 ∧ w'.cell? ⟨b, k + j * 4, none⟩ = some b1 ∧ w'.cell? ⟨b, k + j * 4 + 1, none⟩ = some b2 :=
  ⟨(hb.cell (block_lt_of_cell h.1)).trans h.1, (hb.cell (block_lt_of_cell h.2.1)).trans h.2.1, (hb.cell (block_lt_of_cell h.2.2)).trans h.2.2⟩
theorem lists_S2 {w w' : World} {g b k j : Nat} {a1 b1 b2 : Value} (hb : Below w.heap.size w w') (h1 : w'.cell? ⟨g, 2, none⟩ = some a1) (h : w.cell? ⟨b, k + j * 4, none⟩ = some b1 ∧ w.cell? ⟨b, k + j * 4 + 1, none⟩ = some b2) : w'.cell? ⟨g, 2, none⟩ = some a1 ∧ w'.cell? ⟨b, k + j * 4, none⟩ = some b1 ∧ w'.cell? ⟨b, k + j * 4 + 1, none⟩ = some b2 :=
  ⟨h1, (hb.cell (block_lt_of_cell h.1)).trans h.1, (hb.cell (block_lt_of_cell h.2)).trans h.2⟩
theorem lists_bs (W : World) (u v : Value) : ∀ j x, [u, v][j]? = some x → (W.alloc (.cells #[u, v] 25)).drew.cell? ((⟨W.heap.size, 0, none⟩ : Addr).add j) = some x := by
  intro j x hx
  have hg : (W.alloc (.cells #[u, v] 25)).drew.heap[W.heap.size]? = some (.cells #[u, v] 25 (0, 0)) := heap_alloc_new _ _
  rw [Addr.add_mid, Nat.zero_add, cell_of_row _ _ _ _ _ _ hg]
  simpa using hx
theorem lists_b1 (W : World) (u : Value) (g : Nat) (hg : g = W.heap.size) : ∀ j x, [u][j]? = some x → (W.alloc (.cells #[u] 25)).cell? ((⟨g, 0, none⟩ : Addr).add j) = some x := by
  subst hg
  intro j x hx
  rw [Addr.add_mid, Nat.zero_add, cell_of_row _ _ _ _ _ _ (heap_alloc_new _ _)]
  simpa using hx
theorem heap2a' (w : World) (o p : Obj) : ((w.alloc o).alloc p).heap[w.heap.size]? = some o := by
  rw [heap_alloc_old _ _ (by rw [size_alloc]; omega)]; exact heap_alloc_new _ _
theorem lists_one (u v : Br) : ∀ x ∈ [bv u, bv v], x.oneCell' = true := by
  intro x hx
  simp only [List.mem_cons, List.not_mem_nil, or_false] at hx
  rcases hx with rfl | rfl <;> rfl
set_option maxRecDepth 100000 in
set_option maxHeartbeats 6400000 in
theorem ListsOfPage_lit (w : World) (kind level : Int) (aI : Option Addr) (cI : Nat) (M : List Iv) (aD : Option Addr) (cD : Nat) (data : List Nat) (next : Int) (hm : Js w aI M) (hl : M.length ≤ 1048576) :
    Calls Tryz.prog 13 #[.agg #[.int .i64 kind, .int .i64 level, .slice aI M.length cI, .slice aD data.length cD, .int .i64 next]] w fun e w' => ∃ at' ct, e = .returned (.slice at' (1 + 2 * M.length) ct) ∧ Ax w w' at' ct (⟨aD, cD, data⟩ :: rowsOf M) := by
  have HM := hide hm
  clear hm
  have IT := hide fun (W : World) (h : W.heap[w.heap.size]? = some (.cells (Pv.cs ⟨kind, level, aI, cI, M, aD, cD, data, next⟩) 27)) => Bx.page (p := ⟨kind, level, aI, cI, M, aD, cD, data, next⟩) h
  dsimp only [Pv.cs] at IT
  go_enter Tryz.func13, Tryz.ntmps13
  go_wp2
  go_loopw [3, 4] (fun v i wx => ∃ (j : Nat) (at' : Option Addr) (ct : Nat), j ≤ M.length ∧ i = .int .i64 j ∧ v = .slice at' (1 + 2 * j) ct ∧ (Ax w wx at' ct (⟨aD, cD, data⟩ :: rowsOf (M.take j)) ∧ wx.heap[w.heap.size]? = some (.cells #[.int .i64 kind, .int .i64 level, .slice aI M.length cI, .slice aD data.length cD, .int .i64 next] 27 (0, 0)))) (fun _ i _ => M.length - (intOf i).toNat)
  case atStart =>
    refine ⟨0, some ⟨w.heap.size + 1, 0, none⟩, 1, Nat.zero_le _, rfl, rfl, ⟨?_, newHere w _ (by omega), bt (al _ _) (al _ _)⟩, heap2a' w _ _⟩
    refine Ar.mk (cur := #[.slice aD data.length cD]) ?_ (by simp [rowsOf]) (by unfold maxLen; omega) rfl rfl
    have := heap_alloc_new (w.alloc (.cells #[.int .i64 kind, .int .i64 level, .slice aI M.length cI, .slice aD data.length cD, .int .i64 next] 27)) (.cells #[.slice aD data.length cD] 25)
    rw [size_alloc] at this
    exact this
  case round =>
    obtain ⟨j, at', ct, hj, rfl, rfl, hG⟩ := hrel
    have HG := hide hG
    clear hG
    obtain ⟨k0, k1, k2, k3, k4⟩ := IT.out _ HG.out.2
    have hj1 := w64 (j := j) (by omega)
    by_cases hlt : j < M.length
    · have hi : (j : Int) < (M.length : Int) := by omega
      obtain ⟨b, off, hab, hr0⟩ := HM.out.at hlt
      obtain ⟨o0, o1, _, _⟩ := range4 hr0
      obtain ⟨m0, m1, m2, m3⟩ := range4 (range_below hr0 HG.out.1.b)
      have HTL := hide (rowsOf_take_succ hlt)
      have HLEN : Hid (1 + 2 * j = ((⟨aD, cD, data⟩ :: rowsOf (M.take j) : List Br).map bv).length) := by
        show _ = _
        rw [List.length_map, List.length_cons, rowsOf_len, List.length_take]; omega
      generalize M.getD j Iv.zero = r at *
      subst hab
      clear hr0
      obtain ⟨r1, r2, rl, r3, r4, rh, rc, rz⟩ := r
      dsimp only at m0 m1 m2 m3 o0 o1
      have HSZ : Hid ((((⟨aD, cD, data⟩ :: rowsOf (M.take j) : List Br).map bv).length + 2) * 24 ≤ 140737488355328) := by
        show _ ≤ _
        rw [← HLEN.out]; omega
      have MO := hide (And.intro o0 o1)
      clear o0 o1
      generalize hTT : (⟨aD, cD, data⟩ :: rowsOf (M.take j) : List Br) = TT at *
      go_wp2
      have S0 := lists_S ((Below.refl wr.heap.size wr).drew) (And.intro k2 (And.intro m0 m1))
      have S0a := fun o => lists_S ((al wr o).drew) (And.intro k2 (And.intro m0 m1))
      clear k0 k1 k2 k3 k4 m0 m1 m2 m3
      go_region_held3 (fun w' => w'.cell? ⟨w.heap.size, 2, none⟩ = some (.slice (some ⟨b, off, none⟩) M.length cI) ∧ w'.cell? ⟨b, off + j * 4, none⟩ = some (.slice r1 rl.length r2) ∧ w'.cell? ⟨b, off + j * 4 + 1, none⟩ = some (.slice r3 rh.length r4))
        (first | with_reducible exact S0 | with_reducible exact S0a _ | with_reducible exact S2)
        ((refine step_apArL rfl _ _ rfl at' (1 + 2 * j) ct (TT.map bv) (by simp [Act.eval]) HLEN.out (HG.out.1.r.keep ((al wr _).drew)) ⟨wr.heap.size, 0, none⟩ 2 2 [bv ⟨r1, r2, rl⟩, bv ⟨r3, r4, rh⟩] (by simp [Act.eval]) rfl (lists_bs wr _ _) (lists_one _ _) (Nat.succ_pos 1) HSZ.out ?_; intro g cap' w2 hR hN hg; have HX := hide (HG.out.1.step (U := [⟨r1, r2, rl⟩, ⟨r3, r4, rh⟩]) ((al wr _).drew) hR hN hg); have HB := hide (HG.out.1.but ((al wr _).drew) hg HG.out.2 (by intro cs h; cases h)); have S2 := lists_S2 HX.out.b (IT.out _ HB.out).2.2.1 MO.out; clear hR hN hg))
      clear S0 S0a S2
      go_wp2
      go_roundw
      case rel => exact ⟨j + 1, _, cap', by omega, by first | (go_num; done) | exact congrArg (Value.int IntKind.i64) (by omega), by rw [show 1 + 2 * (j + 1) = 1 + 2 * j + 2 by omega], by rw [HTL.out]; subst hTT; exact HX.out, HB.out⟩
      case measure => first | exact meas_up _ _ _ hj1 hlt | exact meas_up _ _ _ rfl hlt | (simp [intOf]; omega)
    · obtain rfl : j = M.length := by omega
      rw [List.take_length] at HG
      go_wp2
      go_ret
      exact ⟨at', ct, rfl, HG.out.1⟩
theorem Ar.at0 {w : World} {a : Option Addr} {c : Nat} {vs : List Value} (h : Ar w a c vs) (hp : 0 < vs.length) : ∃ g, a = some ⟨g, 0, none⟩ := by
  rcases h.cases with ⟨rfl, rfl, rfl⟩ | ⟨g, cur, rfl, _⟩
  · simp at hp
  · exact ⟨g, rfl⟩
theorem Ar.each {w : World} {g c : Nat} {vs : List Value} (h : Ar w (some ⟨g, 0, none⟩) c vs) : ∀ j u, vs[j]? = some u → w.cell? ((⟨g, 0, none⟩ : Addr).add j) = some u := by
  intro j u hu
  obtain ⟨g', e, hc⟩ := h.cell hu
  simp only [Option.some.injEq, Addr.mk.injEq] at e
  obtain ⟨rfl, _⟩ := e
  rw [Addr.add_mid, Nat.zero_add]
  exact hc
theorem ListsOfPage_any (w : World) (p : Pv) (hm : Js w p.aI p.items) (hl : p.items.length ≤ 1048576) : Calls Tryz.prog 13 #[p.vl] w fun e w' => ∃ g ct, e = .returned (.slice (some ⟨g, 0, none⟩) (1 + 2 * p.items.length) ct) ∧ Ax w w' (some ⟨g, 0, none⟩) ct (rp p) := by
  refine (ListsOfPage_lit w p.kind p.level p.aI p.cI p.items p.aD p.cD p.data p.next hm hl).mono ?_
  rintro e w' ⟨at', ct, rfl, hx⟩
  obtain ⟨g, rfl⟩ := hx.r.at0 (by simp)
  exact ⟨g, ct, rfl, hx⟩
theorem lists_c1 {W : World} {g : Nat} {u : Value} (h : W.heap[g]? = some (.cells #[u] 25 (0, 0))) : ∀ j x, [u][j]? = some x → W.cell? ((⟨g, 0, none⟩ : Addr).add j) = some x := by
  intro j x hx
  rw [Addr.add_mid, Nat.zero_add, cell_of_row _ _ _ _ _ _ h]
  simpa using hx
theorem lists_one1 (u : Br) : ∀ x ∈ [bv u], x.oneCell' = true := by
  intro x hx
  rw [List.mem_singleton.1 hx]
  rfl
theorem Ax.pre {w w0 W : World} {a : Option Addr} {c : Nat} {T : List Br} (hb : Below w.heap.size w w0) (h : Ax w0 W a c T) : Ax w W a c T := ⟨h.r, h.n.mono hb.size, bt hb h.b⟩
theorem lists_K {w W W' : World} {g : Nat} {a : Av} (h : Bx W 36 g a.cs) (_ : w = w) (hb : Below W.heap.size W W') : W'.cell? ⟨g, 0, none⟩ = some (.int .i64 a.p.kind) ∧ W'.cell? ⟨g, 1, none⟩ = some (.int .i64 a.p.level) ∧ W'.cell? ⟨g, 2, none⟩ = some (.slice a.p.aI a.p.items.length a.p.cI) ∧ W'.cell? ⟨g, 3, none⟩ = some (.slice a.p.aD a.p.data.length a.p.cD) ∧ W'.cell? ⟨g, 4, none⟩ = some (.int .i64 a.p.next) ∧ W'.cell? ⟨g, 6, none⟩ = some (.slice a.aB a.b.length a.cB) := by
  obtain ⟨c0, c1, c2, c3, c4, c5, c6, c7, c8⟩ := Bx.ans (h.keep hb)
  exact ⟨c0, c1, c2, c3, c4, c6⟩
set_option maxRecDepth 100000 in
set_option maxHeartbeats 6400000 in
theorem lists_any (w : World) (a : Av) (hm : Js w a.p.aI a.p.items) (hl : a.p.items.length ≤ 255) : Calls Tryz.prog 16 #[.agg a.cs] w fun e w' => ∃ g ct, e = .returned (.slice (some ⟨g, 0, none⟩) (1 + 2 * a.p.items.length + 1) ct) ∧ Ax w w' (some ⟨g, 0, none⟩) ct (ra a) := by
  have LP := hide fun (w1 : World) (hb : Below w.heap.size w w1) => ListsOfPage_any w1 a.p (hm.keep hb) (by omega)
  have LK := hide fun (W' : World) (hb : Below (w.alloc (.cells a.cs 36)).heap.size (w.alloc (.cells a.cs 36)) W') => lists_K (w := w) (Bx.new w 36 a.cs) rfl hb
  have A0 := hide (al w (.cells a.cs 36))
  have RA : Hid (ra a = rp a.p ++ [⟨a.aB, a.cB, a.b⟩]) := rfl
  have HLEN : Hid (1 + 2 * a.p.items.length = ((rp a.p).map bv).length) := by show _ = _; rw [List.length_map, rp_len]
  have HSZ : Hid ((((rp a.p).map bv).length + 1) * 24 ≤ 140737488355328) := by show _ ≤ _; rw [← HLEN.out]; omega
  clear hm
  generalize ra a = RR at *
  generalize rp a.p = R at *
  obtain ⟨⟨kind, level, aI, cI, items, aD, cD, data, next⟩, n, aB, cB, b1, aL, cL, l1, e⟩ := a
  simp only [Av.cs, Pv.vl, Pv.cs] at *
  have D0 := hide (dr2 (w.alloc (.cells #[.int .i64 kind, .int .i64 level, .slice aI items.length cI, .slice aD data.length cD, .int .i64 next, .int .i64 n, .slice aB b1.length cB, .slice aL l1.length cL, .int .i64 e] 36)))
  have S0 := LK.out _ D0.out
  have DB := hide ((al (w.alloc (.cells #[.int .i64 kind, .int .i64 level, .slice aI items.length cI, .slice aD data.length cD, .int .i64 next, .int .i64 n, .slice aB b1.length cB, .slice aL l1.length cL, .int .i64 e] 36)) (.cells #[.slice aB b1.length cB] 25)).drew)
  have SB := LK.out _ DB.out
  have XB : Hid (((w.alloc (.cells #[.int .i64 kind, .int .i64 level, .slice aI items.length cI, .slice aD data.length cD, .int .i64 next, .int .i64 n, .slice aB b1.length cB, .slice aL l1.length cL, .int .i64 e] 36)).alloc (.cells #[.slice aB b1.length cB] 25)).drew.heap[w.heap.size + 1]? = some (.cells #[.slice aB b1.length cB] 25 (0, 0))) := by
    have h := heap_alloc_new (w.alloc (.cells #[.int .i64 kind, .int .i64 level, .slice aI items.length cI, .slice aD data.length cD, .int .i64 next, .int .i64 n, .slice aB b1.length cB, .slice aL l1.length cL, .int .i64 e] 36)) (.cells #[.slice aB b1.length cB] 25)
    rw [size_alloc] at h
    exact h
  go_enter Tryz.func16, Tryz.ntmps16
  go_wp2
  go_region_held3 (fun w' => w'.cell? ⟨w.heap.size, 0, none⟩ = some (.int .i64 kind) ∧ w'.cell? ⟨w.heap.size, 1, none⟩ = some (.int .i64 level) ∧ w'.cell? ⟨w.heap.size, 2, none⟩ = some (.slice aI items.length cI) ∧ w'.cell? ⟨w.heap.size, 3, none⟩ = some (.slice aD data.length cD) ∧ w'.cell? ⟨w.heap.size, 4, none⟩ = some (.int .i64 next) ∧ w'.cell? ⟨w.heap.size, 6, none⟩ = some (.slice aB b1.length cB))
    (first | with_reducible exact S0 | with_reducible exact SB | with_reducible exact S1 | with_reducible exact S2 _ | with_reducible exact S3)
    (first | (go_at_call 13; with_reducible refine (LP.out _ (bt A0.out D0.out)).mono ?_; rintro y w1 ⟨g1, ct1, rfl, hx⟩; have X1 := hide hx; have D1 := hide (bt D0.out hx.b); have S1 := LK.out _ D1.out; have S2 := fun o => LK.out _ (bt D1.out (al w1 o)); clear hx) | (go_at_call 13; with_reducible refine (LP.out _ (bt A0.out DB.out)).mono ?_; rintro y w1 ⟨g1, ct1, rfl, hx⟩; have Y1 := hide hx; have D1 := hide (bt DB.out hx.b); have S1 := LK.out _ D1.out; have Y2 := hide (blk_keep XB.out hx.b); clear hx) | (refine step_apArL rfl _ _ rfl (some ⟨g1, 0, none⟩) (1 + 2 * items.length) ct1 (R.map bv) (by simp [Act.eval]) HLEN.out (X1.out.r.keep (al w1 _)) ⟨w1.heap.size, 0, none⟩ 1 1 [bv ⟨aB, cB, b1⟩] (by simp [Act.eval]) rfl (lists_b1 w1 _ _ rfl) (lists_one1 _) (Nat.succ_pos 0) HSZ.out ?_; intro g2 cap2 w2 hR hN hg; have X3 := hide (Ax.pre (bt A0.out D0.out) (X1.out.step (U := [⟨aB, cB, b1⟩]) (al w1 _) hR hN hg)); have S3 := LK.out _ (bt D0.out (X1.out.step (U := [⟨aB, cB, b1⟩]) (al w1 _) hR hN hg).b); clear hR hN hg) | (refine step_apArL rfl _ _ rfl (some ⟨g1, 0, none⟩) (1 + 2 * items.length) ct1 (R.map bv) (by simp [Act.eval]) HLEN.out Y1.out.r ⟨w.heap.size + 1, 0, none⟩ 1 1 [bv ⟨aB, cB, b1⟩] (by simp [Act.eval]) rfl (lists_c1 Y2.out) (lists_one1 _) (Nat.succ_pos 0) HSZ.out ?_; intro g2 cap2 w2 hR hN hg; have X3 := hide (Ax.pre (bt A0.out DB.out) (Y1.out.step (U := [⟨aB, cB, b1⟩]) (Below.refl _ _) hR hN hg)); have S3 := LK.out _ (bt DB.out (Y1.out.step (U := [⟨aB, cB, b1⟩]) (Below.refl _ _) hR hN hg).b); clear hR hN hg))
  all_goals clear S3
  all_goals go_wp2
  all_goals go_ret
  all_goals exact ⟨g2, cap2, rfl, by rw [RA.out]; exact X3.out⟩
end Go.Proofs.YtlneomgjjkfnoabGreat
