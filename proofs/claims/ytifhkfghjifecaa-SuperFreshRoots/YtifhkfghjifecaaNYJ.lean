import Derived.Test.YtifhkfghjifecaaNI
import Derived.Deep.RegionHeld3
namespace Go.Proofs.Ytifhkfghjifecaa
open Go.RowKit
theorem new_at {w : World} {a : Option Addr} (h : New w none a) {x : Addr} (hx : a = some x) : w.heap.size ≤ x.block := by
  rcases h x hx with ⟨y, hy, _⟩ | h
  · cases hy
  · exact h

theorem infoBytes : (Try.prog.info? 22).map (fun i => (i.zero, i.size, i.bytes)) = some (some (.slice none 0 0), 1, 24) := by kernel_rfl

/-- one byte is appended: in place, or the old memory is as it was -/
theorem run_ap1' (w : World) (ty : TypeId) (a : Option Addr) (n cap : Nat) (l : List Nat) (hn : n = l.length) (hR : Rw w a cap l) (ad : Addr) (c x : Nat) (hc : w.cell? ad = some (.int .u8 ((x : Nat) : Int))) (hlen : l.length + 1 ≤ 140737488355328) :
    ∃ g cap' w', (Builtin.append_ #[22, 22] ty #[.slice a n cap, .slice (some ad) 1 c]).run Try.prog w = .ok (.slice (some ⟨g, 0, none⟩) (n + 1) cap') w' ∧
      Rw w' (some ⟨g, 0, none⟩) cap' (l ++ [x]) ∧ New w a (some ⟨g, 0, none⟩) ∧ w.grownBy w' (a.map Addr.block) ∧ (a = some ⟨g, 0, none⟩ ∨ w.heap.size ≤ g ∧ Below w.heap.size w w') := by
  obtain ⟨g, cap', w', hr, h1, h2, h3, h4⟩ := run_ap1 w ty a n cap l hn hR ad c x hc hlen
  refine ⟨g, cap', w', hr, h1, h2, h3, ?_⟩
  subst hn
  obtain ⟨i0, hi, hz0, hz1, hz2⟩ := info_parts infoU8
  have hnews : ∀ j u, ([.int .u8 ((x : Nat) : Int)] : List Value)[j]? = some u → w.cell? (ad.add j) = some u := by
    intro j u hj
    match j, hj with
    | 0, hj => simp at hj; subst hj; simpa [Addr.add] using hc
  rcases hR.cases with ⟨rfl, rfl, rfl⟩ | ⟨g', cur, rfl, hg, k1, k2, k3, k4⟩
  · have hr2 := run_append_nil (P := Try.prog) w 22 ty 5 i0 (.int .u8 0) Try.underlying22 hi hz0 ad 1 c [.int .u8 ((x : Nat) : Int)] (by rw [hz1]; rfl) hnews (by decide) (by decide) (by rw [hz2]; decide)
    rw [show ([] : List Nat).length = 0 from rfl, hr2] at hr
    simp only [Result.ok.injEq, Value.slice.injEq, Option.some.injEq, Addr.mk.injEq] at hr
    obtain ⟨⟨⟨rfl, _⟩, _⟩, rfl⟩ := hr
    exact .inr ⟨Nat.le_refl _, ⟨rfl, rfl, rfl, by simp, fun k hk => heap_alloc_old w.drew _ hk⟩⟩
  · by_cases hroom : l.length + 1 ≤ cap
    · have hr2 := run_append_room (P := Try.prog) w 22 ty 5 i0 Try.underlying22 hi g' l.length cap cur hg ad 1 c [.int .u8 ((x : Nat) : Int)] (by rw [hz1]; rfl) hnews (by intro u hu; simp at hu; subst hu; rfl) hroom (by rw [hz1]; show l.length * 1 + 1 ≤ cur.size; omega)
      rw [hr2] at hr
      simp only [Result.ok.injEq, Value.slice.injEq, Option.some.injEq, Addr.mk.injEq] at hr
      obtain ⟨⟨⟨rfl, _⟩, _⟩, rfl⟩ := hr
      exact .inl rfl
    · have holds : ∀ j u, (vb l)[j]? = some u → w.cell? ((⟨g', 0, none⟩ : Addr).add j) = some u := hR.cells (g := g') rfl
      have hr2 := run_append_grow (P := Try.prog) w 22 ty 5 i0 (.int .u8 0) Try.underlying22 hi hz0 ⟨g', 0, none⟩ l.length cap (vb l) (by rw [vb_length, hz1, Nat.mul_one]) holds ad 1 c [.int .u8 ((x : Nat) : Int)] (by rw [hz1]; rfl) hnews (by omega) (by omega) (growslice_fits (by omega) (by rw [hz2]; omega))
      rw [hr2] at hr
      simp only [Result.ok.injEq, Value.slice.injEq, Option.some.injEq, Addr.mk.injEq] at hr
      obtain ⟨⟨⟨rfl, _⟩, _⟩, rfl⟩ := hr
      exact .inr ⟨Nat.le_refl _, ⟨rfl, rfl, rfl, by simp, fun k hk => heap_alloc_old w.drew _ hk⟩⟩
theorem wpList_ap1' {w : World} {ops : Array Oper} {rest : List Oper} {o : Oper} {a : Act} {Q : Exit → Act → World → Prop} (hgd : o.guard = none) (s x : Operand)
    (ho : o.op = .call { callee := .builtin .append, args := #[s, x], argTypes := #[22, 22] }) (ao : Option Addr) (n cap : Nat) (l : List Nat) (hs : a.eval s = .slice ao n cap) (hn : n = l.length) (hR : Rw w ao cap l)
    (ad : Addr) (c xx : Nat) (hx : a.eval x = .slice (some ad) 1 c) (hc : w.cell? ad = some (.int .u8 ((xx : Nat) : Int))) (hlen : l.length + 1 ≤ 140737488355328)
    (h : ∀ g cap' w', Rw w' (some ⟨g, 0, none⟩) cap' (l ++ [xx]) → New w ao (some ⟨g, 0, none⟩) → w.grownBy w' (ao.map Addr.block) → (ao = some ⟨g, 0, none⟩ ∨ w.heap.size ≤ g ∧ Below w.heap.size w w') → wpList Try.prog ops Q rest (a.put o.dst (.slice (some ⟨g, 0, none⟩) (n + 1) cap')) w') : wpList Try.prog ops Q (o :: rest) a w := by
  refine wpList_plain hgd fun K hK => ?_
  obtain ⟨g, cap', w', hr, h1, h2, h3, h4⟩ := run_ap1' w o.type ao n cap l hn hR ad c xx hc hlen
  unfold Oper.wp execOp
  simp only [ho, resolve, invoke, builtin, Sem.run_bind, Sem.run_pure, Result.andThen_ok, List.map_toArray, List.map_cons, List.map_nil, hs, hx, hr]
  exact hK _ _ (h g cap' w' h1 h2 h3 h4)

/-- lists of bytes in a row of their own -/
def Ar (w : World) (at' : Option Addr) (ct : Nat) (vs : List Value) : Prop := w.ownsRow 0 22 1 (.slice at' vs.length ct) vs.length vs
theorem Ar.nil (w : World) : Ar w none 0 [] := World.ownsRow_nil w 0 22 1
theorem Ar.cases {w : World} {a : Option Addr} {cap : Nat} {vs : List Value} (h : Ar w a cap vs) : (a = none ∧ cap = 0 ∧ vs = []) ∨
    ∃ g cur, a = some ⟨g, 0, none⟩ ∧ w.heap[g]? = some (.cells cur 22 (0, 0)) ∧ vs.length ≤ cap ∧ cap ≤ maxLen ∧ cur.size = cap ∧ cur.toList.take vs.length = vs := by
  obtain ⟨_, h2⟩ := h
  rcases h2 with ⟨hv, h0⟩ | ⟨g, cap', cur, hv, _, hg, hn, hm, hs, ht⟩
  · simp only [Value.slice.injEq] at hv
    exact .inl ⟨hv.1, hv.2.2, List.length_eq_zero_iff.1 h0⟩
  · simp only [Value.slice.injEq] at hv
    obtain ⟨h1, _, rfl⟩ := hv
    exact .inr ⟨g, cur, h1, hg, hn, hm, by omega, by rw [Nat.mul_one] at ht; exact ht⟩
theorem Ar.mk {w : World} {g cap : Nat} {cur : Array Value} {vs : List Value} (hg : w.heap[g]? = some (.cells cur 22 (0, 0))) (hn : vs.length ≤ cap) (hm : cap ≤ maxLen) (hs : cur.size = cap) (ht : cur.toList.take vs.length = vs) : Ar w (some ⟨g, 0, none⟩) cap vs :=
  ⟨by rw [Nat.mul_one], .inr ⟨g, cap, cur, rfl, Nat.zero_le _, hg, hn, hm, by omega, by rw [Nat.mul_one]; exact ht⟩⟩
theorem Ar.lt {w : World} {a : Option Addr} {cap : Nat} {vs : List Value} (h : Ar w a cap vs) {x : Addr} (hx : a = some x) : x.block < w.heap.size := by
  rcases h.cases with ⟨rfl, _⟩ | ⟨g, cur, rfl, hg, _⟩
  · cases hx
  · cases hx; exact (Array.getElem?_eq_some_iff.1 hg).1
theorem Ar.but {S : Nat → Prop} {w w' : World} {a : Option Addr} {cap : Nat} {vs : List Value} (h : Ar w a cap vs) (hb : But S w w') (hn : ∀ x, a = some x → ¬ S x.block) : Ar w' a cap vs := by
  rcases h.cases with ⟨rfl, rfl, rfl⟩ | ⟨g, cur, rfl, hg, h1, h2, h3, h4⟩
  · exact Ar.nil w'
  · exact Ar.mk ((hb.block g (Array.getElem?_eq_some_iff.1 hg).1 (hn _ rfl)).trans hg) h1 h2 h3 h4
theorem Ar.keep {w w' : World} {a : Option Addr} {cap : Nat} {vs : List Value} (h : Ar w a cap vs) (hb : Below w.heap.size w w') : Ar w' a cap vs :=
  h.but (S := fun _ => False) (But.ofBelow hb) (fun _ _ hf => hf)
theorem Ar.cell {w : World} {a : Option Addr} {cap : Nat} {vs : List Value} (h : Ar w a cap vs) {i : Nat} {v : Value} (hi : vs[i]? = some v) : ∃ g, a = some ⟨g, 0, none⟩ ∧ w.cell? ⟨g, i, none⟩ = some v := by
  rcases h.cases with ⟨rfl, rfl, rfl⟩ | ⟨g, cur, rfl, hg, h1, h2, h3, h4⟩
  · cases hi
  · refine ⟨g, rfl, ?_⟩
    have hlt := (List.getElem?_eq_some_iff.1 hi).1
    have e : (cur.toList.take vs.length)[i]? = some v := by rw [h4]; exact hi
    rw [List.getElem?_take, if_pos hlt] at e
    rw [cell_of_row _ _ _ _ _ _ hg, ← e]
    simp
/-- the array of lists is no list of bytes -/
theorem Ar.ne {w : World} {a a' : Option Addr} {cap cap' : Nat} {vs : List Value} {l : List Nat} (h : Ar w a cap vs) (hR : Rw w a' cap' l) {x y : Addr} (hx : a = some x) (hy : a' = some y) : x.block ≠ y.block := by
  rcases h.cases with ⟨rfl, _⟩ | ⟨g, cur, rfl, hg, _⟩
  · cases hx
  rcases hR.cases with ⟨rfl, _⟩ | ⟨g', cur', rfl, hg', _⟩
  · cases hy
  simp only [Option.some.injEq] at hx hy
  subst hx hy
  show g ≠ g'
  intro e
  subst e
  rw [hg] at hg'
  simp at hg'
theorem Rw.front {w : World} {a : Option Addr} {cap : Nat} {l m : List Nat} (h : Rw w a cap (l ++ m)) : Rw w a cap l ∨ a = none := by
  rcases h.cases with ⟨rfl, rfl, hn⟩ | ⟨g, cur, rfl, hg, h1, h2, h3, h4⟩
  · exact .inr rfl
  · refine .inl (Rw.mk hg (by rw [List.length_append] at h1; omega) h2 h3 ?_)
    have e := congrArg (List.take l.length) h4
    rw [List.take_take, List.length_append, Nat.min_eq_left (by omega), vb_append, List.take_left' (vb_length l)] at e
    exact e
theorem Rw.addr2 {w : World} {a : Option Addr} {cap : Nat} {l : List Nat} (h : Rw w a cap l) (hl : 0 < l.length) : ∃ g, a = some ⟨g, 0, none⟩ ∧ l.length ≤ cap ∧ cap ≤ maxLen := by
  rcases h.cases with ⟨rfl, rfl, rfl⟩ | ⟨g, cur, rfl, hg, h1, h2, h3, h4⟩
  · simp at hl
  · exact ⟨g, rfl, h1, h2⟩
theorem blk_keep {W W' : World} {g : Nat} {o : Obj} (h : W.heap[g]? = some o) (hb : Below W.heap.size W W') : W'.heap[g]? = some o := (hb.block _ (Array.getElem?_eq_some_iff.1 h).1).trans h
def bv (t : Br) : Value := .slice t.a t.l.length t.c
theorem bv_one (T : List Br) : ∀ u ∈ T.map bv, u.oneCell' = true := by
  intro u hu
  obtain ⟨t, _, rfl⟩ := List.mem_map.1 hu
  rfl
/-- an array of lists of the call's own -/
structure Ax (w W : World) (a : Option Addr) (c : Nat) (T : List Br) : Prop where
  r : Ar W a c (T.map bv)
  n : New w none a
  b : Below w.heap.size w W
theorem Ax.keep {w W W' : World} {a : Option Addr} {c : Nat} {T : List Br} (h : Ax w W a c T) (hb : Below W.heap.size W W') : Ax w W' a c T := ⟨h.r.keep hb, h.n, bt h.b hb⟩
theorem Ax.step {w W W1 W2 : World} {a : Option Addr} {c c' g : Nat} {T U : List Br} (h : Ax w W a c T) (hb : Below W.heap.size W W1) (hR : Ar W2 (some ⟨g, 0, none⟩) c' (T.map bv ++ U.map bv)) (hN : New W1 a (some ⟨g, 0, none⟩)) (hg : W1.grownBy W2 (a.map Addr.block)) : Ax w W2 (some ⟨g, 0, none⟩) c' (T ++ U) := by
  have b1 := bt h.b hb
  refine ⟨by rw [List.map_append]; exact hR, h.n.trans hN b1.size, ?_⟩
  have hh : But (fun _ => False) w W2 := (But.ofBelow b1).grown hg fun k hk hlt => by
    obtain ⟨y, hy, e⟩ := map_some hk
    have := new_at h.n hy
    omega
  exact hh.below fun _ _ h => h
/-- what such an append leaves of the rest -/
theorem Ax.but {w W W1 W2 : World} {a : Option Addr} {c : Nat} {T : List Br} (h : Ax w W a c T) (hb : Below W.heap.size W W1) (hg : W1.grownBy W2 (a.map Addr.block)) {k : Nat} {o : Obj} (hk : W.heap[k]? = some o) (hne : ∀ cs, o ≠ .cells cs 22 (0, 0)) : W2.heap[k]? = some o := by
  have hk1 := blk_keep hk hb
  refine (hg.block k (Array.getElem?_eq_some_iff.1 hk1).1 fun e => ?_).trans hk1
  obtain ⟨y, hy, e2⟩ := map_some e.symm
  rcases h.r.cases with ⟨h0, _⟩ | ⟨g', cur, h0, hg', _⟩
  · rw [h0] at hy; cases hy
  · rw [h0, Option.some.injEq] at hy
    subst hy
    dsimp only at e2
    subst e2
    rw [hk] at hg'
    exact hne cur (Option.some.inj hg')
end Go.Proofs.Ytifhkfghjifecaa
