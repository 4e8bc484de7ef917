import Derived.Test.YtceeeofkigkpkaaGreatEABX
import Derived.Test.YtceeeofkigkpkaaGreatEH
namespace Go.Proofs.YtceeeofkigkpkaaGreat
set_option linter.unusedVariables false
open Go.RowKit

/-! ### the document's pool, with its acts -/
def acc (A : List (Int × Int)) : List Value := (A.map fun x => [Value.int .i64 x.1, Value.int .i64 x.2]).flatten
theorem acc_append (A B : List (Int × Int)) : acc (A ++ B) = acc A ++ acc B := by simp [acc]
theorem acc_length : ∀ (A : List (Int × Int)), (acc A).length = A.length * 2
  | [] => rfl
  | x :: A => by
    have := acc_length A
    simp only [acc, List.map_cons, List.flatten_cons, List.length_append, List.length_cons, List.length_nil] at this ⊢
    omega
/-- acts that are undone lead back through the same states: the last one first -/
def Al : List Pg → List (Nat × Pg) → List (Int × Int) → Prop
  | _, [], [] => True
  | pg, (n, x) :: ac, (m, d) :: us => m = (n : Int) ∧ (1 ≤ n ∧ n ≤ pg.length) ∧ x.1 = (pg.getD (n - 1) Pg.zero).1 - d ∧ x.2 = (pg.getD (n - 1) Pg.zero).2 ∧ (d = 1 ∨ d = -1) ∧ Al (pg.set (n - 1) x) ac us
  | _, _, _ => False
theorem Al.len : ∀ {pg : List Pg} {ac : List (Nat × Pg)} {us : List (Int × Int)}, Al pg ac us → ac.length = us.length
  | _, [], [], _ => rfl
  | _, (n, x) :: ac, (m, d) :: us, h => by
    have := Al.len h.2.2.2.2.2
    simp [this]
  | _, [], _ :: _, h => h.elim
  | _, _ :: _, [], h => h.elim
structure Rq (w : World) (q : Nat) (P : Po) (cb lb : Nat) (aA : Option Addr) (cA : Nat) (A : List (Int × Int)) : Prop where
  box : w.heap[q]? = some (.cells #[.int .i64 P.rf, .slice (some ⟨cb, 0, none⟩) P.pg.length P.pg.length, .slice (some ⟨lb, 0, none⟩) P.pg.length P.pg.length, .slice aA A.length cA, .int .i64 ((P.fl : Nat) : Int)] 80 (0, 0))
  cnt : w.heap[cb]? = some (.cells (vi P.counts).toArray 3 (0, 0))
  las : w.heap[lb]? = some (.cells (vbl (P.pg.map Prod.snd)).toArray 4 (0, 0))
  acr : Gw 85 2 w aA cA A.length (acc A)
  len : A.length = P.mark
  al : Al P.pg P.ac.reverse (A.drop P.fl).reverse
  d1 : q ≠ cb
  d2 : q ≠ lb
  d3 : cb ≠ lb
  d4 : ∀ x, aA = some x → x.block ≠ q ∧ x.block ≠ cb ∧ x.block ≠ lb
theorem Po.counts_len' (P : Po) : P.counts.length = P.pg.length := by unfold Po.counts; rw [List.length_map]
theorem Rq.but {S : Nat → Prop} {w w' : World} {q : Nat} {P : Po} {cb lb : Nat} {aA : Option Addr} {cA : Nat} {A : List (Int × Int)} (h : Rq w q P cb lb aA cA A) (hb : But S w w') (h1 : ¬ S q) (h2 : ¬ S cb) (h3 : ¬ S lb) (h4 : ∀ x, aA = some x → ¬ S x.block) : Rq w' q P cb lb aA cA A :=
  ⟨hb.same h.box h1, hb.same h.cnt h2, hb.same h.las h3, h.acr.but hb h4, h.len, h.al, h.d1, h.d2, h.d3, h.d4⟩
theorem Rq.keep {w w' : World} {q : Nat} {P : Po} {cb lb : Nat} {aA : Option Addr} {cA : Nat} {A : List (Int × Int)} (h : Rq w q P cb lb aA cA A) (hb : Below w.heap.size w w') : Rq w' q P cb lb aA cA A :=
  h.but (S := fun _ => False) (But.ofBelow hb) (fun h => h) (fun h => h) (fun h => h) (fun _ _ h => h)
theorem Rq.cell {w : World} {q : Nat} {P : Po} {cb lb : Nat} {aA : Option Addr} {cA : Nat} {A : List (Int × Int)} (h : Rq w q P cb lb aA cA A) : w.cell? ⟨q, 0, none⟩ = some (.int .i64 P.rf) ∧ w.cell? ⟨q, 1, none⟩ = some (.slice (some ⟨cb, 0, none⟩) P.pg.length P.pg.length) ∧ w.cell? ⟨q, 2, none⟩ = some (.slice (some ⟨lb, 0, none⟩) P.pg.length P.pg.length) ∧ w.cell? ⟨q, 3, none⟩ = some (.slice aA A.length cA) ∧ w.cell? ⟨q, 4, none⟩ = some (.int .i64 ((P.fl : Nat) : Int)) := by
  rw [cell_of_row _ _ _ _ _ _ h.box, cell_of_row _ _ _ _ _ _ h.box, cell_of_row _ _ _ _ _ _ h.box, cell_of_row _ _ _ _ _ _ h.box, cell_of_row _ _ _ _ _ _ h.box]
  exact ⟨rfl, rfl, rfl, rfl, rfl⟩
theorem Rq.free {w : World} {q : Nat} {P : Po} {cb lb : Nat} {aA : Option Addr} {cA : Nat} {A : List (Int × Int)} (h : Rq w q P cb lb aA cA A) (i : Nat) : w.frozen? ⟨q, i, none⟩ = false := by simp [World.frozen?, h.box]
theorem counts_get (P : Po) {i : Nat} (hi : i < P.pg.length) : P.counts.getD i 0 = (P.pg.getD i Pg.zero).1 := by
  unfold Po.counts; simp [hi]
theorem snd_get (P : Po) {i : Nat} (hi : i < P.pg.length) : (P.pg.map Prod.snd).getD i false = (P.pg.getD i Pg.zero).2 := by simp [hi]
theorem Rq.cAt {w : World} {q : Nat} {P : Po} {cb lb : Nat} {aA : Option Addr} {cA : Nat} {A : List (Int × Int)} (h : Rq w q P cb lb aA cA A) {i : Nat} (hi : i < P.pg.length) : w.cell? ⟨cb, i, none⟩ = some (.int .i64 (P.pg.getD i Pg.zero).1) ∧ w.frozen? ⟨cb, i, none⟩ = false := by
  refine ⟨?_, by simp [World.frozen?, h.cnt]⟩
  rw [cell_of_row _ _ _ _ _ _ h.cnt, List.getElem?_toArray, vi_get _ i (by rw [Po.counts_len']; exact hi), counts_get P hi]
theorem Rq.lAt {w : World} {q : Nat} {P : Po} {cb lb : Nat} {aA : Option Addr} {cA : Nat} {A : List (Int × Int)} (h : Rq w q P cb lb aA cA A) {i : Nat} (hi : i < P.pg.length) : w.cell? ⟨lb, i, none⟩ = some (.bool (P.pg.getD i Pg.zero).2) ∧ w.frozen? ⟨lb, i, none⟩ = false := by
  refine ⟨?_, by simp [World.frozen?, h.las]⟩
  rw [cell_of_row _ _ _ _ _ _ h.las, List.getElem?_toArray, vbl_get _ (by rw [List.length_map]; exact hi), snd_get P hi]
theorem Rq.ir {w : World} {q : Nat} {P : Po} {cb lb : Nat} {aA : Option Addr} {cA : Nat} {A : List (Int × Int)} (h : Rq w q P cb lb aA cA A) : Ir w (some ⟨cb, 0, none⟩) P.counts := .inr ⟨cb, 0, rfl, fun i hi => by
  rw [Nat.zero_add, counts_get P (by rwa [Po.counts_len'] at hi)]; exact (h.cAt (by rwa [Po.counts_len'] at hi)).1⟩
/-- the document's pool in the blocks F -/
structure Rl (w : World) (q : Nat) (P : Po) (F : Nat → Prop) : Prop where
  ex : ∃ cb lb aA cA A, Rq w q P cb lb aA cA A ∧ F q ∧ F cb ∧ F lb ∧ ∀ x, aA = some x → F x.block
  ok : P.Ok
  lt : ∀ k, F k → k < w.heap.size
theorem Rl.but {S : Nat → Prop} {w w' : World} {q : Nat} {P : Po} {F : Nat → Prop} (h : Rl w q P F) (hb : But S w w') (hn : ∀ k, F k → ¬ S k) : Rl w' q P F := by
  obtain ⟨⟨cb, lb, aA, cA, A, hq, f1, f2, f3, f4⟩, ok, lt⟩ := h
  exact ⟨⟨cb, lb, aA, cA, A, hq.but hb (hn _ f1) (hn _ f2) (hn _ f3) (fun x hx => hn _ (f4 x hx)), f1, f2, f3, f4⟩, ok, fun k hk => Nat.lt_of_lt_of_le (lt k hk) hb.size⟩
theorem Rl.keep {w w' : World} {q : Nat} {P : Po} {F : Nat → Prop} (h : Rl w q P F) (hb : Below w.heap.size w w') : Rl w' q P F := h.but (S := fun _ => False) (But.ofBelow hb) (fun _ _ h => h)
/-- what a call of the document's pool may change -/
structure Gr (w : World) (F : Nat → Prop) (w' : World) (F' : Nat → Prop) : Prop where
  b : But F w w'
  f : ∀ k, k < w.heap.size → (F' k ↔ F k)
theorem Gr.refl (w : World) (F : Nat → Prop) : Gr w F w F := ⟨But.refl _ _, fun _ _ => Iff.rfl⟩
theorem Gr.trans {w w1 w2 : World} {F F1 F2 : Nat → Prop} (h : Gr w F w1 F1) (k : Gr w1 F1 w2 F2) : Gr w F w2 F2 :=
  ⟨h.b.trans k.b (fun x hx hf => (h.f x hx).1 hf), fun x hx => (k.f x (Nat.lt_of_lt_of_le hx h.b.size)).trans (h.f x hx)⟩
theorem Gr.keep {w w' : World} {F : Nat → Prop} (h : Below w.heap.size w w') : Gr w F w' F := ⟨But.ofBelow h, fun _ _ => Iff.rfl⟩
/-- a count is another one -/
theorem Rq.setC {w : World} {q : Nat} {P : Po} {cb lb : Nat} {aA : Option Addr} {cA : Nat} {A : List (Int × Int)} (h : Rq w q P cb lb aA cA A) (i : Nat) (x : Int) : (w.setCell ⟨cb, i, none⟩ (.int .i64 x)).heap[cb]? = some (.cells (vi (P.counts.set i x)).toArray 3 (0, 0)) := by
  rw [heap_setCell_same _ _ _ _ _ _ h.cnt]
  simp [vi, List.map_set]
theorem counts_set (P : Po) (i : Nat) (x : Pg) : (({ P with pg := P.pg.set i x } : Po)).counts = P.counts.set i x.1 := by
  unfold Po.counts; rw [List.map_set]
theorem snd_set {L : List Pg} (i : Nat) (x : Pg) (h : x.2 = (L.getD i Pg.zero).2) : (L.set i x).map Prod.snd = L.map Prod.snd := by
  rw [List.map_set]
  refine List.ext_getElem? fun j => ?_
  by_cases hj : i = j
  · subst hj
    by_cases hi : i < L.length
    · rw [List.getElem?_set_self (by rw [List.length_map]; exact hi), List.getElem?_map, List.getElem?_eq_getElem hi, h]
      simp [hi]
    · rw [List.set_eq_of_length_le (by rw [List.length_map]; omega)]
  · rw [List.getElem?_set_ne hj]
theorem infoRact : (Tryz.prog.info? 85).map (fun i => (i.zero, i.size, i.bytes)) = some (some (.agg #[.int .i64 0, .int .i64 0]), 2, 16) := by kernel_rfl
end Go.Proofs.YtceeeofkigkpkaaGreat

namespace Go.Proofs.YtceeeofkigkpkaaGreat
set_option linter.unusedVariables false
open Go.RowKit

/-! ### the document's acts -/
theorem run_apRa (w : World) (ty : TypeId) (a : Option Addr) (n cap : Nat) (A : List (Int × Int)) (hn : n = A.length) (hR : Gw 85 2 w a cap n (acc A)) (ad : Addr) (c : Nat) (x : Int × Int) (h0 : w.cell? ad = some (.int .i64 x.1)) (h1 : w.cell? (ad.add 1) = some (.int .i64 x.2)) (hlen : n + 1 ≤ 8796093022208) :
    ∃ g cap' w', (Builtin.append_ #[78, 78] ty #[.slice a n cap, .slice (some ad) 1 c]).run Tryz.prog w = .ok (.slice (some ⟨g, 0, none⟩) (n + 1) cap') w' ∧
      Gw 85 2 w' (some ⟨g, 0, none⟩) cap' (n + 1) (acc (A ++ [x])) ∧ New w a (some ⟨g, 0, none⟩) ∧ But (InA a) w w' := by
  obtain ⟨i0, hi, hz0, hz1, hz2⟩ := info_parts infoRact
  have hb : (n + 1) * 16 ≤ 140737488355328 := by omega
  obtain ⟨g, cap', w', hr, k1, k2, k3, k4⟩ := run_append_lies (P := Tryz.prog) w 78 ty 0 85 i0 (.agg #[.int .i64 0, .int .i64 0]) 2 16 Tryz.underlying78 hi hz0 hz1 hz2 rfl (by decide) (.slice a n cap) n (acc A) hR ad 1 c [.int .i64 x.1, .int .i64 x.2] rfl
    (by intro j u hj
        match j, hj with
        | 0, hj => simp at hj; subst hj; simpa [Addr.add] using h0
        | 1, hj => simp at hj; subst hj; exact h1
        | j + 2, hj => simp at hj) (by intro u hu; simp at hu; rcases hu with rfl | rfl <;> rfl) (by decide) (by unfold maxLen; omega) hb (Nat.zero_le _) w.heap.size rfl
  rw [ob_eq] at k2 k3
  refine ⟨g, cap', w', hr, by rw [acc_append]; exact k1, ?_, But.inA k2⟩
  intro y hy
  simp only [Option.some.injEq] at hy
  subst hy
  rcases k3 with k3 | k3
  · obtain ⟨z, hz, e⟩ := map_some k3
    exact .inl ⟨z, hz, e⟩
  · exact .inr (by show _ ≤ g; omega)
theorem wpList_apRa {w : World} {ops : Array Oper} {rest : List Oper} {o : Oper} {a : Act} {Q : Exit → Act → World → Prop} (hgd : o.guard = none) (s x : Operand)
    (ho : o.op = .call { callee := .builtin .append, args := #[s, x], argTypes := #[78, 78] }) (ao : Option Addr) (n cap : Nat) (A : List (Int × Int)) (hs : a.eval s = .slice ao n cap) (hn : n = A.length) (hR : Gw 85 2 w ao cap n (acc A))
    (ad : Addr) (c : Nat) (xx : Int × Int) (hx : a.eval x = .slice (some ad) 1 c) (h0 : w.cell? ad = some (.int .i64 xx.1)) (h1 : w.cell? (ad.add 1) = some (.int .i64 xx.2)) (hlen : n + 1 ≤ 8796093022208)
    (h : ∀ g cap' w', Gw 85 2 w' (some ⟨g, 0, none⟩) cap' (n + 1) (acc (A ++ [xx])) → New w ao (some ⟨g, 0, none⟩) → But (InA ao) w w' → wpList Tryz.prog ops Q rest (a.put o.dst (.slice (some ⟨g, 0, none⟩) (n + 1) cap')) w') : wpList Tryz.prog ops Q (o :: rest) a w :=
  wpList_plain hgd fun _ hK => by
    obtain ⟨g, cap', w', hr, k1, k2, k3⟩ := run_apRa w o.type ao n cap A hn hR ad c xx h0 h1 hlen
    unfold Oper.wp execOp
    simp only [ho, resolve, invoke, builtin, Sem.run_bind, Sem.run_pure, Result.andThen_ok, List.map_toArray, List.map_cons, List.map_nil, hs, hx, hr]
    exact hK _ _ (h g cap' w' k1 k2 k3)
theorem al_act {P : Po} {A : List (Int × Int)} (h : Al P.pg P.ac.reverse (A.drop P.fl).reverse) (hl : A.length = P.mark) {n : Nat} (h1 : 1 ≤ n) (h2 : n ≤ P.pg.length) {d : Int} (hd : d = 1 ∨ d = -1) {c : Int} (hc : c = (P.at n).1 + d) : Al (P.act n c).pg (P.act n c).ac.reverse (((A ++ [((n : Int), d)]).drop P.fl).reverse) := by
  have hf : P.fl ≤ A.length := by rw [hl]; exact Nat.le_add_right _ _
  show Al (P.pg.set (n - 1) (c, (P.at n).2)) (P.ac ++ [(n, P.at n)]).reverse _
  rw [List.drop_append_of_le_length hf, List.reverse_append, List.reverse_append]
  have e : (P.pg.set (n - 1) (c, (P.at n).2)).getD (n - 1) Pg.zero = (c, (P.at n).2) := by rw [List.getD_eq_getElem?_getD, List.getElem?_set_self (by omega)]; rfl
  refine ⟨rfl, ⟨h1, by rw [List.length_set]; exact h2⟩, ?_, ?_, hd, ?_⟩
  · rw [e]; show (P.at n).1 = c - d; omega
  · rw [e]
  · rw [set_at h1 h2]; exact h
set_option maxHeartbeats 4000000 in
theorem turn_any (w : World) (q : Nat) (P : Po) (F : Nat → Prop) (h : Rl w q P F) (n : Nat) (h1 : 1 ≤ n) (h2 : n ≤ P.pg.length) (d : Int) (hd : d = 1 ∨ d = -1) (hc : 0 ≤ (P.at n).1 + d ∧ (P.at n).1 + d ≤ P.rf) (hm : P.mark + 1 ≤ 8796093022208) :
    Calls Tryz.prog 55 #[.pointer (some ⟨q, 0, none⟩), .int .i64 (n : Int), .int .i64 d] w fun e w' => e = .returned (.tuple #[]) ∧ ∃ F', Rl w' q (P.act n ((P.at n).1 + d)) F' ∧ Gr w F w' F' := by
  obtain ⟨⟨cb, lb, aA, cA, A, hq, f1, f2, f3, f4⟩, ok, lt⟩ := h
  obtain ⟨c0, c1, c2, c3, c4⟩ := hq.cell
  obtain ⟨m1, m2⟩ := hq.cAt (i := n - 1) (by omega)
  have hat := ok.at h1 h2
  have hr2 := ok.r2
  have hl2 := ok.l2
  have hlen := hq.len
  obtain ⟨c, hcc⟩ : ∃ c, (P.at n).1 = c := ⟨_, rfl⟩
  have hcc' : (P.pg.getD (n - 1) Pg.zero).1 = c := hcc
  rw [hcc'] at m1
  rw [hcc] at hc hat
  have bS : But (fun k => k = cb) w (w.setCell ⟨cb, n - 1, none⟩ (.int .i64 (c + d))) := (But.refl (fun k => k = cb) w).setCell (p := ⟨cb, n - 1, none⟩) (fun _ => rfl) _
  have aN := al (w.setCell ⟨cb, n - 1, none⟩ (.int .i64 (c + d))) (.cells #[.int .i64 (n : Int), .int .i64 d] 85)
  have n3 : (w.setCell ⟨cb, n - 1, none⟩ (.int .i64 (c + d))).cell? ⟨q, 3, none⟩ = some (.slice aA A.length cA) := (bS.cell (p := ⟨q, 3, none⟩) (block_lt_of_cell c3) hq.d1).trans c3
  have hx := World.alloc_heap_new (w.setCell ⟨cb, n - 1, none⟩ (.int .i64 (c + d))) (.cells #[.int .i64 (n : Int), .int .i64 d] 85)
  have x0 := cell_of_row _ _ 0 _ _ _ hx
  have x1 := cell_of_row _ _ 1 _ _ _ hx
  simp only [List.getElem?_toArray, List.getElem?_cons_zero, List.getElem?_cons_succ] at x0 x1
  have X0 := hide x0
  have X1 := hide x1
  have RA := hide ((hq.acr.but bS (fun x hx => (hq.d4 x hx).2.1)).keep aN)
  have sz : (w.setCell ⟨cb, n - 1, none⟩ (.int .i64 (c + d))).heap.size = w.heap.size := by simp [World.setCell]
  have FIN : Hid (∀ (g cap' : Nat) (w5 : World), Gw 85 2 w5 (some ⟨g, 0, none⟩) cap' (A.length + 1) (acc (A ++ [((n : Int), d)])) → New ((w.setCell ⟨cb, n - 1, none⟩ (.int .i64 (c + d))).alloc (.cells #[.int .i64 (n : Int), .int .i64 d] 85)) aA (some ⟨g, 0, none⟩) → But (InA aA) ((w.setCell ⟨cb, n - 1, none⟩ (.int .i64 (c + d))).alloc (.cells #[.int .i64 (n : Int), .int .i64 d] 85)) w5 →
      (w5.cell? ⟨q, 3, none⟩ = some (.slice aA A.length cA) ∧ w5.frozen? ⟨q, 3, none⟩ = false) ∧ ∃ F', Rl (w5.setCell ⟨q, 3, none⟩ (.slice (some ⟨g, 0, none⟩) (A.length + 1) cap')) q (P.act n (c + d)) F' ∧ Gr w F (w5.setCell ⟨q, 3, none⟩ (.slice (some ⟨g, 0, none⟩) (A.length + 1) cap')) F') := by
    intro g cap' w5 hR hN hB
    have B5 : But (fun k => k = cb ∨ InA aA k) w w5 := ((bS.mono (T := fun k => k = cb ∨ InA aA k) fun _ _ e => .inl e).andBelow aN).trans hB (fun k _ hk => .inr hk)
    have nq : ¬ (q = cb ∨ InA aA q) := by
      rintro (e | ⟨y, hy, e⟩)
      · exact hq.d1 e
      · exact (hq.d4 y hy).1 e
    have nl : ¬ (lb = cb ∨ InA aA lb) := by
      rintro (e | ⟨y, hy, e⟩)
      · exact hq.d3 e.symm
      · exact (hq.d4 y hy).2.2 e
    have q5 := B5.same hq.box nq
    have gN : g ≠ q ∧ g ≠ cb ∧ g ≠ lb ∧ (F g ∨ w.heap.size ≤ g) := by
      rcases hN ⟨g, 0, none⟩ rfl with ⟨y, hy, e⟩ | h2
      · have e : y.block = g := e
        rw [← e]
        exact ⟨(hq.d4 y hy).1, (hq.d4 y hy).2.1, (hq.d4 y hy).2.2, .inl (f4 y hy)⟩
      · have h2 : ((w.setCell ⟨cb, n - 1, none⟩ (.int .i64 (c + d))).alloc (.cells #[.int .i64 (n : Int), .int .i64 d] 85)).heap.size ≤ g := h2
        rw [size_alloc, sz] at h2
        have := lt _ f1
        have := lt _ f2
        have := lt _ f3
        exact ⟨by omega, by omega, by omega, .inr (by omega)⟩
    have hcb : w5.heap[cb]? = some (.cells (vi (P.counts.set (n - 1) (c + d))).toArray 3 (0, 0)) := by
      have k := hq.setC (n - 1) (c + d)
      have k2 := (aN.block cb (Array.getElem?_eq_some_iff.1 k).1).trans k
      exact hB.same k2 (fun ⟨y, hy, e⟩ => (hq.d4 y hy).2.1 e)
    have bq : But (fun k => k = q) w5 (w5.setCell ⟨q, 3, none⟩ (.slice (some ⟨g, 0, none⟩) (A.length + 1) cap')) := (But.refl (fun k => k = q) w5).setCell (p := ⟨q, 3, none⟩) (fun _ => rfl) _
    have gl : g < w5.heap.size := hR.lt rfl
    refine ⟨⟨by rw [cell_of_row _ _ _ _ _ _ q5]; rfl, by simp [World.frozen?, q5]⟩, fun k => F k ∨ k = g, ⟨⟨cb, lb, some ⟨g, 0, none⟩, cap', A ++ [((n : Int), d)], ⟨?_, ?_, ?_, ?_, ?_, ?_, hq.d1, hq.d2, hq.d3, ?_⟩, .inl f1, .inl f2, .inl f3, fun x hx => by cases hx; exact .inr rfl⟩, ok.act h1 h2 hc, ?_⟩, ?_, ?_⟩
    · rw [heap_setCell_same _ _ _ _ _ _ q5]
      have e1 : (P.act n (c + d)).pg.length = P.pg.length := List.length_set
      rw [e1, List.length_append]
      rfl
    · have e2 : (P.act n (c + d)).counts = P.counts.set (n - 1) (c + d) := counts_set P (n - 1) _
      rw [e2]
      exact bq.same hcb (fun e => hq.d1 e.symm)
    · have e3 : (P.act n (c + d)).pg.map Prod.snd = P.pg.map Prod.snd := snd_set (n - 1) _ rfl
      rw [e3]
      exact bq.same (B5.same hq.las nl) (fun e => hq.d2 e.symm)
    · rw [List.length_append]
      exact hR.but bq (fun x hx => by cases hx; exact gN.1)
    · rw [List.length_append, hq.len, Po.act_mark]; rfl
    · exact al_act hq.al hq.len h1 h2 hd (by rw [hcc])
    · intro x hx
      cases hx
      exact ⟨gN.1, gN.2.1, gN.2.2.1⟩
    · intro k hk
      have s5 : w5.heap.size ≤ (w5.setCell ⟨q, 3, none⟩ (.slice (some ⟨g, 0, none⟩) (A.length + 1) cap')).heap.size := bq.size
      rcases hk with hk | rfl
      · have := lt k hk; have := B5.size; omega
      · omega
    · exact (B5.mono fun k _ hk => by
        rcases hk with rfl | ⟨y, hy, rfl⟩
        · exact f2
        · exact f4 y hy).trans bq (fun k _ e => by rw [e]; exact f1)
    · intro k hk
      constructor
      · rintro (h | rfl)
        · exact h
        · exact gN.2.2.2.resolve_right (by omega)
      · exact .inl
  have LN := hide hlen
  have wc : IntKind.i64.wrap (c + d) = c + d := wrapI (by omega) (by omega)
  have s1 : ((n : Int) - 1) = ((n - 1 : Nat) : Int) := by omega
  have hAl : A.length + 1 ≤ 8796093022208 := by rw [hlen]; exact hm
  rw [hcc]
  generalize hAA : acc A = CA at RA
  have HAA := hide hAA
  obtain ⟨na, hna⟩ : ∃ na, A.length = na := ⟨_, rfl⟩
  have NA := hide hna
  rw [hna] at n3 c3 RA FIN hAl
  obtain ⟨i, hi⟩ : ∃ i, n = i + 1 := ⟨n - 1, by omega⟩
  subst hi
  simp only [Nat.add_sub_cancel] at *
  have e1 : ((i + 1 : Nat) : Int) = (i : Int) + 1 := by omega
  rw [e1] at X0 X1 RA FIN
  rw [sz] at X0 X1
  rw [e1]
  have hil : (i : Int) < (P.pg.length : Int) := by omega
  clear hq f1 f2 f3 f4 ok lt hat hlen bS aN hx x0 x1 hcc' hAA hna hcc sz hc hr2 c0 c2 c4 s1 e1
  generalize P.pg.length = np at *
  go_enter Tryz.func55, Tryz.ntmps55
  go_wp2_with (refine wpList_apRa rfl _ _ rfl aA na cA A (by simp [Act.eval]) NA.out.symm (by rw [HAA.out]; exact RA.out) ⟨w.heap.size, 0, none⟩ 1 ((i : Int) + 1, d) (by simp [Act.eval]) X0.out X1.out (by omega) ?_; intro g cap' w5 hR hN hB; obtain ⟨⟨k1, k2⟩, hF⟩ := FIN.out g cap' w5 hR hN hB; have HF := hide hF; clear hR hN hB hF FIN)
  go_end0
  exact ⟨rfl, HF.out⟩
end Go.Proofs.YtceeeofkigkpkaaGreat

namespace Go.Proofs.YtceeeofkigkpkaaGreat
set_option linter.unusedVariables false
open Go.RowKit

/-! ### what the document's pool tells -/
set_option maxHeartbeats 1000000 in
theorem qLen_any (w : World) (q : Nat) (P : Po) (F : Nat → Prop) (h : Rl w q P F) : Calls Tryz.prog 43 #[.pointer (some ⟨q, 0, none⟩)] w fun e w' => e = .returned (.int .i64 ((P.pg.length : Nat) : Int)) ∧ w' = w := by
  obtain ⟨⟨cb, lb, aA, cA, A, hq, f1, f2, f3, f4⟩, ok, lt⟩ := h
  obtain ⟨c0, c1, c2, c3, c4⟩ := hq.cell
  clear hq ok lt f1 f2 f3 f4
  generalize P.pg.length = n at *
  go_enter Tryz.func43, Tryz.ntmps43
  go_wp2
  go_ret
  exact ⟨rfl, rfl⟩
set_option maxHeartbeats 1000000 in
theorem qRefs_any (w : World) (q : Nat) (P : Po) (F : Nat → Prop) (h : Rl w q P F) : Calls Tryz.prog 44 #[.pointer (some ⟨q, 0, none⟩)] w fun e w' => e = .returned (.int .i64 P.rf) ∧ w' = w := by
  obtain ⟨⟨cb, lb, aA, cA, A, hq, f1, f2, f3, f4⟩, ok, lt⟩ := h
  obtain ⟨c0, c1, c2, c3, c4⟩ := hq.cell
  clear hq ok lt f1 f2 f3 f4
  generalize P.rf = r at *
  go_enter Tryz.func44, Tryz.ntmps44
  go_wp2
  go_ret
  exact ⟨rfl, rfl⟩
set_option maxHeartbeats 1000000 in
theorem qMark_any (w : World) (q : Nat) (P : Po) (F : Nat → Prop) (h : Rl w q P F) : Calls Tryz.prog 40 #[.pointer (some ⟨q, 0, none⟩)] w fun e w' => e = .returned (.int .i64 ((P.mark : Nat) : Int)) ∧ w' = w := by
  obtain ⟨⟨cb, lb, aA, cA, A, hq, f1, f2, f3, f4⟩, ok, lt⟩ := h
  obtain ⟨c0, c1, c2, c3, c4⟩ := hq.cell
  rw [hq.len] at c3
  clear hq ok lt f1 f2 f3 f4
  generalize P.mark = n at *
  go_enter Tryz.func40, Tryz.ntmps40
  go_wp2
  go_ret
  exact ⟨rfl, rfl⟩
set_option maxHeartbeats 1000000 in
theorem qCounts_any (w : World) (q : Nat) (P : Po) (F : Nat → Prop) (h : Rl w q P F) : Calls Tryz.prog 39 #[.pointer (some ⟨q, 0, none⟩)] w fun e w' => ∃ a' c', e = .returned (.slice a' P.counts.length c') ∧ IOwn w w' a' c' P.counts := by
  obtain ⟨⟨cb, lb, aA, cA, A, hq, f1, f2, f3, f4⟩, ok, lt⟩ := h
  obtain ⟨c0, c1, c2, c3, c4⟩ := hq.cell
  have CP := hide (CopyInts_any w (some ⟨cb, 0, none⟩) P.counts.length P.counts.length P.counts hq.ir rfl (by rw [Po.counts_len']; exact ok.l2))
  rw [← Po.counts_len'] at c1
  clear hq ok lt f1 f2 f3 f4 c2
  generalize P.counts.length = n at *
  go_enter Tryz.func39, Tryz.ntmps39
  go_wp2_with fail
  refine CP.out.mono ?_
  rintro _ w1 ⟨a', c', rfl, hO⟩
  have O := hide hO
  clear hO
  go_wp2
  go_ret
  exact ⟨a', c', rfl, O.out⟩
set_option maxHeartbeats 2000000 in
theorem qCount_any (w : World) (q : Nat) (P : Po) (F : Nat → Prop) (h : Rl w q P F) (z : Int) : Calls Tryz.prog 35 #[.pointer (some ⟨q, 0, none⟩), .int .i64 z] w fun e w' => e = .returned (.int .i64 (P.count z)) ∧ w' = w := by
  obtain ⟨⟨cb, lb, aA, cA, A, hq, f1, f2, f3, f4⟩, ok, lt⟩ := h
  obtain ⟨c0, c1, c2, c3, c4⟩ := hq.cell
  have hl2 := ok.l2
  by_cases h1 : z < 1
  · have d1 : decide (z < 1) = true := decide_eq_true h1
    have e : P.count z = 0 := by
      unfold Po.count
      rw [if_neg (fun h => by have := (Po.has_iff.1 h).1; omega)]
    rw [e]
    clear hq ok lt f1 f2 f3 f4 e
    generalize P.pg.length = n at *
    go_enter Tryz.func35, Tryz.ntmps35
    go_wp2
    go_ret
    exact ⟨rfl, rfl⟩
  · have d1 : decide (z < 1) = false := decide_eq_false h1
    by_cases h2 : (P.pg.length : Int) < z
    · have d2 : decide ((P.pg.length : Int) < z) = true := decide_eq_true h2
      have e : P.count z = 0 := by
        unfold Po.count
        rw [if_neg (fun h => by have := (Po.has_iff.1 h).2; omega)]
      rw [e]
      clear hq ok lt f1 f2 f3 f4 e
      generalize P.pg.length = n at *
      go_enter Tryz.func35, Tryz.ntmps35
      go_wp2
      go_ret
      exact ⟨rfl, rfl⟩
    · have d2 : decide ((P.pg.length : Int) < z) = false := decide_eq_false h2
      obtain ⟨i, rfl⟩ : ∃ i : Nat, z = (i : Int) + 1 := ⟨(z - 1).toNat, by omega⟩
      have hi : i < P.pg.length := by omega
      have e : P.count ((i : Int) + 1) = (P.pg.getD i Pg.zero).1 := by
        unfold Po.count
        rw [if_pos (Po.has_iff.2 ⟨by omega, by omega⟩), show ((i : Int) + 1 - 1).toNat = i by omega]
      rw [e]
      have m1 := (hq.cAt hi).1
      generalize (P.pg.getD i Pg.zero).1 = c at *
      have s1 : IntKind.i64.wrap (i : Int) = (i : Int) := wrapI (by omega) (by omega)
      have s2 : wrap64 (i : Int) = (i : Int) := by unfold wrap64; omega
      have hiI : (i : Int) < (P.pg.length : Int) := by omega
      clear hq ok lt f1 f2 f3 f4 e
      generalize P.pg.length = n at *
      go_enter Tryz.func35, Tryz.ntmps35
      go_wp2
      go_ret
      exact ⟨rfl, rfl⟩
set_option maxHeartbeats 2000000 in
theorem qState_any (w : World) (q : Nat) (P : Po) (F : Nat → Prop) (h : Rl w q P F) (z : Int) : Calls Tryz.prog 36 #[.pointer (some ⟨q, 0, none⟩), .int .i64 z] w fun e w' => e = .returned (.int .i64 ((P.state z : Nat) : Int)) ∧ w' = w := by
  obtain ⟨⟨cb, lb, aA, cA, A, hq, f1, f2, f3, f4⟩, ok, lt⟩ := h
  obtain ⟨c0, c1, c2, c3, c4⟩ := hq.cell
  have hl2 := ok.l2
  by_cases h1 : z < 1
  · have d1 : decide (z < 1) = true := decide_eq_true h1
    have e : P.state z = 0 := by
      unfold Po.state
      rw [if_neg (fun h => by have := (Po.has_iff.1 h).1; omega)]
    rw [e]
    clear hq ok lt f1 f2 f3 f4 e
    generalize P.pg.length = n at *
    go_enter Tryz.func36, Tryz.ntmps36
    go_wp2
    go_ret
    exact ⟨rfl, rfl⟩
  · have d1 : decide (z < 1) = false := decide_eq_false h1
    by_cases h2 : (P.pg.length : Int) < z
    · have d2 : decide ((P.pg.length : Int) < z) = true := decide_eq_true h2
      have e : P.state z = 0 := by
        unfold Po.state
        rw [if_neg (fun h => by have := (Po.has_iff.1 h).2; omega)]
      rw [e]
      clear hq ok lt f1 f2 f3 f4 e
      generalize P.pg.length = n at *
      go_enter Tryz.func36, Tryz.ntmps36
      go_wp2
      go_ret
      exact ⟨rfl, rfl⟩
    · have d2 : decide ((P.pg.length : Int) < z) = false := decide_eq_false h2
      obtain ⟨i, rfl⟩ : ∃ i : Nat, z = (i : Int) + 1 := ⟨(z - 1).toNat, by omega⟩
      have hi : i < P.pg.length := by omega
      have e : P.state ((i : Int) + 1) = stt (P.pg.getD i Pg.zero) := by
        unfold Po.state
        rw [if_pos (Po.has_iff.2 ⟨by omega, by omega⟩), show ((i : Int) + 1 - 1).toNat = i by omega]
      rw [e]
      have m1 := (hq.cAt hi).1
      have m2 := (hq.lAt hi).1
      generalize P.pg.getD i Pg.zero = x at *
      obtain ⟨c, l⟩ := x
      simp only at m1 m2
      have s1 : IntKind.i64.wrap (i : Int) = (i : Int) := wrapI (by omega) (by omega)
      have s2 : wrap64 (i : Int) = (i : Int) := by unfold wrap64; omega
      have hiI : (i : Int) < (P.pg.length : Int) := by omega
      clear hq ok lt f1 f2 f3 f4 e
      generalize P.pg.length = n at *
      by_cases hc : c = 0
      · subst hc
        cases l with
        | true =>
          rw [show stt ((0 : Int), true) = 2 from rfl]
          go_enter Tryz.func36, Tryz.ntmps36
          go_wp2
          go_ret
          exact ⟨rfl, rfl⟩
        | false =>
          rw [show stt ((0 : Int), false) = 1 from rfl]
          go_enter Tryz.func36, Tryz.ntmps36
          go_wp2
          go_ret
          exact ⟨rfl, rfl⟩
      · have e0 : (c == 0) = false := by simp [hc]
        cases l with
        | true =>
          have e1 : stt (c, true) = 4 := by unfold stt; rw [if_neg hc]; rfl
          rw [e1]
          go_enter Tryz.func36, Tryz.ntmps36
          go_wp2
          go_ret
          exact ⟨rfl, rfl⟩
        | false =>
          have e1 : stt (c, false) = 3 := by unfold stt; rw [if_neg hc]; rfl
          rw [e1]
          go_enter Tryz.func36, Tryz.ntmps36
          go_wp2
          go_ret
          exact ⟨rfl, rfl⟩
set_option maxHeartbeats 4000000 in
theorem qPages_any (w : World) (q : Nat) (P : Po) (F : Nat → Prop) (h : Rl w q P F) (z : Int) : Calls Tryz.prog 38 #[.pointer (some ⟨q, 0, none⟩), .int .i64 z] w fun e w' => ∃ a' c', e = .returned (.slice a' (P.pages z).length c') ∧ IOwn w w' a' c' (P.pages z) := by
  rw [← yp_pages]
  have hl2 := h.ok.l2
  have SA := hide fun (W : World) (hb : Below w.heap.size w W) (x : Int) => qState_any W q P F (h.keep hb) x
  obtain ⟨⟨cb, lb, aA, cA, A, hq, f1, f2, f3, f4⟩, ok, lt⟩ := h
  have CE := hide fun (W : World) (hb : Below w.heap.size w W) => (hq.keep hb).cell.2.1
  clear hq ok lt f1 f2 f3 f4
  generalize P.pg.length = n at *
  have O0 := hide (show IOwn w (w.alloc (.cells #[] 3)) (some ⟨w.heap.size, 0, none⟩) 0 (yp P z 0) from ⟨Ig.mk (cur := #[]) (World.alloc_heap_new w _) (by simp [yp]) (by unfold maxLen; omega) rfl (by simp [yp, vi]), fun x hx => .inr (by cases hx; exact Nat.le_refl _), al _ _⟩)
  go_enter Tryz.func38, Tryz.ntmps38
  go_wp2_with fail
  go_loopw [5, 6] (fun s i wr => ∃ (j : Nat) (a' : Option Addr) (c' : Nat), j ≤ n ∧ i = .int .i64 ((j : Int) + 1) ∧ s = .slice a' (yp P z j).length c' ∧ IOwn w wr a' c' (yp P z j)) (fun _ i _ => n - (intOf i - 1).toNat)
  case atStart => exact ⟨0, _, 0, Nat.zero_le _, rfl, rfl, O0.out⟩
  case round =>
    clear O0
    obtain ⟨j, a', c', hj, rfl, rfl, hO⟩ := hrel
    have O := hide hO
    clear hO
    have c1 := CE.out _ O.out.b
    by_cases hlt : j < n
    · have d1 : decide ((j : Int) + 1 ≤ (n : Int)) = true := decide_eq_true (by omega)
      have hle : (j : Int) + 1 ≤ (n : Int) := by omega
      have S1 := hide (SA.out _ O.out.b ((j : Int) + 1))
      have SN := hide (yp_succ P z j)
      have s1 : IntKind.i64.wrap ((j : Int) + 1 + 1) = (j : Int) + 1 + 1 := wrapI (by omega) (by omega)
      have s2 : wrap64 ((j : Int) + 1 + 1) = (j : Int) + 1 + 1 := by unfold wrap64; omega
      have yl := yp_len P z j
      obtain ⟨L, hL⟩ : ∃ L, yp P z j = L := ⟨_, rfl⟩
      rw [hL] at O SN yl ⊢
      obtain ⟨m, hm⟩ : ∃ m, L.length = m := ⟨_, rfl⟩
      have HM := hide hm
      rw [hm] at yl ⊢
      clear hL hm
      generalize P.state ((j : Int) + 1) = s at *
      by_cases hs : (s : Int) = z
      · subst hs
        rw [if_pos rfl] at SN
        have e0 : ((s : Int) == (s : Int)) = true := by simp
        have aw := al wr (.cells #[.int .i64 ((j : Int) + 1)] 3)
        have nc := cell_alloc_new wr (.int .i64 ((j : Int) + 1)) 3
        have R1 := hide (O.out.keep aw).r
        have HAW := hide aw
        clear aw
        go_wp2_with fail
        refine S1.out.mono ?_
        rintro _ wq ⟨rfl, hwq⟩
        obtain rfl := hwq.symm
        go_wp2_with (refine wpList_apI rfl _ _ rfl a' m c' L (by simp [Act.eval]) HM.out.symm R1.out ⟨wr.heap.size, 0, none⟩ 1 ((j : Int) + 1) (by simp [Act.eval]) nc (by rw [HM.out]; omega) ?_; intro g c2 w2 hR hN hg hgl; have O2 := hide (O.out.step HAW.out hR hN hg); clear hR hN hg hgl)
        go_roundw
        case rel => exact ⟨j + 1, _, c2, by omega, by go_num, by rw [SN.out, List.length_append, HM.out]; rfl, by rw [SN.out]; exact O2.out⟩
        case measure => simp [intOf]; omega
      · rw [if_neg hs, List.append_nil] at SN
        have e0 : ((s : Int) == z) = false := by simp [hs]
        go_wp2_with fail
        refine S1.out.mono ?_
        rintro _ wq ⟨rfl, hwq⟩
        obtain rfl := hwq.symm
        go_wp2
        go_roundw
        case rel => exact ⟨j + 1, a', c', by omega, by go_num, by rw [SN.out, HM.out], by rw [SN.out]; exact O.out⟩
        case measure => simp [intOf]; omega
    · obtain rfl : j = n := by omega
      have d1 : decide ((j : Int) + 1 ≤ (j : Int)) = false := decide_eq_false (by omega)
      obtain ⟨m, hm⟩ : ∃ m, (yp P z j).length = m := ⟨_, rfl⟩
      have HM := hide hm
      rw [hm]
      clear hm
      go_wp2
      go_ret
      exact ⟨a', c', by rw [HM.out]; rfl, O.out⟩
set_option maxHeartbeats 1000000 in
theorem qTally_any (w : World) (q : Nat) (P : Po) (F : Nat → Prop) (h : Rl w q P F) (z : Int) : Calls Tryz.prog 37 #[.pointer (some ⟨q, 0, none⟩), .int .i64 z] w fun e w' => e = .returned (.int .i64 (((P.pages z).length : Nat) : Int)) ∧ Below w.heap.size w w' := by
  have PG := hide (qPages_any w q P F h z)
  clear h
  generalize P.pages z = L at *
  obtain ⟨m, hm⟩ : ∃ m, L.length = m := ⟨_, rfl⟩
  rw [hm] at PG ⊢
  clear hm
  go_enter Tryz.func37, Tryz.ntmps37
  go_wp2_with fail
  refine PG.out.mono ?_
  rintro _ w1 ⟨a', c', rfl, hO⟩
  have O := hide hO.b
  clear hO
  go_wp2
  go_ret
  exact ⟨rfl, O.out⟩
end Go.Proofs.YtceeeofkigkpkaaGreat

namespace Go.Proofs.YtceeeofkigkpkaaGreat
set_option linter.unusedVariables false
open Go.RowKit

/-! ### the document's Alloc, Inc, Dec -/
theorem state_inq {P : Po} {z : Int} {s : Nat} (h1 : 1 ≤ z) (h2 : z ≤ P.pg.length) : inS P.pg s z = true ↔ P.state z = s := by
  unfold Po.state
  rw [if_pos (Po.has_iff.2 ⟨h1, h2⟩), inS_iff]
  exact ⟨fun h => h.2.2, fun h => ⟨h1, h2, h⟩⟩
theorem alloc_atq {P : Po} {j : Nat} (hj : j < P.pg.length) (hs : P.state ((j : Int) + 1) = 1) (hb : ∀ t : Nat, t < j → P.state ((t : Int) + 1) ≠ 1) : P.alloc = ((((j : Int) + 1), 0), P.act (j + 1) 1) := by
  have hm : ((j : Int) + 1) ∈ pagesOf P.pg 1 := (mem_pagesOf _ _ _).2 ((state_inq (by omega) (by omega)).2 hs)
  unfold Po.alloc
  cases hp : pagesOf P.pg 1 with
  | nil => rw [hp] at hm; cases hm
  | cons x xs =>
    have hr := pagesOf_rise P.pg 1
    rw [hp] at hm hr
    obtain ⟨z1, z2, z3⟩ := inS_iff.1 ((mem_pagesOf P.pg 1 x).1 (by rw [hp]; exact List.mem_cons_self))
    have hx : x = (j : Int) + 1 := by
      rcases List.mem_cons.1 hm with e | m
      · exact e.symm
      · have h3 := (List.pairwise_cons.1 hr).1 _ m
        have h4 := hb (x - 1).toNat (by omega)
        rw [show (((x - 1).toNat : Nat) : Int) + 1 = x by omega] at h4
        exact absurd ((state_inq z1 z2).1 (inS_iff.2 ⟨z1, z2, z3⟩)) h4
    subst hx
    show ((((j : Int) + 1), (0 : Int)), P.act ((j : Int) + 1).toNat 1) = _
    rw [show ((j : Int) + 1).toNat = j + 1 by omega]
theorem alloc_noneq {P : Po} (hb : ∀ t : Nat, t < P.pg.length → P.state ((t : Int) + 1) ≠ 1) : P.alloc = ((0, 12), P) := by
  unfold Po.alloc
  cases hp : pagesOf P.pg 1 with
  | nil => rfl
  | cons x xs =>
    obtain ⟨z1, z2, z3⟩ := inS_iff.1 ((mem_pagesOf P.pg 1 x).1 (by rw [hp]; exact List.mem_cons_self))
    have h4 := hb (x - 1).toNat (by omega)
    rw [show (((x - 1).toNat : Nat) : Int) + 1 = x by omega] at h4
    exact absurd ((state_inq z1 z2).1 (inS_iff.2 ⟨z1, z2, z3⟩)) h4
theorem state_freeq {P : Po} {j : Nat} (hj : j < P.pg.length) (hs : P.state ((j : Int) + 1) = 1) : (P.at (j + 1)).1 = 0 := by
  unfold Po.state at hs
  rw [if_pos (Po.has_iff.2 ⟨by omega, by omega⟩), show ((j : Int) + 1 - 1).toNat = j by omega] at hs
  show (P.pg.getD (j + 1 - 1) Pg.zero).1 = 0
  rw [Nat.add_sub_cancel]
  unfold stt at hs
  by_cases h : (P.pg.getD j Pg.zero).1 = 0
  · exact h
  · rw [if_neg h] at hs
    split at hs <;> omega
set_option maxHeartbeats 4000000 in
theorem qAlloc_any (w : World) (q : Nat) (P : Po) (F : Nat → Prop) (h : Rl w q P F) (hm : P.mark + 1 ≤ 8796093022208) :
    Calls Tryz.prog 32 #[.pointer (some ⟨q, 0, none⟩)] w fun e w' => e = .returned (.tuple #[.int .i64 P.alloc.1.1, .int .i64 P.alloc.1.2]) ∧ ∃ F', Rl w' q P.alloc.2 F' ∧ Gr w F w' F' := by
  have H := hide h
  have hl2 := h.ok.l2
  have hr1 := h.ok.r1
  have SA := hide fun (x : Int) => qState_any w q P F h x
  have TU := hide fun (j : Nat) (h2 : j < P.pg.length) (h3 : (P.at (j + 1)).1 = 0) => turn_any w q P F h (j + 1) (by omega) (by omega) 1 (.inl rfl) (by rw [h3]; omega) hm
  have AA := hide fun (j : Nat) => alloc_atq (P := P) (j := j)
  have AN := hide (alloc_noneq (P := P))
  have SF := hide fun (j : Nat) => state_freeq (P := P) (j := j)
  obtain ⟨cb, c1⟩ : ∃ cb, w.cell? ⟨q, 1, none⟩ = some (.slice (some ⟨cb, 0, none⟩) P.pg.length P.pg.length) := by
    obtain ⟨⟨cb, lb, aA, cA, A, hq, f1, f2, f3, f4⟩, ok, lt⟩ := h
    exact ⟨cb, hq.cell.2.1⟩
  clear h hr1 hm
  obtain ⟨n, hn⟩ : ∃ n, P.pg.length = n := ⟨_, rfl⟩
  rw [hn] at TU AA AN SF c1 hl2
  clear hn
  go_enter Tryz.func32, Tryz.ntmps32
  go_wp2_with fail
  go_loopw [4] (fun i wr => ∃ j : Nat, j ≤ n ∧ i = .int .i64 ((j : Int) + 1) ∧ wr = w ∧ ∀ t : Nat, t < j → P.state ((t : Int) + 1) ≠ 1) (fun i _ => n - (intOf i - 1).toNat)
  case atStart => exact ⟨0, Nat.zero_le _, rfl, rfl, fun t ht => absurd ht (Nat.not_lt_zero _)⟩
  case round =>
    obtain ⟨j, hj, rfl, hwr, hb⟩ := hrel
    obtain rfl := hwr.symm
    have HB := hide hb
    clear hb
    by_cases hlt : j < n
    · have d1 : decide ((j : Int) + 1 ≤ (n : Int)) = true := decide_eq_true (by omega)
      have hle : (j : Int) + 1 ≤ (n : Int) := by omega
      have S1 := hide (SA.out ((j : Int) + 1))
      have s1 : IntKind.i64.wrap ((j : Int) + 1 + 1) = (j : Int) + 1 + 1 := wrapI (by omega) (by omega)
      have s2 : wrap64 ((j : Int) + 1 + 1) = (j : Int) + 1 + 1 := by unfold wrap64; omega
      by_cases hs : P.state ((j : Int) + 1) = 1
      · have AT := hide (AA.out j hlt hs HB.out)
        have T1 := hide (TU.out j hlt (SF.out j hlt hs))
        rw [SF.out j hlt hs] at T1
        rw [show ((j + 1 : Nat) : Int) = (j : Int) + 1 by omega] at T1
        rw [hs] at S1
        go_wp2_with fail
        refine S1.out.mono ?_
        rintro _ wq ⟨rfl, hwq⟩
        obtain rfl := hwq.symm
        go_wp2_with fail
        refine T1.out.mono ?_
        rintro _ w2 ⟨rfl, hF⟩
        have HF := hide hF
        clear hF
        go_wp2
        go_ret2
        rw [AT.out]
        exact ⟨rfl, HF.out⟩
      · have HS := hide hs
        obtain ⟨s, hss⟩ : ∃ s, P.state ((j : Int) + 1) = s := ⟨_, rfl⟩
        rw [hss] at S1 hs
        have e0 : ((s : Int) == 1) = false := by simp; omega
        clear hss hs
        go_wp2_with fail
        refine S1.out.mono ?_
        rintro _ wq ⟨rfl, hwq⟩
        obtain rfl := hwq.symm
        go_wp2
        go_roundw
        case rel => exact ⟨j + 1, by omega, by go_num, trivial, fun t ht => by
          by_cases e : t = j
          · subst e; exact HS.out
          · exact HB.out t (by omega)⟩
        case measure => simp [intOf]; omega
    · obtain rfl : j = n := by omega
      have d1 : decide ((j : Int) + 1 ≤ (j : Int)) = false := decide_eq_false (by omega)
      go_wp2
      go_ret2
      rw [AN.out HB.out]
      exact ⟨rfl, F, H.out, Gr.refl _ _⟩
theorem at_countq {P : Po} {n : Nat} (h1 : 1 ≤ n) (h2 : n ≤ P.pg.length) : P.count (n : Int) = (P.at n).1 := by
  unfold Po.count Po.at
  rw [if_pos (Po.has_iff.2 ⟨by omega, by omega⟩), show ((n : Int) - 1).toNat = n - 1 by omega]
set_option maxHeartbeats 4000000 in
theorem qInc_any (w : World) (q : Nat) (P : Po) (F : Nat → Prop) (h : Rl w q P F) (z : Int) (hm : P.mark + 1 ≤ 8796093022208) :
    Calls Tryz.prog 33 #[.pointer (some ⟨q, 0, none⟩), .int .i64 z] w fun e w' => e = .returned (.int .i64 (P.inc z).1) ∧ ∃ F', Rl w' q (P.inc z).2 F' ∧ Gr w F w' F' := by
  have H := hide h
  have CA := hide fun (W : World) (hb : Below w.heap.size w W) => qCount_any W q P F (h.keep hb) z
  have hcr := h.ok.count z
  obtain ⟨cb, c0⟩ : ∃ cb : Nat, w.cell? ⟨q, 0, none⟩ = some (.int .i64 P.rf) := by
    obtain ⟨⟨cb, lb, aA, cA, A, hq, f1, f2, f3, f4⟩, ok, lt⟩ := h
    exact ⟨cb, hq.cell.1⟩
  by_cases h0 : P.count z = 0
  · have e : P.inc z = (15, P) := by unfold Po.inc; rw [if_pos h0]
    rw [e]
    rw [h0] at CA
    clear h hm
    go_enter Tryz.func33, Tryz.ntmps33
    go_wp2_with fail
    refine (CA.out _ (Below.refl _ _)).mono ?_
    rintro _ wq ⟨rfl, hwq⟩
    obtain rfl := hwq.symm
    go_wp2
    go_ret
    exact ⟨rfl, F, H.out, Gr.refl _ _⟩
  · obtain ⟨z1, z2⟩ := Po.count_has h0
    obtain ⟨n, rfl⟩ : ∃ n : Nat, z = (n : Int) := ⟨z.toNat, by omega⟩
    have hat := at_countq (P := P) (n := n) (by omega) (by omega)
    have e0 : (P.count (n : Int) == 0) = false := by simp [h0]
    by_cases h1 : P.count (n : Int) = P.rf
    · have e : P.inc (n : Int) = (13, P) := by unfold Po.inc; rw [if_neg h0, if_pos h1]
      rw [e]
      have d1 : decide (P.rf ≤ P.count (n : Int)) = true := decide_eq_true (by omega)
      have d1' : P.rf ≤ P.count (n : Int) := by omega
      clear h hm h0 h1 hat e
      generalize P.count (n : Int) = c at *
      generalize P.rf = r at *
      go_enter Tryz.func33, Tryz.ntmps33
      go_wp2_with fail
      refine (CA.out _ (Below.refl _ _)).mono ?_
      rintro _ wq ⟨rfl, hwq⟩
      obtain rfl := hwq.symm
      go_wp2
      go_quiet (first | (go_at_call 35; exact Calls.quiet_of_same (CA.out _ (drN _ _))))
      go_wp2
      go_ret
      exact ⟨rfl, F, H.out.keep (drN _ _), Gr.keep (drN _ _)⟩
    · have e : P.inc (n : Int) = (0, P.act n (P.count (n : Int) + 1)) := by unfold Po.inc; rw [if_neg h0, if_neg h1, Int.toNat_natCast]
      rw [e]
      have d1 : decide (P.rf ≤ P.count (n : Int)) = false := decide_eq_false (by omega)
      have d1' : ¬ P.rf ≤ P.count (n : Int) := by omega
      have TU := hide fun (W : World) (hb : Below w.heap.size w W) => turn_any W q P F (h.keep hb) n (by omega) (by omega) 1 (.inl rfl) (by rw [← hat]; omega) hm
      rw [← hat] at TU
      clear h hm h0 h1 hat e
      show Calls _ _ _ _ fun e w' => e = .returned (.int .i64 0) ∧ ∃ F', Rl w' q (P.act n (P.count (n : Int) + 1)) F' ∧ Gr w F w' F'
      generalize P.count (n : Int) = c at *
      generalize P.rf = r at *
      go_enter Tryz.func33, Tryz.ntmps33
      go_wp2_with fail
      refine (CA.out _ (Below.refl _ _)).mono ?_
      rintro _ wq ⟨rfl, hwq⟩
      obtain rfl := hwq.symm
      go_wp2
      go_quiet (first | (go_at_call 35; exact Calls.quiet_of_same (CA.out _ (drN _ _))))
      go_wp2_with fail
      refine (TU.out _ (drN _ _)).mono ?_
      rintro _ w2 ⟨rfl, F2, hF2, hG2⟩
      have HF : Hid (∃ F', Rl w2 q (P.act n (c + 1)) F' ∧ Gr w F w2 F') := ⟨F2, hF2, (Gr.keep (drN _ _)).trans hG2⟩
      clear hF2 hG2
      go_wp2
      go_ret
      exact ⟨rfl, HF.out⟩
set_option maxHeartbeats 4000000 in
theorem qDec_any (w : World) (q : Nat) (P : Po) (F : Nat → Prop) (h : Rl w q P F) (z : Int) (hm : P.mark + 1 ≤ 8796093022208) :
    Calls Tryz.prog 34 #[.pointer (some ⟨q, 0, none⟩), .int .i64 z] w fun e w' => e = .returned (.tuple #[.int .i64 (P.dec z).1.1, .int .i64 (P.dec z).1.2]) ∧ ∃ F', Rl w' q (P.dec z).2 F' ∧ Gr w F w' F' := by
  have H := hide h
  have CA := hide (qCount_any w q P F h z)
  have hcr := h.ok.count z
  by_cases h0 : P.count z = 0
  · have e : P.dec z = ((0, 15), P) := by unfold Po.dec; rw [if_pos h0]
    rw [e]
    rw [h0] at CA
    clear h hm
    go_enter Tryz.func34, Tryz.ntmps34
    go_wp2_with fail
    refine CA.out.mono ?_
    rintro _ wq ⟨rfl, hwq⟩
    obtain rfl := hwq.symm
    go_wp2
    go_ret2
    exact ⟨rfl, F, H.out, Gr.refl _ _⟩
  · obtain ⟨z1, z2⟩ := Po.count_has h0
    obtain ⟨n, rfl⟩ : ∃ n : Nat, z = (n : Int) := ⟨z.toNat, by omega⟩
    have hat := at_countq (P := P) (n := n) (by omega) (by omega)
    have e0 : (P.count (n : Int) == 0) = false := by simp [h0]
    have e : P.dec (n : Int) = ((P.count (n : Int) - 1, 0), P.act n (P.count (n : Int) - 1)) := by unfold Po.dec; rw [if_neg h0, Int.toNat_natCast]
    rw [e]
    have TU := hide (turn_any w q P F h n (by omega) (by omega) (-1) (.inr rfl) (by rw [← hat]; omega) hm)
    rw [← hat, show P.count (n : Int) + -1 = P.count (n : Int) - 1 by omega] at TU
    have hl : (P.act n (P.count (n : Int) - 1)).pg.length = P.pg.length := List.length_set
    have ha : ((P.act n (P.count (n : Int) - 1)).at n).1 = P.count (n : Int) - 1 := by
      show ((P.pg.set (n - 1) _).getD (n - 1) Pg.zero).1 = _
      rw [List.getD_eq_getElem?_getD, List.getElem?_set_self (by omega)]; rfl
    have hc2 : (P.act n (P.count (n : Int) - 1)).count (n : Int) = P.count (n : Int) - 1 := by rw [at_countq (by omega) (by rw [hl]; omega), ha]
    have C2 := hide fun (W : World) (F2 : Nat → Prop) (h2 : Rl W q (P.act n (P.count (n : Int) - 1)) F2) => qCount_any W q _ F2 h2 (n : Int)
    rw [hc2] at C2
    clear h hm h0 hat e hl ha hc2 hcr
    show Calls _ _ _ _ fun e w' => e = .returned (.tuple #[.int .i64 (P.count (n : Int) - 1), .int .i64 0]) ∧ ∃ F', Rl w' q (P.act n (P.count (n : Int) - 1)) F' ∧ Gr w F w' F'
    generalize P.act n (P.count (n : Int) - 1) = P2 at *
    generalize P.count (n : Int) = c at *
    go_enter Tryz.func34, Tryz.ntmps34
    go_wp2_with fail
    refine CA.out.mono ?_
    rintro _ wq ⟨rfl, hwq⟩
    obtain rfl := hwq.symm
    go_wp2_with fail
    refine TU.out.mono ?_
    rintro _ w2 ⟨rfl, F2, hF2, hG2⟩
    have HF := hide hF2
    have HG := hide hG2
    clear hF2 hG2
    go_wp2_with fail
    refine (C2.out _ _ HF.out).mono ?_
    rintro _ wq ⟨rfl, hwq⟩
    obtain rfl := hwq.symm
    go_wp2
    go_ret2
    exact ⟨rfl, F2, HF.out, HG.out⟩
end Go.Proofs.YtceeeofkigkpkaaGreat
