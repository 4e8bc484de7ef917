import Derived.Test.YtbobnfjbbablkaaZET
import Derived.Deep.CutRange
import Derived.Deep.RegionLaw
namespace Go.Proofs.Ytbobnfjbbablkaa
open Go.RowKit

structure Wc (w W : World) (oc c3 : Array Value) (g3 : Nat) (T : List Br) : Prop where
  p : Pq w W oc
  m3 : W.heap[g3]? = some (.cells c3 29 (0, 0))
  n3 : w.heap.size + 2 ≤ g3
  f : Fam w W T
theorem Wc.keep {w W W' : World} {oc c3 : Array Value} {g3 : Nat} {T : List Br} (h : Wc w W oc c3 g3 T) (hb : Below W.heap.size W W') : Wc w W' oc c3 g3 T := ⟨h.p.keep hb, blk_keep h.m3 hb, h.n3, h.f.keep hb⟩
theorem Wc.new {w W : World} {oc : Array Value} {T : List Br} (h : Pq w W oc) (f : Fam w W T) (c3 : Array Value) : Wc w (W.alloc (.cells c3 29)) oc c3 W.heap.size T := ⟨h.keep (al _ _), heap_alloc_new _ _, h.s, f.keep (al _ _)⟩
theorem Wc.set {w W : World} {oc : Array Value} {g3 : Nat} {T : List Br} {b0 b1 b2 b3 b4 b5 b6 b7 b8 b9 : Value} (h : Pq w W oc) (f : Fam w W T) (m : W.heap[g3]? = some (.cells #[b0, b1, b2, b3, b4, b5, b6, b7, b8, b9] 29 (0, 0))) (n : w.heap.size + 2 ≤ g3) (a0 a1 a2 a3 a4 a5 a6 a7 a8 a9 : Value) : Wc w (set10 W g3 a0 a1 a2 a3 a4 a5 a6 a7 a8 a9) oc #[a0, a1, a2, a3, a4, a5, a6, a7, a8, a9] g3 T := by
  have hb := set10_but W g3 a0 a1 a2 a3 a4 a5 a6 a7 a8 a9
  have hp := h.but hb n
  exact ⟨hp, set10_heap m a0 a1 a2 a3 a4 a5 a6 a7 a8 a9, n, f.but hb hp.b fun t ht x hx e => (f.own t ht).1.r.notKind m (by decide) hx e⟩
/-- what an append to a list of ranges leaves -/
theorem grow_keep {X W3 : World} {am : Option Addr} {cm : Nat} {D : List Rv} (hq : Qw X am cm D) (hg : X.grownBy W3 (am.map Addr.block)) {k : Nat} {o : Obj} (hk : X.heap[k]? = some o) (hne : ∀ cs, o ≠ .cells cs 26 (0, 0)) : W3.heap[k]? = some o := by
  refine (hg.block k (Array.getElem?_eq_some_iff.1 hk).1 fun e => ?_).trans hk
  obtain ⟨y, hy, e2⟩ := map_some e.symm
  rcases hq.cases with ⟨h0, _⟩ | ⟨g', cur, h0, hg', _⟩
  · rw [h0] at hy; cases hy
  · rw [h0, Option.some.injEq] at hy
    subst hy
    dsimp only at e2
    subst e2
    rw [hk] at hg'
    exact hne cur (Option.some.inj hg')
theorem grow_rw {X W3 : World} {am : Option Addr} {cm : Nat} {D : List Rv} (hq : Qw X am cm D) (hg : X.grownBy W3 (am.map Addr.block)) {a : Option Addr} {c : Nat} {l : List Nat} (h : Rw X a c l) : Rw W3 a c l := by
  rcases h.cases with ⟨rfl, rfl, rfl⟩ | ⟨g, cur, rfl, hg', h1, h2, h3, h4⟩
  · exact Rw.nil _
  · exact Rw.mk (grow_keep hq hg hg' (by intro cs h; cases h)) h1 h2 h3 h4
/-- the copy, so many ranges in -/
structure Wk (w W : World) (oc c3 : Array Value) (g3 : Nat) (T : List Br) (M : List Rv) (j : Nat) (am : Option Addr) (cm : Nat) (D : List Rv) : Prop where
  c : Wc w W oc c3 g3 (T ++ rowsOf D)
  q : Qw W am cm D
  n : New w none am
  l : D.length = j
  e : D.map Rv.rg = (M.take j).map Rv.rg
theorem Wk.mid {w W X W3 : World} {oc c3 : Array Value} {g3 : Nat} {T : List Br} {M : List Rv} {j : Nat} {am : Option Addr} {cm : Nat} {D : List Rv} (h : Wk w W oc c3 g3 T M j am cm D) (hb : Below W.heap.size W X) (hg : X.grownBy W3 (am.map Addr.block)) : W3.heap[g3]? = some (.cells c3 29 (0, 0)) :=
  grow_keep (h.q.keep hb) hg (blk_keep h.c.m3 hb) (by intro cs h; cases h)
theorem Wk.mid2 {w W X W3 : World} {oc c3 : Array Value} {g3 : Nat} {T : List Br} {M : List Rv} {j : Nat} {am : Option Addr} {cm : Nat} {D : List Rv} (h : Wk w W oc c3 g3 T M j am cm D) (hb : Below W.heap.size W X) (hg : X.grownBy W3 (am.map Addr.block)) : Pq w W3 oc := by
  have qx := h.q.keep hb
  have cx := h.c.keep hb
  exact ⟨grow_keep qx hg cx.p.m0 (by intro cs h; cases h), grow_keep qx hg cx.p.m1 (by intro cs h; cases h), ((But.ofBelow (S := fun _ => False) cx.p.b).grown hg fun k hk hlt => by
    obtain ⟨y, hy, e⟩ := map_some hk
    have := h.n.at hy
    omega).below fun _ _ h => h, Nat.le_trans cx.p.s hg.size⟩
theorem cp_S {w W : World} {a0 a1 a2 a3 a4 a5 a6 a7 a8 a9 b1 b2 b3 : Value} {b k : Nat} (p : Pq w W #[a0, a1, a2, a3, a4, a5, a6, a7, a8, a9]) (h : w.cell? ⟨b, k, none⟩ = some b1 ∧ w.cell? ⟨b, k + 1, none⟩ = some b2 ∧ w.cell? ⟨b, k + 2, none⟩ = some b3) : W.cell? ⟨w.heap.size, 9, none⟩ = some a9 ∧ W.cell? ⟨b, k, none⟩ = some b1 ∧ W.cell? ⟨b, k + 1, none⟩ = some b2 ∧ W.cell? ⟨b, k + 2, none⟩ = some b3 :=
  ⟨(ten10 p.m0).2.2.2.2.2.2.2.2.2, (p.b.cell (block_lt_of_cell h.1)).trans h.1, (p.b.cell (block_lt_of_cell h.2.1)).trans h.2.1, (p.b.cell (block_lt_of_cell h.2.2)).trans h.2.2⟩
theorem Wk.step {w W W2 X W3 W4 : World} {oc c3 c3' : Array Value} {g3 g cap' : Nat} {T : List Br} {M : List Rv} {j : Nat} {am : Option Addr} {cm : Nat} {D : List Rv} {q : Rv} (h : Wk w W oc c3 g3 T M j am cm D) (hj : j < M.length) (ro : Ro W W2 q) (hq : q.rg = (M.getD j Rv.zero).rg) (hb : Below W2.heap.size W2 X)
    (hR : Qw W3 (some ⟨g, 0, none⟩) cap' (D ++ [q])) (hN : New X am (some ⟨g, 0, none⟩)) (hg : X.grownBy W3 (am.map Addr.block)) (hb4 : But (fun k => k = g3) W3 W4) (m4 : W4.heap[g3]? = some (.cells c3' 29 (0, 0))) : Wk w W4 oc c3' g3 T M (j + 1) (some ⟨g, 0, none⟩) cap' (D ++ [q]) := by
  have bx := bt ro.l.b hb
  have m3 := h.mid bx hg
  have qx := h.q.keep bx
  have cx := h.c.keep bx
  have b3 : Below w.heap.size w W3 := ((But.ofBelow (S := fun _ => False) cx.p.b).grown hg fun k hk hlt => by
    obtain ⟨y, hy, e⟩ := map_some hk
    have := h.n.at hy
    omega).below fun _ _ h => h
  have p3 : Pq w W3 oc := ⟨grow_keep qx hg cx.p.m0 (by intro cs h; cases h), grow_keep qx hg cx.p.m1 (by intro cs h; cases h), b3, Nat.le_trans cx.p.s hg.size⟩
  have p4 := p3.but hb4 h.c.n3
  have fx : Fam w X (T ++ rowsOf (D ++ [q])) := by
    rw [rowsOf_append, rowsOf_one, ← List.append_assoc]
    exact (h.c.f.add ro.fam ro.l.b h.c.p.b).keep hb
  have f4 : Fam w W4 (T ++ rowsOf (D ++ [q])) := ⟨fun t ht => by
    obtain ⟨o1, o2⟩ := fx.own t ht
    have r3 := grow_rw qx hg o1.r
    exact ⟨⟨r3.but hb4 fun x hx e => r3.notKind m3 (by decide) hx e, o1.n, p4.b⟩, o2⟩, fx.dist⟩
  refine ⟨⟨p4, m4, h.c.n3, f4⟩, hR.but hb4 fun x hx e => ?_, ?_, by rw [List.length_append, List.length_singleton, h.l], ?_⟩
  · cases hx
    dsimp only at e
    subst e
    obtain ⟨cs, hk⟩ := hR.kind
    rw [m3] at hk
    simp at hk
  · exact h.n.trans hN (by have := cx.p.b.size; omega)
  · rw [List.map_append, h.e, List.take_succ_eq_append_getElem hj, List.map_append, List.map_singleton, List.map_singleton, hq]
    simp [hj]
/-- the call that copied makes -/
structure Cp (W : World) (o p : Ov) : Prop where
  kd : p.kd = o.kd
  A : p.A = o.A
  B : p.B = o.B
  R : p.R.rg = o.R.rg
  S : p.S.rg = o.S.rg
  M : p.M.map Rv.rg = o.M.map Rv.rg
  i : Oi W p
theorem Wk.done {w W : World} {oc c3 : Array Value} {g3 : Nat} {T : List Br} {M D : List Rv} {am aA aB aM a1 a2 : Option Addr} {cm cA cB cM d1 d2 : Nat} {A B : List Nat} {q s R S : Rv} {kd : Int} (h : Wk w W oc c3 g3 T M M.length am cm D) (hT : T = [] ++ [⟨a1, d1, A⟩] ++ [⟨a2, d2, B⟩] ++ q.rows ++ s.rows) (hq : q.rg = R.rg) (hs : s.rg = S.rg) (hm : M.length ≤ 1048576) (cs : Array Value) :
    Cp (W.setRow (w.heap.size + 1) cs) ⟨kd, aA, cA, A, aB, cB, B, R, S, aM, cM, M⟩ ⟨kd, a1, d1, A, a2, d2, B, q, s, am, cm, D⟩ := by
  have hb := but_setRow W (w.heap.size + 1) cs
  have f2 : Fam w (W.setRow (w.heap.size + 1) cs) (T ++ rowsOf D) := h.c.f.but hb (below_setRow h.c.p.b (by omega) cs) fun t ht x hx e => (h.c.f.own t ht).1.r.notKind h.c.p.m1 (by decide) hx e
  subst hT
  have one : ∀ t ∈ ([] ++ [⟨a1, d1, A⟩] ++ [⟨a2, d2, B⟩] ++ q.rows ++ s.rows ++ rowsOf D : List Br), Bs (W.setRow (w.heap.size + 1) cs) t.a t.l ∧ t.l.length ≤ t.c := fun t ht => ⟨(f2.own t ht).1.bs (f2.own t ht).2, (f2.own t ht).1.r.cap⟩
  have rr : ∀ r : Rv, (∀ t ∈ r.rows, Bs (W.setRow (w.heap.size + 1) cs) t.a t.l ∧ t.l.length ≤ t.c) → Ri (W.setRow (w.heap.size + 1) cs) r := fun r h => by
    have h1 := h ⟨r.aL, r.cL, r.lo⟩ (by simp [Rv.rows])
    have h2 := h ⟨r.aH, r.cH, r.hi⟩ (by simp [Rv.rows])
    exact ⟨h1.1, h1.2, h2.1, h2.2⟩
  have hl : D.length = M.length := h.l
  have e := h.e
  rw [List.take_length] at e
  have q2 : Qw (W.setRow (w.heap.size + 1) cs) am cm D := h.q.but hb fun x hx ee => by
    obtain ⟨cq, hk⟩ : ∃ cs, W.heap[x.block]? = some (.cells cs 26 (0, 0)) := by
      rcases h.q.cases with ⟨h0, _⟩ | ⟨g', cur, h0, hg', _⟩
      · rw [h0] at hx; cases hx
      · rw [h0, Option.some.injEq] at hx; subst hx; exact ⟨cur, hg'⟩
    rw [ee, h.c.p.m1] at hk
    simp at hk
  refine ⟨rfl, rfl, rfl, hq, hs, e, ⟨(one ⟨a1, d1, A⟩ (by simp)).1, (one ⟨a1, d1, A⟩ (by simp)).2, (one ⟨a2, d2, B⟩ (by simp)).1, (one ⟨a2, d2, B⟩ (by simp)).2, rr q fun t ht => one t (by simp [ht]), rr s fun t ht => one t (by simp [ht]), q2.qs (fun r hr => rr r fun t ht => one t (List.mem_append.2 (.inr ((rows_sub hr).subset ht)))) (by omega), ?_⟩⟩
  rcases q2.cases with ⟨_, _, h0⟩ | ⟨_, _, _, _, h1, _⟩
  · dsimp only; rw [h0]; exact Nat.zero_le _
  · exact h1
set_option linter.unusedSimpArgs false in
set_option maxRecDepth 100000 in
set_option maxHeartbeats 12800000 in
theorem gcopied_lit (w : World) (kd : Int) (aA : Option Addr) (cA : Nat) (A : List Nat) (aB : Option Addr) (cB : Nat) (B : List Nat) (aL : Option Addr) (cL : Nat) (lo : List Nat) (aH : Option Addr) (cH : Nat) (hi : List Nat) (op : Bool) (bL : Option Addr) (dL : Nat) (ko : List Nat) (bH : Option Addr) (dH : Nat) (ki : List Nat) (oq : Bool) (aM : Option Addr) (cM : Nat) (M : List Rv) (h : Oi w ⟨kd, aA, cA, A, aB, cB, B, ⟨aL, cL, lo, aH, cH, hi, op⟩, ⟨bL, dL, ko, bH, dH, ki, oq⟩, aM, cM, M⟩) (hb0 : Ob ⟨kd, aA, cA, A, aB, cB, B, ⟨aL, cL, lo, aH, cH, hi, op⟩, ⟨bL, dL, ko, bH, dH, ki, oq⟩, aM, cM, M⟩) :
    Calls Try.prog 16 #[.agg #[.int .i64 kd, .slice aA A.length cA, .slice aB B.length cB, .slice aL lo.length cL, .slice aH hi.length cH, .bool op, .slice bL ko.length dL, .slice bH ki.length dH, .bool oq, .slice aM M.length cM]] w fun e w' => ∃ p : Ov, e = .returned (.agg p.cs) ∧ Cp w' ⟨kd, aA, cA, A, aB, cB, B, ⟨aL, cL, lo, aH, cH, hi, op⟩, ⟨bL, dL, ko, bH, dH, ki, oq⟩, aM, cM, M⟩ p ∧ Below w.heap.size w w' := by
  have SA := hide fun w1 (hb : Below w.heap.size w w1) => CopyBytes_at w1 aA A.length cA A (h.a.keep hb) rfl hb0.a
  have SB := hide fun w1 (hb : Below w.heap.size w w1) => CopyBytes_at w1 aB B.length cB B (h.b.keep hb) rfl hb0.b
  have SR := hide fun w1 (hb : Below w.heap.size w w1) => CopyRange_any w1 ⟨aL, cL, lo, aH, cH, hi, op⟩ (h.r.keep hb) hb0.rl hb0.rh
  have SS := hide fun w1 (hb : Below w.heap.size w w1) => CopyRange_any w1 ⟨bL, dL, ko, bH, dH, ki, oq⟩ (h.s.keep hb) hb0.sl hb0.sh
  have A8 := hide (B8_of h.a)
  have B8 := hide (B8_of h.b)
  have HM := hide h.m
  have HMB := hide hb0.m
  have HML := hide hb0.ml
  clear h hb0
  unfold Rv.val at SR SS
  dsimp only [Rv.cs] at SR SS
  go_enter Try.func16, Try.ntmps16
  go_wp2
  have P0 : Hid (Pq w ((w.alloc (.cells #[.int .i64 kd, .slice aA A.length cA, .slice aB B.length cB, .slice aL lo.length cL, .slice aH hi.length cH, .bool op, .slice bL ko.length dL, .slice bH ki.length dH, .bool oq, .slice aM M.length cM] 29)).alloc (.cells #[.int .i64 0, .slice none 0 0, .slice none 0 0, .slice none 0 0, .slice none 0 0, .bool false, .slice none 0 0, .slice none 0 0, .bool false, .slice none 0 0] 29)).drew #[.int .i64 kd, .slice aA A.length cA, .slice aB B.length cB, .slice aL lo.length cL, .slice aH hi.length cH, .bool op, .slice bL ko.length dL, .slice bH ki.length dH, .bool oq, .slice aM M.length cM]) := Pq.start ((Below.refl _ _).drew)
  have P0b : Hid (Pq w (((w.alloc (.cells #[.int .i64 kd, .slice aA A.length cA, .slice aB B.length cB, .slice aL lo.length cL, .slice aH hi.length cH, .bool op, .slice bL ko.length dL, .slice bH ki.length dH, .bool oq, .slice aM M.length cM] 29)).alloc (.cells #[.int .i64 0, .slice none 0 0, .slice none 0 0, .slice none 0 0, .slice none 0 0, .bool false, .slice none 0 0, .slice none 0 0, .bool false, .slice none 0 0] 29)).alloc (.cells #[.int .i64 0, .slice none 0 0, .slice none 0 0, .slice none 0 0, .slice none 0 0, .bool false, .slice none 0 0, .slice none 0 0, .bool false, .slice none 0 0] 29)).drew #[.int .i64 kd, .slice aA A.length cA, .slice aB B.length cB, .slice aL lo.length cL, .slice aH hi.length cH, .bool op, .slice bL ko.length dL, .slice bH ki.length dH, .bool oq, .slice aM M.length cM]) := Pq.start ((al _ _).drew)
  have C0 := ten10 P0.out.m0
  have C0b := ten10 P0b.out.m0
  have F0 := hide (Fam.nil w ((w.alloc (.cells #[.int .i64 kd, .slice aA A.length cA, .slice aB B.length cB, .slice aL lo.length cL, .slice aH hi.length cH, .bool op, .slice bL ko.length dL, .slice bH ki.length dH, .bool oq, .slice aM M.length cM] 29)).alloc (.cells #[.int .i64 0, .slice none 0 0, .slice none 0 0, .slice none 0 0, .slice none 0 0, .bool false, .slice none 0 0, .slice none 0 0, .bool false, .slice none 0 0] 29)).drew)
  have F0b := hide (Fam.nil w (((w.alloc (.cells #[.int .i64 kd, .slice aA A.length cA, .slice aB B.length cB, .slice aL lo.length cL, .slice aH hi.length cH, .bool op, .slice bL ko.length dL, .slice bH ki.length dH, .bool oq, .slice aM M.length cM] 29)).alloc (.cells #[.int .i64 0, .slice none 0 0, .slice none 0 0, .slice none 0 0, .slice none 0 0, .bool false, .slice none 0 0, .slice none 0 0, .bool false, .slice none 0 0] 29)).alloc (.cells #[.int .i64 0, .slice none 0 0, .slice none 0 0, .slice none 0 0, .slice none 0 0, .bool false, .slice none 0 0, .slice none 0 0, .bool false, .slice none 0 0] 29)).drew)
  go_cut [3] from 5 to 19 (fun p wx => ∃ (g3 : Nat) (a1 : Option Addr) (d1 : Nat) (a2 : Option Addr) (d2 : Nat) (q s : Rv), p = .pointer (some ⟨g3, 0, none⟩) ∧ (Wc w wx #[.int .i64 kd, .slice aA A.length cA, .slice aB B.length cB, .slice aL lo.length cL, .slice aH hi.length cH, .bool op, .slice bL ko.length dL, .slice bH ki.length dH, .bool oq, .slice aM M.length cM] #[.int .i64 kd, .slice a1 A.length d1, .slice a2 B.length d2, .slice q.aL q.lo.length q.cL, .slice q.aH q.hi.length q.cH, .bool q.op, .slice s.aL s.lo.length s.cL, .slice s.aH s.hi.length s.cH, .bool s.op, .slice none 0 0] g3 ([] ++ [⟨a1, d1, A⟩] ++ [⟨a2, d2, B⟩] ++ q.rows ++ s.rows) ∧ q.rg = ⟨lo, hi, op⟩ ∧ s.rg = ⟨ko, ki, oq⟩))
  case first =>
    go_region_held3 (fun w' => w'.cell? ⟨w.heap.size, 0, none⟩ = some (.int .i64 kd) ∧ w'.cell? ⟨w.heap.size, 1, none⟩ = some (.slice aA A.length cA) ∧ w'.cell? ⟨w.heap.size, 2, none⟩ = some (.slice aB B.length cB) ∧ w'.cell? ⟨w.heap.size, 3, none⟩ = some (.slice aL lo.length cL) ∧ w'.cell? ⟨w.heap.size, 4, none⟩ = some (.slice aH hi.length cH) ∧ w'.cell? ⟨w.heap.size, 5, none⟩ = some (.bool op) ∧ w'.cell? ⟨w.heap.size, 6, none⟩ = some (.slice bL ko.length dL) ∧ w'.cell? ⟨w.heap.size, 7, none⟩ = some (.slice bH ki.length dH) ∧ w'.cell? ⟨w.heap.size, 8, none⟩ = some (.bool oq) ∧ w'.cell? ⟨w.heap.size, 9, none⟩ = some (.slice aM M.length cM))
      (first | with_reducible exact C0 | with_reducible exact C0b | with_reducible exact CC | with_reducible exact CA _ | with_reducible exact CS _ _ _ _ _ _ _ _ _ _)
      (first | (go_at_call 48; with_reducible refine (SA.out _ P0.out.b).mono ?_; rintro e w1 ⟨a1, d1, rfl, oo⟩; have hb := oo.b; (try (have A3 := hide (And.intro (blk_keep A3.out.1 hb) A3.out.2))); have F := hide (F0.out.add (fam1 oo A8.out) hb P0.out.b); have P := hide (P0.out.keep hb); have PA := hide fun o => P.out.keep (al _ o); have CC := ten10 P.out.m0; have CA := fun o => ten10 (PA.out o).m0; clear hb oo) | (go_at_call 48; with_reducible refine (SA.out _ P0b.out.b).mono ?_; rintro e w1 ⟨a1, d1, rfl, oo⟩; have hb := oo.b; have A3 := hide (And.intro (blk_new3 (w := w) hb) (Nat.le_refl (w.heap.size + 2))); have F := hide (F0b.out.add (fam1 oo A8.out) hb P0b.out.b); have P := hide (P0b.out.keep hb); have PA := hide fun o => P.out.keep (al _ o); have CC := ten10 P.out.m0; have CA := fun o => ten10 (PA.out o).m0; clear hb oo) | (go_at_call 48; with_reducible refine (SB.out _ P.out.b).mono ?_; rintro e w2 ⟨a2, d2, rfl, oo⟩; have hb := oo.b; (try (have A3 := hide (And.intro (blk_keep A3.out.1 hb) A3.out.2))); have F := hide (F.out.add (fam1 oo B8.out) hb P.out.b); have P := hide (P.out.keep hb); have PA := hide fun o => P.out.keep (al _ o); have CC := ten10 P.out.m0; have CA := fun o => ten10 (PA.out o).m0; clear hb oo) | (go_at_call 48; with_reducible refine (SB.out _ (PA.out _).b).mono ?_; rintro e w2 ⟨a2, d2, rfl, oo⟩; have hb := oo.b; have A3 := hide (And.intro (blk_new hb) P.out.s); have F := hide ((F.out.keep (al _ _)).add (fam1 oo B8.out) hb (PA.out _).b); have P := hide ((PA.out _).keep hb); have PA := hide fun o => P.out.keep (al _ o); have CC := ten10 P.out.m0; have CA := fun o => ten10 (PA.out o).m0; clear hb oo) | (go_at_call 49; with_reducible refine (SR.out _ P.out.b).mono ?_; rintro e w3 ⟨q, rfl, oo, ho⟩; have hb := oo.l.b; (try (have A3 := hide (And.intro (blk_keep A3.out.1 hb) A3.out.2))); have F := hide (F.out.add oo.fam hb P.out.b); have P := hide (P.out.keep hb); have PA := hide fun o => P.out.keep (al _ o); have CC := ten10 P.out.m0; have CA := fun o => ten10 (PA.out o).m0; have HS3 := hide ho; clear hb oo ho) | (go_at_call 49; with_reducible refine (SR.out _ (PA.out _).b).mono ?_; rintro e w3 ⟨q, rfl, oo, ho⟩; have hb := oo.l.b; have A3 := hide (And.intro (blk_new hb) P.out.s); have F := hide ((F.out.keep (al _ _)).add oo.fam hb (PA.out _).b); have P := hide ((PA.out _).keep hb); have PA := hide fun o => P.out.keep (al _ o); have CC := ten10 P.out.m0; have CA := fun o => ten10 (PA.out o).m0; have HS3 := hide ho; clear hb oo ho) | (go_at_call 49; with_reducible refine (SS.out _ P.out.b).mono ?_; rintro e w4 ⟨s, rfl, oo, ho⟩; have hb := oo.l.b; (try (have A3 := hide (And.intro (blk_keep A3.out.1 hb) A3.out.2))); have F := hide (F.out.add oo.fam hb P.out.b); have P := hide (P.out.keep hb); have PA := hide fun o => P.out.keep (al _ o); have CC := ten10 P.out.m0; have CA := fun o => ten10 (PA.out o).m0; (try (obtain ⟨x0, x1, x2, x3, x4, x5, x6, x7, x8, x9⟩ := ten10 A3.out.1; have y0 := thaw A3.out.1 0; have y1 := thaw A3.out.1 1; have y2 := thaw A3.out.1 2; have y3 := thaw A3.out.1 3; have y4 := thaw A3.out.1 4; have y5 := thaw A3.out.1 5; have y6 := thaw A3.out.1 6; have y7 := thaw A3.out.1 7; have y8 := thaw A3.out.1 8; have y9 := thaw A3.out.1 9)); (try (have CS := fun b0 b1 b2 b3 b4 b5 b6 b7 b8 b9 => ten10 (P.out.but (set10_but _ _ b0 b1 b2 b3 b4 b5 b6 b7 b8 b9) A3.out.2).m0)); have HS4 := hide ho; clear hb oo ho) | (go_at_call 49; with_reducible refine (SS.out _ (PA.out _).b).mono ?_; rintro e w4 ⟨s, rfl, oo, ho⟩; have hb := oo.l.b; have A3 := hide (And.intro (blk_new hb) P.out.s); have F := hide ((F.out.keep (al _ _)).add oo.fam hb (PA.out _).b); have P := hide ((PA.out _).keep hb); have PA := hide fun o => P.out.keep (al _ o); have CC := ten10 P.out.m0; have CA := fun o => ten10 (PA.out o).m0; (try (obtain ⟨x0, x1, x2, x3, x4, x5, x6, x7, x8, x9⟩ := ten10 A3.out.1; have y0 := thaw A3.out.1 0; have y1 := thaw A3.out.1 1; have y2 := thaw A3.out.1 2; have y3 := thaw A3.out.1 3; have y4 := thaw A3.out.1 4; have y5 := thaw A3.out.1 5; have y6 := thaw A3.out.1 6; have y7 := thaw A3.out.1 7; have y8 := thaw A3.out.1 8; have y9 := thaw A3.out.1 9)); (try (have CS := fun b0 b1 b2 b3 b4 b5 b6 b7 b8 b9 => ten10 (P.out.but (set10_but _ _ b0 b1 b2 b3 b4 b5 b6 b7 b8 b9) A3.out.2).m0)); have HS4 := hide ho; clear hb oo ho))
    · go_wp2_with fail
      go_meet
      case rel => exact ⟨w4.heap.size, a1, d1, a2, d2, q, s, rfl, Wc.new P.out F.out #[.int .i64 kd, .slice a1 A.length d1, .slice a2 B.length d2, .slice q.aL q.lo.length q.cL, .slice q.aH q.hi.length q.cH, .bool q.op, .slice s.aL s.lo.length s.cL, .slice s.aH s.hi.length s.cH, .bool s.op, .slice none 0 0], HS3.out, HS4.out⟩
    · clear x0 x1 x2 x3 x4 x5 x6 x7 x8 x9 y0 y1 y2 y3 y4 y5 y6 y7 y8 y9
      go_wp2_with fail
      go_meet
      case rel => exact ⟨w3.heap.size, a1, d1, a2, d2, q, s, rfl, Wc.set P.out F.out A3.out.1 A3.out.2 (.int .i64 kd) (.slice a1 A.length d1) (.slice a2 B.length d2) (.slice q.aL q.lo.length q.cL) (.slice q.aH q.hi.length q.cH) (.bool q.op) (.slice s.aL s.lo.length s.cL) (.slice s.aH s.hi.length s.cH) (.bool s.op) (.slice none 0 0), HS3.out, HS4.out⟩
    · clear x0 x1 x2 x3 x4 x5 x6 x7 x8 x9 y0 y1 y2 y3 y4 y5 y6 y7 y8 y9
      go_wp2_with fail
      go_meet
      case rel => exact ⟨w2.heap.size, a1, d1, a2, d2, q, s, rfl, Wc.set P.out F.out A3.out.1 A3.out.2 (.int .i64 kd) (.slice a1 A.length d1) (.slice a2 B.length d2) (.slice q.aL q.lo.length q.cL) (.slice q.aH q.hi.length q.cH) (.bool q.op) (.slice s.aL s.lo.length s.cL) (.slice s.aH s.hi.length s.cH) (.bool s.op) (.slice none 0 0), HS3.out, HS4.out⟩
    · clear x0 x1 x2 x3 x4 x5 x6 x7 x8 x9 y0 y1 y2 y3 y4 y5 y6 y7 y8 y9
      go_wp2_with fail
      go_meet
      case rel => exact ⟨w1.heap.size, a1, d1, a2, d2, q, s, rfl, Wc.set P.out F.out A3.out.1 A3.out.2 (.int .i64 kd) (.slice a1 A.length d1) (.slice a2 B.length d2) (.slice q.aL q.lo.length q.cL) (.slice q.aH q.hi.length q.cH) (.bool q.op) (.slice s.aL s.lo.length s.cL) (.slice s.aH s.hi.length s.cH) (.bool s.op) (.slice none 0 0), HS3.out, HS4.out⟩
    · clear x0 x1 x2 x3 x4 x5 x6 x7 x8 x9 y0 y1 y2 y3 y4 y5 y6 y7 y8 y9
      go_wp2_with fail
      go_meet
      case rel => exact ⟨w.heap.size + 1 + 1, a1, d1, a2, d2, q, s, rfl, Wc.set P.out F.out A3.out.1 A3.out.2 (.int .i64 kd) (.slice a1 A.length d1) (.slice a2 B.length d2) (.slice q.aL q.lo.length q.cL) (.slice q.aH q.hi.length q.cH) (.bool q.op) (.slice s.aL s.lo.length s.cL) (.slice s.aH s.hi.length s.cH) (.bool s.op) (.slice none 0 0), HS3.out, HS4.out⟩
  case rest =>
    obtain ⟨g3, a1, d1, a2, d2, q, s, rfl, hW, hq, hs⟩ := hcut
    have HQ := hide hq
    have HSS := hide hs
    have HW := hide hW
    clear hW hq hs
    obtain ⟨T, hT⟩ : ∃ T : List Br, T = [] ++ [⟨a1, d1, A⟩] ++ [⟨a2, d2, B⟩] ++ q.rows ++ s.rows := ⟨_, rfl⟩
    rw [← hT] at HW
    have HT := hide hT
    clear hT
    have hMl := HMB.out
    go_wp2
    go_loopw [4] (fun i wx => ∃ (j : Nat) (am : Option Addr) (cm : Nat) (D : List Rv), j ≤ M.length ∧ i = .int .i64 j ∧ Wk w wx #[.int .i64 kd, .slice aA A.length cA, .slice aB B.length cB, .slice aL lo.length cL, .slice aH hi.length cH, .bool op, .slice bL ko.length dL, .slice bH ki.length dH, .bool oq, .slice aM M.length cM] #[.int .i64 kd, .slice a1 A.length d1, .slice a2 B.length d2, .slice q.aL q.lo.length q.cL, .slice q.aH q.hi.length q.cH, .bool q.op, .slice s.aL s.lo.length s.cL, .slice s.aH s.hi.length s.cH, .bool s.op, .slice am j cm] g3 T M j am cm D) (fun i _ => M.length - (intOf i).toNat)
    case atStart => exact ⟨0, none, 0, [], Nat.zero_le _, rfl, ⟨by simpa [rowsOf] using HW.out, Qw.nil _, New.none _ _, rfl, rfl⟩⟩
    case round =>
      obtain ⟨j, am, cm, D, hj, rfl, hG⟩ := hrel
      have HG := hide hG
      clear hG
      obtain ⟨k0, k1, k2, k3, k4, k5, k6, k7, k8, k9⟩ := ten10 HG.out.c.p.m0
      obtain ⟨l0, l1, l2, l3, l4, l5, l6, l7, l8, l9⟩ := ten10 HG.out.c.m3
      have hj1 := w64 (j := j) (by omega)
      by_cases hlt : j < M.length
      · have hi1 : (j : Int) < (M.length : Int) := by omega
        obtain ⟨b, off, hab, hr0⟩ := HM.out.at hlt
        have CR := hide fun w1 (hb : Below wr.heap.size wr w1) => CopyRange_any w1 (M.getD j Rv.zero) (((HM.out.keep HG.out.c.p.b).1 _ (getD_memR hlt)).keep hb) (HML.out _ (getD_memR hlt)).1 (HML.out _ (getD_memR hlt)).2
        have HQJ : Hid (∃ r, r = M.getD j Rv.zero) := ⟨_, rfl⟩
        obtain ⟨r, hr⟩ := HQJ.out
        rw [← hr] at CR hr0
        have HR := hide hr
        clear hr HQJ
        obtain ⟨m0, m1, m2⟩ := range3 (range_below hr0 HG.out.c.p.b)
        have MO0 := range3 hr0
        subst hab
        clear hr0
        unfold Rv.val at CR
        have HRG : Hid (∀ q' : Rv, q'.rg = r.rg → q'.rg = (M.getD j Rv.zero).rg) := fun q' h => by rw [← HR.out]; exact h
        obtain ⟨r1, r2, rl, r3, r4, rh, ro⟩ := r
        dsimp only [Rv.cs] at CR m0 m1 m2 MO0
        have MO := hide MO0
        clear MO0
        have HLD : Hid (D.length + 1 ≤ 4294967296) := by show _ ≤ _; rw [HG.out.l]; omega
        have HLJ := hide HG.out.l
        go_wp2
        have S1 := cp_S (HG.out.c.p.keep (drew1' wr)) MO.out
        refine wp_region_held_drew (S := fun w' => w'.cell? ⟨w.heap.size, 9, none⟩ = some (.slice (some ⟨b, off, none⟩) M.length cM) ∧ w'.cell? ⟨b, off + j * 3, none⟩ = some (.slice r1 rl.length r2) ∧ w'.cell? ⟨b, off + j * 3 + 1, none⟩ = some (.slice r3 rh.length r4) ∧ w'.cell? ⟨b, off + j * 3 + 2, none⟩ = some (.bool ro)) (by kernel_rfl) (by exact S1) (fun hHeld => ?_)
        refine wpAnyH_take (i := 0) (v := ?v1) rfl (by kernel_rfl) (by kernel_rfl) (by kernel_rfl) (fun _ _ _ h => h) (Or.inl ⟨by rfl, ?hy1⟩) (by assumption) ?rest1
        case hy1 => (intro w hSw; (try dsimp only at hSw); go_simp <;> with_reducible rfl)
        try simp only [Act.put, List.getElem_toArray, List.getElem_cons_zero, List.getElem_cons_succ, List.setIfInBounds_toArray, List.set_cons_zero, List.set_cons_succ]
        refine wpAnyH_take (i := 2) (v := ?v2) rfl (by kernel_rfl) (by kernel_rfl) (by kernel_rfl) (fun _ _ _ h => h) (Or.inl ⟨by rfl, ?hy2⟩) (by assumption) ?rest2
        case hy2 => (intro w hSw; (try dsimp only at hSw); go_simp <;> with_reducible rfl)
        try simp only [Act.put, List.getElem_toArray, List.getElem_cons_zero, List.getElem_cons_succ, List.setIfInBounds_toArray, List.set_cons_zero, List.set_cons_succ]
        refine wpAnyH_take (i := 3) (v := ?v3) rfl (by kernel_rfl) (by kernel_rfl) (by kernel_rfl) (fun _ _ _ h => h) (Or.inl ⟨by rfl, ?hy3⟩) (by assumption) ?rest3
        case hy3 => (intro w hSw; (try dsimp only at hSw); go_simp <;> with_reducible rfl)
        try simp only [Act.put, List.getElem_toArray, List.getElem_cons_zero, List.getElem_cons_succ, List.setIfInBounds_toArray, List.set_cons_zero, List.set_cons_succ]
        refine wpAnyH_take (i := 4) (v := ?v4) rfl (by kernel_rfl) (by kernel_rfl) (by kernel_rfl) (fun _ _ _ h => h) (Or.inl ⟨by rfl, ?hy4⟩) (by assumption) ?rest4
        case hy4 => (intro w hSw; (try dsimp only at hSw); go_simp <;> with_reducible rfl)
        try simp only [Act.put, List.getElem_toArray, List.getElem_cons_zero, List.getElem_cons_succ, List.setIfInBounds_toArray, List.set_cons_zero, List.set_cons_succ]
        refine wpAnyH_take (i := 5) (v := ?v5) rfl (by kernel_rfl) (by kernel_rfl) (by kernel_rfl) (fun _ _ _ h => h) (Or.inl ⟨by rfl, ?hy5⟩) (by assumption) ?rest5
        case hy5 => (intro w hSw; (try dsimp only at hSw); go_simp <;> with_reducible rfl)
        try simp only [Act.put, List.getElem_toArray, List.getElem_cons_zero, List.getElem_cons_succ, List.setIfInBounds_toArray, List.set_cons_zero, List.set_cons_succ]
        refine wpAnyH_take (i := 6) (v := ?v6) rfl (by kernel_rfl) (by kernel_rfl) (by kernel_rfl) (fun _ _ _ h => h) (Or.inl ⟨by rfl, ?hy6⟩) (by assumption) ?rest6
        case hy6 => (intro w hSw; (try dsimp only at hSw); go_simp <;> with_reducible rfl)
        try simp only [Act.put, List.getElem_toArray, List.getElem_cons_zero, List.getElem_cons_succ, List.setIfInBounds_toArray, List.set_cons_zero, List.set_cons_succ]
        refine wpAnyH_ready (rs := [1, 7]) (by kernel_rfl) (by simp) ?_
        refine AllReadyH.cons rfl (fun K hK => ?_) (AllReadyH.cons rfl (fun K hK => ?_) AllReadyH.nil)
        · go_simp
          refine hK.out _ _ (by exact S1) (fun hHeld => ?_)
          clear hK K
          try simp only [Act.put, List.getElem_toArray, List.getElem_cons_zero, List.getElem_cons_succ, List.setIfInBounds_toArray, List.set_cons_zero, List.set_cons_succ]
          refine wpAnyH_ready (rs := [7]) (by kernel_rfl) (by simp) ?_
          refine AllReadyH.cons rfl (fun K hK => ?_) AllReadyH.nil
          go_simp
          refine (CR.out _ (drew1' wr)).mono ?_
          rintro e w2 ⟨q', rfl, rq, hq'⟩
          have W2 := hide (HG.out.c.keep (bt (drew1' wr) rq.l.b))
          obtain ⟨n0, n1, n2, n3, n4, n5, n6, n7, n8, n9⟩ := ten10 W2.out.m3
          have hg2 := block_lt_of_cell n9
          dsimp only at hg2
          have RQ := hide rq
          have HQ' := hide (HRG.out q' hq')
          clear rq hq'
          obtain ⟨qa, qc, qal, qb, qd, qbl, qo⟩ := q'
          dsimp only
          have S2 := cp_S W2.out.p MO.out
          have S2a := fun o => cp_S (W2.out.p.keep (al _ o)) MO.out
          go_wp2_with fail
          refine hK.out _ _ (by exact S2) (fun hHeld => ?_)
          clear hK K
          try simp only [Act.put, List.getElem_toArray, List.getElem_cons_zero, List.getElem_cons_succ, List.setIfInBounds_toArray, List.set_cons_zero, List.set_cons_succ]
          refine wpAnyH_ready (rs := [8]) (by kernel_rfl) (by simp) ?_
          refine AllReadyH.cons rfl (fun K hK => ?_) AllReadyH.nil
          go_simp
          refine hK.out _ _ (by exact S2a _) (fun hHeld => ?_)
          clear hK K
          try simp only [Act.put, List.getElem_toArray, List.getElem_cons_zero, List.getElem_cons_succ, List.setIfInBounds_toArray, List.set_cons_zero, List.set_cons_succ]
          refine wpAnyH_ready (rs := [9]) (by kernel_rfl) (by simp) ?_
          refine AllReadyH.cons rfl (fun K hK => ?_) AllReadyH.nil
          refine step_apQ rfl _ _ rfl am j cm D (by simp [Act.eval]) HLJ.out.symm (HG.out.q.keep (bt (bt (drew1' wr) RQ.out.l.b) (al _ _))) ⟨w2.heap.size, 0, none⟩ 1 ⟨qa, qc, qal, qb, qd, qbl, qo⟩ (by simp [Act.eval]) (built_at ⟨qa, qc, qal, qb, qd, qbl, qo⟩ 26 rfl) HLD.out ?_
          intro g cap' w3 hR hN hg
          have ST := hide fun W4 c3' hb4 m4 => HG.out.step (W4 := W4) (c3' := c3') hlt (Ro.pre (drew1' wr) RQ.out) HQ'.out (al w2 (.cells #[.slice qa qal.length qc, .slice qb qbl.length qd, .bool qo] 26)) hR hN hg hb4 m4
          have P3 := hide (HG.out.mid2 (bt (bt (drew1' wr) RQ.out.l.b) (al _ _)) hg)
          have M3 := hide (HG.out.mid (bt (bt (drew1' wr) RQ.out.l.b) (al _ _)) hg)
          obtain ⟨o0, o1, o2, o3, o4, o5, o6, o7, o8, o9⟩ := ten10 M3.out
          have of := thaw M3.out 9
          have S3 := cp_S P3.out MO.out
          have S4 := fun v => cp_S (P3.out.but ((But.refl (fun k => k = g3) w3).setCell (p := ⟨g3, 9, none⟩) (fun _ => rfl) v) HG.out.c.n3) MO.out
          clear hR hN hg
          refine hK.out _ _ (by exact S3) (fun hHeld => ?_)
          clear hK K
          try simp only [Act.put, List.getElem_toArray, List.getElem_cons_zero, List.getElem_cons_succ, List.setIfInBounds_toArray, List.set_cons_zero, List.set_cons_succ]
          refine wpAnyH_take (i := 10) (v := ?v7) rfl (by kernel_rfl) (by kernel_rfl) (by kernel_rfl) (fun _ _ _ h => h) (Or.inl ⟨by rfl, ?hy7⟩) (by assumption) ?rest7
          case hy7 => (intro w hSw; (try dsimp only at hSw); go_simp <;> with_reducible rfl)
          try simp only [Act.put, List.getElem_toArray, List.getElem_cons_zero, List.getElem_cons_succ, List.setIfInBounds_toArray, List.set_cons_zero, List.set_cons_succ]
          refine wpAnyH_ready (rs := [11]) (by kernel_rfl) (by simp) ?_
          refine AllReadyH.cons rfl (fun K hK => ?_) AllReadyH.nil
          go_simp
          refine hK.out _ _ (by exact S4 _) (fun hHeld => ?_)
          clear hK K
          try simp only [Act.put, List.getElem_toArray, List.getElem_cons_zero, List.getElem_cons_succ, List.setIfInBounds_toArray, List.set_cons_zero, List.set_cons_succ]
          refine wpAnyH_done (by kernel_rfl) ?_ _
          clear S1 S2 S2a S3 S4 n0 n1 n2 n3 n4 n5 n6 n7 n8 n9 o0 o1 o2 o3 o4 o5 o6 o7 o8 o9
          go_wp2
          go_roundw
          case rel => exact ⟨j + 1, some ⟨g, 0, none⟩, cap', _, by omega, by first | (go_num; done) | exact congrArg (Value.int IntKind.i64) (by omega), ST.out _ _ ((But.refl (fun k => k = g3) w3).setCell (p := ⟨g3, 9, none⟩) (fun _ => rfl) _) (heap_setCell_same _ g3 9 _ _ _ M3.out)⟩
          case measure => first | exact meas_up _ _ _ hj1 hlt | exact meas_up _ _ _ rfl hlt | (simp [intOf]; omega)
        · go_simp
          refine (CR.out _ (drew1' wr)).mono ?_
          rintro e w2 ⟨q', rfl, rq, hq'⟩
          have W2 := hide (HG.out.c.keep (bt (drew1' wr) rq.l.b))
          obtain ⟨n0, n1, n2, n3, n4, n5, n6, n7, n8, n9⟩ := ten10 W2.out.m3
          have hg2 := block_lt_of_cell n9
          dsimp only at hg2
          have RQ := hide rq
          have HQ' := hide (HRG.out q' hq')
          clear rq hq'
          obtain ⟨qa, qc, qal, qb, qd, qbl, qo⟩ := q'
          dsimp only
          have S2 := cp_S W2.out.p MO.out
          have S2a := fun o => cp_S (W2.out.p.keep (al _ o)) MO.out
          go_wp2_with fail
          refine hK.out _ _ (by exact S2) (fun hHeld => ?_)
          clear hK K
          try simp only [Act.put, List.getElem_toArray, List.getElem_cons_zero, List.getElem_cons_succ, List.setIfInBounds_toArray, List.set_cons_zero, List.set_cons_succ]
          refine wpAnyH_ready (rs := [1, 8]) (by kernel_rfl) (by simp) ?_
          refine AllReadyH.cons rfl (fun K hK => ?_) (AllReadyH.cons rfl (fun K hK => ?_) AllReadyH.nil)
          · go_simp
            refine hK.out _ _ (by exact S2) (fun hHeld => ?_)
            clear hK K
            try simp only [Act.put, List.getElem_toArray, List.getElem_cons_zero, List.getElem_cons_succ, List.setIfInBounds_toArray, List.set_cons_zero, List.set_cons_succ]
            refine wpAnyH_ready (rs := [8]) (by kernel_rfl) (by simp) ?_
            refine AllReadyH.cons rfl (fun K hK => ?_) AllReadyH.nil
            go_simp
            refine hK.out _ _ (by exact S2a _) (fun hHeld => ?_)
            clear hK K
            try simp only [Act.put, List.getElem_toArray, List.getElem_cons_zero, List.getElem_cons_succ, List.setIfInBounds_toArray, List.set_cons_zero, List.set_cons_succ]
            refine wpAnyH_ready (rs := [9]) (by kernel_rfl) (by simp) ?_
            refine AllReadyH.cons rfl (fun K hK => ?_) AllReadyH.nil
            refine step_apQ rfl _ _ rfl am j cm D (by simp [Act.eval]) HLJ.out.symm (HG.out.q.keep (bt (bt (drew1' wr) RQ.out.l.b) (al _ _))) ⟨w2.heap.size, 0, none⟩ 1 ⟨qa, qc, qal, qb, qd, qbl, qo⟩ (by simp [Act.eval]) (built_at ⟨qa, qc, qal, qb, qd, qbl, qo⟩ 26 rfl) HLD.out ?_
            intro g cap' w3 hR hN hg
            have ST := hide fun W4 c3' hb4 m4 => HG.out.step (W4 := W4) (c3' := c3') hlt (Ro.pre (drew1' wr) RQ.out) HQ'.out (al w2 (.cells #[.slice qa qal.length qc, .slice qb qbl.length qd, .bool qo] 26)) hR hN hg hb4 m4
            have P3 := hide (HG.out.mid2 (bt (bt (drew1' wr) RQ.out.l.b) (al _ _)) hg)
            have M3 := hide (HG.out.mid (bt (bt (drew1' wr) RQ.out.l.b) (al _ _)) hg)
            obtain ⟨o0, o1, o2, o3, o4, o5, o6, o7, o8, o9⟩ := ten10 M3.out
            have of := thaw M3.out 9
            have S3 := cp_S P3.out MO.out
            have S4 := fun v => cp_S (P3.out.but ((But.refl (fun k => k = g3) w3).setCell (p := ⟨g3, 9, none⟩) (fun _ => rfl) v) HG.out.c.n3) MO.out
            clear hR hN hg
            refine hK.out _ _ (by exact S3) (fun hHeld => ?_)
            clear hK K
            try simp only [Act.put, List.getElem_toArray, List.getElem_cons_zero, List.getElem_cons_succ, List.setIfInBounds_toArray, List.set_cons_zero, List.set_cons_succ]
            refine wpAnyH_take (i := 10) (v := ?v8) rfl (by kernel_rfl) (by kernel_rfl) (by kernel_rfl) (fun _ _ _ h => h) (Or.inl ⟨by rfl, ?hy8⟩) (by assumption) ?rest8
            case hy8 => (intro w hSw; (try dsimp only at hSw); go_simp <;> with_reducible rfl)
            try simp only [Act.put, List.getElem_toArray, List.getElem_cons_zero, List.getElem_cons_succ, List.setIfInBounds_toArray, List.set_cons_zero, List.set_cons_succ]
            refine wpAnyH_ready (rs := [11]) (by kernel_rfl) (by simp) ?_
            refine AllReadyH.cons rfl (fun K hK => ?_) AllReadyH.nil
            go_simp
            refine hK.out _ _ (by exact S4 _) (fun hHeld => ?_)
            clear hK K
            try simp only [Act.put, List.getElem_toArray, List.getElem_cons_zero, List.getElem_cons_succ, List.setIfInBounds_toArray, List.set_cons_zero, List.set_cons_succ]
            refine wpAnyH_done (by kernel_rfl) ?_ _
            clear S1 S2 S2a S3 S4 n0 n1 n2 n3 n4 n5 n6 n7 n8 n9 o0 o1 o2 o3 o4 o5 o6 o7 o8 o9
            go_wp2
            go_roundw
            case rel => exact ⟨j + 1, some ⟨g, 0, none⟩, cap', _, by omega, by first | (go_num; done) | exact congrArg (Value.int IntKind.i64) (by omega), ST.out _ _ ((But.refl (fun k => k = g3) w3).setCell (p := ⟨g3, 9, none⟩) (fun _ => rfl) _) (heap_setCell_same _ g3 9 _ _ _ M3.out)⟩
            case measure => first | exact meas_up _ _ _ hj1 hlt | exact meas_up _ _ _ rfl hlt | (simp [intOf]; omega)
          · go_simp
            refine hK.out _ _ (by exact S2a _) (fun hHeld => ?_)
            clear hK K
            try simp only [Act.put, List.getElem_toArray, List.getElem_cons_zero, List.getElem_cons_succ, List.setIfInBounds_toArray, List.set_cons_zero, List.set_cons_succ]
            refine wpAnyH_ready (rs := [1]) (by kernel_rfl) (by simp) ?_
            refine AllReadyH.cons rfl (fun K hK => ?_) AllReadyH.nil
            go_simp
            refine hK.out _ _ (by exact S2a _) (fun hHeld => ?_)
            clear hK K
            try simp only [Act.put, List.getElem_toArray, List.getElem_cons_zero, List.getElem_cons_succ, List.setIfInBounds_toArray, List.set_cons_zero, List.set_cons_succ]
            refine wpAnyH_ready (rs := [9]) (by kernel_rfl) (by simp) ?_
            refine AllReadyH.cons rfl (fun K hK => ?_) AllReadyH.nil
            refine step_apQ rfl _ _ rfl am j cm D (by simp [Act.eval]) HLJ.out.symm (HG.out.q.keep (bt (bt (drew1' wr) RQ.out.l.b) (al _ _))) ⟨w2.heap.size, 0, none⟩ 1 ⟨qa, qc, qal, qb, qd, qbl, qo⟩ (by simp [Act.eval]) (built_at ⟨qa, qc, qal, qb, qd, qbl, qo⟩ 26 rfl) HLD.out ?_
            intro g cap' w3 hR hN hg
            have ST := hide fun W4 c3' hb4 m4 => HG.out.step (W4 := W4) (c3' := c3') hlt (Ro.pre (drew1' wr) RQ.out) HQ'.out (al w2 (.cells #[.slice qa qal.length qc, .slice qb qbl.length qd, .bool qo] 26)) hR hN hg hb4 m4
            have P3 := hide (HG.out.mid2 (bt (bt (drew1' wr) RQ.out.l.b) (al _ _)) hg)
            have M3 := hide (HG.out.mid (bt (bt (drew1' wr) RQ.out.l.b) (al _ _)) hg)
            obtain ⟨o0, o1, o2, o3, o4, o5, o6, o7, o8, o9⟩ := ten10 M3.out
            have of := thaw M3.out 9
            have S3 := cp_S P3.out MO.out
            have S4 := fun v => cp_S (P3.out.but ((But.refl (fun k => k = g3) w3).setCell (p := ⟨g3, 9, none⟩) (fun _ => rfl) v) HG.out.c.n3) MO.out
            clear hR hN hg
            refine hK.out _ _ (by exact S3) (fun hHeld => ?_)
            clear hK K
            try simp only [Act.put, List.getElem_toArray, List.getElem_cons_zero, List.getElem_cons_succ, List.setIfInBounds_toArray, List.set_cons_zero, List.set_cons_succ]
            refine wpAnyH_take (i := 10) (v := ?v9) rfl (by kernel_rfl) (by kernel_rfl) (by kernel_rfl) (fun _ _ _ h => h) (Or.inl ⟨by rfl, ?hy9⟩) (by assumption) ?rest9
            case hy9 => (intro w hSw; (try dsimp only at hSw); go_simp <;> with_reducible rfl)
            try simp only [Act.put, List.getElem_toArray, List.getElem_cons_zero, List.getElem_cons_succ, List.setIfInBounds_toArray, List.set_cons_zero, List.set_cons_succ]
            refine wpAnyH_ready (rs := [11]) (by kernel_rfl) (by simp) ?_
            refine AllReadyH.cons rfl (fun K hK => ?_) AllReadyH.nil
            go_simp
            refine hK.out _ _ (by exact S4 _) (fun hHeld => ?_)
            clear hK K
            try simp only [Act.put, List.getElem_toArray, List.getElem_cons_zero, List.getElem_cons_succ, List.setIfInBounds_toArray, List.set_cons_zero, List.set_cons_succ]
            refine wpAnyH_done (by kernel_rfl) ?_ _
            clear S1 S2 S2a S3 S4 n0 n1 n2 n3 n4 n5 n6 n7 n8 n9 o0 o1 o2 o3 o4 o5 o6 o7 o8 o9
            go_wp2
            go_roundw
            case rel => exact ⟨j + 1, some ⟨g, 0, none⟩, cap', _, by omega, by first | (go_num; done) | exact congrArg (Value.int IntKind.i64) (by omega), ST.out _ _ ((But.refl (fun k => k = g3) w3).setCell (p := ⟨g3, 9, none⟩) (fun _ => rfl) _) (heap_setCell_same _ g3 9 _ _ _ M3.out)⟩
            case measure => first | exact meas_up _ _ _ hj1 hlt | exact meas_up _ _ _ rfl hlt | (simp [intOf]; omega)
      · obtain rfl : j = M.length := by omega
        have M1 := hide HG.out.c.p.m1
        go_wp2_with (refine wpList_store_row rfl 29 _ _ rfl (w.heap.size + 1) _ rfl rfl 29 _ M1.out sizeOp4 rfl (by simp [Value.oneCell']) ?_)
        refine bodyPost_ret (v := .agg _) (results_cell_row Try.results16 _ _ (w.heap.size + 1) 29 _ (0, 0) _ rfl (setRow_heap _ _ _ _ _ _ M1.out) Try.underlying29 rfl sizeOp4) rfl ?_
        exact ⟨⟨kd, a1, d1, A, a2, d2, B, q, s, am, cm, D⟩, by dsimp only [Ov.cs]; rw [HG.out.l], Wk.done (R := ⟨aL, cL, lo, aH, cH, hi, op⟩) (S := ⟨bL, dL, ko, bH, dH, ki, oq⟩) HG.out HT.out HQ.out HSS.out hMl _, below_setRow HG.out.c.p.b (by omega) _⟩
theorem gcopied_any (w : World) (o : Ov) (h : Oi w o) (hb0 : Ob o) : Calls Try.prog 16 #[.agg o.cs] w fun e w' => ∃ p : Ov, e = .returned (.agg p.cs) ∧ Cp w' o p ∧ Below w.heap.size w w' := by
  obtain ⟨kd, aA, cA, A, aB, cB, B, ⟨aL, cL, lo, aH, cH, hi, op⟩, ⟨bL, dL, ko, bH, dH, ki, oq⟩, aM, cM, M⟩ := o
  exact gcopied_lit w kd aA cA A aB cB B aL cL lo aH cH hi op bL dL ko bH dH ki oq aM cM M h hb0
end Go.Proofs.Ytbobnfjbbablkaa
