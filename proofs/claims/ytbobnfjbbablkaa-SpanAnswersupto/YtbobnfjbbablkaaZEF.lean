import Derived.Test.YtbobnfjbbablkaaZFA
import Derived.Test.YtbobnfjbbablkaaZDC
import Derived.Test.YtbobnfjbbablkaaZY
namespace Go.Proofs.Ytbobnfjbbablkaa
open Go.RowKit

theorem sizeAns : (Try.prog.info? 32).map (·.size) = some 4 := by kernel_rfl
theorem sizeOp4 : (Try.prog.info? 29).map (·.size) = some 10 := by kernel_rfl
/-- a call in memory -/
structure Ov where
  kd : Int
  aA : Option Addr
  cA : Nat
  A : List Nat
  aB : Option Addr
  cB : Nat
  B : List Nat
  R : Rv
  S : Rv
  aM : Option Addr
  cM : Nat
  M : List Rv
def Ov.cs (o : Ov) : Array Value := #[.int .i64 o.kd, .slice o.aA o.A.length o.cA, .slice o.aB o.B.length o.cB, .slice o.R.aL o.R.lo.length o.R.cL, .slice o.R.aH o.R.hi.length o.R.cH, .bool o.R.op, .slice o.S.aL o.S.lo.length o.S.cL, .slice o.S.aH o.S.hi.length o.S.cH, .bool o.S.op, .slice o.aM o.M.length o.cM]
/-- a call that one may read -/
structure Oi (w : World) (o : Ov) : Prop where
  a : Bs w o.aA o.A
  ca : o.A.length ≤ o.cA
  b : Bs w o.aB o.B
  cb : o.B.length ≤ o.cB
  r : Ri w o.R
  s : Ri w o.S
  m : Qs w o.aM o.M
  cm : o.M.length ≤ o.cM
/-- no list is long -/
structure Ob (o : Ov) : Prop where
  a : o.A.length ≤ 1048576
  b : o.B.length ≤ 1048576
  rl : o.R.lo.length ≤ 1048576
  rh : o.R.hi.length ≤ 1048576
  sl : o.S.lo.length ≤ 1048576
  sh : o.S.hi.length ≤ 1048576
  m : o.M.length ≤ 1048576
  ml : ∀ r ∈ o.M, r.lo.length ≤ 1048576 ∧ r.hi.length ≤ 1048576
theorem Oi.keep {w w' : World} {o : Ov} (h : Oi w o) (hb : Below w.heap.size w w') : Oi w' o := ⟨h.a.keep hb, h.ca, h.b.keep hb, h.cb, h.r.keep hb, h.s.keep hb, h.m.keep hb, h.cm⟩
theorem Ob.r {o : Ov} (h : Ob o) : Rb o.R := ⟨by have := h.rl; omega, by have := h.rh; omega⟩
theorem Ob.s {o : Ov} (h : Ob o) : Rb o.S := ⟨by have := h.sl; omega, by have := h.sh; omega⟩
/-- an answer in memory -/
structure Av where
  n : Int
  is : Bool
  aK : Option Addr
  cK : Nat
  k : List Nat
  aM : Option Addr
  cM : Nat
  M : List Rv
def Av.cs (a : Av) : Array Value := #[.int .i64 a.n, .bool a.is, .slice a.aK a.k.length a.cK, .slice a.aM a.M.length a.cM]
/-- what an answer says -/
structure An where
  n : Int
  is : Bool
  k : List Nat
  l : List (Bool × List Nat × List Nat)
def Av.an (a : Av) : An := ⟨a.n, a.is, a.k, a.M.map Rv.tp⟩
def tpr (g : Rg) : Bool × List Nat × List Nat := (g.op, g.lo, g.hi)
theorem tp_tpr (r : Rv) : r.tp = tpr r.rg := rfl
def ansOf (kd : Int) (A B : List Nat) (R S : Rg) (L : List Rg) : An :=
  if kd = 0 then ⟨cmpB A B, false, [], []⟩ else if kd = 1 then ⟨0, false, next A, []⟩ else if kd = 2 then ⟨(common A B : Nat), false, [], []⟩ else if kd = 3 then ⟨0, (between A B).2, (between A B).1, []⟩ else
  if kd = 4 then ⟨0, has R A, [], []⟩ else if kd = 5 then ⟨0, !has R (least R.lo), [], []⟩ else if kd = 6 then ⟨0, decide (form R = form S), [], []⟩ else if kd = 7 then ⟨0, false, [], [tpr (meet R S)]⟩ else
  if kd = 8 then ⟨0, false, [], [tpr (above A)]⟩ else if kd = 9 then ⟨0, false, [], [tpr (splitL R A), tpr (splitH R A)]⟩ else ⟨0, false, [], (cover L).map fun f => tpr (rgOf f)⟩
def Ov.ans (o : Ov) : An := ansOf o.kd o.A o.B o.R.rg o.S.rg (o.M.map Rv.rg)
theorem cover_tp {C : List Rv} {L : List Rg} (hm : Fmd C) (hC : C.map Rv.fm = cover L) : C.map Rv.tp = (cover L).map fun f => tpr (rgOf f) := by
  have h1 : C.map Rv.tp = (C.map Rv.rg).map tpr := by rw [List.map_map]; rfl
  rw [h1, map_rg_fm hm, hC, List.map_map]
  rfl
/-- an answer of the call's own -/
structure Ao (w W : World) (a : Av) : Prop where
  f : Fam w W (⟨a.aK, a.cK, a.k⟩ :: rowsOf a.M)
  q : QOwn w W a.aM a.cM a.M
  s : a.M.length ≤ 1048576
/-- an answer that one may read, in new memory -/
structure Aw (w W : World) (a : Av) : Prop where
  k : Bs W a.aK a.k
  m : Qs W a.aM a.M
  nk : New w none a.aK
  nm : New w none a.aM
  nr : ∀ r ∈ a.M, New w none r.aL ∧ New w none r.aH
  b : Below w.heap.size w W
  s : a.M.length ≤ 1048576
theorem Ao.key {w W : World} {a : Option Addr} {c : Nat} {l : List Nat} (o : Own w W a c l) (h8 : B8 l) (n : Int) (is : Bool) : Ao w W ⟨n, is, a, c, l, none, 0, []⟩ :=
  ⟨⟨fun t ht => by rw [show t = ⟨a, c, l⟩ from by simpa [rowsOf] using ht]; exact ⟨o, h8⟩, by simp [rowsOf]⟩, QOwn.nil w o.b, by simp⟩
theorem Ao.plain {w W : World} (hb : Below w.heap.size w W) (n : Int) (is : Bool) : Ao w W ⟨n, is, none, 0, [], none, 0, []⟩ := Ao.key (Own.nil w hb) B8.nil n is
theorem Ao.list {w W : World} {a : Option Addr} {c : Nat} {M : List Rv} (f : Fam w W (rowsOf M)) (q : QOwn w W a c M) (hl : M.length ≤ 1048576) (n : Int) (is : Bool) : Ao w W ⟨n, is, none, 0, [], a, c, M⟩ :=
  ⟨⟨fun t ht => by
    rcases List.mem_cons.1 ht with rfl | ht
    · exact ⟨Own.nil w q.b, B8.nil⟩
    · exact f.own t ht, List.pairwise_cons.2 ⟨(fun t _ x y hx => by cases hx), f.dist⟩⟩, q, hl⟩
theorem Ao.ri {w W : World} {a : Av} (h : Ao w W a) : ∀ r ∈ a.M, Ri W r := Fam.ri (h.f.sub (List.sublist_cons_self _ _))
theorem Ao.aw {w W : World} {a : Av} (h : Ao w W a) : Aw w W a := by
  have h0 := h.f.own ⟨a.aK, a.cK, a.k⟩ (List.mem_cons_self ..)
  refine ⟨h0.1.bs h0.2, h.q.r.qs h.ri (by have := h.s; omega), h0.1.n, h.q.n, fun r hr => ?_, h.q.b, h.s⟩
  have hs := rows_sub hr
  exact ⟨(h.f.own ⟨r.aL, r.cL, r.lo⟩ (List.mem_cons_of_mem _ (hs.subset (by simp [Rv.rows])))).1.n, (h.f.own ⟨r.aH, r.cH, r.hi⟩ (List.mem_cons_of_mem _ (hs.subset (by simp [Rv.rows])))).1.n⟩
theorem Ao.keep {w W W' : World} {a : Av} (h : Ao w W a) (hb : Below W.heap.size W W') : Ao w W' a := ⟨h.f.keep hb, h.q.keep hb, h.s⟩
theorem Ao.pre {w w0 W : World} {a : Av} (hb : Below w.heap.size w w0) (h : Ao w0 W a) : Ao w W a := ⟨Fam.pre hb h.f, ⟨h.q.r, h.q.n.mono hb.size, bt hb h.q.b⟩, h.s⟩
theorem Ao.but {S : Nat → Prop} {w W W' : World} {a : Av} (h : Ao w W a) (hb : But S W W') (hs : ∀ k, S k → k < w.heap.size) (hw : Below w.heap.size w W') : Ao w W' a :=
  ⟨h.f.but hb hw fun t ht x hx e => by have := (h.f.own t ht).1.fresh hx; have := hs _ e; omega,
   ⟨h.q.r.but hb fun x hx e => by have := h.q.n.at hx; have := hs _ e; omega, h.q.n, hw⟩, h.s⟩
theorem Aw.keep {w W W' : World} {a : Av} (h : Aw w W a) (hb : Below W.heap.size W W') : Aw w W' a := ⟨h.k.keep hb, h.m.keep hb, h.nk, h.nm, h.nr, bt h.b hb, h.s⟩
theorem Aw.pre {w w0 W : World} {a : Av} (hb : Below w.heap.size w w0) (h : Aw w0 W a) : Aw w W a := ⟨h.k, h.m, h.nk.mono hb.size, h.nm.mono hb.size, fun r hr => ⟨(h.nr r hr).1.mono hb.size, (h.nr r hr).2.mono hb.size⟩, bt hb h.b, h.s⟩
theorem Ri.but {S : Nat → Prop} {W W' : World} {r : Rv} (h : Ri W r) (hb : But S W W') (h1 : ∀ x, r.aL = some x → ¬ S x.block) (h2 : ∀ x, r.aH = some x → ¬ S x.block) : Ri W' r :=
  ⟨h.bl.but hb fun x hx _ => h1 x hx, h.cl, h.bh.but hb fun x hx _ => h2 x hx, h.ch⟩
theorem Qs.but {S : Nat → Prop} {W W' : World} {a : Option Addr} {L : List Rv} (h : Qs W a L) (hb : But S W W') (h0 : ∀ x, a = some x → ¬ S x.block) (h1 : ∀ r ∈ L, (∀ x, r.aL = some x → ¬ S x.block) ∧ (∀ x, r.aH = some x → ¬ S x.block)) : Qs W' a L := by
  refine ⟨fun r hr => (h.1 r hr).but hb (h1 r hr).1 (h1 r hr).2, h.2.1, h.2.2.imp id ?_⟩
  rintro ⟨b, off, rfl, hr⟩
  refine ⟨b, off, rfl, fun r hl j u hu => ?_⟩
  have hc := hr r hl j u hu
  exact (hb.cell (block_lt_of_cell hc) (h0 ⟨b, off, none⟩ rfl)).trans hc
theorem Aw.but {S : Nat → Prop} {w W W' : World} {a : Av} (h : Aw w W a) (hb : But S W W') (hs : ∀ k, S k → k < w.heap.size) (hw : Below w.heap.size w W') : Aw w W' a :=
  ⟨h.k.but hb fun x hx _ e => by have := h.nk.at hx; have := hs _ e; omega,
   h.m.but hb (fun x hx e => by have := h.nm.at hx; have := hs _ e; omega) fun r hr => ⟨fun x hx e => by have := (h.nr r hr).1.at hx; have := hs _ e; omega, fun x hx e => by have := (h.nr r hr).2.at hx; have := hs _ e; omega⟩,
   h.nk, h.nm, h.nr, hw, h.s⟩
/-- the answer is stored into the result's variable -/
theorem Ao.fin {w W0 W : World} {a : Av} {g : Nat} (h : Ao W0 W a) (hb : Below w.heap.size w W0) (hg : w.heap.size ≤ g) (hg2 : g < W0.heap.size) (cs : Array Value) : Ao w (W.setRow g cs) a := by
  have h1 : Ao w W a := Ao.pre hb h
  have hw : Below w.heap.size w (W.setRow g cs) := below_setRow h1.q.b hg cs
  exact ⟨(Fam.pre hb h.f).but (but_setRow W g cs) hw fun t ht x hx e => by have := (h.f.own t ht).1.fresh hx; omega,
    ⟨h.q.r.but (but_setRow W g cs) fun x hx e => by have := h.q.n.at hx; omega, h1.q.n, hw⟩, h.s⟩
theorem Aw.fin {w W0 W : World} {a : Av} {g : Nat} (h : Aw W0 W a) (hb : Below w.heap.size w W0) (hg : w.heap.size ≤ g) (hg2 : g < W0.heap.size) (cs : Array Value) : Aw w (W.setRow g cs) a := by
  have h1 : Aw w W a := Aw.pre hb h
  exact ⟨h.k.but (but_setRow W g cs) fun x hx _ e => by have := h.nk.at hx; omega,
    h.m.but (but_setRow W g cs) (fun x hx e => by have := h.nm.at hx; omega) fun r hr => ⟨fun x hx e => by have := (h.nr r hr).1.at hx; omega, fun x hx e => by have := (h.nr r hr).2.at hx; omega⟩,
    h1.nk, h1.nm, h1.nr, below_setRow h1.b hg cs, h.s⟩
/-- a list of one range, of two -/
theorem qown1 {w W : World} (hb : Below w.heap.size w W) (q : Rv) : QOwn w (W.alloc (.cells q.cs 26)) (some ⟨W.heap.size, 0, none⟩) 1 [q] :=
  ⟨Qw.mk (heap_alloc_new _ _) (Nat.le_refl _) (by unfold maxLen; omega) rfl (by simp [Qc, Rv.cs]), newHere w _ hb.size, bt hb (al _ _)⟩
theorem qown2 {w W : World} (hb : Below w.heap.size w W) {g : Nat} (hg : W.heap.size = g) (q s : Rv) : QOwn w (W.alloc (.cells #[.slice q.aL q.lo.length q.cL, .slice q.aH q.hi.length q.cH, .bool q.op, .slice s.aL s.lo.length s.cL, .slice s.aH s.hi.length s.cH, .bool s.op] 26)) (some ⟨g, 0, none⟩) 2 [q, s] := by
  subst hg
  exact ⟨Qw.mk (heap_alloc_new _ _) (Nat.le_refl _) (by unfold maxLen; omega) rfl (by simp [Qc, Rv.cs]), newHere w _ hb.size, bt hb (al _ _)⟩
theorem Aw.list {w W : World} {a : Option Addr} {c : Nat} {M : List Rv} (q : QOwn w W a c M) (hr : ∀ r ∈ M, Rn w W r) (hl : M.length ≤ 1048576) (n : Int) (is : Bool) : Aw w W ⟨n, is, none, 0, [], a, c, M⟩ :=
  ⟨Bs.nil _, q.r.qs (fun r hm => (hr r hm).ri) (by omega), New.none _ _, q.n, fun r hm => ⟨(hr r hm).nl, (hr r hm).nh⟩, q.b, hl⟩
theorem Aw.key {w W : World} {a : Option Addr} {c : Nat} {l : List Nat} (k : Bs W a l) (hn : New w none a) (hb : Below w.heap.size w W) (n : Int) (is : Bool) : Aw w W ⟨n, is, a, c, l, none, 0, []⟩ :=
  ⟨k, ⟨by simp, by simp, .inl rfl⟩, hn, New.none _ _, fun _ hr => (List.not_mem_nil hr).elim, hb, by simp⟩
end Go.Proofs.Ytbobnfjbbablkaa
