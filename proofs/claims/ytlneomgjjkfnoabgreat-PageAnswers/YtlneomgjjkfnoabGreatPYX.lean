import Derived.Test.YtlneomgjjkfnoabGreatPXY
import Derived.Test.YtlneomgjjkfnoabGreatPV
import Derived.Test.YtlneomgjjkfnoabGreatPIB
namespace Go.Proofs.YtlneomgjjkfnoabGreat
open Go.RowKit

theorem sizeAns : (Tryz.prog.info? 36).map (·.size) = some 9 := by kernel_rfl
theorem sizeOp : (Tryz.prog.info? 29).map (·.size) = some 9 := by kernel_rfl
/-- a call in memory -/
structure Ov where
  kd : Int
  no : Int
  gen : Int
  p : Pv
  aB : Option Addr
  cB : Nat
  B : List Nat
def Ov.cs (o : Ov) : Array Value := #[.int .i64 o.kd, .int .i64 o.no, .int .i64 o.gen, .int .i64 o.p.kind, .int .i64 o.p.level, .slice o.p.aI o.p.items.length o.p.cI, .slice o.p.aD o.p.data.length o.p.cD, .int .i64 o.p.next, .slice o.aB o.B.length o.cB]
structure Oi (w : World) (o : Ov) : Prop where
  p : Pi w o.p
  b : Bs w o.aB o.B
  cb : o.B.length ≤ o.cB
theorem Oi.keep {w w' : World} {o : Ov} (h : Oi w o) (hb : Below w.heap.size w w') : Oi w' o := ⟨h.p.keep hb, h.b.keep hb, h.cb⟩
/-- an answer in memory -/
structure Av where
  p : Pv
  n : Int
  aB : Option Addr
  cB : Nat
  b : List Nat
  aL : Option Addr
  cL : Nat
  l : List Int
  e : Int
def Av.cs (a : Av) : Array Value := #[.int .i64 a.p.kind, .int .i64 a.p.level, .slice a.p.aI a.p.items.length a.p.cI, .slice a.p.aD a.p.data.length a.p.cD, .int .i64 a.p.next, .int .i64 a.n, .slice a.aB a.b.length a.cB, .slice a.aL a.l.length a.cL, .int .i64 a.e]
def Av.zero : Av := ⟨Pv.zero, 0, none, 0, [], none, 0, [], 0⟩
/-- what an answer says -/
structure An where
  pg : Pg
  n : Int
  b : List Nat
  l : List Int
  e : Int
def Av.an (a : Av) : An := ⟨a.p.pg, a.n, a.b, a.l, a.e⟩
def ansOf (kd no gen : Int) (pg : Pg) (B : List Nat) : An :=
  if kd = 0 then ⟨Pg.zero, 0, [], [], (pg.check : Int)⟩
  else if kd = 1 then ⟨Pg.zero, 0, encB no gen pg, [], (encE no gen pg : Int)⟩
  else if kd = 2 then ⟨decP no B, (decG no B : Int), [], [], (decE no B : Int)⟩
  else ⟨Pg.zero, 0, [], pg.kids, 0⟩
def Ov.ans (o : Ov) : An := ansOf o.kd o.no o.gen o.p.pg o.B
/-- the lists of bytes of an answer -/
def rp (p : Pv) : List Br := ⟨p.aD, p.cD, p.data⟩ :: rowsOf p.items
def ra (a : Av) : List Br := rp a.p ++ [⟨a.aB, a.cB, a.b⟩]
/-- an answer of one's own -/
structure Ao (w W : World) (a : Av) : Prop where
  f : Fam w W (ra a)
  q : JOwn w W a.p.aI a.p.cI a.p.items
  s : a.p.items.length ≤ 255
  ns : ∀ r ∈ a.p.items, N64 r.child ∧ N64 r.size
  nk : N64 a.p.kind
  nl : N64 a.p.level
  nn : N64 a.p.next
  l : IOwn w W a.aL a.cL a.l
  ll : a.l.length ≤ 2199023255490
theorem Ao.b {w W : World} {a : Av} (h : Ao w W a) : Below w.heap.size w W := h.q.b
theorem Ao.keep {w W W' : World} {a : Av} (h : Ao w W a) (hb : Below W.heap.size W W') : Ao w W' a := ⟨h.f.keep hb, h.q.keep hb, h.s, h.ns, h.nk, h.nl, h.nn, h.l.keep hb, h.ll⟩
theorem Ao.pre {w w0 W : World} {a : Av} (hb : Below w.heap.size w w0) (h : Ao w0 W a) : Ao w W a := ⟨Fam.pre hb h.f, ⟨h.q.r, h.q.n.mono hb.size, bt hb h.q.b⟩, h.s, h.ns, h.nk, h.nl, h.nn, ⟨h.l.r, h.l.n.mono hb.size, bt hb h.l.b⟩, h.ll⟩
theorem new_at {w : World} {a : Option Addr} (h : New w none a) {x : Addr} (hx : a = some x) : w.heap.size ≤ x.block := by
  rcases h x hx with ⟨y, hy, _⟩ | h
  · cases hy
  · exact h
/-- carried over what changes older blocks -/
theorem Fam.but2 {S : Nat → Prop} {B0 w W W' : World} {T : List Br} (h : Fam B0 W T) (hp : Below w.heap.size w B0) (hb : But S W W') (hs : ∀ k, S k → k < B0.heap.size) (hw : Below w.heap.size w W') : Fam w W' T :=
  ⟨fun t ht => by
    obtain ⟨o1, o2⟩ := h.own t ht
    exact ⟨⟨o1.r.but hb fun x hx e => by have := o1.fresh hx; have := hs _ e; omega, o1.n.mono hp.size, hw⟩, o2⟩, h.dist⟩
theorem Ao.but2 {S : Nat → Prop} {B0 w W W' : World} {a : Av} (h : Ao B0 W a) (hp : Below w.heap.size w B0) (hb : But S W W') (hs : ∀ k, S k → k < B0.heap.size) (hw : Below w.heap.size w W') : Ao w W' a :=
  ⟨h.f.but2 hp hb hs hw, ⟨h.q.r.but hb fun x hx e => by have := new_at h.q.n hx; have := hs _ e; omega, h.q.n.mono hp.size, hw⟩, h.s, h.ns, h.nk, h.nl, h.nn,
   ⟨h.l.r.but hb fun x hx e => by have := new_at h.l.n hx; have := hs _ e; omega, h.l.n.mono hp.size, hw⟩, h.ll⟩
theorem Ao.fin {w W0 W : World} {a : Av} {g : Nat} (h : Ao W0 W a) (hb : Below w.heap.size w W0) (hg : w.heap.size ≤ g) (hg2 : g < W0.heap.size) (cs : Array Value) : Ao w (W.setRow g cs) a :=
  h.but2 hb (but_setRow W g cs) (fun k hk => by omega) (below_setRow (bt hb h.b) hg _)
theorem Pn.fam {w W : World} {P : Pv} (h : Pn w W P) (hb : Below w.heap.size w W) : Fam w W (rp P) :=
  ⟨fun t ht => by
    rcases List.mem_cons.1 ht with rfl | ht
    · exact ⟨⟨h.d, h.dn, hb⟩, h.d8⟩
    · obtain ⟨h1, h2, h3⟩ := h.fr t ht
      exact ⟨⟨h1, h2, hb⟩, h3⟩, h.dist⟩
theorem Fam.snoc0 {w W : World} {T : List Br} (h : Fam w W T) (hb : Below w.heap.size w W) : Fam w W (T ++ [⟨none, 0, []⟩]) :=
  ⟨fun t ht => by
    rcases List.mem_append.1 ht with ht | ht
    · exact h.own t ht
    · rw [List.mem_singleton.1 ht]; exact ⟨Own.nil w hb, B8.nil⟩, List.pairwise_append.2 ⟨h.dist, List.pairwise_singleton _ _, fun s _ t ht x y _ hy => by rw [List.mem_singleton.1 ht] at hy; cases hy⟩⟩
theorem Ao.page {w W : World} {P : Pv} (h : Pn w W P) (hb : Below w.heap.size w W) (hs : P.items.length ≤ 255) (n e : Int) : Ao w W ⟨P, n, none, 0, [], none, 0, [], e⟩ :=
  ⟨(h.fam hb).snoc0 hb, ⟨h.it, h.itn, hb⟩, hs, h.ns, h.nk, h.nl, h.nn, ⟨Ig.nil _, New.none _ _, hb⟩, by simp⟩
theorem Ao.bytes {w W : World} {a : Option Addr} {c : Nat} {l : List Nat} (o : Own w W a c l) (h8 : B8 l) (n e : Int) : Ao w W ⟨Pv.zero, n, a, c, l, none, 0, [], e⟩ :=
  ⟨⟨fun t ht => by
    have ht : t = ⟨none, 0, []⟩ ∨ t = ⟨a, c, l⟩ := by simpa [ra, rp, rowsOf, Pv.zero] using ht
    rcases ht with rfl | rfl
    · exact ⟨Own.nil w o.b, B8.nil⟩
    · exact ⟨o, h8⟩, (show List.Pairwise brApart [⟨none, 0, []⟩, ⟨a, c, l⟩] from List.pairwise_cons.2 ⟨fun _ _ _ _ hx _ => (by cases hx), List.pairwise_singleton _ _⟩)⟩, ⟨Jw.nil _, New.none _ _, o.b⟩, by simp [Pv.zero], (fun _ h => by cases h), by simp [N64, Pv.zero], by simp [N64, Pv.zero], by simp [N64, Pv.zero], ⟨Ig.nil _, New.none _ _, o.b⟩, by simp⟩
theorem Ao.ints {w W : World} {a : Option Addr} {c : Nat} {l : List Int} (o : IOwn w W a c l) (hl : l.length ≤ 2199023255490) (n e : Int) : Ao w W ⟨Pv.zero, n, none, 0, [], a, c, l, e⟩ :=
  have h := Ao.bytes (Own.nil w o.b) B8.nil n e
  ⟨h.f, h.q, h.s, h.ns, h.nk, h.nl, h.nn, o, hl⟩
theorem Ao.pi {w W : World} {a : Av} (h : Ao w W a) : Pi W a.p := by
  have hc : a.p.items.length ≤ a.p.cI := by
    rcases h.q.r.cases with ⟨_, h1, h2⟩ | ⟨g, cur, _, _, h1, _⟩
    · rw [h1, h2]; simp
    · exact h1
  have f1 : Fam w W (rp a.p) := h.f.sub (List.sublist_append_left _ _)
  have f2 : Fam w W (rowsOf a.p.items) := f1.sub (List.sublist_cons_self _ _)
  have d := f1.own ⟨a.p.aD, a.p.cD, a.p.data⟩ (by simp [rp])
  exact ⟨h.q.r.qs (f2.ii h.ns) (by have := h.s; omega), hc, d.1.bs d.2, d.1.r.cap, h.nk, h.nl, h.nn⟩
theorem Ao.bs {w W : World} {a : Av} (h : Ao w W a) : Bs W a.aB a.b := by
  have d := h.f.own ⟨a.aB, a.cB, a.b⟩ (by simp [ra])
  exact d.1.bs d.2
theorem Ao.ir {w W : World} {a : Av} (h : Ao w W a) : Ir W a.aL a.l := h.l.r.ir
theorem Bx.nine {w : World} {g : Nat} {o : Ov} (h : Bx w 29 g o.cs) : w.cell? ⟨g, 0, none⟩ = some (.int .i64 o.kd) ∧ w.cell? ⟨g, 1, none⟩ = some (.int .i64 o.no) ∧ w.cell? ⟨g, 2, none⟩ = some (.int .i64 o.gen) ∧ w.cell? ⟨g, 3, none⟩ = some (.int .i64 o.p.kind) ∧ w.cell? ⟨g, 4, none⟩ = some (.int .i64 o.p.level) ∧ w.cell? ⟨g, 5, none⟩ = some (.slice o.p.aI o.p.items.length o.p.cI) ∧ w.cell? ⟨g, 6, none⟩ = some (.slice o.p.aD o.p.data.length o.p.cD) ∧ w.cell? ⟨g, 7, none⟩ = some (.int .i64 o.p.next) ∧ w.cell? ⟨g, 8, none⟩ = some (.slice o.aB o.B.length o.cB) :=
  ⟨h.cell 0 rfl, h.cell 1 rfl, h.cell 2 rfl, h.cell 3 rfl, h.cell 4 rfl, h.cell 5 rfl, h.cell 6 rfl, h.cell 7 rfl, h.cell 8 rfl⟩
theorem Bx.ans {w : World} {g : Nat} {a : Av} (h : Bx w 36 g a.cs) : w.cell? ⟨g, 0, none⟩ = some (.int .i64 a.p.kind) ∧ w.cell? ⟨g, 1, none⟩ = some (.int .i64 a.p.level) ∧ w.cell? ⟨g, 2, none⟩ = some (.slice a.p.aI a.p.items.length a.p.cI) ∧ w.cell? ⟨g, 3, none⟩ = some (.slice a.p.aD a.p.data.length a.p.cD) ∧ w.cell? ⟨g, 4, none⟩ = some (.int .i64 a.p.next) ∧ w.cell? ⟨g, 5, none⟩ = some (.int .i64 a.n) ∧ w.cell? ⟨g, 6, none⟩ = some (.slice a.aB a.b.length a.cB) ∧ w.cell? ⟨g, 7, none⟩ = some (.slice a.aL a.l.length a.cL) ∧ w.cell? ⟨g, 8, none⟩ = some (.int .i64 a.e) :=
  ⟨h.cell 0 rfl, h.cell 1 rfl, h.cell 2 rfl, h.cell 3 rfl, h.cell 4 rfl, h.cell 5 rfl, h.cell 6 rfl, h.cell 7 rfl, h.cell 8 rfl⟩
theorem kids_le (p : Pg) : p.kids.length ≤ p.items.length + 1 := by
  unfold Pg.kids
  split
  · simp
  split
  · refine Nat.le_trans (List.length_filter_le _ _) ?_
    simp
  · split <;> simp
end Go.Proofs.YtlneomgjjkfnoabGreat

namespace Go.Proofs.YtlneomgjjkfnoabGreat
open Go.RowKit

set_option maxRecDepth 16000 in
set_option maxHeartbeats 6400000 in
theorem asked_any (w : World) (o : Ov) (hO : Oi w o) : Calls Tryz.prog 9 #[.agg o.cs] w fun e w' => ∃ a : Av, e = .returned (.agg a.cs) ∧ Ao w w' a ∧ a.an = o.ans := by
  have CK := hide fun (w1 : World) (hb : Below w.heap.size w w1) => Check_any w1 o.p (hO.p.keep hb)
  have EN := hide fun (w1 : World) (hb : Below w.heap.size w w1) => Encode_any w1 o.no o.gen o.p (hO.p.keep hb)
  have DE := hide fun (w1 : World) (hb : Below w.heap.size w w1) => Decode_any w1 o.no o.aB o.B.length o.cB o.B (hO.b.keep hb) rfl hO.cb
  have KI := hide fun (w1 : World) (hb : Below w.heap.size w w1) => Kids_any w1 o.p (hO.p.keep hb)
  have E8 := hide (encB_b8 (no := o.no) (gen := o.gen) hO.p.b8)
  have KL := hide (show o.p.pg.kids.length ≤ 2199023255490 from Nat.le_trans (kids_le _) (by have := hO.p.it.2.1; simp [Pv.pg]; omega))
  have HA := hide (show o.ans = ansOf o.kd o.no o.gen o.p.pg o.B from rfl)
  unfold ansOf at HA
  have W1 := hide (bt (al w (.cells o.cs 29)) (al _ (.cells Av.zero.cs 36)))
  have B1 := hide ((Bx.new w 29 o.cs).keep (al _ (.cells Av.zero.cs 36)))
  have M1 : Hid (Bx ((w.alloc (.cells o.cs 29)).alloc (.cells Av.zero.cs 36)) 36 (w.heap.size + 1) Av.zero.cs) := by
    have h := Bx.new (w.alloc (.cells o.cs 29)) 36 Av.zero.cs
    rw [size_alloc] at h
    exact h
  obtain ⟨c0, c1, c2, c3, c4, c5, c6, c7, c8⟩ := Bx.nine B1.out
  have hsz : Hid (((w.alloc (.cells o.cs 29)).alloc (.cells Av.zero.cs 36)).heap.size = w.heap.size + 2) := by show _ = _; rw [size_alloc, size_alloc]
  clear hO B1
  obtain ⟨kd, no, gen, ⟨kind, level, aI, cI, items, aD, cD, data, next⟩, aB, cB, B⟩ := o
  simp only [Ov.cs, Av.zero, Av.cs, Pv.zero, List.length_nil, Pv.vl, Pv.cs] at *
  generalize Ov.ans _ = AN at *
  generalize Pv.pg _ = pg at *
  by_cases h0 : kd = 0
  · rw [if_pos h0] at HA
    subst h0
    go_enter Tryz.func9, Tryz.ntmps9
    go_wp2_with fail
    generalize World.alloc (World.alloc _ _) _ = v at *
    refine (CK.out _ W1.out).mono ?_
    rintro e w2 ⟨rfl, hb2⟩
    have M2 := hide (M1.out.keep hb2)
    have A2 := hide (Ao.bytes (Own.nil v hb2) B8.nil 0 (pg.check : Int))
    have HS := hide hsz.out
    clear hb2
    go_wp2_with (refine wpList_store_row rfl 36 _ _ rfl (w.heap.size + 1) _ rfl rfl 36 _ M2.out sizeAns rfl (by simp [Value.oneCell']) ?_)
    refine bodyPost_ret (v := .agg _) (results_cell_row Tryz.results9 _ _ (w.heap.size + 1) 36 _ (0, 0) _ rfl (setRow_heap _ _ _ _ _ _ M2.out) Tryz.underlying36 rfl sizeAns) rfl ?_
    exact ⟨_, rfl, A2.out.fin W1.out (by omega) (by have := HS.out; omega) _, by rw [HA.out]; rfl⟩
  rw [if_neg h0] at HA
  have h0' : (kd == 0) = false := by simpa using h0
  by_cases h1 : kd = 1
  · rw [if_pos h1] at HA
    subst h1
    clear h0 h0'
    go_enter Tryz.func9, Tryz.ntmps9
    go_wp2_with fail
    generalize World.alloc (World.alloc _ _) _ = v at *
    refine (EN.out _ W1.out).mono ?_
    rintro e w2 ⟨a2, c2', rfl, o2⟩
    have M2 := hide (M1.out.keep o2.b)
    have A2 := hide (Ao.bytes o2 E8.out 0 (encE no gen pg : Int))
    have HS := hide hsz.out
    clear o2
    generalize encE no gen pg = ee at *
    generalize encB no gen pg = eb at *
    go_wp2_with (refine wpList_store_row rfl 36 _ _ rfl (w.heap.size + 1) _ rfl rfl 36 _ M2.out sizeAns rfl (by simp [Value.oneCell']) ?_)
    refine bodyPost_ret (v := .agg _) (results_cell_row Tryz.results9 _ _ (w.heap.size + 1) 36 _ (0, 0) _ rfl (setRow_heap _ _ _ _ _ _ M2.out) Tryz.underlying36 rfl sizeAns) rfl ?_
    exact ⟨_, rfl, A2.out.fin W1.out (by omega) (by have := HS.out; omega) _, by rw [HA.out]; rfl⟩
  rw [if_neg h1] at HA
  have h1' : (kd == 1) = false := by simpa using h1
  by_cases h2 : kd = 2
  · rw [if_pos h2] at HA
    subst h2
    clear h0 h0' h1 h1'
    go_enter Tryz.func9, Tryz.ntmps9
    go_wp2_with fail
    generalize World.alloc (World.alloc _ _) _ = v at *
    refine (DE.out _ W1.out).mono ?_
    rintro e w2 ⟨P, rfl, hpg, hpn, hpl, hb2⟩
    have M2 := hide (M1.out.keep (bt hb2 (al w2 (.cells P.cs 27))))
    have A2 := hide (((Ao.page hpn hb2 hpl (decG no B : Int) (decE no B : Int)).keep (al w2 (.cells P.cs 27))))
    have HS := hide hsz.out
    rw [← hpg] at HA
    clear hb2 hpg hpn hpl
    generalize decE no B = ee at *
    generalize decG no B = gg at *
    obtain ⟨kind2, level2, aI2, cI2, items2, aD2, cD2, data2, next2⟩ := P
    simp only [Pv.vl, Pv.cs] at M2 A2 ⊢
    go_wp2_with (refine wpList_store_row rfl 36 _ _ rfl (w.heap.size + 1) _ rfl rfl 36 _ M2.out sizeAns rfl (by simp [Value.oneCell']) ?_)
    refine bodyPost_ret (v := .agg _) (results_cell_row Tryz.results9 _ _ (w.heap.size + 1) 36 _ (0, 0) _ rfl (setRow_heap _ _ _ _ _ _ M2.out) Tryz.underlying36 rfl sizeAns) rfl ?_
    exact ⟨_, rfl, A2.out.fin W1.out (by omega) (by have := HS.out; omega) _, by rw [HA.out]; rfl⟩
  rw [if_neg h2] at HA
  have h2' : (kd == 2) = false := by simpa using h2
  clear h0 h1 h2
  go_enter Tryz.func9, Tryz.ntmps9
  go_wp2_with fail
  generalize World.alloc (World.alloc _ _) _ = v at *
  refine (KI.out _ W1.out).mono ?_
  rintro e w2 ⟨a2, c2', rfl, o2⟩
  have M2 := hide (M1.out.keep o2.b)
  have A2 := hide (Ao.ints o2 KL.out 0 0)
  have HS := hide hsz.out
  clear o2
  generalize pg.kids = kk at *
  go_wp2_with (refine wpList_store_row rfl 36 _ _ rfl (w.heap.size + 1) _ rfl rfl 36 _ M2.out sizeAns rfl (by simp [Value.oneCell']) ?_)
  refine bodyPost_ret (v := .agg _) (results_cell_row Tryz.results9 _ _ (w.heap.size + 1) 36 _ (0, 0) _ rfl (setRow_heap _ _ _ _ _ _ M2.out) Tryz.underlying36 rfl sizeAns) rfl ?_
  exact ⟨_, rfl, A2.out.fin W1.out (by omega) (by have := HS.out; omega) _, by rw [HA.out]; rfl⟩
end Go.Proofs.YtlneomgjjkfnoabGreat

namespace Go.Proofs.YtlneomgjjkfnoabGreat
open Go.RowKit

set_option maxRecDepth 16000 in
set_option maxHeartbeats 6400000 in
theorem told_any (w : World) (o : Ov) (hO : Oi w o) : Calls Tryz.prog 8 #[.agg o.cs] w fun e w' => ∃ a : Av, e = .returned (.agg a.cs) ∧ Ao w w' a ∧ a.an = o.ans := by
  have CK := hide fun (w1 : World) (hb : Below w.heap.size w w1) => iCheck_any w1 o.p (hO.p.keep hb)
  have EN := hide fun (w1 : World) (hb : Below w.heap.size w w1) => iEncode_any w1 o.no o.gen o.p (hO.p.keep hb)
  have DE := hide fun (w1 : World) (hb : Below w.heap.size w w1) => iDecode_any w1 o.no o.aB o.B.length o.cB o.B (hO.b.keep hb) rfl hO.cb
  have KI := hide fun (w1 : World) (hb : Below w.heap.size w w1) => iKids_any w1 o.p (hO.p.keep hb)
  have E8 := hide (encB_b8 (no := o.no) (gen := o.gen) hO.p.b8)
  have KL := hide (show o.p.pg.kids.length ≤ 2199023255490 from Nat.le_trans (kids_le _) (by have := hO.p.it.2.1; simp [Pv.pg]; omega))
  have HA := hide (show o.ans = ansOf o.kd o.no o.gen o.p.pg o.B from rfl)
  unfold ansOf at HA
  have W1 := hide (bt (al w (.cells o.cs 29)) (al _ (.cells Av.zero.cs 36)))
  have B1 := hide ((Bx.new w 29 o.cs).keep (al _ (.cells Av.zero.cs 36)))
  have M1 : Hid (Bx ((w.alloc (.cells o.cs 29)).alloc (.cells Av.zero.cs 36)) 36 (w.heap.size + 1) Av.zero.cs) := by
    have h := Bx.new (w.alloc (.cells o.cs 29)) 36 Av.zero.cs
    rw [size_alloc] at h
    exact h
  obtain ⟨c0, c1, c2, c3, c4, c5, c6, c7, c8⟩ := Bx.nine B1.out
  have hsz : Hid (((w.alloc (.cells o.cs 29)).alloc (.cells Av.zero.cs 36)).heap.size = w.heap.size + 2) := by show _ = _; rw [size_alloc, size_alloc]
  clear hO B1
  obtain ⟨kd, no, gen, ⟨kind, level, aI, cI, items, aD, cD, data, next⟩, aB, cB, B⟩ := o
  simp only [Ov.cs, Av.zero, Av.cs, Pv.zero, List.length_nil, Pv.vl, Pv.cs] at *
  generalize Ov.ans _ = AN at *
  generalize Pv.pg _ = pg at *
  by_cases h0 : kd = 0
  · rw [if_pos h0] at HA
    subst h0
    go_enter Tryz.func8, Tryz.ntmps8
    go_wp2_with fail
    generalize World.alloc (World.alloc _ _) _ = v at *
    refine (CK.out _ W1.out).mono ?_
    rintro e w2 ⟨rfl, hb2⟩
    have M2 := hide (M1.out.keep hb2)
    have A2 := hide (Ao.bytes (Own.nil v hb2) B8.nil 0 (pg.check : Int))
    have HS := hide hsz.out
    clear hb2
    go_wp2_with (refine wpList_store_row rfl 36 _ _ rfl (w.heap.size + 1) _ rfl rfl 36 _ M2.out sizeAns rfl (by simp [Value.oneCell']) ?_)
    refine bodyPost_ret (v := .agg _) (results_cell_row Tryz.results8 _ _ (w.heap.size + 1) 36 _ (0, 0) _ rfl (setRow_heap _ _ _ _ _ _ M2.out) Tryz.underlying36 rfl sizeAns) rfl ?_
    exact ⟨_, rfl, A2.out.fin W1.out (by omega) (by have := HS.out; omega) _, by rw [HA.out]; rfl⟩
  rw [if_neg h0] at HA
  have h0' : (kd == 0) = false := by simpa using h0
  by_cases h1 : kd = 1
  · rw [if_pos h1] at HA
    subst h1
    clear h0 h0'
    go_enter Tryz.func8, Tryz.ntmps8
    go_wp2_with fail
    generalize World.alloc (World.alloc _ _) _ = v at *
    refine (EN.out _ W1.out).mono ?_
    rintro e w2 ⟨a2, c2', rfl, o2⟩
    have M2 := hide (M1.out.keep o2.b)
    have A2 := hide (Ao.bytes o2 E8.out 0 (encE no gen pg : Int))
    have HS := hide hsz.out
    clear o2
    generalize encE no gen pg = ee at *
    generalize encB no gen pg = eb at *
    go_wp2_with (refine wpList_store_row rfl 36 _ _ rfl (w.heap.size + 1) _ rfl rfl 36 _ M2.out sizeAns rfl (by simp [Value.oneCell']) ?_)
    refine bodyPost_ret (v := .agg _) (results_cell_row Tryz.results8 _ _ (w.heap.size + 1) 36 _ (0, 0) _ rfl (setRow_heap _ _ _ _ _ _ M2.out) Tryz.underlying36 rfl sizeAns) rfl ?_
    exact ⟨_, rfl, A2.out.fin W1.out (by omega) (by have := HS.out; omega) _, by rw [HA.out]; rfl⟩
  rw [if_neg h1] at HA
  have h1' : (kd == 1) = false := by simpa using h1
  by_cases h2 : kd = 2
  · rw [if_pos h2] at HA
    subst h2
    clear h0 h0' h1 h1'
    go_enter Tryz.func8, Tryz.ntmps8
    go_wp2_with fail
    generalize World.alloc (World.alloc _ _) _ = v at *
    refine (DE.out _ W1.out).mono ?_
    rintro e w2 ⟨P, rfl, hpg, hpn, hpl, hb2⟩
    have M2 := hide (M1.out.keep (bt hb2 (al w2 (.cells P.cs 27))))
    have A2 := hide (((Ao.page hpn hb2 hpl (decG no B : Int) (decE no B : Int)).keep (al w2 (.cells P.cs 27))))
    have HS := hide hsz.out
    rw [← hpg] at HA
    clear hb2 hpg hpn hpl
    generalize decE no B = ee at *
    generalize decG no B = gg at *
    obtain ⟨kind2, level2, aI2, cI2, items2, aD2, cD2, data2, next2⟩ := P
    simp only [Pv.vl, Pv.cs] at M2 A2 ⊢
    go_wp2_with (refine wpList_store_row rfl 36 _ _ rfl (w.heap.size + 1) _ rfl rfl 36 _ M2.out sizeAns rfl (by simp [Value.oneCell']) ?_)
    refine bodyPost_ret (v := .agg _) (results_cell_row Tryz.results8 _ _ (w.heap.size + 1) 36 _ (0, 0) _ rfl (setRow_heap _ _ _ _ _ _ M2.out) Tryz.underlying36 rfl sizeAns) rfl ?_
    exact ⟨_, rfl, A2.out.fin W1.out (by omega) (by have := HS.out; omega) _, by rw [HA.out]; rfl⟩
  rw [if_neg h2] at HA
  have h2' : (kd == 2) = false := by simpa using h2
  clear h0 h1 h2
  go_enter Tryz.func8, Tryz.ntmps8
  go_wp2_with fail
  generalize World.alloc (World.alloc _ _) _ = v at *
  refine (KI.out _ W1.out).mono ?_
  rintro e w2 ⟨a2, c2', rfl, o2⟩
  have M2 := hide (M1.out.keep o2.b)
  have A2 := hide (Ao.ints o2 KL.out 0 0)
  have HS := hide hsz.out
  clear o2
  generalize pg.kids = kk at *
  go_wp2_with (refine wpList_store_row rfl 36 _ _ rfl (w.heap.size + 1) _ rfl rfl 36 _ M2.out sizeAns rfl (by simp [Value.oneCell']) ?_)
  refine bodyPost_ret (v := .agg _) (results_cell_row Tryz.results8 _ _ (w.heap.size + 1) 36 _ (0, 0) _ rfl (setRow_heap _ _ _ _ _ _ M2.out) Tryz.underlying36 rfl sizeAns) rfl ?_
  exact ⟨_, rfl, A2.out.fin W1.out (by omega) (by have := HS.out; omega) _, by rw [HA.out]; rfl⟩
end Go.Proofs.YtlneomgjjkfnoabGreat

namespace Go.Proofs.YtlneomgjjkfnoabGreat
open Go.RowKit

set_option maxRecDepth 16000 in
set_option maxHeartbeats 6400000 in
theorem same_any (w : World) (a b : Av) (hap : Pi w a.p) (hab : Bs w a.aB a.b) (hal : Ir w a.aL a.l) (hbp : Pi w b.p) (hbb : Bs w b.aB b.b) (hbl : Ir w b.aL b.l) (hl : a.l.length ≤ 17592186044415) (he : a.an = b.an) :
    Calls Tryz.prog 10 #[.agg a.cs, .agg b.cs] w fun e w' => e = .returned (.bool true) ∧ Below w.heap.size w w' := by
  have e1 : a.p.pg = b.p.pg := congrArg An.pg he
  have e2 : a.n = b.n := congrArg An.n he
  have e3 : a.b = b.b := congrArg An.b he
  have e4 : a.l = b.l := congrArg An.l he
  have e5 : a.e = b.e := congrArg An.e he
  rw [← e4] at hbl
  rw [← e3] at hbb
  have QP := hide fun (w1 : World) (hb : Below w.heap.size w w1) => EqPage_same w1 a.p b.p (hap.keep hb) (hbp.keep hb) e1
  have QB := hide fun (w1 : World) (hb : Below w.heap.size w w1) => EqBytes_same w1 a.aB b.aB a.b.length a.b.length a.cB b.cB a.b (hab.keep hb) (hbb.keep hb) rfl rfl
  have QI := hide fun (w1 : World) (hb : Below w.heap.size w w1) => EqInts_same w1 a.aL b.aL a.l.length a.l.length a.cL b.cL a.l (hal.keep hb) (hbl.keep hb) rfl rfl hl
  have W1 := hide (bt (al w (.cells a.cs 36)) (al _ (.cells b.cs 36)))
  have B1 := hide ((Bx.new w 36 a.cs).keep (al _ (.cells b.cs 36)))
  have B2 : Hid (Bx ((w.alloc (.cells a.cs 36)).alloc (.cells b.cs 36)) 36 (w.heap.size + 1) b.cs) := by
    have h := Bx.new (w.alloc (.cells a.cs 36)) 36 b.cs
    rw [size_alloc] at h
    exact h
  obtain ⟨c0, c1, c2, c3, c4, c5, c6, c7, c8⟩ := Bx.ans B1.out
  obtain ⟨d0, d1, d2, d3, d4, d5, d6, d7, d8⟩ := Bx.ans B2.out
  have KA := hide fun (w1 w2 : World) (hb : Below w1.heap.size w1 w2) (h : Bx w1 36 w.heap.size a.cs) => Bx.ans (h.keep hb)
  have KB := hide fun (w1 w2 : World) (hb : Below w1.heap.size w1 w2) (h : Bx w1 36 (w.heap.size + 1) b.cs) => Bx.ans (h.keep hb)
  clear hap hab hal hbp hbb hbl he e1
  obtain ⟨⟨kind, level, aI, cI, items, aD, cD, data, next⟩, n, aB, cB, b1, aL, cL, l1, e⟩ := a
  obtain ⟨⟨kind2, level2, aI2, cI2, items2, aD2, cD2, data2, next2⟩, n2, aB2, cB2, b2, aL2, cL2, l2, e'⟩ := b
  dsimp only at e2 e3 e4 e5
  subst e2 e3 e4 e5
  simp only [Av.cs, Pv.vl, Pv.cs] at *
  go_enter Tryz.func10, Tryz.ntmps10
  go_wp2_with fail
  generalize World.alloc (World.alloc _ _) _ = v at *
  refine (QP.out _ W1.out).mono ?_
  rintro y w2 ⟨rfl, hb2⟩
  have W2 := hide (bt W1.out hb2)
  have B3 := hide (B1.out.keep hb2)
  have B4 := hide (B2.out.keep hb2)
  clear c0 c1 c2 c3 c4 c5 c6 c7 c8 d0 d1 d2 d3 d4 d5 d6 d7 d8
  obtain ⟨c0, c1, c2, c3, c4, c5, c6, c7, c8⟩ := KA.out _ _ hb2 B1.out
  obtain ⟨d0, d1, d2, d3, d4, d5, d6, d7, d8⟩ := KB.out _ _ hb2 B2.out
  clear hb2 B1 B2 W1 QP
  go_wp2_with fail
  refine (QB.out _ W2.out).mono ?_
  rintro y w3 ⟨rfl, hb3⟩
  have W3 := hide (bt W2.out hb3)
  clear c0 c1 c2 c3 c4 c5 c6 c7 c8 d0 d1 d2 d3 d4 d5 d6 d7 d8
  obtain ⟨c0, c1, c2, c3, c4, c5, c6, c7, c8⟩ := KA.out _ _ hb3 B3.out
  obtain ⟨d0, d1, d2, d3, d4, d5, d6, d7, d8⟩ := KB.out _ _ hb3 B4.out
  clear hb3 B3 B4 W2 QB
  go_wp2_with fail
  refine (QI.out _ W3.out).mono ?_
  rintro y w4 ⟨rfl, hb4⟩
  have W4 := hide (bt W3.out hb4)
  clear hb4
  go_wp2
  go_ret
  exact ⟨rfl, W4.out⟩
theorem same_ao {w w' W : World} {a b : Av} (ha : Ao w W a) (hb : Ao w' W b) (he : a.an = b.an) :
    Calls Tryz.prog 10 #[.agg a.cs, .agg b.cs] W fun e w' => e = .returned (.bool true) ∧ Below W.heap.size W w' :=
  same_any W a b ha.pi ha.bs ha.ir hb.pi hb.bs hb.ir (by have := ha.ll; omega) he
end Go.Proofs.YtlneomgjjkfnoabGreat
