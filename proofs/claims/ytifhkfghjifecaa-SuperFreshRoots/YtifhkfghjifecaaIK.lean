import Derived.Test.YtifhkfghjifecaaIJ
namespace Go.Proofs.Ytifhkfghjifecaa
open Go.RowKit

/-! ### what the block of a superblock says -/
def Pt.with (p : Pt) (R : List Pr) : Pt := ⟨p.mq, p.gn, p.bl, p.cl, p.rf, p.nx, p.mn, R⟩
def prOf (t : Ro) : Pr := ⟨t.id.toNat, t.r.toNat, t.h.toNat, t.n.toNat⟩
def ptOf (s : Su) : Pt := ⟨827346755, s.gen.toNat, s.bl.toNat, s.cl.toNat, s.rf.toNat, s.nx.toNat, s.rs.length, s.rs.map prOf⟩
theorem Bx.row {w : World} {t : TypeId} {g : Nat} {p : Pt} {R : List Pr} {j : Nat} (h : Bx w t g (pc (p.with R))) (hj : R.length = j) (h16 : j < 16) (r : Pr) : Bx (w.setCells g (7 + j * 4) r.c) t g (pc (p.with (R ++ [r]))) := by
  have k := (((h.setc (7 + j * 4) (.int .u32 (r.id : Int))).setc (7 + j * 4 + 1) (.int .u32 (r.r : Int))).setc (7 + j * 4 + 2) (.int .u8 (r.h : Int))).setc (7 + j * 4 + 3) (.int .u32 (r.n : Int))
  have e := pc_set (p := p.with R) hj h16 r
  rw [e] at k
  exact k
theorem butC (g : Nat) : ∀ (vs : List Value) (w : World) (o : Nat), But (fun k => k = g) w (w.setCells g o vs) := but_setCells g
theorem nest4 (W : World) (g o : Nat) (v0 v1 v2 v3 : Value) : W.setCells g o [v0, v1, v2, v3] = (((W.setCell ⟨g, o, none⟩ v0).setCell ⟨g, o + 1, none⟩ v1).setCell ⟨g, o + 2, none⟩ v2).setCell ⟨g, o + 3, none⟩ v3 := rfl
def prT (l : List Ro) (k : Nat) : List Pr := (l.take k).map prOf
theorem prT_succ (l : List Ro) {k : Nat} (h : k < l.length) : prT l (k + 1) = prT l k ++ [prOf (l.getD k ro0)] := by
  unfold prT
  rw [List.take_succ_eq_append_getElem h, List.map_append]; simp [h]
theorem prT_zero (l : List Ro) : prT l 0 = [] := rfl
theorem prT_all (l : List Ro) : prT l l.length = l.map prOf := by unfold prT; rw [List.take_length]
theorem prT_length (l : List Ro) {k : Nat} (h : k ≤ l.length) : (prT l k).length = k := by unfold prT; rw [List.length_map, List.length_take]; omega
/-- the boxes of partsOf -/
structure H3 (w : World) (S : Array Value) (p : Pt) (W : World) (R : List Pr) : Prop where
  s : Bx W 28 w.heap.size S
  o : Bx W 48 (w.heap.size + 1) (pc pt0)
  i : Bx W 48 (w.heap.size + 1 + 1) (pc (p.with R))
  b : Below w.heap.size w W
theorem H3.keep {w : World} {S : Array Value} {p : Pt} {W W' : World} {R : List Pr} (h : H3 w S p W R) (hb : Below W.heap.size W W') : H3 w S p W' R := ⟨h.s.keep hb, h.o.keep hb, h.i.keep hb, bt h.b hb⟩
theorem H3.row {w : World} {S : Array Value} {p : Pt} {W : World} {R : List Pr} {j : Nat} (h : H3 w S p W R) (hj : R.length = j) (h16 : j < 16) (r : Pr) : H3 w S p (W.setCells (w.heap.size + 1 + 1) (7 + j * 4) r.c) (R ++ [r]) :=
  ⟨h.s.but (butC _ _ _ _) (by omega), h.o.but (butC _ _ _ _) (by omega), h.i.row hj h16 r, ((But.ofBelow (S := fun _ => False) h.b).trans (butC _ _ _ _) fun x hx e => by omega).below fun _ _ h => h⟩
theorem H3.start (w : World) (S : Array Value) (p : Pt) : Bx (((w.alloc (.cells S 28)).alloc (.cells (pc pt0) 48)).alloc (.cells (pc pt0) 48)) 48 (w.heap.size + 1 + 1) (pc pt0) ∧ H3 w S p ((((w.alloc (.cells S 28)).alloc (.cells (pc pt0) 48)).alloc (.cells (pc pt0) 48)).setRow (w.heap.size + 1 + 1) (pc (p.with []))) [] := by
  have h1 := ((Bx.new w 28 S).keep (al _ (.cells (pc pt0) 48))).keep (al _ (.cells (pc pt0) 48))
  have h2 := (Bx.new (w.alloc (.cells S 28)) 48 (pc pt0)).keep (al _ (.cells (pc pt0) 48))
  have h3 := Bx.new ((w.alloc (.cells S 28)).alloc (.cells (pc pt0) 48)) 48 (pc pt0)
  rw [size_alloc] at h2
  rw [size_alloc, size_alloc] at h3
  exact ⟨h3, h1.but (but_setRow _ _ _) (by omega), h2.but (but_setRow _ _ _) (by omega), setRow_heap _ _ _ _ _ _ h3, below_setRow (bt (bt (al w _) (al _ _)) (al _ _)) (by omega) _⟩
theorem stepFacts {w : World} {S : Array Value} {p : Pt} {W : World} {R : List Pr} {j : Nat} (h : H3 w S p W R) (hj : R.length = j) (h16 : j < 16) (t : Ro) :
    (((W.alloc (.cells t.cs 59)).cell? ⟨W.heap.size, 0, none⟩ = some (.int .i64 t.id) ∧ (W.alloc (.cells t.cs 59)).cell? ⟨W.heap.size, 1, none⟩ = some (.int .i64 t.r) ∧ (W.alloc (.cells t.cs 59)).cell? ⟨W.heap.size, 2, none⟩ = some (.int .i64 t.h) ∧ (W.alloc (.cells t.cs 59)).cell? ⟨W.heap.size, 3, none⟩ = some (.int .i64 t.n)) ∧
    (∃ v, (W.alloc (.cells t.cs 59)).cell? ⟨w.heap.size + 1 + 1, 7 + j * 4, none⟩ = some v) ∧ (∃ v, (W.alloc (.cells t.cs 59)).cell? ⟨w.heap.size + 1 + 1, 7 + j * 4 + 1, none⟩ = some v) ∧ (∃ v, (W.alloc (.cells t.cs 59)).cell? ⟨w.heap.size + 1 + 1, 7 + j * 4 + 2, none⟩ = some v) ∧ (∃ v, (W.alloc (.cells t.cs 59)).cell? ⟨w.heap.size + 1 + 1, 7 + j * 4 + 3, none⟩ = some v) ∧
    (W.alloc (.cells t.cs 59)).frozen? ⟨w.heap.size + 1 + 1, 7 + j * 4, none⟩ = false ∧ (W.alloc (.cells t.cs 59)).frozen? ⟨w.heap.size + 1 + 1, 7 + j * 4 + 1, none⟩ = false ∧ (W.alloc (.cells t.cs 59)).frozen? ⟨w.heap.size + 1 + 1, 7 + j * 4 + 2, none⟩ = false ∧ (W.alloc (.cells t.cs 59)).frozen? ⟨w.heap.size + 1 + 1, 7 + j * 4 + 3, none⟩ = false) := by
  have HB := Ro.box W t
  have HT := pc_there (h.keep (al W (.cells t.cs 59))).i (p := p.with R) (by show R.length ≤ 16; omega) (j := j) h16
  exact ⟨⟨HB.cell 0 rfl, HB.cell 1 rfl, HB.cell 2 rfl, HB.cell 3 rfl⟩, Option.isSome_iff_exists.1 (HT 0 (by omega)).1, Option.isSome_iff_exists.1 (HT 1 (by omega)).1, Option.isSome_iff_exists.1 (HT 2 (by omega)).1, Option.isSome_iff_exists.1 (HT 3 (by omega)).1, (HT 0 (by omega)).2, (HT 1 (by omega)).2, (HT 2 (by omega)).2, (HT 3 (by omega)).2⟩
set_option maxRecDepth 8000 in
set_option maxHeartbeats 3200000 in
theorem partsOf_any (w : World) (s : Su) (a : Option Addr) (c : Nat) (hI : Js w a s.rs) (ok : Ok s) : Calls Try.prog 18 #[suv s a c] w fun y w' => y = .returned (.agg (pc (ptOf s))) ∧ Below w.heap.size w w' := by
  have HI := hide hI
  have OK := hide ok
  obtain ⟨gen, bl, cl, rf, nx, L⟩ := s
  obtain ⟨g, rfl⟩ : ∃ g : Nat, gen = (g : Int) := ⟨gen.toNat, by have := ok.g.1; dsimp only at this; omega⟩
  obtain ⟨b, rfl⟩ : ∃ g : Nat, bl = (g : Int) := ⟨bl.toNat, by have := ok.b.1; dsimp only at this; omega⟩
  obtain ⟨k, rfl⟩ : ∃ g : Nat, cl = (g : Int) := ⟨cl.toNat, by have := ok.c.1; dsimp only at this; omega⟩
  obtain ⟨f, rfl⟩ : ∃ g : Nat, rf = (g : Int) := ⟨rf.toNat, by have := ok.f.1; dsimp only at this; omega⟩
  obtain ⟨x, rfl⟩ : ∃ g : Nat, nx = (g : Int) := ⟨nx.toNat, by have := ok.x.1; dsimp only at this; omega⟩
  have og := ok.g
  have ob := ok.b
  have oc := ok.c
  have of := ok.f
  have ox := ok.x
  have ol := ok.l
  dsimp only at og ob oc of ox ol HI
  have c1 : IntKind.u64.wrap (g : Int) = (g : Int) := by rw [IntKind.wrap_u64]; omega
  have c2 : IntKind.u32.wrap (b : Int) = (b : Int) := by rw [IntKind.wrap_u32]; omega
  have c3 : IntKind.u8.wrap (k : Int) = (k : Int) := by rw [IntKind.wrap_u8']; omega
  have c4 : IntKind.u32.wrap (f : Int) = (f : Int) := by rw [IntKind.wrap_u32]; omega
  have c5 : IntKind.u32.wrap (x : Int) = (x : Int) := by rw [IntKind.wrap_u32]; omega
  have c6 : IntKind.u8.wrap (L.length : Int) = (L.length : Int) := by rw [IntKind.wrap_u8']; omega
  have HP : Hid (ptOf ⟨(g : Int), (b : Int), (k : Int), (f : Int), (x : Int), L⟩ = Pt.with ⟨827346755, g, b, k, f, x, L.length, []⟩ (L.map prOf)) := rfl
  rw [HP.out]
  have hbd : (((((((pc pt0).setIfInBounds 0 (.int .u32 827346755)).setIfInBounds 1 (.int .u64 (g : Int))).setIfInBounds 2 (.int .u32 (b : Int))).setIfInBounds 3 (.int .u8 (k : Int))).setIfInBounds 4 (.int .u32 (f : Int))).setIfInBounds 5 (.int .u32 (x : Int))).setIfInBounds 6 (.int .u8 (L.length : Int)) = pc (Pt.with ⟨827346755, g, b, k, f, x, L.length, []⟩ []) := rfl
  have hz := zeroParts
  have HZ := hide (H3.start w (suC ⟨(g : Int), (b : Int), (k : Int), (f : Int), (x : Int), L⟩ a c) ⟨827346755, g, b, k, f, x, L.length, []⟩).1
  have H := hide (H3.start w (suC ⟨(g : Int), (b : Int), (k : Int), (f : Int), (x : Int), L⟩ a c) ⟨827346755, g, b, k, f, x, L.length, []⟩).2
  have hp0 := pc_size (p := pt0) (by simp [pt0])
  have HS := hide fun (R : List Pr) (hR : R.length ≤ 16) => pc_size (p := Pt.with ⟨827346755, g, b, k, f, x, L.length, []⟩ R) hR
  have HS' := hide fun (R : List Pr) (hR : R.length ≤ 16) => sizeParts (p := Pt.with ⟨827346755, g, b, k, f, x, L.length, []⟩ R) hR
  unfold suv suC at *
  clear hI ok HP
  dsimp only at *
  go_enter Try.func18, Try.ntmps18
  have hn0 : ¬ pc pt0 = #[] := by intro e; rw [e] at hp0; simp at hp0
  generalize (⟨827346755, g, b, k, f, x, L.length, []⟩ : Pt) = P at *
  have cS := H.out.s.cell 5 rfl
  go_wp2_with (refine wpList_store_row rfl 48 _ _ rfl (w.heap.size + 1 + 1) _ rfl rfl 48 (pc pt0) HZ.out (HS'.out [] (by simp)) (by rw [hp0, HS.out [] (by simp)]) (pc_all _) ?_)
  clear HZ cS hz hbd
  generalize (((w.alloc (.cells #[.int .i64 (g : Int), .int .i64 (b : Int), .int .i64 (k : Int), .int .i64 (f : Int), .int .i64 (x : Int), .slice a L.length c] 28)).alloc (.cells (pc pt0) 48)).alloc (.cells (pc pt0) 48)).setRow (w.heap.size + 1 + 1) (pc (P.with [])) = W at *
  go_loopw [33] (fun q wx => ∃ j : Nat, j ≤ L.length ∧ q = .int .i64 j ∧ H3 w #[.int .i64 (g : Int), .int .i64 (b : Int), .int .i64 (k : Int), .int .i64 (f : Int), .int .i64 (x : Int), .slice a L.length c] P wx (prT L j)) (fun q _ => L.length - (intOf q).toNat)
  case atStart => exact ⟨0, Nat.zero_le _, rfl, by rw [prT_zero]; exact H.out⟩
  case round =>
    obtain ⟨j, hj, rfl, hH⟩ := hrel
    have H := hide hH
    clear hH
    by_cases hlt : j < L.length
    · have hlti : (j : Int) < (L.length : Int) := by omega
      have hj16 : (j : Int) < 16 := by omega
      obtain ⟨b1, o1, rfl, cA⟩ := (HI.out.keep H.out.b).at hlt
      have HC := hide cA
      have SN := hide (prT_succ L hlt)
      have hlen := prT_length L hj
      have hok := OK.out.r _ (getD_mem hlt)
      generalize L.getD j ro0 = t at *
      obtain ⟨⟨t1, t2⟩, ⟨t3, t4⟩, ⟨t5, t6⟩, t7, t8⟩ := hok
      have d1 : IntKind.u32.wrap t.id = t.id := by rw [IntKind.wrap_u32]; omega
      have d2 : IntKind.u32.wrap t.r = t.r := by rw [IntKind.wrap_u32]; omega
      have d3 : IntKind.u8.wrap t.h = t.h := by rw [IntKind.wrap_u8']; omega
      have d4 : IntKind.u32.wrap t.n = t.n := by rw [IntKind.wrap_u32]; omega
      have PC : Hid ((prOf t).c = [.int .u32 t.id, .int .u32 t.r, .int .u8 t.h, .int .u32 t.n]) := by
        show [_, _, _, _] = _
        unfold prOf
        dsimp only
        rw [Int.toNat_of_nonneg (by omega), Int.toNat_of_nonneg (by omega), Int.toNat_of_nonneg (by omega), Int.toNat_of_nonneg (by omega)]
      have FB := hide (stepFacts H.out hlen (by omega) t)
      have HR := hide (fun (o : Obj) => (H.out.keep (al wr o)).row hlen (by omega) (prOf t))
      rw [PC.out] at HR
      have HR := hide (HR.out (.cells #[.int .i64 t.id, .int .i64 t.r, .int .i64 t.h, .int .i64 t.n] 59))
      rw [nest4] at HR
      clear cA t1 t2 t3 t4 t5 t6 t7 t8
      unfold Ro.cs at HC FB
      generalize prT L j = R at *
      have hflag : True := trivial
      go_wp2_with (first
        | (conv in (World.alloc wr (Obj.cells #[Value.int IntKind.i64 t.id, _, _, _] _)) => skip
           clear hflag
           generalize wr.alloc (.cells #[.int .i64 t.id, .int .i64 t.r, .int .i64 t.h, .int .i64 t.n] 59) = W2 at *
           obtain ⟨⟨r0, r1, r2, r3⟩, ⟨v0, e0⟩, ⟨v1, e1⟩, ⟨v2, e2⟩, ⟨v3, e3⟩, f0, f1, f2, f3⟩ := FB.out
           repeat (first | go_values | go_skip | go_guarded | go_step | go_upon)
           clear e0 e1 e2 e3 f0 f1 f2 f3 r0 r1 r2 r3
           go_roundw
           case rel => exact ⟨j + 1, by omega, by go_num, by rw [SN.out]; exact HR.out⟩
           case measure => simp [intOf]; omega)
        | (refine wpList_load_mid rfl 59 _ rfl b1 (o1 + j * 4) (by simp [Act.eval]) _ _ HC.out Try.underlying59 rfl sizeRoot ?_))
    · obtain rfl : j = L.length := by omega
      rw [prT_all] at H
      have hml : (L.map prOf).length ≤ 16 := by rw [List.length_map]; exact ol
      go_wp2_with (first
        | (refine wpList_load_row rfl 48 _ rfl (w.heap.size + 1 + 1) rfl 48 (pc (P.with (L.map prOf))) (0, 0) _ H.out.i Try.underlying48 rfl (HS'.out _ hml) ?_)
        | (refine wpList_store_row rfl 48 _ _ rfl (w.heap.size + 1) _ rfl rfl 48 (pc pt0) H.out.o (HS'.out _ hml) (by rw [hp0, HS.out _ hml]) (pc_all _) ?_))
      refine bodyPost_ret (v := .agg (pc (P.with (L.map prOf)))) (results_cell_row Try.results18 _ _ (w.heap.size + 1) 48 _ (0, 0) _ rfl (setRow_heap _ _ _ _ _ _ H.out.o) Try.underlying48 rfl (HS'.out _ hml)) rfl ⟨rfl, ?_⟩
      exact below_setRow H.out.b (by omega) _
end Go.Proofs.Ytifhkfghjifecaa
