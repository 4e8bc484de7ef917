import Derived.Test.YtifhkfghjifecaaIH
namespace Go.Proofs.Ytifhkfghjifecaa
open Go.RowKit

/-! ### all that a block says, in one struct -/
structure Pr where
  id : Nat
  r : Nat
  h : Nat
  n : Nat
structure Pt where
  mq : Nat
  gn : Nat
  bl : Nat
  cl : Nat
  rf : Nat
  nx : Nat
  mn : Nat
  rw : List Pr
def pr0 : Pr := ⟨0, 0, 0, 0⟩
def pt0 : Pt := ⟨0, 0, 0, 0, 0, 0, 0, []⟩
def Pr.c (r : Pr) : List Value := [.int .u32 (r.id : Int), .int .u32 (r.r : Int), .int .u8 (r.h : Int), .int .u32 (r.n : Int)]
def ph (p : Pt) : List Value := [.int .u32 (p.mq : Int), .int .u64 (p.gn : Int), .int .u32 (p.bl : Int), .int .u8 (p.cl : Int), .int .u32 (p.rf : Int), .int .u32 (p.nx : Int), .int .u8 (p.mn : Int)]
def pvs (R : List Pr) : List Value := R.flatMap Pr.c
def pfl (R : List Pr) : List Pr := R ++ List.replicate (16 - R.length) pr0
def pc (p : Pt) : Array Value := (ph p ++ pvs (pfl p.rw)).toArray
theorem pvs_append (a b : List Pr) : pvs (a ++ b) = pvs a ++ pvs b := by unfold pvs; rw [List.flatMap_append]
theorem pvs_cons (x : Pr) (r : List Pr) : pvs (x :: r) = x.c ++ pvs r := by unfold pvs; rw [List.flatMap_cons]
theorem pvs_length (R : List Pr) : (pvs R).length = 4 * R.length := by
  induction R with
  | nil => rfl
  | cons x r ih => rw [pvs_cons, List.length_append, ih, List.length_cons]; show 4 + _ = _; omega
theorem pfl_length {R : List Pr} (h : R.length ≤ 16) : (pfl R).length = 16 := by unfold pfl; rw [List.length_append, List.length_replicate]; omega
theorem pc_size {p : Pt} (h : p.rw.length ≤ 16) : (pc p).size = 71 := by
  unfold pc
  rw [List.size_toArray, List.length_append, pvs_length, pfl_length h]
  rfl
theorem pc_all (p : Pt) : (pc p).all (·.oneCell') = true := by
  refine all_oneCell_toArray fun v hv => ?_
  rcases List.mem_append.1 hv with h | h
  · unfold ph at h
    simp only [List.mem_cons, List.not_mem_nil, or_false] at h
    rcases h with rfl | rfl | rfl | rfl | rfl | rfl | rfl <;> rfl
  · obtain ⟨r, _, hr⟩ := List.mem_flatMap.1 h
    unfold Pr.c at hr
    simp only [List.mem_cons, List.not_mem_nil, or_false] at hr
    rcases hr with rfl | rfl | rfl | rfl <;> rfl
theorem infoParts : (Try.prog.info? 48).map (fun i => (i.zero, i.size)) = some (some (.agg (pc pt0)), 71) := by kernel_rfl
theorem zeroParts (w : World) : (zeroValue 48).run Try.prog w = .ok (.agg (pc pt0)) w := (zero_of_info infoParts).1 w
theorem sizeParts {p : Pt} (h : p.rw.length ≤ 16) : (Try.prog.info? 48).map (·.size) = some (pc p).size := by rw [pc_size h]; exact (zero_of_info infoParts).2
theorem sizeProw : (Try.prog.info? 45).map (·.size) = some 4 := by kernel_rfl
theorem pvs_get (R : List Pr) : ∀ (j i : Nat), j < R.length → i < 4 → (pvs R)[j * 4 + i]? = (R.getD j pr0).c[i]? := by
  induction R with
  | nil => intro j i hj; simp at hj
  | cons x r ih =>
    intro j i hj hi
    have hx : x.c.length = 4 := rfl
    rw [pvs_cons]
    cases j with
    | zero => rw [Nat.zero_mul, Nat.zero_add, List.getElem?_append_left (by omega)]; simp
    | succ j =>
      rw [List.getElem?_append_right (by omega), hx, show (j + 1) * 4 + i - 4 = j * 4 + i by omega, ih j i (by simpa using hj) hi]
      simp
theorem pfl_get {R : List Pr} {j : Nat} (h : j < R.length) : (pfl R).getD j pr0 = R.getD j pr0 := by
  unfold pfl
  simp [List.getElem?_append_left h]
/-- the cells of a row -/
theorem pc_range {w : World} {t : TypeId} {g : Nat} {p : Pt} (h : Bx w t g (pc p)) (hl : p.rw.length ≤ 16) {j : Nat} (hj : j < p.rw.length) : w.rangeAt g (7 + j * 4) (p.rw.getD j pr0).c := by
  intro i v hv
  have hi : i < 4 := (List.getElem?_eq_some_iff.1 hv).1
  rw [cell_of_row _ _ _ _ _ _ h]
  unfold pc
  rw [List.getElem?_toArray, List.getElem?_append_right (by show 7 ≤ _; omega)]
  show (pvs (pfl p.rw))[7 + j * 4 + i - 7]? = some v
  rw [show 7 + j * 4 + i - 7 = j * 4 + i by omega, pvs_get _ j i (by rw [pfl_length hl]; omega) hi, pfl_get hj]
  exact hv
theorem pc_there {w : World} {t : TypeId} {g : Nat} {p : Pt} (h : Bx w t g (pc p)) (hl : p.rw.length ≤ 16) {j : Nat} (hj : j < 16) : w.there g (7 + j * 4) 4 := by
  intro i hi
  have hs := pc_size hl
  constructor
  · rw [cell_of_row _ _ _ _ _ _ h]
    simp [show 7 + j * 4 + i < (pc p).size by omega]
  · exact frozen_of_row _ _ _ _ _ h
theorem set4 (D : List Value) (x0 x1 x2 x3 v0 v1 v2 v3 : Value) (T : List Value) {k : Nat} (hk : k = D.length) :
    (((((D ++ x0 :: x1 :: x2 :: x3 :: T).toArray.setIfInBounds k v0).setIfInBounds (k + 1) v1).setIfInBounds (k + 2) v2).setIfInBounds (k + 3) v3) = (D ++ v0 :: v1 :: v2 :: v3 :: T).toArray := by
  subst hk
  have e : ∀ (i : Nat) (v : Value) (X : List Value), (D ++ X).toArray.setIfInBounds (D.length + i) v = (D ++ X.set i v).toArray := fun i v X => by
    rw [List.setIfInBounds_toArray, List.set_append_right _ _ (by omega), Nat.add_sub_cancel_left]
  have e0 := e 0 v0 (x0 :: x1 :: x2 :: x3 :: T)
  rw [Nat.add_zero] at e0
  rw [e0, e, e, e]
  rfl
/-- one row more is filled -/
theorem pc_set {p : Pt} {j : Nat} (hj : p.rw.length = j) (h16 : j < 16) (r : Pr) : ((((((pc p).setIfInBounds (7 + j * 4) (.int .u32 (r.id : Int))).setIfInBounds (7 + j * 4 + 1) (.int .u32 (r.r : Int))).setIfInBounds (7 + j * 4 + 2) (.int .u8 (r.h : Int)))).setIfInBounds (7 + j * 4 + 3) (.int .u32 (r.n : Int))) = pc ⟨p.mq, p.gn, p.bl, p.cl, p.rf, p.nx, p.mn, p.rw ++ [r]⟩ := by
  subst hj
  have e : pc p = ((ph p ++ pvs p.rw) ++ (.int .u32 0 :: .int .u32 0 :: .int .u8 0 :: .int .u32 0 :: pvs (List.replicate (16 - (p.rw.length + 1)) pr0))).toArray := by
    unfold pc pfl
    rw [pvs_append, show 16 - p.rw.length = (16 - (p.rw.length + 1)) + 1 by omega, List.replicate_succ, pvs_cons, List.append_assoc]
    rfl
  rw [e, set4 _ _ _ _ _ _ _ _ _ _ (by rw [List.length_append, pvs_length]; show _ = 7 + _; omega)]
  unfold pc pfl
  rw [pvs_append, pvs_append, List.length_append]
  simp only [List.append_assoc, List.length_singleton]
  rfl
set_option maxHeartbeats 800000 in
theorem has_any (w : World) (p : Pt) (hm : p.mn < 256) : Calls Try.prog 33 #[.agg (pc p)] w fun e w' => e = .returned (.int .i64 ((min p.mn 16 : Nat) : Int)) ∧ Below w.heap.size w w' := by
  have HA := hide (al w (.cells (pc p) 48))
  have c6 := (Bx.new w 48 (pc p)).cell 6 (v := .int .u8 (p.mn : Int)) rfl
  have HM : Hid (((min p.mn 16 : Nat) : Int) = min ((p.mn : Nat) : Int) 16) := by show _ = _; omega
  generalize ((min p.mn 16 : Nat) : Int) = M at *
  generalize p.mn = m at *
  generalize pc p = C at *
  go_enter Try.func33, Try.ntmps33
  go_wp2
  · go_ret
    exact ⟨by rw [HM.out]; first | (rw [Int.min_eq_right (by omega)]; rfl) | (rw [Int.min_eq_left (by omega)]; rfl), HA.out⟩
  · go_ret
    exact ⟨by rw [HM.out]; first | (rw [Int.min_eq_right (by omega)]; rfl) | (rw [Int.min_eq_left (by omega)]; rfl), HA.out⟩
theorem buildParts (g b c f x n : Nat) (w : World) : (Instr.build 48 #[(0, .int .u32 827346755), (1, .int .u64 (g : Int)), (2, .agg #[.int .u32 (b : Int), .int .u8 (c : Int), .int .u32 (f : Int)]), (3, .int .u32 (x : Int)), (4, .int .u8 (n : Int))]).run Try.prog w = .ok (.agg (pc ⟨827346755, g, b, c, f, x, n, []⟩)) w := run_build w 48 _ _ (by kernel_rfl)
end Go.Proofs.Ytifhkfghjifecaa

namespace Go.Proofs.Ytifhkfghjifecaa
open Go.RowKit

/-! ### what the block of a superblock says -/
def Pt.with (p : Pt) (R : List Pr) : Pt := ⟨p.mq, p.gn, p.bl, p.cl, p.rf, p.nx, p.mn, R⟩
def prOf (t : Ro) : Pr := ⟨t.id.toNat, t.r.toNat, t.h.toNat, t.n.toNat⟩
def ptOf (s : Su) : Pt := ⟨827346755, s.gen.toNat, s.bl.toNat, s.cl.toNat, s.rf.toNat, s.nx.toNat, s.rs.length, s.rs.map prOf⟩
theorem Bx.row {w : World} {t : TypeId} {g : Nat} {p : Pt} {R : List Pr} {j : Nat} (h : Bx w t g (pc (p.with R))) (hj : R.length = j) (h16 : j < 16) (r : Pr) : Bx (w.setCells g (7 + j * 4) r.c) t g (pc (p.with (R ++ [r]))) := by
  have k := (((h.setc (7 + j * 4) (.int .u32 (r.id : Int))).setc (7 + j * 4 + 1) (.int .u32 (r.r : Int))).setc (7 + j * 4 + 2) (.int .u8 (r.h : Int))).setc (7 + j * 4 + 3) (.int .u32 (r.n : Int))
  have e := pc_set (p := p.with R) hj h16 r
  rw [e] at k
  exact k
theorem butC (g : Nat) : ∀ (vs : List Value) (w : World) (o : Nat), But (fun k => k = g) w (w.setCells g o vs) := but_setCells g
theorem nest4 (W : World) (g o : Nat) (v0 v1 v2 v3 : Value) : W.setCells g o [v0, v1, v2, v3] = (((W.setCell ⟨g, o, none⟩ v0).setCell ⟨g, o + 1, none⟩ v1).setCell ⟨g, o + 2, none⟩ v2).setCell ⟨g, o + 3, none⟩ v3 := rfl
def prT (l : List Ro) (k : Nat) : List Pr := (l.take k).map prOf
theorem prT_succ (l : List Ro) {k : Nat} (h : k < l.length) : prT l (k + 1) = prT l k ++ [prOf (l.getD k ro0)] := by
  unfold prT
  rw [List.take_succ_eq_append_getElem h, List.map_append]; simp [h]
theorem prT_zero (l : List Ro) : prT l 0 = [] := rfl
theorem prT_all (l : List Ro) : prT l l.length = l.map prOf := by unfold prT; rw [List.take_length]
theorem prT_length (l : List Ro) {k : Nat} (h : k ≤ l.length) : (prT l k).length = k := by unfold prT; rw [List.length_map, List.length_take]; omega
/-- the boxes of partsOf -/
structure H3 (w : World) (S : Array Value) (p : Pt) (W : World) (R : List Pr) : Prop where
  s : Bx W 28 w.heap.size S
  o : Bx W 48 (w.heap.size + 1) (pc pt0)
  i : Bx W 48 (w.heap.size + 1 + 1) (pc (p.with R))
  b : Below w.heap.size w W
theorem H3.keep {w : World} {S : Array Value} {p : Pt} {W W' : World} {R : List Pr} (h : H3 w S p W R) (hb : Below W.heap.size W W') : H3 w S p W' R := ⟨h.s.keep hb, h.o.keep hb, h.i.keep hb, bt h.b hb⟩
theorem H3.row {w : World} {S : Array Value} {p : Pt} {W : World} {R : List Pr} {j : Nat} (h : H3 w S p W R) (hj : R.length = j) (h16 : j < 16) (r : Pr) : H3 w S p (W.setCells (w.heap.size + 1 + 1) (7 + j * 4) r.c) (R ++ [r]) :=
  ⟨h.s.but (butC _ _ _ _) (by omega), h.o.but (butC _ _ _ _) (by omega), h.i.row hj h16 r, ((But.ofBelow (S := fun _ => False) h.b).trans (butC _ _ _ _) fun x hx e => by omega).below fun _ _ h => h⟩
theorem H3.start (w : World) (S : Array Value) (p : Pt) : Bx (((w.alloc (.cells S 28)).alloc (.cells (pc pt0) 48)).alloc (.cells (pc pt0) 48)) 48 (w.heap.size + 1 + 1) (pc pt0) ∧ H3 w S p ((((w.alloc (.cells S 28)).alloc (.cells (pc pt0) 48)).alloc (.cells (pc pt0) 48)).setRow (w.heap.size + 1 + 1) (pc (p.with []))) [] := by
  have h1 := ((Bx.new w 28 S).keep (al _ (.cells (pc pt0) 48))).keep (al _ (.cells (pc pt0) 48))
  have h2 := (Bx.new (w.alloc (.cells S 28)) 48 (pc pt0)).keep (al _ (.cells (pc pt0) 48))
  have h3 := Bx.new ((w.alloc (.cells S 28)).alloc (.cells (pc pt0) 48)) 48 (pc pt0)
  rw [size_alloc] at h2
  rw [size_alloc, size_alloc] at h3
  exact ⟨h3, h1.but (but_setRow _ _ _) (by omega), h2.but (but_setRow _ _ _) (by omega), setRow_heap _ _ _ _ _ _ h3, below_setRow (bt (bt (al w _) (al _ _)) (al _ _)) (by omega) _⟩
theorem stepFacts {w : World} {S : Array Value} {p : Pt} {W : World} {R : List Pr} {j : Nat} (h : H3 w S p W R) (hj : R.length = j) (h16 : j < 16) (t : Ro) :
    (((W.alloc (.cells t.cs 59)).cell? ⟨W.heap.size, 0, none⟩ = some (.int .i64 t.id) ∧ (W.alloc (.cells t.cs 59)).cell? ⟨W.heap.size, 1, none⟩ = some (.int .i64 t.r) ∧ (W.alloc (.cells t.cs 59)).cell? ⟨W.heap.size, 2, none⟩ = some (.int .i64 t.h) ∧ (W.alloc (.cells t.cs 59)).cell? ⟨W.heap.size, 3, none⟩ = some (.int .i64 t.n)) ∧
    (∃ v, (W.alloc (.cells t.cs 59)).cell? ⟨w.heap.size + 1 + 1, 7 + j * 4, none⟩ = some v) ∧ (∃ v, (W.alloc (.cells t.cs 59)).cell? ⟨w.heap.size + 1 + 1, 7 + j * 4 + 1, none⟩ = some v) ∧ (∃ v, (W.alloc (.cells t.cs 59)).cell? ⟨w.heap.size + 1 + 1, 7 + j * 4 + 2, none⟩ = some v) ∧ (∃ v, (W.alloc (.cells t.cs 59)).cell? ⟨w.heap.size + 1 + 1, 7 + j * 4 + 3, none⟩ = some v) ∧
    (W.alloc (.cells t.cs 59)).frozen? ⟨w.heap.size + 1 + 1, 7 + j * 4, none⟩ = false ∧ (W.alloc (.cells t.cs 59)).frozen? ⟨w.heap.size + 1 + 1, 7 + j * 4 + 1, none⟩ = false ∧ (W.alloc (.cells t.cs 59)).frozen? ⟨w.heap.size + 1 + 1, 7 + j * 4 + 2, none⟩ = false ∧ (W.alloc (.cells t.cs 59)).frozen? ⟨w.heap.size + 1 + 1, 7 + j * 4 + 3, none⟩ = false) := by
  have HB := Ro.box W t
  have HT := pc_there (h.keep (al W (.cells t.cs 59))).i (p := p.with R) (by show R.length ≤ 16; omega) (j := j) h16
  exact ⟨⟨HB.cell 0 rfl, HB.cell 1 rfl, HB.cell 2 rfl, HB.cell 3 rfl⟩, Option.isSome_iff_exists.1 (HT 0 (by omega)).1, Option.isSome_iff_exists.1 (HT 1 (by omega)).1, Option.isSome_iff_exists.1 (HT 2 (by omega)).1, Option.isSome_iff_exists.1 (HT 3 (by omega)).1, (HT 0 (by omega)).2, (HT 1 (by omega)).2, (HT 2 (by omega)).2, (HT 3 (by omega)).2⟩
set_option maxRecDepth 8000 in
set_option maxHeartbeats 3200000 in
theorem partsOf_any (w : World) (s : Su) (a : Option Addr) (c : Nat) (hI : Js w a s.rs) (ok : Ok s) : Calls Try.prog 18 #[suv s a c] w fun y w' => y = .returned (.agg (pc (ptOf s))) ∧ Below w.heap.size w w' := by
  have HI := hide hI
  have OK := hide ok
  obtain ⟨gen, bl, cl, rf, nx, L⟩ := s
  obtain ⟨g, rfl⟩ : ∃ g : Nat, gen = (g : Int) := ⟨gen.toNat, by have := ok.g.1; dsimp only at this; omega⟩
  obtain ⟨b, rfl⟩ : ∃ g : Nat, bl = (g : Int) := ⟨bl.toNat, by have := ok.b.1; dsimp only at this; omega⟩
  obtain ⟨k, rfl⟩ : ∃ g : Nat, cl = (g : Int) := ⟨cl.toNat, by have := ok.c.1; dsimp only at this; omega⟩
  obtain ⟨f, rfl⟩ : ∃ g : Nat, rf = (g : Int) := ⟨rf.toNat, by have := ok.f.1; dsimp only at this; omega⟩
  obtain ⟨x, rfl⟩ : ∃ g : Nat, nx = (g : Int) := ⟨nx.toNat, by have := ok.x.1; dsimp only at this; omega⟩
  have og := ok.g
  have ob := ok.b
  have oc := ok.c
  have of := ok.f
  have ox := ok.x
  have ol := ok.l
  dsimp only at og ob oc of ox ol HI
  have c1 : IntKind.u64.wrap (g : Int) = (g : Int) := by rw [IntKind.wrap_u64]; omega
  have c2 : IntKind.u32.wrap (b : Int) = (b : Int) := by rw [IntKind.wrap_u32]; omega
  have c3 : IntKind.u8.wrap (k : Int) = (k : Int) := by rw [IntKind.wrap_u8']; omega
  have c4 : IntKind.u32.wrap (f : Int) = (f : Int) := by rw [IntKind.wrap_u32]; omega
  have c5 : IntKind.u32.wrap (x : Int) = (x : Int) := by rw [IntKind.wrap_u32]; omega
  have c6 : IntKind.u8.wrap (L.length : Int) = (L.length : Int) := by rw [IntKind.wrap_u8']; omega
  have HP : Hid (ptOf ⟨(g : Int), (b : Int), (k : Int), (f : Int), (x : Int), L⟩ = Pt.with ⟨827346755, g, b, k, f, x, L.length, []⟩ (L.map prOf)) := rfl
  rw [HP.out]
  have hbd : (((((((pc pt0).setIfInBounds 0 (.int .u32 827346755)).setIfInBounds 1 (.int .u64 (g : Int))).setIfInBounds 2 (.int .u32 (b : Int))).setIfInBounds 3 (.int .u8 (k : Int))).setIfInBounds 4 (.int .u32 (f : Int))).setIfInBounds 5 (.int .u32 (x : Int))).setIfInBounds 6 (.int .u8 (L.length : Int)) = pc (Pt.with ⟨827346755, g, b, k, f, x, L.length, []⟩ []) := rfl
  have hz := zeroParts
  have HZ := hide (H3.start w (suC ⟨(g : Int), (b : Int), (k : Int), (f : Int), (x : Int), L⟩ a c) ⟨827346755, g, b, k, f, x, L.length, []⟩).1
  have H := hide (H3.start w (suC ⟨(g : Int), (b : Int), (k : Int), (f : Int), (x : Int), L⟩ a c) ⟨827346755, g, b, k, f, x, L.length, []⟩).2
  have hp0 := pc_size (p := pt0) (by simp [pt0])
  have HS := hide fun (R : List Pr) (hR : R.length ≤ 16) => pc_size (p := Pt.with ⟨827346755, g, b, k, f, x, L.length, []⟩ R) hR
  have HS' := hide fun (R : List Pr) (hR : R.length ≤ 16) => sizeParts (p := Pt.with ⟨827346755, g, b, k, f, x, L.length, []⟩ R) hR
  unfold suv suC at *
  clear hI ok HP
  dsimp only at *
  go_enter Try.func18, Try.ntmps18
  have hn0 : ¬ pc pt0 = #[] := by intro e; rw [e] at hp0; simp at hp0
  generalize (⟨827346755, g, b, k, f, x, L.length, []⟩ : Pt) = P at *
  have cS := H.out.s.cell 5 rfl
  go_wp2_with (refine wpList_store_row rfl 48 _ _ rfl (w.heap.size + 1 + 1) _ rfl rfl 48 (pc pt0) HZ.out (HS'.out [] (by simp)) (by rw [hp0, HS.out [] (by simp)]) (pc_all _) ?_)
  clear HZ cS hz hbd
  generalize (((w.alloc (.cells #[.int .i64 (g : Int), .int .i64 (b : Int), .int .i64 (k : Int), .int .i64 (f : Int), .int .i64 (x : Int), .slice a L.length c] 28)).alloc (.cells (pc pt0) 48)).alloc (.cells (pc pt0) 48)).setRow (w.heap.size + 1 + 1) (pc (P.with [])) = W at *
  go_loopw [33] (fun q wx => ∃ j : Nat, j ≤ L.length ∧ q = .int .i64 j ∧ H3 w #[.int .i64 (g : Int), .int .i64 (b : Int), .int .i64 (k : Int), .int .i64 (f : Int), .int .i64 (x : Int), .slice a L.length c] P wx (prT L j)) (fun q _ => L.length - (intOf q).toNat)
  case atStart => exact ⟨0, Nat.zero_le _, rfl, by rw [prT_zero]; exact H.out⟩
  case round =>
    obtain ⟨j, hj, rfl, hH⟩ := hrel
    have H := hide hH
    clear hH
    by_cases hlt : j < L.length
    · have hlti : (j : Int) < (L.length : Int) := by omega
      have hj16 : (j : Int) < 16 := by omega
      obtain ⟨b1, o1, rfl, cA⟩ := (HI.out.keep H.out.b).at hlt
      have HC := hide cA
      have SN := hide (prT_succ L hlt)
      have hlen := prT_length L hj
      have hok := OK.out.r _ (getD_mem hlt)
      generalize L.getD j ro0 = t at *
      obtain ⟨⟨t1, t2⟩, ⟨t3, t4⟩, ⟨t5, t6⟩, t7, t8⟩ := hok
      have d1 : IntKind.u32.wrap t.id = t.id := by rw [IntKind.wrap_u32]; omega
      have d2 : IntKind.u32.wrap t.r = t.r := by rw [IntKind.wrap_u32]; omega
      have d3 : IntKind.u8.wrap t.h = t.h := by rw [IntKind.wrap_u8']; omega
      have d4 : IntKind.u32.wrap t.n = t.n := by rw [IntKind.wrap_u32]; omega
      have PC : Hid ((prOf t).c = [.int .u32 t.id, .int .u32 t.r, .int .u8 t.h, .int .u32 t.n]) := by
        show [_, _, _, _] = _
        unfold prOf
        dsimp only
        rw [Int.toNat_of_nonneg (by omega), Int.toNat_of_nonneg (by omega), Int.toNat_of_nonneg (by omega), Int.toNat_of_nonneg (by omega)]
      have FB := hide (stepFacts H.out hlen (by omega) t)
      have HR := hide (fun (o : Obj) => (H.out.keep (al wr o)).row hlen (by omega) (prOf t))
      rw [PC.out] at HR
      have HR := hide (HR.out (.cells #[.int .i64 t.id, .int .i64 t.r, .int .i64 t.h, .int .i64 t.n] 59))
      rw [nest4] at HR
      clear cA t1 t2 t3 t4 t5 t6 t7 t8
      unfold Ro.cs at HC FB
      generalize prT L j = R at *
      have hflag : True := trivial
      go_wp2_with (first
        | (conv in (World.alloc wr (Obj.cells #[Value.int IntKind.i64 t.id, _, _, _] _)) => skip
           clear hflag
           generalize wr.alloc (.cells #[.int .i64 t.id, .int .i64 t.r, .int .i64 t.h, .int .i64 t.n] 59) = W2 at *
           obtain ⟨⟨r0, r1, r2, r3⟩, ⟨v0, e0⟩, ⟨v1, e1⟩, ⟨v2, e2⟩, ⟨v3, e3⟩, f0, f1, f2, f3⟩ := FB.out
           repeat (first | go_values | go_skip | go_guarded | go_step | go_upon)
           clear e0 e1 e2 e3 f0 f1 f2 f3 r0 r1 r2 r3
           go_roundw
           case rel => exact ⟨j + 1, by omega, by go_num, by rw [SN.out]; exact HR.out⟩
           case measure => simp [intOf]; omega)
        | (refine wpList_load_mid rfl 59 _ rfl b1 (o1 + j * 4) (by simp [Act.eval]) _ _ HC.out Try.underlying59 rfl sizeRoot ?_))
    · obtain rfl : j = L.length := by omega
      rw [prT_all] at H
      have hml : (L.map prOf).length ≤ 16 := by rw [List.length_map]; exact ol
      go_wp2_with (first
        | (refine wpList_load_row rfl 48 _ rfl (w.heap.size + 1 + 1) rfl 48 (pc (P.with (L.map prOf))) (0, 0) _ H.out.i Try.underlying48 rfl (HS'.out _ hml) ?_)
        | (refine wpList_store_row rfl 48 _ _ rfl (w.heap.size + 1) _ rfl rfl 48 (pc pt0) H.out.o (HS'.out _ hml) (by rw [hp0, HS.out _ hml]) (pc_all _) ?_))
      refine bodyPost_ret (v := .agg (pc (P.with (L.map prOf)))) (results_cell_row Try.results18 _ _ (w.heap.size + 1) 48 _ (0, 0) _ rfl (setRow_heap _ _ _ _ _ _ H.out.o) Try.underlying48 rfl (HS'.out _ hml)) rfl ⟨rfl, ?_⟩
      exact below_setRow H.out.b (by omega) _
end Go.Proofs.Ytifhkfghjifecaa
