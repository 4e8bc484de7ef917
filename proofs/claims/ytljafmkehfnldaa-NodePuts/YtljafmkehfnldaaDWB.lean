import Derived.Test.YtljafmkehfnldaaDWA
namespace Go.Proofs.Ytljafmkehfnldaa
set_option linter.unusedVariables false
set_option linter.unusedSimpArgs false
open Go.RowKit
theorem ins_len {p : Pg} {i : Int} {x : It} (h : p.items.length ≤ 2199023255488) : (Pg.ins p i x).1.items.length ≤ 2199023255520 := by
  unfold Pg.ins
  split
  · simp [Pg.zero]
  · rename_i hq
    simp only [Pg.wi, List.length_append, List.length_cons, List.length_take, List.length_drop]
    omega
theorem rep_len {p : Pg} {i : Int} {x : It} (h : p.items.length ≤ 2199023255488) : (Pg.rep p i x).1.items.length ≤ 2199023255520 := by
  unfold Pg.rep
  split
  · simp [Pg.zero]
  · simp only [Pg.wi, List.length_append, List.length_cons, List.length_take, List.length_drop]
    omega
theorem rem_len {p : Pg} {i : Int} (h : p.items.length ≤ 2199023255488) : (Pg.rem p i).1.items.length ≤ 2199023255520 := by
  unfold Pg.rem
  split
  · simp [Pg.zero]
  · simp only [Pg.wi, List.length_append, List.length_take, List.length_drop]
    omega
theorem put_len {q : Pv} {g : Pg} (h : q.pg = g) (hl : g.items.length ≤ 2199023255520) : q.items.length ≤ 2199023255520 := by
  have := congrArg (fun p : Pg => p.items.length) h
  simp only [Pv.pg, List.length_map] at this
  omega
/-- an item that spareItem made -/
structure Si (W : World) (x y : Iv) : Prop where
  e : y.it = x.it
  k : Sl W y.aK y.cK y.key
  v : Sl W y.aV y.cV y.val
theorem Si.keep {W W' : World} {x y : Iv} (h : Si W x y) (hb : Below W.heap.size W W') : Si W' x y := ⟨h.e, h.k.keep hb, h.v.keep hb⟩
theorem Si.ii {W W' : World} {x y : Iv} (h : Si W x y) (hx : Ii W' x) : Ii W y := by
  have n := it_n h.e ⟨hx.nc, hx.ns⟩
  exact ⟨h.k.bs, by rw [h.k.c]; omega, h.v.bs, by rw [h.v.c]; omega, n.1, n.2⟩
set_option maxHeartbeats 4000000 in
set_option maxRecDepth 8000 in
theorem spareItem_any (w : World) (x : Iv) (hX : Ii w x) (hxs : x.key.length ≤ 140737488355264 ∧ x.val.length ≤ 140737488355264) : Calls Try.prog 18 #[x.vl] w fun e w' => ∃ y : Iv, e = .returned y.vl ∧ Si w' x y ∧ Below w.heap.size w w' := by
  have K1 := hide fun (W : World) (hb : Below w.heap.size w W) => Spare_at W x.aK x.key.length x.cK x.key (hX.bk.keep hb) rfl hxs.1
  have K2 := hide fun (W : World) (hb : Below w.heap.size w W) => Spare_at W x.aV x.val.length x.cV x.val (hX.bv.keep hb) rfl hxs.2
  clear hX hxs
  obtain ⟨xK, xcK, xkey, xV, xcV, xval, xch, xsz⟩ := x
  unfold Iv.vl
  simp only [Iv.cs] at *
  have U2 := hide (two_blocks w (.cells #[.slice xK xkey.length xcK, .slice xV xval.length xcV, .int .i64 xch, .int .i64 xsz] 37) (.cells #[.slice none 0 0, .slice none 0 0, .int .i64 0, .int .i64 0] 37) (Below.refl _ _))
  go_enter Try.func18, Try.ntmps18
  go_wp2_with fail
  have BP := hide U2.out.1
  have BR := hide U2.out.2.1
  have B3 := hide U2.out.2.2.1
  clear U2
  generalize ((w.alloc (.cells #[.slice xK xkey.length xcK, .slice xV xval.length xcV, .int .i64 xch, .int .i64 xsz] 37)).alloc (.cells #[.slice none 0 0, .slice none 0 0, .int .i64 0, .int .i64 0] 37)) = w3 at *
  have SS := hide fun (W : World) (hb : Below w3.heap.size w3 W) => cells4 (blk_keep BP.out hb)
  have D3 := hide (dr2 w3)
  have hz3 : w.heap.size + 1 < w3.heap.size := (Array.getElem?_eq_some_iff.1 BR.out).1
  refine wp_region_held_drew (S := fun W => W.cell? ⟨w.heap.size, 0, none⟩ = some (.slice xK xkey.length xcK) ∧ W.cell? ⟨w.heap.size, 1, none⟩ = some (.slice xV xval.length xcV) ∧ W.cell? ⟨w.heap.size, 2, none⟩ = some (.int .i64 xch) ∧ W.cell? ⟨w.heap.size, 3, none⟩ = some (.int .i64 xsz)) (by kernel_rfl) (SS.out _ D3.out) (fun hHeld => ?_)
  refine wpAnyH_take (i := 0) (v := ?vah0) rfl (by kernel_rfl) (by kernel_rfl) (by kernel_rfl) (fun _ _ _ h => h) (Or.inl ⟨by rfl, ?hyh0⟩) (by assumption) ?rah0
  case hyh0 => (intro wq hSw; (try dsimp only at hSw); obtain ⟨e0, e1, e2, e3⟩ := hSw; go_simp <;> with_reducible rfl)
  try simp only [Act.put, List.getElem_toArray, List.getElem_cons_zero, List.setIfInBounds_toArray, List.set_cons_zero, List.set_cons_succ]
  refine wpAnyH_take (i := 1) (v := ?vah1) rfl (by kernel_rfl) (by kernel_rfl) (by kernel_rfl) (fun _ _ _ h => h) (Or.inl ⟨by rfl, ?hyh1⟩) (by assumption) ?rah1
  case hyh1 => (intro wq hSw; (try dsimp only at hSw); obtain ⟨e0, e1, e2, e3⟩ := hSw; go_simp <;> with_reducible rfl)
  try simp only [Act.put, List.getElem_toArray, List.getElem_cons_zero, List.getElem_cons_succ, List.setIfInBounds_toArray, List.set_cons_zero, List.set_cons_succ]
  refine wpAnyH_take (i := 3) (v := ?vah3) rfl (by kernel_rfl) (by kernel_rfl) (by kernel_rfl) (fun _ _ _ h => h) (Or.inl ⟨by rfl, ?hyh3⟩) (by assumption) ?rah3
  case hyh3 => (intro wq hSw; (try dsimp only at hSw); obtain ⟨e0, e1, e2, e3⟩ := hSw; go_simp <;> with_reducible rfl)
  try simp only [Act.put, List.getElem_toArray, List.getElem_cons_zero, List.getElem_cons_succ, List.setIfInBounds_toArray, List.set_cons_zero, List.set_cons_succ]
  refine wpAnyH_take (i := 4) (v := ?vah4) rfl (by kernel_rfl) (by kernel_rfl) (by kernel_rfl) (fun _ _ _ h => h) (Or.inl ⟨by rfl, ?hyh4⟩) (by assumption) ?rah4
  case hyh4 => (intro wq hSw; (try dsimp only at hSw); obtain ⟨e0, e1, e2, e3⟩ := hSw; go_simp <;> with_reducible rfl)
  try simp only [Act.put, List.getElem_toArray, List.getElem_cons_zero, List.getElem_cons_succ, List.setIfInBounds_toArray, List.set_cons_zero, List.set_cons_succ]
  refine wpAnyH_take (i := 6) (v := ?vah6) rfl (by kernel_rfl) (by kernel_rfl) (by kernel_rfl) (fun _ _ _ h => h) (Or.inl ⟨by rfl, ?hyh6⟩) (by assumption) ?rah6
  case hyh6 => (intro wq hSw; (try dsimp only at hSw); obtain ⟨e0, e1, e2, e3⟩ := hSw; go_simp <;> with_reducible rfl)
  try simp only [Act.put, List.getElem_toArray, List.getElem_cons_zero, List.getElem_cons_succ, List.setIfInBounds_toArray, List.set_cons_zero, List.set_cons_succ]
  refine wpAnyH_take (i := 7) (v := ?vah7) rfl (by kernel_rfl) (by kernel_rfl) (by kernel_rfl) (fun _ _ _ h => h) (Or.inl ⟨by rfl, ?hyh7⟩) (by assumption) ?rah7
  case hyh7 => (intro wq hSw; (try dsimp only at hSw); obtain ⟨e0, e1, e2, e3⟩ := hSw; go_simp <;> with_reducible rfl)
  try simp only [Act.put, List.getElem_toArray, List.getElem_cons_zero, List.getElem_cons_succ, List.setIfInBounds_toArray, List.set_cons_zero, List.set_cons_succ]
  refine wpAnyH_take (i := 8) (v := ?vah8) rfl (by kernel_rfl) (by kernel_rfl) (by kernel_rfl) (fun _ _ _ h => h) (Or.inl ⟨by rfl, ?hyh8⟩) (by assumption) ?rah8
  case hyh8 => (intro wq hSw; (try dsimp only at hSw); obtain ⟨e0, e1, e2, e3⟩ := hSw; go_simp <;> with_reducible rfl)
  try simp only [Act.put, List.getElem_toArray, List.getElem_cons_zero, List.getElem_cons_succ, List.setIfInBounds_toArray, List.set_cons_zero, List.set_cons_succ]
  refine wpAnyH_take (i := 9) (v := ?vah9) rfl (by kernel_rfl) (by kernel_rfl) (by kernel_rfl) (fun _ _ _ h => h) (Or.inl ⟨by rfl, ?hyh9⟩) (by assumption) ?rah9
  case hyh9 => (intro wq hSw; (try dsimp only at hSw); obtain ⟨e0, e1, e2, e3⟩ := hSw; go_simp <;> with_reducible rfl)
  try simp only [Act.put, List.getElem_toArray, List.getElem_cons_zero, List.getElem_cons_succ, List.setIfInBounds_toArray, List.set_cons_zero, List.set_cons_succ]
  refine wpAnyH_ready (rs := [2]) (by kernel_rfl) (by simp) ?_
  refine AllReadyH.cons rfl (fun K hK => ?_) AllReadyH.nil
  go_simp
  refine (K1.out _ (bt B3.out D3.out)).mono ?_
  rintro _ w5 ⟨g1, rfl, s1, l1, -, b5⟩
  have S1' := hide s1
  have G1 : Hid (w3.heap.size ≤ g1) := l1
  have B5 := hide (bt D3.out b5)
  clear s1 l1 b5
  go_wp2_with fail
  refine hK.out _ _ (SS.out _ B5.out) (fun hHeld => ?_)
  clear hK K
  try simp only [Act.put, List.getElem_toArray, List.getElem_cons_zero, List.getElem_cons_succ, List.setIfInBounds_toArray, List.set_cons_zero, List.set_cons_succ]
  refine wpAnyH_ready (rs := [5]) (by kernel_rfl) (by simp) ?_
  refine AllReadyH.cons rfl (fun K hK => ?_) AllReadyH.nil
  go_simp
  refine (K2.out _ (bt B3.out B5.out)).mono ?_
  rintro _ w6 ⟨g2, rfl, s2, l2, -, b6⟩
  have S1 := hide (S1'.out.keep b6)
  have S2 := hide s2
  have G2 : Hid (w3.heap.size ≤ g2) := Nat.le_trans B5.out.size l2
  have B6 := hide (bt B5.out b6)
  have BR6 := hide (blk_keep BR.out B6.out)
  clear s2 l2 b6
  go_wp2_with fail
  refine hK.out _ _ (SS.out _ B6.out) (fun hHeld => ?_)
  clear hK K
  try simp only [Act.put, List.getElem_toArray, List.getElem_cons_zero, List.getElem_cons_succ, List.setIfInBounds_toArray, List.set_cons_zero, List.set_cons_succ]
  refine wpAnyH_take (i := 10) (v := ?vah10) rfl (by kernel_rfl) (by kernel_rfl) (by kernel_rfl) (fun _ _ _ h => h) (Or.inl ⟨by rfl, ?hyh10⟩) (by assumption) ?rah10
  case hyh10 => (intro wq hSw; (try dsimp only at hSw); obtain ⟨e0, e1, e2, e3⟩ := hSw; go_simp <;> with_reducible rfl)
  try simp only [Act.put, List.getElem_toArray, List.getElem_cons_zero, List.getElem_cons_succ, List.setIfInBounds_toArray, List.set_cons_zero, List.set_cons_succ]
  refine wpAnyH_ready (rs := [11]) (by kernel_rfl) (by simp) ?_
  refine AllReadyH.cons rfl (fun K hK => ?_) AllReadyH.nil
  rw [if_pos (by rfl)]
  refine wp_store_row 37 _ _ rfl (w.heap.size + 1) _ rfl rfl 37 _ BR6.out sizeItem rfl (by simp [Value.oneCell']) ?_
  refine hK.out _ _ (cells4 (row_far _ (blk_keep BP.out B6.out) (by omega))) (fun hHeld => ?_)
  clear hK K
  try simp only [Act.put, List.getElem_toArray, List.getElem_cons_zero, List.getElem_cons_succ, List.setIfInBounds_toArray, List.set_cons_zero, List.set_cons_succ]
  refine wpAnyH_done (by kernel_rfl) ?_ _
  clear hHeld
  go_wp2_with fail
  refine bodyPost_ret (v := .agg _) (results_cell_row Try.results18 _ _ (w.heap.size + 1) 37 _ (0, 0) _ rfl (setRow_heap _ _ _ _ _ _ BR6.out) Try.underlying37 rfl sizeItem) rfl ?_
  exact ⟨⟨some ⟨g1, 0, none⟩, xkey.length + 64, xkey, some ⟨g2, 0, none⟩, xval.length + 64, xval, xch, xsz⟩, rfl, ⟨rfl, S1.out.but (but_setRow _ _ _) (fun x hx e => by cases hx; have e : g1 = w.heap.size + 1 := e; have := G1.out; omega), S2.out.but (but_setRow _ _ _) (fun x hx e => by cases hx; have e : g2 = w.heap.size + 1 := e; have := G2.out; omega)⟩, below_row _ (bt B3.out B6.out) (by omega)⟩
set_option maxHeartbeats 4000000 in
set_option maxRecDepth 8000 in
theorem keptItem_any (w : World) (x y : Iv) (hX : Ii w x) (hS : Si w x y) : Calls Try.prog 26 #[y.vl, x.vl] w fun e w' => e = .returned (.bool true) ∧ Below w.heap.size w w' := by
  have EI := hide fun (W : World) (hb : Below w.heap.size w W) => EqItem_same W y x ((hS.keep hb).ii hX) (hX.keep hb) hS.e
  have KK := hide fun (W : World) (hb : Below w.heap.size w W) => kept_eq (W := W) (a := y.aK) (b := x.aK) (c := y.cK) (d := x.cK) (l := y.key) (k := x.key) (congrArg It.key hS.e) (hS.keep hb).k (hX.bk.keep hb)
  have KV := hide fun (W : World) (hb : Below w.heap.size w W) => kept_eq (W := W) (a := y.aV) (b := x.aV) (c := y.cV) (d := x.cV) (l := y.val) (k := x.val) (congrArg It.val hS.e) (hS.keep hb).v (hX.bv.keep hb)
  clear hX hS
  have U2 := hide (two_blocks w (.cells y.cs 37) (.cells x.cs 37) (Below.refl _ _))
  unfold Iv.vl at *
  simp only [Iv.cs] at *
  go_enter Try.func26, Try.ntmps26
  go_wp2_with fail
  refine (EI.out _ U2.out.2.2.1).mono ?_
  rintro _ w1 ⟨rfl, b1⟩
  have BP := hide (blk_keep U2.out.1 b1)
  have BQ := hide (blk_keep U2.out.2.1 b1)
  have B1 := hide (bt U2.out.2.2.1 b1)
  clear b1 U2
  obtain ⟨x0, x1, x2, x3⟩ := cells4 BP.out
  obtain ⟨y0, y1, y2, y3⟩ := cells4 BQ.out
  go_wp2_with fail
  refine (KK.out _ B1.out).mono ?_
  rintro _ w2 ⟨rfl, b2⟩
  replace BP := hide (blk_keep BP.out b2)
  replace BQ := hide (blk_keep BQ.out b2)
  have B2 := hide (bt B1.out b2)
  clear b2 x0 x1 x2 x3 y0 y1 y2 y3
  obtain ⟨x0, x1, x2, x3⟩ := cells4 BP.out
  obtain ⟨y0, y1, y2, y3⟩ := cells4 BQ.out
  go_wp2_with fail
  refine (KV.out _ B2.out).mono ?_
  rintro _ w3 ⟨rfl, b3⟩
  have B3 := hide (bt B2.out b3)
  clear b3 x0 x1 x2 x3 y0 y1 y2 y3
  go_wp2_with fail
  go_ret
  exact ⟨rfl, B3.out⟩
set_option maxHeartbeats 16000000 in
set_option maxRecDepth 16000 in
theorem nodePuts_any (w : World) (p : Pv) (hP : Pj w p) (i : Int) (hi : N64 i) (x : Iv) (hX : Ii w x) (hxs : x.key.length ≤ 140737488355264 ∧ x.val.length ≤ 140737488355264) :
    Calls Try.prog 4 #[p.vl, .int .i64 i, x.vl] w fun e w' => e = .returned (.bool true) ∧ Below w.heap.size w w' := by
  have PP := hide fun (W : World) (hb : Below w.heap.size w W) => hP.keep hb
  have XX := hide fun (W : World) (hb : Below w.heap.size w W) => hX.keep hb
  have XS := hide hxs
  have U2 := hide (two_blocks w (.cells p.cs 25) (.cells x.cs 37) (Below.refl _ _))
  have SPP := hide ((PP.out _ U2.out.2.2.1).spare)
  unfold Pv.vl at SPP ⊢
  unfold Iv.vl
  simp only [Pv.cs, Iv.cs] at SPP U2 ⊢
  clear hX hxs hP hi
  go_enter Try.func4, Try.ntmps4
  go_wp2_with fail
  refine SPP.out.mono ?_
  rintro _ w1 ⟨q, rfl, hS⟩
  have A1 := hide (al w1 (.cells #[.int .i64 q.kind, .int .i64 q.level, .slice q.aI q.items.length q.cI, .slice q.aD q.data.length q.cD, .int .i64 q.next] 25))
  have XQ := hide (heap_alloc_new w1 (.cells #[.int .i64 q.kind, .int .i64 q.level, .slice q.aI q.items.length q.cI, .slice q.aD q.data.length q.cD, .int .i64 q.next] 25))
  have XP := hide (blk_keep U2.out.1 (bt hS.b A1.out))
  have XI := hide (blk_keep U2.out.2.1 (bt hS.b A1.out))
  have B1 := hide (bt U2.out.2.2.1 (bt hS.b A1.out))
  have S1 := hide (hS.keep A1.out)
  clear hS SPP U2
  have SPI := hide (spareItem_any (w1.alloc (.cells #[.int .i64 q.kind, .int .i64 q.level, .slice q.aI q.items.length q.cI, .slice q.aD q.data.length q.cD, .int .i64 q.next] 25)) x (XX.out _ B1.out) XS.out)
  unfold Iv.vl at SPI
  simp only [Iv.cs] at SPI
  obtain ⟨i0, i1, i2, i3⟩ := cells4 XI.out
  go_wp2_with fail
  refine SPI.out.mono ?_
  rintro _ w2 ⟨y, rfl, hY, b2⟩
  have A2 := hide (al w2 (.cells #[.slice y.aK y.key.length y.cK, .slice y.aV y.val.length y.cV, .int .i64 y.child, .int .i64 y.size] 37))
  have XY := hide (heap_alloc_new w2 (.cells #[.slice y.aK y.key.length y.cK, .slice y.aV y.val.length y.cV, .int .i64 y.child, .int .i64 y.size] 37))
  replace XQ := hide (blk_keep XQ.out (bt b2 A2.out))
  replace XP := hide (blk_keep XP.out (bt b2 A2.out))
  replace XI := hide (blk_keep XI.out (bt b2 A2.out))
  have B2 := hide (bt B1.out (bt b2 A2.out))
  have S2 := hide (S1.out.keep (bt b2 A2.out))
  have Y2 := hide (hY.keep A2.out)
  have QJ := hide (S2.out.pj (PP.out _ B2.out))
  have YI := hide (Y2.out.ii (XX.out _ B2.out))
  have EQ := hide S2.out.e
  have EY := hide Y2.out.e
  have YS : Hid (y.key.length ≤ 140737488355264 ∧ y.val.length ≤ 140737488355264) := ⟨hY.k.n, hY.v.n⟩
  clear hY b2 SPI i0 i1 i2 i3 S1 B1 A1
  have GW : Hid True := trivial
  have BC := hide (Below.refl ((w2.alloc (.cells #[.slice y.aK y.key.length y.cK, .slice y.aV y.val.length y.cV, .int .i64 y.child, .int .i64 y.size] 37))).heap.size (w2.alloc (.cells #[.slice y.aK y.key.length y.cK, .slice y.aV y.val.length y.cV, .int .i64 y.child, .int .i64 y.size] 37)))
  have CT := hide (Insert_any (w2.alloc (.cells #[.slice y.aK y.key.length y.cK, .slice y.aV y.val.length y.cV, .int .i64 y.child, .int .i64 y.size] 37)) q i y ((QJ.out.keep BC.out).i) QJ.out.d QJ.out.s (YI.out.keep BC.out) YS.out)
  rw [EQ.out, EY.out] at CT
  unfold Pv.vl Iv.vl at CT
  simp only [Pv.cs, Iv.cs] at CT
  obtain ⟨p0, p1, p2, p3, p4⟩ := cells5 XQ.out
  obtain ⟨i0, i1, i2, i3⟩ := cells4 XY.out
  go_wp2_with fail
  refine CT.out.mono ?_
  rintro _ v3 ⟨a, rfl, hq, hg, hb⟩
  have AL := hide (al v3 (.cells #[.int .i64 a.kind, .int .i64 a.level, .slice a.aI a.items.length a.cI, .slice a.aD a.data.length a.cD, .int .i64 a.next] 25))
  have Xa := hide (heap_alloc_new v3 (.cells #[.int .i64 a.kind, .int .i64 a.level, .slice a.aI a.items.length a.cI, .slice a.aD a.data.length a.cD, .int .i64 a.next] 25))
  replace XP := hide (blk_keep XP.out (bt hb AL.out))
  replace XQ := hide (blk_keep XQ.out (bt hb AL.out))
  replace XI := hide (blk_keep XI.out (bt hb AL.out))
  replace XY := hide (blk_keep XY.out (bt hb AL.out))
  replace BC := hide (bt BC.out (bt hb AL.out))
  have Pa := hide ((hq.pi (put_len hg (by have := QJ.out.n; have := (PP.out _ B2.out).n; exact ins_len (by show (List.map _ _).length ≤ _; rw [List.length_map]; omega)))).keep AL.out)
  have Ga := hide hg
  clear hq hg hb CT p0 p1 p2 p3 p4 i0 i1 i2 i3 AL
  have CT := hide (Replace_any (v3.alloc (.cells #[.int .i64 a.kind, .int .i64 a.level, .slice a.aI a.items.length a.cI, .slice a.aD a.data.length a.cD, .int .i64 a.next] 25)) q i y ((QJ.out.keep BC.out).i) QJ.out.d QJ.out.s (YI.out.keep BC.out) YS.out)
  rw [EQ.out, EY.out] at CT
  unfold Pv.vl Iv.vl at CT
  simp only [Pv.cs, Iv.cs] at CT
  obtain ⟨p0, p1, p2, p3, p4⟩ := cells5 XQ.out
  obtain ⟨i0, i1, i2, i3⟩ := cells4 XY.out
  go_wp2_with fail
  refine CT.out.mono ?_
  rintro _ v4 ⟨b, rfl, hq, hg, hb⟩
  have AL := hide (al v4 (.cells #[.int .i64 b.kind, .int .i64 b.level, .slice b.aI b.items.length b.cI, .slice b.aD b.data.length b.cD, .int .i64 b.next] 25))
  have Xb := hide (heap_alloc_new v4 (.cells #[.int .i64 b.kind, .int .i64 b.level, .slice b.aI b.items.length b.cI, .slice b.aD b.data.length b.cD, .int .i64 b.next] 25))
  replace XP := hide (blk_keep XP.out (bt hb AL.out))
  replace XQ := hide (blk_keep XQ.out (bt hb AL.out))
  replace XI := hide (blk_keep XI.out (bt hb AL.out))
  replace XY := hide (blk_keep XY.out (bt hb AL.out))
  replace Xa := hide (blk_keep Xa.out (bt hb AL.out))
  replace Pa := hide (Pa.out.keep (bt hb AL.out))
  replace BC := hide (bt BC.out (bt hb AL.out))
  have Pb := hide ((hq.pi (put_len hg (by have := QJ.out.n; have := (PP.out _ B2.out).n; exact rep_len (by show (List.map _ _).length ≤ _; rw [List.length_map]; omega)))).keep AL.out)
  have Gb := hide hg
  clear hq hg hb CT p0 p1 p2 p3 p4 i0 i1 i2 i3 AL
  have CT := hide (Remove_any (v4.alloc (.cells #[.int .i64 b.kind, .int .i64 b.level, .slice b.aI b.items.length b.cI, .slice b.aD b.data.length b.cD, .int .i64 b.next] 25)) q i ((QJ.out.keep BC.out).i) QJ.out.d QJ.out.s)
  rw [EQ.out] at CT
  unfold Pv.vl at CT
  simp only [Pv.cs] at CT
  obtain ⟨p0, p1, p2, p3, p4⟩ := cells5 XQ.out
  go_wp2_with fail
  refine CT.out.mono ?_
  rintro _ v5 ⟨c, rfl, hq, hg, hb⟩
  have AL := hide (al v5 (.cells #[.int .i64 c.kind, .int .i64 c.level, .slice c.aI c.items.length c.cI, .slice c.aD c.data.length c.cD, .int .i64 c.next] 25))
  have Xc := hide (heap_alloc_new v5 (.cells #[.int .i64 c.kind, .int .i64 c.level, .slice c.aI c.items.length c.cI, .slice c.aD c.data.length c.cD, .int .i64 c.next] 25))
  replace XP := hide (blk_keep XP.out (bt hb AL.out))
  replace XQ := hide (blk_keep XQ.out (bt hb AL.out))
  replace XI := hide (blk_keep XI.out (bt hb AL.out))
  replace XY := hide (blk_keep XY.out (bt hb AL.out))
  replace Xa := hide (blk_keep Xa.out (bt hb AL.out))
  replace Xb := hide (blk_keep Xb.out (bt hb AL.out))
  replace Pa := hide (Pa.out.keep (bt hb AL.out))
  replace Pb := hide (Pb.out.keep (bt hb AL.out))
  replace BC := hide (bt BC.out (bt hb AL.out))
  have Pc := hide ((hq.pi (put_len hg (by have := QJ.out.n; have := (PP.out _ B2.out).n; exact rem_len (by show (List.map _ _).length ≤ _; rw [List.length_map]; omega)))).keep AL.out)
  have Gc := hide hg
  clear hq hg hb CT p0 p1 p2 p3 p4 AL
  have CT := hide (rInsert_any (v5.alloc (.cells #[.int .i64 c.kind, .int .i64 c.level, .slice c.aI c.items.length c.cI, .slice c.aD c.data.length c.cD, .int .i64 c.next] 25)) p i x (PP.out _ (bt B2.out BC.out)) (XX.out _ (bt B2.out BC.out)) XS.out)
  unfold Pv.vl Iv.vl at CT
  simp only [Pv.cs, Iv.cs] at CT
  obtain ⟨p0, p1, p2, p3, p4⟩ := cells5 XP.out
  obtain ⟨i0, i1, i2, i3⟩ := cells4 XI.out
  go_wp2_with fail
  refine CT.out.mono ?_
  rintro _ v6 ⟨d, rfl, hq, hg, hb⟩
  have AL := hide (al v6 (.cells #[.int .i64 d.kind, .int .i64 d.level, .slice d.aI d.items.length d.cI, .slice d.aD d.data.length d.cD, .int .i64 d.next] 25))
  have Xd := hide (heap_alloc_new v6 (.cells #[.int .i64 d.kind, .int .i64 d.level, .slice d.aI d.items.length d.cI, .slice d.aD d.data.length d.cD, .int .i64 d.next] 25))
  replace XP := hide (blk_keep XP.out (bt hb AL.out))
  replace XQ := hide (blk_keep XQ.out (bt hb AL.out))
  replace XI := hide (blk_keep XI.out (bt hb AL.out))
  replace XY := hide (blk_keep XY.out (bt hb AL.out))
  replace Xa := hide (blk_keep Xa.out (bt hb AL.out))
  replace Xb := hide (blk_keep Xb.out (bt hb AL.out))
  replace Xc := hide (blk_keep Xc.out (bt hb AL.out))
  replace Pa := hide (Pa.out.keep (bt hb AL.out))
  replace Pb := hide (Pb.out.keep (bt hb AL.out))
  replace Pc := hide (Pc.out.keep (bt hb AL.out))
  replace BC := hide (bt BC.out (bt hb AL.out))
  have Pd := hide ((hq.pi (put_len hg (by have := QJ.out.n; have := (PP.out _ B2.out).n; exact ins_len (by show (List.map _ _).length ≤ _; rw [List.length_map]; omega)))).keep AL.out)
  have Gd := hide hg
  clear hq hg hb CT p0 p1 p2 p3 p4 i0 i1 i2 i3 AL
  have CT := hide (rReplace_any (v6.alloc (.cells #[.int .i64 d.kind, .int .i64 d.level, .slice d.aI d.items.length d.cI, .slice d.aD d.data.length d.cD, .int .i64 d.next] 25)) p i x (PP.out _ (bt B2.out BC.out)) (XX.out _ (bt B2.out BC.out)) XS.out)
  unfold Pv.vl Iv.vl at CT
  simp only [Pv.cs, Iv.cs] at CT
  obtain ⟨p0, p1, p2, p3, p4⟩ := cells5 XP.out
  obtain ⟨i0, i1, i2, i3⟩ := cells4 XI.out
  go_wp2_with fail
  refine CT.out.mono ?_
  rintro _ v7 ⟨e, rfl, hq, hg, hb⟩
  have AL := hide (al v7 (.cells #[.int .i64 e.kind, .int .i64 e.level, .slice e.aI e.items.length e.cI, .slice e.aD e.data.length e.cD, .int .i64 e.next] 25))
  have Xe := hide (heap_alloc_new v7 (.cells #[.int .i64 e.kind, .int .i64 e.level, .slice e.aI e.items.length e.cI, .slice e.aD e.data.length e.cD, .int .i64 e.next] 25))
  replace XP := hide (blk_keep XP.out (bt hb AL.out))
  replace XQ := hide (blk_keep XQ.out (bt hb AL.out))
  replace XI := hide (blk_keep XI.out (bt hb AL.out))
  replace XY := hide (blk_keep XY.out (bt hb AL.out))
  replace Xa := hide (blk_keep Xa.out (bt hb AL.out))
  replace Xb := hide (blk_keep Xb.out (bt hb AL.out))
  replace Xc := hide (blk_keep Xc.out (bt hb AL.out))
  replace Xd := hide (blk_keep Xd.out (bt hb AL.out))
  replace Pa := hide (Pa.out.keep (bt hb AL.out))
  replace Pb := hide (Pb.out.keep (bt hb AL.out))
  replace Pc := hide (Pc.out.keep (bt hb AL.out))
  replace Pd := hide (Pd.out.keep (bt hb AL.out))
  replace BC := hide (bt BC.out (bt hb AL.out))
  have Pe := hide (hq.keep AL.out)
  have Ge := hide hg
  clear hq hg hb CT p0 p1 p2 p3 p4 i0 i1 i2 i3 AL
  have CT := hide (rRemove_any (v7.alloc (.cells #[.int .i64 e.kind, .int .i64 e.level, .slice e.aI e.items.length e.cI, .slice e.aD e.data.length e.cD, .int .i64 e.next] 25)) p i (PP.out _ (bt B2.out BC.out)))
  unfold Pv.vl at CT
  simp only [Pv.cs] at CT
  obtain ⟨p0, p1, p2, p3, p4⟩ := cells5 XP.out
  go_wp2_with fail
  refine CT.out.mono ?_
  rintro _ v8 ⟨f, rfl, hq, hg, hb⟩
  have AL := hide (al v8 (.cells #[.int .i64 f.kind, .int .i64 f.level, .slice f.aI f.items.length f.cI, .slice f.aD f.data.length f.cD, .int .i64 f.next] 25))
  have Xf := hide (heap_alloc_new v8 (.cells #[.int .i64 f.kind, .int .i64 f.level, .slice f.aI f.items.length f.cI, .slice f.aD f.data.length f.cD, .int .i64 f.next] 25))
  replace XP := hide (blk_keep XP.out (bt hb AL.out))
  replace XQ := hide (blk_keep XQ.out (bt hb AL.out))
  replace XI := hide (blk_keep XI.out (bt hb AL.out))
  replace XY := hide (blk_keep XY.out (bt hb AL.out))
  replace Xa := hide (blk_keep Xa.out (bt hb AL.out))
  replace Xb := hide (blk_keep Xb.out (bt hb AL.out))
  replace Xc := hide (blk_keep Xc.out (bt hb AL.out))
  replace Xd := hide (blk_keep Xd.out (bt hb AL.out))
  replace Xe := hide (blk_keep Xe.out (bt hb AL.out))
  replace Pa := hide (Pa.out.keep (bt hb AL.out))
  replace Pb := hide (Pb.out.keep (bt hb AL.out))
  replace Pc := hide (Pc.out.keep (bt hb AL.out))
  replace Pd := hide (Pd.out.keep (bt hb AL.out))
  replace Pe := hide (Pe.out.keep (bt hb AL.out))
  replace BC := hide (bt BC.out (bt hb AL.out))
  have Pf := hide ((hq.pi (put_len hg (by have := QJ.out.n; have := (PP.out _ B2.out).n; exact rem_len (by show (List.map _ _).length ≤ _; rw [List.length_map]; omega)))).keep AL.out)
  have Gf := hide hg
  clear hq hg hb CT p0 p1 p2 p3 p4 AL
  have CT := hide (EqPage_same (v8.alloc (.cells #[.int .i64 f.kind, .int .i64 f.level, .slice f.aI f.items.length f.cI, .slice f.aD f.data.length f.cD, .int .i64 f.next] 25)) a d Pa.out Pd.out (by rw [Ga.out, Gd.out]))
  unfold Pv.vl at CT
  simp only [Pv.cs] at CT
  obtain ⟨p0, p1, p2, p3, p4⟩ := cells5 Xa.out
  obtain ⟨s0, s1, s2, s3, s4⟩ := cells5 Xd.out
  go_wp2_with fail
  refine CT.out.mono ?_
  rintro _ u0 ⟨rfl, hb⟩
  replace XP := hide (blk_keep XP.out hb)
  replace XQ := hide (blk_keep XQ.out hb)
  replace XI := hide (blk_keep XI.out hb)
  replace XY := hide (blk_keep XY.out hb)
  replace Xa := hide (blk_keep Xa.out hb)
  replace Xb := hide (blk_keep Xb.out hb)
  replace Xc := hide (blk_keep Xc.out hb)
  replace Xd := hide (blk_keep Xd.out hb)
  replace Xe := hide (blk_keep Xe.out hb)
  replace Xf := hide (blk_keep Xf.out hb)
  replace Pa := hide (Pa.out.keep hb)
  replace Pb := hide (Pb.out.keep hb)
  replace Pc := hide (Pc.out.keep hb)
  replace Pd := hide (Pd.out.keep hb)
  replace Pe := hide (Pe.out.keep hb)
  replace Pf := hide (Pf.out.keep hb)
  replace BC := hide (bt BC.out hb)
  clear hb CT p0 p1 p2 p3 p4 s0 s1 s2 s3 s4
  have CT := hide (EqPage_same u0 b e Pb.out Pe.out (by rw [Gb.out, Ge.out]))
  unfold Pv.vl at CT
  simp only [Pv.cs] at CT
  obtain ⟨p0, p1, p2, p3, p4⟩ := cells5 Xb.out
  obtain ⟨s0, s1, s2, s3, s4⟩ := cells5 Xe.out
  go_wp2_with fail
  refine CT.out.mono ?_
  rintro _ u1 ⟨rfl, hb⟩
  replace XP := hide (blk_keep XP.out hb)
  replace XQ := hide (blk_keep XQ.out hb)
  replace XI := hide (blk_keep XI.out hb)
  replace XY := hide (blk_keep XY.out hb)
  replace Xa := hide (blk_keep Xa.out hb)
  replace Xb := hide (blk_keep Xb.out hb)
  replace Xc := hide (blk_keep Xc.out hb)
  replace Xd := hide (blk_keep Xd.out hb)
  replace Xe := hide (blk_keep Xe.out hb)
  replace Xf := hide (blk_keep Xf.out hb)
  replace Pa := hide (Pa.out.keep hb)
  replace Pb := hide (Pb.out.keep hb)
  replace Pc := hide (Pc.out.keep hb)
  replace Pd := hide (Pd.out.keep hb)
  replace Pe := hide (Pe.out.keep hb)
  replace Pf := hide (Pf.out.keep hb)
  replace BC := hide (bt BC.out hb)
  clear hb CT p0 p1 p2 p3 p4 s0 s1 s2 s3 s4
  have CT := hide (EqPage_same u1 c f Pc.out Pf.out (by rw [Gc.out, Gf.out]))
  unfold Pv.vl at CT
  simp only [Pv.cs] at CT
  obtain ⟨p0, p1, p2, p3, p4⟩ := cells5 Xc.out
  obtain ⟨s0, s1, s2, s3, s4⟩ := cells5 Xf.out
  go_wp2_with fail
  refine CT.out.mono ?_
  rintro _ u2 ⟨rfl, hb⟩
  replace XP := hide (blk_keep XP.out hb)
  replace XQ := hide (blk_keep XQ.out hb)
  replace XI := hide (blk_keep XI.out hb)
  replace XY := hide (blk_keep XY.out hb)
  replace Xa := hide (blk_keep Xa.out hb)
  replace Xb := hide (blk_keep Xb.out hb)
  replace Xc := hide (blk_keep Xc.out hb)
  replace Xd := hide (blk_keep Xd.out hb)
  replace Xe := hide (blk_keep Xe.out hb)
  replace Xf := hide (blk_keep Xf.out hb)
  replace Pa := hide (Pa.out.keep hb)
  replace Pb := hide (Pb.out.keep hb)
  replace Pc := hide (Pc.out.keep hb)
  replace Pd := hide (Pd.out.keep hb)
  replace Pe := hide (Pe.out.keep hb)
  replace Pf := hide (Pf.out.keep hb)
  replace BC := hide (bt BC.out hb)
  clear hb CT p0 p1 p2 p3 p4 s0 s1 s2 s3 s4
  have CT := hide (KeptPage_any u2 _ p q ((PP.out _ (bt B2.out BC.out)).i) (S2.out.keep BC.out) (by have := (PP.out _ B2.out).n; omega))
  unfold Pv.vl at CT
  simp only [Pv.cs] at CT
  obtain ⟨p0, p1, p2, p3, p4⟩ := cells5 XP.out
  obtain ⟨s0, s1, s2, s3, s4⟩ := cells5 XQ.out
  go_wp2_with fail
  refine CT.out.mono ?_
  rintro _ u3 ⟨rfl, hb⟩
  replace XP := hide (blk_keep XP.out hb)
  replace XQ := hide (blk_keep XQ.out hb)
  replace XI := hide (blk_keep XI.out hb)
  replace XY := hide (blk_keep XY.out hb)
  replace Xa := hide (blk_keep Xa.out hb)
  replace Xb := hide (blk_keep Xb.out hb)
  replace Xc := hide (blk_keep Xc.out hb)
  replace Xd := hide (blk_keep Xd.out hb)
  replace Xe := hide (blk_keep Xe.out hb)
  replace Xf := hide (blk_keep Xf.out hb)
  replace Pa := hide (Pa.out.keep hb)
  replace Pb := hide (Pb.out.keep hb)
  replace Pc := hide (Pc.out.keep hb)
  replace Pd := hide (Pd.out.keep hb)
  replace Pe := hide (Pe.out.keep hb)
  replace Pf := hide (Pf.out.keep hb)
  replace BC := hide (bt BC.out hb)
  clear hb CT p0 p1 p2 p3 p4 s0 s1 s2 s3 s4
  have CT := hide (keptItem_any u3 x y (XX.out _ (bt B2.out BC.out)) (Y2.out.keep BC.out))
  unfold Iv.vl at CT
  simp only [Iv.cs] at CT
  obtain ⟨p0, p1, p2, p3⟩ := cells4 XI.out
  obtain ⟨s0, s1, s2, s3⟩ := cells4 XY.out
  go_wp2_with fail
  refine CT.out.mono ?_
  rintro _ u4 ⟨rfl, hb⟩
  replace BC := hide (bt BC.out hb)
  clear hb CT p0 p1 p2 p3 s0 s1 s2 s3
  go_wp2_with fail
  refine (works_any u4).mono ?_
  rintro _ u5 ⟨rfl, hb⟩
  have BF := hide (bt B2.out (bt BC.out hb))
  clear hb
  go_wp2_with fail
  go_ret
  exact ⟨rfl, BF.out⟩
end Go.Proofs.Ytljafmkehfnldaa
