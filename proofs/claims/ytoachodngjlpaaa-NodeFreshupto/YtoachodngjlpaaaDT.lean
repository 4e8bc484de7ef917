import Derived.Test.YtoachodngjlpaaaDS
import Derived.Lib.SlBytesConst
namespace Go.Proofs.Ytoachodngjlpaaa
set_option linter.unusedVariables false
set_option linter.unusedSimpArgs false
open Go.RowKit
theorem Pn.piL {v w : World} {P : Pv} (h : Pn v w P) {L : Pg} (e : P.pg = L) (hl : L.items.length ≤ 8) : Pi w P := h.pi (by
  have := congrArg (fun p : Pg => p.items.length) e
  simp only [Pv.pg, List.length_map] at this
  omega)
theorem Pn.lenL {P : Pv} {L : Pg} (e : P.pg = L) : P.items.length = L.items.length := by
  have := congrArg (fun p : Pg => p.items.length) e
  simpa [Pv.pg] using this
theorem Pn.smlL {P : Pv} {L : Pg} (e : P.pg = L) (h : ∀ x ∈ L.items, x.key.length ≤ 8 ∧ x.val.length ≤ 8) : Sml P.items := fun r hr => by
  have hm : r.it ∈ L.items := by rw [← e]; exact List.mem_map_of_mem hr
  have := h _ hm
  exact ⟨Nat.le_trans this.1 (by decide), Nat.le_trans this.2 (by decide)⟩
theorem Pn.datL {P : Pv} {L : Pg} (e : P.pg = L) (h : L.data.length ≤ 8) : P.data.length ≤ 140737488355264 := by
  have : P.data = L.data := congrArg Pg.data e
  rw [this]; exact Nat.le_trans h (by decide)
/-- the letters that works reads -/
def lA : ByteArray := { data := #[97, 99, 101] }
def lG : ByteArray := { data := #[45, 103, 112] }
def lH : ByteArray := { data := #[97, 98, 99, 100, 101, 102, 103, 104] }
def lD : ByteArray := { data := #[97, 98, 99, 100] }
def lE : ByteArray := { data := #[101, 102, 103, 104] }
theorem w_srch : srch [100] (letP 1 0 lA).items = 2 ∧ hasK [100] (letP 1 0 lA).items = false := by decide +kernel
theorem w_rout : rout [103] (letP 2 1 lG).items = 1 := by decide +kernel
theorem w_rem : (Pg.rem (letP 1 0 lA) 1).2 = true ∧ (Pg.rem (letP 1 0 lA) 1).1.items.length = 2 := by decide +kernel
theorem w_spl : spl (letP 1 0 lH) = ⟨letP 1 0 lD, letP 1 0 lE, [101], true⟩ := by kernel_rfl
theorem w_joi : joi (letP 1 0 lD) (letP 1 0 lE) [101] = (letP 1 0 lH, true) := by kernel_rfl
theorem w_sml : ∀ s ∈ [lA, lH, lD, lE], ∀ x ∈ (letP 1 0 s).items, x.key.length ≤ 8 ∧ x.val.length ≤ 8 := by decide +kernel
theorem bs_lit {W : World} {g : Nat} {c : Nat} {fr : Nat × Nat} (h : W.heap[g]? = some (.cells #[.int .u8 (c : Int)] 5 fr)) (hc : c < 256) : Bs W (some ⟨g, 0, none⟩) [c] := by
  refine ⟨fun x hx => by rw [List.mem_singleton.1 hx]; exact hc, by simp, .inr ⟨g, 0, rfl, fun i hi => ?_⟩⟩
  obtain rfl : i = 0 := by simpa using hi
  rw [cell_of_row _ _ _ _ _ _ h]
  rfl
set_option maxHeartbeats 16000000 in
set_option maxRecDepth 16000 in
theorem works_any (w : World) : Calls Try.prog 19 #[] w fun e w' => e = .returned (.bool true) ∧ Below w.heap.size w w' := by
  have LE := hide fun (W : World) (s : ByteArray) (hs : s.size ≤ 8) => lettered_leaf W 0 s hs (by simp [N64])
  have LG := hide fun (W : World) => lettered_index W 1 lG (by decide +kernel) (by simp [N64])
  have LA := hide fun (W : World) => LE.out W lA (by decide +kernel)
  have LH := hide fun (W : World) => LE.out W lH (by decide +kernel)
  have LD := hide fun (W : World) => LE.out W lD (by decide +kernel)
  have LEE := hide fun (W : World) => LE.out W lE (by decide +kernel)
  clear LE
  unfold Pv.vl at LA LG LH LD LEE
  simp only [Pv.cs] at LA LG LH LD LEE
  have hcv : ∀ (W : World) (C : Array Value) (n c g : Nat), W.heap.size = g → (convert 23 23 (.slice (some ⟨g, 0, none⟩) n c)).run Try.prog (W.alloc (.cells C 5)) = .ok (.slice (some ⟨g, 0, none⟩) n c) (W.alloc (.cells C 5 (C.size, C.size + 1))) := by
    intro W C n c g hg
    subst hg
    exact Lib.run_convert_bytes_const W 23 5 C n c Try.underlying23 Try.underlying5
  go_enter Try.func19, Try.ntmps19
  go_wp2_with fail
  refine (LA.out _).mono ?_
  rintro _ w1 ⟨q0, rfl, p0, g0, b1⟩
  have P0 := hide p0
  have G0 := hide g0
  have B1 := hide b1
  clear p0 g0 b1
  have U1 := hide (two_blocks w1 (.cells #[.int .i64 q0.kind, .int .i64 q0.level, .slice q0.aI q0.items.length q0.cI, .slice q0.aD q0.data.length q0.cD, .int .i64 q0.next] 25) (.cells #[.int .u8 100] 5 (1, 2)) (Below.refl _ _))
  have PI0 := hide (P0.out.piL G0.out (by decide +kernel))
  have SE := hide (Search_any ((w1.alloc (.cells #[.int .i64 q0.kind, .int .i64 q0.level, .slice q0.aI q0.items.length q0.cI, .slice q0.aD q0.data.length q0.cD, .int .i64 q0.next] 25)).alloc (.cells #[.int .u8 100] 5 (1, 2))) q0 (some ⟨w1.heap.size + 1, 0, none⟩) 1 [100] (PI0.out.keep U1.out.2.2.1) (bs_lit (c := 100) U1.out.2.1 (by decide)))
  rw [G0.out, w_srch.1, w_srch.2] at SE
  unfold Pv.vl at SE
  simp only [Pv.cs, List.length_cons, List.length_nil, Nat.zero_add] at SE
  clear P0
  go_wp2_with fail
  refine SE.out.mono ?_
  rintro _ w2 ⟨rfl, b2⟩
  have B2 := hide (bt U1.out.2.2.1 b2)
  have X2 := hide (blk_keep U1.out.1 b2)
  clear b2 SE U1 LA
  go_wp2_with fail
  refine (LG.out _).mono ?_
  rintro _ w3 ⟨qg, rfl, pg, gg, b3⟩
  have RO := hide (Route_any (w3.alloc (.cells #[.int .u8 103] 5 (1, 2))) qg (some ⟨w3.heap.size, 0, none⟩) 1 [103] ((pg.piL gg (by decide +kernel)).keep (al _ _)) (bs_lit (c := 103) (heap_alloc_new _ _) (by decide)))
  rw [gg, w_rout] at RO
  unfold Pv.vl at RO
  simp only [Pv.cs, List.length_cons, List.length_nil, Nat.zero_add] at RO
  have B3 := hide (bt B2.out (bt b3 (al w3 (.cells #[.int .u8 103] 5 (1, 2)))))
  have X3 := hide (blk_keep X2.out (bt b3 (al w3 (.cells #[.int .u8 103] 5 (1, 2)))))
  clear pg gg b3 B2 X2 LG
  go_wp2_with fail
  refine RO.out.mono ?_
  rintro _ w4 ⟨rfl, b4⟩
  have B4 := hide (bt B3.out b4)
  have X4 := hide (blk_keep X3.out b4)
  clear b4 RO B3 X3
  obtain ⟨x0, x1, x2, x3, x4⟩ := cells5 X4.out
  have RM := hide (Remove_any w4 q0 1 (PI0.out.keep B4.out) (Pn.datL G0.out (by decide +kernel)) (Pn.smlL G0.out (w_sml lA (by simp))))
  rw [G0.out, w_rem.1] at RM
  unfold Pv.vl at RM
  simp only [Pv.cs] at RM
  go_wp2_with fail
  refine RM.out.mono ?_
  rintro _ w5 ⟨qr, rfl, pr, gr, b5⟩
  have LR : Hid (qr.items.length = 2) := (Pn.lenL gr).trans w_rem.2
  have B5 := hide (bt (bt B1.out (bt B4.out b5)) (al w5 (.cells #[.int .i64 qr.kind, .int .i64 qr.level, .slice qr.aI qr.items.length qr.cI, .slice qr.aD qr.data.length qr.cD, .int .i64 qr.next] 25)))
  have X5 := hide (heap_alloc_new w5 (.cells #[.int .i64 qr.kind, .int .i64 qr.level, .slice qr.aI qr.items.length qr.cI, .slice qr.aD qr.data.length qr.cD, .int .i64 qr.next] 25))
  clear x0 x1 x2 x3 x4 RM pr gr b5 X4 B4 B1 G0 PI0 hcv
  go_wp2_with fail
  refine (LH.out _).mono ?_
  rintro _ w6 ⟨qh, rfl, ph, gh, b6⟩
  have SP := hide (Split_any w6 qh (ph.piL gh (by decide +kernel)) (Pn.datL gh (by decide +kernel)) (Pn.smlL gh (w_sml lH (by simp))))
  rw [gh, w_spl] at SP
  unfold Pv.vl at SP
  simp only [Pv.cs, List.length_cons, List.length_nil, Nat.zero_add] at SP
  have B6 := hide (bt B5.out b6)
  have X6 := hide (blk_keep X5.out b6)
  clear ph gh b6 B5 X5
  go_wp2_with fail
  refine SP.out.mono ?_
  rintro _ w7 ⟨p1, p2, aS, cS, rfl, hH, e1, e2⟩
  have U7 := hide (two_blocks w7 (.cells #[.int .i64 p1.kind, .int .i64 p1.level, .slice p1.aI p1.items.length p1.cI, .slice p1.aD p1.data.length p1.cD, .int .i64 p1.next] 25) (.cells #[.int .i64 p2.kind, .int .i64 p2.level, .slice p2.aI p2.items.length p2.cI, .slice p2.aD p2.data.length p2.cD, .int .i64 p2.next] 25) (Below.refl _ _))
  have H7 := hide (hH.keep U7.out.2.2.1)
  have B7 := hide (bt B6.out (bt hH.b U7.out.2.2.1))
  have X7 := hide (blk_keep X6.out (bt hH.b U7.out.2.2.1))
  have E1 := hide e1
  have E2 := hide e2
  clear hH e1 e2 SP B6 X6
  have hcv : ∀ (W : World) (C : Array Value) (n c g : Nat), W.heap.size = g → (convert 23 23 (.slice (some ⟨g, 0, none⟩) n c)).run Try.prog (W.alloc (.cells C 5)) = .ok (.slice (some ⟨g, 0, none⟩) n c) (W.alloc (.cells C 5 (C.size, C.size + 1))) := by
    intro W C n c g hg
    subst hg
    exact Lib.run_convert_bytes_const W 23 5 C n c Try.underlying23 Try.underlying5
  go_wp2_with fail
  have BP1 := hide U7.out.1
  have BP2 := hide U7.out.2.1
  clear U7
  generalize ((w7.alloc (.cells #[.int .i64 p1.kind, .int .i64 p1.level, .slice p1.aI p1.items.length p1.cI, .slice p1.aD p1.data.length p1.cD, .int .i64 p1.next] 25)).alloc (.cells #[.int .i64 p2.kind, .int .i64 p2.level, .slice p2.aI p2.items.length p2.cI, .slice p2.aD p2.data.length p2.cD, .int .i64 p2.next] 25)) = w8 at *
  have SS := hide fun (W : World) (hb : Below w8.heap.size w8 W) => And.intro (cells5 (blk_keep BP1.out hb)) (cells5 (blk_keep BP2.out hb))
  have PD := hide fun (W : World) (hb : Below w8.heap.size w8 W) => (H7.out.p1.piL E1.out (by decide +kernel)).keep hb
  have PE := hide fun (W : World) (hb : Below w8.heap.size w8 W) => (H7.out.p2.piL E2.out (by decide +kernel)).keep hb
  have EQ := hide fun (W : World) (p q : Pv) (hp : Pi W p) (hq : Pi W q) (he : p.pg = q.pg) => EqPage_same W p q hp hq he
  unfold Pv.vl at EQ
  simp only [Pv.cs] at EQ
  have D8 := hide (dr2 w8)
  refine wp_region_held_drew (S := fun W => (W.cell? ⟨w7.heap.size, 0, none⟩ = some (.int .i64 p1.kind) ∧ W.cell? ⟨w7.heap.size, 1, none⟩ = some (.int .i64 p1.level) ∧ W.cell? ⟨w7.heap.size, 2, none⟩ = some (.slice p1.aI p1.items.length p1.cI) ∧ W.cell? ⟨w7.heap.size, 3, none⟩ = some (.slice p1.aD p1.data.length p1.cD) ∧ W.cell? ⟨w7.heap.size, 4, none⟩ = some (.int .i64 p1.next)) ∧ (W.cell? ⟨w7.heap.size + 1, 0, none⟩ = some (.int .i64 p2.kind) ∧ W.cell? ⟨w7.heap.size + 1, 1, none⟩ = some (.int .i64 p2.level) ∧ W.cell? ⟨w7.heap.size + 1, 2, none⟩ = some (.slice p2.aI p2.items.length p2.cI) ∧ W.cell? ⟨w7.heap.size + 1, 3, none⟩ = some (.slice p2.aD p2.data.length p2.cD) ∧ W.cell? ⟨w7.heap.size + 1, 4, none⟩ = some (.int .i64 p2.next))) (by kernel_rfl) (SS.out _ D8.out) (fun hHeld => ?_)
  refine wpAnyH_take (i := 0) (v := ?vah0) rfl (by kernel_rfl) (by kernel_rfl) (by kernel_rfl) (fun _ _ _ h => h) (Or.inl ⟨by rfl, ?hyh0⟩) (by assumption) ?rah0
  case hyh0 => (intro wq hSw; (try dsimp only at hSw); obtain ⟨⟨e0, e1, e2, e3, e4⟩, f0, f1, f2, f3, f4⟩ := hSw; go_simp <;> with_reducible rfl)
  try simp only [Act.put, List.getElem_toArray, List.getElem_cons_zero, List.setIfInBounds_toArray, List.set_cons_zero, List.set_cons_succ]
  refine wpAnyH_take (i := 1) (v := ?vah1) rfl (by kernel_rfl) (by kernel_rfl) (by kernel_rfl) (fun _ _ _ h => h) (Or.inl ⟨by rfl, ?hyh1⟩) (by assumption) ?rah1
  case hyh1 => (intro wq hSw; (try dsimp only at hSw); obtain ⟨⟨e0, e1, e2, e3, e4⟩, f0, f1, f2, f3, f4⟩ := hSw; go_simp <;> with_reducible rfl)
  try simp only [Act.put, List.getElem_toArray, List.getElem_cons_zero, List.getElem_cons_succ, List.setIfInBounds_toArray, List.set_cons_zero, List.set_cons_succ]
  refine wpAnyH_take (i := 2) (v := ?vah2) rfl (by kernel_rfl) (by kernel_rfl) (by kernel_rfl) (fun _ _ _ h => h) (Or.inl ⟨by rfl, ?hyh2⟩) (by assumption) ?rah2
  case hyh2 => (intro wq hSw; (try dsimp only at hSw); obtain ⟨⟨e0, e1, e2, e3, e4⟩, f0, f1, f2, f3, f4⟩ := hSw; go_simp <;> with_reducible rfl)
  try simp only [Act.put, List.getElem_toArray, List.getElem_cons_zero, List.getElem_cons_succ, List.setIfInBounds_toArray, List.set_cons_zero, List.set_cons_succ]
  refine wpAnyH_take (i := 3) (v := ?vah3) rfl (by kernel_rfl) (by kernel_rfl) (by kernel_rfl) (fun _ _ _ h => h) (Or.inl ⟨by rfl, ?hyh3⟩) (by assumption) ?rah3
  case hyh3 => (intro wq hSw; (try dsimp only at hSw); obtain ⟨⟨e0, e1, e2, e3, e4⟩, f0, f1, f2, f3, f4⟩ := hSw; go_simp <;> with_reducible rfl)
  try simp only [Act.put, List.getElem_toArray, List.getElem_cons_zero, List.getElem_cons_succ, List.setIfInBounds_toArray, List.set_cons_zero, List.set_cons_succ]
  refine wpAnyH_take (i := 4) (v := ?vah4) rfl (by kernel_rfl) (by kernel_rfl) (by kernel_rfl) (fun _ _ _ h => h) (Or.inl ⟨by rfl, ?hyh4⟩) (by assumption) ?rah4
  case hyh4 => (intro wq hSw; (try dsimp only at hSw); obtain ⟨⟨e0, e1, e2, e3, e4⟩, f0, f1, f2, f3, f4⟩ := hSw; go_simp <;> with_reducible rfl)
  try simp only [Act.put, List.getElem_toArray, List.getElem_cons_zero, List.getElem_cons_succ, List.setIfInBounds_toArray, List.set_cons_zero, List.set_cons_succ]
  refine wpAnyH_take (i := 5) (v := ?vah5) rfl (by kernel_rfl) (by kernel_rfl) (by kernel_rfl) (fun _ _ _ h => h) (Or.inl ⟨by rfl, ?hyh5⟩) (by assumption) ?rah5
  case hyh5 => (intro wq hSw; (try dsimp only at hSw); obtain ⟨⟨e0, e1, e2, e3, e4⟩, f0, f1, f2, f3, f4⟩ := hSw; go_simp <;> with_reducible rfl)
  try simp only [Act.put, List.getElem_toArray, List.getElem_cons_zero, List.getElem_cons_succ, List.setIfInBounds_toArray, List.set_cons_zero, List.set_cons_succ]
  refine wpAnyH_take (i := 6) (v := ?vah6) rfl (by kernel_rfl) (by kernel_rfl) (by kernel_rfl) (fun _ _ _ h => h) (Or.inl ⟨by rfl, ?hyh6⟩) (by assumption) ?rah6
  case hyh6 => (intro wq hSw; (try dsimp only at hSw); obtain ⟨⟨e0, e1, e2, e3, e4⟩, f0, f1, f2, f3, f4⟩ := hSw; go_simp <;> with_reducible rfl)
  try simp only [Act.put, List.getElem_toArray, List.getElem_cons_zero, List.getElem_cons_succ, List.setIfInBounds_toArray, List.set_cons_zero, List.set_cons_succ]
  refine wpAnyH_take (i := 7) (v := ?vah7) rfl (by kernel_rfl) (by kernel_rfl) (by kernel_rfl) (fun _ _ _ h => h) (Or.inl ⟨by rfl, ?hyh7⟩) (by assumption) ?rah7
  case hyh7 => (intro wq hSw; (try dsimp only at hSw); obtain ⟨⟨e0, e1, e2, e3, e4⟩, f0, f1, f2, f3, f4⟩ := hSw; go_simp <;> with_reducible rfl)
  try simp only [Act.put, List.getElem_toArray, List.getElem_cons_zero, List.getElem_cons_succ, List.setIfInBounds_toArray, List.set_cons_zero, List.set_cons_succ]
  refine wpAnyH_ready (rs := [8]) (by kernel_rfl) (by simp) ?_
  refine AllReadyH.cons rfl (fun K hK => ?_) AllReadyH.nil
  go_simp
  refine (LD.out _).mono ?_
  rintro _ w9 ⟨qd, rfl, hp, hg, hb⟩
  have Pqd := hide hp
  have Gqd := hide hg
  have Bw9 := hide (bt D8.out hb)
  clear hp hg hb
  go_wp2_with fail
  refine hK.out _ _ (SS.out _ Bw9.out) (fun hHeld => ?_)
  clear hK K
  try simp only [Act.put, List.getElem_toArray, List.getElem_cons_zero, List.getElem_cons_succ, List.setIfInBounds_toArray, List.set_cons_zero, List.set_cons_succ]
  refine wpAnyH_ready (rs := [9]) (by kernel_rfl) (by simp) ?_
  refine AllReadyH.cons rfl (fun K hK => ?_) AllReadyH.nil
  go_simp
  refine (EQ.out _ _ _ (PD.out _ Bw9.out) (Pqd.out.piL Gqd.out (by decide +kernel)) (by rw [E1.out, Gqd.out])).mono ?_
  rintro _ wa ⟨rfl, hb⟩
  have Bwa := hide (bt Bw9.out hb)
  clear hb
  go_wp2_with fail
  refine hK.out _ _ (SS.out _ Bwa.out) (fun hHeld => ?_)
  clear hK K
  try simp only [Act.put, List.getElem_toArray, List.getElem_cons_zero, List.getElem_cons_succ, List.setIfInBounds_toArray, List.set_cons_zero, List.set_cons_succ]
  refine wpAnyH_take (i := 10) (v := ?vah10) rfl (by kernel_rfl) (by kernel_rfl) (by kernel_rfl) (fun _ _ _ h => h) (Or.inl ⟨by rfl, ?hyh10⟩) (by assumption) ?rah10
  case hyh10 => (intro wq hSw; (try dsimp only at hSw); obtain ⟨⟨e0, e1, e2, e3, e4⟩, f0, f1, f2, f3, f4⟩ := hSw; go_simp <;> with_reducible rfl)
  try simp only [Act.put, List.getElem_toArray, List.getElem_cons_zero, List.getElem_cons_succ, List.setIfInBounds_toArray, List.set_cons_zero, List.set_cons_succ]
  refine wpAnyH_take (i := 11) (v := ?vah11) rfl (by kernel_rfl) (by kernel_rfl) (by kernel_rfl) (fun _ _ _ h => h) (Or.inl ⟨by rfl, ?hyh11⟩) (by assumption) ?rah11
  case hyh11 => (intro wq hSw; (try dsimp only at hSw); obtain ⟨⟨e0, e1, e2, e3, e4⟩, f0, f1, f2, f3, f4⟩ := hSw; go_simp <;> with_reducible rfl)
  try simp only [Act.put, List.getElem_toArray, List.getElem_cons_zero, List.getElem_cons_succ, List.setIfInBounds_toArray, List.set_cons_zero, List.set_cons_succ]
  refine wpAnyH_take (i := 12) (v := ?vah12) rfl (by kernel_rfl) (by kernel_rfl) (by kernel_rfl) (fun _ _ _ h => h) (Or.inl ⟨by rfl, ?hyh12⟩) (by assumption) ?rah12
  case hyh12 => (intro wq hSw; (try dsimp only at hSw); obtain ⟨⟨e0, e1, e2, e3, e4⟩, f0, f1, f2, f3, f4⟩ := hSw; go_simp <;> with_reducible rfl)
  try simp only [Act.put, List.getElem_toArray, List.getElem_cons_zero, List.getElem_cons_succ, List.setIfInBounds_toArray, List.set_cons_zero, List.set_cons_succ]
  refine wpAnyH_take (i := 13) (v := ?vah13) rfl (by kernel_rfl) (by kernel_rfl) (by kernel_rfl) (fun _ _ _ h => h) (Or.inl ⟨by rfl, ?hyh13⟩) (by assumption) ?rah13
  case hyh13 => (intro wq hSw; (try dsimp only at hSw); obtain ⟨⟨e0, e1, e2, e3, e4⟩, f0, f1, f2, f3, f4⟩ := hSw; go_simp <;> with_reducible rfl)
  try simp only [Act.put, List.getElem_toArray, List.getElem_cons_zero, List.getElem_cons_succ, List.setIfInBounds_toArray, List.set_cons_zero, List.set_cons_succ]
  refine wpAnyH_ready (rs := [14]) (by kernel_rfl) (by simp) ?_
  refine AllReadyH.cons rfl (fun K hK => ?_) AllReadyH.nil
  go_simp
  refine (LEE.out _).mono ?_
  rintro _ wb ⟨qe, rfl, hp, hg, hb⟩
  have Pqe := hide hp
  have Gqe := hide hg
  have Bwb := hide (bt Bwa.out hb)
  clear hp hg hb
  go_wp2_with fail
  refine hK.out _ _ (SS.out _ Bwb.out) (fun hHeld => ?_)
  clear hK K
  try simp only [Act.put, List.getElem_toArray, List.getElem_cons_zero, List.getElem_cons_succ, List.setIfInBounds_toArray, List.set_cons_zero, List.set_cons_succ]
  refine wpAnyH_ready (rs := [15]) (by kernel_rfl) (by simp) ?_
  refine AllReadyH.cons rfl (fun K hK => ?_) AllReadyH.nil
  go_simp
  refine (EQ.out _ _ _ (PE.out _ Bwb.out) (Pqe.out.piL Gqe.out (by decide +kernel)) (by rw [E2.out, Gqe.out])).mono ?_
  rintro _ wc ⟨rfl, hb⟩
  have Bwc := hide (bt Bwb.out hb)
  clear hb
  go_wp2_with fail
  refine hK.out _ _ (SS.out _ Bwc.out) (fun hHeld => ?_)
  clear hK K
  try simp only [Act.put, List.getElem_toArray, List.getElem_cons_zero, List.getElem_cons_succ, List.setIfInBounds_toArray, List.set_cons_zero, List.set_cons_succ]
  refine wpAnyH_take (i := 16) (v := ?vah16) rfl (by kernel_rfl) (by kernel_rfl) (by kernel_rfl) (fun _ _ _ h => h) (Or.inl ⟨by rfl, ?hyh16⟩) (by assumption) ?rah16
  case hyh16 => (intro wq hSw; (try dsimp only at hSw); obtain ⟨⟨e0, e1, e2, e3, e4⟩, f0, f1, f2, f3, f4⟩ := hSw; go_simp <;> with_reducible rfl)
  try simp only [Act.put, List.getElem_toArray, List.getElem_cons_zero, List.getElem_cons_succ, List.setIfInBounds_toArray, List.set_cons_zero, List.set_cons_succ]
  refine wpAnyH_take (i := 17) (v := ?vah17) rfl (by kernel_rfl) (by kernel_rfl) (by kernel_rfl) (fun _ _ _ h => h) (Or.inl ⟨by rfl, ?hyh17⟩) (by assumption) ?rah17
  case hyh17 => (intro wq hSw; (try dsimp only at hSw); obtain ⟨⟨e0, e1, e2, e3, e4⟩, f0, f1, f2, f3, f4⟩ := hSw; go_simp <;> with_reducible rfl)
  try simp only [Act.put, List.getElem_toArray, List.getElem_cons_zero, List.getElem_cons_succ, List.setIfInBounds_toArray, List.set_cons_zero, List.set_cons_succ]
  refine wpAnyH_take (i := 18) (v := ?vah18) rfl (by kernel_rfl) (by kernel_rfl) (by kernel_rfl) (fun _ _ _ h => h) (Or.inl ⟨by rfl, ?hyh18⟩) (by assumption) ?rah18
  case hyh18 => (intro wq hSw; (try dsimp only at hSw); obtain ⟨⟨e0, e1, e2, e3, e4⟩, f0, f1, f2, f3, f4⟩ := hSw; go_simp <;> with_reducible rfl)
  try simp only [Act.put, List.getElem_toArray, List.getElem_cons_zero, List.getElem_cons_succ, List.setIfInBounds_toArray, List.set_cons_zero, List.set_cons_succ]
  refine wpAnyH_take (i := 19) (v := ?vah19) rfl (by kernel_rfl) (by kernel_rfl) (by kernel_rfl) (fun _ _ _ h => h) (Or.inl ⟨by rfl, ?hyh19⟩) (by assumption) ?rah19
  case hyh19 => (intro wq hSw; (try dsimp only at hSw); obtain ⟨⟨e0, e1, e2, e3, e4⟩, f0, f1, f2, f3, f4⟩ := hSw; go_simp <;> with_reducible rfl)
  try simp only [Act.put, List.getElem_toArray, List.getElem_cons_zero, List.getElem_cons_succ, List.setIfInBounds_toArray, List.set_cons_zero, List.set_cons_succ]
  refine wpAnyH_ready (rs := [20]) (by kernel_rfl) (by simp) ?_
  refine AllReadyH.cons rfl (fun K hK => ?_) AllReadyH.nil
  go_simp
  refine hK.out _ _ (SS.out _ (bt Bwc.out (al wc (.cells #[.int .u8 101] 5)))) (fun hHeld => ?_)
  clear hK K
  try simp only [Act.put, List.getElem_toArray, List.getElem_cons_zero, List.getElem_cons_succ, List.setIfInBounds_toArray, List.set_cons_zero, List.set_cons_succ]
  refine wpAnyH_ready (rs := [21]) (by kernel_rfl) (by simp) ?_
  refine AllReadyH.cons rfl (fun K hK => ?_) AllReadyH.nil
  go_simp
  have Bwd := hide (bt Bwc.out (al wc (.cells #[.int .u8 101] 5 (1, 2))))
  have BL := hide (bs_lit (c := 101) (heap_alloc_new wc (.cells #[.int .u8 101] 5 (1, 2))) (by decide))
  refine hK.out _ _ (SS.out _ Bwd.out) (fun hHeld => ?_)
  clear hK K
  try simp only [Act.put, List.getElem_toArray, List.getElem_cons_zero, List.getElem_cons_succ, List.setIfInBounds_toArray, List.set_cons_zero, List.set_cons_succ]
  refine wpAnyH_ready (rs := [22]) (by kernel_rfl) (by simp) ?_
  refine AllReadyH.cons rfl (fun K hK => ?_) AllReadyH.nil
  go_simp
  refine (EqBytes_same _ _ _ 1 1 _ _ [101] ((H7.out.keep Bwd.out).sp.1.bs (H7.out.sp).2) BL.out rfl rfl).mono ?_
  rintro _ we ⟨rfl, hb⟩
  have Bwe := hide (bt Bwd.out hb)
  clear hb
  go_wp2_with fail
  refine hK.out _ _ (SS.out _ Bwe.out) (fun hHeld => ?_)
  clear hK K
  try simp only [Act.put, List.getElem_toArray, List.getElem_cons_zero, List.getElem_cons_succ, List.setIfInBounds_toArray, List.set_cons_zero, List.set_cons_succ]
  refine wpAnyH_take (i := 23) (v := ?vah23) rfl (by kernel_rfl) (by kernel_rfl) (by kernel_rfl) (fun _ _ _ h => h) (Or.inl ⟨by rfl, ?hyh23⟩) (by assumption) ?rah23
  case hyh23 => (intro wq hSw; (try dsimp only at hSw); obtain ⟨⟨e0, e1, e2, e3, e4⟩, f0, f1, f2, f3, f4⟩ := hSw; go_simp <;> with_reducible rfl)
  try simp only [Act.put, List.getElem_toArray, List.getElem_cons_zero, List.getElem_cons_succ, List.setIfInBounds_toArray, List.set_cons_zero, List.set_cons_succ]
  refine wpAnyH_take (i := 24) (v := ?vah24) rfl (by kernel_rfl) (by kernel_rfl) (by kernel_rfl) (fun _ _ _ h => h) (Or.inl ⟨by rfl, ?hyh24⟩) (by assumption) ?rah24
  case hyh24 => (intro wq hSw; (try dsimp only at hSw); obtain ⟨⟨e0, e1, e2, e3, e4⟩, f0, f1, f2, f3, f4⟩ := hSw; go_simp <;> with_reducible rfl)
  try simp only [Act.put, List.getElem_toArray, List.getElem_cons_zero, List.getElem_cons_succ, List.setIfInBounds_toArray, List.set_cons_zero, List.set_cons_succ]
  refine wpAnyH_done (by kernel_rfl) ?_ _
  clear hHeld LD LEE hcv
  have JN := hide (Join_any we p1 p2 aS cS [101] (PD.out _ Bwe.out) (PE.out _ Bwe.out) ((H7.out.keep Bwe.out).sp.1.bs (H7.out.sp).2) (H7.out.keep Bwe.out).sp.1.r.cap (by decide) (Pn.datL E1.out (by decide +kernel)) (Pn.smlL E1.out (w_sml lD (by simp))) (Pn.smlL E2.out (w_sml lE (by simp))))
  rw [E1.out, E2.out, w_joi] at JN
  unfold Pv.vl at JN
  simp only [Pv.cs, List.length_cons, List.length_nil, Nat.zero_add] at JN
  obtain ⟨⟨x0, x1, x2, x3, x4⟩, y0, y1, y2, y3, y4⟩ := SS.out _ Bwe.out
  go_wp2_with fail
  refine JN.out.mono ?_
  rintro _ wf ⟨qj, rfl, pj, gj, bj⟩
  have PJ := hide (pj.piL gj (by decide +kernel))
  have GJ := hide gj
  have AJ := hide (al wf (.cells #[.int .i64 qj.kind, .int .i64 qj.level, .slice qj.aI qj.items.length qj.cI, .slice qj.aD qj.data.length qj.cD, .int .i64 qj.next] 25))
  have XJ := hide (heap_alloc_new wf (.cells #[.int .i64 qj.kind, .int .i64 qj.level, .slice qj.aI qj.items.length qj.cI, .slice qj.aD qj.data.length qj.cD, .int .i64 qj.next] 25))
  have BJ := hide (bt B7.out (bt Bwe.out (bt bj AJ.out)))
  have X9 := hide (blk_keep X7.out (bt Bwe.out (bt bj AJ.out)))
  clear pj gj bj JN x0 x1 x2 x3 x4 y0 y1 y2 y3 y4 SS PD PE
  go_wp2_with fail
  generalize (wf.alloc (.cells #[.int .i64 qj.kind, .int .i64 qj.level, .slice qj.aI qj.items.length qj.cI, .slice qj.aD qj.data.length qj.cD, .int .i64 qj.next] 25)) = wg at *
  have hX2 := (cells5 X9.out).2.2.1
  rw [LR.out] at hX2
  have HX2 := hide hX2
  clear hX2
  have SJ := hide fun (W : World) (hb : Below wg.heap.size wg W) => (show W.cell? ⟨w5.heap.size, 2, none⟩ = some (.slice qr.aI 2 qr.cI) ∧ (W.cell? ⟨wf.heap.size, 0, none⟩ = some (.int .i64 qj.kind) ∧ W.cell? ⟨wf.heap.size, 1, none⟩ = some (.int .i64 qj.level) ∧ W.cell? ⟨wf.heap.size, 2, none⟩ = some (.slice qj.aI qj.items.length qj.cI) ∧ W.cell? ⟨wf.heap.size, 3, none⟩ = some (.slice qj.aD qj.data.length qj.cD) ∧ W.cell? ⟨wf.heap.size, 4, none⟩ = some (.int .i64 qj.next)) from ⟨(hb.cell (p := ⟨w5.heap.size, 2, none⟩) (block_lt_of_cell HX2.out)).trans HX2.out, cells5 (blk_keep XJ.out hb)⟩)
  have DG := hide (dr2 wg)
  refine wp_region_held_drew (S := fun W => W.cell? ⟨w5.heap.size, 2, none⟩ = some (.slice qr.aI 2 qr.cI) ∧ (W.cell? ⟨wf.heap.size, 0, none⟩ = some (.int .i64 qj.kind) ∧ W.cell? ⟨wf.heap.size, 1, none⟩ = some (.int .i64 qj.level) ∧ W.cell? ⟨wf.heap.size, 2, none⟩ = some (.slice qj.aI qj.items.length qj.cI) ∧ W.cell? ⟨wf.heap.size, 3, none⟩ = some (.slice qj.aD qj.data.length qj.cD) ∧ W.cell? ⟨wf.heap.size, 4, none⟩ = some (.int .i64 qj.next))) (by kernel_rfl) (SJ.out _ DG.out) (fun hHeld => ?_)
  refine wpAnyH_take (i := 0) (v := ?vak0) rfl (by kernel_rfl) (by kernel_rfl) (by kernel_rfl) (fun _ _ _ h => h) (Or.inl ⟨by rfl, ?hyk0⟩) (by assumption) ?rak0
  case hyk0 => (intro wq hSw; (try dsimp only at hSw); obtain ⟨e9, e0, e1, e2, e3, e4⟩ := hSw; go_simp <;> with_reducible rfl)
  try simp only [Act.put, List.getElem_toArray, List.getElem_cons_zero, List.setIfInBounds_toArray, List.set_cons_zero, List.set_cons_succ]
  refine wpAnyH_take (i := 1) (v := ?vak1) rfl (by kernel_rfl) (by kernel_rfl) (by kernel_rfl) (fun _ _ _ h => h) (Or.inl ⟨by rfl, ?hyk1⟩) (by assumption) ?rak1
  case hyk1 => (intro wq hSw; (try dsimp only at hSw); obtain ⟨e9, e0, e1, e2, e3, e4⟩ := hSw; go_simp <;> with_reducible rfl)
  try simp only [Act.put, List.getElem_toArray, List.getElem_cons_zero, List.getElem_cons_succ, List.setIfInBounds_toArray, List.set_cons_zero, List.set_cons_succ]
  refine wpAnyH_take (i := 2) (v := ?vak2) rfl (by kernel_rfl) (by kernel_rfl) (by kernel_rfl) (fun _ _ _ h => h) (Or.inl ⟨by rfl, ?hyk2⟩) (by assumption) ?rak2
  case hyk2 => (intro wq hSw; (try dsimp only at hSw); obtain ⟨e9, e0, e1, e2, e3, e4⟩ := hSw; go_simp <;> with_reducible rfl)
  try simp only [Act.put, List.getElem_toArray, List.getElem_cons_zero, List.getElem_cons_succ, List.setIfInBounds_toArray, List.set_cons_zero, List.set_cons_succ]
  refine wpAnyH_take (i := 3) (v := ?vak3) rfl (by kernel_rfl) (by kernel_rfl) (by kernel_rfl) (fun _ _ _ h => h) (Or.inl ⟨by rfl, ?hyk3⟩) (by assumption) ?rak3
  case hyk3 => (intro wq hSw; (try dsimp only at hSw); obtain ⟨e9, e0, e1, e2, e3, e4⟩ := hSw; go_simp <;> with_reducible rfl)
  try simp only [Act.put, List.getElem_toArray, List.getElem_cons_zero, List.getElem_cons_succ, List.setIfInBounds_toArray, List.set_cons_zero, List.set_cons_succ]
  refine wpAnyH_take (i := 4) (v := ?vak4) rfl (by kernel_rfl) (by kernel_rfl) (by kernel_rfl) (fun _ _ _ h => h) (Or.inl ⟨by rfl, ?hyk4⟩) (by assumption) ?rak4
  case hyk4 => (intro wq hSw; (try dsimp only at hSw); obtain ⟨e9, e0, e1, e2, e3, e4⟩ := hSw; go_simp <;> with_reducible rfl)
  try simp only [Act.put, List.getElem_toArray, List.getElem_cons_zero, List.getElem_cons_succ, List.setIfInBounds_toArray, List.set_cons_zero, List.set_cons_succ]
  refine wpAnyH_take (i := 5) (v := ?vak5) rfl (by kernel_rfl) (by kernel_rfl) (by kernel_rfl) (fun _ _ _ h => h) (Or.inl ⟨by rfl, ?hyk5⟩) (by assumption) ?rak5
  case hyk5 => (intro wq hSw; (try dsimp only at hSw); obtain ⟨e9, e0, e1, e2, e3, e4⟩ := hSw; go_simp <;> with_reducible rfl)
  try simp only [Act.put, List.getElem_toArray, List.getElem_cons_zero, List.getElem_cons_succ, List.setIfInBounds_toArray, List.set_cons_zero, List.set_cons_succ]
  refine wpAnyH_take (i := 6) (v := ?vak6) rfl (by kernel_rfl) (by kernel_rfl) (by kernel_rfl) (fun _ _ _ h => h) (Or.inl ⟨by rfl, ?hyk6⟩) (by assumption) ?rak6
  case hyk6 => (intro wq hSw; (try dsimp only at hSw); obtain ⟨e9, e0, e1, e2, e3, e4⟩ := hSw; go_simp <;> with_reducible rfl)
  try simp only [Act.put, List.getElem_toArray, List.getElem_cons_zero, List.getElem_cons_succ, List.setIfInBounds_toArray, List.set_cons_zero, List.set_cons_succ]
  refine wpAnyH_take (i := 7) (v := ?vak7) rfl (by kernel_rfl) (by kernel_rfl) (by kernel_rfl) (fun _ _ _ h => h) (Or.inl ⟨by rfl, ?hyk7⟩) (by assumption) ?rak7
  case hyk7 => (intro wq hSw; (try dsimp only at hSw); obtain ⟨e9, e0, e1, e2, e3, e4⟩ := hSw; go_simp <;> with_reducible rfl)
  try simp only [Act.put, List.getElem_toArray, List.getElem_cons_zero, List.getElem_cons_succ, List.setIfInBounds_toArray, List.set_cons_zero, List.set_cons_succ]
  refine wpAnyH_take (i := 8) (v := ?vak8) rfl (by kernel_rfl) (by kernel_rfl) (by kernel_rfl) (fun _ _ _ h => h) (Or.inl ⟨by rfl, ?hyk8⟩) (by assumption) ?rak8
  case hyk8 => (intro wq hSw; (try dsimp only at hSw); obtain ⟨e9, e0, e1, e2, e3, e4⟩ := hSw; go_simp <;> with_reducible rfl)
  try simp only [Act.put, List.getElem_toArray, List.getElem_cons_zero, List.getElem_cons_succ, List.setIfInBounds_toArray, List.set_cons_zero, List.set_cons_succ]
  refine wpAnyH_ready (rs := [9]) (by kernel_rfl) (by simp) ?_
  refine AllReadyH.cons rfl (fun K hK => ?_) AllReadyH.nil
  go_simp
  refine (LH.out _).mono ?_
  rintro _ wh ⟨qk, rfl, hp, hg, hb⟩
  have Pqk := hide hp
  have Gqk := hide hg
  have Bwh := hide (bt DG.out hb)
  clear hp hg hb
  go_wp2_with fail
  refine hK.out _ _ (SJ.out _ Bwh.out) (fun hHeld => ?_)
  clear hK K
  try simp only [Act.put, List.getElem_toArray, List.getElem_cons_zero, List.getElem_cons_succ, List.setIfInBounds_toArray, List.set_cons_zero, List.set_cons_succ]
  refine wpAnyH_ready (rs := [10]) (by kernel_rfl) (by simp) ?_
  refine AllReadyH.cons rfl (fun K hK => ?_) AllReadyH.nil
  go_simp
  refine (EQ.out _ _ _ (PJ.out.keep (bt AJ.out Bwh.out)) (Pqk.out.piL Gqk.out (by decide +kernel)) (by rw [GJ.out, Gqk.out])).mono ?_
  rintro _ wi ⟨rfl, hb⟩
  have Bwi := hide (bt Bwh.out hb)
  clear hb
  go_wp2_with fail
  refine hK.out _ _ (SJ.out _ Bwi.out) (fun hHeld => ?_)
  clear hK K
  try simp only [Act.put, List.getElem_toArray, List.getElem_cons_zero, List.getElem_cons_succ, List.setIfInBounds_toArray, List.set_cons_zero, List.set_cons_succ]
  refine wpAnyH_take (i := 11) (v := ?vak11) rfl (by kernel_rfl) (by kernel_rfl) (by kernel_rfl) (fun _ _ _ h => h) (Or.inl ⟨by rfl, ?hyk11⟩) (by assumption) ?rak11
  case hyk11 => (intro wq hSw; (try dsimp only at hSw); obtain ⟨e9, e0, e1, e2, e3, e4⟩ := hSw; go_simp <;> with_reducible rfl)
  try simp only [Act.put, List.getElem_toArray, List.getElem_cons_zero, List.getElem_cons_succ, List.setIfInBounds_toArray, List.set_cons_zero, List.set_cons_succ]
  refine wpAnyH_take (i := 12) (v := ?vak12) rfl (by kernel_rfl) (by kernel_rfl) (by kernel_rfl) (fun _ _ _ h => h) (Or.inl ⟨by rfl, ?hyk12⟩) (by assumption) ?rak12
  case hyk12 => (intro wq hSw; (try dsimp only at hSw); obtain ⟨e9, e0, e1, e2, e3, e4⟩ := hSw; go_simp <;> with_reducible rfl)
  try simp only [Act.put, List.getElem_toArray, List.getElem_cons_zero, List.getElem_cons_succ, List.setIfInBounds_toArray, List.set_cons_zero, List.set_cons_succ]
  refine wpAnyH_done (by kernel_rfl) ?_ _
  clear hHeld
  go_wp2_with fail
  go_ret
  exact ⟨rfl, bt BJ.out Bwi.out⟩
end Go.Proofs.Ytoachodngjlpaaa
