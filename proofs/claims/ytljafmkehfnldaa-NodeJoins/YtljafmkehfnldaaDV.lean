import Derived.Test.YtljafmkehfnldaaDT
import Derived.Test.YtljafmkehfnldaaDU
import Derived.Test.YtljafmkehfnldaaDZR
namespace Go.Proofs.Ytljafmkehfnldaa
set_option linter.unusedVariables false
set_option linter.unusedSimpArgs false
open Go.RowKit
theorem Bl.keep {w w' : World} {a : Option Addr} {T : List Br} (h : Bl w a T) (hb : Below w.heap.size w w') : Bl w' a T :=
  ⟨fun j hj => by
    obtain ⟨b, off, e, hc⟩ := h.c j hj
    exact ⟨b, off, e, (hb.cell (p := ⟨b, off + j, none⟩) (block_lt_of_cell hc)).trans hc⟩, fun t ht => ⟨(h.r t ht).1.keep hb, (h.r t ht).2⟩⟩
theorem br_mem {T : List Br} {i : Nat} (h : i < T.length) : T.getD i Br0 ∈ T := by simp [h]
/-- a page that came in -/
structure Pj (w : World) (p : Pv) : Prop where
  i : Pi w p
  d : p.data.length ≤ 140737488355264
  n : p.items.length ≤ 2199023255488
  s : Sml p.items
theorem Pj.keep {w w' : World} {p : Pv} (h : Pj w p) (hb : Below w.heap.size w w') : Pj w' p := ⟨h.i.keep hb, h.d, h.n, h.s⟩
theorem Pj.spare {w : World} {p : Pv} (h : Pj w p) : Calls Try.prog 9 #[p.vl] w fun e w' => ∃ q : Pv, e = .returned q.vl ∧ Sp w w' p q := SparePage_any w p h.i h.d (by have := h.n; omega) h.s
theorem Sp.pj {w W W' : World} {p q : Pv} (h : Sp w W p q) (hp : Pj W' p) : Pj W q := by
  have e1 : q.items.map Iv.it = p.items.map Iv.it := congrArg Pg.items h.e
  have e2 : q.data = p.data := congrArg Pg.data h.e
  refine ⟨h.pi hp.i (by have := hp.n; omega), by rw [e2]; exact hp.d, by rw [h.len]; exact hp.n, fun r hr => ?_⟩
  have hm : r.it ∈ p.items.map Iv.it := by rw [← e1]; exact List.mem_map_of_mem hr
  obtain ⟨x, hx, ex⟩ := List.mem_map.1 hm
  have k := hp.s x hx
  have a1 : x.key = r.key := congrArg It.key ex
  have a2 : x.val = r.val := congrArg It.val ex
  rw [← a1, ← a2]
  exact k
set_option maxHeartbeats 16000000 in
set_option maxRecDepth 8000 in
theorem nodeFinds_any (w : World) (p : Pv) (hP : Pj w p) (a : Option Addr) (cap : Nat) (T : List Br) (hT : Bl w a T) (hN : T.length ≤ 5864062014634) (hC : ∀ t ∈ T, t.l.length + 64 ≤ 140737488355328) :
    Calls Try.prog 3 #[p.vl, .slice a T.length cap] w fun e w' => e = .returned (.bool true) ∧ Below w.heap.size w w' := by
  have PP := hide fun (W : World) (hb : Below w.heap.size w W) => hP.keep hb
  have TB := hide fun (W : World) (hb : Below w.heap.size w W) (j : Nat) (hj : j < T.length) => (hT.keep hb).c j hj
  have TR := hide fun (W : World) (hb : Below w.heap.size w W) (j : Nat) (hj : j < T.length) => (hT.keep hb).r _ (br_mem hj)
  have TC := hide fun (j : Nat) (hj : j < T.length) => hC _ (br_mem hj)
  obtain ⟨n, hn⟩ : ∃ n, T.length = n := ⟨_, rfl⟩
  rw [hn] at TB TR TC hN ⊢
  have A0 := hide (al w (.cells p.cs 25))
  have X0 := hide (heap_alloc_new w (.cells p.cs 25))
  have SPP := hide ((PP.out _ A0.out).spare)
  unfold Pv.vl at SPP ⊢
  simp only [Pv.cs] at SPP A0 X0 ⊢
  clear hT hC hn
  go_enter Try.func3, Try.ntmps3
  go_wp2_with fail
  refine SPP.out.mono ?_
  rintro _ w1 ⟨q, rfl, hS⟩
  have A1 := hide (al w1 (.cells #[.int .i64 q.kind, .int .i64 q.level, .slice q.aI q.items.length q.cI, .slice q.aD q.data.length q.cD, .int .i64 q.next] 25))
  have X1 := hide (heap_alloc_new w1 (.cells #[.int .i64 q.kind, .int .i64 q.level, .slice q.aI q.items.length q.cI, .slice q.aD q.data.length q.cD, .int .i64 q.next] 25))
  have Y1 := hide (blk_keep (blk_keep X0.out hS.b) A1.out)
  have S1 := hide (hS.keep A1.out)
  have B1 := hide (bt A0.out (bt hS.b A1.out))
  have EQ := hide hS.e
  have QJ := hide ((hS.keep A1.out).pj hP)
  clear hS SPP A0 X0
  go_wp2_with fail
  generalize (w1.alloc (.cells #[.int .i64 q.kind, .int .i64 q.level, .slice q.aI q.items.length q.cI, .slice q.aD q.data.length q.cD, .int .i64 q.next] 25)) = w2 at *
  clear A1
  go_loopw [6] (fun i wr => ∃ j : Nat, j ≤ n ∧ i = .int .i64 (j : Int) ∧ Below w2.heap.size w2 wr) (fun i _ => n - (intOf i).toNat)
  case atStart => exact ⟨0, Nat.zero_le _, rfl, Below.refl _ _⟩
  case round =>
    obtain ⟨j, hj, rfl, hb⟩ := hrel
    have BR := hide hb
    clear hb
    by_cases hlt : j < n
    · have hjI : (j : Int) < (n : Int) := by omega
      have hj0 : (0 : Int) ≤ (j : Int) := by omega
      obtain ⟨bT, oT, rfl, hc⟩ := TB.out _ (bt B1.out BR.out) j hlt
      have HCC := hide fun (W : World) (hb : Below wr.heap.size wr W) => (hb.cell (p := ⟨bT, oT + j, none⟩) (block_lt_of_cell hc)).trans hc
      have RK := hide fun (W : World) (hb : Below wr.heap.size wr W) => ((TR.out _ (bt B1.out BR.out) j hlt).1).keep hb
      have RL := hide (TC.out j hlt)
      generalize T.getD j Br0 = t at *
      obtain ⟨aK, cK, k⟩ := t
      simp only [bv] at hc HCC RK RL
      have SP := hide (Spare_at wr aK k.length cK k (RK.out _ (Below.refl _ _)) rfl (by have := RL.out; omega))
      go_wp2_with fail
      refine SP.out.mono ?_
      rintro _ w3 ⟨gk, rfl, hk, -, -, b3⟩
      have HK := hide hk
      have B3 := hide b3
      have BB := hide (bt BR.out b3)
      clear hk b3 SP hc
      have SE := hide (Search_any w3 q (some ⟨gk, 0, none⟩) (k.length + 64) k (QJ.out.i.keep BB.out) HK.out.bs)
      rw [EQ.out] at SE
      unfold Pv.vl at SE
      simp only [Pv.cs] at SE
      obtain ⟨x0, x1, x2, x3, x4⟩ := cells5 (blk_keep X1.out BB.out)
      go_wp2_with fail
      refine SE.out.mono ?_
      rintro _ w4 ⟨rfl, b4⟩
      have B4 := hide (bt B3.out b4)
      have BB4 := hide (bt BB.out b4)
      have HK4 := hide (HK.out.keep b4)
      clear b4 SE x0 x1 x2 x3 x4
      go_wp2_with fail
      have SS := hide fun (W : World) (hb : Below w4.heap.size w4 W) => (show (W.cell? ⟨w.heap.size, 0, none⟩ = some (.int .i64 p.kind) ∧ W.cell? ⟨w.heap.size, 1, none⟩ = some (.int .i64 p.level) ∧ W.cell? ⟨w.heap.size, 2, none⟩ = some (.slice p.aI p.items.length p.cI) ∧ W.cell? ⟨w.heap.size, 3, none⟩ = some (.slice p.aD p.data.length p.cD) ∧ W.cell? ⟨w.heap.size, 4, none⟩ = some (.int .i64 p.next)) ∧ (W.cell? ⟨w1.heap.size, 0, none⟩ = some (.int .i64 q.kind) ∧ W.cell? ⟨w1.heap.size, 1, none⟩ = some (.int .i64 q.level) ∧ W.cell? ⟨w1.heap.size, 2, none⟩ = some (.slice q.aI q.items.length q.cI) ∧ W.cell? ⟨w1.heap.size, 3, none⟩ = some (.slice q.aD q.data.length q.cD) ∧ W.cell? ⟨w1.heap.size, 4, none⟩ = some (.int .i64 q.next)) ∧ W.cell? ⟨bT, oT + j, none⟩ = some (.slice aK k.length cK) from ⟨cells5 (blk_keep Y1.out (bt BB4.out hb)), cells5 (blk_keep X1.out (bt BB4.out hb)), HCC.out W (bt B4.out hb)⟩)
      have RS := hide fun (W : World) (hb : Below w4.heap.size w4 W) => rSearch_any W p aK cK k ((PP.out _ (bt B1.out (bt BB4.out hb))).i) (RK.out W (bt B4.out hb))
      have RR := hide fun (W : World) (hb : Below w4.heap.size w4 W) => rRoute_any W p aK cK k ((PP.out _ (bt B1.out (bt BB4.out hb))).i) (RK.out W (bt B4.out hb))
      have RO := hide fun (W : World) (hb : Below w4.heap.size w4 W) => Route_any W q (some ⟨gk, 0, none⟩) (k.length + 64) k (QJ.out.i.keep (bt BB4.out hb)) (HK4.out.keep hb).bs
      have KE := hide fun (W : World) (hb : Below w4.heap.size w4 W) => Kept_sl W (some ⟨gk, 0, none⟩) aK (k.length + 64) cK k (HK4.out.keep hb) (RK.out W (bt B4.out hb))
      rw [EQ.out] at RO
      unfold Pv.vl at RS RR RO
      simp only [Pv.cs] at RS RR RO
      generalize srch k p.pg.items = s1 at *
      generalize hasK k p.pg.items = s2 at *
      generalize rout k p.pg.items = s3 at *
      have D4 := hide (dr2 w4)
      refine wp_region_held_drew (S := fun W => (W.cell? ⟨w.heap.size, 0, none⟩ = some (.int .i64 p.kind) ∧ W.cell? ⟨w.heap.size, 1, none⟩ = some (.int .i64 p.level) ∧ W.cell? ⟨w.heap.size, 2, none⟩ = some (.slice p.aI p.items.length p.cI) ∧ W.cell? ⟨w.heap.size, 3, none⟩ = some (.slice p.aD p.data.length p.cD) ∧ W.cell? ⟨w.heap.size, 4, none⟩ = some (.int .i64 p.next)) ∧ (W.cell? ⟨w1.heap.size, 0, none⟩ = some (.int .i64 q.kind) ∧ W.cell? ⟨w1.heap.size, 1, none⟩ = some (.int .i64 q.level) ∧ W.cell? ⟨w1.heap.size, 2, none⟩ = some (.slice q.aI q.items.length q.cI) ∧ W.cell? ⟨w1.heap.size, 3, none⟩ = some (.slice q.aD q.data.length q.cD) ∧ W.cell? ⟨w1.heap.size, 4, none⟩ = some (.int .i64 q.next)) ∧ W.cell? ⟨bT, oT + j, none⟩ = some (.slice aK k.length cK)) (by kernel_rfl) (SS.out _ D4.out) (fun hHeld => ?_)
      refine wpAnyH_take (i := 0) (v := ?vaa0) rfl (by kernel_rfl) (by kernel_rfl) (by kernel_rfl) (fun _ _ _ h => h) (Or.inl ⟨by rfl, ?hya0⟩) (by assumption) ?raa0
      case hya0 => (intro wq hSw; (try dsimp only at hSw); obtain ⟨⟨e0, e1, e2, e3, e4⟩, ⟨f0, f1, f2, f3, f4⟩, h0⟩ := hSw; go_simp <;> with_reducible rfl)
      try simp only [Act.put, List.getElem_toArray, List.getElem_cons_zero, List.setIfInBounds_toArray, List.set_cons_zero, List.set_cons_succ]
      refine wpAnyH_take (i := 1) (v := ?vaa1) rfl (by kernel_rfl) (by kernel_rfl) (by kernel_rfl) (fun _ _ _ h => h) (Or.inl ⟨by rfl, ?hya1⟩) (by assumption) ?raa1
      case hya1 => (intro wq hSw; (try dsimp only at hSw); obtain ⟨⟨e0, e1, e2, e3, e4⟩, ⟨f0, f1, f2, f3, f4⟩, h0⟩ := hSw; go_simp <;> with_reducible rfl)
      try simp only [Act.put, List.getElem_toArray, List.getElem_cons_zero, List.getElem_cons_succ, List.setIfInBounds_toArray, List.set_cons_zero, List.set_cons_succ]
      refine wpAnyH_take (i := 2) (v := ?vaa2) rfl (by kernel_rfl) (by kernel_rfl) (by kernel_rfl) (fun _ _ _ h => h) (Or.inl ⟨by rfl, ?hya2⟩) (by assumption) ?raa2
      case hya2 => (intro wq hSw; (try dsimp only at hSw); obtain ⟨⟨e0, e1, e2, e3, e4⟩, ⟨f0, f1, f2, f3, f4⟩, h0⟩ := hSw; go_simp <;> with_reducible rfl)
      try simp only [Act.put, List.getElem_toArray, List.getElem_cons_zero, List.getElem_cons_succ, List.setIfInBounds_toArray, List.set_cons_zero, List.set_cons_succ]
      refine wpAnyH_take (i := 3) (v := ?vaa3) rfl (by kernel_rfl) (by kernel_rfl) (by kernel_rfl) (fun _ _ _ h => h) (Or.inl ⟨by rfl, ?hya3⟩) (by assumption) ?raa3
      case hya3 => (intro wq hSw; (try dsimp only at hSw); obtain ⟨⟨e0, e1, e2, e3, e4⟩, ⟨f0, f1, f2, f3, f4⟩, h0⟩ := hSw; go_simp <;> with_reducible rfl)
      try simp only [Act.put, List.getElem_toArray, List.getElem_cons_zero, List.getElem_cons_succ, List.setIfInBounds_toArray, List.set_cons_zero, List.set_cons_succ]
      refine wpAnyH_take (i := 4) (v := ?vaa4) rfl (by kernel_rfl) (by kernel_rfl) (by kernel_rfl) (fun _ _ _ h => h) (Or.inl ⟨by rfl, ?hya4⟩) (by assumption) ?raa4
      case hya4 => (intro wq hSw; (try dsimp only at hSw); obtain ⟨⟨e0, e1, e2, e3, e4⟩, ⟨f0, f1, f2, f3, f4⟩, h0⟩ := hSw; go_simp <;> with_reducible rfl)
      try simp only [Act.put, List.getElem_toArray, List.getElem_cons_zero, List.getElem_cons_succ, List.setIfInBounds_toArray, List.set_cons_zero, List.set_cons_succ]
      refine wpAnyH_ready (rs := [5]) (by kernel_rfl) (by simp) ?_
      refine AllReadyH.cons rfl (fun K hK => ?_) AllReadyH.nil
      go_simp
      refine (RS.out _ D4.out).mono ?_
      rintro _ w5 ⟨rfl, b5⟩
      have B5 := hide (bt D4.out b5)
      clear b5
      go_wp2_with fail
      refine hK.out _ _ (SS.out _ B5.out) (fun hHeld => ?_)
      clear hK K
      try simp only [Act.put, List.getElem_toArray, List.getElem_cons_zero, List.getElem_cons_succ, List.setIfInBounds_toArray, List.set_cons_zero, List.set_cons_succ]
      refine wpAnyH_take (i := 6) (v := ?vaa6) rfl (by kernel_rfl) (by kernel_rfl) (by kernel_rfl) (fun _ _ _ h => h) (Or.inl ⟨by rfl, ?hya6⟩) (by assumption) ?raa6
      case hya6 => (intro wq hSw; (try dsimp only at hSw); obtain ⟨⟨e0, e1, e2, e3, e4⟩, ⟨f0, f1, f2, f3, f4⟩, h0⟩ := hSw; go_simp <;> with_reducible rfl)
      try simp only [Act.put, List.getElem_toArray, List.getElem_cons_zero, List.getElem_cons_succ, List.setIfInBounds_toArray, List.set_cons_zero, List.set_cons_succ]
      refine wpAnyH_take (i := 7) (v := ?vaa7) rfl (by kernel_rfl) (by kernel_rfl) (by kernel_rfl) (fun _ _ _ h => h) (Or.inl ⟨by rfl, ?hya7⟩) (by assumption) ?raa7
      case hya7 => (intro wq hSw; (try dsimp only at hSw); obtain ⟨⟨e0, e1, e2, e3, e4⟩, ⟨f0, f1, f2, f3, f4⟩, h0⟩ := hSw; go_simp <;> with_reducible rfl)
      try simp only [Act.put, List.getElem_toArray, List.getElem_cons_zero, List.getElem_cons_succ, List.setIfInBounds_toArray, List.set_cons_zero, List.set_cons_succ]
      refine wpAnyH_take (i := 8) (v := ?vaa8) rfl (by kernel_rfl) (by kernel_rfl) (by kernel_rfl) (fun _ _ _ h => h) (Or.inl ⟨by rfl, ?hya8⟩) (by assumption) ?raa8
      case hya8 => (intro wq hSw; (try dsimp only at hSw); obtain ⟨⟨e0, e1, e2, e3, e4⟩, ⟨f0, f1, f2, f3, f4⟩, h0⟩ := hSw; go_simp <;> with_reducible rfl)
      try simp only [Act.put, List.getElem_toArray, List.getElem_cons_zero, List.getElem_cons_succ, List.setIfInBounds_toArray, List.set_cons_zero, List.set_cons_succ]
      refine wpAnyH_take (i := 9) (v := ?vaa9) rfl (by kernel_rfl) (by kernel_rfl) (by kernel_rfl) (fun _ _ _ h => h) (Or.inl ⟨by rfl, ?hya9⟩) (by assumption) ?raa9
      case hya9 => (intro wq hSw; (try dsimp only at hSw); obtain ⟨⟨e0, e1, e2, e3, e4⟩, ⟨f0, f1, f2, f3, f4⟩, h0⟩ := hSw; go_simp <;> with_reducible rfl)
      try simp only [Act.put, List.getElem_toArray, List.getElem_cons_zero, List.getElem_cons_succ, List.setIfInBounds_toArray, List.set_cons_zero, List.set_cons_succ]
      refine wpAnyH_take (i := 10) (v := ?vaa10) rfl (by kernel_rfl) (by kernel_rfl) (by kernel_rfl) (fun _ _ _ h => h) (Or.inl ⟨by rfl, ?hya10⟩) (by assumption) ?raa10
      case hya10 => (intro wq hSw; (try dsimp only at hSw); obtain ⟨⟨e0, e1, e2, e3, e4⟩, ⟨f0, f1, f2, f3, f4⟩, h0⟩ := hSw; go_simp <;> with_reducible rfl)
      try simp only [Act.put, List.getElem_toArray, List.getElem_cons_zero, List.getElem_cons_succ, List.setIfInBounds_toArray, List.set_cons_zero, List.set_cons_succ]
      refine wpAnyH_done (by kernel_rfl) ?_ _
      clear hHeld
      go_wp2_with fail
      have D5 := hide (bt B5.out (dr2 w5))
      refine wp_region_held_drew (S := fun W => (W.cell? ⟨w.heap.size, 0, none⟩ = some (.int .i64 p.kind) ∧ W.cell? ⟨w.heap.size, 1, none⟩ = some (.int .i64 p.level) ∧ W.cell? ⟨w.heap.size, 2, none⟩ = some (.slice p.aI p.items.length p.cI) ∧ W.cell? ⟨w.heap.size, 3, none⟩ = some (.slice p.aD p.data.length p.cD) ∧ W.cell? ⟨w.heap.size, 4, none⟩ = some (.int .i64 p.next)) ∧ (W.cell? ⟨w1.heap.size, 0, none⟩ = some (.int .i64 q.kind) ∧ W.cell? ⟨w1.heap.size, 1, none⟩ = some (.int .i64 q.level) ∧ W.cell? ⟨w1.heap.size, 2, none⟩ = some (.slice q.aI q.items.length q.cI) ∧ W.cell? ⟨w1.heap.size, 3, none⟩ = some (.slice q.aD q.data.length q.cD) ∧ W.cell? ⟨w1.heap.size, 4, none⟩ = some (.int .i64 q.next)) ∧ W.cell? ⟨bT, oT + j, none⟩ = some (.slice aK k.length cK)) (by kernel_rfl) (SS.out _ D5.out) (fun hHeld => ?_)
      refine wpAnyH_take (i := 0) (v := ?vab0) rfl (by kernel_rfl) (by kernel_rfl) (by kernel_rfl) (fun _ _ _ h => h) (Or.inl ⟨by rfl, ?hyb0⟩) (by assumption) ?rab0
      case hyb0 => (intro wq hSw; (try dsimp only at hSw); obtain ⟨⟨e0, e1, e2, e3, e4⟩, ⟨f0, f1, f2, f3, f4⟩, h0⟩ := hSw; go_simp <;> with_reducible rfl)
      try simp only [Act.put, List.getElem_toArray, List.getElem_cons_zero, List.setIfInBounds_toArray, List.set_cons_zero, List.set_cons_succ]
      refine wpAnyH_take (i := 1) (v := ?vab1) rfl (by kernel_rfl) (by kernel_rfl) (by kernel_rfl) (fun _ _ _ h => h) (Or.inl ⟨by rfl, ?hyb1⟩) (by assumption) ?rab1
      case hyb1 => (intro wq hSw; (try dsimp only at hSw); obtain ⟨⟨e0, e1, e2, e3, e4⟩, ⟨f0, f1, f2, f3, f4⟩, h0⟩ := hSw; go_simp <;> with_reducible rfl)
      try simp only [Act.put, List.getElem_toArray, List.getElem_cons_zero, List.getElem_cons_succ, List.setIfInBounds_toArray, List.set_cons_zero, List.set_cons_succ]
      refine wpAnyH_take (i := 2) (v := ?vab2) rfl (by kernel_rfl) (by kernel_rfl) (by kernel_rfl) (fun _ _ _ h => h) (Or.inl ⟨by rfl, ?hyb2⟩) (by assumption) ?rab2
      case hyb2 => (intro wq hSw; (try dsimp only at hSw); obtain ⟨⟨e0, e1, e2, e3, e4⟩, ⟨f0, f1, f2, f3, f4⟩, h0⟩ := hSw; go_simp <;> with_reducible rfl)
      try simp only [Act.put, List.getElem_toArray, List.getElem_cons_zero, List.getElem_cons_succ, List.setIfInBounds_toArray, List.set_cons_zero, List.set_cons_succ]
      refine wpAnyH_take (i := 3) (v := ?vab3) rfl (by kernel_rfl) (by kernel_rfl) (by kernel_rfl) (fun _ _ _ h => h) (Or.inl ⟨by rfl, ?hyb3⟩) (by assumption) ?rab3
      case hyb3 => (intro wq hSw; (try dsimp only at hSw); obtain ⟨⟨e0, e1, e2, e3, e4⟩, ⟨f0, f1, f2, f3, f4⟩, h0⟩ := hSw; go_simp <;> with_reducible rfl)
      try simp only [Act.put, List.getElem_toArray, List.getElem_cons_zero, List.getElem_cons_succ, List.setIfInBounds_toArray, List.set_cons_zero, List.set_cons_succ]
      refine wpAnyH_take (i := 4) (v := ?vab4) rfl (by kernel_rfl) (by kernel_rfl) (by kernel_rfl) (fun _ _ _ h => h) (Or.inl ⟨by rfl, ?hyb4⟩) (by assumption) ?rab4
      case hyb4 => (intro wq hSw; (try dsimp only at hSw); obtain ⟨⟨e0, e1, e2, e3, e4⟩, ⟨f0, f1, f2, f3, f4⟩, h0⟩ := hSw; go_simp <;> with_reducible rfl)
      try simp only [Act.put, List.getElem_toArray, List.getElem_cons_zero, List.getElem_cons_succ, List.setIfInBounds_toArray, List.set_cons_zero, List.set_cons_succ]
      refine wpAnyH_take (i := 5) (v := ?vab5) rfl (by kernel_rfl) (by kernel_rfl) (by kernel_rfl) (fun _ _ _ h => h) (Or.inl ⟨by rfl, ?hyb5⟩) (by assumption) ?rab5
      case hyb5 => (intro wq hSw; (try dsimp only at hSw); obtain ⟨⟨e0, e1, e2, e3, e4⟩, ⟨f0, f1, f2, f3, f4⟩, h0⟩ := hSw; go_simp <;> with_reducible rfl)
      try simp only [Act.put, List.getElem_toArray, List.getElem_cons_zero, List.getElem_cons_succ, List.setIfInBounds_toArray, List.set_cons_zero, List.set_cons_succ]
      refine wpAnyH_take (i := 6) (v := ?vab6) rfl (by kernel_rfl) (by kernel_rfl) (by kernel_rfl) (fun _ _ _ h => h) (Or.inl ⟨by rfl, ?hyb6⟩) (by assumption) ?rab6
      case hyb6 => (intro wq hSw; (try dsimp only at hSw); obtain ⟨⟨e0, e1, e2, e3, e4⟩, ⟨f0, f1, f2, f3, f4⟩, h0⟩ := hSw; go_simp <;> with_reducible rfl)
      try simp only [Act.put, List.getElem_toArray, List.getElem_cons_zero, List.getElem_cons_succ, List.setIfInBounds_toArray, List.set_cons_zero, List.set_cons_succ]
      refine wpAnyH_take (i := 7) (v := ?vab7) rfl (by kernel_rfl) (by kernel_rfl) (by kernel_rfl) (fun _ _ _ h => h) (Or.inl ⟨by rfl, ?hyb7⟩) (by assumption) ?rab7
      case hyb7 => (intro wq hSw; (try dsimp only at hSw); obtain ⟨⟨e0, e1, e2, e3, e4⟩, ⟨f0, f1, f2, f3, f4⟩, h0⟩ := hSw; go_simp <;> with_reducible rfl)
      try simp only [Act.put, List.getElem_toArray, List.getElem_cons_zero, List.getElem_cons_succ, List.setIfInBounds_toArray, List.set_cons_zero, List.set_cons_succ]
      refine wpAnyH_take (i := 8) (v := ?vab8) rfl (by kernel_rfl) (by kernel_rfl) (by kernel_rfl) (fun _ _ _ h => h) (Or.inl ⟨by rfl, ?hyb8⟩) (by assumption) ?rab8
      case hyb8 => (intro wq hSw; (try dsimp only at hSw); obtain ⟨⟨e0, e1, e2, e3, e4⟩, ⟨f0, f1, f2, f3, f4⟩, h0⟩ := hSw; go_simp <;> with_reducible rfl)
      try simp only [Act.put, List.getElem_toArray, List.getElem_cons_zero, List.getElem_cons_succ, List.setIfInBounds_toArray, List.set_cons_zero, List.set_cons_succ]
      refine wpAnyH_take (i := 9) (v := ?vab9) rfl (by kernel_rfl) (by kernel_rfl) (by kernel_rfl) (fun _ _ _ h => h) (Or.inl ⟨by rfl, ?hyb9⟩) (by assumption) ?rab9
      case hyb9 => (intro wq hSw; (try dsimp only at hSw); obtain ⟨⟨e0, e1, e2, e3, e4⟩, ⟨f0, f1, f2, f3, f4⟩, h0⟩ := hSw; go_simp <;> with_reducible rfl)
      try simp only [Act.put, List.getElem_toArray, List.getElem_cons_zero, List.getElem_cons_succ, List.setIfInBounds_toArray, List.set_cons_zero, List.set_cons_succ]
      refine wpAnyH_take (i := 10) (v := ?vab10) rfl (by kernel_rfl) (by kernel_rfl) (by kernel_rfl) (fun _ _ _ h => h) (Or.inl ⟨by rfl, ?hyb10⟩) (by assumption) ?rab10
      case hyb10 => (intro wq hSw; (try dsimp only at hSw); obtain ⟨⟨e0, e1, e2, e3, e4⟩, ⟨f0, f1, f2, f3, f4⟩, h0⟩ := hSw; go_simp <;> with_reducible rfl)
      try simp only [Act.put, List.getElem_toArray, List.getElem_cons_zero, List.getElem_cons_succ, List.setIfInBounds_toArray, List.set_cons_zero, List.set_cons_succ]
      refine wpAnyH_take (i := 12) (v := ?vab12) rfl (by kernel_rfl) (by kernel_rfl) (by kernel_rfl) (fun _ _ _ h => h) (Or.inl ⟨by rfl, ?hyb12⟩) (by assumption) ?rab12
      case hyb12 => (intro wq hSw; (try dsimp only at hSw); obtain ⟨⟨e0, e1, e2, e3, e4⟩, ⟨f0, f1, f2, f3, f4⟩, h0⟩ := hSw; go_simp <;> with_reducible rfl)
      try simp only [Act.put, List.getElem_toArray, List.getElem_cons_zero, List.getElem_cons_succ, List.setIfInBounds_toArray, List.set_cons_zero, List.set_cons_succ]
      refine wpAnyH_take (i := 13) (v := ?vab13) rfl (by kernel_rfl) (by kernel_rfl) (by kernel_rfl) (fun _ _ _ h => h) (Or.inl ⟨by rfl, ?hyb13⟩) (by assumption) ?rab13
      case hyb13 => (intro wq hSw; (try dsimp only at hSw); obtain ⟨⟨e0, e1, e2, e3, e4⟩, ⟨f0, f1, f2, f3, f4⟩, h0⟩ := hSw; go_simp <;> with_reducible rfl)
      try simp only [Act.put, List.getElem_toArray, List.getElem_cons_zero, List.getElem_cons_succ, List.setIfInBounds_toArray, List.set_cons_zero, List.set_cons_succ]
      refine wpAnyH_take (i := 14) (v := ?vab14) rfl (by kernel_rfl) (by kernel_rfl) (by kernel_rfl) (fun _ _ _ h => h) (Or.inl ⟨by rfl, ?hyb14⟩) (by assumption) ?rab14
      case hyb14 => (intro wq hSw; (try dsimp only at hSw); obtain ⟨⟨e0, e1, e2, e3, e4⟩, ⟨f0, f1, f2, f3, f4⟩, h0⟩ := hSw; go_simp <;> with_reducible rfl)
      try simp only [Act.put, List.getElem_toArray, List.getElem_cons_zero, List.getElem_cons_succ, List.setIfInBounds_toArray, List.set_cons_zero, List.set_cons_succ]
      refine wpAnyH_take (i := 15) (v := ?vab15) rfl (by kernel_rfl) (by kernel_rfl) (by kernel_rfl) (fun _ _ _ h => h) (Or.inl ⟨by rfl, ?hyb15⟩) (by assumption) ?rab15
      case hyb15 => (intro wq hSw; (try dsimp only at hSw); obtain ⟨⟨e0, e1, e2, e3, e4⟩, ⟨f0, f1, f2, f3, f4⟩, h0⟩ := hSw; go_simp <;> with_reducible rfl)
      try simp only [Act.put, List.getElem_toArray, List.getElem_cons_zero, List.getElem_cons_succ, List.setIfInBounds_toArray, List.set_cons_zero, List.set_cons_succ]
      refine wpAnyH_take (i := 16) (v := ?vab16) rfl (by kernel_rfl) (by kernel_rfl) (by kernel_rfl) (fun _ _ _ h => h) (Or.inl ⟨by rfl, ?hyb16⟩) (by assumption) ?rab16
      case hyb16 => (intro wq hSw; (try dsimp only at hSw); obtain ⟨⟨e0, e1, e2, e3, e4⟩, ⟨f0, f1, f2, f3, f4⟩, h0⟩ := hSw; go_simp <;> with_reducible rfl)
      try simp only [Act.put, List.getElem_toArray, List.getElem_cons_zero, List.getElem_cons_succ, List.setIfInBounds_toArray, List.set_cons_zero, List.set_cons_succ]
      refine wpAnyH_ready (rs := [11]) (by kernel_rfl) (by simp) ?_
      refine AllReadyH.cons rfl (fun K hK => ?_) AllReadyH.nil
      go_simp
      refine (RO.out _ D5.out).mono ?_
      rintro _ w6 ⟨rfl, b6⟩
      have B6 := hide (bt D5.out b6)
      clear b6
      go_wp2_with fail
      refine hK.out _ _ (SS.out _ B6.out) (fun hHeld => ?_)
      clear hK K
      try simp only [Act.put, List.getElem_toArray, List.getElem_cons_zero, List.getElem_cons_succ, List.setIfInBounds_toArray, List.set_cons_zero, List.set_cons_succ]
      refine wpAnyH_ready (rs := [17]) (by kernel_rfl) (by simp) ?_
      refine AllReadyH.cons rfl (fun K hK => ?_) AllReadyH.nil
      go_simp
      refine (RR.out _ B6.out).mono ?_
      rintro _ w7 ⟨rfl, b7⟩
      have B7 := hide (bt B6.out b7)
      clear b7
      go_wp2_with fail
      refine hK.out _ _ (SS.out _ B7.out) (fun hHeld => ?_)
      clear hK K
      try simp only [Act.put, List.getElem_toArray, List.getElem_cons_zero, List.getElem_cons_succ, List.setIfInBounds_toArray, List.set_cons_zero, List.set_cons_succ]
      refine wpAnyH_take (i := 18) (v := ?vab18) rfl (by kernel_rfl) (by kernel_rfl) (by kernel_rfl) (fun _ _ _ h => h) (Or.inl ⟨by rfl, ?hyb18⟩) (by assumption) ?rab18
      case hyb18 => (intro wq hSw; (try dsimp only at hSw); obtain ⟨⟨e0, e1, e2, e3, e4⟩, ⟨f0, f1, f2, f3, f4⟩, h0⟩ := hSw; go_simp <;> with_reducible rfl)
      try simp only [Act.put, List.getElem_toArray, List.getElem_cons_zero, List.getElem_cons_succ, List.setIfInBounds_toArray, List.set_cons_zero, List.set_cons_succ]
      refine wpAnyH_take (i := 19) (v := ?vab19) rfl (by kernel_rfl) (by kernel_rfl) (by kernel_rfl) (fun _ _ _ h => h) (Or.inl ⟨by rfl, ?hyb19⟩) (by assumption) ?rab19
      case hyb19 => (intro wq hSw; (try dsimp only at hSw); obtain ⟨⟨e0, e1, e2, e3, e4⟩, ⟨f0, f1, f2, f3, f4⟩, h0⟩ := hSw; go_simp <;> with_reducible rfl)
      try simp only [Act.put, List.getElem_toArray, List.getElem_cons_zero, List.getElem_cons_succ, List.setIfInBounds_toArray, List.set_cons_zero, List.set_cons_succ]
      refine wpAnyH_take (i := 20) (v := ?vab20) rfl (by kernel_rfl) (by kernel_rfl) (by kernel_rfl) (fun _ _ _ h => h) (Or.inl ⟨by rfl, ?hyb20⟩) (by assumption) ?rab20
      case hyb20 => (intro wq hSw; (try dsimp only at hSw); obtain ⟨⟨e0, e1, e2, e3, e4⟩, ⟨f0, f1, f2, f3, f4⟩, h0⟩ := hSw; go_simp <;> with_reducible rfl)
      try simp only [Act.put, List.getElem_toArray, List.getElem_cons_zero, List.getElem_cons_succ, List.setIfInBounds_toArray, List.set_cons_zero, List.set_cons_succ]
      refine wpAnyH_take (i := 21) (v := ?vab21) rfl (by kernel_rfl) (by kernel_rfl) (by kernel_rfl) (fun _ _ _ h => h) (Or.inl ⟨by rfl, ?hyb21⟩) (by assumption) ?rab21
      case hyb21 => (intro wq hSw; (try dsimp only at hSw); obtain ⟨⟨e0, e1, e2, e3, e4⟩, ⟨f0, f1, f2, f3, f4⟩, h0⟩ := hSw; go_simp <;> with_reducible rfl)
      try simp only [Act.put, List.getElem_toArray, List.getElem_cons_zero, List.getElem_cons_succ, List.setIfInBounds_toArray, List.set_cons_zero, List.set_cons_succ]
      refine wpAnyH_take (i := 22) (v := ?vab22) rfl (by kernel_rfl) (by kernel_rfl) (by kernel_rfl) (fun _ _ _ h => h) (Or.inl ⟨by rfl, ?hyb22⟩) (by assumption) ?rab22
      case hyb22 => (intro wq hSw; (try dsimp only at hSw); obtain ⟨⟨e0, e1, e2, e3, e4⟩, ⟨f0, f1, f2, f3, f4⟩, h0⟩ := hSw; go_simp <;> with_reducible rfl)
      try simp only [Act.put, List.getElem_toArray, List.getElem_cons_zero, List.getElem_cons_succ, List.setIfInBounds_toArray, List.set_cons_zero, List.set_cons_succ]
      refine wpAnyH_take (i := 23) (v := ?vab23) rfl (by kernel_rfl) (by kernel_rfl) (by kernel_rfl) (fun _ _ _ h => h) (Or.inl ⟨by rfl, ?hyb23⟩) (by assumption) ?rab23
      case hyb23 => (intro wq hSw; (try dsimp only at hSw); obtain ⟨⟨e0, e1, e2, e3, e4⟩, ⟨f0, f1, f2, f3, f4⟩, h0⟩ := hSw; go_simp <;> with_reducible rfl)
      try simp only [Act.put, List.getElem_toArray, List.getElem_cons_zero, List.getElem_cons_succ, List.setIfInBounds_toArray, List.set_cons_zero, List.set_cons_succ]
      refine wpAnyH_take (i := 24) (v := ?vab24) rfl (by kernel_rfl) (by kernel_rfl) (by kernel_rfl) (fun _ _ _ h => h) (Or.inl ⟨by rfl, ?hyb24⟩) (by assumption) ?rab24
      case hyb24 => (intro wq hSw; (try dsimp only at hSw); obtain ⟨⟨e0, e1, e2, e3, e4⟩, ⟨f0, f1, f2, f3, f4⟩, h0⟩ := hSw; go_simp <;> with_reducible rfl)
      try simp only [Act.put, List.getElem_toArray, List.getElem_cons_zero, List.getElem_cons_succ, List.setIfInBounds_toArray, List.set_cons_zero, List.set_cons_succ]
      refine wpAnyH_take (i := 25) (v := ?vab25) rfl (by kernel_rfl) (by kernel_rfl) (by kernel_rfl) (fun _ _ _ h => h) (Or.inl ⟨by rfl, ?hyb25⟩) (by assumption) ?rab25
      case hyb25 => (intro wq hSw; (try dsimp only at hSw); obtain ⟨⟨e0, e1, e2, e3, e4⟩, ⟨f0, f1, f2, f3, f4⟩, h0⟩ := hSw; go_simp <;> with_reducible rfl)
      try simp only [Act.put, List.getElem_toArray, List.getElem_cons_zero, List.getElem_cons_succ, List.setIfInBounds_toArray, List.set_cons_zero, List.set_cons_succ]
      refine wpAnyH_ready (rs := [26]) (by kernel_rfl) (by simp) ?_
      refine AllReadyH.cons rfl (fun K hK => ?_) AllReadyH.nil
      go_simp
      refine (KE.out _ B7.out).mono ?_
      rintro _ w8 ⟨rfl, b8⟩
      have B8 := hide (bt B7.out b8)
      clear b8
      go_wp2_with fail
      refine hK.out _ _ (SS.out _ B8.out) (fun hHeld => ?_)
      clear hK K
      try simp only [Act.put, List.getElem_toArray, List.getElem_cons_zero, List.getElem_cons_succ, List.setIfInBounds_toArray, List.set_cons_zero, List.set_cons_succ]
      refine wpAnyH_take (i := 27) (v := ?vab27) rfl (by kernel_rfl) (by kernel_rfl) (by kernel_rfl) (fun _ _ _ h => h) (Or.inl ⟨by rfl, ?hyb27⟩) (by assumption) ?rab27
      case hyb27 => (intro wq hSw; (try dsimp only at hSw); obtain ⟨⟨e0, e1, e2, e3, e4⟩, ⟨f0, f1, f2, f3, f4⟩, h0⟩ := hSw; go_simp <;> with_reducible rfl)
      try simp only [Act.put, List.getElem_toArray, List.getElem_cons_zero, List.getElem_cons_succ, List.setIfInBounds_toArray, List.set_cons_zero, List.set_cons_succ]
      refine wpAnyH_take (i := 28) (v := ?vab28) rfl (by kernel_rfl) (by kernel_rfl) (by kernel_rfl) (fun _ _ _ h => h) (Or.inl ⟨by rfl, ?hyb28⟩) (by assumption) ?rab28
      case hyb28 => (intro wq hSw; (try dsimp only at hSw); obtain ⟨⟨e0, e1, e2, e3, e4⟩, ⟨f0, f1, f2, f3, f4⟩, h0⟩ := hSw; go_simp <;> with_reducible rfl)
      try simp only [Act.put, List.getElem_toArray, List.getElem_cons_zero, List.getElem_cons_succ, List.setIfInBounds_toArray, List.set_cons_zero, List.set_cons_succ]
      refine wpAnyH_done (by kernel_rfl) ?_ _
      clear hHeld
      go_wp2_with fail
      go_roundw
      case rel => exact ⟨j + 1, by omega, by go_num, bt BB4.out B8.out⟩
      case measure => simp [intOf]; omega
    · obtain rfl : j = n := by omega
      obtain ⟨x0, x1, x2, x3, x4⟩ := cells5 (blk_keep X1.out BR.out)
      obtain ⟨y0, y1, y2, y3, y4⟩ := cells5 (blk_keep Y1.out BR.out)
      have KP := hide (KeptPage_any wr _ p q ((PP.out _ (bt B1.out BR.out)).i) (S1.out.keep BR.out) (by have := hP.n; omega))
      unfold Pv.vl at KP
      simp only [Pv.cs] at KP
      clear TB TR TC PP hP
      go_wp2_with fail
      refine KP.out.mono ?_
      rintro _ w7 ⟨rfl, b7⟩
      have B7 := hide (bt B1.out (bt BR.out b7))
      clear b7 x0 x1 x2 x3 x4 y0 y1 y2 y3 y4
      go_wp2_with fail
      refine (works_any w7).mono ?_
      rintro _ w8 ⟨rfl, b8⟩
      have B8 := hide (bt B7.out b8)
      clear b8
      go_wp2_with fail
      go_ret
      exact ⟨rfl, B8.out⟩
end Go.Proofs.Ytljafmkehfnldaa
