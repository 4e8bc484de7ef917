import Derived.Test.YtienamijmccjbabJD
namespace Go.Proofs.Ytienamijmccjbab
open Go.RowKit

theorem wr64 {x : Int} (h : -9223372036854775808 ≤ x ∧ x ≤ 9223372036854775807) : wrap64 x = x := by unfold wrap64; omega
set_option maxRecDepth 8000 in
set_option maxHeartbeats 1600000 in
theorem apart_no (w : World) (b c r no ot : Int) (hm : mayB b c r = false) : Calls Try.prog 5 #[.agg #[.int .i64 b, .int .i64 c, .int .i64 r], .int .i64 no, .int .i64 ot] w fun e w' => e = .returned (.bool true) ∧ Below w.heap.size w w' := by
  have HA := hide (al w (.cells #[.int .i64 b, .int .i64 c, .int .i64 r] 25))
  have HB := hide (Bx.new w 25 #[.int .i64 b, .int .i64 c, .int .i64 r])
  have PL := hide fun w1 => Plan_any w1 b c r
  have MB := hide fun w1 => MayBe_any w1 b c r
  unfold plA plE at PL
  unfold cfv plv at *
  rw [hm] at PL MB
  simp only [Bool.false_eq_true, ↓reduceIte] at PL
  clear hm
  go_enter Try.func5, Try.ntmps5
  go_wp2_with fail
  refine (works_any _).mono ?_
  rintro y w1 ⟨rfl, hb⟩
  have HL := hide (bt HA.out hb)
  have HB := hide (HB.out.keep hb)
  clear hb
  go_wp2_with (refine wpList_load_row rfl 25 _ rfl w.heap.size rfl 25 _ (0, 0) _ HB.out Try.underlying25 rfl sizeCfg ?_)
  refine (PL.out _).mono ?_
  rintro y w2 ⟨rfl, hb⟩
  have HL := hide (bt HL.out (bt hb (al w2 (.cells #[.int .i64 0, .int .i64 0, .int .i64 0] 42))))
  have HB := hide ((HB.out.keep hb).keep (al w2 (.cells #[.int .i64 0, .int .i64 0, .int .i64 0] 42)))
  clear hb
  go_wp2_with (refine wpList_load_row rfl 25 _ rfl w.heap.size rfl 25 _ (0, 0) _ HB.out Try.underlying25 rfl sizeCfg ?_)
  generalize w2.alloc (.cells #[.int .i64 0, .int .i64 0, .int .i64 0] 42) = W2 at *
  refine (MB.out _).mono ?_
  rintro y w3 ⟨rfl, hb⟩
  have HL := hide (bt HL.out hb)
  clear hb
  go_wp2
  go_ret
  exact ⟨rfl, HL.out⟩
/-- the numbers of a layout -/
structure Ly (b P K F : Int) : Prop where
  bb : 8 ≤ b ∧ b ≤ 65536
  p : 1 ≤ P ∧ P ≤ 64992
  k : 1 ≤ K ∧ K ≤ 271
  f : F = 2 + 2 * K
  u : (K - 1) * 240 < P ∧ P ≤ K * 240
  m : b < 2 + 2 * ((P + 240) / 240) + P + 1
  i : 2 + 2 * K + P ≤ b
theorem ly {b : Int} (h : 8 ≤ b) (h' : b ≤ 65536) : Ly b (pgs b) (bnk b) (fsb b) := by
  have hp := pgs_in h h'
  have hk := bnk_in h h'
  have r1 := (pgs_room (b := b) (p := pgs b)).2 (Int.le_refl _)
  have r2 : ¬ (2 + 2 * ((pgs b + 1 + 239) / 240) + (pgs b + 1) ≤ b) := fun h => by have := (pgs_room (b := b) (p := pgs b + 1)).1 h; omega
  refine ⟨⟨h, h'⟩, hp, hk, rfl, ?_, ?_, r1⟩
  · unfold bnk; omega
  · rw [show pgs b + 240 = pgs b + 1 + 239 by omega]; omega
set_option maxRecDepth 8000 in
set_option maxHeartbeats 6400000 in
theorem apart_lolo (w : World) (b c r no ot : Int) (hm : mayB b c r = true) (hn : no < 1) (ho : ot < 1) : Calls Try.prog 5 #[.agg #[.int .i64 b, .int .i64 c, .int .i64 r], .int .i64 no, .int .i64 ot] w fun e w' => e = .returned (.bool true) ∧ Below w.heap.size w w' := by
  have HA := hide (al w (.cells #[.int .i64 b, .int .i64 c, .int .i64 r] 25))
  have HB := hide (Bx.new w 25 #[.int .i64 b, .int .i64 c, .int .i64 r])
  obtain ⟨⟨hb0, hb1⟩, _⟩ := mayB_iff.1 hm
  have L := ly hb0 hb1
  have PL := hide fun w1 => Plan_any w1 b c r
  unfold plA plE at PL
  rw [hm] at PL
  simp only [↓reduceIte] at PL
  generalize pgs b = P at *
  generalize bnk b = K at *
  generalize fsb b = F at *
  obtain ⟨⟨_, _⟩, ⟨p0, p1⟩, ⟨k0, k1⟩, hF, ⟨u0, u1⟩, m, i⟩ := L
  have B0 := hide fun w1 => Bank_any w1 P K F 0
  have B1 := hide fun w1 => Bank_any w1 P K F 1
  rw [if_pos rfl] at B0
  rw [if_neg (by decide), if_pos rfl, wr64 (by omega)] at B1
  have BN := hide fun w1 => Block_any w1 P K F no
  have BO := hide fun w1 => Block_any w1 P K F ot
  unfold blA isF at BN BO
  have no1 : decide (1 ≤ no) = false := by simp; omega
  rw [no1] at BN
  simp only [Bool.false_and, Bool.false_eq_true, ↓reduceIte] at BN
  have ot1 : decide (1 ≤ ot) = false := by simp; omega
  rw [ot1] at BO
  simp only [Bool.false_and, Bool.false_eq_true, ↓reduceIte] at BO
  unfold cfv plv at *
  have x1 : decide (P < 1) = false := by simp; omega
  have x2 : decide (K < 1) = false := by simp; omega
  have x3 : decide (P ≤ (K - 1) * 240) = false := by simp; omega
  have x4 : decide (K * 240 < P) = false := by simp; omega
  have ht : (P + 240).tdiv 240 = (P + 240) / 240 := Int.tdiv_eq_ediv_of_nonneg (by omega)
  have hq : 1 ≤ (P + 240) / 240 ∧ (P + 240) / 240 ≤ 272 := by omega
  have x5 : decide (2 + 2 * ((P + 240) / 240) + P + 1 ≤ b) = false := by simp; omega
  have x6 : (F == 2 + 2 * K) = true := by simpa using hF
  have x7 : (2 + K == 2 + K) = true := by simp
  have x8 : F ≤ 544 ∧ 4 ≤ F := by omega
  have y1 : Hid (IntKind.i64.wrap (2 + K) = 2 + K) := by show _ = _; rw [IntKind.wrap_i64]; omega
  have y2 : Hid (IntKind.i64.wrap (2 * K) = 2 * K) := by show _ = _; rw [IntKind.wrap_i64]; omega
  have y3 : Hid (IntKind.i64.wrap (2 + 2 * K) = 2 + 2 * K) := by show _ = _; rw [IntKind.wrap_i64]; omega
  have y4 : Hid (IntKind.i64.wrap (2 + K + K) = 2 + K + K) := by show _ = _; rw [IntKind.wrap_i64]; omega
  have x9 : (F != 2 + 2 * K) = false := by simpa using hF
  have HF := hide hF
  clear hm hF u0 u1 m i
  go_enter Try.func5, Try.ntmps5
  go_wp2_with fail
  refine (works_any _).mono ?_
  rintro y w1 ⟨rfl, hb⟩
  have HL := hide (bt HA.out hb)
  have HB := hide (HB.out.keep hb)
  clear hb
  go_wp2_with (refine wpList_load_row rfl 25 _ rfl w.heap.size rfl 25 _ (0, 0) _ HB.out Try.underlying25 rfl sizeCfg ?_)
  refine (PL.out _).mono ?_
  rintro y w2 ⟨rfl, hb⟩
  have HL := hide (bt HL.out (bt hb (al w2 (.cells #[.int .i64 P, .int .i64 K, .int .i64 F] 42))))
  have HB := hide ((HB.out.keep hb).keep (al w2 (.cells #[.int .i64 P, .int .i64 K, .int .i64 F] 42)))
  have HP := hide (Bx.new w2 42 #[.int .i64 P, .int .i64 K, .int .i64 F])
  clear hb
  go_wp2
  generalize w2.alloc (.cells #[.int .i64 P, .int .i64 K, .int .i64 F] 42) = W2 at *
  have S0 := hide (fun (w' : World) (hb : Below W2.heap.size W2 w') => (show (w'.cell? ⟨w2.heap.size, 0, none⟩ = some (.int .i64 P) ∧ w'.cell? ⟨w2.heap.size, 1, none⟩ = some (.int .i64 K) ∧ w'.cell? ⟨w2.heap.size, 2, none⟩ = some (.int .i64 F) ∧ w'.cell? ⟨w.heap.size, 0, none⟩ = some (.int .i64 b)) ∧ Below W2.heap.size W2 w' from ⟨⟨(HP.out.keep hb).cell 0 rfl, (HP.out.keep hb).cell 1 rfl, (HP.out.keep hb).cell 2 rfl, (HB.out.keep hb).cell 0 rfl⟩, hb⟩))
  have z1 := y1.out
  have z2 := y2.out
  have z3 := y3.out
  have z4 := y4.out
  refine wp_region_held_drew (S := fun w' => (w'.cell? ⟨w2.heap.size, 0, none⟩ = some (.int .i64 P) ∧ w'.cell? ⟨w2.heap.size, 1, none⟩ = some (.int .i64 K) ∧ w'.cell? ⟨w2.heap.size, 2, none⟩ = some (.int .i64 F) ∧ w'.cell? ⟨w.heap.size, 0, none⟩ = some (.int .i64 b)) ∧ Below W2.heap.size W2 w') (by kernel_rfl) (S0.out _ (dr2 W2)) (fun hHeld => ?_)
  refine wpAnyH_take (i := 0) (v := ?va0) rfl (by kernel_rfl) (by kernel_rfl) (by kernel_rfl) (fun _ _ _ h => h) (Or.inl ⟨by rfl, ?hy0⟩) (by assumption) ?ra0
  case hy0 => (intro w hSw; (try dsimp only at hSw); go_simp <;> with_reducible rfl)
  try simp only [Act.put, List.getElem_toArray, List.getElem_cons_zero, List.setIfInBounds_toArray, List.set_cons_zero, List.set_cons_succ]
  refine wpAnyH_ready (rs := [1]) (by kernel_rfl) (by simp) ?_
  refine AllReadyH.cons rfl (fun K hK => ?_) AllReadyH.nil
  go_simp
  refine (B0.out _).mono ?_
  rintro e9 w3 ⟨rfl, hb⟩
  have TB1 := hide (bt (dr2 W2) hb)
  clear hb
  go_wp2_with fail
  refine hK.out _ _ (S0.out _ TB1.out) (fun hHeld => ?_)
  clear hK K
  try simp only [Act.put, List.getElem_toArray, List.getElem_cons_zero, List.getElem_cons_succ, List.setIfInBounds_toArray, List.set_cons_zero, List.set_cons_succ]
  refine wpAnyH_take (i := 2) (v := ?va2) rfl (by kernel_rfl) (by kernel_rfl) (by kernel_rfl) (fun _ _ _ h => h) (Or.inl ⟨by rfl, ?hy2⟩) (by assumption) ?ra2
  case hy2 => (intro w hSw; (try dsimp only at hSw); go_simp <;> with_reducible rfl)
  try simp only [Act.put, List.getElem_toArray, List.getElem_cons_zero, List.getElem_cons_succ, List.setIfInBounds_toArray, List.set_cons_zero, List.set_cons_succ]
  refine wpAnyH_take (i := 3) (v := ?va3) rfl (by kernel_rfl) (by kernel_rfl) (by kernel_rfl) (fun _ _ _ h => h) (Or.inl ⟨by rfl, ?hy3⟩) (by assumption) ?ra3
  case hy3 => (intro w hSw; (try dsimp only at hSw); go_simp <;> with_reducible rfl)
  try simp only [Act.put, List.getElem_toArray, List.getElem_cons_zero, List.getElem_cons_succ, List.setIfInBounds_toArray, List.set_cons_zero, List.set_cons_succ]
  refine wpAnyH_take (i := 4) (v := ?va4) rfl (by kernel_rfl) (by kernel_rfl) (by kernel_rfl) (fun _ _ _ h => h) (Or.inl ⟨by rfl, ?hy4⟩) (by assumption) ?ra4
  case hy4 => (intro w hSw; (try dsimp only at hSw); go_simp <;> with_reducible rfl)
  try simp only [Act.put, List.getElem_toArray, List.getElem_cons_zero, List.getElem_cons_succ, List.setIfInBounds_toArray, List.set_cons_zero, List.set_cons_succ]
  refine wpAnyH_take (i := 6) (v := ?va6) rfl (by kernel_rfl) (by kernel_rfl) (by kernel_rfl) (fun _ _ _ h => h) (Or.inl ⟨by rfl, ?hy6⟩) (by assumption) ?ra6
  case hy6 => (intro w hSw; (try dsimp only at hSw); go_simp <;> with_reducible rfl)
  try simp only [Act.put, List.getElem_toArray, List.getElem_cons_zero, List.getElem_cons_succ, List.setIfInBounds_toArray, List.set_cons_zero, List.set_cons_succ]
  refine wpAnyH_take (i := 7) (v := ?va7) rfl (by kernel_rfl) (by kernel_rfl) (by kernel_rfl) (fun _ _ _ h => h) (Or.inl ⟨by rfl, ?hy7⟩) (by assumption) ?ra7
  case hy7 => (intro w hSw; (try dsimp only at hSw); go_simp <;> with_reducible rfl)
  try simp only [Act.put, List.getElem_toArray, List.getElem_cons_zero, List.getElem_cons_succ, List.setIfInBounds_toArray, List.set_cons_zero, List.set_cons_succ]
  refine wpAnyH_take (i := 8) (v := ?va8) rfl (by kernel_rfl) (by kernel_rfl) (by kernel_rfl) (fun _ _ _ h => h) (Or.inl ⟨by rfl, ?hy8⟩) (by assumption) ?ra8
  case hy8 => (intro w hSw; (try dsimp only at hSw); go_simp <;> with_reducible rfl)
  try simp only [Act.put, List.getElem_toArray, List.getElem_cons_zero, List.getElem_cons_succ, List.setIfInBounds_toArray, List.set_cons_zero, List.set_cons_succ]
  refine wpAnyH_ready (rs := [5]) (by kernel_rfl) (by simp) ?_
  refine AllReadyH.cons rfl (fun K hK => ?_) AllReadyH.nil
  go_simp
  refine (B1.out _).mono ?_
  rintro e9 w4 ⟨rfl, hb⟩
  have TB2 := hide (bt TB1.out hb)
  clear hb
  go_wp2_with fail
  refine hK.out _ _ (S0.out _ TB2.out) (fun hHeld => ?_)
  clear hK K
  try simp only [Act.put, List.getElem_toArray, List.getElem_cons_zero, List.getElem_cons_succ, List.setIfInBounds_toArray, List.set_cons_zero, List.set_cons_succ]
  refine wpAnyH_take (i := 9) (v := ?va9) rfl (by kernel_rfl) (by kernel_rfl) (by kernel_rfl) (fun _ _ _ h => h) (Or.inl ⟨by rfl, ?hy9⟩) (by assumption) ?ra9
  case hy9 => (intro w hSw; (try dsimp only at hSw); go_simp <;> with_reducible rfl)
  try simp only [Act.put, List.getElem_toArray, List.getElem_cons_zero, List.getElem_cons_succ, List.setIfInBounds_toArray, List.set_cons_zero, List.set_cons_succ]
  refine wpAnyH_take (i := 10) (v := ?va10) rfl (by kernel_rfl) (by kernel_rfl) (by kernel_rfl) (fun _ _ _ h => h) (Or.inl ⟨by rfl, ?hy10⟩) (by assumption) ?ra10
  case hy10 => (intro w hSw; (try dsimp only at hSw); go_simp <;> with_reducible rfl)
  try simp only [Act.put, List.getElem_toArray, List.getElem_cons_zero, List.getElem_cons_succ, List.setIfInBounds_toArray, List.set_cons_zero, List.set_cons_succ]
  refine wpAnyH_take (i := 11) (v := ?va11) rfl (by kernel_rfl) (by kernel_rfl) (by kernel_rfl) (fun _ _ _ h => h) (Or.inl ⟨by rfl, ?hy11⟩) (by assumption) ?ra11
  case hy11 => (intro w hSw; (try dsimp only at hSw); go_simp <;> with_reducible rfl)
  try simp only [Act.put, List.getElem_toArray, List.getElem_cons_zero, List.getElem_cons_succ, List.setIfInBounds_toArray, List.set_cons_zero, List.set_cons_succ]
  refine wpAnyH_take (i := 12) (v := ?va12) rfl (by kernel_rfl) (by kernel_rfl) (by kernel_rfl) (fun _ _ _ h => h) (Or.inl ⟨by rfl, ?hy12⟩) (by assumption) ?ra12
  case hy12 => (intro w hSw; (try dsimp only at hSw); go_simp <;> with_reducible rfl)
  try simp only [Act.put, List.getElem_toArray, List.getElem_cons_zero, List.getElem_cons_succ, List.setIfInBounds_toArray, List.set_cons_zero, List.set_cons_succ]
  refine wpAnyH_take (i := 13) (v := ?va13) rfl (by kernel_rfl) (by kernel_rfl) (by kernel_rfl) (fun _ _ _ h => h) (Or.inl ⟨by rfl, ?hy13⟩) (by assumption) ?ra13
  case hy13 => (intro w hSw; (try dsimp only at hSw); go_simp <;> with_reducible rfl)
  try simp only [Act.put, List.getElem_toArray, List.getElem_cons_zero, List.getElem_cons_succ, List.setIfInBounds_toArray, List.set_cons_zero, List.set_cons_succ]
  refine wpAnyH_take (i := 14) (v := ?va14) rfl (by kernel_rfl) (by kernel_rfl) (by kernel_rfl) (fun _ _ _ h => h) (Or.inl ⟨by rfl, ?hy14⟩) (by assumption) ?ra14
  case hy14 => (intro w hSw; (try dsimp only at hSw); go_simp <;> with_reducible rfl)
  try simp only [Act.put, List.getElem_toArray, List.getElem_cons_zero, List.getElem_cons_succ, List.setIfInBounds_toArray, List.set_cons_zero, List.set_cons_succ]
  refine wpAnyH_take (i := 15) (v := ?va15) rfl (by kernel_rfl) (by kernel_rfl) (by kernel_rfl) (fun _ _ _ h => h) (Or.inl ⟨by rfl, ?hy15⟩) (by assumption) ?ra15
  case hy15 => (intro w hSw; (try dsimp only at hSw); go_simp <;> with_reducible rfl)
  try simp only [Act.put, List.getElem_toArray, List.getElem_cons_zero, List.getElem_cons_succ, List.setIfInBounds_toArray, List.set_cons_zero, List.set_cons_succ]
  refine wpAnyH_take (i := 16) (v := ?va16) rfl (by kernel_rfl) (by kernel_rfl) (by kernel_rfl) (fun _ _ _ h => h) (Or.inl ⟨by rfl, ?hy16⟩) (by assumption) ?ra16
  case hy16 => (intro w hSw; (try dsimp only at hSw); go_simp <;> with_reducible rfl)
  try simp only [Act.put, List.getElem_toArray, List.getElem_cons_zero, List.getElem_cons_succ, List.setIfInBounds_toArray, List.set_cons_zero, List.set_cons_succ]
  refine wpAnyH_take (i := 17) (v := ?va17) rfl (by kernel_rfl) (by kernel_rfl) (by kernel_rfl) (fun _ _ _ h => h) (Or.inl ⟨by rfl, ?hy17⟩) (by assumption) ?ra17
  case hy17 => (intro w hSw; (try dsimp only at hSw); go_simp <;> with_reducible rfl)
  try simp only [Act.put, List.getElem_toArray, List.getElem_cons_zero, List.getElem_cons_succ, List.setIfInBounds_toArray, List.set_cons_zero, List.set_cons_succ]
  refine wpAnyH_take (i := 18) (v := ?va18) rfl (by kernel_rfl) (by kernel_rfl) (by kernel_rfl) (fun _ _ _ h => h) (Or.inl ⟨by rfl, ?hy18⟩) (by assumption) ?ra18
  case hy18 => (intro w hSw; (try dsimp only at hSw); go_simp <;> with_reducible rfl)
  try simp only [Act.put, List.getElem_toArray, List.getElem_cons_zero, List.getElem_cons_succ, List.setIfInBounds_toArray, List.set_cons_zero, List.set_cons_succ]
  refine wpAnyH_take (i := 19) (v := ?va19) rfl (by kernel_rfl) (by kernel_rfl) (by kernel_rfl) (fun _ _ _ h => h) (Or.inl ⟨by rfl, ?hy19⟩) (by assumption) ?ra19
  case hy19 => (intro w hSw; (try dsimp only at hSw); go_simp <;> with_reducible rfl)
  try simp only [Act.put, List.getElem_toArray, List.getElem_cons_zero, List.getElem_cons_succ, List.setIfInBounds_toArray, List.set_cons_zero, List.set_cons_succ]
  refine wpAnyH_done (by kernel_rfl) ?_ _
  clear z1 z2 z3 z4
  obtain ⟨⟨q0, q1, q2, qb⟩, _⟩ := S0.out _ TB2.out
  go_wp2_with fail
  refine (BN.out _).mono ?_
  rintro y w5 ⟨rfl, hb⟩
  have TB3 := hide (bt TB2.out hb)
  clear hb q0 q1 q2 qb BN
  obtain ⟨⟨q0, q1, q2, qb⟩, _⟩ := S0.out _ TB3.out
  go_wp2_with fail
  refine (BO.out _).mono ?_
  rintro y w6 ⟨rfl, hb⟩
  have TB4 := hide (bt TB3.out hb)
  clear hb q0 q1 q2 qb BO
  obtain ⟨⟨q0, q1, q2, qb⟩, _⟩ := S0.out _ TB4.out
  go_wp2
  go_ret
  exact ⟨rfl, bt HL.out TB4.out⟩
set_option maxRecDepth 8000 in
set_option maxHeartbeats 6400000 in
theorem apart_lohi (w : World) (b c r no ot : Int) (hm : mayB b c r = true) (hn : no < 1) (ho : 1 ≤ ot ∧ pgs b < ot) : Calls Try.prog 5 #[.agg #[.int .i64 b, .int .i64 c, .int .i64 r], .int .i64 no, .int .i64 ot] w fun e w' => e = .returned (.bool true) ∧ Below w.heap.size w w' := by
  have HA := hide (al w (.cells #[.int .i64 b, .int .i64 c, .int .i64 r] 25))
  have HB := hide (Bx.new w 25 #[.int .i64 b, .int .i64 c, .int .i64 r])
  obtain ⟨⟨hb0, hb1⟩, _⟩ := mayB_iff.1 hm
  have L := ly hb0 hb1
  have PL := hide fun w1 => Plan_any w1 b c r
  unfold plA plE at PL
  rw [hm] at PL
  simp only [↓reduceIte] at PL
  generalize pgs b = P at *
  generalize bnk b = K at *
  generalize fsb b = F at *
  obtain ⟨⟨_, _⟩, ⟨p0, p1⟩, ⟨k0, k1⟩, hF, ⟨u0, u1⟩, m, i⟩ := L
  have B0 := hide fun w1 => Bank_any w1 P K F 0
  have B1 := hide fun w1 => Bank_any w1 P K F 1
  rw [if_pos rfl] at B0
  rw [if_neg (by decide), if_pos rfl, wr64 (by omega)] at B1
  have BN := hide fun w1 => Block_any w1 P K F no
  have BO := hide fun w1 => Block_any w1 P K F ot
  unfold blA isF at BN BO
  have no1 : decide (1 ≤ no) = false := by simp; omega
  rw [no1] at BN
  simp only [Bool.false_and, Bool.false_eq_true, ↓reduceIte] at BN
  have ot1 : decide (1 ≤ ot) = true := by simp; omega
  have ot2 : decide (ot ≤ P) = false := by simp; omega
  rw [ot1, ot2] at BO
  simp only [Bool.and_false, Bool.false_eq_true, ↓reduceIte] at BO
  unfold cfv plv at *
  have x1 : decide (P < 1) = false := by simp; omega
  have x2 : decide (K < 1) = false := by simp; omega
  have x3 : decide (P ≤ (K - 1) * 240) = false := by simp; omega
  have x4 : decide (K * 240 < P) = false := by simp; omega
  have ht : (P + 240).tdiv 240 = (P + 240) / 240 := Int.tdiv_eq_ediv_of_nonneg (by omega)
  have hq : 1 ≤ (P + 240) / 240 ∧ (P + 240) / 240 ≤ 272 := by omega
  have x5 : decide (2 + 2 * ((P + 240) / 240) + P + 1 ≤ b) = false := by simp; omega
  have x6 : (F == 2 + 2 * K) = true := by simpa using hF
  have x7 : (2 + K == 2 + K) = true := by simp
  have x8 : F ≤ 544 ∧ 4 ≤ F := by omega
  have y1 : Hid (IntKind.i64.wrap (2 + K) = 2 + K) := by show _ = _; rw [IntKind.wrap_i64]; omega
  have y2 : Hid (IntKind.i64.wrap (2 * K) = 2 * K) := by show _ = _; rw [IntKind.wrap_i64]; omega
  have y3 : Hid (IntKind.i64.wrap (2 + 2 * K) = 2 + 2 * K) := by show _ = _; rw [IntKind.wrap_i64]; omega
  have y4 : Hid (IntKind.i64.wrap (2 + K + K) = 2 + K + K) := by show _ = _; rw [IntKind.wrap_i64]; omega
  have x9 : (F != 2 + 2 * K) = false := by simpa using hF
  have HF := hide hF
  clear hm hF u0 u1 m i
  go_enter Try.func5, Try.ntmps5
  go_wp2_with fail
  refine (works_any _).mono ?_
  rintro y w1 ⟨rfl, hb⟩
  have HL := hide (bt HA.out hb)
  have HB := hide (HB.out.keep hb)
  clear hb
  go_wp2_with (refine wpList_load_row rfl 25 _ rfl w.heap.size rfl 25 _ (0, 0) _ HB.out Try.underlying25 rfl sizeCfg ?_)
  refine (PL.out _).mono ?_
  rintro y w2 ⟨rfl, hb⟩
  have HL := hide (bt HL.out (bt hb (al w2 (.cells #[.int .i64 P, .int .i64 K, .int .i64 F] 42))))
  have HB := hide ((HB.out.keep hb).keep (al w2 (.cells #[.int .i64 P, .int .i64 K, .int .i64 F] 42)))
  have HP := hide (Bx.new w2 42 #[.int .i64 P, .int .i64 K, .int .i64 F])
  clear hb
  go_wp2
  generalize w2.alloc (.cells #[.int .i64 P, .int .i64 K, .int .i64 F] 42) = W2 at *
  have S0 := hide (fun (w' : World) (hb : Below W2.heap.size W2 w') => (show (w'.cell? ⟨w2.heap.size, 0, none⟩ = some (.int .i64 P) ∧ w'.cell? ⟨w2.heap.size, 1, none⟩ = some (.int .i64 K) ∧ w'.cell? ⟨w2.heap.size, 2, none⟩ = some (.int .i64 F) ∧ w'.cell? ⟨w.heap.size, 0, none⟩ = some (.int .i64 b)) ∧ Below W2.heap.size W2 w' from ⟨⟨(HP.out.keep hb).cell 0 rfl, (HP.out.keep hb).cell 1 rfl, (HP.out.keep hb).cell 2 rfl, (HB.out.keep hb).cell 0 rfl⟩, hb⟩))
  have z1 := y1.out
  have z2 := y2.out
  have z3 := y3.out
  have z4 := y4.out
  refine wp_region_held_drew (S := fun w' => (w'.cell? ⟨w2.heap.size, 0, none⟩ = some (.int .i64 P) ∧ w'.cell? ⟨w2.heap.size, 1, none⟩ = some (.int .i64 K) ∧ w'.cell? ⟨w2.heap.size, 2, none⟩ = some (.int .i64 F) ∧ w'.cell? ⟨w.heap.size, 0, none⟩ = some (.int .i64 b)) ∧ Below W2.heap.size W2 w') (by kernel_rfl) (S0.out _ (dr2 W2)) (fun hHeld => ?_)
  refine wpAnyH_take (i := 0) (v := ?va0) rfl (by kernel_rfl) (by kernel_rfl) (by kernel_rfl) (fun _ _ _ h => h) (Or.inl ⟨by rfl, ?hy0⟩) (by assumption) ?ra0
  case hy0 => (intro w hSw; (try dsimp only at hSw); go_simp <;> with_reducible rfl)
  try simp only [Act.put, List.getElem_toArray, List.getElem_cons_zero, List.setIfInBounds_toArray, List.set_cons_zero, List.set_cons_succ]
  refine wpAnyH_ready (rs := [1]) (by kernel_rfl) (by simp) ?_
  refine AllReadyH.cons rfl (fun K hK => ?_) AllReadyH.nil
  go_simp
  refine (B0.out _).mono ?_
  rintro e9 w3 ⟨rfl, hb⟩
  have TB1 := hide (bt (dr2 W2) hb)
  clear hb
  go_wp2_with fail
  refine hK.out _ _ (S0.out _ TB1.out) (fun hHeld => ?_)
  clear hK K
  try simp only [Act.put, List.getElem_toArray, List.getElem_cons_zero, List.getElem_cons_succ, List.setIfInBounds_toArray, List.set_cons_zero, List.set_cons_succ]
  refine wpAnyH_take (i := 2) (v := ?va2) rfl (by kernel_rfl) (by kernel_rfl) (by kernel_rfl) (fun _ _ _ h => h) (Or.inl ⟨by rfl, ?hy2⟩) (by assumption) ?ra2
  case hy2 => (intro w hSw; (try dsimp only at hSw); go_simp <;> with_reducible rfl)
  try simp only [Act.put, List.getElem_toArray, List.getElem_cons_zero, List.getElem_cons_succ, List.setIfInBounds_toArray, List.set_cons_zero, List.set_cons_succ]
  refine wpAnyH_take (i := 3) (v := ?va3) rfl (by kernel_rfl) (by kernel_rfl) (by kernel_rfl) (fun _ _ _ h => h) (Or.inl ⟨by rfl, ?hy3⟩) (by assumption) ?ra3
  case hy3 => (intro w hSw; (try dsimp only at hSw); go_simp <;> with_reducible rfl)
  try simp only [Act.put, List.getElem_toArray, List.getElem_cons_zero, List.getElem_cons_succ, List.setIfInBounds_toArray, List.set_cons_zero, List.set_cons_succ]
  refine wpAnyH_take (i := 4) (v := ?va4) rfl (by kernel_rfl) (by kernel_rfl) (by kernel_rfl) (fun _ _ _ h => h) (Or.inl ⟨by rfl, ?hy4⟩) (by assumption) ?ra4
  case hy4 => (intro w hSw; (try dsimp only at hSw); go_simp <;> with_reducible rfl)
  try simp only [Act.put, List.getElem_toArray, List.getElem_cons_zero, List.getElem_cons_succ, List.setIfInBounds_toArray, List.set_cons_zero, List.set_cons_succ]
  refine wpAnyH_take (i := 6) (v := ?va6) rfl (by kernel_rfl) (by kernel_rfl) (by kernel_rfl) (fun _ _ _ h => h) (Or.inl ⟨by rfl, ?hy6⟩) (by assumption) ?ra6
  case hy6 => (intro w hSw; (try dsimp only at hSw); go_simp <;> with_reducible rfl)
  try simp only [Act.put, List.getElem_toArray, List.getElem_cons_zero, List.getElem_cons_succ, List.setIfInBounds_toArray, List.set_cons_zero, List.set_cons_succ]
  refine wpAnyH_take (i := 7) (v := ?va7) rfl (by kernel_rfl) (by kernel_rfl) (by kernel_rfl) (fun _ _ _ h => h) (Or.inl ⟨by rfl, ?hy7⟩) (by assumption) ?ra7
  case hy7 => (intro w hSw; (try dsimp only at hSw); go_simp <;> with_reducible rfl)
  try simp only [Act.put, List.getElem_toArray, List.getElem_cons_zero, List.getElem_cons_succ, List.setIfInBounds_toArray, List.set_cons_zero, List.set_cons_succ]
  refine wpAnyH_take (i := 8) (v := ?va8) rfl (by kernel_rfl) (by kernel_rfl) (by kernel_rfl) (fun _ _ _ h => h) (Or.inl ⟨by rfl, ?hy8⟩) (by assumption) ?ra8
  case hy8 => (intro w hSw; (try dsimp only at hSw); go_simp <;> with_reducible rfl)
  try simp only [Act.put, List.getElem_toArray, List.getElem_cons_zero, List.getElem_cons_succ, List.setIfInBounds_toArray, List.set_cons_zero, List.set_cons_succ]
  refine wpAnyH_ready (rs := [5]) (by kernel_rfl) (by simp) ?_
  refine AllReadyH.cons rfl (fun K hK => ?_) AllReadyH.nil
  go_simp
  refine (B1.out _).mono ?_
  rintro e9 w4 ⟨rfl, hb⟩
  have TB2 := hide (bt TB1.out hb)
  clear hb
  go_wp2_with fail
  refine hK.out _ _ (S0.out _ TB2.out) (fun hHeld => ?_)
  clear hK K
  try simp only [Act.put, List.getElem_toArray, List.getElem_cons_zero, List.getElem_cons_succ, List.setIfInBounds_toArray, List.set_cons_zero, List.set_cons_succ]
  refine wpAnyH_take (i := 9) (v := ?va9) rfl (by kernel_rfl) (by kernel_rfl) (by kernel_rfl) (fun _ _ _ h => h) (Or.inl ⟨by rfl, ?hy9⟩) (by assumption) ?ra9
  case hy9 => (intro w hSw; (try dsimp only at hSw); go_simp <;> with_reducible rfl)
  try simp only [Act.put, List.getElem_toArray, List.getElem_cons_zero, List.getElem_cons_succ, List.setIfInBounds_toArray, List.set_cons_zero, List.set_cons_succ]
  refine wpAnyH_take (i := 10) (v := ?va10) rfl (by kernel_rfl) (by kernel_rfl) (by kernel_rfl) (fun _ _ _ h => h) (Or.inl ⟨by rfl, ?hy10⟩) (by assumption) ?ra10
  case hy10 => (intro w hSw; (try dsimp only at hSw); go_simp <;> with_reducible rfl)
  try simp only [Act.put, List.getElem_toArray, List.getElem_cons_zero, List.getElem_cons_succ, List.setIfInBounds_toArray, List.set_cons_zero, List.set_cons_succ]
  refine wpAnyH_take (i := 11) (v := ?va11) rfl (by kernel_rfl) (by kernel_rfl) (by kernel_rfl) (fun _ _ _ h => h) (Or.inl ⟨by rfl, ?hy11⟩) (by assumption) ?ra11
  case hy11 => (intro w hSw; (try dsimp only at hSw); go_simp <;> with_reducible rfl)
  try simp only [Act.put, List.getElem_toArray, List.getElem_cons_zero, List.getElem_cons_succ, List.setIfInBounds_toArray, List.set_cons_zero, List.set_cons_succ]
  refine wpAnyH_take (i := 12) (v := ?va12) rfl (by kernel_rfl) (by kernel_rfl) (by kernel_rfl) (fun _ _ _ h => h) (Or.inl ⟨by rfl, ?hy12⟩) (by assumption) ?ra12
  case hy12 => (intro w hSw; (try dsimp only at hSw); go_simp <;> with_reducible rfl)
  try simp only [Act.put, List.getElem_toArray, List.getElem_cons_zero, List.getElem_cons_succ, List.setIfInBounds_toArray, List.set_cons_zero, List.set_cons_succ]
  refine wpAnyH_take (i := 13) (v := ?va13) rfl (by kernel_rfl) (by kernel_rfl) (by kernel_rfl) (fun _ _ _ h => h) (Or.inl ⟨by rfl, ?hy13⟩) (by assumption) ?ra13
  case hy13 => (intro w hSw; (try dsimp only at hSw); go_simp <;> with_reducible rfl)
  try simp only [Act.put, List.getElem_toArray, List.getElem_cons_zero, List.getElem_cons_succ, List.setIfInBounds_toArray, List.set_cons_zero, List.set_cons_succ]
  refine wpAnyH_take (i := 14) (v := ?va14) rfl (by kernel_rfl) (by kernel_rfl) (by kernel_rfl) (fun _ _ _ h => h) (Or.inl ⟨by rfl, ?hy14⟩) (by assumption) ?ra14
  case hy14 => (intro w hSw; (try dsimp only at hSw); go_simp <;> with_reducible rfl)
  try simp only [Act.put, List.getElem_toArray, List.getElem_cons_zero, List.getElem_cons_succ, List.setIfInBounds_toArray, List.set_cons_zero, List.set_cons_succ]
  refine wpAnyH_take (i := 15) (v := ?va15) rfl (by kernel_rfl) (by kernel_rfl) (by kernel_rfl) (fun _ _ _ h => h) (Or.inl ⟨by rfl, ?hy15⟩) (by assumption) ?ra15
  case hy15 => (intro w hSw; (try dsimp only at hSw); go_simp <;> with_reducible rfl)
  try simp only [Act.put, List.getElem_toArray, List.getElem_cons_zero, List.getElem_cons_succ, List.setIfInBounds_toArray, List.set_cons_zero, List.set_cons_succ]
  refine wpAnyH_take (i := 16) (v := ?va16) rfl (by kernel_rfl) (by kernel_rfl) (by kernel_rfl) (fun _ _ _ h => h) (Or.inl ⟨by rfl, ?hy16⟩) (by assumption) ?ra16
  case hy16 => (intro w hSw; (try dsimp only at hSw); go_simp <;> with_reducible rfl)
  try simp only [Act.put, List.getElem_toArray, List.getElem_cons_zero, List.getElem_cons_succ, List.setIfInBounds_toArray, List.set_cons_zero, List.set_cons_succ]
  refine wpAnyH_take (i := 17) (v := ?va17) rfl (by kernel_rfl) (by kernel_rfl) (by kernel_rfl) (fun _ _ _ h => h) (Or.inl ⟨by rfl, ?hy17⟩) (by assumption) ?ra17
  case hy17 => (intro w hSw; (try dsimp only at hSw); go_simp <;> with_reducible rfl)
  try simp only [Act.put, List.getElem_toArray, List.getElem_cons_zero, List.getElem_cons_succ, List.setIfInBounds_toArray, List.set_cons_zero, List.set_cons_succ]
  refine wpAnyH_take (i := 18) (v := ?va18) rfl (by kernel_rfl) (by kernel_rfl) (by kernel_rfl) (fun _ _ _ h => h) (Or.inl ⟨by rfl, ?hy18⟩) (by assumption) ?ra18
  case hy18 => (intro w hSw; (try dsimp only at hSw); go_simp <;> with_reducible rfl)
  try simp only [Act.put, List.getElem_toArray, List.getElem_cons_zero, List.getElem_cons_succ, List.setIfInBounds_toArray, List.set_cons_zero, List.set_cons_succ]
  refine wpAnyH_take (i := 19) (v := ?va19) rfl (by kernel_rfl) (by kernel_rfl) (by kernel_rfl) (fun _ _ _ h => h) (Or.inl ⟨by rfl, ?hy19⟩) (by assumption) ?ra19
  case hy19 => (intro w hSw; (try dsimp only at hSw); go_simp <;> with_reducible rfl)
  try simp only [Act.put, List.getElem_toArray, List.getElem_cons_zero, List.getElem_cons_succ, List.setIfInBounds_toArray, List.set_cons_zero, List.set_cons_succ]
  refine wpAnyH_done (by kernel_rfl) ?_ _
  clear z1 z2 z3 z4
  obtain ⟨⟨q0, q1, q2, qb⟩, _⟩ := S0.out _ TB2.out
  go_wp2_with fail
  refine (BN.out _).mono ?_
  rintro y w5 ⟨rfl, hb⟩
  have TB3 := hide (bt TB2.out hb)
  clear hb q0 q1 q2 qb BN
  obtain ⟨⟨q0, q1, q2, qb⟩, _⟩ := S0.out _ TB3.out
  go_wp2_with fail
  refine (BO.out _).mono ?_
  rintro y w6 ⟨rfl, hb⟩
  have TB4 := hide (bt TB3.out hb)
  clear hb q0 q1 q2 qb BO
  obtain ⟨⟨q0, q1, q2, qb⟩, _⟩ := S0.out _ TB4.out
  go_wp2
  go_ret
  exact ⟨rfl, bt HL.out TB4.out⟩
set_option maxRecDepth 8000 in
set_option maxHeartbeats 6400000 in
theorem apart_loin (w : World) (b c r no ot : Int) (hm : mayB b c r = true) (hn : no < 1) (ho : 1 ≤ ot ∧ ot ≤ pgs b) : Calls Try.prog 5 #[.agg #[.int .i64 b, .int .i64 c, .int .i64 r], .int .i64 no, .int .i64 ot] w fun e w' => e = .returned (.bool true) ∧ Below w.heap.size w w' := by
  have HA := hide (al w (.cells #[.int .i64 b, .int .i64 c, .int .i64 r] 25))
  have HB := hide (Bx.new w 25 #[.int .i64 b, .int .i64 c, .int .i64 r])
  obtain ⟨⟨hb0, hb1⟩, _⟩ := mayB_iff.1 hm
  have L := ly hb0 hb1
  have PL := hide fun w1 => Plan_any w1 b c r
  unfold plA plE at PL
  rw [hm] at PL
  simp only [↓reduceIte] at PL
  generalize pgs b = P at *
  generalize bnk b = K at *
  generalize fsb b = F at *
  obtain ⟨⟨_, _⟩, ⟨p0, p1⟩, ⟨k0, k1⟩, hF, ⟨u0, u1⟩, m, i⟩ := L
  have B0 := hide fun w1 => Bank_any w1 P K F 0
  have B1 := hide fun w1 => Bank_any w1 P K F 1
  rw [if_pos rfl] at B0
  rw [if_neg (by decide), if_pos rfl, wr64 (by omega)] at B1
  have BN := hide fun w1 => Block_any w1 P K F no
  have BO := hide fun w1 => Block_any w1 P K F ot
  unfold blA isF at BN BO
  have no1 : decide (1 ≤ no) = false := by simp; omega
  rw [no1] at BN
  simp only [Bool.false_and, Bool.false_eq_true, ↓reduceIte] at BN
  have ot1 : decide (1 ≤ ot) = true := by simp; omega
  have ot2 : decide (ot ≤ P) = true := by simp; omega
  rw [ot1, ot2, wr64 (x := F + ot) (by omega), wr64 (x := F + ot - 1) (by omega)] at BO
  simp only [Bool.and_self, ↓reduceIte] at BO
  unfold cfv plv at *
  have x1 : decide (P < 1) = false := by simp; omega
  have x2 : decide (K < 1) = false := by simp; omega
  have x3 : decide (P ≤ (K - 1) * 240) = false := by simp; omega
  have x4 : decide (K * 240 < P) = false := by simp; omega
  have ht : (P + 240).tdiv 240 = (P + 240) / 240 := Int.tdiv_eq_ediv_of_nonneg (by omega)
  have hq : 1 ≤ (P + 240) / 240 ∧ (P + 240) / 240 ≤ 272 := by omega
  have x5 : decide (2 + 2 * ((P + 240) / 240) + P + 1 ≤ b) = false := by simp; omega
  have x6 : (F == 2 + 2 * K) = true := by simpa using hF
  have x7 : (2 + K == 2 + K) = true := by simp
  have x8 : F ≤ 544 ∧ 4 ≤ F := by omega
  have y1 : Hid (IntKind.i64.wrap (2 + K) = 2 + K) := by show _ = _; rw [IntKind.wrap_i64]; omega
  have y2 : Hid (IntKind.i64.wrap (2 * K) = 2 * K) := by show _ = _; rw [IntKind.wrap_i64]; omega
  have y3 : Hid (IntKind.i64.wrap (2 + 2 * K) = 2 + 2 * K) := by show _ = _; rw [IntKind.wrap_i64]; omega
  have y4 : Hid (IntKind.i64.wrap (2 + K + K) = 2 + K + K) := by show _ = _; rw [IntKind.wrap_i64]; omega
  have x9 : (F != 2 + 2 * K) = false := by simpa using hF
  have HF := hide hF
  clear hm hF u0 u1 m i
  go_enter Try.func5, Try.ntmps5
  go_wp2_with fail
  refine (works_any _).mono ?_
  rintro y w1 ⟨rfl, hb⟩
  have HL := hide (bt HA.out hb)
  have HB := hide (HB.out.keep hb)
  clear hb
  go_wp2_with (refine wpList_load_row rfl 25 _ rfl w.heap.size rfl 25 _ (0, 0) _ HB.out Try.underlying25 rfl sizeCfg ?_)
  refine (PL.out _).mono ?_
  rintro y w2 ⟨rfl, hb⟩
  have HL := hide (bt HL.out (bt hb (al w2 (.cells #[.int .i64 P, .int .i64 K, .int .i64 F] 42))))
  have HB := hide ((HB.out.keep hb).keep (al w2 (.cells #[.int .i64 P, .int .i64 K, .int .i64 F] 42)))
  have HP := hide (Bx.new w2 42 #[.int .i64 P, .int .i64 K, .int .i64 F])
  clear hb
  go_wp2
  generalize w2.alloc (.cells #[.int .i64 P, .int .i64 K, .int .i64 F] 42) = W2 at *
  have S0 := hide (fun (w' : World) (hb : Below W2.heap.size W2 w') => (show (w'.cell? ⟨w2.heap.size, 0, none⟩ = some (.int .i64 P) ∧ w'.cell? ⟨w2.heap.size, 1, none⟩ = some (.int .i64 K) ∧ w'.cell? ⟨w2.heap.size, 2, none⟩ = some (.int .i64 F) ∧ w'.cell? ⟨w.heap.size, 0, none⟩ = some (.int .i64 b)) ∧ Below W2.heap.size W2 w' from ⟨⟨(HP.out.keep hb).cell 0 rfl, (HP.out.keep hb).cell 1 rfl, (HP.out.keep hb).cell 2 rfl, (HB.out.keep hb).cell 0 rfl⟩, hb⟩))
  have z1 := y1.out
  have z2 := y2.out
  have z3 := y3.out
  have z4 := y4.out
  refine wp_region_held_drew (S := fun w' => (w'.cell? ⟨w2.heap.size, 0, none⟩ = some (.int .i64 P) ∧ w'.cell? ⟨w2.heap.size, 1, none⟩ = some (.int .i64 K) ∧ w'.cell? ⟨w2.heap.size, 2, none⟩ = some (.int .i64 F) ∧ w'.cell? ⟨w.heap.size, 0, none⟩ = some (.int .i64 b)) ∧ Below W2.heap.size W2 w') (by kernel_rfl) (S0.out _ (dr2 W2)) (fun hHeld => ?_)
  refine wpAnyH_take (i := 0) (v := ?va0) rfl (by kernel_rfl) (by kernel_rfl) (by kernel_rfl) (fun _ _ _ h => h) (Or.inl ⟨by rfl, ?hy0⟩) (by assumption) ?ra0
  case hy0 => (intro w hSw; (try dsimp only at hSw); go_simp <;> with_reducible rfl)
  try simp only [Act.put, List.getElem_toArray, List.getElem_cons_zero, List.setIfInBounds_toArray, List.set_cons_zero, List.set_cons_succ]
  refine wpAnyH_ready (rs := [1]) (by kernel_rfl) (by simp) ?_
  refine AllReadyH.cons rfl (fun K hK => ?_) AllReadyH.nil
  go_simp
  refine (B0.out _).mono ?_
  rintro e9 w3 ⟨rfl, hb⟩
  have TB1 := hide (bt (dr2 W2) hb)
  clear hb
  go_wp2_with fail
  refine hK.out _ _ (S0.out _ TB1.out) (fun hHeld => ?_)
  clear hK K
  try simp only [Act.put, List.getElem_toArray, List.getElem_cons_zero, List.getElem_cons_succ, List.setIfInBounds_toArray, List.set_cons_zero, List.set_cons_succ]
  refine wpAnyH_take (i := 2) (v := ?va2) rfl (by kernel_rfl) (by kernel_rfl) (by kernel_rfl) (fun _ _ _ h => h) (Or.inl ⟨by rfl, ?hy2⟩) (by assumption) ?ra2
  case hy2 => (intro w hSw; (try dsimp only at hSw); go_simp <;> with_reducible rfl)
  try simp only [Act.put, List.getElem_toArray, List.getElem_cons_zero, List.getElem_cons_succ, List.setIfInBounds_toArray, List.set_cons_zero, List.set_cons_succ]
  refine wpAnyH_take (i := 3) (v := ?va3) rfl (by kernel_rfl) (by kernel_rfl) (by kernel_rfl) (fun _ _ _ h => h) (Or.inl ⟨by rfl, ?hy3⟩) (by assumption) ?ra3
  case hy3 => (intro w hSw; (try dsimp only at hSw); go_simp <;> with_reducible rfl)
  try simp only [Act.put, List.getElem_toArray, List.getElem_cons_zero, List.getElem_cons_succ, List.setIfInBounds_toArray, List.set_cons_zero, List.set_cons_succ]
  refine wpAnyH_take (i := 4) (v := ?va4) rfl (by kernel_rfl) (by kernel_rfl) (by kernel_rfl) (fun _ _ _ h => h) (Or.inl ⟨by rfl, ?hy4⟩) (by assumption) ?ra4
  case hy4 => (intro w hSw; (try dsimp only at hSw); go_simp <;> with_reducible rfl)
  try simp only [Act.put, List.getElem_toArray, List.getElem_cons_zero, List.getElem_cons_succ, List.setIfInBounds_toArray, List.set_cons_zero, List.set_cons_succ]
  refine wpAnyH_take (i := 6) (v := ?va6) rfl (by kernel_rfl) (by kernel_rfl) (by kernel_rfl) (fun _ _ _ h => h) (Or.inl ⟨by rfl, ?hy6⟩) (by assumption) ?ra6
  case hy6 => (intro w hSw; (try dsimp only at hSw); go_simp <;> with_reducible rfl)
  try simp only [Act.put, List.getElem_toArray, List.getElem_cons_zero, List.getElem_cons_succ, List.setIfInBounds_toArray, List.set_cons_zero, List.set_cons_succ]
  refine wpAnyH_take (i := 7) (v := ?va7) rfl (by kernel_rfl) (by kernel_rfl) (by kernel_rfl) (fun _ _ _ h => h) (Or.inl ⟨by rfl, ?hy7⟩) (by assumption) ?ra7
  case hy7 => (intro w hSw; (try dsimp only at hSw); go_simp <;> with_reducible rfl)
  try simp only [Act.put, List.getElem_toArray, List.getElem_cons_zero, List.getElem_cons_succ, List.setIfInBounds_toArray, List.set_cons_zero, List.set_cons_succ]
  refine wpAnyH_take (i := 8) (v := ?va8) rfl (by kernel_rfl) (by kernel_rfl) (by kernel_rfl) (fun _ _ _ h => h) (Or.inl ⟨by rfl, ?hy8⟩) (by assumption) ?ra8
  case hy8 => (intro w hSw; (try dsimp only at hSw); go_simp <;> with_reducible rfl)
  try simp only [Act.put, List.getElem_toArray, List.getElem_cons_zero, List.getElem_cons_succ, List.setIfInBounds_toArray, List.set_cons_zero, List.set_cons_succ]
  refine wpAnyH_ready (rs := [5]) (by kernel_rfl) (by simp) ?_
  refine AllReadyH.cons rfl (fun K hK => ?_) AllReadyH.nil
  go_simp
  refine (B1.out _).mono ?_
  rintro e9 w4 ⟨rfl, hb⟩
  have TB2 := hide (bt TB1.out hb)
  clear hb
  go_wp2_with fail
  refine hK.out _ _ (S0.out _ TB2.out) (fun hHeld => ?_)
  clear hK K
  try simp only [Act.put, List.getElem_toArray, List.getElem_cons_zero, List.getElem_cons_succ, List.setIfInBounds_toArray, List.set_cons_zero, List.set_cons_succ]
  refine wpAnyH_take (i := 9) (v := ?va9) rfl (by kernel_rfl) (by kernel_rfl) (by kernel_rfl) (fun _ _ _ h => h) (Or.inl ⟨by rfl, ?hy9⟩) (by assumption) ?ra9
  case hy9 => (intro w hSw; (try dsimp only at hSw); go_simp <;> with_reducible rfl)
  try simp only [Act.put, List.getElem_toArray, List.getElem_cons_zero, List.getElem_cons_succ, List.setIfInBounds_toArray, List.set_cons_zero, List.set_cons_succ]
  refine wpAnyH_take (i := 10) (v := ?va10) rfl (by kernel_rfl) (by kernel_rfl) (by kernel_rfl) (fun _ _ _ h => h) (Or.inl ⟨by rfl, ?hy10⟩) (by assumption) ?ra10
  case hy10 => (intro w hSw; (try dsimp only at hSw); go_simp <;> with_reducible rfl)
  try simp only [Act.put, List.getElem_toArray, List.getElem_cons_zero, List.getElem_cons_succ, List.setIfInBounds_toArray, List.set_cons_zero, List.set_cons_succ]
  refine wpAnyH_take (i := 11) (v := ?va11) rfl (by kernel_rfl) (by kernel_rfl) (by kernel_rfl) (fun _ _ _ h => h) (Or.inl ⟨by rfl, ?hy11⟩) (by assumption) ?ra11
  case hy11 => (intro w hSw; (try dsimp only at hSw); go_simp <;> with_reducible rfl)
  try simp only [Act.put, List.getElem_toArray, List.getElem_cons_zero, List.getElem_cons_succ, List.setIfInBounds_toArray, List.set_cons_zero, List.set_cons_succ]
  refine wpAnyH_take (i := 12) (v := ?va12) rfl (by kernel_rfl) (by kernel_rfl) (by kernel_rfl) (fun _ _ _ h => h) (Or.inl ⟨by rfl, ?hy12⟩) (by assumption) ?ra12
  case hy12 => (intro w hSw; (try dsimp only at hSw); go_simp <;> with_reducible rfl)
  try simp only [Act.put, List.getElem_toArray, List.getElem_cons_zero, List.getElem_cons_succ, List.setIfInBounds_toArray, List.set_cons_zero, List.set_cons_succ]
  refine wpAnyH_take (i := 13) (v := ?va13) rfl (by kernel_rfl) (by kernel_rfl) (by kernel_rfl) (fun _ _ _ h => h) (Or.inl ⟨by rfl, ?hy13⟩) (by assumption) ?ra13
  case hy13 => (intro w hSw; (try dsimp only at hSw); go_simp <;> with_reducible rfl)
  try simp only [Act.put, List.getElem_toArray, List.getElem_cons_zero, List.getElem_cons_succ, List.setIfInBounds_toArray, List.set_cons_zero, List.set_cons_succ]
  refine wpAnyH_take (i := 14) (v := ?va14) rfl (by kernel_rfl) (by kernel_rfl) (by kernel_rfl) (fun _ _ _ h => h) (Or.inl ⟨by rfl, ?hy14⟩) (by assumption) ?ra14
  case hy14 => (intro w hSw; (try dsimp only at hSw); go_simp <;> with_reducible rfl)
  try simp only [Act.put, List.getElem_toArray, List.getElem_cons_zero, List.getElem_cons_succ, List.setIfInBounds_toArray, List.set_cons_zero, List.set_cons_succ]
  refine wpAnyH_take (i := 15) (v := ?va15) rfl (by kernel_rfl) (by kernel_rfl) (by kernel_rfl) (fun _ _ _ h => h) (Or.inl ⟨by rfl, ?hy15⟩) (by assumption) ?ra15
  case hy15 => (intro w hSw; (try dsimp only at hSw); go_simp <;> with_reducible rfl)
  try simp only [Act.put, List.getElem_toArray, List.getElem_cons_zero, List.getElem_cons_succ, List.setIfInBounds_toArray, List.set_cons_zero, List.set_cons_succ]
  refine wpAnyH_take (i := 16) (v := ?va16) rfl (by kernel_rfl) (by kernel_rfl) (by kernel_rfl) (fun _ _ _ h => h) (Or.inl ⟨by rfl, ?hy16⟩) (by assumption) ?ra16
  case hy16 => (intro w hSw; (try dsimp only at hSw); go_simp <;> with_reducible rfl)
  try simp only [Act.put, List.getElem_toArray, List.getElem_cons_zero, List.getElem_cons_succ, List.setIfInBounds_toArray, List.set_cons_zero, List.set_cons_succ]
  refine wpAnyH_take (i := 17) (v := ?va17) rfl (by kernel_rfl) (by kernel_rfl) (by kernel_rfl) (fun _ _ _ h => h) (Or.inl ⟨by rfl, ?hy17⟩) (by assumption) ?ra17
  case hy17 => (intro w hSw; (try dsimp only at hSw); go_simp <;> with_reducible rfl)
  try simp only [Act.put, List.getElem_toArray, List.getElem_cons_zero, List.getElem_cons_succ, List.setIfInBounds_toArray, List.set_cons_zero, List.set_cons_succ]
  refine wpAnyH_take (i := 18) (v := ?va18) rfl (by kernel_rfl) (by kernel_rfl) (by kernel_rfl) (fun _ _ _ h => h) (Or.inl ⟨by rfl, ?hy18⟩) (by assumption) ?ra18
  case hy18 => (intro w hSw; (try dsimp only at hSw); go_simp <;> with_reducible rfl)
  try simp only [Act.put, List.getElem_toArray, List.getElem_cons_zero, List.getElem_cons_succ, List.setIfInBounds_toArray, List.set_cons_zero, List.set_cons_succ]
  refine wpAnyH_take (i := 19) (v := ?va19) rfl (by kernel_rfl) (by kernel_rfl) (by kernel_rfl) (fun _ _ _ h => h) (Or.inl ⟨by rfl, ?hy19⟩) (by assumption) ?ra19
  case hy19 => (intro w hSw; (try dsimp only at hSw); go_simp <;> with_reducible rfl)
  try simp only [Act.put, List.getElem_toArray, List.getElem_cons_zero, List.getElem_cons_succ, List.setIfInBounds_toArray, List.set_cons_zero, List.set_cons_succ]
  refine wpAnyH_done (by kernel_rfl) ?_ _
  clear z1 z2 z3 z4
  obtain ⟨⟨q0, q1, q2, qb⟩, _⟩ := S0.out _ TB2.out
  go_wp2_with fail
  refine (BN.out _).mono ?_
  rintro y w5 ⟨rfl, hb⟩
  have TB3 := hide (bt TB2.out hb)
  clear hb q0 q1 q2 qb BN
  obtain ⟨⟨q0, q1, q2, qb⟩, _⟩ := S0.out _ TB3.out
  go_wp2_with fail
  refine (BO.out _).mono ?_
  rintro y w6 ⟨rfl, hb⟩
  have TB4 := hide (bt TB3.out hb)
  clear hb q0 q1 q2 qb BO
  obtain ⟨⟨q0, q1, q2, qb⟩, _⟩ := S0.out _ TB4.out
  go_wp2
  go_ret
  exact ⟨rfl, bt HL.out TB4.out⟩
set_option maxRecDepth 8000 in
set_option maxHeartbeats 6400000 in
theorem apart_hilo (w : World) (b c r no ot : Int) (hm : mayB b c r = true) (hn : 1 ≤ no ∧ pgs b < no) (ho : ot < 1) : Calls Try.prog 5 #[.agg #[.int .i64 b, .int .i64 c, .int .i64 r], .int .i64 no, .int .i64 ot] w fun e w' => e = .returned (.bool true) ∧ Below w.heap.size w w' := by
  have HA := hide (al w (.cells #[.int .i64 b, .int .i64 c, .int .i64 r] 25))
  have HB := hide (Bx.new w 25 #[.int .i64 b, .int .i64 c, .int .i64 r])
  obtain ⟨⟨hb0, hb1⟩, _⟩ := mayB_iff.1 hm
  have L := ly hb0 hb1
  have PL := hide fun w1 => Plan_any w1 b c r
  unfold plA plE at PL
  rw [hm] at PL
  simp only [↓reduceIte] at PL
  generalize pgs b = P at *
  generalize bnk b = K at *
  generalize fsb b = F at *
  obtain ⟨⟨_, _⟩, ⟨p0, p1⟩, ⟨k0, k1⟩, hF, ⟨u0, u1⟩, m, i⟩ := L
  have B0 := hide fun w1 => Bank_any w1 P K F 0
  have B1 := hide fun w1 => Bank_any w1 P K F 1
  rw [if_pos rfl] at B0
  rw [if_neg (by decide), if_pos rfl, wr64 (by omega)] at B1
  have BN := hide fun w1 => Block_any w1 P K F no
  have BO := hide fun w1 => Block_any w1 P K F ot
  unfold blA isF at BN BO
  have no1 : decide (1 ≤ no) = true := by simp; omega
  have no2 : decide (no ≤ P) = false := by simp; omega
  rw [no1, no2] at BN
  simp only [Bool.and_false, Bool.false_eq_true, ↓reduceIte] at BN
  have ot1 : decide (1 ≤ ot) = false := by simp; omega
  rw [ot1] at BO
  simp only [Bool.false_and, Bool.false_eq_true, ↓reduceIte] at BO
  unfold cfv plv at *
  have x1 : decide (P < 1) = false := by simp; omega
  have x2 : decide (K < 1) = false := by simp; omega
  have x3 : decide (P ≤ (K - 1) * 240) = false := by simp; omega
  have x4 : decide (K * 240 < P) = false := by simp; omega
  have ht : (P + 240).tdiv 240 = (P + 240) / 240 := Int.tdiv_eq_ediv_of_nonneg (by omega)
  have hq : 1 ≤ (P + 240) / 240 ∧ (P + 240) / 240 ≤ 272 := by omega
  have x5 : decide (2 + 2 * ((P + 240) / 240) + P + 1 ≤ b) = false := by simp; omega
  have x6 : (F == 2 + 2 * K) = true := by simpa using hF
  have x7 : (2 + K == 2 + K) = true := by simp
  have x8 : F ≤ 544 ∧ 4 ≤ F := by omega
  have y1 : Hid (IntKind.i64.wrap (2 + K) = 2 + K) := by show _ = _; rw [IntKind.wrap_i64]; omega
  have y2 : Hid (IntKind.i64.wrap (2 * K) = 2 * K) := by show _ = _; rw [IntKind.wrap_i64]; omega
  have y3 : Hid (IntKind.i64.wrap (2 + 2 * K) = 2 + 2 * K) := by show _ = _; rw [IntKind.wrap_i64]; omega
  have y4 : Hid (IntKind.i64.wrap (2 + K + K) = 2 + K + K) := by show _ = _; rw [IntKind.wrap_i64]; omega
  have x9 : (F != 2 + 2 * K) = false := by simpa using hF
  have HF := hide hF
  clear hm hF u0 u1 m i
  go_enter Try.func5, Try.ntmps5
  go_wp2_with fail
  refine (works_any _).mono ?_
  rintro y w1 ⟨rfl, hb⟩
  have HL := hide (bt HA.out hb)
  have HB := hide (HB.out.keep hb)
  clear hb
  go_wp2_with (refine wpList_load_row rfl 25 _ rfl w.heap.size rfl 25 _ (0, 0) _ HB.out Try.underlying25 rfl sizeCfg ?_)
  refine (PL.out _).mono ?_
  rintro y w2 ⟨rfl, hb⟩
  have HL := hide (bt HL.out (bt hb (al w2 (.cells #[.int .i64 P, .int .i64 K, .int .i64 F] 42))))
  have HB := hide ((HB.out.keep hb).keep (al w2 (.cells #[.int .i64 P, .int .i64 K, .int .i64 F] 42)))
  have HP := hide (Bx.new w2 42 #[.int .i64 P, .int .i64 K, .int .i64 F])
  clear hb
  go_wp2
  generalize w2.alloc (.cells #[.int .i64 P, .int .i64 K, .int .i64 F] 42) = W2 at *
  have S0 := hide (fun (w' : World) (hb : Below W2.heap.size W2 w') => (show (w'.cell? ⟨w2.heap.size, 0, none⟩ = some (.int .i64 P) ∧ w'.cell? ⟨w2.heap.size, 1, none⟩ = some (.int .i64 K) ∧ w'.cell? ⟨w2.heap.size, 2, none⟩ = some (.int .i64 F) ∧ w'.cell? ⟨w.heap.size, 0, none⟩ = some (.int .i64 b)) ∧ Below W2.heap.size W2 w' from ⟨⟨(HP.out.keep hb).cell 0 rfl, (HP.out.keep hb).cell 1 rfl, (HP.out.keep hb).cell 2 rfl, (HB.out.keep hb).cell 0 rfl⟩, hb⟩))
  have z1 := y1.out
  have z2 := y2.out
  have z3 := y3.out
  have z4 := y4.out
  refine wp_region_held_drew (S := fun w' => (w'.cell? ⟨w2.heap.size, 0, none⟩ = some (.int .i64 P) ∧ w'.cell? ⟨w2.heap.size, 1, none⟩ = some (.int .i64 K) ∧ w'.cell? ⟨w2.heap.size, 2, none⟩ = some (.int .i64 F) ∧ w'.cell? ⟨w.heap.size, 0, none⟩ = some (.int .i64 b)) ∧ Below W2.heap.size W2 w') (by kernel_rfl) (S0.out _ (dr2 W2)) (fun hHeld => ?_)
  refine wpAnyH_take (i := 0) (v := ?va0) rfl (by kernel_rfl) (by kernel_rfl) (by kernel_rfl) (fun _ _ _ h => h) (Or.inl ⟨by rfl, ?hy0⟩) (by assumption) ?ra0
  case hy0 => (intro w hSw; (try dsimp only at hSw); go_simp <;> with_reducible rfl)
  try simp only [Act.put, List.getElem_toArray, List.getElem_cons_zero, List.setIfInBounds_toArray, List.set_cons_zero, List.set_cons_succ]
  refine wpAnyH_ready (rs := [1]) (by kernel_rfl) (by simp) ?_
  refine AllReadyH.cons rfl (fun K hK => ?_) AllReadyH.nil
  go_simp
  refine (B0.out _).mono ?_
  rintro e9 w3 ⟨rfl, hb⟩
  have TB1 := hide (bt (dr2 W2) hb)
  clear hb
  go_wp2_with fail
  refine hK.out _ _ (S0.out _ TB1.out) (fun hHeld => ?_)
  clear hK K
  try simp only [Act.put, List.getElem_toArray, List.getElem_cons_zero, List.getElem_cons_succ, List.setIfInBounds_toArray, List.set_cons_zero, List.set_cons_succ]
  refine wpAnyH_take (i := 2) (v := ?va2) rfl (by kernel_rfl) (by kernel_rfl) (by kernel_rfl) (fun _ _ _ h => h) (Or.inl ⟨by rfl, ?hy2⟩) (by assumption) ?ra2
  case hy2 => (intro w hSw; (try dsimp only at hSw); go_simp <;> with_reducible rfl)
  try simp only [Act.put, List.getElem_toArray, List.getElem_cons_zero, List.getElem_cons_succ, List.setIfInBounds_toArray, List.set_cons_zero, List.set_cons_succ]
  refine wpAnyH_take (i := 3) (v := ?va3) rfl (by kernel_rfl) (by kernel_rfl) (by kernel_rfl) (fun _ _ _ h => h) (Or.inl ⟨by rfl, ?hy3⟩) (by assumption) ?ra3
  case hy3 => (intro w hSw; (try dsimp only at hSw); go_simp <;> with_reducible rfl)
  try simp only [Act.put, List.getElem_toArray, List.getElem_cons_zero, List.getElem_cons_succ, List.setIfInBounds_toArray, List.set_cons_zero, List.set_cons_succ]
  refine wpAnyH_take (i := 4) (v := ?va4) rfl (by kernel_rfl) (by kernel_rfl) (by kernel_rfl) (fun _ _ _ h => h) (Or.inl ⟨by rfl, ?hy4⟩) (by assumption) ?ra4
  case hy4 => (intro w hSw; (try dsimp only at hSw); go_simp <;> with_reducible rfl)
  try simp only [Act.put, List.getElem_toArray, List.getElem_cons_zero, List.getElem_cons_succ, List.setIfInBounds_toArray, List.set_cons_zero, List.set_cons_succ]
  refine wpAnyH_take (i := 6) (v := ?va6) rfl (by kernel_rfl) (by kernel_rfl) (by kernel_rfl) (fun _ _ _ h => h) (Or.inl ⟨by rfl, ?hy6⟩) (by assumption) ?ra6
  case hy6 => (intro w hSw; (try dsimp only at hSw); go_simp <;> with_reducible rfl)
  try simp only [Act.put, List.getElem_toArray, List.getElem_cons_zero, List.getElem_cons_succ, List.setIfInBounds_toArray, List.set_cons_zero, List.set_cons_succ]
  refine wpAnyH_take (i := 7) (v := ?va7) rfl (by kernel_rfl) (by kernel_rfl) (by kernel_rfl) (fun _ _ _ h => h) (Or.inl ⟨by rfl, ?hy7⟩) (by assumption) ?ra7
  case hy7 => (intro w hSw; (try dsimp only at hSw); go_simp <;> with_reducible rfl)
  try simp only [Act.put, List.getElem_toArray, List.getElem_cons_zero, List.getElem_cons_succ, List.setIfInBounds_toArray, List.set_cons_zero, List.set_cons_succ]
  refine wpAnyH_take (i := 8) (v := ?va8) rfl (by kernel_rfl) (by kernel_rfl) (by kernel_rfl) (fun _ _ _ h => h) (Or.inl ⟨by rfl, ?hy8⟩) (by assumption) ?ra8
  case hy8 => (intro w hSw; (try dsimp only at hSw); go_simp <;> with_reducible rfl)
  try simp only [Act.put, List.getElem_toArray, List.getElem_cons_zero, List.getElem_cons_succ, List.setIfInBounds_toArray, List.set_cons_zero, List.set_cons_succ]
  refine wpAnyH_ready (rs := [5]) (by kernel_rfl) (by simp) ?_
  refine AllReadyH.cons rfl (fun K hK => ?_) AllReadyH.nil
  go_simp
  refine (B1.out _).mono ?_
  rintro e9 w4 ⟨rfl, hb⟩
  have TB2 := hide (bt TB1.out hb)
  clear hb
  go_wp2_with fail
  refine hK.out _ _ (S0.out _ TB2.out) (fun hHeld => ?_)
  clear hK K
  try simp only [Act.put, List.getElem_toArray, List.getElem_cons_zero, List.getElem_cons_succ, List.setIfInBounds_toArray, List.set_cons_zero, List.set_cons_succ]
  refine wpAnyH_take (i := 9) (v := ?va9) rfl (by kernel_rfl) (by kernel_rfl) (by kernel_rfl) (fun _ _ _ h => h) (Or.inl ⟨by rfl, ?hy9⟩) (by assumption) ?ra9
  case hy9 => (intro w hSw; (try dsimp only at hSw); go_simp <;> with_reducible rfl)
  try simp only [Act.put, List.getElem_toArray, List.getElem_cons_zero, List.getElem_cons_succ, List.setIfInBounds_toArray, List.set_cons_zero, List.set_cons_succ]
  refine wpAnyH_take (i := 10) (v := ?va10) rfl (by kernel_rfl) (by kernel_rfl) (by kernel_rfl) (fun _ _ _ h => h) (Or.inl ⟨by rfl, ?hy10⟩) (by assumption) ?ra10
  case hy10 => (intro w hSw; (try dsimp only at hSw); go_simp <;> with_reducible rfl)
  try simp only [Act.put, List.getElem_toArray, List.getElem_cons_zero, List.getElem_cons_succ, List.setIfInBounds_toArray, List.set_cons_zero, List.set_cons_succ]
  refine wpAnyH_take (i := 11) (v := ?va11) rfl (by kernel_rfl) (by kernel_rfl) (by kernel_rfl) (fun _ _ _ h => h) (Or.inl ⟨by rfl, ?hy11⟩) (by assumption) ?ra11
  case hy11 => (intro w hSw; (try dsimp only at hSw); go_simp <;> with_reducible rfl)
  try simp only [Act.put, List.getElem_toArray, List.getElem_cons_zero, List.getElem_cons_succ, List.setIfInBounds_toArray, List.set_cons_zero, List.set_cons_succ]
  refine wpAnyH_take (i := 12) (v := ?va12) rfl (by kernel_rfl) (by kernel_rfl) (by kernel_rfl) (fun _ _ _ h => h) (Or.inl ⟨by rfl, ?hy12⟩) (by assumption) ?ra12
  case hy12 => (intro w hSw; (try dsimp only at hSw); go_simp <;> with_reducible rfl)
  try simp only [Act.put, List.getElem_toArray, List.getElem_cons_zero, List.getElem_cons_succ, List.setIfInBounds_toArray, List.set_cons_zero, List.set_cons_succ]
  refine wpAnyH_take (i := 13) (v := ?va13) rfl (by kernel_rfl) (by kernel_rfl) (by kernel_rfl) (fun _ _ _ h => h) (Or.inl ⟨by rfl, ?hy13⟩) (by assumption) ?ra13
  case hy13 => (intro w hSw; (try dsimp only at hSw); go_simp <;> with_reducible rfl)
  try simp only [Act.put, List.getElem_toArray, List.getElem_cons_zero, List.getElem_cons_succ, List.setIfInBounds_toArray, List.set_cons_zero, List.set_cons_succ]
  refine wpAnyH_take (i := 14) (v := ?va14) rfl (by kernel_rfl) (by kernel_rfl) (by kernel_rfl) (fun _ _ _ h => h) (Or.inl ⟨by rfl, ?hy14⟩) (by assumption) ?ra14
  case hy14 => (intro w hSw; (try dsimp only at hSw); go_simp <;> with_reducible rfl)
  try simp only [Act.put, List.getElem_toArray, List.getElem_cons_zero, List.getElem_cons_succ, List.setIfInBounds_toArray, List.set_cons_zero, List.set_cons_succ]
  refine wpAnyH_take (i := 15) (v := ?va15) rfl (by kernel_rfl) (by kernel_rfl) (by kernel_rfl) (fun _ _ _ h => h) (Or.inl ⟨by rfl, ?hy15⟩) (by assumption) ?ra15
  case hy15 => (intro w hSw; (try dsimp only at hSw); go_simp <;> with_reducible rfl)
  try simp only [Act.put, List.getElem_toArray, List.getElem_cons_zero, List.getElem_cons_succ, List.setIfInBounds_toArray, List.set_cons_zero, List.set_cons_succ]
  refine wpAnyH_take (i := 16) (v := ?va16) rfl (by kernel_rfl) (by kernel_rfl) (by kernel_rfl) (fun _ _ _ h => h) (Or.inl ⟨by rfl, ?hy16⟩) (by assumption) ?ra16
  case hy16 => (intro w hSw; (try dsimp only at hSw); go_simp <;> with_reducible rfl)
  try simp only [Act.put, List.getElem_toArray, List.getElem_cons_zero, List.getElem_cons_succ, List.setIfInBounds_toArray, List.set_cons_zero, List.set_cons_succ]
  refine wpAnyH_take (i := 17) (v := ?va17) rfl (by kernel_rfl) (by kernel_rfl) (by kernel_rfl) (fun _ _ _ h => h) (Or.inl ⟨by rfl, ?hy17⟩) (by assumption) ?ra17
  case hy17 => (intro w hSw; (try dsimp only at hSw); go_simp <;> with_reducible rfl)
  try simp only [Act.put, List.getElem_toArray, List.getElem_cons_zero, List.getElem_cons_succ, List.setIfInBounds_toArray, List.set_cons_zero, List.set_cons_succ]
  refine wpAnyH_take (i := 18) (v := ?va18) rfl (by kernel_rfl) (by kernel_rfl) (by kernel_rfl) (fun _ _ _ h => h) (Or.inl ⟨by rfl, ?hy18⟩) (by assumption) ?ra18
  case hy18 => (intro w hSw; (try dsimp only at hSw); go_simp <;> with_reducible rfl)
  try simp only [Act.put, List.getElem_toArray, List.getElem_cons_zero, List.getElem_cons_succ, List.setIfInBounds_toArray, List.set_cons_zero, List.set_cons_succ]
  refine wpAnyH_take (i := 19) (v := ?va19) rfl (by kernel_rfl) (by kernel_rfl) (by kernel_rfl) (fun _ _ _ h => h) (Or.inl ⟨by rfl, ?hy19⟩) (by assumption) ?ra19
  case hy19 => (intro w hSw; (try dsimp only at hSw); go_simp <;> with_reducible rfl)
  try simp only [Act.put, List.getElem_toArray, List.getElem_cons_zero, List.getElem_cons_succ, List.setIfInBounds_toArray, List.set_cons_zero, List.set_cons_succ]
  refine wpAnyH_done (by kernel_rfl) ?_ _
  clear z1 z2 z3 z4
  obtain ⟨⟨q0, q1, q2, qb⟩, _⟩ := S0.out _ TB2.out
  go_wp2_with fail
  refine (BN.out _).mono ?_
  rintro y w5 ⟨rfl, hb⟩
  have TB3 := hide (bt TB2.out hb)
  clear hb q0 q1 q2 qb BN
  obtain ⟨⟨q0, q1, q2, qb⟩, _⟩ := S0.out _ TB3.out
  go_wp2_with fail
  refine (BO.out _).mono ?_
  rintro y w6 ⟨rfl, hb⟩
  have TB4 := hide (bt TB3.out hb)
  clear hb q0 q1 q2 qb BO
  obtain ⟨⟨q0, q1, q2, qb⟩, _⟩ := S0.out _ TB4.out
  go_wp2
  go_ret
  exact ⟨rfl, bt HL.out TB4.out⟩
set_option maxRecDepth 8000 in
set_option maxHeartbeats 6400000 in
theorem apart_hihi (w : World) (b c r no ot : Int) (hm : mayB b c r = true) (hn : 1 ≤ no ∧ pgs b < no) (ho : 1 ≤ ot ∧ pgs b < ot) : Calls Try.prog 5 #[.agg #[.int .i64 b, .int .i64 c, .int .i64 r], .int .i64 no, .int .i64 ot] w fun e w' => e = .returned (.bool true) ∧ Below w.heap.size w w' := by
  have HA := hide (al w (.cells #[.int .i64 b, .int .i64 c, .int .i64 r] 25))
  have HB := hide (Bx.new w 25 #[.int .i64 b, .int .i64 c, .int .i64 r])
  obtain ⟨⟨hb0, hb1⟩, _⟩ := mayB_iff.1 hm
  have L := ly hb0 hb1
  have PL := hide fun w1 => Plan_any w1 b c r
  unfold plA plE at PL
  rw [hm] at PL
  simp only [↓reduceIte] at PL
  generalize pgs b = P at *
  generalize bnk b = K at *
  generalize fsb b = F at *
  obtain ⟨⟨_, _⟩, ⟨p0, p1⟩, ⟨k0, k1⟩, hF, ⟨u0, u1⟩, m, i⟩ := L
  have B0 := hide fun w1 => Bank_any w1 P K F 0
  have B1 := hide fun w1 => Bank_any w1 P K F 1
  rw [if_pos rfl] at B0
  rw [if_neg (by decide), if_pos rfl, wr64 (by omega)] at B1
  have BN := hide fun w1 => Block_any w1 P K F no
  have BO := hide fun w1 => Block_any w1 P K F ot
  unfold blA isF at BN BO
  have no1 : decide (1 ≤ no) = true := by simp; omega
  have no2 : decide (no ≤ P) = false := by simp; omega
  rw [no1, no2] at BN
  simp only [Bool.and_false, Bool.false_eq_true, ↓reduceIte] at BN
  have ot1 : decide (1 ≤ ot) = true := by simp; omega
  have ot2 : decide (ot ≤ P) = false := by simp; omega
  rw [ot1, ot2] at BO
  simp only [Bool.and_false, Bool.false_eq_true, ↓reduceIte] at BO
  unfold cfv plv at *
  have x1 : decide (P < 1) = false := by simp; omega
  have x2 : decide (K < 1) = false := by simp; omega
  have x3 : decide (P ≤ (K - 1) * 240) = false := by simp; omega
  have x4 : decide (K * 240 < P) = false := by simp; omega
  have ht : (P + 240).tdiv 240 = (P + 240) / 240 := Int.tdiv_eq_ediv_of_nonneg (by omega)
  have hq : 1 ≤ (P + 240) / 240 ∧ (P + 240) / 240 ≤ 272 := by omega
  have x5 : decide (2 + 2 * ((P + 240) / 240) + P + 1 ≤ b) = false := by simp; omega
  have x6 : (F == 2 + 2 * K) = true := by simpa using hF
  have x7 : (2 + K == 2 + K) = true := by simp
  have x8 : F ≤ 544 ∧ 4 ≤ F := by omega
  have y1 : Hid (IntKind.i64.wrap (2 + K) = 2 + K) := by show _ = _; rw [IntKind.wrap_i64]; omega
  have y2 : Hid (IntKind.i64.wrap (2 * K) = 2 * K) := by show _ = _; rw [IntKind.wrap_i64]; omega
  have y3 : Hid (IntKind.i64.wrap (2 + 2 * K) = 2 + 2 * K) := by show _ = _; rw [IntKind.wrap_i64]; omega
  have y4 : Hid (IntKind.i64.wrap (2 + K + K) = 2 + K + K) := by show _ = _; rw [IntKind.wrap_i64]; omega
  have x9 : (F != 2 + 2 * K) = false := by simpa using hF
  have HF := hide hF
  clear hm hF u0 u1 m i
  go_enter Try.func5, Try.ntmps5
  go_wp2_with fail
  refine (works_any _).mono ?_
  rintro y w1 ⟨rfl, hb⟩
  have HL := hide (bt HA.out hb)
  have HB := hide (HB.out.keep hb)
  clear hb
  go_wp2_with (refine wpList_load_row rfl 25 _ rfl w.heap.size rfl 25 _ (0, 0) _ HB.out Try.underlying25 rfl sizeCfg ?_)
  refine (PL.out _).mono ?_
  rintro y w2 ⟨rfl, hb⟩
  have HL := hide (bt HL.out (bt hb (al w2 (.cells #[.int .i64 P, .int .i64 K, .int .i64 F] 42))))
  have HB := hide ((HB.out.keep hb).keep (al w2 (.cells #[.int .i64 P, .int .i64 K, .int .i64 F] 42)))
  have HP := hide (Bx.new w2 42 #[.int .i64 P, .int .i64 K, .int .i64 F])
  clear hb
  go_wp2
  generalize w2.alloc (.cells #[.int .i64 P, .int .i64 K, .int .i64 F] 42) = W2 at *
  have S0 := hide (fun (w' : World) (hb : Below W2.heap.size W2 w') => (show (w'.cell? ⟨w2.heap.size, 0, none⟩ = some (.int .i64 P) ∧ w'.cell? ⟨w2.heap.size, 1, none⟩ = some (.int .i64 K) ∧ w'.cell? ⟨w2.heap.size, 2, none⟩ = some (.int .i64 F) ∧ w'.cell? ⟨w.heap.size, 0, none⟩ = some (.int .i64 b)) ∧ Below W2.heap.size W2 w' from ⟨⟨(HP.out.keep hb).cell 0 rfl, (HP.out.keep hb).cell 1 rfl, (HP.out.keep hb).cell 2 rfl, (HB.out.keep hb).cell 0 rfl⟩, hb⟩))
  have z1 := y1.out
  have z2 := y2.out
  have z3 := y3.out
  have z4 := y4.out
  refine wp_region_held_drew (S := fun w' => (w'.cell? ⟨w2.heap.size, 0, none⟩ = some (.int .i64 P) ∧ w'.cell? ⟨w2.heap.size, 1, none⟩ = some (.int .i64 K) ∧ w'.cell? ⟨w2.heap.size, 2, none⟩ = some (.int .i64 F) ∧ w'.cell? ⟨w.heap.size, 0, none⟩ = some (.int .i64 b)) ∧ Below W2.heap.size W2 w') (by kernel_rfl) (S0.out _ (dr2 W2)) (fun hHeld => ?_)
  refine wpAnyH_take (i := 0) (v := ?va0) rfl (by kernel_rfl) (by kernel_rfl) (by kernel_rfl) (fun _ _ _ h => h) (Or.inl ⟨by rfl, ?hy0⟩) (by assumption) ?ra0
  case hy0 => (intro w hSw; (try dsimp only at hSw); go_simp <;> with_reducible rfl)
  try simp only [Act.put, List.getElem_toArray, List.getElem_cons_zero, List.setIfInBounds_toArray, List.set_cons_zero, List.set_cons_succ]
  refine wpAnyH_ready (rs := [1]) (by kernel_rfl) (by simp) ?_
  refine AllReadyH.cons rfl (fun K hK => ?_) AllReadyH.nil
  go_simp
  refine (B0.out _).mono ?_
  rintro e9 w3 ⟨rfl, hb⟩
  have TB1 := hide (bt (dr2 W2) hb)
  clear hb
  go_wp2_with fail
  refine hK.out _ _ (S0.out _ TB1.out) (fun hHeld => ?_)
  clear hK K
  try simp only [Act.put, List.getElem_toArray, List.getElem_cons_zero, List.getElem_cons_succ, List.setIfInBounds_toArray, List.set_cons_zero, List.set_cons_succ]
  refine wpAnyH_take (i := 2) (v := ?va2) rfl (by kernel_rfl) (by kernel_rfl) (by kernel_rfl) (fun _ _ _ h => h) (Or.inl ⟨by rfl, ?hy2⟩) (by assumption) ?ra2
  case hy2 => (intro w hSw; (try dsimp only at hSw); go_simp <;> with_reducible rfl)
  try simp only [Act.put, List.getElem_toArray, List.getElem_cons_zero, List.getElem_cons_succ, List.setIfInBounds_toArray, List.set_cons_zero, List.set_cons_succ]
  refine wpAnyH_take (i := 3) (v := ?va3) rfl (by kernel_rfl) (by kernel_rfl) (by kernel_rfl) (fun _ _ _ h => h) (Or.inl ⟨by rfl, ?hy3⟩) (by assumption) ?ra3
  case hy3 => (intro w hSw; (try dsimp only at hSw); go_simp <;> with_reducible rfl)
  try simp only [Act.put, List.getElem_toArray, List.getElem_cons_zero, List.getElem_cons_succ, List.setIfInBounds_toArray, List.set_cons_zero, List.set_cons_succ]
  refine wpAnyH_take (i := 4) (v := ?va4) rfl (by kernel_rfl) (by kernel_rfl) (by kernel_rfl) (fun _ _ _ h => h) (Or.inl ⟨by rfl, ?hy4⟩) (by assumption) ?ra4
  case hy4 => (intro w hSw; (try dsimp only at hSw); go_simp <;> with_reducible rfl)
  try simp only [Act.put, List.getElem_toArray, List.getElem_cons_zero, List.getElem_cons_succ, List.setIfInBounds_toArray, List.set_cons_zero, List.set_cons_succ]
  refine wpAnyH_take (i := 6) (v := ?va6) rfl (by kernel_rfl) (by kernel_rfl) (by kernel_rfl) (fun _ _ _ h => h) (Or.inl ⟨by rfl, ?hy6⟩) (by assumption) ?ra6
  case hy6 => (intro w hSw; (try dsimp only at hSw); go_simp <;> with_reducible rfl)
  try simp only [Act.put, List.getElem_toArray, List.getElem_cons_zero, List.getElem_cons_succ, List.setIfInBounds_toArray, List.set_cons_zero, List.set_cons_succ]
  refine wpAnyH_take (i := 7) (v := ?va7) rfl (by kernel_rfl) (by kernel_rfl) (by kernel_rfl) (fun _ _ _ h => h) (Or.inl ⟨by rfl, ?hy7⟩) (by assumption) ?ra7
  case hy7 => (intro w hSw; (try dsimp only at hSw); go_simp <;> with_reducible rfl)
  try simp only [Act.put, List.getElem_toArray, List.getElem_cons_zero, List.getElem_cons_succ, List.setIfInBounds_toArray, List.set_cons_zero, List.set_cons_succ]
  refine wpAnyH_take (i := 8) (v := ?va8) rfl (by kernel_rfl) (by kernel_rfl) (by kernel_rfl) (fun _ _ _ h => h) (Or.inl ⟨by rfl, ?hy8⟩) (by assumption) ?ra8
  case hy8 => (intro w hSw; (try dsimp only at hSw); go_simp <;> with_reducible rfl)
  try simp only [Act.put, List.getElem_toArray, List.getElem_cons_zero, List.getElem_cons_succ, List.setIfInBounds_toArray, List.set_cons_zero, List.set_cons_succ]
  refine wpAnyH_ready (rs := [5]) (by kernel_rfl) (by simp) ?_
  refine AllReadyH.cons rfl (fun K hK => ?_) AllReadyH.nil
  go_simp
  refine (B1.out _).mono ?_
  rintro e9 w4 ⟨rfl, hb⟩
  have TB2 := hide (bt TB1.out hb)
  clear hb
  go_wp2_with fail
  refine hK.out _ _ (S0.out _ TB2.out) (fun hHeld => ?_)
  clear hK K
  try simp only [Act.put, List.getElem_toArray, List.getElem_cons_zero, List.getElem_cons_succ, List.setIfInBounds_toArray, List.set_cons_zero, List.set_cons_succ]
  refine wpAnyH_take (i := 9) (v := ?va9) rfl (by kernel_rfl) (by kernel_rfl) (by kernel_rfl) (fun _ _ _ h => h) (Or.inl ⟨by rfl, ?hy9⟩) (by assumption) ?ra9
  case hy9 => (intro w hSw; (try dsimp only at hSw); go_simp <;> with_reducible rfl)
  try simp only [Act.put, List.getElem_toArray, List.getElem_cons_zero, List.getElem_cons_succ, List.setIfInBounds_toArray, List.set_cons_zero, List.set_cons_succ]
  refine wpAnyH_take (i := 10) (v := ?va10) rfl (by kernel_rfl) (by kernel_rfl) (by kernel_rfl) (fun _ _ _ h => h) (Or.inl ⟨by rfl, ?hy10⟩) (by assumption) ?ra10
  case hy10 => (intro w hSw; (try dsimp only at hSw); go_simp <;> with_reducible rfl)
  try simp only [Act.put, List.getElem_toArray, List.getElem_cons_zero, List.getElem_cons_succ, List.setIfInBounds_toArray, List.set_cons_zero, List.set_cons_succ]
  refine wpAnyH_take (i := 11) (v := ?va11) rfl (by kernel_rfl) (by kernel_rfl) (by kernel_rfl) (fun _ _ _ h => h) (Or.inl ⟨by rfl, ?hy11⟩) (by assumption) ?ra11
  case hy11 => (intro w hSw; (try dsimp only at hSw); go_simp <;> with_reducible rfl)
  try simp only [Act.put, List.getElem_toArray, List.getElem_cons_zero, List.getElem_cons_succ, List.setIfInBounds_toArray, List.set_cons_zero, List.set_cons_succ]
  refine wpAnyH_take (i := 12) (v := ?va12) rfl (by kernel_rfl) (by kernel_rfl) (by kernel_rfl) (fun _ _ _ h => h) (Or.inl ⟨by rfl, ?hy12⟩) (by assumption) ?ra12
  case hy12 => (intro w hSw; (try dsimp only at hSw); go_simp <;> with_reducible rfl)
  try simp only [Act.put, List.getElem_toArray, List.getElem_cons_zero, List.getElem_cons_succ, List.setIfInBounds_toArray, List.set_cons_zero, List.set_cons_succ]
  refine wpAnyH_take (i := 13) (v := ?va13) rfl (by kernel_rfl) (by kernel_rfl) (by kernel_rfl) (fun _ _ _ h => h) (Or.inl ⟨by rfl, ?hy13⟩) (by assumption) ?ra13
  case hy13 => (intro w hSw; (try dsimp only at hSw); go_simp <;> with_reducible rfl)
  try simp only [Act.put, List.getElem_toArray, List.getElem_cons_zero, List.getElem_cons_succ, List.setIfInBounds_toArray, List.set_cons_zero, List.set_cons_succ]
  refine wpAnyH_take (i := 14) (v := ?va14) rfl (by kernel_rfl) (by kernel_rfl) (by kernel_rfl) (fun _ _ _ h => h) (Or.inl ⟨by rfl, ?hy14⟩) (by assumption) ?ra14
  case hy14 => (intro w hSw; (try dsimp only at hSw); go_simp <;> with_reducible rfl)
  try simp only [Act.put, List.getElem_toArray, List.getElem_cons_zero, List.getElem_cons_succ, List.setIfInBounds_toArray, List.set_cons_zero, List.set_cons_succ]
  refine wpAnyH_take (i := 15) (v := ?va15) rfl (by kernel_rfl) (by kernel_rfl) (by kernel_rfl) (fun _ _ _ h => h) (Or.inl ⟨by rfl, ?hy15⟩) (by assumption) ?ra15
  case hy15 => (intro w hSw; (try dsimp only at hSw); go_simp <;> with_reducible rfl)
  try simp only [Act.put, List.getElem_toArray, List.getElem_cons_zero, List.getElem_cons_succ, List.setIfInBounds_toArray, List.set_cons_zero, List.set_cons_succ]
  refine wpAnyH_take (i := 16) (v := ?va16) rfl (by kernel_rfl) (by kernel_rfl) (by kernel_rfl) (fun _ _ _ h => h) (Or.inl ⟨by rfl, ?hy16⟩) (by assumption) ?ra16
  case hy16 => (intro w hSw; (try dsimp only at hSw); go_simp <;> with_reducible rfl)
  try simp only [Act.put, List.getElem_toArray, List.getElem_cons_zero, List.getElem_cons_succ, List.setIfInBounds_toArray, List.set_cons_zero, List.set_cons_succ]
  refine wpAnyH_take (i := 17) (v := ?va17) rfl (by kernel_rfl) (by kernel_rfl) (by kernel_rfl) (fun _ _ _ h => h) (Or.inl ⟨by rfl, ?hy17⟩) (by assumption) ?ra17
  case hy17 => (intro w hSw; (try dsimp only at hSw); go_simp <;> with_reducible rfl)
  try simp only [Act.put, List.getElem_toArray, List.getElem_cons_zero, List.getElem_cons_succ, List.setIfInBounds_toArray, List.set_cons_zero, List.set_cons_succ]
  refine wpAnyH_take (i := 18) (v := ?va18) rfl (by kernel_rfl) (by kernel_rfl) (by kernel_rfl) (fun _ _ _ h => h) (Or.inl ⟨by rfl, ?hy18⟩) (by assumption) ?ra18
  case hy18 => (intro w hSw; (try dsimp only at hSw); go_simp <;> with_reducible rfl)
  try simp only [Act.put, List.getElem_toArray, List.getElem_cons_zero, List.getElem_cons_succ, List.setIfInBounds_toArray, List.set_cons_zero, List.set_cons_succ]
  refine wpAnyH_take (i := 19) (v := ?va19) rfl (by kernel_rfl) (by kernel_rfl) (by kernel_rfl) (fun _ _ _ h => h) (Or.inl ⟨by rfl, ?hy19⟩) (by assumption) ?ra19
  case hy19 => (intro w hSw; (try dsimp only at hSw); go_simp <;> with_reducible rfl)
  try simp only [Act.put, List.getElem_toArray, List.getElem_cons_zero, List.getElem_cons_succ, List.setIfInBounds_toArray, List.set_cons_zero, List.set_cons_succ]
  refine wpAnyH_done (by kernel_rfl) ?_ _
  clear z1 z2 z3 z4
  obtain ⟨⟨q0, q1, q2, qb⟩, _⟩ := S0.out _ TB2.out
  go_wp2_with fail
  refine (BN.out _).mono ?_
  rintro y w5 ⟨rfl, hb⟩
  have TB3 := hide (bt TB2.out hb)
  clear hb q0 q1 q2 qb BN
  obtain ⟨⟨q0, q1, q2, qb⟩, _⟩ := S0.out _ TB3.out
  go_wp2_with fail
  refine (BO.out _).mono ?_
  rintro y w6 ⟨rfl, hb⟩
  have TB4 := hide (bt TB3.out hb)
  clear hb q0 q1 q2 qb BO
  obtain ⟨⟨q0, q1, q2, qb⟩, _⟩ := S0.out _ TB4.out
  go_wp2
  go_ret
  exact ⟨rfl, bt HL.out TB4.out⟩
set_option maxRecDepth 8000 in
set_option maxHeartbeats 6400000 in
theorem apart_hiin (w : World) (b c r no ot : Int) (hm : mayB b c r = true) (hn : 1 ≤ no ∧ pgs b < no) (ho : 1 ≤ ot ∧ ot ≤ pgs b) : Calls Try.prog 5 #[.agg #[.int .i64 b, .int .i64 c, .int .i64 r], .int .i64 no, .int .i64 ot] w fun e w' => e = .returned (.bool true) ∧ Below w.heap.size w w' := by
  have HA := hide (al w (.cells #[.int .i64 b, .int .i64 c, .int .i64 r] 25))
  have HB := hide (Bx.new w 25 #[.int .i64 b, .int .i64 c, .int .i64 r])
  obtain ⟨⟨hb0, hb1⟩, _⟩ := mayB_iff.1 hm
  have L := ly hb0 hb1
  have PL := hide fun w1 => Plan_any w1 b c r
  unfold plA plE at PL
  rw [hm] at PL
  simp only [↓reduceIte] at PL
  generalize pgs b = P at *
  generalize bnk b = K at *
  generalize fsb b = F at *
  obtain ⟨⟨_, _⟩, ⟨p0, p1⟩, ⟨k0, k1⟩, hF, ⟨u0, u1⟩, m, i⟩ := L
  have B0 := hide fun w1 => Bank_any w1 P K F 0
  have B1 := hide fun w1 => Bank_any w1 P K F 1
  rw [if_pos rfl] at B0
  rw [if_neg (by decide), if_pos rfl, wr64 (by omega)] at B1
  have BN := hide fun w1 => Block_any w1 P K F no
  have BO := hide fun w1 => Block_any w1 P K F ot
  unfold blA isF at BN BO
  have no1 : decide (1 ≤ no) = true := by simp; omega
  have no2 : decide (no ≤ P) = false := by simp; omega
  rw [no1, no2] at BN
  simp only [Bool.and_false, Bool.false_eq_true, ↓reduceIte] at BN
  have ot1 : decide (1 ≤ ot) = true := by simp; omega
  have ot2 : decide (ot ≤ P) = true := by simp; omega
  rw [ot1, ot2, wr64 (x := F + ot) (by omega), wr64 (x := F + ot - 1) (by omega)] at BO
  simp only [Bool.and_self, ↓reduceIte] at BO
  unfold cfv plv at *
  have x1 : decide (P < 1) = false := by simp; omega
  have x2 : decide (K < 1) = false := by simp; omega
  have x3 : decide (P ≤ (K - 1) * 240) = false := by simp; omega
  have x4 : decide (K * 240 < P) = false := by simp; omega
  have ht : (P + 240).tdiv 240 = (P + 240) / 240 := Int.tdiv_eq_ediv_of_nonneg (by omega)
  have hq : 1 ≤ (P + 240) / 240 ∧ (P + 240) / 240 ≤ 272 := by omega
  have x5 : decide (2 + 2 * ((P + 240) / 240) + P + 1 ≤ b) = false := by simp; omega
  have x6 : (F == 2 + 2 * K) = true := by simpa using hF
  have x7 : (2 + K == 2 + K) = true := by simp
  have x8 : F ≤ 544 ∧ 4 ≤ F := by omega
  have y1 : Hid (IntKind.i64.wrap (2 + K) = 2 + K) := by show _ = _; rw [IntKind.wrap_i64]; omega
  have y2 : Hid (IntKind.i64.wrap (2 * K) = 2 * K) := by show _ = _; rw [IntKind.wrap_i64]; omega
  have y3 : Hid (IntKind.i64.wrap (2 + 2 * K) = 2 + 2 * K) := by show _ = _; rw [IntKind.wrap_i64]; omega
  have y4 : Hid (IntKind.i64.wrap (2 + K + K) = 2 + K + K) := by show _ = _; rw [IntKind.wrap_i64]; omega
  have x9 : (F != 2 + 2 * K) = false := by simpa using hF
  have HF := hide hF
  clear hm hF u0 u1 m i
  go_enter Try.func5, Try.ntmps5
  go_wp2_with fail
  refine (works_any _).mono ?_
  rintro y w1 ⟨rfl, hb⟩
  have HL := hide (bt HA.out hb)
  have HB := hide (HB.out.keep hb)
  clear hb
  go_wp2_with (refine wpList_load_row rfl 25 _ rfl w.heap.size rfl 25 _ (0, 0) _ HB.out Try.underlying25 rfl sizeCfg ?_)
  refine (PL.out _).mono ?_
  rintro y w2 ⟨rfl, hb⟩
  have HL := hide (bt HL.out (bt hb (al w2 (.cells #[.int .i64 P, .int .i64 K, .int .i64 F] 42))))
  have HB := hide ((HB.out.keep hb).keep (al w2 (.cells #[.int .i64 P, .int .i64 K, .int .i64 F] 42)))
  have HP := hide (Bx.new w2 42 #[.int .i64 P, .int .i64 K, .int .i64 F])
  clear hb
  go_wp2
  generalize w2.alloc (.cells #[.int .i64 P, .int .i64 K, .int .i64 F] 42) = W2 at *
  have S0 := hide (fun (w' : World) (hb : Below W2.heap.size W2 w') => (show (w'.cell? ⟨w2.heap.size, 0, none⟩ = some (.int .i64 P) ∧ w'.cell? ⟨w2.heap.size, 1, none⟩ = some (.int .i64 K) ∧ w'.cell? ⟨w2.heap.size, 2, none⟩ = some (.int .i64 F) ∧ w'.cell? ⟨w.heap.size, 0, none⟩ = some (.int .i64 b)) ∧ Below W2.heap.size W2 w' from ⟨⟨(HP.out.keep hb).cell 0 rfl, (HP.out.keep hb).cell 1 rfl, (HP.out.keep hb).cell 2 rfl, (HB.out.keep hb).cell 0 rfl⟩, hb⟩))
  have z1 := y1.out
  have z2 := y2.out
  have z3 := y3.out
  have z4 := y4.out
  refine wp_region_held_drew (S := fun w' => (w'.cell? ⟨w2.heap.size, 0, none⟩ = some (.int .i64 P) ∧ w'.cell? ⟨w2.heap.size, 1, none⟩ = some (.int .i64 K) ∧ w'.cell? ⟨w2.heap.size, 2, none⟩ = some (.int .i64 F) ∧ w'.cell? ⟨w.heap.size, 0, none⟩ = some (.int .i64 b)) ∧ Below W2.heap.size W2 w') (by kernel_rfl) (S0.out _ (dr2 W2)) (fun hHeld => ?_)
  refine wpAnyH_take (i := 0) (v := ?va0) rfl (by kernel_rfl) (by kernel_rfl) (by kernel_rfl) (fun _ _ _ h => h) (Or.inl ⟨by rfl, ?hy0⟩) (by assumption) ?ra0
  case hy0 => (intro w hSw; (try dsimp only at hSw); go_simp <;> with_reducible rfl)
  try simp only [Act.put, List.getElem_toArray, List.getElem_cons_zero, List.setIfInBounds_toArray, List.set_cons_zero, List.set_cons_succ]
  refine wpAnyH_ready (rs := [1]) (by kernel_rfl) (by simp) ?_
  refine AllReadyH.cons rfl (fun K hK => ?_) AllReadyH.nil
  go_simp
  refine (B0.out _).mono ?_
  rintro e9 w3 ⟨rfl, hb⟩
  have TB1 := hide (bt (dr2 W2) hb)
  clear hb
  go_wp2_with fail
  refine hK.out _ _ (S0.out _ TB1.out) (fun hHeld => ?_)
  clear hK K
  try simp only [Act.put, List.getElem_toArray, List.getElem_cons_zero, List.getElem_cons_succ, List.setIfInBounds_toArray, List.set_cons_zero, List.set_cons_succ]
  refine wpAnyH_take (i := 2) (v := ?va2) rfl (by kernel_rfl) (by kernel_rfl) (by kernel_rfl) (fun _ _ _ h => h) (Or.inl ⟨by rfl, ?hy2⟩) (by assumption) ?ra2
  case hy2 => (intro w hSw; (try dsimp only at hSw); go_simp <;> with_reducible rfl)
  try simp only [Act.put, List.getElem_toArray, List.getElem_cons_zero, List.getElem_cons_succ, List.setIfInBounds_toArray, List.set_cons_zero, List.set_cons_succ]
  refine wpAnyH_take (i := 3) (v := ?va3) rfl (by kernel_rfl) (by kernel_rfl) (by kernel_rfl) (fun _ _ _ h => h) (Or.inl ⟨by rfl, ?hy3⟩) (by assumption) ?ra3
  case hy3 => (intro w hSw; (try dsimp only at hSw); go_simp <;> with_reducible rfl)
  try simp only [Act.put, List.getElem_toArray, List.getElem_cons_zero, List.getElem_cons_succ, List.setIfInBounds_toArray, List.set_cons_zero, List.set_cons_succ]
  refine wpAnyH_take (i := 4) (v := ?va4) rfl (by kernel_rfl) (by kernel_rfl) (by kernel_rfl) (fun _ _ _ h => h) (Or.inl ⟨by rfl, ?hy4⟩) (by assumption) ?ra4
  case hy4 => (intro w hSw; (try dsimp only at hSw); go_simp <;> with_reducible rfl)
  try simp only [Act.put, List.getElem_toArray, List.getElem_cons_zero, List.getElem_cons_succ, List.setIfInBounds_toArray, List.set_cons_zero, List.set_cons_succ]
  refine wpAnyH_take (i := 6) (v := ?va6) rfl (by kernel_rfl) (by kernel_rfl) (by kernel_rfl) (fun _ _ _ h => h) (Or.inl ⟨by rfl, ?hy6⟩) (by assumption) ?ra6
  case hy6 => (intro w hSw; (try dsimp only at hSw); go_simp <;> with_reducible rfl)
  try simp only [Act.put, List.getElem_toArray, List.getElem_cons_zero, List.getElem_cons_succ, List.setIfInBounds_toArray, List.set_cons_zero, List.set_cons_succ]
  refine wpAnyH_take (i := 7) (v := ?va7) rfl (by kernel_rfl) (by kernel_rfl) (by kernel_rfl) (fun _ _ _ h => h) (Or.inl ⟨by rfl, ?hy7⟩) (by assumption) ?ra7
  case hy7 => (intro w hSw; (try dsimp only at hSw); go_simp <;> with_reducible rfl)
  try simp only [Act.put, List.getElem_toArray, List.getElem_cons_zero, List.getElem_cons_succ, List.setIfInBounds_toArray, List.set_cons_zero, List.set_cons_succ]
  refine wpAnyH_take (i := 8) (v := ?va8) rfl (by kernel_rfl) (by kernel_rfl) (by kernel_rfl) (fun _ _ _ h => h) (Or.inl ⟨by rfl, ?hy8⟩) (by assumption) ?ra8
  case hy8 => (intro w hSw; (try dsimp only at hSw); go_simp <;> with_reducible rfl)
  try simp only [Act.put, List.getElem_toArray, List.getElem_cons_zero, List.getElem_cons_succ, List.setIfInBounds_toArray, List.set_cons_zero, List.set_cons_succ]
  refine wpAnyH_ready (rs := [5]) (by kernel_rfl) (by simp) ?_
  refine AllReadyH.cons rfl (fun K hK => ?_) AllReadyH.nil
  go_simp
  refine (B1.out _).mono ?_
  rintro e9 w4 ⟨rfl, hb⟩
  have TB2 := hide (bt TB1.out hb)
  clear hb
  go_wp2_with fail
  refine hK.out _ _ (S0.out _ TB2.out) (fun hHeld => ?_)
  clear hK K
  try simp only [Act.put, List.getElem_toArray, List.getElem_cons_zero, List.getElem_cons_succ, List.setIfInBounds_toArray, List.set_cons_zero, List.set_cons_succ]
  refine wpAnyH_take (i := 9) (v := ?va9) rfl (by kernel_rfl) (by kernel_rfl) (by kernel_rfl) (fun _ _ _ h => h) (Or.inl ⟨by rfl, ?hy9⟩) (by assumption) ?ra9
  case hy9 => (intro w hSw; (try dsimp only at hSw); go_simp <;> with_reducible rfl)
  try simp only [Act.put, List.getElem_toArray, List.getElem_cons_zero, List.getElem_cons_succ, List.setIfInBounds_toArray, List.set_cons_zero, List.set_cons_succ]
  refine wpAnyH_take (i := 10) (v := ?va10) rfl (by kernel_rfl) (by kernel_rfl) (by kernel_rfl) (fun _ _ _ h => h) (Or.inl ⟨by rfl, ?hy10⟩) (by assumption) ?ra10
  case hy10 => (intro w hSw; (try dsimp only at hSw); go_simp <;> with_reducible rfl)
  try simp only [Act.put, List.getElem_toArray, List.getElem_cons_zero, List.getElem_cons_succ, List.setIfInBounds_toArray, List.set_cons_zero, List.set_cons_succ]
  refine wpAnyH_take (i := 11) (v := ?va11) rfl (by kernel_rfl) (by kernel_rfl) (by kernel_rfl) (fun _ _ _ h => h) (Or.inl ⟨by rfl, ?hy11⟩) (by assumption) ?ra11
  case hy11 => (intro w hSw; (try dsimp only at hSw); go_simp <;> with_reducible rfl)
  try simp only [Act.put, List.getElem_toArray, List.getElem_cons_zero, List.getElem_cons_succ, List.setIfInBounds_toArray, List.set_cons_zero, List.set_cons_succ]
  refine wpAnyH_take (i := 12) (v := ?va12) rfl (by kernel_rfl) (by kernel_rfl) (by kernel_rfl) (fun _ _ _ h => h) (Or.inl ⟨by rfl, ?hy12⟩) (by assumption) ?ra12
  case hy12 => (intro w hSw; (try dsimp only at hSw); go_simp <;> with_reducible rfl)
  try simp only [Act.put, List.getElem_toArray, List.getElem_cons_zero, List.getElem_cons_succ, List.setIfInBounds_toArray, List.set_cons_zero, List.set_cons_succ]
  refine wpAnyH_take (i := 13) (v := ?va13) rfl (by kernel_rfl) (by kernel_rfl) (by kernel_rfl) (fun _ _ _ h => h) (Or.inl ⟨by rfl, ?hy13⟩) (by assumption) ?ra13
  case hy13 => (intro w hSw; (try dsimp only at hSw); go_simp <;> with_reducible rfl)
  try simp only [Act.put, List.getElem_toArray, List.getElem_cons_zero, List.getElem_cons_succ, List.setIfInBounds_toArray, List.set_cons_zero, List.set_cons_succ]
  refine wpAnyH_take (i := 14) (v := ?va14) rfl (by kernel_rfl) (by kernel_rfl) (by kernel_rfl) (fun _ _ _ h => h) (Or.inl ⟨by rfl, ?hy14⟩) (by assumption) ?ra14
  case hy14 => (intro w hSw; (try dsimp only at hSw); go_simp <;> with_reducible rfl)
  try simp only [Act.put, List.getElem_toArray, List.getElem_cons_zero, List.getElem_cons_succ, List.setIfInBounds_toArray, List.set_cons_zero, List.set_cons_succ]
  refine wpAnyH_take (i := 15) (v := ?va15) rfl (by kernel_rfl) (by kernel_rfl) (by kernel_rfl) (fun _ _ _ h => h) (Or.inl ⟨by rfl, ?hy15⟩) (by assumption) ?ra15
  case hy15 => (intro w hSw; (try dsimp only at hSw); go_simp <;> with_reducible rfl)
  try simp only [Act.put, List.getElem_toArray, List.getElem_cons_zero, List.getElem_cons_succ, List.setIfInBounds_toArray, List.set_cons_zero, List.set_cons_succ]
  refine wpAnyH_take (i := 16) (v := ?va16) rfl (by kernel_rfl) (by kernel_rfl) (by kernel_rfl) (fun _ _ _ h => h) (Or.inl ⟨by rfl, ?hy16⟩) (by assumption) ?ra16
  case hy16 => (intro w hSw; (try dsimp only at hSw); go_simp <;> with_reducible rfl)
  try simp only [Act.put, List.getElem_toArray, List.getElem_cons_zero, List.getElem_cons_succ, List.setIfInBounds_toArray, List.set_cons_zero, List.set_cons_succ]
  refine wpAnyH_take (i := 17) (v := ?va17) rfl (by kernel_rfl) (by kernel_rfl) (by kernel_rfl) (fun _ _ _ h => h) (Or.inl ⟨by rfl, ?hy17⟩) (by assumption) ?ra17
  case hy17 => (intro w hSw; (try dsimp only at hSw); go_simp <;> with_reducible rfl)
  try simp only [Act.put, List.getElem_toArray, List.getElem_cons_zero, List.getElem_cons_succ, List.setIfInBounds_toArray, List.set_cons_zero, List.set_cons_succ]
  refine wpAnyH_take (i := 18) (v := ?va18) rfl (by kernel_rfl) (by kernel_rfl) (by kernel_rfl) (fun _ _ _ h => h) (Or.inl ⟨by rfl, ?hy18⟩) (by assumption) ?ra18
  case hy18 => (intro w hSw; (try dsimp only at hSw); go_simp <;> with_reducible rfl)
  try simp only [Act.put, List.getElem_toArray, List.getElem_cons_zero, List.getElem_cons_succ, List.setIfInBounds_toArray, List.set_cons_zero, List.set_cons_succ]
  refine wpAnyH_take (i := 19) (v := ?va19) rfl (by kernel_rfl) (by kernel_rfl) (by kernel_rfl) (fun _ _ _ h => h) (Or.inl ⟨by rfl, ?hy19⟩) (by assumption) ?ra19
  case hy19 => (intro w hSw; (try dsimp only at hSw); go_simp <;> with_reducible rfl)
  try simp only [Act.put, List.getElem_toArray, List.getElem_cons_zero, List.getElem_cons_succ, List.setIfInBounds_toArray, List.set_cons_zero, List.set_cons_succ]
  refine wpAnyH_done (by kernel_rfl) ?_ _
  clear z1 z2 z3 z4
  obtain ⟨⟨q0, q1, q2, qb⟩, _⟩ := S0.out _ TB2.out
  go_wp2_with fail
  refine (BN.out _).mono ?_
  rintro y w5 ⟨rfl, hb⟩
  have TB3 := hide (bt TB2.out hb)
  clear hb q0 q1 q2 qb BN
  obtain ⟨⟨q0, q1, q2, qb⟩, _⟩ := S0.out _ TB3.out
  go_wp2_with fail
  refine (BO.out _).mono ?_
  rintro y w6 ⟨rfl, hb⟩
  have TB4 := hide (bt TB3.out hb)
  clear hb q0 q1 q2 qb BO
  obtain ⟨⟨q0, q1, q2, qb⟩, _⟩ := S0.out _ TB4.out
  go_wp2
  go_ret
  exact ⟨rfl, bt HL.out TB4.out⟩
set_option maxRecDepth 8000 in
set_option maxHeartbeats 6400000 in
theorem apart_inlo (w : World) (b c r no ot : Int) (hm : mayB b c r = true) (hn : 1 ≤ no ∧ no ≤ pgs b) (ho : ot < 1) : Calls Try.prog 5 #[.agg #[.int .i64 b, .int .i64 c, .int .i64 r], .int .i64 no, .int .i64 ot] w fun e w' => e = .returned (.bool true) ∧ Below w.heap.size w w' := by
  have HA := hide (al w (.cells #[.int .i64 b, .int .i64 c, .int .i64 r] 25))
  have HB := hide (Bx.new w 25 #[.int .i64 b, .int .i64 c, .int .i64 r])
  obtain ⟨⟨hb0, hb1⟩, _⟩ := mayB_iff.1 hm
  have L := ly hb0 hb1
  have PL := hide fun w1 => Plan_any w1 b c r
  unfold plA plE at PL
  rw [hm] at PL
  simp only [↓reduceIte] at PL
  generalize pgs b = P at *
  generalize bnk b = K at *
  generalize fsb b = F at *
  obtain ⟨⟨_, _⟩, ⟨p0, p1⟩, ⟨k0, k1⟩, hF, ⟨u0, u1⟩, m, i⟩ := L
  have B0 := hide fun w1 => Bank_any w1 P K F 0
  have B1 := hide fun w1 => Bank_any w1 P K F 1
  rw [if_pos rfl] at B0
  rw [if_neg (by decide), if_pos rfl, wr64 (by omega)] at B1
  have BN := hide fun w1 => Block_any w1 P K F no
  have BO := hide fun w1 => Block_any w1 P K F ot
  unfold blA isF at BN BO
  have no1 : decide (1 ≤ no) = true := by simp; omega
  have no2 : decide (no ≤ P) = true := by simp; omega
  rw [no1, no2, wr64 (x := F + no) (by omega), wr64 (x := F + no - 1) (by omega)] at BN
  simp only [Bool.and_self, ↓reduceIte] at BN
  have ot1 : decide (1 ≤ ot) = false := by simp; omega
  rw [ot1] at BO
  simp only [Bool.false_and, Bool.false_eq_true, ↓reduceIte] at BO
  unfold cfv plv at *
  have x1 : decide (P < 1) = false := by simp; omega
  have x2 : decide (K < 1) = false := by simp; omega
  have x3 : decide (P ≤ (K - 1) * 240) = false := by simp; omega
  have x4 : decide (K * 240 < P) = false := by simp; omega
  have ht : (P + 240).tdiv 240 = (P + 240) / 240 := Int.tdiv_eq_ediv_of_nonneg (by omega)
  have hq : 1 ≤ (P + 240) / 240 ∧ (P + 240) / 240 ≤ 272 := by omega
  have x5 : decide (2 + 2 * ((P + 240) / 240) + P + 1 ≤ b) = false := by simp; omega
  have x6 : (F == 2 + 2 * K) = true := by simpa using hF
  have x7 : (2 + K == 2 + K) = true := by simp
  have x8 : F ≤ 544 ∧ 4 ≤ F := by omega
  have y1 : Hid (IntKind.i64.wrap (2 + K) = 2 + K) := by show _ = _; rw [IntKind.wrap_i64]; omega
  have y2 : Hid (IntKind.i64.wrap (2 * K) = 2 * K) := by show _ = _; rw [IntKind.wrap_i64]; omega
  have y3 : Hid (IntKind.i64.wrap (2 + 2 * K) = 2 + 2 * K) := by show _ = _; rw [IntKind.wrap_i64]; omega
  have y4 : Hid (IntKind.i64.wrap (2 + K + K) = 2 + K + K) := by show _ = _; rw [IntKind.wrap_i64]; omega
  have x9 : (F != 2 + 2 * K) = false := by simpa using hF
  have HF := hide hF
  clear hm hF u0 u1 m i
  go_enter Try.func5, Try.ntmps5
  go_wp2_with fail
  refine (works_any _).mono ?_
  rintro y w1 ⟨rfl, hb⟩
  have HL := hide (bt HA.out hb)
  have HB := hide (HB.out.keep hb)
  clear hb
  go_wp2_with (refine wpList_load_row rfl 25 _ rfl w.heap.size rfl 25 _ (0, 0) _ HB.out Try.underlying25 rfl sizeCfg ?_)
  refine (PL.out _).mono ?_
  rintro y w2 ⟨rfl, hb⟩
  have HL := hide (bt HL.out (bt hb (al w2 (.cells #[.int .i64 P, .int .i64 K, .int .i64 F] 42))))
  have HB := hide ((HB.out.keep hb).keep (al w2 (.cells #[.int .i64 P, .int .i64 K, .int .i64 F] 42)))
  have HP := hide (Bx.new w2 42 #[.int .i64 P, .int .i64 K, .int .i64 F])
  clear hb
  go_wp2
  generalize w2.alloc (.cells #[.int .i64 P, .int .i64 K, .int .i64 F] 42) = W2 at *
  have S0 := hide (fun (w' : World) (hb : Below W2.heap.size W2 w') => (show (w'.cell? ⟨w2.heap.size, 0, none⟩ = some (.int .i64 P) ∧ w'.cell? ⟨w2.heap.size, 1, none⟩ = some (.int .i64 K) ∧ w'.cell? ⟨w2.heap.size, 2, none⟩ = some (.int .i64 F) ∧ w'.cell? ⟨w.heap.size, 0, none⟩ = some (.int .i64 b)) ∧ Below W2.heap.size W2 w' from ⟨⟨(HP.out.keep hb).cell 0 rfl, (HP.out.keep hb).cell 1 rfl, (HP.out.keep hb).cell 2 rfl, (HB.out.keep hb).cell 0 rfl⟩, hb⟩))
  have z1 := y1.out
  have z2 := y2.out
  have z3 := y3.out
  have z4 := y4.out
  refine wp_region_held_drew (S := fun w' => (w'.cell? ⟨w2.heap.size, 0, none⟩ = some (.int .i64 P) ∧ w'.cell? ⟨w2.heap.size, 1, none⟩ = some (.int .i64 K) ∧ w'.cell? ⟨w2.heap.size, 2, none⟩ = some (.int .i64 F) ∧ w'.cell? ⟨w.heap.size, 0, none⟩ = some (.int .i64 b)) ∧ Below W2.heap.size W2 w') (by kernel_rfl) (S0.out _ (dr2 W2)) (fun hHeld => ?_)
  refine wpAnyH_take (i := 0) (v := ?va0) rfl (by kernel_rfl) (by kernel_rfl) (by kernel_rfl) (fun _ _ _ h => h) (Or.inl ⟨by rfl, ?hy0⟩) (by assumption) ?ra0
  case hy0 => (intro w hSw; (try dsimp only at hSw); go_simp <;> with_reducible rfl)
  try simp only [Act.put, List.getElem_toArray, List.getElem_cons_zero, List.setIfInBounds_toArray, List.set_cons_zero, List.set_cons_succ]
  refine wpAnyH_ready (rs := [1]) (by kernel_rfl) (by simp) ?_
  refine AllReadyH.cons rfl (fun K hK => ?_) AllReadyH.nil
  go_simp
  refine (B0.out _).mono ?_
  rintro e9 w3 ⟨rfl, hb⟩
  have TB1 := hide (bt (dr2 W2) hb)
  clear hb
  go_wp2_with fail
  refine hK.out _ _ (S0.out _ TB1.out) (fun hHeld => ?_)
  clear hK K
  try simp only [Act.put, List.getElem_toArray, List.getElem_cons_zero, List.getElem_cons_succ, List.setIfInBounds_toArray, List.set_cons_zero, List.set_cons_succ]
  refine wpAnyH_take (i := 2) (v := ?va2) rfl (by kernel_rfl) (by kernel_rfl) (by kernel_rfl) (fun _ _ _ h => h) (Or.inl ⟨by rfl, ?hy2⟩) (by assumption) ?ra2
  case hy2 => (intro w hSw; (try dsimp only at hSw); go_simp <;> with_reducible rfl)
  try simp only [Act.put, List.getElem_toArray, List.getElem_cons_zero, List.getElem_cons_succ, List.setIfInBounds_toArray, List.set_cons_zero, List.set_cons_succ]
  refine wpAnyH_take (i := 3) (v := ?va3) rfl (by kernel_rfl) (by kernel_rfl) (by kernel_rfl) (fun _ _ _ h => h) (Or.inl ⟨by rfl, ?hy3⟩) (by assumption) ?ra3
  case hy3 => (intro w hSw; (try dsimp only at hSw); go_simp <;> with_reducible rfl)
  try simp only [Act.put, List.getElem_toArray, List.getElem_cons_zero, List.getElem_cons_succ, List.setIfInBounds_toArray, List.set_cons_zero, List.set_cons_succ]
  refine wpAnyH_take (i := 4) (v := ?va4) rfl (by kernel_rfl) (by kernel_rfl) (by kernel_rfl) (fun _ _ _ h => h) (Or.inl ⟨by rfl, ?hy4⟩) (by assumption) ?ra4
  case hy4 => (intro w hSw; (try dsimp only at hSw); go_simp <;> with_reducible rfl)
  try simp only [Act.put, List.getElem_toArray, List.getElem_cons_zero, List.getElem_cons_succ, List.setIfInBounds_toArray, List.set_cons_zero, List.set_cons_succ]
  refine wpAnyH_take (i := 6) (v := ?va6) rfl (by kernel_rfl) (by kernel_rfl) (by kernel_rfl) (fun _ _ _ h => h) (Or.inl ⟨by rfl, ?hy6⟩) (by assumption) ?ra6
  case hy6 => (intro w hSw; (try dsimp only at hSw); go_simp <;> with_reducible rfl)
  try simp only [Act.put, List.getElem_toArray, List.getElem_cons_zero, List.getElem_cons_succ, List.setIfInBounds_toArray, List.set_cons_zero, List.set_cons_succ]
  refine wpAnyH_take (i := 7) (v := ?va7) rfl (by kernel_rfl) (by kernel_rfl) (by kernel_rfl) (fun _ _ _ h => h) (Or.inl ⟨by rfl, ?hy7⟩) (by assumption) ?ra7
  case hy7 => (intro w hSw; (try dsimp only at hSw); go_simp <;> with_reducible rfl)
  try simp only [Act.put, List.getElem_toArray, List.getElem_cons_zero, List.getElem_cons_succ, List.setIfInBounds_toArray, List.set_cons_zero, List.set_cons_succ]
  refine wpAnyH_take (i := 8) (v := ?va8) rfl (by kernel_rfl) (by kernel_rfl) (by kernel_rfl) (fun _ _ _ h => h) (Or.inl ⟨by rfl, ?hy8⟩) (by assumption) ?ra8
  case hy8 => (intro w hSw; (try dsimp only at hSw); go_simp <;> with_reducible rfl)
  try simp only [Act.put, List.getElem_toArray, List.getElem_cons_zero, List.getElem_cons_succ, List.setIfInBounds_toArray, List.set_cons_zero, List.set_cons_succ]
  refine wpAnyH_ready (rs := [5]) (by kernel_rfl) (by simp) ?_
  refine AllReadyH.cons rfl (fun K hK => ?_) AllReadyH.nil
  go_simp
  refine (B1.out _).mono ?_
  rintro e9 w4 ⟨rfl, hb⟩
  have TB2 := hide (bt TB1.out hb)
  clear hb
  go_wp2_with fail
  refine hK.out _ _ (S0.out _ TB2.out) (fun hHeld => ?_)
  clear hK K
  try simp only [Act.put, List.getElem_toArray, List.getElem_cons_zero, List.getElem_cons_succ, List.setIfInBounds_toArray, List.set_cons_zero, List.set_cons_succ]
  refine wpAnyH_take (i := 9) (v := ?va9) rfl (by kernel_rfl) (by kernel_rfl) (by kernel_rfl) (fun _ _ _ h => h) (Or.inl ⟨by rfl, ?hy9⟩) (by assumption) ?ra9
  case hy9 => (intro w hSw; (try dsimp only at hSw); go_simp <;> with_reducible rfl)
  try simp only [Act.put, List.getElem_toArray, List.getElem_cons_zero, List.getElem_cons_succ, List.setIfInBounds_toArray, List.set_cons_zero, List.set_cons_succ]
  refine wpAnyH_take (i := 10) (v := ?va10) rfl (by kernel_rfl) (by kernel_rfl) (by kernel_rfl) (fun _ _ _ h => h) (Or.inl ⟨by rfl, ?hy10⟩) (by assumption) ?ra10
  case hy10 => (intro w hSw; (try dsimp only at hSw); go_simp <;> with_reducible rfl)
  try simp only [Act.put, List.getElem_toArray, List.getElem_cons_zero, List.getElem_cons_succ, List.setIfInBounds_toArray, List.set_cons_zero, List.set_cons_succ]
  refine wpAnyH_take (i := 11) (v := ?va11) rfl (by kernel_rfl) (by kernel_rfl) (by kernel_rfl) (fun _ _ _ h => h) (Or.inl ⟨by rfl, ?hy11⟩) (by assumption) ?ra11
  case hy11 => (intro w hSw; (try dsimp only at hSw); go_simp <;> with_reducible rfl)
  try simp only [Act.put, List.getElem_toArray, List.getElem_cons_zero, List.getElem_cons_succ, List.setIfInBounds_toArray, List.set_cons_zero, List.set_cons_succ]
  refine wpAnyH_take (i := 12) (v := ?va12) rfl (by kernel_rfl) (by kernel_rfl) (by kernel_rfl) (fun _ _ _ h => h) (Or.inl ⟨by rfl, ?hy12⟩) (by assumption) ?ra12
  case hy12 => (intro w hSw; (try dsimp only at hSw); go_simp <;> with_reducible rfl)
  try simp only [Act.put, List.getElem_toArray, List.getElem_cons_zero, List.getElem_cons_succ, List.setIfInBounds_toArray, List.set_cons_zero, List.set_cons_succ]
  refine wpAnyH_take (i := 13) (v := ?va13) rfl (by kernel_rfl) (by kernel_rfl) (by kernel_rfl) (fun _ _ _ h => h) (Or.inl ⟨by rfl, ?hy13⟩) (by assumption) ?ra13
  case hy13 => (intro w hSw; (try dsimp only at hSw); go_simp <;> with_reducible rfl)
  try simp only [Act.put, List.getElem_toArray, List.getElem_cons_zero, List.getElem_cons_succ, List.setIfInBounds_toArray, List.set_cons_zero, List.set_cons_succ]
  refine wpAnyH_take (i := 14) (v := ?va14) rfl (by kernel_rfl) (by kernel_rfl) (by kernel_rfl) (fun _ _ _ h => h) (Or.inl ⟨by rfl, ?hy14⟩) (by assumption) ?ra14
  case hy14 => (intro w hSw; (try dsimp only at hSw); go_simp <;> with_reducible rfl)
  try simp only [Act.put, List.getElem_toArray, List.getElem_cons_zero, List.getElem_cons_succ, List.setIfInBounds_toArray, List.set_cons_zero, List.set_cons_succ]
  refine wpAnyH_take (i := 15) (v := ?va15) rfl (by kernel_rfl) (by kernel_rfl) (by kernel_rfl) (fun _ _ _ h => h) (Or.inl ⟨by rfl, ?hy15⟩) (by assumption) ?ra15
  case hy15 => (intro w hSw; (try dsimp only at hSw); go_simp <;> with_reducible rfl)
  try simp only [Act.put, List.getElem_toArray, List.getElem_cons_zero, List.getElem_cons_succ, List.setIfInBounds_toArray, List.set_cons_zero, List.set_cons_succ]
  refine wpAnyH_take (i := 16) (v := ?va16) rfl (by kernel_rfl) (by kernel_rfl) (by kernel_rfl) (fun _ _ _ h => h) (Or.inl ⟨by rfl, ?hy16⟩) (by assumption) ?ra16
  case hy16 => (intro w hSw; (try dsimp only at hSw); go_simp <;> with_reducible rfl)
  try simp only [Act.put, List.getElem_toArray, List.getElem_cons_zero, List.getElem_cons_succ, List.setIfInBounds_toArray, List.set_cons_zero, List.set_cons_succ]
  refine wpAnyH_take (i := 17) (v := ?va17) rfl (by kernel_rfl) (by kernel_rfl) (by kernel_rfl) (fun _ _ _ h => h) (Or.inl ⟨by rfl, ?hy17⟩) (by assumption) ?ra17
  case hy17 => (intro w hSw; (try dsimp only at hSw); go_simp <;> with_reducible rfl)
  try simp only [Act.put, List.getElem_toArray, List.getElem_cons_zero, List.getElem_cons_succ, List.setIfInBounds_toArray, List.set_cons_zero, List.set_cons_succ]
  refine wpAnyH_take (i := 18) (v := ?va18) rfl (by kernel_rfl) (by kernel_rfl) (by kernel_rfl) (fun _ _ _ h => h) (Or.inl ⟨by rfl, ?hy18⟩) (by assumption) ?ra18
  case hy18 => (intro w hSw; (try dsimp only at hSw); go_simp <;> with_reducible rfl)
  try simp only [Act.put, List.getElem_toArray, List.getElem_cons_zero, List.getElem_cons_succ, List.setIfInBounds_toArray, List.set_cons_zero, List.set_cons_succ]
  refine wpAnyH_take (i := 19) (v := ?va19) rfl (by kernel_rfl) (by kernel_rfl) (by kernel_rfl) (fun _ _ _ h => h) (Or.inl ⟨by rfl, ?hy19⟩) (by assumption) ?ra19
  case hy19 => (intro w hSw; (try dsimp only at hSw); go_simp <;> with_reducible rfl)
  try simp only [Act.put, List.getElem_toArray, List.getElem_cons_zero, List.getElem_cons_succ, List.setIfInBounds_toArray, List.set_cons_zero, List.set_cons_succ]
  refine wpAnyH_done (by kernel_rfl) ?_ _
  clear z1 z2 z3 z4
  obtain ⟨⟨q0, q1, q2, qb⟩, _⟩ := S0.out _ TB2.out
  go_wp2_with fail
  refine (BN.out _).mono ?_
  rintro y w5 ⟨rfl, hb⟩
  have TB3 := hide (bt TB2.out hb)
  clear hb q0 q1 q2 qb BN
  obtain ⟨⟨q0, q1, q2, qb⟩, _⟩ := S0.out _ TB3.out
  go_wp2_with fail
  refine (BO.out _).mono ?_
  rintro y w6 ⟨rfl, hb⟩
  have TB4 := hide (bt TB3.out hb)
  clear hb q0 q1 q2 qb BO
  obtain ⟨⟨q0, q1, q2, qb⟩, _⟩ := S0.out _ TB4.out
  go_wp2
  go_ret
  exact ⟨rfl, bt HL.out TB4.out⟩
set_option maxRecDepth 8000 in
set_option maxHeartbeats 6400000 in
theorem apart_inhi (w : World) (b c r no ot : Int) (hm : mayB b c r = true) (hn : 1 ≤ no ∧ no ≤ pgs b) (ho : 1 ≤ ot ∧ pgs b < ot) : Calls Try.prog 5 #[.agg #[.int .i64 b, .int .i64 c, .int .i64 r], .int .i64 no, .int .i64 ot] w fun e w' => e = .returned (.bool true) ∧ Below w.heap.size w w' := by
  have HA := hide (al w (.cells #[.int .i64 b, .int .i64 c, .int .i64 r] 25))
  have HB := hide (Bx.new w 25 #[.int .i64 b, .int .i64 c, .int .i64 r])
  obtain ⟨⟨hb0, hb1⟩, _⟩ := mayB_iff.1 hm
  have L := ly hb0 hb1
  have PL := hide fun w1 => Plan_any w1 b c r
  unfold plA plE at PL
  rw [hm] at PL
  simp only [↓reduceIte] at PL
  generalize pgs b = P at *
  generalize bnk b = K at *
  generalize fsb b = F at *
  obtain ⟨⟨_, _⟩, ⟨p0, p1⟩, ⟨k0, k1⟩, hF, ⟨u0, u1⟩, m, i⟩ := L
  have B0 := hide fun w1 => Bank_any w1 P K F 0
  have B1 := hide fun w1 => Bank_any w1 P K F 1
  rw [if_pos rfl] at B0
  rw [if_neg (by decide), if_pos rfl, wr64 (by omega)] at B1
  have BN := hide fun w1 => Block_any w1 P K F no
  have BO := hide fun w1 => Block_any w1 P K F ot
  unfold blA isF at BN BO
  have no1 : decide (1 ≤ no) = true := by simp; omega
  have no2 : decide (no ≤ P) = true := by simp; omega
  rw [no1, no2, wr64 (x := F + no) (by omega), wr64 (x := F + no - 1) (by omega)] at BN
  simp only [Bool.and_self, ↓reduceIte] at BN
  have ot1 : decide (1 ≤ ot) = true := by simp; omega
  have ot2 : decide (ot ≤ P) = false := by simp; omega
  rw [ot1, ot2] at BO
  simp only [Bool.and_false, Bool.false_eq_true, ↓reduceIte] at BO
  unfold cfv plv at *
  have x1 : decide (P < 1) = false := by simp; omega
  have x2 : decide (K < 1) = false := by simp; omega
  have x3 : decide (P ≤ (K - 1) * 240) = false := by simp; omega
  have x4 : decide (K * 240 < P) = false := by simp; omega
  have ht : (P + 240).tdiv 240 = (P + 240) / 240 := Int.tdiv_eq_ediv_of_nonneg (by omega)
  have hq : 1 ≤ (P + 240) / 240 ∧ (P + 240) / 240 ≤ 272 := by omega
  have x5 : decide (2 + 2 * ((P + 240) / 240) + P + 1 ≤ b) = false := by simp; omega
  have x6 : (F == 2 + 2 * K) = true := by simpa using hF
  have x7 : (2 + K == 2 + K) = true := by simp
  have x8 : F ≤ 544 ∧ 4 ≤ F := by omega
  have y1 : Hid (IntKind.i64.wrap (2 + K) = 2 + K) := by show _ = _; rw [IntKind.wrap_i64]; omega
  have y2 : Hid (IntKind.i64.wrap (2 * K) = 2 * K) := by show _ = _; rw [IntKind.wrap_i64]; omega
  have y3 : Hid (IntKind.i64.wrap (2 + 2 * K) = 2 + 2 * K) := by show _ = _; rw [IntKind.wrap_i64]; omega
  have y4 : Hid (IntKind.i64.wrap (2 + K + K) = 2 + K + K) := by show _ = _; rw [IntKind.wrap_i64]; omega
  have x9 : (F != 2 + 2 * K) = false := by simpa using hF
  have HF := hide hF
  clear hm hF u0 u1 m i
  go_enter Try.func5, Try.ntmps5
  go_wp2_with fail
  refine (works_any _).mono ?_
  rintro y w1 ⟨rfl, hb⟩
  have HL := hide (bt HA.out hb)
  have HB := hide (HB.out.keep hb)
  clear hb
  go_wp2_with (refine wpList_load_row rfl 25 _ rfl w.heap.size rfl 25 _ (0, 0) _ HB.out Try.underlying25 rfl sizeCfg ?_)
  refine (PL.out _).mono ?_
  rintro y w2 ⟨rfl, hb⟩
  have HL := hide (bt HL.out (bt hb (al w2 (.cells #[.int .i64 P, .int .i64 K, .int .i64 F] 42))))
  have HB := hide ((HB.out.keep hb).keep (al w2 (.cells #[.int .i64 P, .int .i64 K, .int .i64 F] 42)))
  have HP := hide (Bx.new w2 42 #[.int .i64 P, .int .i64 K, .int .i64 F])
  clear hb
  go_wp2
  generalize w2.alloc (.cells #[.int .i64 P, .int .i64 K, .int .i64 F] 42) = W2 at *
  have S0 := hide (fun (w' : World) (hb : Below W2.heap.size W2 w') => (show (w'.cell? ⟨w2.heap.size, 0, none⟩ = some (.int .i64 P) ∧ w'.cell? ⟨w2.heap.size, 1, none⟩ = some (.int .i64 K) ∧ w'.cell? ⟨w2.heap.size, 2, none⟩ = some (.int .i64 F) ∧ w'.cell? ⟨w.heap.size, 0, none⟩ = some (.int .i64 b)) ∧ Below W2.heap.size W2 w' from ⟨⟨(HP.out.keep hb).cell 0 rfl, (HP.out.keep hb).cell 1 rfl, (HP.out.keep hb).cell 2 rfl, (HB.out.keep hb).cell 0 rfl⟩, hb⟩))
  have z1 := y1.out
  have z2 := y2.out
  have z3 := y3.out
  have z4 := y4.out
  refine wp_region_held_drew (S := fun w' => (w'.cell? ⟨w2.heap.size, 0, none⟩ = some (.int .i64 P) ∧ w'.cell? ⟨w2.heap.size, 1, none⟩ = some (.int .i64 K) ∧ w'.cell? ⟨w2.heap.size, 2, none⟩ = some (.int .i64 F) ∧ w'.cell? ⟨w.heap.size, 0, none⟩ = some (.int .i64 b)) ∧ Below W2.heap.size W2 w') (by kernel_rfl) (S0.out _ (dr2 W2)) (fun hHeld => ?_)
  refine wpAnyH_take (i := 0) (v := ?va0) rfl (by kernel_rfl) (by kernel_rfl) (by kernel_rfl) (fun _ _ _ h => h) (Or.inl ⟨by rfl, ?hy0⟩) (by assumption) ?ra0
  case hy0 => (intro w hSw; (try dsimp only at hSw); go_simp <;> with_reducible rfl)
  try simp only [Act.put, List.getElem_toArray, List.getElem_cons_zero, List.setIfInBounds_toArray, List.set_cons_zero, List.set_cons_succ]
  refine wpAnyH_ready (rs := [1]) (by kernel_rfl) (by simp) ?_
  refine AllReadyH.cons rfl (fun K hK => ?_) AllReadyH.nil
  go_simp
  refine (B0.out _).mono ?_
  rintro e9 w3 ⟨rfl, hb⟩
  have TB1 := hide (bt (dr2 W2) hb)
  clear hb
  go_wp2_with fail
  refine hK.out _ _ (S0.out _ TB1.out) (fun hHeld => ?_)
  clear hK K
  try simp only [Act.put, List.getElem_toArray, List.getElem_cons_zero, List.getElem_cons_succ, List.setIfInBounds_toArray, List.set_cons_zero, List.set_cons_succ]
  refine wpAnyH_take (i := 2) (v := ?va2) rfl (by kernel_rfl) (by kernel_rfl) (by kernel_rfl) (fun _ _ _ h => h) (Or.inl ⟨by rfl, ?hy2⟩) (by assumption) ?ra2
  case hy2 => (intro w hSw; (try dsimp only at hSw); go_simp <;> with_reducible rfl)
  try simp only [Act.put, List.getElem_toArray, List.getElem_cons_zero, List.getElem_cons_succ, List.setIfInBounds_toArray, List.set_cons_zero, List.set_cons_succ]
  refine wpAnyH_take (i := 3) (v := ?va3) rfl (by kernel_rfl) (by kernel_rfl) (by kernel_rfl) (fun _ _ _ h => h) (Or.inl ⟨by rfl, ?hy3⟩) (by assumption) ?ra3
  case hy3 => (intro w hSw; (try dsimp only at hSw); go_simp <;> with_reducible rfl)
  try simp only [Act.put, List.getElem_toArray, List.getElem_cons_zero, List.getElem_cons_succ, List.setIfInBounds_toArray, List.set_cons_zero, List.set_cons_succ]
  refine wpAnyH_take (i := 4) (v := ?va4) rfl (by kernel_rfl) (by kernel_rfl) (by kernel_rfl) (fun _ _ _ h => h) (Or.inl ⟨by rfl, ?hy4⟩) (by assumption) ?ra4
  case hy4 => (intro w hSw; (try dsimp only at hSw); go_simp <;> with_reducible rfl)
  try simp only [Act.put, List.getElem_toArray, List.getElem_cons_zero, List.getElem_cons_succ, List.setIfInBounds_toArray, List.set_cons_zero, List.set_cons_succ]
  refine wpAnyH_take (i := 6) (v := ?va6) rfl (by kernel_rfl) (by kernel_rfl) (by kernel_rfl) (fun _ _ _ h => h) (Or.inl ⟨by rfl, ?hy6⟩) (by assumption) ?ra6
  case hy6 => (intro w hSw; (try dsimp only at hSw); go_simp <;> with_reducible rfl)
  try simp only [Act.put, List.getElem_toArray, List.getElem_cons_zero, List.getElem_cons_succ, List.setIfInBounds_toArray, List.set_cons_zero, List.set_cons_succ]
  refine wpAnyH_take (i := 7) (v := ?va7) rfl (by kernel_rfl) (by kernel_rfl) (by kernel_rfl) (fun _ _ _ h => h) (Or.inl ⟨by rfl, ?hy7⟩) (by assumption) ?ra7
  case hy7 => (intro w hSw; (try dsimp only at hSw); go_simp <;> with_reducible rfl)
  try simp only [Act.put, List.getElem_toArray, List.getElem_cons_zero, List.getElem_cons_succ, List.setIfInBounds_toArray, List.set_cons_zero, List.set_cons_succ]
  refine wpAnyH_take (i := 8) (v := ?va8) rfl (by kernel_rfl) (by kernel_rfl) (by kernel_rfl) (fun _ _ _ h => h) (Or.inl ⟨by rfl, ?hy8⟩) (by assumption) ?ra8
  case hy8 => (intro w hSw; (try dsimp only at hSw); go_simp <;> with_reducible rfl)
  try simp only [Act.put, List.getElem_toArray, List.getElem_cons_zero, List.getElem_cons_succ, List.setIfInBounds_toArray, List.set_cons_zero, List.set_cons_succ]
  refine wpAnyH_ready (rs := [5]) (by kernel_rfl) (by simp) ?_
  refine AllReadyH.cons rfl (fun K hK => ?_) AllReadyH.nil
  go_simp
  refine (B1.out _).mono ?_
  rintro e9 w4 ⟨rfl, hb⟩
  have TB2 := hide (bt TB1.out hb)
  clear hb
  go_wp2_with fail
  refine hK.out _ _ (S0.out _ TB2.out) (fun hHeld => ?_)
  clear hK K
  try simp only [Act.put, List.getElem_toArray, List.getElem_cons_zero, List.getElem_cons_succ, List.setIfInBounds_toArray, List.set_cons_zero, List.set_cons_succ]
  refine wpAnyH_take (i := 9) (v := ?va9) rfl (by kernel_rfl) (by kernel_rfl) (by kernel_rfl) (fun _ _ _ h => h) (Or.inl ⟨by rfl, ?hy9⟩) (by assumption) ?ra9
  case hy9 => (intro w hSw; (try dsimp only at hSw); go_simp <;> with_reducible rfl)
  try simp only [Act.put, List.getElem_toArray, List.getElem_cons_zero, List.getElem_cons_succ, List.setIfInBounds_toArray, List.set_cons_zero, List.set_cons_succ]
  refine wpAnyH_take (i := 10) (v := ?va10) rfl (by kernel_rfl) (by kernel_rfl) (by kernel_rfl) (fun _ _ _ h => h) (Or.inl ⟨by rfl, ?hy10⟩) (by assumption) ?ra10
  case hy10 => (intro w hSw; (try dsimp only at hSw); go_simp <;> with_reducible rfl)
  try simp only [Act.put, List.getElem_toArray, List.getElem_cons_zero, List.getElem_cons_succ, List.setIfInBounds_toArray, List.set_cons_zero, List.set_cons_succ]
  refine wpAnyH_take (i := 11) (v := ?va11) rfl (by kernel_rfl) (by kernel_rfl) (by kernel_rfl) (fun _ _ _ h => h) (Or.inl ⟨by rfl, ?hy11⟩) (by assumption) ?ra11
  case hy11 => (intro w hSw; (try dsimp only at hSw); go_simp <;> with_reducible rfl)
  try simp only [Act.put, List.getElem_toArray, List.getElem_cons_zero, List.getElem_cons_succ, List.setIfInBounds_toArray, List.set_cons_zero, List.set_cons_succ]
  refine wpAnyH_take (i := 12) (v := ?va12) rfl (by kernel_rfl) (by kernel_rfl) (by kernel_rfl) (fun _ _ _ h => h) (Or.inl ⟨by rfl, ?hy12⟩) (by assumption) ?ra12
  case hy12 => (intro w hSw; (try dsimp only at hSw); go_simp <;> with_reducible rfl)
  try simp only [Act.put, List.getElem_toArray, List.getElem_cons_zero, List.getElem_cons_succ, List.setIfInBounds_toArray, List.set_cons_zero, List.set_cons_succ]
  refine wpAnyH_take (i := 13) (v := ?va13) rfl (by kernel_rfl) (by kernel_rfl) (by kernel_rfl) (fun _ _ _ h => h) (Or.inl ⟨by rfl, ?hy13⟩) (by assumption) ?ra13
  case hy13 => (intro w hSw; (try dsimp only at hSw); go_simp <;> with_reducible rfl)
  try simp only [Act.put, List.getElem_toArray, List.getElem_cons_zero, List.getElem_cons_succ, List.setIfInBounds_toArray, List.set_cons_zero, List.set_cons_succ]
  refine wpAnyH_take (i := 14) (v := ?va14) rfl (by kernel_rfl) (by kernel_rfl) (by kernel_rfl) (fun _ _ _ h => h) (Or.inl ⟨by rfl, ?hy14⟩) (by assumption) ?ra14
  case hy14 => (intro w hSw; (try dsimp only at hSw); go_simp <;> with_reducible rfl)
  try simp only [Act.put, List.getElem_toArray, List.getElem_cons_zero, List.getElem_cons_succ, List.setIfInBounds_toArray, List.set_cons_zero, List.set_cons_succ]
  refine wpAnyH_take (i := 15) (v := ?va15) rfl (by kernel_rfl) (by kernel_rfl) (by kernel_rfl) (fun _ _ _ h => h) (Or.inl ⟨by rfl, ?hy15⟩) (by assumption) ?ra15
  case hy15 => (intro w hSw; (try dsimp only at hSw); go_simp <;> with_reducible rfl)
  try simp only [Act.put, List.getElem_toArray, List.getElem_cons_zero, List.getElem_cons_succ, List.setIfInBounds_toArray, List.set_cons_zero, List.set_cons_succ]
  refine wpAnyH_take (i := 16) (v := ?va16) rfl (by kernel_rfl) (by kernel_rfl) (by kernel_rfl) (fun _ _ _ h => h) (Or.inl ⟨by rfl, ?hy16⟩) (by assumption) ?ra16
  case hy16 => (intro w hSw; (try dsimp only at hSw); go_simp <;> with_reducible rfl)
  try simp only [Act.put, List.getElem_toArray, List.getElem_cons_zero, List.getElem_cons_succ, List.setIfInBounds_toArray, List.set_cons_zero, List.set_cons_succ]
  refine wpAnyH_take (i := 17) (v := ?va17) rfl (by kernel_rfl) (by kernel_rfl) (by kernel_rfl) (fun _ _ _ h => h) (Or.inl ⟨by rfl, ?hy17⟩) (by assumption) ?ra17
  case hy17 => (intro w hSw; (try dsimp only at hSw); go_simp <;> with_reducible rfl)
  try simp only [Act.put, List.getElem_toArray, List.getElem_cons_zero, List.getElem_cons_succ, List.setIfInBounds_toArray, List.set_cons_zero, List.set_cons_succ]
  refine wpAnyH_take (i := 18) (v := ?va18) rfl (by kernel_rfl) (by kernel_rfl) (by kernel_rfl) (fun _ _ _ h => h) (Or.inl ⟨by rfl, ?hy18⟩) (by assumption) ?ra18
  case hy18 => (intro w hSw; (try dsimp only at hSw); go_simp <;> with_reducible rfl)
  try simp only [Act.put, List.getElem_toArray, List.getElem_cons_zero, List.getElem_cons_succ, List.setIfInBounds_toArray, List.set_cons_zero, List.set_cons_succ]
  refine wpAnyH_take (i := 19) (v := ?va19) rfl (by kernel_rfl) (by kernel_rfl) (by kernel_rfl) (fun _ _ _ h => h) (Or.inl ⟨by rfl, ?hy19⟩) (by assumption) ?ra19
  case hy19 => (intro w hSw; (try dsimp only at hSw); go_simp <;> with_reducible rfl)
  try simp only [Act.put, List.getElem_toArray, List.getElem_cons_zero, List.getElem_cons_succ, List.setIfInBounds_toArray, List.set_cons_zero, List.set_cons_succ]
  refine wpAnyH_done (by kernel_rfl) ?_ _
  clear z1 z2 z3 z4
  obtain ⟨⟨q0, q1, q2, qb⟩, _⟩ := S0.out _ TB2.out
  go_wp2_with fail
  refine (BN.out _).mono ?_
  rintro y w5 ⟨rfl, hb⟩
  have TB3 := hide (bt TB2.out hb)
  clear hb q0 q1 q2 qb BN
  obtain ⟨⟨q0, q1, q2, qb⟩, _⟩ := S0.out _ TB3.out
  go_wp2_with fail
  refine (BO.out _).mono ?_
  rintro y w6 ⟨rfl, hb⟩
  have TB4 := hide (bt TB3.out hb)
  clear hb q0 q1 q2 qb BO
  obtain ⟨⟨q0, q1, q2, qb⟩, _⟩ := S0.out _ TB4.out
  go_wp2
  go_ret
  exact ⟨rfl, bt HL.out TB4.out⟩
end Go.Proofs.Ytienamijmccjbab
