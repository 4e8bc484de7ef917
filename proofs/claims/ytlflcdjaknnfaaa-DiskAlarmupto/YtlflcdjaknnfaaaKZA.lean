import Derived.Test.YtlflcdjaknnfaaaKZ
namespace Go.Proofs.Ytlflcdjaknnfaaa
open Go.RowKit

theorem sum_wrap {a b D : Nat} (h : a + b = D) (hD : D ≤ 1048577) : IntKind.i64.wrap ((a : Int) + (b : Int)) = ((D : Nat) : Int) := by rw [wrapI (by omega) (by omega)]; omega
theorem sum_w64 {a b D : Nat} (h : a + b = D) (hD : D ≤ 1048577) : wrap64 ((a : Int) + (b : Int)) = ((D : Nat) : Int) := by unfold wrap64; omega
set_option maxRecDepth 8000 in
set_option maxHeartbeats 12000000 in
theorem alarm_good (w : World) (nb : Int) (a : Option Addr) (l : List Nat) (cap : Nat) (hB : Bs w a l) (hN : l.length + 64 ≤ 140737488355328) (hok : stOk nb l) (acts : Int) (hac : N64 acts) (aa : Option Addr) (c : Nat) (L : List Ov) (hL : Sp w aa L) :
    Calls Try.prog 5 #[.agg #[.int .i64 nb, .slice a l.length cap], .int .i64 acts, .slice aa L.length c] w fun e w' => e = .returned (.bool true) ∧ Below w.heap.size w w' := by
  obtain ⟨W0, hW0⟩ : ∃ W0, W0 = w.alloc (.cells #[.int .i64 nb, .slice a l.length cap] 37) := ⟨_, rfl⟩
  have HB0 : Hid (Below w.heap.size w W0) := by rw [hW0]; exact al _ _
  have R1 := hide (works_any W0)
  have hN1 := hL.2.1
  have HL := hide hL
  have HST := hide fun (V : World) (hb : Below w.heap.size w V) => started_good V nb a l cap (hB.keep hb) hN hok
  have HRM := hide (st_room nb l)
  obtain ⟨_, hpw, _, hwr, hsy⟩ := st_new nb l
  have HW0 := hide hW0
  rw [hW0] at R1
  obtain ⟨hac0, hac1⟩ := hac
  clear hW0 hB hN hok hL
  go_enter Try.func5, Try.ntmps5
  go_wp2_with fail
  refine R1.out.mono ?_
  rintro e w1 ⟨rfl, hb1⟩
  obtain ⟨s0, s1⟩ := start_cells hb1
  rw [← HW0.out] at hb1
  have HB1 := hide (bt HB0.out hb1)
  have R2 := hide (HST.out w1 HB1.out)
  clear hb1 R1
  go_wp2_with fail
  refine R2.out.mono ?_
  rintro e w2 ⟨F, p, rfl, h2, hF, hb2⟩
  have HD2 := hide (Ds.ofStart HB1.out h2 hF hb2)
  generalize stS nb l = S at *
  have R3 := hide (HD2.out.arm acts hac1)
  have HAL0 := hide (Al.start (acts := acts) hpw hwr hsy)
  have HRA := hide (HRM.out.arm acts)
  clear h2 hF hb2 R2 s0 s1 hpw hwr hsy
  go_wp2_with fail
  refine R3.out.mono ?_
  rintro e w3 ⟨rfl, h3⟩
  have HD3 := hide h3
  clear h3 R3
  generalize S.arm acts = S0 at *
  clear HRM HST HB1 HB0 HW0 HD2
  go_wp2
  go_loopw [8, 9] (fun dn i wx => ∃ (j D : Nat) (T : Sd), j ≤ L.length ∧ D ≤ j ∧ dn = .int .i64 D ∧ i = .int .i64 j ∧ (Ds w wx p T ∧ Al acts T D ∧ T.room j)) (fun _ i _ => L.length - (intOf i).toNat)
  case atStart => exact ⟨0, 0, S0, Nat.zero_le _, Nat.le_refl _, rfl, rfl, HD3.out, HAL0.out, HRA.out⟩
  case round =>
    clear HD3 HAL0 HRA
    obtain ⟨j, D, T, hj, hDj, rfl, rfl, hG⟩ := hrel
    have HG := hide hG
    clear hG
    by_cases hlt : j < L.length
    · have hi : (j : Int) < (L.length : Int) := by omega
      obtain ⟨b, o, rfl, hra, hgo⟩ := (HL.out.keep HG.out.1.b).at hlt
      have hrm := HG.out.2.2
      have hrb1 : T.wr + 1 ≤ 4611686018427387904 := by have := hrm.1; omega
      have hrb2 : T.sy + 1 ≤ 4611686018427387904 := by have := hrm.2.1; omega
      have hrb3 : T.uns.length + 1 ≤ 268435456 := by have := hrm.2.2; omega
      generalize hov : L.getD j Ov.zero = ov at *
      obtain ⟨k, i, aB, B, cB, aK, K, cK⟩ := ov
      have hra' : wr.rangeAt b (o + j * 4) [.int .i64 k, .int .i64 i, .slice aB B.length cB, .slice aK K.length cK] := hra
      have q0 := hra' 0 _ rfl
      have q1 := hra' 1 _ rfl
      have q2 := hra' 2 _ rfl
      have q3 := hra' 3 _ rfl
      rw [Nat.add_zero] at q0
      obtain ⟨W1, hW1⟩ : ∃ W1, W1 = wr.alloc (.cells #[.int .i64 k, .int .i64 i, .slice aB B.length cB, .slice aK K.length cK] 54) := ⟨_, rfl⟩
      have hb1 : Below wr.heap.size wr W1 := by rw [hW1]; exact al _ _
      have d1 : W1.cell? ⟨wr.heap.size, 1, none⟩ = some (.int .i64 i) := by rw [hW1, cell_of_row _ _ _ _ _ _ (heap_alloc_last wr _)]; rfl
      have d2 : W1.cell? ⟨wr.heap.size, 2, none⟩ = some (.slice aB B.length cB) := by rw [hW1, cell_of_row _ _ _ _ _ _ (heap_alloc_last wr _)]; rfl
      have Hg1 := hide (hgo.keep hb1)
      have hBl : B.length ≤ 1048576 := hgo.bl
      have HD1 := hide (HG.out.1.keep hb1)
      have HW1 := hide hb1
      have HWE := hide hW1
      have hDb : D ≤ 1048576 := by omega
      clear hra hra' hgo hov hrm hb1
      rw [hW1] at d1 d2
      clear hW1
      by_cases k2 : k = 2
      · subst k2
        have RW := hide (HD1.out.sync hrb2)
        have HOUT := hide (HG.out.2.1.sync)
        have HRS := hide (HG.out.2.2.sync)
        rw [HWE.out] at RW
        generalize T.sync = S' at *
        generalize T.syncE = e0 at *
        rcases HOUT.out with ⟨he, hal, hpS⟩ | ⟨he, hal, hpS, hda, hdb⟩ | ⟨hne0, hne17, hal, hpS⟩
        · have HAL := hide hal
          clear hal HOUT
          rw [he] at RW
          clear he
          go_wp2_with fail
          refine RW.out.mono ?_
          rintro e w3 ⟨rfl, h3⟩
          have H3 := hide h3
          clear h3 RW
          by_cases hsg : acts < 0
          · have ha1 : ¬ (0 : Int) ≤ acts := Int.not_le.2 hsg
            have ha5 : acts < 0 := hsg
            have RA := hide (kActs' H3.out.d)
            go_wp2_with fail
            refine RA.out.mono ?_
            rintro e w4 ⟨rfl, hb4⟩
            have H4 := hide (H3.out.keep hb4)
            have RI := hide (kIsOn' H4.out.d)
            rw [hpS] at RI
            clear hb4
            have hcnt : S'.wr + S'.sy = D + 1 := HAL.out.cnt
            have hsum2 := sum_wrap hcnt (Nat.succ_le_succ hDb)
            have hsum := sum_w64 hcnt (Nat.succ_le_succ hDb)
            have hD2 : ((D + 1 : Nat) : Int) = (D : Int) + 1 := rfl
            rw [hD2] at hsum hsum2
            clear hD2 hcnt
            have q9 : (((D : Int) + 1) == ((D : Int) + 1)) = true := by simp
            go_wp2_with fail
            refine RI.out.mono ?_
            rintro e wq ⟨rfl, e1⟩
            have e1 := e1.symm
            subst e1
            clear hsum hsum2 q9
            go_wp2_with (go_at_call 20; refine RI.out.mono ?_; rintro e wq ⟨rfl, e1⟩; have e1 := e1.symm; subst e1)
            go_roundw
            case rel => exact ⟨j + 1, D + 1, S', hlt, Nat.succ_le_succ hDj, rfl, by go_num, H4.out, HAL.out, HRS.out⟩
            case measure => first | exact meas_up _ _ _ rfl hlt | exact meas_up _ _ _ (by go_num) hlt | (simp [intOf]; omega)
          · have HSG := hide hsg
            clear hsg
            have RA := hide (kActs' H3.out.d)
            go_wp2_with fail
            refine RA.out.mono ?_
            rintro e w4 ⟨rfl, hb4⟩
            have H4 := hide (H3.out.keep hb4)
            have RI := hide (kIsOn' H4.out.d)
            rw [hpS] at RI
            clear hb4
            have hcnt : S'.wr + S'.sy = D + 1 := HAL.out.cnt
            have hsum2 := sum_wrap hcnt (Nat.succ_le_succ hDb)
            have hsum := sum_w64 hcnt (Nat.succ_le_succ hDb)
            have hD2 : ((D + 1 : Nat) : Int) = (D : Int) + 1 := rfl
            rw [hD2] at hsum hsum2
            clear hD2 hcnt
            have q9 : (((D : Int) + 1) == ((D : Int) + 1)) = true := by simp
            have ha1 : (0 : Int) ≤ acts := by first | exact HSG.out | exact Int.not_lt.1 HSG.out
            have ha3 : ¬ acts < 0 := Int.not_lt.2 ha1
            have h5 : (D : Int) < acts := Int.lt_of_add_one_le (HAL.out.le ha1)
            have h7 : decide (acts ≤ (D : Int)) = false := decide_eq_false (Int.not_le.2 h5)
            have h8 : decide (acts < (D : Int) + 1) = false := decide_eq_false (Int.not_lt.2 h5)
            have H5 := hide h5
            clear h5
            go_wp2_with fail
            refine RI.out.mono ?_
            rintro e wq ⟨rfl, e1⟩
            have e1 := e1.symm
            subst e1
            clear hsum hsum2 q9
            go_wp2_with (go_at_call 20; refine RI.out.mono ?_; rintro e wq ⟨rfl, e1⟩; have e1 := e1.symm; subst e1)
            go_roundw
            case rel => exact ⟨j + 1, D + 1, S', hlt, Nat.succ_le_succ hDj, rfl, by go_num, H4.out, HAL.out, HRS.out⟩
            case measure => first | exact meas_up _ _ _ rfl hlt | exact meas_up _ _ _ (by go_num) hlt | (simp [intOf]; omega)
        · have HAL := hide hal
          clear hal HOUT
          rw [he] at RW
          clear he
          go_wp2_with fail
          refine RW.out.mono ?_
          rintro e w3 ⟨rfl, h3⟩
          have H3 := hide h3
          clear h3 RW
          have hcnt : S'.wr + S'.sy = D := HAL.out.cnt
          have hsum2 := sum_wrap hcnt (Nat.le_succ_of_le hDb)
          have hsum := sum_w64 hcnt (Nat.le_succ_of_le hDb)
          have q9 : (((D : Int)) == ((D : Int))) = true := by simp
          have ha1 : (0 : Int) ≤ acts := hdb
          have ha4 : (D : Int) ≤ acts := HAL.out.le ha1
          have ha2 : ¬ acts < (D : Int) := Int.not_lt.2 ha4
          have ha3 : ¬ acts < 0 := Int.not_lt.2 ha1
          have RA := hide (kActs' H3.out.d)
          have HC := hide hcnt
          clear hcnt
          have hde : (D : Int) = acts := hda
          have hdf : ((D : Int) == acts) = true := by simp [hde]
          subst hde
          go_wp2_with (first | (go_at_call 17; refine RA.out.mono ?_; rintro e w4 ⟨rfl, hb4⟩; have H4 := hide (H3.out.keep hb4); have RI := hide (kIsOn' H4.out.d); rw [hpS] at RI; clear hb4) | (go_at_call 20; refine RI.out.mono ?_; rintro e wq ⟨rfl, e1⟩; have e1 := e1.symm; subst e1))
          clear hsum hsum2
          go_roundw
          case rel => exact ⟨j + 1, D, S', hlt, Nat.le_succ_of_le hDj, rfl, by go_num, H4.out, HAL.out, HRS.out⟩
          case measure => first | exact meas_up _ _ _ rfl hlt | exact meas_up _ _ _ (by go_num) hlt | (simp [intOf]; omega)
        · have HAL := hide hal
          clear hal HOUT
          have n0 : ((e0 : Int) == 0) = false := eqf (fun e => hne0 (by omega))
          have n17 : ((e0 : Int) == 17) = false := eqf (fun e => hne17 (by omega))
          have n0' : ¬ (e0 : Int) = 0 := by omega
          have n17' : ¬ (e0 : Int) = 17 := by omega
          clear hne0 hne17
          go_wp2_with fail
          refine RW.out.mono ?_
          rintro e w3 ⟨rfl, h3⟩
          have H3 := hide h3
          clear h3 RW
          by_cases hsg : acts < 0
          · have hcnt : S'.wr + S'.sy = D := HAL.out.cnt
            have hsum2 := sum_wrap hcnt (Nat.le_succ_of_le hDb)
            have hsum := sum_w64 hcnt (Nat.le_succ_of_le hDb)
            have q9 : (((D : Int)) == ((D : Int))) = true := by simp
            have ha1 : ¬ (0 : Int) ≤ acts := Int.not_le.2 hsg
            have ha5 : acts < 0 := hsg
            have RA := hide (kActs' H3.out.d)
            have HC := hide hcnt
            clear hcnt
            go_wp2_with (first | (go_at_call 17; refine RA.out.mono ?_; rintro e w4 ⟨rfl, hb4⟩; have H4 := hide (H3.out.keep hb4); have RI := hide (kIsOn' H4.out.d); rw [hpS] at RI; clear hb4) | (go_at_call 20; refine RI.out.mono ?_; rintro e wq ⟨rfl, e1⟩; have e1 := e1.symm; subst e1))
            clear hsum hsum2
            go_roundw
            case rel => exact ⟨j + 1, D, S', hlt, Nat.le_succ_of_le hDj, rfl, by go_num, H4.out, HAL.out, HRS.out⟩
            case measure => first | exact meas_up _ _ _ rfl hlt | exact meas_up _ _ _ (by go_num) hlt | (simp [intOf]; omega)
          · have HSG := hide hsg
            clear hsg
            have RA := hide (kActs' H3.out.d)
            go_wp2_with fail
            refine RA.out.mono ?_
            rintro e w4 ⟨rfl, hb4⟩
            have H4 := hide (H3.out.keep hb4)
            have RI := hide (kIsOn' H4.out.d)
            rw [hpS] at RI
            clear hb4
            have hcnt : S'.wr + S'.sy = D := HAL.out.cnt
            have hsum2 := sum_wrap hcnt (Nat.le_succ_of_le hDb)
            have hsum := sum_w64 hcnt (Nat.le_succ_of_le hDb)
            clear hcnt
            have q9 : ((D : Int) == (D : Int)) = true := by simp
            have ha1 : (0 : Int) ≤ acts := by first | exact HSG.out | exact Int.not_lt.1 HSG.out
            have ha3 : ¬ acts < 0 := Int.not_lt.2 ha1
            have h8 : decide (acts < (D : Int)) = false := decide_eq_false (Int.not_lt.2 (HAL.out.le ha1))
            go_wp2_with fail
            refine RI.out.mono ?_
            rintro e wq ⟨rfl, e1⟩
            have e1 := e1.symm
            subst e1
            clear hsum hsum2 q9
            go_wp2_with (go_at_call 20; refine RI.out.mono ?_; rintro e wq ⟨rfl, e1⟩; have e1 := e1.symm; subst e1)
            clear h8
            go_roundw
            case rel => exact ⟨j + 1, D, S', hlt, Nat.le_succ_of_le hDj, rfl, by go_num, H4.out, HAL.out, HRS.out⟩
            case measure => first | exact meas_up _ _ _ rfl hlt | exact meas_up _ _ _ (by go_num) hlt | (simp [intOf]; omega)
      have k2' := eqf k2
      by_cases k1 : k = 1
      · subst k1
        have HOUT := hide (HG.out.2.1.write i B)
        have HRS := hide (HG.out.2.2.write i B)
        have HC := hide (CopyBytes_any W1.drew aB B.length cB B (Hg1.out.b.keep (drw W1)) rfl (by omega))
        have RW := hide fun (V : World) (a2 : Option Addr) (c2 : Nat) (hb2 : Below W1.drew.heap.size W1.drew V) (hr2 : Rw V a2 c2 B) (hn2 : New W1.drew none a2) => HG.out.1.write (bt HW1.out (bt (drw W1) hb2)) i a2 c2 B (hr2.bs' Hg1.out.b.1) (New.mono hn2 HW1.out.size) hrb3 hrb1
        rw [HWE.out] at HC RW
        generalize T.write i B = S' at *
        generalize T.writeE i B = e0 at *
        rcases HOUT.out with ⟨he, hal, hpS⟩ | ⟨he, hal, hpS, hda, hdb⟩ | ⟨hne0, hne17, hal, hpS⟩
        · have HAL := hide hal
          clear hal HOUT
          rw [he] at RW
          clear he
          go_wp2
          go_region_held3 (fun V => V.cell? ⟨wr.heap.size, 1, none⟩ = some (.int .i64 i) ∧ V.cell? ⟨wr.heap.size, 2, none⟩ = some (.slice aB B.length cB))
            (first | exact ⟨d1, d2⟩ | exact e2 | exact e3)
            (first
              | (go_at_call 9; refine HC.out.mono ?_; rintro e w2 ⟨a2, c2, rfl, hr2, hn2, hb2⟩; have e2 : w2.cell? ⟨wr.heap.size, 1, none⟩ = some (.int .i64 i) ∧ w2.cell? ⟨wr.heap.size, 2, none⟩ = some (.slice aB B.length cB) := ⟨(hb2.cell (p := ⟨wr.heap.size, 1, none⟩) (block_lt_of_cell d1)).trans d1, (hb2.cell (p := ⟨wr.heap.size, 2, none⟩) (block_lt_of_cell d2)).trans d2⟩; have R5 := hide (RW.out w2 a2 c2 hb2 hr2 hn2); have hlt2 : wr.heap.size < w2.heap.size := block_lt_of_cell e2.1; clear hr2 hn2 hb2)
              | (go_at_call 25; refine R5.out.mono ?_; rintro e w3 ⟨rfl, h3, F3, hF3, hb3⟩; have H3 := hide h3; have e3 : w3.cell? ⟨wr.heap.size, 1, none⟩ = some (.int .i64 i) ∧ w3.cell? ⟨wr.heap.size, 2, none⟩ = some (.slice aB B.length cB) := ⟨(hb3.cell (p := ⟨wr.heap.size, 1, none⟩) hlt2 (fun hk => absurd (hF3 _ hk) (Nat.lt_irrefl _))).trans e2.1, (hb3.cell (p := ⟨wr.heap.size, 2, none⟩) hlt2 (fun hk => absurd (hF3 _ hk) (Nat.lt_irrefl _))).trans e2.2⟩; clear h3 hb3))
          by_cases hsg : acts < 0
          · have ha1 : ¬ (0 : Int) ≤ acts := Int.not_le.2 hsg
            have ha5 : acts < 0 := hsg
            have RA := hide (kActs' H3.out.d)
            go_wp2_with fail
            refine RA.out.mono ?_
            rintro e w4 ⟨rfl, hb4⟩
            have H4 := hide (H3.out.keep hb4)
            have RI := hide (kIsOn' H4.out.d)
            rw [hpS] at RI
            clear hb4
            have hcnt : S'.wr + S'.sy = D + 1 := HAL.out.cnt
            have hsum2 := sum_wrap hcnt (Nat.succ_le_succ hDb)
            have hsum := sum_w64 hcnt (Nat.succ_le_succ hDb)
            have hD2 : ((D + 1 : Nat) : Int) = (D : Int) + 1 := rfl
            rw [hD2] at hsum hsum2
            clear hD2 hcnt
            have q9 : (((D : Int) + 1) == ((D : Int) + 1)) = true := by simp
            go_wp2_with fail
            refine RI.out.mono ?_
            rintro e wq ⟨rfl, e1⟩
            have e1 := e1.symm
            subst e1
            clear hsum hsum2 q9
            go_wp2_with (go_at_call 20; refine RI.out.mono ?_; rintro e wq ⟨rfl, e1⟩; have e1 := e1.symm; subst e1)
            go_roundw
            case rel => exact ⟨j + 1, D + 1, S', hlt, Nat.succ_le_succ hDj, rfl, by go_num, H4.out, HAL.out, HRS.out⟩
            case measure => first | exact meas_up _ _ _ rfl hlt | exact meas_up _ _ _ (by go_num) hlt | (simp [intOf]; omega)
          · have HSG := hide hsg
            clear hsg
            have RA := hide (kActs' H3.out.d)
            go_wp2_with fail
            refine RA.out.mono ?_
            rintro e w4 ⟨rfl, hb4⟩
            have H4 := hide (H3.out.keep hb4)
            have RI := hide (kIsOn' H4.out.d)
            rw [hpS] at RI
            clear hb4
            have hcnt : S'.wr + S'.sy = D + 1 := HAL.out.cnt
            have hsum2 := sum_wrap hcnt (Nat.succ_le_succ hDb)
            have hsum := sum_w64 hcnt (Nat.succ_le_succ hDb)
            have hD2 : ((D + 1 : Nat) : Int) = (D : Int) + 1 := rfl
            rw [hD2] at hsum hsum2
            clear hD2 hcnt
            have q9 : (((D : Int) + 1) == ((D : Int) + 1)) = true := by simp
            have ha1 : (0 : Int) ≤ acts := by first | exact HSG.out | exact Int.not_lt.1 HSG.out
            have ha3 : ¬ acts < 0 := Int.not_lt.2 ha1
            have h5 : (D : Int) < acts := Int.lt_of_add_one_le (HAL.out.le ha1)
            have h7 : decide (acts ≤ (D : Int)) = false := decide_eq_false (Int.not_le.2 h5)
            have h8 : decide (acts < (D : Int) + 1) = false := decide_eq_false (Int.not_lt.2 h5)
            have H5 := hide h5
            clear h5
            go_wp2_with fail
            refine RI.out.mono ?_
            rintro e wq ⟨rfl, e1⟩
            have e1 := e1.symm
            subst e1
            clear hsum hsum2 q9
            go_wp2_with (go_at_call 20; refine RI.out.mono ?_; rintro e wq ⟨rfl, e1⟩; have e1 := e1.symm; subst e1)
            go_roundw
            case rel => exact ⟨j + 1, D + 1, S', hlt, Nat.succ_le_succ hDj, rfl, by go_num, H4.out, HAL.out, HRS.out⟩
            case measure => first | exact meas_up _ _ _ rfl hlt | exact meas_up _ _ _ (by go_num) hlt | (simp [intOf]; omega)
        · have HAL := hide hal
          clear hal HOUT
          rw [he] at RW
          clear he
          go_wp2
          go_region_held3 (fun V => V.cell? ⟨wr.heap.size, 1, none⟩ = some (.int .i64 i) ∧ V.cell? ⟨wr.heap.size, 2, none⟩ = some (.slice aB B.length cB))
            (first | exact ⟨d1, d2⟩ | exact e2 | exact e3)
            (first
              | (go_at_call 9; refine HC.out.mono ?_; rintro e w2 ⟨a2, c2, rfl, hr2, hn2, hb2⟩; have e2 : w2.cell? ⟨wr.heap.size, 1, none⟩ = some (.int .i64 i) ∧ w2.cell? ⟨wr.heap.size, 2, none⟩ = some (.slice aB B.length cB) := ⟨(hb2.cell (p := ⟨wr.heap.size, 1, none⟩) (block_lt_of_cell d1)).trans d1, (hb2.cell (p := ⟨wr.heap.size, 2, none⟩) (block_lt_of_cell d2)).trans d2⟩; have R5 := hide (RW.out w2 a2 c2 hb2 hr2 hn2); have hlt2 : wr.heap.size < w2.heap.size := block_lt_of_cell e2.1; clear hr2 hn2 hb2)
              | (go_at_call 25; refine R5.out.mono ?_; rintro e w3 ⟨rfl, h3, F3, hF3, hb3⟩; have H3 := hide h3; have e3 : w3.cell? ⟨wr.heap.size, 1, none⟩ = some (.int .i64 i) ∧ w3.cell? ⟨wr.heap.size, 2, none⟩ = some (.slice aB B.length cB) := ⟨(hb3.cell (p := ⟨wr.heap.size, 1, none⟩) hlt2 (fun hk => absurd (hF3 _ hk) (Nat.lt_irrefl _))).trans e2.1, (hb3.cell (p := ⟨wr.heap.size, 2, none⟩) hlt2 (fun hk => absurd (hF3 _ hk) (Nat.lt_irrefl _))).trans e2.2⟩; clear h3 hb3))
          have hcnt : S'.wr + S'.sy = D := HAL.out.cnt
          have hsum2 := sum_wrap hcnt (Nat.le_succ_of_le hDb)
          have hsum := sum_w64 hcnt (Nat.le_succ_of_le hDb)
          have q9 : (((D : Int)) == ((D : Int))) = true := by simp
          have ha1 : (0 : Int) ≤ acts := hdb
          have ha4 : (D : Int) ≤ acts := HAL.out.le ha1
          have ha2 : ¬ acts < (D : Int) := Int.not_lt.2 ha4
          have ha3 : ¬ acts < 0 := Int.not_lt.2 ha1
          have RA := hide (kActs' H3.out.d)
          have HC := hide hcnt
          clear hcnt
          have hde : (D : Int) = acts := hda
          have hdf : ((D : Int) == acts) = true := by simp [hde]
          subst hde
          go_wp2_with (first | (go_at_call 17; refine RA.out.mono ?_; rintro e w4 ⟨rfl, hb4⟩; have H4 := hide (H3.out.keep hb4); have RI := hide (kIsOn' H4.out.d); rw [hpS] at RI; clear hb4) | (go_at_call 20; refine RI.out.mono ?_; rintro e wq ⟨rfl, e1⟩; have e1 := e1.symm; subst e1))
          clear hsum hsum2
          go_roundw
          case rel => exact ⟨j + 1, D, S', hlt, Nat.le_succ_of_le hDj, rfl, by go_num, H4.out, HAL.out, HRS.out⟩
          case measure => first | exact meas_up _ _ _ rfl hlt | exact meas_up _ _ _ (by go_num) hlt | (simp [intOf]; omega)
        · have HAL := hide hal
          clear hal HOUT
          have n0 : ((e0 : Int) == 0) = false := eqf (fun e => hne0 (by omega))
          have n17 : ((e0 : Int) == 17) = false := eqf (fun e => hne17 (by omega))
          have n0' : ¬ (e0 : Int) = 0 := by omega
          have n17' : ¬ (e0 : Int) = 17 := by omega
          clear hne0 hne17
          go_wp2
          go_region_held3 (fun V => V.cell? ⟨wr.heap.size, 1, none⟩ = some (.int .i64 i) ∧ V.cell? ⟨wr.heap.size, 2, none⟩ = some (.slice aB B.length cB))
            (first | exact ⟨d1, d2⟩ | exact e2 | exact e3)
            (first
              | (go_at_call 9; refine HC.out.mono ?_; rintro e w2 ⟨a2, c2, rfl, hr2, hn2, hb2⟩; have e2 : w2.cell? ⟨wr.heap.size, 1, none⟩ = some (.int .i64 i) ∧ w2.cell? ⟨wr.heap.size, 2, none⟩ = some (.slice aB B.length cB) := ⟨(hb2.cell (p := ⟨wr.heap.size, 1, none⟩) (block_lt_of_cell d1)).trans d1, (hb2.cell (p := ⟨wr.heap.size, 2, none⟩) (block_lt_of_cell d2)).trans d2⟩; have R5 := hide (RW.out w2 a2 c2 hb2 hr2 hn2); have hlt2 : wr.heap.size < w2.heap.size := block_lt_of_cell e2.1; clear hr2 hn2 hb2)
              | (go_at_call 25; refine R5.out.mono ?_; rintro e w3 ⟨rfl, h3, F3, hF3, hb3⟩; have H3 := hide h3; have e3 : w3.cell? ⟨wr.heap.size, 1, none⟩ = some (.int .i64 i) ∧ w3.cell? ⟨wr.heap.size, 2, none⟩ = some (.slice aB B.length cB) := ⟨(hb3.cell (p := ⟨wr.heap.size, 1, none⟩) hlt2 (fun hk => absurd (hF3 _ hk) (Nat.lt_irrefl _))).trans e2.1, (hb3.cell (p := ⟨wr.heap.size, 2, none⟩) hlt2 (fun hk => absurd (hF3 _ hk) (Nat.lt_irrefl _))).trans e2.2⟩; clear h3 hb3))
          by_cases hsg : acts < 0
          · have hcnt : S'.wr + S'.sy = D := HAL.out.cnt
            have hsum2 := sum_wrap hcnt (Nat.le_succ_of_le hDb)
            have hsum := sum_w64 hcnt (Nat.le_succ_of_le hDb)
            have q9 : (((D : Int)) == ((D : Int))) = true := by simp
            have ha1 : ¬ (0 : Int) ≤ acts := Int.not_le.2 hsg
            have ha5 : acts < 0 := hsg
            have RA := hide (kActs' H3.out.d)
            have HC := hide hcnt
            clear hcnt
            go_wp2_with (first | (go_at_call 17; refine RA.out.mono ?_; rintro e w4 ⟨rfl, hb4⟩; have H4 := hide (H3.out.keep hb4); have RI := hide (kIsOn' H4.out.d); rw [hpS] at RI; clear hb4) | (go_at_call 20; refine RI.out.mono ?_; rintro e wq ⟨rfl, e1⟩; have e1 := e1.symm; subst e1))
            clear hsum hsum2
            go_roundw
            case rel => exact ⟨j + 1, D, S', hlt, Nat.le_succ_of_le hDj, rfl, by go_num, H4.out, HAL.out, HRS.out⟩
            case measure => first | exact meas_up _ _ _ rfl hlt | exact meas_up _ _ _ (by go_num) hlt | (simp [intOf]; omega)
          · have HSG := hide hsg
            clear hsg
            have RA := hide (kActs' H3.out.d)
            go_wp2_with fail
            refine RA.out.mono ?_
            rintro e w4 ⟨rfl, hb4⟩
            have H4 := hide (H3.out.keep hb4)
            have RI := hide (kIsOn' H4.out.d)
            rw [hpS] at RI
            clear hb4
            have hcnt : S'.wr + S'.sy = D := HAL.out.cnt
            have hsum2 := sum_wrap hcnt (Nat.le_succ_of_le hDb)
            have hsum := sum_w64 hcnt (Nat.le_succ_of_le hDb)
            clear hcnt
            have q9 : ((D : Int) == (D : Int)) = true := by simp
            have ha1 : (0 : Int) ≤ acts := by first | exact HSG.out | exact Int.not_lt.1 HSG.out
            have ha3 : ¬ acts < 0 := Int.not_lt.2 ha1
            have h8 : decide (acts < (D : Int)) = false := decide_eq_false (Int.not_lt.2 (HAL.out.le ha1))
            go_wp2_with fail
            refine RI.out.mono ?_
            rintro e wq ⟨rfl, e1⟩
            have e1 := e1.symm
            subst e1
            clear hsum hsum2 q9
            go_wp2_with (go_at_call 20; refine RI.out.mono ?_; rintro e wq ⟨rfl, e1⟩; have e1 := e1.symm; subst e1)
            clear h8
            go_roundw
            case rel => exact ⟨j + 1, D, S', hlt, Nat.le_succ_of_le hDj, rfl, by go_num, H4.out, HAL.out, HRS.out⟩
            case measure => first | exact meas_up _ _ _ rfl hlt | exact meas_up _ _ _ (by go_num) hlt | (simp [intOf]; omega)
      have k1' := eqf k1
      have k1b : (k != 1) = true := bne_iff_ne.2 k1
      have k2b : (k != 2) = true := bne_iff_ne.2 k2
      go_wp2
      go_roundw
      case rel =>
        refine ⟨j + 1, D, T, by omega, by omega, rfl, by go_num, ?_, HG.out.2.1, HG.out.2.2.le (Nat.le_succ _)⟩
        have := HD1.out
        rw [HWE.out] at this
        exact this
      case measure => simp [intOf]; omega
    · obtain rfl : j = L.length := by omega
      go_wp2
      go_ret
      exact ⟨rfl, HG.out.1.b⟩
set_option maxRecDepth 8000 in
set_option maxHeartbeats 2000000 in
theorem alarm_bad (w : World) (nb : Int) (a : Option Addr) (l : List Nat) (cap : Nat) (hB : Bs w a l) (hN : l.length + 64 ≤ 140737488355328) (hok : ¬ stOk nb l) (acts : Int) (a1 : Option Addr) (n1 c1 : Nat) :
    Calls Try.prog 5 #[.agg #[.int .i64 nb, .slice a l.length cap], .int .i64 acts, .slice a1 n1 c1] w fun e w' => e = .returned (.bool true) ∧ Below w.heap.size w w' := by
  obtain ⟨W0, hW0⟩ : ∃ W0, W0 = w.alloc (.cells #[.int .i64 nb, .slice a l.length cap] 37) := ⟨_, rfl⟩
  have HB0 : Hid (Below w.heap.size w W0) := by rw [hW0]; exact al _ _
  have R1 := hide (works_any W0)
  have HST := hide fun (V : World) (hb : Below w.heap.size w V) => started_bad V nb a l cap (hB.keep hb) hN hok
  have HW0 := hide hW0
  rw [hW0] at R1
  clear hW0 hB hN hok
  go_enter Try.func5, Try.ntmps5
  go_wp2_with fail
  refine R1.out.mono ?_
  rintro e w1 ⟨rfl, hb1⟩
  obtain ⟨s0, s1⟩ := start_cells hb1
  rw [← HW0.out] at hb1
  have HB1 := hide (bt HB0.out hb1)
  have R2 := hide (HST.out w1 HB1.out)
  clear hb1 R1
  go_wp2_with fail
  refine R2.out.mono ?_
  rintro e w2 ⟨rfl, hb2⟩
  have HB2 := hide (bt HB1.out hb2)
  clear hb2 R2 s0 s1
  go_wp2
  go_ret
  exact ⟨rfl, HB2.out⟩
theorem diskAlarm_any (w : World) (nb : Int) (a : Option Addr) (l : List Nat) (cap : Nat) (_hnb : N64 nb) (hB : Bs w a l) (hN : l.length + 64 ≤ 140737488355328) (_hC : l.length ≤ cap) (acts : Int) (hac : N64 acts) (aa : Option Addr) (c : Nat) (L : List Ov) (hL : Sp w aa L) :
    Calls Try.prog 5 #[.agg #[.int .i64 nb, .slice a l.length cap], .int .i64 acts, .slice aa L.length c] w fun e w' => e = .returned (.bool true) ∧ Below w.heap.size w w' := by
  by_cases h : stOk nb l
  · exact alarm_good w nb a l cap hB hN h acts hac aa c L hL
  · exact alarm_bad w nb a l cap hB hN h acts aa L.length c
end Go.Proofs.Ytlflcdjaknnfaaa
