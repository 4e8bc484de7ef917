import Derived.Test.YtdfhalhllmnnbaaEAG
namespace Go.Proofs.Ytdfhalhllmnnbaa
set_option linter.unusedVariables false
open Go.RowKit

/-! ### PoolSettled -/
set_option maxHeartbeats 16000000 in
set_option maxRecDepth 16000 in
theorem poolSettled_any (w : World) (l : Bool) (n r : Int) (a : Option Addr) (cap : Nat) (C : List Int) (hC : Ir w a C) (hN : C.length ≤ 17592186043904) (aF : Option Addr) (cF : Nat) (F : List Ov) (hF : Oq w aF F) (hFl : F.length ≤ 5864062014805) (aT : Option Addr) (cT : Nat) (T : List Ov) (hT : Oq w aT T) (hTl : T.length ≤ 5864062014805) :
    Calls Try.prog 7 #[.agg #[.bool l, .int .i64 n, .int .i64 r, .slice a C.length cap], .slice aF F.length cF, .slice aT T.length cT] w fun e w' => e = .returned (.bool true) ∧ Below w.heap.size w w' := by
  have aw := al w (.cells #[.bool l, .int .i64 n, .int .i64 r, .slice a C.length cap] 24)
  have FX := hide (fixed_any (w.alloc (.cells #[.bool l, .int .i64 n, .int .i64 r, .slice a C.length cap] 24)))
  have bx := World.alloc_heap_new w (.cells #[.bool l, .int .i64 n, .int .i64 r, .slice a C.length cap] 24)
  have BX := hide (show ∀ W, Below (w.alloc (.cells #[.bool l, .int .i64 n, .int .i64 r, .slice a C.length cap] 24)).heap.size (w.alloc (.cells #[.bool l, .int .i64 n, .int .i64 r, .slice a C.length cap] 24)) W → W.cell? ⟨w.heap.size, 0, none⟩ = some (.bool l) ∧ W.cell? ⟨w.heap.size, 1, none⟩ = some (.int .i64 n) ∧ W.cell? ⟨w.heap.size, 2, none⟩ = some (.int .i64 r) ∧ W.cell? ⟨w.heap.size, 3, none⟩ = some (.slice a C.length cap) from fun W hb => by
    have h := (hb.block w.heap.size (Array.getElem?_eq_some_iff.1 bx).1).trans bx
    rw [cell_of_row _ _ _ _ _ _ h, cell_of_row _ _ _ _ _ _ h, cell_of_row _ _ _ _ _ _ h, cell_of_row _ _ _ _ _ _ h]
    exact ⟨rfl, rfl, rfl, rfl⟩)
  have MD := hide fun (W : World) (hb : Below w.heap.size w W) => made_any W l n r a C.length cap C (hC.keep hb) rfl (by omega)
  have HF := hide hF
  have HT := hide hT
  have AW := hide aw
  obtain ⟨m, hm⟩ : ∃ m, F.length = m := ⟨_, rfl⟩
  obtain ⟨m2, hm2⟩ : ∃ m2, T.length = m2 := ⟨_, rfl⟩
  have HM := hide hm
  have HM2 := hide hm2
  rw [hm] at hFl ⊢
  rw [hm2] at hTl ⊢
  generalize C.length = k at *
  clear aw bx hC hT hF hm hm2
  go_enter Try.func7, Try.ntmps7
  go_wp2_with fail
  generalize w.alloc (.cells #[.bool l, .int .i64 n, .int .i64 r, .slice a k cap] 24) = W0 at *
  refine FX.out.mono ?_
  rintro _ w1 ⟨rfl, hb⟩
  obtain ⟨x0, x1, x2, x3⟩ := BX.out _ hb
  have B1 := hide (bt AW.out hb)
  clear hb FX BX
  go_wp2_with fail
  refine (MD.out _ B1.out).mono ?_
  rintro e w2 (⟨-, rfl, hb2⟩ | ⟨-, b, q, col, cb, lb, rfl, hT2⟩)
  · have B2 := hide (bt B1.out hb2)
    clear hb2 MD x0 x1 x2 x3
    go_wp2
    go_ret
    exact ⟨rfl, B2.out⟩
  have H0 := hide (show Np w w2 b (Po.start r (cnB l n C)) col from ⟨hT2.np.p, bt B1.out hT2.np.b, fun k hk => by have := hT2.np.n k hk; have := B1.out.size; omega⟩)
  clear hT2 MD x0 x1 x2 x3
  obtain ⟨P0, hP0⟩ : ∃ P0, Po.start r (cnB l n C) = P0 := ⟨_, rfl⟩
  have M0 : P0.mark = 0 := by rw [← hP0]; rfl
  rw [hP0] at H0
  clear hP0
  go_wp2_with fail
  go_loopw [10] (fun i wr => ∃ (j : Nat) (c' : Nat → Nat), j ≤ m ∧ i = .int .i64 (j : Int) ∧ Np w wr b (P0.play (F.take j)) c') (fun i _ => m - (intOf i).toNat)
  case atStart => exact ⟨0, col, Nat.zero_le _, rfl, H0.out⟩
  case round =>
    clear H0
    obtain ⟨j, c', hj, rfl, hNp⟩ := hrel
    have H := hide hNp
    clear hNp
    by_cases hlt : j < m
    · have hjl : j < F.length := by rw [HM.out]; exact hlt
      obtain ⟨b1, o1, rfl, t0, t1, t2⟩ := (HF.out.keep H.out.b).at hjl
      have hmk := P0.play_mark (F.take j)
      rw [List.length_take, M0] at hmk
      have AC := hide (acted_any wr b _ c' H.out.p (F.getD j Ov.zero) (by omega))
      rw [← Po.play_snoc hjl] at AC
      have hji : (j : Int) < (m : Int) := by omega
      obtain ⟨ov, hov⟩ : ∃ ov, F.getD j Ov.zero = ov := ⟨_, rfl⟩
      rw [hov] at t0 t1 t2 AC
      obtain ⟨o0, o2, o3⟩ := ov
      simp only at t0 t1 t2 AC
      clear hov hmk
      go_wp2_with fail
      refine AC.out.mono ?_
      rintro _ w3 ⟨rfl, c3, h3, f3⟩
      have H3 := hide (H.out.step h3 f3)
      clear h3 f3 AC t0 t1 t2
      go_wp2
      go_roundw
      case rel => exact ⟨j + 1, c3, by omega, by go_num, H3.out⟩
      case measure => simp [intOf]; omega
    · obtain rfl : j = m := by omega
      have hmk := P0.play_mark (F.take j)
      rw [List.length_take, M0] at hmk
      obtain ⟨P, hP⟩ : ∃ P, P0.play (F.take j) = P := ⟨_, rfl⟩
      rw [hP] at H hmk
      clear hP
      have SE := hide (Settle_any wr b P c' H.out.p (by omega))
      go_wp2_with fail
      refine SE.out.mono ?_
      rintro _ w3 ⟨rfl, c3, h3, f3⟩
      have H3 := hide (H.out.step h3 f3)
      clear h3 f3 SE H
      have MK3 : P.settle.mark = P.mark := by unfold Po.settle Po.mark; simp
      have EV := hide (Eqv.load (P := P))
      obtain ⟨ft, bd⟩ := load_fits H3.out.p.ok
      obtain ⟨S, hS⟩ : ∃ S, P.settle = S := ⟨_, rfl⟩
      have hrf : S.rf = P.rf := by rw [← hS]; rfl
      rw [← hrf] at EV
      rw [hS] at H3 MK3 EV ft bd
      rw [← MK3] at hmk
      clear hS hrf MK3
      have RF := hide (Refs_pl w3 b S c3 H3.out.p)
      go_wp2_with fail
      refine RF.out.mono ?_
      rintro _ wq ⟨rfl, hwq⟩
      obtain rfl := hwq.symm
      have CN := hide (Counts_any w3 b S c3 H3.out.p)
      go_wp2_with fail
      refine CN.out.mono ?_
      rintro _ w4 ⟨a4, d4, rfl, hI⟩
      have LD := hide (Load_any w4 S.rf a4 S.counts.length d4 S.counts hI.r.ir rfl ft)
      have H4 := hide (H3.out.keep hI.b)
      clear hI CN RF H3
      generalize S.counts.length = ln at *
      go_wp2_with fail
      refine LD.out.mono ?_
      rintro _ w5 (⟨h, -, -⟩ | ⟨-, b2, rfl, hM⟩)
      · rw [bd] at h; cases h
      have H5 : Hid (∃ e', Pair w w5 b b2 S (Po.start S.rf S.counts) c3 e') := by
        obtain ⟨e', q1, q2, q3⟩ := hM
        refine ⟨e', H4.out.keep q2, ⟨q1, bt H4.out.b q2, fun k hk => ?_⟩, fun k hk => ?_⟩
        · have := q3 k hk; have := H4.out.b.size; omega
        · have := H4.out.p.lt k hk
          by_cases z : e' k = 0
          · exact z
          · have := q3 k z; omega
      clear hM LD ft bd H4
      have M2 := start_mark S.rf S.counts
      obtain ⟨Q, hQ⟩ : ∃ Q, Po.start S.rf S.counts = Q := ⟨_, rfl⟩
      rw [hQ] at H5 EV M2
      clear hQ
      go_wp2_with fail
      go_loopw [13] (fun i wr => ∃ (k : Nat) (c' e' : Nat → Nat) (P Q : Po), k ≤ m2 ∧ i = .int .i64 (k : Int) ∧ Pair w wr b b2 P Q c' e' ∧ Eqv P Q ∧ P.mark ≤ j + k ∧ Q.mark ≤ k) (fun i _ => m2 - (intOf i).toNat)
      case atStart =>
        obtain ⟨e', h5⟩ := H5.out
        exact ⟨0, c3, e', S, Q, Nat.zero_le _, rfl, h5, EV.out, by omega, by omega⟩
      case round =>
        clear H5 EV hmk M2
        obtain ⟨jj, c', e', P, Q, hj2, rfl, hPr, hE, mp, mq⟩ := hrel
        have H := hide hPr
        have EV := hide hE
        clear hPr hE
        by_cases hlt2 : jj < m2
        · have hjl : jj < T.length := by rw [HM2.out]; exact hlt2
          obtain ⟨b1, o1, rfl, t0, t1, t2⟩ := HT.out.at hjl
          have hji : (jj : Int) < (m2 : Int) := by omega
          obtain ⟨ov, hov⟩ : ∃ ov, T.getD jj Ov.zero = ov := ⟨_, rfl⟩
          rw [hov] at t0 t1 t2
          obtain ⟨o0, o2, o3⟩ := ov
          simp only at t0 t1 t2
          have CT := hide (show ∀ W, Below w.heap.size w W → W.cell? ⟨b1, o1 + jj * 3, none⟩ = some (.int .i64 o0) ∧ W.cell? ⟨b1, o1 + jj * 3 + 1, none⟩ = some (.int .i64 o2) ∧ W.cell? ⟨b1, o1 + jj * 3 + 2, none⟩ = some (.int .i64 o3) from fun W hb => ⟨(hb.cell (p := ⟨b1, o1 + jj * 3, none⟩) (block_lt_of_cell t0)).trans t0, (hb.cell (p := ⟨b1, o1 + jj * 3 + 1, none⟩) (block_lt_of_cell t1)).trans t1, (hb.cell (p := ⟨b1, o1 + jj * 3 + 2, none⟩) (block_lt_of_cell t2)).trans t2⟩)
          clear t0 t1 t2 hov
          obtain ⟨t0, t1, t2⟩ := CT.out _ H.out.p.b
          by_cases k8 : o0 = 8
          · subst k8
            go_wp2
            go_roundw
            case rel => exact ⟨jj + 1, c', e', P, Q, by omega, by go_num, H.out, EV.out, by omega, by omega⟩
            case measure => simp [intOf]; omega
          have q8 : (o0 == 8) = false := by simp [k8]
          by_cases k9 : o0 = 9
          · subst k9
            go_wp2
            go_roundw
            case rel => exact ⟨jj + 1, c', e', P, Q, by omega, by go_num, H.out, EV.out, by omega, by omega⟩
            case measure => simp [intOf]; omega
          have q9 : (o0 == 9) = false := by simp [k9]
          by_cases k12 : 12 ≤ o0
          · have d12 : decide (12 ≤ o0) = true := decide_eq_true k12
            go_wp2
            go_roundw
            case rel => exact ⟨jj + 1, c', e', P, Q, by omega, by go_num, H.out, EV.out, by omega, by omega⟩
            case measure => simp [intOf]; omega
          have d12 : decide (12 ≤ o0) = false := decide_eq_false k12
          by_cases k0 : o0 < 0
          · have d0 : decide (o0 < 0) = true := decide_eq_true k0
            go_wp2
            go_roundw
            case rel => exact ⟨jj + 1, c', e', P, Q, by omega, by go_num, H.out, EV.out, by omega, by omega⟩
            case measure => simp [intOf]; omega
          have d0 : decide (o0 < 0) = false := decide_eq_false k0
          obtain ⟨E1, E2⟩ := EV.out.ask (o0, o2, o3) (by simp only; omega) k8 k9 (by simp only; omega)
          have EV2 := hide E2
          have mp2 := ask_mark P (o0, o2, o3)
          have mq2 := ask_mark Q (o0, o2, o3)
          have LL := ask_len H.out.p.p.ok (o0, o2, o3)
          have AK1 := hide fun (W : World) (c e : Nat → Nat) (h : Pair w W b b2 P Q c e) => asked_any W b P c h.p.p (by omega) (o0, o2, o3)
          have AK2 := hide fun (W : World) (c e : Nat → Nat) (h : Pair w W b b2 (P.ask (o0, o2, o3)).2 Q c e) => asked_any W b2 Q e h.q.p (by omega) (o0, o2, o3)
          rw [← E1] at AK2
          have SM := hide fun (W : World) (a d : Option Addr) (ca cd : Nat) (h1 : Ir W a (P.ask (o0, o2, o3)).1.l) (h2 : Ir W d (P.ask (o0, o2, o3)).1.l) => same_any W (P.ask (o0, o2, o3)).1 a d ca cd h1 h2 (by omega)
          generalize (P.ask (o0, o2, o3)).1 = A at *
          generalize (P.ask (o0, o2, o3)).2 = P2 at *
          generalize (Q.ask (o0, o2, o3)).2 = Q2 at *
          clear E1 E2 EV
          obtain ⟨An, Am, Ai, Al, Ae⟩ := A
          simp only at AK1 AK2 SM LL
          have HD := hide (H.out.keep (show Below wr.heap.size wr wr.drew from ⟨rfl, rfl, rfl, Nat.le_refl _, fun _ _ => rfl⟩))
          go_wp2_with fail
          refine wp_region_held_drew (S := fun w' => w'.cell? ⟨b1, o1 + jj * 3, none⟩ = some (.int .i64 o0) ∧ w'.cell? ⟨b1, o1 + jj * 3 + 1, none⟩ = some (.int .i64 o2) ∧ w'.cell? ⟨b1, o1 + jj * 3 + 2, none⟩ = some (.int .i64 o3)) (by kernel_rfl) (CT.out _ HD.out.p.b) (fun hHeld => ?_)
          refine wpAnyH_take (i := 0) (v := ?vaa0) rfl (by kernel_rfl) (by kernel_rfl) (by kernel_rfl) (fun _ _ _ h => h) (Or.inl ⟨by rfl, ?hya0⟩) (by assumption) ?raa0
          case hya0 => (intro wq hSw; (try dsimp only at hSw); obtain ⟨g1, g2, g3⟩ := hSw; go_simp <;> with_reducible rfl)
          try simp only [Act.put, List.getElem_toArray, List.getElem_cons_zero, List.setIfInBounds_toArray, List.set_cons_zero, List.set_cons_succ]
          refine wpAnyH_take (i := 1) (v := ?vaa1) rfl (by kernel_rfl) (by kernel_rfl) (by kernel_rfl) (fun _ _ _ h => h) (Or.inl ⟨by rfl, ?hya1⟩) (by assumption) ?raa1
          case hya1 => (intro wq hSw; (try dsimp only at hSw); obtain ⟨g1, g2, g3⟩ := hSw; go_simp <;> with_reducible rfl)
          try simp only [Act.put, List.getElem_toArray, List.getElem_cons_zero, List.getElem_cons_succ, List.setIfInBounds_toArray, List.set_cons_zero, List.set_cons_succ]
          refine wpAnyH_take (i := 2) (v := ?vaa2) rfl (by kernel_rfl) (by kernel_rfl) (by kernel_rfl) (fun _ _ _ h => h) (Or.inl ⟨by rfl, ?hya2⟩) (by assumption) ?raa2
          case hya2 => (intro wq hSw; (try dsimp only at hSw); obtain ⟨g1, g2, g3⟩ := hSw; go_simp <;> with_reducible rfl)
          try simp only [Act.put, List.getElem_toArray, List.getElem_cons_zero, List.getElem_cons_succ, List.setIfInBounds_toArray, List.set_cons_zero, List.set_cons_succ]
          refine wpAnyH_take (i := 3) (v := ?vaa3) rfl (by kernel_rfl) (by kernel_rfl) (by kernel_rfl) (fun _ _ _ h => h) (Or.inl ⟨by rfl, ?hya3⟩) (by assumption) ?raa3
          case hya3 => (intro wq hSw; (try dsimp only at hSw); obtain ⟨g1, g2, g3⟩ := hSw; go_simp <;> with_reducible rfl)
          try simp only [Act.put, List.getElem_toArray, List.getElem_cons_zero, List.getElem_cons_succ, List.setIfInBounds_toArray, List.set_cons_zero, List.set_cons_succ]
          refine wpAnyH_take (i := 4) (v := ?vaa4) rfl (by kernel_rfl) (by kernel_rfl) (by kernel_rfl) (fun _ _ _ h => h) (Or.inl ⟨by rfl, ?hya4⟩) (by assumption) ?raa4
          case hya4 => (intro wq hSw; (try dsimp only at hSw); obtain ⟨g1, g2, g3⟩ := hSw; go_simp <;> with_reducible rfl)
          try simp only [Act.put, List.getElem_toArray, List.getElem_cons_zero, List.getElem_cons_succ, List.setIfInBounds_toArray, List.set_cons_zero, List.set_cons_succ]
          refine wpAnyH_take (i := 6) (v := ?vaa6) rfl (by kernel_rfl) (by kernel_rfl) (by kernel_rfl) (fun _ _ _ h => h) (Or.inl ⟨by rfl, ?hya6⟩) (by assumption) ?raa6
          case hya6 => (intro wq hSw; (try dsimp only at hSw); obtain ⟨g1, g2, g3⟩ := hSw; go_simp <;> with_reducible rfl)
          try simp only [Act.put, List.getElem_toArray, List.getElem_cons_zero, List.getElem_cons_succ, List.setIfInBounds_toArray, List.set_cons_zero, List.set_cons_succ]
          refine wpAnyH_take (i := 7) (v := ?vaa7) rfl (by kernel_rfl) (by kernel_rfl) (by kernel_rfl) (fun _ _ _ h => h) (Or.inl ⟨by rfl, ?hya7⟩) (by assumption) ?raa7
          case hya7 => (intro wq hSw; (try dsimp only at hSw); obtain ⟨g1, g2, g3⟩ := hSw; go_simp <;> with_reducible rfl)
          try simp only [Act.put, List.getElem_toArray, List.getElem_cons_zero, List.getElem_cons_succ, List.setIfInBounds_toArray, List.set_cons_zero, List.set_cons_succ]
          refine wpAnyH_take (i := 8) (v := ?vaa8) rfl (by kernel_rfl) (by kernel_rfl) (by kernel_rfl) (fun _ _ _ h => h) (Or.inl ⟨by rfl, ?hya8⟩) (by assumption) ?raa8
          case hya8 => (intro wq hSw; (try dsimp only at hSw); obtain ⟨g1, g2, g3⟩ := hSw; go_simp <;> with_reducible rfl)
          try simp only [Act.put, List.getElem_toArray, List.getElem_cons_zero, List.getElem_cons_succ, List.setIfInBounds_toArray, List.set_cons_zero, List.set_cons_succ]
          refine wpAnyH_take (i := 9) (v := ?vaa9) rfl (by kernel_rfl) (by kernel_rfl) (by kernel_rfl) (fun _ _ _ h => h) (Or.inl ⟨by rfl, ?hya9⟩) (by assumption) ?raa9
          case hya9 => (intro wq hSw; (try dsimp only at hSw); obtain ⟨g1, g2, g3⟩ := hSw; go_simp <;> with_reducible rfl)
          try simp only [Act.put, List.getElem_toArray, List.getElem_cons_zero, List.getElem_cons_succ, List.setIfInBounds_toArray, List.set_cons_zero, List.set_cons_succ]
          refine wpAnyH_take (i := 10) (v := ?vaa10) rfl (by kernel_rfl) (by kernel_rfl) (by kernel_rfl) (fun _ _ _ h => h) (Or.inl ⟨by rfl, ?hya10⟩) (by assumption) ?raa10
          case hya10 => (intro wq hSw; (try dsimp only at hSw); obtain ⟨g1, g2, g3⟩ := hSw; go_simp <;> with_reducible rfl)
          try simp only [Act.put, List.getElem_toArray, List.getElem_cons_zero, List.getElem_cons_succ, List.setIfInBounds_toArray, List.set_cons_zero, List.set_cons_succ]
          refine wpAnyH_ready (rs := [5]) (by kernel_rfl) (by simp) ?_
          refine AllReadyH.cons rfl (fun K hK => ?_) AllReadyH.nil
          go_simp
          refine (AK1.out _ _ _ HD.out).mono ?_
          rintro _ w4 ⟨a4, d4, c4, rfl, hI, hn, hp, hf⟩
          have I4 := hide hI
          have N4 := hide (show ∀ x, a4 = some x → e' x.block = 0 from fun x hx => HD.out.q.away (hn x hx).1)
          have H4 := hide (HD.out.left hp hf)
          clear hI hn hp hf
          go_wp2_with fail
          refine hK.out _ _ (CT.out _ H4.out.p.b) (fun hHeld => ?_)
          clear hK K
          try simp only [Act.put, List.getElem_toArray, List.getElem_cons_zero, List.getElem_cons_succ, List.setIfInBounds_toArray, List.set_cons_zero, List.set_cons_succ]
          refine wpAnyH_ready (rs := [11]) (by kernel_rfl) (by simp) ?_
          refine AllReadyH.cons rfl (fun K hK => ?_) AllReadyH.nil
          go_simp
          refine (AK2.out _ _ _ H4.out).mono ?_
          rintro _ w5 ⟨a5, d5, c5, rfl, hI, hn, hp, hf⟩
          have I5 := hide hI
          have J5 := hide (I4.out.but hf.b (fun x hx _ h => h (N4.out x hx)))
          have H5 := hide (H4.out.right hp hf)
          clear hI hn hp hf
          go_wp2_with fail
          refine hK.out _ _ (CT.out _ H5.out.p.b) (fun hHeld => ?_)
          clear hK K
          try simp only [Act.put, List.getElem_toArray, List.getElem_cons_zero, List.getElem_cons_succ, List.setIfInBounds_toArray, List.set_cons_zero, List.set_cons_succ]
          refine wpAnyH_ready (rs := [12]) (by kernel_rfl) (by simp) ?_
          refine AllReadyH.cons rfl (fun K hK => ?_) AllReadyH.nil
          go_simp
          refine (SM.out _ a4 a5 d4 d5 J5.out I5.out).mono ?_
          rintro _ w6 ⟨rfl, hb⟩
          have H6 := hide (H5.out.keep hb)
          clear hb
          go_wp2_with fail
          refine hK.out _ _ (CT.out _ H6.out.p.b) (fun hHeld => ?_)
          clear hK K
          try simp only [Act.put, List.getElem_toArray, List.getElem_cons_zero, List.getElem_cons_succ, List.setIfInBounds_toArray, List.set_cons_zero, List.set_cons_succ]
          refine wpAnyH_take (i := 13) (v := ?vaa13) rfl (by kernel_rfl) (by kernel_rfl) (by kernel_rfl) (fun _ _ _ h => h) (Or.inl ⟨by rfl, ?hya13⟩) (by assumption) ?raa13
          case hya13 => (intro wq hSw; (try dsimp only at hSw); go_simp <;> with_reducible rfl)
          try simp only [Act.put, List.getElem_toArray, List.getElem_cons_zero, List.getElem_cons_succ, List.setIfInBounds_toArray, List.set_cons_zero, List.set_cons_succ]
          refine wpAnyH_done (by kernel_rfl) ?_ _
          go_wp2
          go_roundw
          case rel => exact ⟨jj + 1, c4, c5, P2, Q2, by omega, by go_num, H6.out, EV2.out, by omega, by omega⟩
          case measure => simp [intOf]; omega
        · obtain rfl : jj = m2 := by omega
          have hc := EV.out.counts
          have hp := EV.out.pages 2
          have l1 := pcounts_len P
          have l2 := H.out.p.p.ok.l2
          have l3 := Po.pages_len H.out.p.p.ok 2
          have CP := hide (Counts_any wr b P c' H.out.p.p)
          have CQ := hide fun (W : World) (h : Pair w W b b2 P Q c' e') => Counts_any W b2 Q e' h.q.p
          have WP := hide fun (W : World) (h : Pair w W b b2 P Q c' e') => walked_any W b P c' h.p.p 2 (-1)
          have WQ := hide fun (W : World) (h : Pair w W b b2 P Q c' e') => walked_any W b2 Q e' h.q.p 2 (-1)
          simp only [wl_all] at WP WQ
          rw [← hc] at CQ
          rw [← hp] at WQ
          rw [← l1] at l2
          clear EV hc hp l1
          generalize P.pages 2 = L at *
          generalize P.counts = K at *
          obtain ⟨ln, hln⟩ : ∃ ln, L.length = ln := ⟨_, rfl⟩
          obtain ⟨kn, hkn⟩ : ∃ kn, K.length = kn := ⟨_, rfl⟩
          have HL := hide hln
          have HK := hide hkn
          rw [hln] at l3
          rw [hkn] at l2
          clear hln hkn
          go_wp2_with fail
          refine CP.out.mono ?_
          rintro _ w3 ⟨a3, d3, rfl, hI⟩
          have R3 := hide hI.r
          have H3 := hide (H.out.keep hI.b)
          clear hI CP
          rw [HK.out]
          go_wp2_with fail
          refine (CQ.out _ H3.out).mono ?_
          rintro _ w4 ⟨a4, d4, rfl, hI⟩
          have R4 := hide hI.r
          have S4 := hide (R3.out.keep hI.b)
          have H4 := hide (H3.out.keep hI.b)
          clear hI CQ R3
          rw [HK.out]
          have EQ := hide (EqInts_same w4 a3 a4 kn kn d3 d4 K S4.out.ir R4.out.ir HK.out.symm HK.out.symm (by rw [HK.out]; omega))
          go_wp2_with fail
          refine EQ.out.mono ?_
          rintro _ w5 ⟨rfl, hb⟩
          have H5 := hide (H4.out.keep hb)
          clear hb EQ R4 S4 H3
          go_wp2_with fail
          refine (WP.out _ H5.out).mono ?_
          rintro _ w6 ⟨a6, d6, rfl, hI⟩
          have R6 := hide hI.r
          have H6 := hide (H5.out.keep hI.b)
          clear hI WP
          rw [HL.out]
          go_wp2_with fail
          refine (WQ.out _ H6.out).mono ?_
          rintro _ w7 ⟨a7, d7, rfl, hI⟩
          have R7 := hide hI.r
          have S7 := hide (R6.out.keep hI.b)
          have H7 := hide (H6.out.keep hI.b)
          clear hI WQ R6
          rw [HL.out]
          have EQ := hide (EqInts_same w7 a6 a7 ln ln d6 d7 L S7.out.ir R7.out.ir HL.out.symm HL.out.symm (by rw [HL.out]; omega))
          go_wp2_with fail
          refine EQ.out.mono ?_
          rintro _ w8 ⟨rfl, hb⟩
          have H8 := hide (H7.out.keep hb)
          clear hb EQ
          go_wp2
          go_ret
          exact ⟨rfl, H8.out.p.b⟩
end Go.Proofs.Ytdfhalhllmnnbaa
