import Derived.Test.YtdfhalhllmnnbaaEAG
namespace Go.Proofs.Ytdfhalhllmnnbaa
set_option linter.unusedVariables false
open Go.RowKit

/-! ### PoolUndone -/
/-- t acts lead from P to R -/
def Bk (P R : Po) (t : Nat) : Prop := Po.back t R = P ∧ R.mark = P.mark + t ∧ R.fl = P.fl
theorem Bk.act {P R : Po} {t n : Nat} (h : Bk P R t) (h1 : 1 ≤ n) (h2 : n ≤ R.pg.length) (c : Int) : Bk P (R.act n c) (t + 1) :=
  ⟨(Po.back_act h1 h2 c t).trans h.1, by rw [Po.act_mark, h.2.1]; omega, h.2.2⟩
theorem Bk.step {P R : Po} {t : Nat} (h : Bk P R t) (o : Ov) (h10 : o.1 ≠ 10) : ∃ t', Bk P (R.step o) t' := by
  unfold Po.step
  by_cases h0 : o.1 = 0
  · rw [if_pos h0]
    unfold Po.alloc
    cases hp : pagesOf R.pg 1 with
    | nil => exact ⟨t, h⟩
    | cons x xs =>
      obtain ⟨z1, z2, z3⟩ := inS_iff.1 ((mem_pagesOf R.pg 1 x).1 (by rw [hp]; exact List.mem_cons_self))
      exact ⟨t + 1, h.act (by omega) (by omega) _⟩
  rw [if_neg h0]
  by_cases h1 : o.1 = 1
  · rw [if_pos h1]
    unfold Po.inc
    by_cases k : R.count o.2.1 = 0
    · rw [if_pos k]; exact ⟨t, h⟩
    rw [if_neg k]
    split
    · exact ⟨t, h⟩
    · have := Po.count_has k
      exact ⟨t + 1, h.act (by omega) (by omega) _⟩
  rw [if_neg h1]
  by_cases h2 : o.1 = 2
  · rw [if_pos h2]
    unfold Po.dec
    by_cases k : R.count o.2.1 = 0
    · rw [if_pos k]; exact ⟨t, h⟩
    rw [if_neg k]
    have := Po.count_has k
    exact ⟨t + 1, h.act (by omega) (by omega) _⟩
  rw [if_neg h2, if_neg h10]
  exact ⟨t, h⟩
theorem Bk.undo {P R : Po} {t : Nat} (h : Bk P R t) : R.canUndo ((P.mark : Nat) : Int) = true ∧ R.undo ((P.mark : Nat) : Int) = P := by
  have hf : P.fl ≤ P.mark := Nat.le_add_right _ _
  obtain ⟨h1, h2, h3⟩ := h
  have c : R.canUndo ((P.mark : Nat) : Int) = true := by
    unfold Po.canUndo
    rw [h3, h2]
    simp
    omega
  refine ⟨c, ?_⟩
  unfold Po.undo
  rw [if_pos c, show ((R.mark : Int) - (P.mark : Int)).toNat = t by omega]
  exact h1
set_option maxHeartbeats 16000000 in
set_option maxRecDepth 16000 in
theorem poolUndone_any (w : World) (l : Bool) (n r : Int) (a : Option Addr) (cap : Nat) (C : List Int) (hC : Ir w a C) (hN : C.length ≤ 17592186043904) (aF : Option Addr) (cF : Nat) (F : List Ov) (hF : Oq w aF F) (hFl : F.length ≤ 5864062014805) (aG : Option Addr) (cG : Nat) (G : List Ov) (hG : Oq w aG G) (hGl : G.length ≤ 5864062014805) (aT : Option Addr) (cT : Nat) (T : List Ov) (hT : Oq w aT T) (hTl : T.length ≤ 5864062014805) :
    Calls Try.prog 4 #[.agg #[.bool l, .int .i64 n, .int .i64 r, .slice a C.length cap], .slice aF F.length cF, .slice aG G.length cG, .slice aT T.length cT] w fun e w' => e = .returned (.bool true) ∧ Below w.heap.size w w' := by
  have aw := al w (.cells #[.bool l, .int .i64 n, .int .i64 r, .slice a C.length cap] 24)
  have FX := hide (fixed_any (w.alloc (.cells #[.bool l, .int .i64 n, .int .i64 r, .slice a C.length cap] 24)))
  have bx := World.alloc_heap_new w (.cells #[.bool l, .int .i64 n, .int .i64 r, .slice a C.length cap] 24)
  have BX := hide (show ∀ W, Below (w.alloc (.cells #[.bool l, .int .i64 n, .int .i64 r, .slice a C.length cap] 24)).heap.size (w.alloc (.cells #[.bool l, .int .i64 n, .int .i64 r, .slice a C.length cap] 24)) W → W.cell? ⟨w.heap.size, 0, none⟩ = some (.bool l) ∧ W.cell? ⟨w.heap.size, 1, none⟩ = some (.int .i64 n) ∧ W.cell? ⟨w.heap.size, 2, none⟩ = some (.int .i64 r) ∧ W.cell? ⟨w.heap.size, 3, none⟩ = some (.slice a C.length cap) from fun W hb => by
    have h := (hb.block w.heap.size (Array.getElem?_eq_some_iff.1 bx).1).trans bx
    rw [cell_of_row _ _ _ _ _ _ h, cell_of_row _ _ _ _ _ _ h, cell_of_row _ _ _ _ _ _ h, cell_of_row _ _ _ _ _ _ h]
    exact ⟨rfl, rfl, rfl, rfl⟩)
  have MD := hide fun (W : World) (hb : Below w.heap.size w W) => made_any W l n r a C.length cap C (hC.keep hb) rfl (by omega)
  have HF := hide hF
  have HG := hide hG
  have HT := hide hT
  have AW := hide aw
  obtain ⟨m, hm⟩ : ∃ m, F.length = m := ⟨_, rfl⟩
  obtain ⟨mg, hmg⟩ : ∃ mg, G.length = mg := ⟨_, rfl⟩
  obtain ⟨m2, hm2⟩ : ∃ m2, T.length = m2 := ⟨_, rfl⟩
  have HM := hide hm
  have HMG := hide hmg
  have HM2 := hide hm2
  rw [hm] at hFl ⊢
  rw [hmg] at hGl ⊢
  rw [hm2] at hTl ⊢
  generalize C.length = k at *
  clear aw bx hC hT hF hG hm hm2 hmg
  go_enter Try.func4, Try.ntmps4
  go_wp2_with fail
  generalize w.alloc (.cells #[.bool l, .int .i64 n, .int .i64 r, .slice a k cap] 24) = W0 at *
  refine FX.out.mono ?_
  rintro _ w1 ⟨rfl, hb⟩
  obtain ⟨x0, x1, x2, x3⟩ := BX.out _ hb
  have B1 := hide (bt AW.out hb)
  have C1 := hide hb
  clear hb FX
  go_wp2_with fail
  refine (MD.out _ B1.out).mono ?_
  rintro e w2 (⟨hok, rfl, hb2⟩ | ⟨hok, b, q, col, cb, lb, rfl, hT2⟩)
  · obtain ⟨x0, x1, x2, x3⟩ := BX.out _ (bt C1.out hb2)
    have B2 := hide (bt B1.out hb2)
    clear hb2
    go_wp2_with fail
    refine (MD.out _ B2.out).mono ?_
    rintro e w3 (⟨-, rfl, hb3⟩ | ⟨hok2, -⟩)
    · have B3 := hide (bt B2.out hb3)
      clear hb3 MD BX x0 x1 x2 x3
      go_wp2
      go_ret
      exact ⟨rfl, B3.out⟩
    · rw [hok] at hok2; cases hok2
  obtain ⟨y0, y1, y2, y3⟩ := BX.out _ (bt C1.out hT2.np.b)
  have B2 := hide (bt B1.out hT2.np.b)
  have H2 := hide (show Np w w2 b (Po.start r (cnB l n C)) col from ⟨hT2.np.p, bt B1.out hT2.np.b, fun k hk => by have := hT2.np.n k hk; have := B1.out.size; omega⟩)
  clear hT2 BX x0 x1 x2 x3
  go_wp2_with fail
  refine (MD.out _ B2.out).mono ?_
  rintro e w3 (⟨hok2, -⟩ | ⟨-, b2, q2, col2, cb2, lb2, rfl, hT3⟩)
  · rw [hok] at hok2; cases hok2
  have H0 := hide (show Pair w w3 b b2 (Po.start r (cnB l n C)) (Po.start r (cnB l n C)) col col2 from ⟨H2.out.keep hT3.np.b, ⟨hT3.np.p, bt B2.out hT3.np.b, fun k hk => by have := hT3.np.n k hk; have := B2.out.size; omega⟩, fun k hk => by
    have := H2.out.p.lt k hk
    by_cases z : col2 k = 0
    · exact z
    · have := hT3.np.n k z; omega⟩)
  clear hT3 MD y0 y1 y2 y3 H2 hok
  obtain ⟨P0, hP0⟩ : ∃ P0, Po.start r (cnB l n C) = P0 := ⟨_, rfl⟩
  have M0 : P0.mark = 0 := by rw [← hP0]; rfl
  rw [hP0] at H0
  clear hP0
  go_wp2_with fail
  go_loopw [15] (fun i wr => ∃ (j : Nat) (c' e' : Nat → Nat), j ≤ m ∧ i = .int .i64 (j : Int) ∧ Pair w wr b b2 (P0.play (F.take j)) (P0.play (F.take j)) c' e') (fun i _ => m - (intOf i).toNat)
  case atStart => exact ⟨0, col, col2, Nat.zero_le _, rfl, H0.out⟩
  case round =>
    clear H0
    obtain ⟨j, c', e', hj, rfl, hNp⟩ := hrel
    have H := hide hNp
    clear hNp
    have hmk := P0.play_mark (F.take j)
    rw [List.length_take, M0] at hmk
    by_cases hlt : j < m
    · have hjl : j < F.length := by rw [HM.out]; exact hlt
      have hji : (j : Int) < (m : Int) := by omega
      have PS := hide (Po.play_snoc (P := P0) hjl)
      obtain ⟨b1, o1, rfl, t0, t1, t2⟩ := HF.out.at hjl
      obtain ⟨ov, hov⟩ : ∃ ov, F.getD j Ov.zero = ov := ⟨_, rfl⟩
      rw [hov] at t0 t1 t2 PS
      obtain ⟨o0, o2, o3⟩ := ov
      simp only at t0 t1 t2
      have CT := hide (show ∀ W, Below w.heap.size w W → W.cell? ⟨b1, o1 + j * 3, none⟩ = some (.int .i64 o0) ∧ W.cell? ⟨b1, o1 + j * 3 + 1, none⟩ = some (.int .i64 o2) ∧ W.cell? ⟨b1, o1 + j * 3 + 2, none⟩ = some (.int .i64 o3) from fun W hb => ⟨(hb.cell (p := ⟨b1, o1 + j * 3, none⟩) (block_lt_of_cell t0)).trans t0, (hb.cell (p := ⟨b1, o1 + j * 3 + 1, none⟩) (block_lt_of_cell t1)).trans t1, (hb.cell (p := ⟨b1, o1 + j * 3 + 2, none⟩) (block_lt_of_cell t2)).trans t2⟩)
      clear t0 t1 t2 hov
      obtain ⟨t0, t1, t2⟩ := CT.out _ H.out.p.b
      obtain ⟨P, hP⟩ : ∃ P, P0.play (F.take j) = P := ⟨_, rfl⟩
      rw [hP] at H PS hmk
      clear hP
      have AC1 := hide (acted_any wr b P c' H.out.p.p (o0, o2, o3) (by omega))
      have AC2 := hide fun (W : World) (R : Po) (c e : Nat → Nat) (h : Pair w W b b2 R P c e) => acted_any W b2 P e h.q.p (o0, o2, o3) (by omega)
      simp only at AC1 AC2
      go_wp2_with fail
      refine AC1.out.mono ?_
      rintro _ w4 ⟨rfl, c4, h4, f4⟩
      have H4 := hide (H.out.left h4 f4)
      clear h4 f4 AC1 t0 t1 t2
      obtain ⟨t0, t1, t2⟩ := CT.out _ H4.out.p.b
      go_wp2_with fail
      refine (AC2.out _ _ _ _ H4.out).mono ?_
      rintro _ w5 ⟨rfl, c5, h5, f5⟩
      have H5 := hide (H4.out.right h5 f5)
      clear h5 f5 AC2 t0 t1 t2
      go_wp2
      go_roundw
      case rel => exact ⟨j + 1, c4, c5, by omega, by go_num, by rw [PS.out]; exact H5.out⟩
      case measure => simp [intOf]; omega
    · obtain rfl : j = m := by omega
      obtain ⟨P, hP⟩ : ∃ P, P0.play (F.take j) = P := ⟨_, rfl⟩
      rw [hP] at H hmk
      clear hP
      have hmj : P.mark ≤ j := by omega
      have MK := hide (Mark_pl wr b P c' H.out.p.p (by omega))
      obtain ⟨mk, hmkk⟩ : ∃ mk, P.mark = mk := ⟨_, rfl⟩
      have HMK := hide hmkk
      rw [hmkk] at MK hmj
      clear hmk hmkk
      go_wp2_with fail
      refine MK.out.mono ?_
      rintro _ w3' ⟨rfl, hb⟩
      have H3 := hide (H.out.keep hb)
      clear hb MK H
      go_wp2_with fail
      go_loopw [17] (fun i wr => ∃ (g : Nat) (c' e' : Nat → Nat) (R : Po), g ≤ mg ∧ i = .int .i64 (g : Int) ∧ Pair w wr b b2 R P c' e' ∧ (∃ t, Bk P R t) ∧ R.mark ≤ mk + g) (fun i _ => mg - (intOf i).toNat)
      case atStart => exact ⟨0, c', e', P, Nat.zero_le _, rfl, H3.out, ⟨0, rfl, rfl, rfl⟩, by have := HMK.out; omega⟩
      case round =>
        clear H3
        obtain ⟨g, c', e', R, hg, rfl, hPr, hBk, hRm⟩ := hrel
        have H := hide hPr
        have BK := hide hBk
        clear hPr hBk
        by_cases hltg : g < mg
        · have hjl : g < G.length := by rw [HMG.out]; exact hltg
          have hji : (g : Int) < (mg : Int) := by omega
          obtain ⟨b1, o1, rfl, t0, t1, t2⟩ := HG.out.at hjl
          obtain ⟨ov, hov⟩ : ∃ ov, G.getD g Ov.zero = ov := ⟨_, rfl⟩
          rw [hov] at t0 t1 t2
          obtain ⟨o0, o2, o3⟩ := ov
          simp only at t0 t1 t2
          have CT := hide (show ∀ W, Below w.heap.size w W → W.cell? ⟨b1, o1 + g * 3, none⟩ = some (.int .i64 o0) ∧ W.cell? ⟨b1, o1 + g * 3 + 1, none⟩ = some (.int .i64 o2) ∧ W.cell? ⟨b1, o1 + g * 3 + 2, none⟩ = some (.int .i64 o3) from fun W hb => ⟨(hb.cell (p := ⟨b1, o1 + g * 3, none⟩) (block_lt_of_cell t0)).trans t0, (hb.cell (p := ⟨b1, o1 + g * 3 + 1, none⟩) (block_lt_of_cell t1)).trans t1, (hb.cell (p := ⟨b1, o1 + g * 3 + 2, none⟩) (block_lt_of_cell t2)).trans t2⟩)
          clear t0 t1 t2 hov
          obtain ⟨t0, t1, t2⟩ := CT.out _ H.out.p.b
          by_cases k10 : o0 = 10
          · subst k10
            go_wp2
            go_roundw
            case rel => exact ⟨g + 1, c', e', R, by omega, by go_num, H.out, BK.out, by omega⟩
            case measure => simp [intOf]; omega
          have q10 : (o0 != 10) = true := by simp [k10]
          have AC := hide (acted_any wr b R c' H.out.p.p (o0, o2, o3) (by omega))
          have sm := R.step_mark (o0, o2, o3)
          have BS := hide (show ∃ t, Bk P (R.step (o0, o2, o3)) t from by
            obtain ⟨t, ht⟩ := BK.out
            exact ht.step _ k10)
          generalize R.step (o0, o2, o3) = R2 at *
          simp only at AC
          go_wp2_with fail
          refine AC.out.mono ?_
          rintro _ w4 ⟨rfl, c4, h4, f4⟩
          have H4 := hide (H.out.left h4 f4)
          clear h4 f4 AC t0 t1 t2
          go_wp2
          go_roundw
          case rel => exact ⟨g + 1, c4, e', R2, by omega, by go_num, H4.out, BS.out, by omega⟩
          case measure => simp [intOf]; omega
        · obtain rfl : g = mg := by omega
          obtain ⟨t, ht⟩ := BK.out
          obtain ⟨u1, u2⟩ := ht.undo
          have UN := hide (Undo_any wr b R c' H.out.p.p ((P.mark : Nat) : Int) (by omega))
          rw [u1, u2, HMK.out] at UN
          clear ht u1 u2 BK
          go_wp2_with fail
          refine UN.out.mono ?_
          rintro _ w4 ⟨rfl, c4, h4, f4⟩
          have H4 := hide (H.out.left h4 f4)
          clear h4 f4 UN H
          go_wp2_with fail
          go_loopw [18] (fun i wr => ∃ (k : Nat) (c' e' : Nat → Nat) (P : Po), k ≤ m2 ∧ i = .int .i64 (k : Int) ∧ Pair w wr b b2 P P c' e' ∧ P.mark ≤ j + k) (fun i _ => m2 - (intOf i).toNat)
          case atStart => exact ⟨0, c4, e', P, Nat.zero_le _, rfl, H4.out, by have := HMK.out; omega⟩
          case round =>
            clear H4 HMK
            obtain ⟨jj, c', e', P, hj2, rfl, hPr, mp⟩ := hrel
            have H := hide hPr
            clear hPr
            by_cases hlt2 : jj < m2
            · have hjl : jj < T.length := by rw [HM2.out]; exact hlt2
              have hji : (jj : Int) < (m2 : Int) := by omega
              obtain ⟨b1, o1, rfl, t0, t1, t2⟩ := HT.out.at hjl
              obtain ⟨ov, hov⟩ : ∃ ov, T.getD jj Ov.zero = ov := ⟨_, rfl⟩
              rw [hov] at t0 t1 t2
              obtain ⟨o0, o2, o3⟩ := ov
              simp only at t0 t1 t2
              have CT := hide (show ∀ W, Below w.heap.size w W → W.cell? ⟨b1, o1 + jj * 3, none⟩ = some (.int .i64 o0) ∧ W.cell? ⟨b1, o1 + jj * 3 + 1, none⟩ = some (.int .i64 o2) ∧ W.cell? ⟨b1, o1 + jj * 3 + 2, none⟩ = some (.int .i64 o3) from fun W hb => ⟨(hb.cell (p := ⟨b1, o1 + jj * 3, none⟩) (block_lt_of_cell t0)).trans t0, (hb.cell (p := ⟨b1, o1 + jj * 3 + 1, none⟩) (block_lt_of_cell t1)).trans t1, (hb.cell (p := ⟨b1, o1 + jj * 3 + 2, none⟩) (block_lt_of_cell t2)).trans t2⟩)
              clear t0 t1 t2 hov
              obtain ⟨t0, t1, t2⟩ := CT.out _ H.out.p.b
              have mp2 := ask_mark P (o0, o2, o3)
              have LL := ask_len H.out.p.p.ok (o0, o2, o3)
              have AK1 := hide fun (W : World) (c e : Nat → Nat) (h : Pair w W b b2 P P c e) => asked_any W b P c h.p.p (by omega) (o0, o2, o3)
              have AK2 := hide fun (W : World) (c e : Nat → Nat) (h : Pair w W b b2 (P.ask (o0, o2, o3)).2 P c e) => asked_any W b2 P e h.q.p (by omega) (o0, o2, o3)
              have SM := hide fun (W : World) (a d : Option Addr) (ca cd : Nat) (h1 : Ir W a (P.ask (o0, o2, o3)).1.l) (h2 : Ir W d (P.ask (o0, o2, o3)).1.l) => same_any W (P.ask (o0, o2, o3)).1 a d ca cd h1 h2 (by omega)
              generalize (P.ask (o0, o2, o3)).1 = A at *
              generalize (P.ask (o0, o2, o3)).2 = P2 at *
              obtain ⟨An, Am, Ai, Al, Ae⟩ := A
              simp only at AK1 AK2 SM LL
              have HD := hide (H.out.keep (show Below wr.heap.size wr wr.drew from ⟨rfl, rfl, rfl, Nat.le_refl _, fun _ _ => rfl⟩))
              go_wp2_with fail
              refine wp_region_held_drew (S := fun w' => w'.cell? ⟨b1, o1 + jj * 3, none⟩ = some (.int .i64 o0) ∧ w'.cell? ⟨b1, o1 + jj * 3 + 1, none⟩ = some (.int .i64 o2) ∧ w'.cell? ⟨b1, o1 + jj * 3 + 2, none⟩ = some (.int .i64 o3)) (by kernel_rfl) (CT.out _ HD.out.p.b) (fun hHeld => ?_)
              refine wpAnyH_take (i := 0) (v := ?vaa0) rfl (by kernel_rfl) (by kernel_rfl) (by kernel_rfl) (fun _ _ _ h => h) (Or.inl ⟨by rfl, ?hya0⟩) (by assumption) ?raa0
              case hya0 => (intro wq hSw; (try dsimp only at hSw); obtain ⟨g1, g2, g3⟩ := hSw; go_simp <;> with_reducible rfl)
              try simp only [Act.put, List.getElem_toArray, List.getElem_cons_zero, List.setIfInBounds_toArray, List.set_cons_zero, List.set_cons_succ]
              refine wpAnyH_take (i := 1) (v := ?vaa1) rfl (by kernel_rfl) (by kernel_rfl) (by kernel_rfl) (fun _ _ _ h => h) (Or.inl ⟨by rfl, ?hya1⟩) (by assumption) ?raa1
              case hya1 => (intro wq hSw; (try dsimp only at hSw); obtain ⟨g1, g2, g3⟩ := hSw; go_simp <;> with_reducible rfl)
              try simp only [Act.put, List.getElem_toArray, List.getElem_cons_zero, List.getElem_cons_succ, List.setIfInBounds_toArray, List.set_cons_zero, List.set_cons_succ]
              refine wpAnyH_take (i := 2) (v := ?vaa2) rfl (by kernel_rfl) (by kernel_rfl) (by kernel_rfl) (fun _ _ _ h => h) (Or.inl ⟨by rfl, ?hya2⟩) (by assumption) ?raa2
              case hya2 => (intro wq hSw; (try dsimp only at hSw); obtain ⟨g1, g2, g3⟩ := hSw; go_simp <;> with_reducible rfl)
              try simp only [Act.put, List.getElem_toArray, List.getElem_cons_zero, List.getElem_cons_succ, List.setIfInBounds_toArray, List.set_cons_zero, List.set_cons_succ]
              refine wpAnyH_take (i := 3) (v := ?vaa3) rfl (by kernel_rfl) (by kernel_rfl) (by kernel_rfl) (fun _ _ _ h => h) (Or.inl ⟨by rfl, ?hya3⟩) (by assumption) ?raa3
              case hya3 => (intro wq hSw; (try dsimp only at hSw); obtain ⟨g1, g2, g3⟩ := hSw; go_simp <;> with_reducible rfl)
              try simp only [Act.put, List.getElem_toArray, List.getElem_cons_zero, List.getElem_cons_succ, List.setIfInBounds_toArray, List.set_cons_zero, List.set_cons_succ]
              refine wpAnyH_take (i := 4) (v := ?vaa4) rfl (by kernel_rfl) (by kernel_rfl) (by kernel_rfl) (fun _ _ _ h => h) (Or.inl ⟨by rfl, ?hya4⟩) (by assumption) ?raa4
              case hya4 => (intro wq hSw; (try dsimp only at hSw); obtain ⟨g1, g2, g3⟩ := hSw; go_simp <;> with_reducible rfl)
              try simp only [Act.put, List.getElem_toArray, List.getElem_cons_zero, List.getElem_cons_succ, List.setIfInBounds_toArray, List.set_cons_zero, List.set_cons_succ]
              refine wpAnyH_take (i := 6) (v := ?vaa6) rfl (by kernel_rfl) (by kernel_rfl) (by kernel_rfl) (fun _ _ _ h => h) (Or.inl ⟨by rfl, ?hya6⟩) (by assumption) ?raa6
              case hya6 => (intro wq hSw; (try dsimp only at hSw); obtain ⟨g1, g2, g3⟩ := hSw; go_simp <;> with_reducible rfl)
              try simp only [Act.put, List.getElem_toArray, List.getElem_cons_zero, List.getElem_cons_succ, List.setIfInBounds_toArray, List.set_cons_zero, List.set_cons_succ]
              refine wpAnyH_take (i := 7) (v := ?vaa7) rfl (by kernel_rfl) (by kernel_rfl) (by kernel_rfl) (fun _ _ _ h => h) (Or.inl ⟨by rfl, ?hya7⟩) (by assumption) ?raa7
              case hya7 => (intro wq hSw; (try dsimp only at hSw); obtain ⟨g1, g2, g3⟩ := hSw; go_simp <;> with_reducible rfl)
              try simp only [Act.put, List.getElem_toArray, List.getElem_cons_zero, List.getElem_cons_succ, List.setIfInBounds_toArray, List.set_cons_zero, List.set_cons_succ]
              refine wpAnyH_take (i := 8) (v := ?vaa8) rfl (by kernel_rfl) (by kernel_rfl) (by kernel_rfl) (fun _ _ _ h => h) (Or.inl ⟨by rfl, ?hya8⟩) (by assumption) ?raa8
              case hya8 => (intro wq hSw; (try dsimp only at hSw); obtain ⟨g1, g2, g3⟩ := hSw; go_simp <;> with_reducible rfl)
              try simp only [Act.put, List.getElem_toArray, List.getElem_cons_zero, List.getElem_cons_succ, List.setIfInBounds_toArray, List.set_cons_zero, List.set_cons_succ]
              refine wpAnyH_take (i := 9) (v := ?vaa9) rfl (by kernel_rfl) (by kernel_rfl) (by kernel_rfl) (fun _ _ _ h => h) (Or.inl ⟨by rfl, ?hya9⟩) (by assumption) ?raa9
              case hya9 => (intro wq hSw; (try dsimp only at hSw); obtain ⟨g1, g2, g3⟩ := hSw; go_simp <;> with_reducible rfl)
              try simp only [Act.put, List.getElem_toArray, List.getElem_cons_zero, List.getElem_cons_succ, List.setIfInBounds_toArray, List.set_cons_zero, List.set_cons_succ]
              refine wpAnyH_take (i := 10) (v := ?vaa10) rfl (by kernel_rfl) (by kernel_rfl) (by kernel_rfl) (fun _ _ _ h => h) (Or.inl ⟨by rfl, ?hya10⟩) (by assumption) ?raa10
              case hya10 => (intro wq hSw; (try dsimp only at hSw); obtain ⟨g1, g2, g3⟩ := hSw; go_simp <;> with_reducible rfl)
              try simp only [Act.put, List.getElem_toArray, List.getElem_cons_zero, List.getElem_cons_succ, List.setIfInBounds_toArray, List.set_cons_zero, List.set_cons_succ]
              refine wpAnyH_ready (rs := [5]) (by kernel_rfl) (by simp) ?_
              refine AllReadyH.cons rfl (fun K hK => ?_) AllReadyH.nil
              go_simp
              refine (AK1.out _ _ _ HD.out).mono ?_
              rintro _ w4 ⟨a4, d4, c4, rfl, hI, hn, hp, hf⟩
              have I4 := hide hI
              have N4 := hide (show ∀ x, a4 = some x → e' x.block = 0 from fun x hx => HD.out.q.away (hn x hx).1)
              have H4 := hide (HD.out.left hp hf)
              clear hI hn hp hf
              go_wp2_with fail
              refine hK.out _ _ (CT.out _ H4.out.p.b) (fun hHeld => ?_)
              clear hK K
              try simp only [Act.put, List.getElem_toArray, List.getElem_cons_zero, List.getElem_cons_succ, List.setIfInBounds_toArray, List.set_cons_zero, List.set_cons_succ]
              refine wpAnyH_ready (rs := [11]) (by kernel_rfl) (by simp) ?_
              refine AllReadyH.cons rfl (fun K hK => ?_) AllReadyH.nil
              go_simp
              refine (AK2.out _ _ _ H4.out).mono ?_
              rintro _ w5 ⟨a5, d5, c5, rfl, hI, hn, hp, hf⟩
              have I5 := hide hI
              have J5 := hide (I4.out.but hf.b (fun x hx _ h => h (N4.out x hx)))
              have H5 := hide (H4.out.right hp hf)
              clear hI hn hp hf
              go_wp2_with fail
              refine hK.out _ _ (CT.out _ H5.out.p.b) (fun hHeld => ?_)
              clear hK K
              try simp only [Act.put, List.getElem_toArray, List.getElem_cons_zero, List.getElem_cons_succ, List.setIfInBounds_toArray, List.set_cons_zero, List.set_cons_succ]
              refine wpAnyH_ready (rs := [12]) (by kernel_rfl) (by simp) ?_
              refine AllReadyH.cons rfl (fun K hK => ?_) AllReadyH.nil
              go_simp
              refine (SM.out _ a4 a5 d4 d5 J5.out I5.out).mono ?_
              rintro _ w6 ⟨rfl, hb⟩
              have H6 := hide (H5.out.keep hb)
              clear hb
              go_wp2_with fail
              refine hK.out _ _ (CT.out _ H6.out.p.b) (fun hHeld => ?_)
              clear hK K
              try simp only [Act.put, List.getElem_toArray, List.getElem_cons_zero, List.getElem_cons_succ, List.setIfInBounds_toArray, List.set_cons_zero, List.set_cons_succ]
              refine wpAnyH_take (i := 13) (v := ?vaa13) rfl (by kernel_rfl) (by kernel_rfl) (by kernel_rfl) (fun _ _ _ h => h) (Or.inl ⟨by rfl, ?hya13⟩) (by assumption) ?raa13
              case hya13 => (intro wq hSw; (try dsimp only at hSw); go_simp <;> with_reducible rfl)
              try simp only [Act.put, List.getElem_toArray, List.getElem_cons_zero, List.getElem_cons_succ, List.setIfInBounds_toArray, List.set_cons_zero, List.set_cons_succ]
              refine wpAnyH_done (by kernel_rfl) ?_ _
              go_wp2
              go_roundw
              case rel => exact ⟨jj + 1, c4, c5, P2, by omega, by go_num, H6.out, by omega⟩
              case measure => simp [intOf]; omega
            · obtain rfl : jj = m2 := by omega
              have l1 := pcounts_len P
              have l2 := H.out.p.p.ok.l2
              have l3 := Po.pages_len H.out.p.p.ok 1
              have l4 := Po.pages_len H.out.p.p.ok 4
              have MP := hide fun (W : World) (h : Pair w W b b2 P P c' e') => Mark_pl W b P c' h.p.p (by omega)
              have MQ := hide fun (W : World) (h : Pair w W b b2 P P c' e') => Mark_pl W b2 P e' h.q.p (by omega)
              have CP := hide fun (W : World) (h : Pair w W b b2 P P c' e') => Counts_any W b P c' h.p.p
              have CQ := hide fun (W : World) (h : Pair w W b b2 P P c' e') => Counts_any W b2 P e' h.q.p
              have WP := hide fun (W : World) (h : Pair w W b b2 P P c' e') => walked_any W b P c' h.p.p 1 (-1)
              have WQ := hide fun (W : World) (h : Pair w W b b2 P P c' e') => walked_any W b2 P e' h.q.p 1 (-1)
              have VP := hide fun (W : World) (h : Pair w W b b2 P P c' e') => walked_any W b P c' h.p.p 4 (-1)
              have VQ := hide fun (W : World) (h : Pair w W b b2 P P c' e') => walked_any W b2 P e' h.q.p 4 (-1)
              simp only [wl_all] at WP WQ VP VQ
              rw [← l1] at l2
              clear l1
              generalize P.pages 1 = L at *
              generalize P.pages 4 = L4 at *
              generalize P.counts = K at *
              generalize P.mark = pm at *
              obtain ⟨ln, hln⟩ : ∃ ln, L.length = ln := ⟨_, rfl⟩
              obtain ⟨l4n, hl4⟩ : ∃ l4n, L4.length = l4n := ⟨_, rfl⟩
              obtain ⟨kn, hkn⟩ : ∃ kn, K.length = kn := ⟨_, rfl⟩
              have HL := hide hln
              have HL4 := hide hl4
              have HK := hide hkn
              rw [hln] at l3
              rw [hl4] at l4
              rw [hkn] at l2
              clear hln hkn hl4
              have e1 : ((pm : Int) == (pm : Int)) = true := by simp
              go_wp2_with fail
              refine (MP.out _ H.out).mono ?_
              rintro _ u1 ⟨rfl, hb⟩
              have H1 := hide (H.out.keep hb)
              clear hb MP
              go_wp2_with fail
              refine (MQ.out _ H1.out).mono ?_
              rintro _ u2 ⟨rfl, hb⟩
              have H2 := hide (H1.out.keep hb)
              clear hb MQ
              go_wp2_with fail
              refine (CP.out _ H2.out).mono ?_
              rintro _ u3 ⟨a2, d2, rfl, hI⟩
              have R2 := hide hI.r
              have H3 := hide (H2.out.keep hI.b)
              clear hI CP
              rw [HK.out]
              go_wp2_with fail
              refine (CQ.out _ H3.out).mono ?_
              rintro _ u4 ⟨a3, d3, rfl, hI⟩
              have R3 := hide hI.r
              have S2 := hide (R2.out.keep hI.b)
              have H4 := hide (H3.out.keep hI.b)
              clear hI CQ R2
              rw [HK.out]
              have EQ := hide (EqInts_same u4 a2 a3 kn kn d2 d3 K S2.out.ir R3.out.ir HK.out.symm HK.out.symm (by rw [HK.out]; omega))
              go_wp2_with fail
              refine EQ.out.mono ?_
              rintro _ u5 ⟨rfl, hb⟩
              have H5 := hide (H4.out.keep hb)
              clear hb EQ R3 S2
              go_wp2_with fail
              refine (WP.out _ H5.out).mono ?_
              rintro _ u6 ⟨a5, d5, rfl, hI⟩
              have R5 := hide hI.r
              have H6 := hide (H5.out.keep hI.b)
              clear hI WP
              rw [HL.out]
              go_wp2_with fail
              refine (WQ.out _ H6.out).mono ?_
              rintro _ u7 ⟨a6, d6, rfl, hI⟩
              have R6 := hide hI.r
              have S5 := hide (R5.out.keep hI.b)
              have H7 := hide (H6.out.keep hI.b)
              clear hI WQ R5
              rw [HL.out]
              have EQ := hide (EqInts_same u7 a5 a6 ln ln d5 d6 L S5.out.ir R6.out.ir HL.out.symm HL.out.symm (by rw [HL.out]; omega))
              go_wp2_with fail
              refine EQ.out.mono ?_
              rintro _ u8 ⟨rfl, hb⟩
              have H8 := hide (H7.out.keep hb)
              clear hb EQ R6 S5
              go_wp2_with fail
              refine (VP.out _ H8.out).mono ?_
              rintro _ u9 ⟨a8, d8, rfl, hI⟩
              have R8 := hide hI.r
              have H9 := hide (H8.out.keep hI.b)
              clear hI VP
              rw [HL4.out]
              go_wp2_with fail
              refine (VQ.out _ H9.out).mono ?_
              rintro _ u10 ⟨a9, d9, rfl, hI⟩
              have R9 := hide hI.r
              have S8 := hide (R8.out.keep hI.b)
              have H10 := hide (H9.out.keep hI.b)
              clear hI VQ R8
              rw [HL4.out]
              have EQ := hide (EqInts_same u10 a8 a9 l4n l4n d8 d9 L4 S8.out.ir R9.out.ir HL4.out.symm HL4.out.symm (by rw [HL4.out]; omega))
              go_wp2_with fail
              refine EQ.out.mono ?_
              rintro _ u11 ⟨rfl, hb⟩
              have H11 := hide (H10.out.keep hb)
              clear hb EQ R9 S8
              go_wp2
              go_ret
              exact ⟨rfl, H11.out.p.b⟩
end Go.Proofs.Ytdfhalhllmnnbaa
