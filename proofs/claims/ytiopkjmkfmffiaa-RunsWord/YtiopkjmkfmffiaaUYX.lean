import Derived.Test.YtiopkjmkfmffiaaUYW
import Derived.BigQuiet
import Derived.Deep.RegionHeld3
namespace Go.Proofs.Ytiopkjmkfmffiaa
set_option linter.unusedVariables false
open Go.RowKit

/-! ### book -/
def TM (D : Dat) (i j : Nat) : List Rn := if j < i then mks j (D.Tl j).length else D.Tl j
theorem TM_zero (D : Dat) : TM D 0 = D.Tl := by funext j; exact if_neg (by omega)
theorem TM_at (D : Dat) (i : Nat) : TM D i i = D.Tl i := if_neg (by omega)
theorem TM_next (D : Dat) (i : Nat) : upd (TM D i) i (mks i (D.Tl i).length) = TM D (i + 1) := by
  funext j
  by_cases e : j = i
  · subst e
    rw [upd_same]
    exact (if_pos (by omega)).symm
  · rw [upd_ne _ _ e]
    unfold TM
    by_cases h : j < i
    · rw [if_pos h, if_pos (by omega)]
    · rw [if_neg h, if_neg (by omega)]
theorem upd_upd {α : Type} (f : Nat → α) (i : Nat) (u v : α) : upd (upd f i u) i v = upd f i v := by
  funext j
  by_cases e : j = i
  · rw [e, upd_same, upd_same]
  · rw [upd_ne _ _ e, upd_ne _ _ e, upd_ne _ _ e]
set_option maxHeartbeats 8000000 in
set_option maxRecDepth 20000 in
theorem book_any (Z : Nat → Prop) (w : World) (X m : Nat) (D : Dat) (hW : Wk Z w X m D) (hm : m ≤ 1954687338620) :
    Calls Try.prog 7 #[pt X] w fun e w' => e = .returned (.bool true) ∧ But (fun k => ¬ Z k) w w' := by
  obtain ⟨c, hc⟩ := hW.wc
  have HW := hide hW
  have HC := hide hc
  have hnt := hW.nt
  obtain ⟨nt, hnte⟩ : ∃ nt : Nat, D.nt = nt := ⟨_, rfl⟩
  have NT := hide hnte
  have NV := hide (show D.nv = nt by rw [hW.nv, hnte])
  rw [hnte] at hnt
  have XC := hide (show ∀ wx D', Wc Z wx X c D.cells D' → wx.cell? ⟨X, 6, none⟩ = some (.slice D.aw D.nw D.cw) ∧ wx.cell? ⟨X, 7, none⟩ = some (.slice D.tt nt D.ct) ∧ wx.cell? ⟨X, 8, none⟩ = some (.slice D.an nt D.cn) from fun wx D' h => by
    rw [cell_of_row _ _ _ _ _ _ h.blk, cell_of_row _ _ _ _ _ _ h.blk, cell_of_row _ _ _ _ _ _ h.blk, ← NT.out]
    refine ⟨rfl, rfl, ?_⟩
    show some (Value.slice D.an D.nv D.cn) = _
    rw [NV.out, NT.out])
  clear hW hc hnte
  unfold pt
  go_enter Try.func7, Try.ntmps7
  go_wp2
  go_loopw [3] (fun i wx => ∃ k : Nat, k ≤ nt ∧ i = .int .i64 k ∧ Below w.heap.size w wx) (fun i _ => nt - (intOf i).toNat)
  case atStart => exact ⟨0, Nat.zero_le _, rfl, Below.refl _ _⟩
  case round =>
    obtain ⟨k, hk, rfl, hbw⟩ := hrel
    have hck := HC.out.keep hbw
    obtain ⟨x6, x7, x8⟩ := XC.out _ _ hck
    by_cases hlt : k < nt
    · have kI : (k : Int) < (nt : Int) := by omega
      have kI0 : (0 : Int) ≤ (k : Int) := Int.natCast_nonneg k
      obtain ⟨u, hu, g, rfl, v3, v4, v5, v6⟩ := hck.td k (by rw [NT.out]; exact hlt)
      obtain ⟨v, hv, a, cap, rfl, w3, w4⟩ := hck.wd k (by rw [NV.out]; exact hlt)
      have hT := HW.out.tl k (by rw [NT.out]; exact hlt)
      rw [← hT] at hv w3
      obtain ⟨ga, hga⟩ := hck.tw.addr (by rw [NT.out]; omega)
      obtain ⟨gn, hgn⟩ := hck.nn.addr (by rw [NV.out]; omega)
      have tw := hck.tw
      have nn := hck.nn
      rw [hga] at tw x7
      rw [hgn] at nn x8
      have u1 := tw.cell hu
      have u2 := nn.cell hv
      have CE := hide fun (V : World) (hb : Below wr.heap.size wr V) => eqRuns_any V (some ⟨g, 0, none⟩) a (D.Tl k).length cap (D.Tl k) (v3.vs.keep hb) (w3.vs.keep hb) v5 v4
      generalize (D.Tl k).length = ln at *
      have BW := hide hbw
      clear hck tw nn hu hv v3 v4 v5 v6 w3 w4 hT hga hgn hbw x6
      go_wp2_with fail
      have S1 : wr.drew.cell? ⟨X, 7, none⟩ = some (.slice (some ⟨ga, 0, none⟩) nt D.ct) ∧ wr.drew.cell? ⟨X, 8, none⟩ = some (.slice (some ⟨gn, 0, none⟩) nt D.cn) ∧ wr.drew.cell? ⟨ga, k, none⟩ = some (.slice (some ⟨g, 0, none⟩) ln ln) ∧ wr.drew.cell? ⟨gn, k, none⟩ = some (.slice a ln cap) := ⟨x7, x8, u1, u2⟩
      have T1 := hide (show Below wr.heap.size wr wr.drew from drews wr 1)
      clear x7 x8 u1 u2
      go_region_held3 (fun V => V.cell? ⟨X, 7, none⟩ = some (.slice (some ⟨ga, 0, none⟩) nt D.ct) ∧ V.cell? ⟨X, 8, none⟩ = some (.slice (some ⟨gn, 0, none⟩) nt D.cn) ∧ V.cell? ⟨ga, k, none⟩ = some (.slice (some ⟨g, 0, none⟩) ln ln) ∧ V.cell? ⟨gn, k, none⟩ = some (.slice a ln cap))
        (with_reducible exact S1)
        (first | (go_at_call 22; refine (CE.out _ T1.out).mono ?_; rintro e w9 ⟨rfl, h6⟩; have S1 := And.intro ((h6.cell (p := ⟨X, 7, none⟩) (block_lt_of_cell S1.1)).trans S1.1) (And.intro ((h6.cell (p := ⟨X, 8, none⟩) (block_lt_of_cell S1.2.1)).trans S1.2.1) (And.intro ((h6.cell (p := ⟨ga, k, none⟩) (block_lt_of_cell S1.2.2.1)).trans S1.2.2.1) ((h6.cell (p := ⟨gn, k, none⟩) (block_lt_of_cell S1.2.2.2)).trans S1.2.2.2))); have T1 := hide (bt T1.out h6); clear h6))
      all_goals
        go_wp2
        go_roundw
        (case rel => exact ⟨k + 1, by omega, by simp, bt BW.out T1.out⟩)
        (case measure => simp [intOf]; omega)
    · obtain rfl : k = nt := by omega
      clear x6
      go_wp2_with fail
      go_loopw [4] (fun q wx => ∃ i : Nat, i ≤ k ∧ q = .int .i64 i ∧ Wc Z wx X c D.cells { D with Tl := TM D i } ∧ But (fun k => ¬ Z k) w wx) (fun q _ => k - (intOf q).toNat)
      case atStart => exact ⟨0, Nat.zero_le _, rfl, by rw [TM_zero]; exact hck, But.ofBelow hbw⟩
      case round =>
        clear hck hbw x7 x8
        obtain ⟨i, hi, rfl, hci, hbi⟩ := hrel
        obtain ⟨_, x7, _⟩ := XC.out _ _ hci
        by_cases hlt : i < k
        · have iI : (i : Int) < (k : Int) := by omega
          have iI0 : (0 : Int) ≤ (i : Int) := Int.natCast_nonneg i
          obtain ⟨u, hu, g, hue, v3, v4, v5, v6⟩ := hci.td i (by show i < D.nt; rw [NT.out]; exact hlt)
          have hue' : u = .slice (some ⟨g, 0, none⟩) (TM D i i).length (TM D i i).length := hue
          rw [TM_at] at hue'
          have v4' : ∀ r ∈ D.Tl i, Nm r.1 ∧ Nm r.2 := by have t := v4; change ∀ r ∈ TM D i i, _ at t; rw [TM_at] at t; exact t
          have v5' : (D.Tl i).length ≤ 4294967296 := by have t := v5; change (TM D i i).length ≤ _ at t; rw [TM_at] at t; exact t
          have hu' : D.Ct[i]? = some (.slice (some ⟨g, 0, none⟩) (D.Tl i).length (D.Tl i).length) := by rw [← hue']; exact hu
          obtain ⟨ga, hga⟩ := hci.tw.addr (by show 0 < D.nt; rw [NT.out]; omega)
          have hgD : D.tt = some ⟨ga, 0, none⟩ := hga
          have U := hide (show ∀ wx Tl', Wc Z wx X c D.cells { D with Tl := Tl' } → wx.cell? ⟨X, 7, none⟩ = some (.slice (some ⟨ga, 0, none⟩) k D.ct) ∧ wx.cell? ⟨ga, i, none⟩ = some (.slice (some ⟨g, 0, none⟩) (D.Tl i).length (D.Tl i).length) from fun wx Tl' h => by
            have tw : Gw 44 1 wx D.tt D.ct D.nt D.Ct := h.tw
            have x := (XC.out _ _ h).2.1
            rw [hgD] at tw x
            exact ⟨x, tw.cell hu'⟩)
          have HU := hide hu'
          have NM' := hide v4'
          obtain ⟨ln, hln⟩ : ∃ ln : Nat, (D.Tl i).length = ln := ⟨_, rfl⟩
          have LN := hide hln
          rw [hln] at U v5'
          have H0 := hide (show Wc Z wr X c D.cells { D with Tl := upd (TM D i) i (mkK (D.Tl i) i 0) } by rw [mkK_zero, ← TM_at D i, upd_self]; exact hci)
          have B0 := hide hbi
          obtain ⟨xa, xb⟩ := U.out _ _ hci
          clear hci hbi hu hue hue' v3 v4 v5 v6 hga hgD hu' v4' hln x7
          go_wp2
          go_loopw [5] (fun q wx => ∃ kk : Nat, kk ≤ ln ∧ q = .int .i64 kk ∧ Wc Z wx X c D.cells { D with Tl := upd (TM D i) i (mkK (D.Tl i) i kk) } ∧ But (fun k => ¬ Z k) w wx) (fun q _ => ln - (intOf q).toNat)
          case atStart => exact ⟨0, Nat.zero_le _, rfl, H0.out, B0.out⟩
          case round =>
            clear H0 B0 xa xb
            obtain ⟨kk, hkk, rfl, hcj, hbj⟩ := hrel
            obtain ⟨xa, xb⟩ := U.out _ _ hcj
            by_cases hlt2 : kk < ln
            · have kI : (kk : Int) < (ln : Int) := by omega
              have kI0 : (0 : Int) ≤ (kk : Int) := Int.natCast_nonneg kk
              have hiD : i < D.nt := by rw [NT.out]; exact hlt
              have lA := mkK_length (D.Tl i) i (k := kk) (by rw [LN.out]; omega)
              rw [LN.out] at lA
              obtain ⟨u, k1, g', k2, k3, k4, k5, k6⟩ := hcj.td i hiD
              have e0 : g' = g := by
                have k1' : D.Ct[i]? = some u := k1
                rw [HU.out] at k1'
                simp only [Option.some.injEq] at k1'
                rw [← k1'] at k2
                simp only [Value.slice.injEq, Option.some.injEq, Addr.mk.injEq, and_true] at k2
                exact k2.1.symm
              subst e0
              have vw : Vw wr (some ⟨g', 0, none⟩) ln (mkK (D.Tl i) i kk) := by
                have t := k3
                change Vw wr _ (upd (TM D i) i (mkK (D.Tl i) i kk) i).length (upd (TM D i) i (mkK (D.Tl i) i kk) i) at t
                rw [upd_same, lA] at t
                exact t
              have nz : ¬ Z g' := fun hz => by have := (hcj.cz g' hz).2; omega
              obtain ⟨p, q, hp, hq⟩ : ∃ p q, IntKind.u16.wrap (i : Int) = p ∧ IntKind.u16.wrap (kk : Int) = q := ⟨_, _, rfl, rfl⟩
              have em : mkr i kk = (p, q) := by unfold mkr; rw [hp, hq]
              have i0 := vw.cell (i := kk) (by rw [lA]; exact hlt2)
              have f0 := vw.thaw (kk * 2)
              have o0 := vw.one (i := kk) (by rw [lA]; exact hlt2) (.int .u16 p)
              have V1 := vw.setv (i := kk) (by rw [lA]; exact hlt2) (p, q)
              have nx := mkK_next (D.Tl i) i (k := kk) (by rw [LN.out]; exact hlt2)
              rw [em] at nx
              rw [nx] at V1
              simp only at V1
              have hB : But (fun k => k = g') wr ((wr.setCell ⟨g', kk * 2, none⟩ (.int .u16 p)).setCell ⟨g', kk * 2 + 1, none⟩ (.int .u16 q)) := ((But.refl (fun k => k = g') wr).setCell (p := ⟨g', kk * 2, none⟩) (fun _ => rfl) _).setCell (p := ⟨g', kk * 2 + 1, none⟩) (fun _ => rfl) _
              have lA2 := mkK_length (D.Tl i) i (k := kk + 1) (by rw [LN.out]; omega)
              rw [LN.out] at lA2
              have eu : (upd (TM D i) i (mkK (D.Tl i) i kk) i).length = ln := by rw [upd_same, lA]
              have M := hcj.mark (j := i) (g := g') (T' := mkK (D.Tl i) i (kk + 1)) hiD (by show D.Ct[i]? = some (.slice _ (upd (TM D i) i (mkK (D.Tl i) i kk) i).length (upd (TM D i) i (mkK (D.Tl i) i kk) i).length); rw [eu, HU.out, LN.out]) hB (by show Vw _ _ (upd (TM D i) i (mkK (D.Tl i) i kk) i).length _; rw [eu]; exact V1) (by show _ = (upd (TM D i) i (mkK (D.Tl i) i kk) i).length; rw [eu, lA2]) (mkK_nm NM'.out i (kk + 1))
              have M' := hide (show Wc Z _ X c D.cells { D with Tl := upd (TM D i) i (mkK (D.Tl i) i (kk + 1)) } by
                have t := M
                change Wc Z _ X c D.cells { D with Tl := upd (upd (TM D i) i (mkK (D.Tl i) i kk)) i (mkK (D.Tl i) i (kk + 1)) } at t
                rw [upd_upd] at t
                exact t)
              have BJ := hide (hbj.trans (hB.mono fun x hx e => by rw [e]; exact nz) (fun _ _ h => h))
              obtain ⟨i0a, i0b⟩ := i0
              obtain ⟨o0a, o0b⟩ := o0
              clear M hB V1 vw hcj hbj k1 k2 k3 k4 k5 k6 em nx eu lA lA2
              go_wp2
              go_roundw
              case rel => exact ⟨kk + 1, by omega, by simp, M'.out, BJ.out⟩
              case measure => simp [intOf]; omega
            · obtain rfl : kk = ln := by omega
              have H1 := hide (show Wc Z wr X c D.cells { D with Tl := TM D (i + 1) } by
                have t := hcj
                rw [← LN.out, mkK_full, TM_next] at t
                exact t)
              have B1 := hide hbj
              clear hcj hbj
              go_wp2
              go_roundw
              case rel => exact ⟨i + 1, by omega, by simp, H1.out, B1.out⟩
              case measure => simp [intOf]; omega
        · obtain rfl : i = k := by omega
          have H1 := hide hci
          have B1 := hide hbi
          clear hci hbi x7
          obtain ⟨W1, rfl⟩ : ∃ W1, W1 = wr := ⟨wr, rfl⟩
          have TR := hide (show ∀ j, j < i → ∃ g, D.Ct[j]? = some (.slice (some ⟨g, 0, none⟩) (D.Tl j).length (D.Tl j).length) ∧ Vw W1 (some ⟨g, 0, none⟩) (D.Tl j).length (mks j (D.Tl j).length) ∧ (D.Tl j).length ≤ 4294967296 from fun j hj => by
            obtain ⟨u, k1, g, k2, k3, k4, k5, k6⟩ := H1.out.td j (by show j < D.nt; rw [NT.out]; exact hj)
            change u = .slice _ (TM D i j).length (TM D i j).length at k2
            change Vw W1 _ (TM D i j).length (TM D i j) at k3
            change (TM D i j).length ≤ _ at k5
            have e : TM D i j = mks j (D.Tl j).length := if_pos hj
            rw [e, mks_length] at k2 k3 k5
            exact ⟨g, by rw [← k2]; exact k1, k3, k5⟩)
          have XU := hide (show ∀ wx, Below W1.heap.size W1 wx → wx.cell? ⟨X, 7, none⟩ = some (.slice D.tt i D.ct) ∧ ∀ j, j < i → ∃ ga, D.tt = some ⟨ga, 0, none⟩ ∧ ∀ u, D.Ct[j]? = some u → wx.cell? ⟨ga, j, none⟩ = some u from fun wx hb => by
            have hx := H1.out.keep hb
            refine ⟨(XC.out _ _ hx).2.1, fun j hj => ?_⟩
            have tw : Gw 44 1 wx D.tt D.ct D.nt D.Ct := hx.tw
            obtain ⟨ga, hga⟩ := tw.addr (by rw [NT.out]; omega)
            rw [hga] at tw
            exact ⟨ga, hga, fun u hu => tw.cell hu⟩)
          obtain ⟨x7, _⟩ := XU.out W1 (Below.refl _ _)
          go_wp2_with fail
          go_loopw [6, 7] (fun p q wx => ∃ (j : Nat) (ag : Option Addr) (cg : Nat) (Cg : List Value), j ≤ i ∧ q = .int .i64 j ∧ p = .slice ag j cg ∧ Gw 44 1 wx ag cg j Cg ∧ New W1 none ag ∧ Below W1.heap.size W1 wx ∧ ∀ t, t < j → ∃ G cap, Cg[t]? = some (.slice (some ⟨G, 0, none⟩) ((D.Tl t).length + 20) cap) ∧ Vw wx (some ⟨G, 0, none⟩) cap (mks t ((D.Tl t).length + 20))) (fun _ q _ => i - (intOf q).toNat)
          case atStart => exact ⟨0, none, 0, [], Nat.zero_le _, rfl, rfl, Gw.nil _ _ _, New.none _ _, Below.refl _ _, fun t ht => by omega⟩
          case round =>
            clear x7
            obtain ⟨j, ag, cg, Cg, hj, rfl, rfl, hG, hNg, hbj, hgr⟩ := hrel
            have GG := hide hG
            have NG := hide hNg
            have GR := hide hgr
            have BJ := hide hbj
            obtain ⟨x7, xa⟩ := XU.out wr hbj
            clear hG hNg hgr
            by_cases hlt : j < i
            · obtain ⟨g, hg1, hg2, hg3⟩ := TR.out j hlt
              obtain ⟨ga, hga, hgc⟩ := xa j hlt
              have u1 := hgc _ hg1
              rw [hga] at x7
              have jI : (j : Int) < (i : Int) := by omega
              have jI0 : (0 : Int) ≤ (j : Int) := Int.natCast_nonneg j
              obtain ⟨Wi, rfl⟩ : ∃ Wi, Wi = wr := ⟨wr, rfl⟩
              have VT := hide (hg2.keep hbj)
              obtain ⟨ln, hln⟩ : ∃ ln : Nat, (D.Tl j).length = ln := ⟨_, rfl⟩
              have LN := hide hln
              rw [hln] at u1 VT hg3
              have CX := hide (show ∀ wx, Below Wi.heap.size Wi wx → wx.cell? ⟨X, 7, none⟩ = some (.slice (some ⟨ga, 0, none⟩) i D.ct) ∧ wx.cell? ⟨ga, j, none⟩ = some (.slice (some ⟨g, 0, none⟩) ln ln) from fun wx hb => ⟨(hb.cell (p := ⟨X, 7, none⟩) (block_lt_of_cell x7)).trans x7, (hb.cell (p := ⟨ga, j, none⟩) (block_lt_of_cell u1)).trans u1⟩)
              clear hg1 hg2 xa hgc hln hga
              go_wp2
              go_loopw [8, 9] (fun p q wx => ∃ kk : Nat, kk ≤ 20 ∧ q = .int .i64 kk ∧ Below Wi.heap.size Wi wx ∧ ((kk = 0 ∧ p = .slice (some ⟨g, 0, none⟩) ln ln) ∨ (0 < kk ∧ ∃ G cap, p = .slice (some ⟨G, 0, none⟩) (ln + kk) cap ∧ Wi.heap.size ≤ G ∧ Vw wx (some ⟨G, 0, none⟩) cap (mks j (ln + kk))))) (fun _ q _ => 20 - (intOf q).toNat)
              case atStart => exact ⟨0, by omega, rfl, Below.refl _ _, .inl ⟨rfl, rfl⟩⟩
              case round =>
                obtain ⟨kk, hkk, rfl, hbk, hpp⟩ := hrel
                obtain ⟨y7, y8⟩ := CX.out wr hbk
                have BK := hide hbk
                by_cases hlt2 : kk < 20
                · obtain ⟨nk, hnk⟩ : ∃ nk : Nat, nk = ln + kk := ⟨_, rfl⟩
                  have NK := hide hnk
                  have es : (ln : Int) + (kk : Int) = (nk : Int) := by omega
                  have nkl : nk ≤ 4294967320 := by omega
                  obtain ⟨p, q, hp, hq⟩ : ∃ p q, IntKind.u16.wrap (j : Int) = p ∧ IntKind.u16.wrap (nk : Int) = q := ⟨_, _, rfl, rfl⟩
                  have em : mkr j nk = (p, q) := by unfold mkr; rw [hp, hq]
                  have ms := mks_succ j nk
                  rw [em] at ms
                  have MS := hide ms
                  have av := al wr (.cells #[.int .u16 p, .int .u16 q] 46)
                  have z7 := (av.cell (p := ⟨X, 7, none⟩) (block_lt_of_cell y7)).trans y7
                  rcases hpp with ⟨rfl, rfl⟩ | ⟨hk0, G, cap, rfl, hGi, hGv⟩
                  · have e0 : ln = nk := by rw [hnk]; rfl
                    subst e0
                    obtain ⟨cap', w5, hrun, v1, v2⟩ := run_apM (wr.alloc (.cells #[.int .u16 p, .int .u16 q] 46)) 44 g ln ln (mks j ln) (mks_length j ln).symm ((VT.out.keep hbk).keep av) rfl ⟨wr.heap.size, 0, none⟩ 1 (p, q) (vs_new wr p q) (by omega)
                    have R := hide (show Below Wi.heap.size Wi w5 ∧ Wi.heap.size ≤ (wr.alloc (.cells #[.int .u16 p, .int .u16 q] 46)).heap.size ∧ Vw w5 (some ⟨(wr.alloc (.cells #[.int .u16 p, .int .u16 q] 46)).heap.size, 0, none⟩) cap' (mks j (ln + 1)) from ⟨bt (bt hbk av) v2, (bt hbk av).size, by rw [MS.out]; exact v1⟩)
                    rw [size_alloc] at hrun R
                    clear v1 v2 av ms em hbk hnk
                    go_wp2_with (at_builtin; refine Lib.wpList_append_run _ rfl _ _ _ _ rfl _ _ rfl rfl _ _ hrun ?_)
                    go_roundw
                    case rel => exact ⟨0 + 1, by omega, by simp, R.out.1, .inr ⟨by omega, _, cap', rfl, R.out.2.1, R.out.2.2⟩⟩
                    case measure => simp [intOf]
                  · obtain ⟨g5, cap', w5, hrun, v1, v2, v3⟩ := run_apR (wr.alloc (.cells #[.int .u16 p, .int .u16 q] 46)) 44 (some ⟨G, 0, none⟩) nk cap (mks j nk) (mks_length j nk).symm (by have t := hGv.keep av; rw [← hnk] at t; exact t) (some ⟨wr.heap.size, 0, none⟩) 1 1 [(p, q)] rfl (vs_new wr p q) (by simp) (by rw [mks_length]; simp; omega)
                    have R := hide (show Below Wi.heap.size Wi w5 ∧ Wi.heap.size ≤ g5 ∧ Vw w5 (some ⟨g5, 0, none⟩) cap' (mks j (ln + (kk + 1))) from ⟨(((But.ofBelow (S := fun _ => False) hbk).andBelow av).trans (But.inA v3) (fun q hq ⟨y, hy, e⟩ => by cases hy; have e' : G = q := e; omega)).below (fun _ _ h => h), by
                      rcases v2 _ rfl with ⟨y, hy, e⟩ | h2
                      · cases hy; have e' : G = g5 := e; omega
                      · have h2' : (wr.alloc (.cells #[.int .u16 p, .int .u16 q] 46)).heap.size ≤ g5 := h2
                        have := (bt hbk av).size
                        omega, by rw [show ln + (kk + 1) = nk + 1 by omega, MS.out]; exact v1⟩)
                    rw [← hnk]
                    clear v1 v2 v3 av ms em hbk hnk hGv
                    go_wp2_with (at_builtin; refine Lib.wpList_append_run _ rfl _ _ _ _ rfl _ _ rfl rfl _ _ hrun ?_)
                    go_roundw
                    case rel => exact ⟨kk + 1, by omega, by simp, R.out.1, .inr ⟨by omega, g5, cap', by rw [NK.out]; rfl, R.out.2.1, R.out.2.2⟩⟩
                    case measure => simp [intOf]; omega
                · obtain rfl : kk = 20 := by omega
                  rcases hpp with ⟨h0, _⟩ | ⟨hk0, G, cap, rfl, hGi, hGv⟩
                  · omega
                  · have av := al wr (.cells #[.slice (some ⟨G, 0, none⟩) (ln + 20) cap] 44)
                    have bi := bt BJ.out (bt hbk av)
                    obtain ⟨g6, cq, w6, hrun, v1, v2, v3⟩ := run_apG Try.underlying31 infoRuns rfl (by decide) (wr.alloc (.cells #[.slice (some ⟨G, 0, none⟩) (ln + 20) cap] 44)) 31 ag j cg Cg (GG.out.keep (bt hbk av)) ⟨wr.heap.size, 0, none⟩ 1 [.slice (some ⟨G, 0, none⟩) (ln + 20) cap] rfl (one_cells wr _ 44) (by intro u hu; simp at hu; subst hu; rfl) (by omega) (by decide)
                    have R := hide (show Gw 44 1 w6 (some ⟨g6, 0, none⟩) cq (j + 1) (Cg ++ [.slice (some ⟨G, 0, none⟩) (ln + 20) cap]) ∧ New W1 none (some ⟨g6, 0, none⟩) ∧ Below W1.heap.size W1 w6 ∧ ∀ t, t < j + 1 → ∃ G' cap', (Cg ++ [Value.slice (some ⟨G, 0, none⟩) (ln + 20) cap])[t]? = some (.slice (some ⟨G', 0, none⟩) ((D.Tl t).length + 20) cap') ∧ Vw w6 (some ⟨G', 0, none⟩) cap' (mks t ((D.Tl t).length + 20)) from by
                      have lC := GG.out.length
                      have nag : ∀ {G' cap' T}, Vw (wr.alloc (.cells #[.slice (some ⟨G, 0, none⟩) (ln + 20) cap] 44)) (some ⟨G', 0, none⟩) cap' T → ¬ InA ag G' := fun {G' cap' T} hv ⟨y, hy, e⟩ => by
                        obtain ⟨c1, e1⟩ := hv.blk
                        have gk := GG.out.keep (bt hbk av)
                        rcases gk.cases with ⟨h0, _⟩ | ⟨gg, cur, h0, hgg, _⟩
                        · rw [h0] at hy; cases hy
                        · rw [h0] at hy
                          cases hy
                          exact blk_ne e1 hgg (by decide) e.symm
                      refine ⟨v1, NG.out.trans v2 bi.size, ((But.ofBelow (S := fun _ => False) bi).trans v3 (fun q hq ⟨y, hy, e⟩ => ?_)).below (fun _ _ h => h), fun t ht => ?_⟩
                      · rcases NG.out y hy with ⟨z, hz, _⟩ | h2
                        · cases hz
                        · omega
                      · by_cases htj : t < j
                        · obtain ⟨G', cap', k1, k2⟩ := GR.out t htj
                          have k3 := k2.keep (bt hbk av)
                          exact ⟨G', cap', by rw [List.getElem?_append_left (by omega)]; exact k1, k3.but v3 (fun x hx => by cases hx; exact nag k3)⟩
                        · obtain rfl : t = j := by omega
                          have k3 := hGv.keep av
                          refine ⟨G, cap, by rw [List.getElem?_append_right (by omega), show t - Cg.length = 0 by omega, LN.out]; rfl, ?_⟩
                          rw [LN.out]
                          exact k3.but v3 (fun x hx => by cases hx; exact nag k3))
                    clear v1 v2 v3 av bi hGv hbk y8
                    go_wp2_with (at_builtin; refine Lib.wpList_append_run _ rfl _ _ _ _ rfl _ _ rfl rfl _ _ hrun ?_)
                    go_roundw
                    case rel => exact ⟨j + 1, _, cq, _, by omega, by simp, rfl, R.out.1, R.out.2.1, R.out.2.2.1, R.out.2.2.2⟩
                    case measure => simp [intOf]; omega
            · obtain rfl : j = i := by omega
              obtain ⟨W2, rfl⟩ : ∃ W2, W2 = wr := ⟨wr, rfl⟩
              clear xa hbj
              go_wp2_with fail
              go_loopw [10] (fun q wx => ∃ t : Nat, t ≤ j ∧ q = .int .i64 t ∧ Below W2.heap.size W2 wx) (fun q _ => j - (intOf q).toNat)
              case atStart => exact ⟨0, Nat.zero_le _, rfl, Below.refl _ _⟩
              case round =>
                clear x7
                obtain ⟨t, ht, rfl, hbt⟩ := hrel
                obtain ⟨x7, xa⟩ := XU.out wr (bt BJ.out hbt)
                by_cases hlt2 : t < j
                · obtain ⟨g, hg1, hg2, hg3⟩ := TR.out t hlt2
                  obtain ⟨ga, hga, hgc⟩ := xa t hlt2
                  have u1 := hgc _ hg1
                  obtain ⟨G, cap, k1, k2⟩ := GR.out t hlt2
                  obtain ⟨gg, hgg⟩ := GG.out.addr (show 0 < j by omega)
                  have gk := GG.out
                  rw [hgg] at gk
                  have u2 := gk.cell k1
                  rw [hga] at x7
                  have tI : (t : Int) < (j : Int) := by omega
                  have tI0 : (0 : Int) ≤ (t : Int) := Int.natCast_nonneg t
                  have VT := hide (hg2.keep BJ.out)
                  have VG := hide k2
                  obtain ⟨ln, hln⟩ : ∃ ln : Nat, (D.Tl t).length = ln := ⟨_, rfl⟩
                  rw [hln] at u1 u2 VT VG hg3
                  obtain ⟨l2, hl2⟩ : ∃ l2 : Nat, l2 = ln + 20 := ⟨_, rfl⟩
                  rw [← hl2] at u2 VG
                  have l2b : l2 ≤ 4294967316 := by omega
                  have L2 := hide hl2
                  obtain ⟨x7', u1'⟩ : W2.cell? ⟨X, 7, none⟩ = some (.slice (some ⟨ga, 0, none⟩) j D.ct) ∧ W2.cell? ⟨ga, t, none⟩ = some (.slice (some ⟨g, 0, none⟩) ln ln) := by
                    obtain ⟨y1, y2⟩ := XU.out W2 BJ.out
                    obtain ⟨ga', e1, e2⟩ := y2 t hlt2
                    rw [hga] at e1 y1
                    simp only [Option.some.injEq, Addr.mk.injEq, and_true] at e1
                    have := e2 _ hg1
                    rw [← e1, hln] at this
                    exact ⟨y1, this⟩
                  have CX := hide (show ∀ wx, Below W2.heap.size W2 wx → wx.cell? ⟨X, 7, none⟩ = some (.slice (some ⟨ga, 0, none⟩) j D.ct) ∧ wx.cell? ⟨ga, t, none⟩ = some (.slice (some ⟨g, 0, none⟩) ln ln) ∧ wx.cell? ⟨gg, t, none⟩ = some (.slice (some ⟨G, 0, none⟩) l2 cap) from fun wx hb => ⟨(hb.cell (p := ⟨X, 7, none⟩) (block_lt_of_cell x7')).trans x7', (hb.cell (p := ⟨ga, t, none⟩) (block_lt_of_cell u1')).trans u1', (hb.cell (p := ⟨gg, t, none⟩) (block_lt_of_cell u2)).trans u2⟩)
                  subst hgg
                  clear hg1 hg2 xa hgc hln hga k1 k2 gk hl2 x7 u1 u2 x7' u1'
                  obtain ⟨x7, x8, x9⟩ := CX.out wr hbt
                  go_wp2
                  go_loopw [11] (fun q wx => ∃ kk : Nat, kk ≤ l2 ∧ q = .int .i64 kk ∧ Below W2.heap.size W2 wx) (fun q _ => l2 - (intOf q).toNat)
                  case atStart => exact ⟨0, Nat.zero_le _, rfl, hbt⟩
                  case round =>
                    clear x7 x8 x9 hbt
                    obtain ⟨kk, hkk, rfl, hbk⟩ := hrel
                    obtain ⟨x7, x8, x9⟩ := CX.out wr hbk
                    by_cases hlt3 : kk < l2
                    · have kI : (kk : Int) < (l2 : Int) := by omega
                      have kI0 : (0 : Int) ≤ (kk : Int) := Int.natCast_nonneg kk
                      have BK := hide hbk
                      obtain ⟨p, q, hp, hq⟩ : ∃ p q, IntKind.u16.wrap (t : Int) = p ∧ IntKind.u16.wrap (kk : Int) = q := ⟨_, _, rfl, rfl⟩
                      have em : mkr t kk = (p, q) := by unfold mkr; rw [hp, hq]
                      have av := al wr (.cells #[.int .u16 p, .int .u16 q] 46)
                      have rb := World.alloc_heap_new wr (.cells #[.int .u16 p, .int .u16 q] 46)
                      obtain ⟨V, hV⟩ : ∃ V, wr.alloc (.cells #[.int .u16 p, .int .u16 q] 46) = V := ⟨_, rfl⟩
                      rw [hV] at av rb
                      have m0 : V.cell? ⟨wr.heap.size, 0, none⟩ = some (.int .u16 p) := by rw [cell_of_row _ _ _ _ _ _ rb]; rfl
                      have m1 : V.cell? ⟨wr.heap.size, 1, none⟩ = some (.int .u16 q) := by rw [cell_of_row _ _ _ _ _ _ rb]; rfl
                      obtain ⟨z7, z8, z9⟩ := CX.out V (bt hbk av)
                      have c1 := ((VG.out.keep hbk).keep av).cell (i := kk) (by rw [mks_length]; exact hlt3)
                      rw [mks_get t l2 hlt3, em] at c1
                      obtain ⟨c1a, c1b⟩ := c1
                      have BV := hide (bt hbk av)
                      have hqn := run_neq
                      have hgd : Try.prog.eqGuardType Try.prog.depth 46 = false := by kernel_rfl
                      by_cases hlt4 : kk < ln
                      · have kL : (kk : Int) < (ln : Int) := by omega
                        have c2 := ((VT.out.keep hbk).keep av).cell (i := kk) (by rw [mks_length]; exact hlt4)
                        rw [mks_get t ln hlt4, em] at c2
                        obtain ⟨c2a, c2b⟩ := c2
                        have d1 : decide ((kk : Int) < (ln : Int)) = true := decide_eq_true kL
                        have d2 : decide (kk < ln) = true := decide_eq_true hlt4
                        clear av rb em hbk
                        go_wp2_with fail
                        try rw [hV]
                        clear hV
                        go_quiet (fail)
                        go_wp2
                        go_roundw
                        case rel => exact ⟨kk + 1, by omega, by simp, bt BV.out (drews _ _)⟩
                        case measure => simp [intOf]; omega
                      · have kL : ¬ (kk : Int) < (ln : Int) := by omega
                        have d1 : decide ((kk : Int) < (ln : Int)) = false := decide_eq_false kL
                        have d2 : decide (kk < ln) = false := decide_eq_false hlt4
                        clear av rb em hbk
                        go_wp2_with fail
                        try rw [hV]
                        clear hV
                        go_quiet (fail)
                        go_wp2
                        go_roundw
                        case rel => exact ⟨kk + 1, by omega, by simp, bt BV.out (drews _ _)⟩
                        case measure => simp [intOf]; omega
                    · obtain rfl : kk = l2 := by omega
                      go_wp2
                      go_roundw
                      case rel => exact ⟨t + 1, by omega, by simp, hbk⟩
                      case measure => simp [intOf]; omega
                · obtain rfl : t = j := by omega
                  have H2 := H1.out.keep (bt BJ.out hbt)
                  have f7 := H2.free 7
                  have H3 := H2.store 7 (.slice none 0 0)
                  have H3' := hide H3
                  have B3 := hide (((B1.out.andBelow (bt BJ.out hbt))).trans (H2.nzX 7 (.slice none 0 0)) (fun _ _ h => h))
                  obtain ⟨W3, hW3⟩ : ∃ W3, wr.setCell ⟨X, 7, none⟩ (.slice none 0 0) = W3 := ⟨_, rfl⟩
                  rw [hW3] at H3' B3
                  clear H2 H3 xa hbt
                  go_wp2_with fail
                  try rw [hW3]
                  clear hW3 f7 x7
                  go_loopw [13] (fun q wx => ∃ s : Nat, s ≤ 3 ∧ q = .int .i64 s ∧ Below W3.heap.size W3 wx) (fun q _ => 3 - (intOf q).toNat)
                  case atStart => exact ⟨0, by omega, rfl, Below.refl _ _⟩
                  case round =>
                    obtain ⟨s, hs, rfl, hbs⟩ := hrel
                    have HS := H3'.out.keep hbs
                    by_cases hs3 : s < 3
                    · have sI : (s : Int) < 3 := by omega
                      have sI0 : (0 : Int) ≤ (s : Int) := Int.natCast_nonneg s
                      have xp : wr.cell? ⟨X, s, none⟩ = some (.pointer (some ⟨D.P s, 0, none⟩)) := by
                        rw [cell_of_row _ _ _ _ _ _ HS.blk]
                        match s, hs3 with
                        | 0, _ => rfl
                        | 1, _ => rfl
                        | 2, _ => rfl
                      have xr : wr.cell? ⟨X, 3 + s, none⟩ = some (.pointer (some ⟨D.R s, 0, none⟩)) := by
                        rw [cell_of_row _ _ _ _ _ _ HS.blk]
                        match s, hs3 with
                        | 0, _ => rfl
                        | 1, _ => rfl
                        | 2, _ => rfl
                      have ST : St wr (D.P s) (D.pa s) (D.pc s) (D.S s) := HS.st s hs3
                      have RT0 : Rt wr (D.R s) (D.ra s) (D.rc s) (D.Q s) := HS.rt s hs3
                      have RT : Rt wr (D.R s) (D.ra s) (D.rc s) (D.S s) := by rw [HW.out.eq s hs3]; exact RT0
                      have xl := RT.cell
                      have C1 := hide fun (V : World) (hb : Below wr.heap.size wr V) => Runs_any V (D.P s) (D.pa s) (D.pc s) (D.S s) (ST.keep hb)
                      have C2 := hide fun (V : World) (g : Nat) (hb : Below wr.heap.size wr V) (hv : Vs V (some ⟨g, 0, none⟩) (D.S s)) => eqRuns_any V (some ⟨g, 0, none⟩) (D.ra s) (D.S s).length (D.rc s) (D.S s) hv (RT.row.vs.keep hb) ST.len ST.bnd
                      have C3 := hide fun (V : World) (hb : Below wr.heap.size wr V) => Len_any V (D.P s) (D.pa s) (D.pc s) (D.S s) (ST.keep hb)
                      have C4 := hide fun (V : World) (hb : Below wr.heap.size wr V) => rLen_any V (D.R s) (D.ra s) (D.rc s) (D.S s) (RT.keep hb)
                      generalize min (sz (D.S s)) mxi = v1 at *
                      have BS := hide hbs
                      have z1 : ((v1 : Int) == (v1 : Int)) = true := by simp
                      clear HS ST RT0 RT hbs
                      go_wp2_with fail
                      have S1 : wr.drew.cell? ⟨X, s, none⟩ = some (.pointer (some ⟨D.P s, 0, none⟩)) ∧ wr.drew.cell? ⟨X, 3 + s, none⟩ = some (.pointer (some ⟨D.R s, 0, none⟩)) ∧ wr.drew.cell? ⟨D.R s, 0, none⟩ = some (.slice (D.ra s) (D.S s).length (D.rc s)) := ⟨xp, xr, xl⟩
                      have T1 := hide (show Below wr.heap.size wr wr.drew from drews wr 1)
                      clear xp xr xl
                      go_region_held3 (fun V => V.cell? ⟨X, s, none⟩ = some (.pointer (some ⟨D.P s, 0, none⟩)) ∧ V.cell? ⟨X, 3 + s, none⟩ = some (.pointer (some ⟨D.R s, 0, none⟩)) ∧ V.cell? ⟨D.R s, 0, none⟩ = some (.slice (D.ra s) (D.S s).length (D.rc s)))
                        (with_reducible exact S1)
                        (first
                          | (go_at_call 20; refine (C1.out _ T1.out).mono ?_; rintro e w9 ⟨rfl, hv, h6⟩; have S1 := And.intro ((h6.cell (p := ⟨X, s, none⟩) (block_lt_of_cell S1.1)).trans S1.1) (And.intro ((h6.cell (p := ⟨X, 3 + s, none⟩) (block_lt_of_cell S1.2.1)).trans S1.2.1) ((h6.cell (p := ⟨D.R s, 0, none⟩) (block_lt_of_cell S1.2.2)).trans S1.2.2)); have T1 := hide (bt T1.out h6); have HV := hide hv.vs; clear h6 hv)
                          | (go_at_call 22; refine (C2.out _ _ T1.out HV.out).mono ?_; rintro e w9 ⟨rfl, h6⟩; have S1 := And.intro ((h6.cell (p := ⟨X, s, none⟩) (block_lt_of_cell S1.1)).trans S1.1) (And.intro ((h6.cell (p := ⟨X, 3 + s, none⟩) (block_lt_of_cell S1.2.1)).trans S1.2.1) ((h6.cell (p := ⟨D.R s, 0, none⟩) (block_lt_of_cell S1.2.2)).trans S1.2.2)); have T1 := hide (bt T1.out h6); clear h6)
                          | (go_at_call 16; refine (C3.out _ T1.out).mono ?_; rintro e w9 ⟨rfl, h6⟩; have S1 := And.intro ((h6.cell (p := ⟨X, s, none⟩) (block_lt_of_cell S1.1)).trans S1.1) (And.intro ((h6.cell (p := ⟨X, 3 + s, none⟩) (block_lt_of_cell S1.2.1)).trans S1.2.1) ((h6.cell (p := ⟨D.R s, 0, none⟩) (block_lt_of_cell S1.2.2)).trans S1.2.2)); have T1 := hide (bt T1.out h6); clear h6)
                          | (go_at_call 17; refine (C4.out _ T1.out).mono ?_; rintro e w9 ⟨rfl, h6⟩; have S1 := And.intro ((h6.cell (p := ⟨X, s, none⟩) (block_lt_of_cell S1.1)).trans S1.1) (And.intro ((h6.cell (p := ⟨X, 3 + s, none⟩) (block_lt_of_cell S1.2.1)).trans S1.2.1) ((h6.cell (p := ⟨D.R s, 0, none⟩) (block_lt_of_cell S1.2.2)).trans S1.2.2)); have T1 := hide (bt T1.out h6); clear h6))
                      all_goals
                        go_wp2
                        go_roundw
                        (case rel => exact ⟨s + 1, by omega, by simp, bt BS.out T1.out⟩)
                        (case measure => simp [intOf]; omega)
                    · have sN : ¬ (s : Int) < 3 := by omega
                      have hnw := HW.out.nw
                      clear HS
                      go_wp2_with fail
                      go_loopw [15] (fun q wx => ∃ s' : Nat, s' ≤ D.nw ∧ q = .int .i64 s' ∧ Below W3.heap.size W3 wx) (fun q _ => D.nw - (intOf q).toNat)
                      case atStart => exact ⟨0, Nat.zero_le _, rfl, hbs⟩
                      case round =>
                        clear hbs
                        obtain ⟨s, hs, rfl, hbs⟩ := hrel
                        have HS := H3'.out.keep hbs
                        have x6 : wr.cell? ⟨X, 6, none⟩ = some (.slice D.aw D.nw D.cw) := by rw [cell_of_row _ _ _ _ _ _ HS.blk]; rfl
                        by_cases hsn : s < D.nw
                        · have sI : (s : Int) < (D.nw : Int) := by omega
                          have sI0 : (0 : Int) ≤ (s : Int) := Int.natCast_nonneg s
                          obtain ⟨f, p, k1, k2, E, g, b, a, cap, T, rfl, rfl, h3, h4, h5, h6, h7, _, _, _, _⟩ := HS.wk s hsn
                          have ww : Gw 68 2 wr D.aw D.cw D.nw D.Cw := HS.ww
                          obtain ⟨gw, hgw⟩ := ww.addr (show 0 < D.nw by omega)
                          rw [hgw] at ww x6
                          have g0 := ww.cell k1
                          have g1 := ww.cell k2
                          unfold pt at g0 g1
                          have HN := hide (show ∀ r ∈ T, r.1 ≤ r.2 ∧ Nm r.1 ∧ Nm r.2 from fun r hr => ⟨h5.can.1 r hr, h6 r hr⟩)
                          have H3e := hide h3
                          have H4e := hide h4
                          have H5e := hide h5
                          have C3 := hide fun (V : World) (hb : Below wr.heap.size wr V) =>
                            goes_any V wr #[.pointer (some ⟨E, 0, none⟩)] T _ (all_seq wr E (some ⟨g, 0, none⟩) T.length T H3e.out H4e.out H5e.out.len HN.out) (But.ofBelow hb)
                              (fun q hq => by
                                have h2 : q < wr.heap.size := by
                                  rcases hq with rfl | ⟨x, hx, rfl⟩
                                  · exact block_lt_of_cell H3e.out
                                  · cases hx; exact h7
                                exact ⟨Nat.lt_of_lt_of_le h2 hb.size, h2⟩) b a cap (H5e.out.keep hb) 30 (by omega) (nums_nm HN.out)
                          have BS := hide hbs
                          clear HS ww k1 k2 h3 h4 h5 h6 hbs
                          go_wp2_with fail
                          have S1 : wr.drew.cell? ⟨X, 6, none⟩ = some (.slice (some ⟨gw, 0, none⟩) D.nw D.cw) ∧ wr.drew.cell? ⟨gw, s * 2, none⟩ = some (.func (.func 46) #[] #[.pointer (some ⟨E, 0, none⟩)]) ∧ wr.drew.cell? ⟨gw, s * 2 + 1, none⟩ = some (.pointer (some ⟨b, 0, none⟩)) := ⟨x6, g0, g1⟩
                          have T1 := hide (show Below wr.heap.size wr wr.drew from drews wr 1)
                          clear x6 g0 g1
                          go_region_held3 (fun V => V.cell? ⟨X, 6, none⟩ = some (.slice (some ⟨gw, 0, none⟩) D.nw D.cw) ∧ V.cell? ⟨gw, s * 2, none⟩ = some (.func (.func 46) #[] #[.pointer (some ⟨E, 0, none⟩)]) ∧ V.cell? ⟨gw, s * 2 + 1, none⟩ = some (.pointer (some ⟨b, 0, none⟩)))
                            (with_reducible exact S1)
                            (first
                              | (go_at_call 23; refine (C3.out _ T1.out).mono ?_; rintro e w9 ⟨rfl, h6⟩; have S1 := And.intro ((h6.cell (p := ⟨X, 6, none⟩) (block_lt_of_cell S1.1)).trans S1.1) (And.intro ((h6.cell (p := ⟨gw, s * 2, none⟩) (block_lt_of_cell S1.2.1)).trans S1.2.1) ((h6.cell (p := ⟨gw, s * 2 + 1, none⟩) (block_lt_of_cell S1.2.2)).trans S1.2.2)); have T1 := hide (bt T1.out h6); clear h6))
                          all_goals
                            go_wp2
                            go_roundw
                            (case rel => exact ⟨s + 1, by omega, by simp, bt BS.out T1.out⟩)
                            (case measure => simp [intOf]; omega)
                        · obtain rfl : s = D.nw := by omega
                          go_wp2
                          go_ret
                          exact ⟨rfl, B3.out.andBelow hbs⟩
end Go.Proofs.Ytiopkjmkfmffiaa
