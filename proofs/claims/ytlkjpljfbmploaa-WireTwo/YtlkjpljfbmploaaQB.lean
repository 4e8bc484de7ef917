import Derived.Test.YtlkjpljfbmploaaQA
import Derived.Test.YtlkjpljfbmploaaRD
import Derived.Test.YtlkjpljfbmploaaRE
import Derived.Test.YtlkjpljfbmploaaAA
namespace Go.Proofs.Ytlkjpljfbmploaa
open Go.RowKit

theorem head_drop (full : List Nat) (p : Nat) : (full.drop p).headD 0 = full.getD p 0 := by
  rcases Nat.lt_or_ge p full.length with h | h
  · rw [List.drop_eq_getElem_cons h, getD_at full h]; rfl
  · rw [List.drop_eq_nil_of_le h]; simp [List.getD, List.getElem?_eq_none h]

set_option maxHeartbeats 3200000 in
theorem rRShort_any (w : World) (b : Nat) (a : Option Addr) (cap : Nat) (full : List Nat) (s : RS) (most : Int) (h : Rq w b a cap full s) :
    Calls Try.prog 54 #[.pointer (some ⟨b, 0, none⟩), .int .i64 most] w fun x w' => ∃ a' cap', x = .returned (.slice a' (s.short most).1.length cap') ∧ Rw w' a' cap' (s.short most).1 ∧ New w none a' ∧ DidQ w w' b a cap full (s.short most).2 := by
  obtain ⟨p, h, hl⟩ := h
  have c2 := h.c2
  have H := hide h
  have HL := hide hl
  have hlen : s.l.length = full.length - p := by rw [hl, List.length_drop]
  have hp := h.2.2.1
  have hfl := h.2.2.2.2
  by_cases he : s.e = 0
  · have HE := hide he
    have H0 : Hid (Rr w b a cap full p 0) := by show Rr w b a cap full p 0; rw [← he]; exact h
    rw [he] at c2
    by_cases hz : full.length - p = 0
    · have hE : s.shortE most = 2 := by
        unfold RS.shortE
        have hf : s.fail 1 = 2 := by unfold RS.fail; rw [if_neg (by omega), if_neg (by decide), if_pos (by omega)]
        rw [hf, if_pos (by decide)]
      have hr : s.short most = ([], ⟨s.l, 2⟩) := by unfold RS.short; rw [hE, if_pos (by decide)]
      rw [hr]
      have LF := hide (rLeft_any w b a cap full p s.e h)
      rw [hz] at LF
      clear hr hE h hl he
      go_enter Try.func54, Try.ntmps54
      go_wp2_with fail
      refine LF.out.mono ?_
      rintro e w1 ⟨rfl, hb1⟩
      have H1 := hide (H0.out.keep hb1)
      have FL := hide (rRfail_any w1 b a cap full p 2 H1.out)
      have HB1 := hide hb1
      clear hb1
      go_wp2_with fail
      refine FL.out.mono ?_
      rintro e w2 ⟨rfl, rfl⟩
      go_wp2
      go_ret
      exact ⟨none, 0, rfl, Rw.nil _, New.none _ _, DidQ.pre HB1.out ⟨⟨p, H1.out.setE 2, HL.out⟩, But.cell1 _ _ _ _⟩⟩
    · have hpl : p < full.length := by omega
      have hI : (p : Int) < (full.length : Int) := by omega
      have hI0 : (0 : Int) ≤ (p : Int) := by omega
      have hnz : (((full.length - p : Nat) : Int) == 0) = false := by simp; omega
      have hhd : s.l.headD 0 = full.getD p 0 := by rw [hl, head_drop]
      have hb8 : full.getD p 0 < 256 := by rw [getD_at full hpl]; exact h.2.2.2.1 _ (List.getElem_mem _)
      have hf1 : s.fail 1 = 0 := RS.fail_ok he (by decide) (by omega)
      have hw64 : IntKind.i64.wrap ((full.getD p 0 : Nat) : Int) = ((full.getD p 0 : Nat) : Int) := wrapI (by omega) (by omega)
      obtain ⟨g, hga, hgl, hgm⟩ := h.2.1.addr (by omega)
      subst hga
      have LF : Hid (∀ wx, Below w.heap.size w wx → Calls Try.prog 18 #[.pointer (some ⟨b, 0, none⟩)] wx fun x w' => x = .returned (.int .i64 ((full.length - p : Nat) : Int)) ∧ Below wx.heap.size wx w') := fun wx hb => rLeft_any wx b _ cap full p 0 (H0.out.keep hb)
      have CL : Hid (∀ wx, Below w.heap.size w wx → wx.cell? ⟨g, p, none⟩ = some (.int .u8 ((full.getD p 0 : Nat) : Int))) := fun wx hb => (h.2.1.keep hb).cell hpl
      by_cases hm : most < ((full.getD p 0 : Nat) : Int)
      · have hE : s.shortE most = 4 := by unfold RS.shortE; rw [hf1, if_neg (by decide), hhd, if_pos hm]
        have hr : s.short most = ([], ⟨s.l, 4⟩) := by unfold RS.short; rw [hE, if_pos (by decide)]
        rw [hr]
        clear hr hE h hl he hhd hf1
        generalize full.getD p 0 = n at *
        go_enter Try.func54, Try.ntmps54
        go_wp2_with fail
        refine (LF.out w (Below.refl _ _)).mono ?_
        rintro e w1 ⟨rfl, hb1⟩
        have H1 := hide (H0.out.keep hb1)
        have g0 := H1.out.c0
        have g1 := H1.out.c1
        have gc := CL.out w1 hb1
        have HB1 := hide hb1
        clear hb1
        go_wp2
        go_quiet (fail)
        go_wp2_with fail
        have FL := hide (rRfail_any (w1.drewN nq) b _ cap full p 4 (H1.out.keep (drN _ _)))
        refine FL.out.mono ?_
        rintro e w2 ⟨rfl, rfl⟩
        go_wp2
        go_ret
        exact ⟨none, 0, rfl, Rw.nil _, New.none _ _, DidQ.pre (bt HB1.out (drN _ _)) ⟨⟨p, (H1.out.keep (drN _ _)).setE 4, HL.out⟩, But.cell1 _ _ _ _⟩⟩
      · have hsub : IntKind.i64.wrap (((full.length - p : Nat) : Int) - 1) = ((full.length - p - 1 : Nat) : Int) := by rw [wrapI (by omega) (by omega)]; omega
        by_cases hsh : ((full.length - p - 1 : Nat) : Int) < ((full.getD p 0 : Nat) : Int)
        · have hE : s.shortE most = 2 := by
            unfold RS.shortE
            rw [hf1, if_neg (by decide), hhd, if_neg hm]
            unfold RS.fail
            rw [if_neg (by omega), if_neg (by omega), if_pos (by omega)]
          have hr : s.short most = ([], ⟨s.l, 2⟩) := by unfold RS.short; rw [hE, if_pos (by decide)]
          rw [hr]
          clear hr hE h hl he hhd hf1
          generalize full.getD p 0 = n at *
          generalize hq1 : full.length - p - 1 = q1 at *
          generalize full.length - p = q at *
          go_enter Try.func54, Try.ntmps54
          go_wp2_with fail
          refine (LF.out w (Below.refl _ _)).mono ?_
          rintro e w1 ⟨rfl, hb1⟩
          have H1 := hide (H0.out.keep hb1)
          have g0 := H1.out.c0
          have g1 := H1.out.c1
          have gc := CL.out w1 hb1
          have L1 := hide (fun m : Nat => LF.out (w1.drewN m) (bt hb1 (drN _ _)))
          have HB1 := hide hb1
          clear hb1 hq1
          go_wp2
          go_quiet (fail)
          go_wp2_with fail
          refine (L1.out nq).mono ?_
          rintro e w2 ⟨rfl, hb2⟩
          have H2 := hide ((H1.out.keep (drN w1 nq)).keep hb2)
          have HB2 := hide (bt (bt HB1.out (drN w1 nq)) hb2)
          have FL := hide (rRfail_any w2 b _ cap full p 2 H2.out)
          clear hb2 L1
          go_wp2_with fail
          refine FL.out.mono ?_
          rintro e w3 ⟨rfl, rfl⟩
          go_wp2
          go_ret
          exact ⟨none, 0, rfl, Rw.nil _, New.none _ _, DidQ.pre HB2.out ⟨⟨p, H2.out.setE 2, HL.out⟩, But.cell1 _ _ _ _⟩⟩
        · have hE : s.shortE most = 0 := by
            unfold RS.shortE
            rw [hf1, if_neg (by decide), hhd, if_neg hm]
            exact RS.fail_ok he (by omega) (by omega)
          have hr : s.short most = ((s.l.drop 1).take (full.getD p 0), ⟨s.l.drop (1 + full.getD p 0), 0⟩) := by unfold RS.short; rw [hE, if_neg (by decide), hhd]
          have hraw : (⟨full.drop (p + 1), 0⟩ : RS).raw ((full.getD p 0 : Nat) : Int) = ((s.l.drop 1).take (full.getD p 0), ⟨s.l.drop (1 + full.getD p 0), 0⟩) := by
            unfold RS.raw
            rw [RS.fail_ok rfl (by omega) (by dsimp only; rw [List.length_drop]; omega), if_neg (by decide), Int.toNat_natCast, hl]
            dsimp only
            rw [List.drop_drop, List.drop_drop, List.drop_drop, Nat.add_assoc]
          rw [hr]
          have RW : Hid (∀ wx, Rr wx b (some ⟨g, 0, none⟩) cap full (p + 1) 0 → _) := fun wx hx => rRRaw_any wx b (some ⟨g, 0, none⟩) cap full ⟨full.drop (p + 1), 0⟩ ((full.getD p 0 : Nat) : Int) ⟨p + 1, hx, rfl⟩ (by omega)
          rw [hraw] at RW
          have hadd : IntKind.i64.wrap ((p : Int) + 1) = ((p + 1 : Nat) : Int) := by rw [wrapI (by omega) (by omega)]; omega
          have HP1 : Hid (p + 1 ≤ full.length) := hpl
          clear hr hE h hl he hhd hf1 hraw
          generalize (s.l.drop 1).take (full.getD p 0) = R1 at *
          generalize s.l.drop (1 + full.getD p 0) = R2 at *
          generalize full.getD p 0 = n at *
          generalize hq1 : full.length - p - 1 = q1 at *
          generalize full.length - p = q at *
          generalize hpp : p + 1 = pp at *
          go_enter Try.func54, Try.ntmps54
          go_wp2_with fail
          refine (LF.out w (Below.refl _ _)).mono ?_
          rintro e w1 ⟨rfl, hb1⟩
          have H1 := hide (H0.out.keep hb1)
          have g0 := H1.out.c0
          have g1 := H1.out.c1
          have gc := CL.out w1 hb1
          have L1 := hide (fun m : Nat => LF.out (w1.drewN m) (bt hb1 (drN _ _)))
          have HB1 := hide hb1
          clear hb1 hq1 hpp
          go_wp2
          go_quiet (fail)
          go_wp2_with fail
          refine (L1.out nq).mono ?_
          rintro e w2 ⟨rfl, hb2⟩
          have H2 := hide ((H1.out.keep (drN w1 nq)).keep hb2)
          have k1 := H2.out.c1
          have f1 := H2.out.f 1
          have HB2 := hide (bt (bt HB1.out (drN w1 nq)) hb2)
          have R3 := hide (RW.out _ (H2.out.setP (p' := pp) HP1.out))
          clear hb2 L1 g0 g1 gc RW
          go_wp2_with fail
          refine R3.out.mono ?_
          rintro e w3 ⟨a3, cap3, rfl, hR3, hN3, hd3, hb3⟩
          have HR3 := hide hR3
          have HD3 := hide hd3
          have HB3 := hide hb3
          have HN3 : Hid (New w none a3) := hN3.mono (by rw [size_setCell]; exact HB2.out.size)
          clear hR3 hd3 hb3 hN3
          go_wp2
          go_ret
          exact ⟨a3, cap3, rfl, HR3.out, HN3.out, DidQ.pre HB2.out ⟨HD3.out, (But.cell1 _ _ _ _).trans HB3.out fun _ _ h => h⟩⟩
  · have hE : s.shortE most = s.e := by
      have hf : s.fail 1 = s.e := by unfold RS.fail; rw [if_pos he]
      unfold RS.shortE; rw [hf, if_pos he]
    have hr : s.short most = ([], ⟨s.l, s.e⟩) := by unfold RS.short; rw [hE, if_pos he]
    rw [hr]
    have hz : (((s.e : Nat) : Int) == 0) = false := by simp; omega
    have hz2 : (((s.e : Nat) : Int) != 0) = true := by simp; omega
    clear he hr hE h hl
    go_enter Try.func54, Try.ntmps54
    go_wp2
    go_ret
    exact ⟨none, 0, rfl, Rw.nil _, New.none _ _, ⟨p, H.out, HL.out⟩, But.refl _ _⟩
end Go.Proofs.Ytlkjpljfbmploaa
