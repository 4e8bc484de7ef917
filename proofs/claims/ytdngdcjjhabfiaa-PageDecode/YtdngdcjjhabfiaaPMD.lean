import Derived.Test.YtdngdcjjhabfiaaPMC
import Derived.Test.YtdngdcjjhabfiaaPLF
namespace Go.Proofs.Ytdngdcjjhabfiaa
open Go.RowKit

theorem ibody_any (w : World) (no gen : Nat) (p : Pv) (hP : Pi w p) (hs : Sound p.pg) (hno : no < 9223372036854775808) (hgen : gen < 9223372036854775808) :
    Calls Try.prog 40 #[.int .i64 (no : Int), .int .i64 (gen : Int), p.vl] w fun e w' => ∃ a c, e = .returned (.slice a (body no gen p.pg).length c) ∧ Own w w' a c (body no gen p.pg) := by
  rcases Pg.kindOk_iff.1 hs.k with hk | hk | hk
  · exact ibody_1 w no gen p hP hs hk hno hgen
  · exact ibody_2 w no gen p hP hs hk hno hgen
  · exact ibody_3 w no gen p hP hs hk hno hgen
theorem rep_snoc (l : List Nat) (j : Nat) : l ++ List.replicate j 0 ++ [0] = l ++ List.replicate (j + 1) 0 := by
  rw [List.append_assoc, ← List.replicate_succ']
set_option maxHeartbeats 3200000 in
theorem iSummed_any (w : World) (a : Option Addr) (n cap : Nat) (l : List Nat) (hB : Bs w a l) (hn : n = l.length) (hl : l.length ≤ 508) :
    Calls Try.prog 39 #[.slice a n cap] w fun e w' => ∃ a' c', e = .returned (.slice a' 512 c') ∧ Own w w' a' c' (summed l) := by
  subst hn
  have CB := hide (CopyBytes_any w a l.length cap l hB rfl (by omega))
  have H8 := hide hB.1
  clear hB
  go_enter Try.func39, Try.ntmps39
  go_wp2_with fail
  refine CB.out.mono ?_
  rintro e w1 ⟨a1, c1, rfl, r1, n1, b1⟩
  have O1 := hide (Od.first (v := w) (w := w1) ⟨r1, n1, b1⟩)
  clear r1 n1 b1 CB
  go_wp2
  go_loopw [3] (fun o wx => ∃ (j : Nat) (aj : Option Addr) (cj : Nat), l.length + j ≤ 508 ∧ o = .slice aj (l.length + j) cj ∧ Od w (fun _ => False) w1 wx aj cj (l ++ List.replicate j 0)) (fun o _ => 508 - (match o with | .slice _ n _ => n | _ => 0))
  case atStart => exact ⟨0, a1, c1, by omega, rfl, by simpa using O1.out⟩
  case round =>
    obtain ⟨j, aj, cj, hj, rfl, hO⟩ := hrel
    have O0 := hide hO
    clear hO
    have hz : (l ++ List.replicate j 0).length = l.length + j := by simp
    by_cases hlt : l.length + j < 508
    · have hlti : ((l.length + j : Nat) : Int) < 508 := by omega
      have HS := hide (rep_snoc l j)
      generalize l ++ List.replicate j 0 = L at *
      generalize hm : l.length + j = m at *
      go_wp2_with (at_builtin; refine wpList_ap1 rfl _ _ rfl aj m cj L rfl hz.symm (O0.out.r.keep ((Below.refl _ _).alloc (Nat.le_refl _) _)) ⟨wr.heap.size, 0, none⟩ 1 0 rfl ?c1 (by omega) ?_)
      try case c1 => simp
      intro g c2 w2 hR hN hg hlt2
      have O2 := hide ((O0.out.keep (al wr _)).grow (fun _ h => h.elim) hR hN hg)
      rw [HS.out] at O2
      clear hR hN hg
      go_wp2
      go_roundw
      case rel => exact ⟨j + 1, _, c2, by omega, by rw [← hm, Nat.add_assoc], O2.out⟩
      case measure => simp only []; omega
    · have he : l.length + j = 508 := by omega
      have hp : Hid (l ++ List.replicate j 0 = padded l) := by
        show _ = _
        unfold padded
        rw [show j = 508 - l.length by omega]
      rw [hp.out] at O0 hz
      rw [he] at hz ⊢
      have P8 : Hid (B8 (padded l)) := by
        show B8 _
        rw [← hp.out]
        exact B8.app.2 ⟨H8.out, fun x hx => by have := (List.mem_replicate.1 hx).2; omega⟩
      have SU := hide (show summed l = padded l ++ numB (M.of (padded l)) 4 from rfl)
      have hof : M.of (padded l) < 4294967296 := M.of_lt P8.out
      generalize padded l = Q at *
      have OF := hide (rOf_any aj 508 cj Q wr (O0.out.r.bs P8.out (by omega)) hz.symm)
      generalize M.of Q = s at *
      go_wp2_with fail
      refine OF.out.mono ?_
      rintro e w3 ⟨rfl, rfl⟩
      have LW := hide (low_any w w3 _ aj 508 cj Q s 4 O0.out.refl' (fun _ h => h.elim) hz.symm (by omega) (by decide) (by omega))
      clear OF
      go_wp2_with fail
      refine LW.out.mono ?_
      rintro e w4 ⟨a4, c4, rfl, o4⟩
      rw [hz]
      have O4 := hide o4
      clear o4
      go_wp2
      go_ret
      exact ⟨a4, c4, rfl, by rw [SU.out]; exact O4.out.own⟩
set_option maxRecDepth 8000 in
set_option maxHeartbeats 3200000 in
theorem iEncode_any (w : World) (no gen : Int) (p : Pv) (hP : Pi w p) :
    Calls Try.prog 13 #[.int .i64 no, .int .i64 gen, p.vl] w fun e w' => ∃ a c, e = .returned (.tuple #[.slice a (encB no gen p.pg).length c, .int .i64 (encE no gen p.pg : Int)]) ∧ Own w w' a c (encB no gen p.pg) := by
  have HW := hide (al w (.cells p.cs 25))
  have CP := hide fun (w1 : World) (hb : Below (w.alloc (.cells p.cs 25)).heap.size (w.alloc (.cells p.cs 25)) w1) => Bx.page ((Bx.new w 25 p.cs).keep hb)
  have CK := hide fun (w1 : World) (hb : Below w.heap.size w w1) => iCheck_any w1 p (hP.keep hb)
  have IP := hide fun (w1 : World) => IsPage_any w1 no
  have EB : Hid (encB no gen p.pg = if encE no gen p.pg = 0 then blk no gen p.pg else []) := rfl
  have EE : Hid (encE no gen p.pg = if isNum no = false then 15 else if isGen gen = false then 1 else p.pg.check) := rfl
  have CZ := hide (Pg.check_zero (p := p.pg))
  have BO := hide fun (w1 : World) (hb : Below w.heap.size w w1) (hs : Sound p.pg) (n g : Nat) (h1 : n < 9223372036854775808) (h2 : g < 9223372036854775808) => ibody_any w1 n g p (hP.keep hb) hs h1 h2
  have BL := hide fun (hs : Sound p.pg) (n g : Int) => hs.body_le n g
  have BK := hide fun (hs : Sound p.pg) => hs.blk_length no gen
  have BS := hide (show blk no gen p.pg = summed (body no gen p.pg) from rfl)
  have B8' := hide (body_b8 hP.b8 no gen)
  generalize encB no gen p.pg = eb at *
  generalize encE no gen p.pg = ee at *
  generalize p.pg = pg at *
  clear hP
  obtain ⟨kind, level, aI, cI, items, aD, cD, data, next⟩ := p
  unfold Pv.vl at CK BO ⊢
  simp only [Pv.cs] at *
  cases hn : isNum no with
  | false =>
    rw [hn] at IP
    obtain rfl : ee = 15 := by rw [EE.out, if_pos hn]
    obtain rfl : eb = [] := by rw [EB.out]; rfl
    clear CK EE EB CZ BO BL BK BS B8'
    go_enter Try.func13, Try.ntmps13
    go_wp2_with fail
    refine (IP.out _).mono ?_
    rintro e w1 ⟨rfl, hww⟩
    obtain rfl := hww.symm
    go_wp2
    go_ret2
    exact ⟨none, 0, rfl, Own.nil w HW.out⟩
  | true =>
    rw [hn] at IP
    cases hg : isGen gen with
    | false =>
      obtain rfl : ee = 1 := by rw [EE.out, if_neg (by rw [hn]; simp), if_pos hg]
      obtain rfl : eb = [] := by rw [EB.out]; rfl
      have hg' : gen < 0 ∨ 0 ≤ gen ∧ 1099511627776 < gen := by
        simp only [isGen, Bool.and_eq_false_iff, decide_eq_false_iff_not] at hg
        omega
      clear CK EE EB CZ BO BL BK BS B8' hg hn
      go_enter Try.func13, Try.ntmps13
      go_wp2_with fail
      refine (IP.out _).mono ?_
      rintro e w1 ⟨rfl, hww⟩
      obtain rfl := hww.symm
      rcases hg' with hg' | ⟨hg', hg2⟩
      · have hd : decide (gen < 0) = true := by simpa using hg'
        go_wp2
        go_ret2
        exact ⟨none, 0, rfl, Own.nil w HW.out⟩
      · have hd : decide (gen < 0) = false := by simpa using hg'
        have hd2 : decide (1099511627776 < gen) = true := by simpa using hg2
        go_wp2
        go_ret2
        exact ⟨none, 0, rfl, Own.nil w HW.out⟩
    | true =>
      obtain rfl : ee = pg.check := by rw [EE.out, if_neg (by rw [hn]; simp), if_neg (by rw [hg]; simp)]
      have hg' : 0 ≤ gen ∧ gen ≤ 1099511627776 := by simpa [isGen] using hg
      have hn' : 1 ≤ no ∧ no ≤ 65536 := by simpa [isNum] using hn
      obtain ⟨N, rfl⟩ := Int.eq_ofNat_of_zero_le (show 0 ≤ no by omega)
      obtain ⟨Gn, rfl⟩ := Int.eq_ofNat_of_zero_le hg'.1
      have hd : decide ((Gn : Int) < 0) = false := by simp
      have hd2 : decide (1099511627776 < (Gn : Int)) = false := by simp; omega
      clear EE hn hg
      obtain ⟨b0, b1, b2, b3, b4⟩ := CP.out _ (Below.refl _ _)
      go_enter Try.func13, Try.ntmps13
      go_wp2_with fail
      refine (IP.out _).mono ?_
      rintro e w1 ⟨rfl, hww⟩
      obtain rfl := hww.symm
      go_wp2_with fail
      refine (CK.out _ HW.out).mono ?_
      rintro e w2 ⟨rfl, hb2⟩
      have B2 := hide hb2
      clear hb2 b0 b1 b2 b3 b4 CK
      obtain ⟨b0, b1, b2, b3, b4⟩ := CP.out _ B2.out
      by_cases hz : pg.check = 0
      · have hs := CZ.out.1 hz
        obtain rfl : eb = summed (body N Gn pg) := by rw [EB.out, if_pos hz, BS.out]
        rw [hz]
        have HZ := hide hz
        have BD := hide (BO.out w2 (bt HW.out B2.out) hs N Gn (by omega) (by omega))
        have hbl := BL.out hs N Gn
        have hbk := BK.out hs
        rw [BS.out] at hbk
        clear EB CZ BO BL BK BS hz hs
        obtain ⟨bd, hbd⟩ : ∃ bd, body N Gn pg = bd := ⟨_, rfl⟩
        rw [hbd] at BD hbl hbk B8'
        have HBD := hide hbd
        clear hbd
        go_wp2_with fail
        refine BD.out.mono ?_
        rintro e w3 ⟨a3, c3, rfl, o3⟩
        have SM := hide (iSummed_any w3 a3 bd.length c3 bd (o3.bs B8'.out) rfl (by omega))
        have B3 := hide (bt HW.out (bt B2.out o3.b))
        clear o3 BD
        go_wp2_with fail
        refine SM.out.mono ?_
        rintro e w4 ⟨a4, c4, rfl, o4⟩
        have O4 := hide (Own.pre B3.out o4)
        clear o4 SM
        go_wp2
        go_ret2
        exact ⟨a4, c4, by rw [HBD.out, hbk, HZ.out]; rfl, by rw [HBD.out]; exact O4.out⟩
      · obtain rfl : eb = [] := by rw [EB.out, if_neg hz]
        have hzf : ((pg.check : Nat) : Int) ≠ 0 := by omega
        have hzb : (((pg.check : Nat) : Int) != 0) = true := by simpa using hz
        clear EB CZ BO BL BK BS B8'
        obtain ⟨c, hc⟩ : ∃ c, pg.check = c := ⟨_, rfl⟩
        rw [hc] at hzf hzb ⊢
        have HC := hide hc
        clear hc hz
        go_wp2
        go_ret2
        exact ⟨none, 0, by rw [HC.out]; rfl, Own.nil w (bt HW.out B2.out)⟩
end Go.Proofs.Ytdngdcjjhabfiaa
