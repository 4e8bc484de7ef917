import Derived.Test.YtpolajblmbjnfaaPQD
import Derived.Test.YtpolajblmbjnfaaPQE
namespace Go.Proofs.Ytpolajblmbjnfaa
open Go.RowKit

theorem num_next {no : Int} (h : isNum no = true) : ∃ m : Int, no.tmod 65536 = m ∧ 0 ≤ m ∧ m < 65536 ∧ isNum (m + 1) = true ∧ m + 1 ≠ no := by
  have h' : 1 ≤ no ∧ no ≤ 65536 := by simpa [isNum] using h
  refine ⟨_, rfl, ?_⟩
  rw [Int.tmod_eq_emod_of_nonneg (by omega)]
  refine ⟨by omega, by omega, ?_, by omega⟩
  simp only [isNum, Bool.and_eq_true, decide_eq_true_eq]
  omega
set_option maxRecDepth 16000 in
set_option maxHeartbeats 6400000 in
theorem pageBack_any (w : World) (no : Int) (_ : N64 no) (gen : Int) (_ : N64 gen) (p : Pv) (hP : Pi w p) :
    Calls Try.prog 6 #[.int .i64 no, .int .i64 gen, .agg p.cs] w fun e w' => e = .returned (.bool true) ∧ Below w.heap.size w w' := by
  have HP := hide hP
  have EN := hide fun (w1 : World) (hb : Below w.heap.size w w1) => Encode_any w1 no gen p (hP.keep hb)
  have CK := hide fun (w1 : World) (hb : Below w.heap.size w w1) => Check_any w1 p (hP.keep hb)
  have EQ := hide fun (w1 : World) (Q : Pv) (hb : Below w.heap.size w w1) (hq : Pi w1 Q) (e : p.pg = Q.pg) => EqPage_same w1 p Q (hP.keep hb) hq e
  have FX := hide (fixed_any (w.alloc (.cells p.cs 25)))
  have A0 := hide (al w (.cells p.cs 25))
  have CP := hide fun (w1 : World) (hb : Below (w.alloc (.cells p.cs 25)).heap.size (w.alloc (.cells p.cs 25)) w1) => Bx.page ((Bx.new w 25 p.cs).keep hb)
  have H8 := hide hP.b8
  have EZ := hide (encE_zero (no := no) (gen := gen) (p := p.pg))
  have EB := hide (show encE no gen p.pg = 0 → encB no gen p.pg = blk no gen p.pg from fun h => by unfold encB; rw [if_pos h])
  have EC := hide (show encE no gen p.pg ≠ 0 → encB no gen p.pg = [] from fun h => by unfold encB; rw [if_neg h])
  obtain ⟨pg, hpg⟩ : ∃ pg, p.pg = pg := ⟨_, rfl⟩
  rw [hpg] at EN CK EQ H8 EZ EB EC
  clear hP hpg HP
  obtain ⟨kind, level, aI, cI, items, aD, cD, data, next⟩ := p
  unfold Pv.vl at EN CK EQ
  simp only [Pv.cs] at *
  go_enter Try.func6, Try.ntmps6
  go_wp2_with fail
  refine FX.out.mono ?_
  rintro e w1 ⟨rfl, hb1⟩
  have B1 := hide (bt A0.out hb1)
  have CP1 := hide fun (w2 : World) (hb : Below w1.heap.size w1 w2) => CP.out w2 (bt hb1 hb)
  clear FX CP hb1 A0
  obtain ⟨k0, k1, k2, k3, k4⟩ := CP1.out w1 (Below.refl _ _)
  go_wp2_with fail
  refine (EN.out w1 B1.out).mono ?_
  rintro e w2 ⟨a2, c2, rfl, h2⟩
  have B2 := hide (bt B1.out h2.b)
  have CP2 := hide fun (w3 : World) (hb : Below w2.heap.size w2 w3) => CP1.out w3 (bt h2.b hb)
  clear k0 k1 k2 k3 k4 CP1 EN
  by_cases hz : encE no gen pg = 0
  · obtain ⟨q1, q2, q3⟩ := EZ.out.1 hz
    rw [EB.out hz] at h2 ⊢
    rw [hz]
    have hl := q3.blk_length no gen
    have h8 : B8 (blk no gen pg) := summed_b8 (body_b8 H8.out no gen)
    obtain ⟨dE, dP, dG⟩ := dec_blk q3 H8.out q1 q2
    obtain ⟨m, hm, m0, m1, m2, m3⟩ := num_next q1
    have d2 := dec_other (gen := gen) q3 H8.out q1 m2 m3
    have HX := hide d2
    have D1 := hide fun (no' : Int) (w3 : World) (hb : Below w2.heap.size w2 w3) => Decode_any w3 no' a2 512 c2 (blk no gen pg) ((h2.bs h8).keep hb) hl.symm h2.r.cap
    rw [hl]
    generalize blk no gen pg = bl at *
    have HD := hide (And.intro dE (And.intro dP dG))
    have hc0 : pg.check = 0 := Pg.check_zero.2 q3
    have CK0 := hide fun (w3 : World) (hb : Below w.heap.size w w3) => hc0 ▸ CK.out w3 hb
    clear EZ EB EC hz q1 q2 q3 h2 hl h8 dE dP dG d2 H8 m2 CK hc0
    go_wp2_with fail
    refine (D1.out no w2 (Below.refl _ _)).mono ?_
    rintro e w3 ⟨Q, rfl, hQ, hpn, hql, hb3⟩
    rw [HD.out.1, HD.out.2.2]
    rw [HD.out.2.1] at hQ
    have IQ := hide (hpn.pi (by omega))
    have QC := hide fun (w4 : World) (hb : Below (w3.alloc (.cells Q.cs 25)).heap.size (w3.alloc (.cells Q.cs 25)) w4) => Bx.page ((Bx.new w3 25 Q.cs).keep hb)
    have B3 := hide (bt hb3 (al w3 (.cells Q.cs 25)))
    have EQ3 := hide fun (w4 : World) (hb : Below (w3.alloc (.cells Q.cs 25)).heap.size (w3.alloc (.cells Q.cs 25)) w4) => EQ.out w4 Q (bt B2.out (bt B3.out hb)) (IQ.out.keep (bt (al _ _) hb)) hQ.symm
    clear hQ hpn hql hb3 IQ EQ HD
    obtain ⟨kind3, level3, aI3, cI3, items3, aD3, cD3, data3, next3⟩ := Q
    simp only [Pv.cs, Pv.vl] at *
    go_wp2_with fail
    refine (D1.out (m + 1) _ B3.out).mono ?_
    rintro e w5 ⟨R, rfl, hR, hpr, hrl, hb5⟩
    rw [HX.out]
    have B5 := hide (bt hb5 (al w5 (.cells R.cs 25)))
    generalize decG (m + 1) bl = g2 at *
    clear hR hpr hrl hb5 HX D1
    obtain ⟨k0, k1, k2, k3, k4⟩ := CP2.out _ (bt B3.out B5.out)
    obtain ⟨j0, j1, j2, j3, j4⟩ := QC.out _ B5.out
    obtain ⟨kind5, level5, aI5, cI5, items5, aD5, cD5, data5, next5⟩ := R
    simp only [Pv.cs, Pv.vl] at *
    go_wp2_with fail
    refine (EQ3.out _ B5.out).mono ?_
    rintro e w6 ⟨rfl, hb6⟩
    have B6 := hide (bt B3.out (bt B5.out hb6))
    obtain ⟨k0, k1, k2, k3, k4⟩ := CP2.out _ B6.out
    clear j0 j1 j2 j3 j4
    go_wp2_with fail
    refine (CK0.out _ (bt B2.out B6.out)).mono ?_
    rintro e w7 ⟨rfl, hb7⟩
    have B7 := hide (bt B2.out (bt B6.out hb7))
    clear k0 k1 k2 k3 k4 hb7 hb6
    go_wp2
    go_ret
    exact ⟨rfl, B7.out⟩
  · have hzf : ((encE no gen pg : Nat) : Int) ≠ 0 := by omega
    rw [EC.out hz] at h2 ⊢
    have B3 := hide B2.out
    clear hz EZ EB EC h2 CK EQ CP2 H8
    generalize encE no gen pg = c at *
    simp only [List.length_nil]
    go_wp2
    go_ret
    exact ⟨rfl, B3.out⟩
end Go.Proofs.Ytpolajblmbjnfaa
