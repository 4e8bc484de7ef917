import Derived.Test.YtlflcdjaknnfaaaKX
namespace Go.Proofs.Ytlflcdjaknnfaaa
open Go.RowKit

theorem two_cells {w w' : World} {a b : Option Addr} {n c m d : Nat} (hb : Below (w.alloc (.cells #[.slice a n c, .slice b m d] 63)).heap.size (w.alloc (.cells #[.slice a n c, .slice b m d] 63)) w') :
    w'.heap[w.heap.size]? = some (.cells #[.slice a n c, .slice b m d] 63 (0, 0)) := (hb.block _ (by rw [size_alloc]; omega)).trans (heap_alloc_last _ _)
set_option maxHeartbeats 6000000 in
theorem synced_good (w : World) (nb : Int) (a : Option Addr) (l : List Nat) (cap : Nat) (hB : Bs w a l) (hN : l.length + 64 ≤ 140737488355328) (hok : stOk nb l) (a1 : Option Addr) (c1 : Nat) (L1 : List Ov) (hL1 : Sp w a1 L1) (aA : Option Addr) (A : List Bool) (cA : Nat) (aZ : Option Addr) (Z : List Bool) (cZ : Nat) (hA : Kb w aA A) (hAN : A.length ≤ 1048576) (hZ : Kb w aZ Z) (hZN : Z.length ≤ 1048576) :
    Calls Try.prog 7 #[.agg #[.int .i64 nb, .slice a l.length cap], .slice a1 L1.length c1, .agg #[.slice aA A.length cA, .slice aZ Z.length cZ]] w fun e w' => e = .returned (.bool true) ∧ Below w.heap.size w w' := by
  obtain ⟨W0, hW0⟩ : ∃ W0, W0 = w.alloc (.cells #[.int .i64 nb, .slice a l.length cap] 37) := ⟨_, rfl⟩
  obtain ⟨W1, hW1⟩ : ∃ W1, W1 = W0.alloc (.cells #[.slice aA A.length cA, .slice aZ Z.length cZ] 63) := ⟨_, rfl⟩
  have hs0 : W0.heap.size = w.heap.size + 1 := by rw [hW0, size_alloc]
  have hs1 : W1.heap.size = w.heap.size + 1 + 1 := by rw [hW1, size_alloc, hs0]
  have hb0 : Below w.heap.size w W0 := by rw [hW0]; exact al _ _
  have hb01 : Below W0.heap.size W0 W1 := by rw [hW1]; exact al _ _
  have HB0 := hide (bt hb0 hb01)
  have HT : Hid (∀ V, Below W1.heap.size W1 V → V.heap[w.heap.size]? = some (.cells #[.int .i64 nb, .slice a l.length cap] 37 (0, 0)) ∧ V.heap[w.heap.size + 1]? = some (.cells #[.slice aA A.length cA, .slice aZ Z.length cZ] 63 (0, 0))) := by
    intro V hb
    constructor
    · rw [hb.block _ (by omega), hb01.block _ (by omega), hW0]; exact heap_alloc_last _ _
    · rw [hb.block _ (by omega), hW1, ← hs0]; exact heap_alloc_last _ _
  have R1 := hide (works_any W1)
  have hN1 := hL1.2.1
  have HL1 := hide (hL1.keep (bt hb0 hb01))
  have HA := hide (hA.keep (bt hb0 hb01))
  have HZ := hide (hZ.keep (bt hb0 hb01))
  have HST := hide fun (V : World) (hb : Below w.heap.size w V) => started_good V nb a l cap (hB.keep hb) hN hok
  have HRM := hide (st_room nb l)
  have HW1 := hide (show W1 = (w.alloc (.cells #[.int .i64 nb, .slice a l.length cap] 37)).alloc (.cells #[.slice aA A.length cA, .slice aZ Z.length cZ] 63) by rw [hW1, hW0])
  have HS1 := hide hs1
  rw [HW1.out] at R1
  clear hW0 hW1 hs0 hs1 hb0 hb01 hB hN hok hL1 hA hZ
  go_enter Try.func7, Try.ntmps7
  go_wp2_with fail
  refine R1.out.mono ?_
  rintro e w1 ⟨rfl, hb1⟩
  rw [← HW1.out] at hb1
  obtain ⟨t0, t1⟩ := HT.out w1 hb1
  have s0 : w1.cell? ⟨w.heap.size, 0, none⟩ = some (.int .i64 nb) := by rw [cell_of_row _ _ _ _ _ _ t0]; rfl
  have s1 : w1.cell? ⟨w.heap.size, 1, none⟩ = some (.slice a l.length cap) := by rw [cell_of_row _ _ _ _ _ _ t0]; rfl
  have HBT := hide hb1
  have HB1 := hide (bt HB0.out hb1)
  have R2 := hide (HST.out w1 HB1.out)
  clear hb1 R1 t0 t1
  go_wp2_with fail
  refine R2.out.mono ?_
  rintro e w2 ⟨F, p, rfl, h2, hF, hb2⟩
  have HD2 := hide (Ds.ofStart HBT.out h2 hF hb2)
  have HBT2 := hide (bt HBT.out hb2)
  obtain ⟨t0, t1⟩ := HT.out w2 HBT2.out
  have s0 : w2.cell? ⟨w.heap.size, 0, none⟩ = some (.int .i64 nb) := by rw [cell_of_row _ _ _ _ _ _ t0]; rfl
  have s1 : w2.cell? ⟨w.heap.size, 1, none⟩ = some (.slice a l.length cap) := by rw [cell_of_row _ _ _ _ _ _ t0]; rfl
  have HB2 := hide (bt HB1.out hb2)
  have R3 := hide (HST.out w2 HB2.out)
  clear h2 hF hb2 R2 t0 t1
  go_wp2_with fail
  refine R3.out.mono ?_
  rintro e w3 ⟨G, q, rfl, h3, hG, hb3⟩
  have HP3 := hide (HD2.out.two hb3 h3 hG)
  have HBT3 := hide (bt HBT2.out hb3)
  obtain ⟨t0, t1⟩ := HT.out w3 HBT3.out
  clear h3 hG hb3 R3 t0 t1 s0 s1
  generalize stS nb l = S at *
  have R4 := hide (HP3.out.run1 a1 c1 L1 HL1.out 0 HRM.out (by omega))
  go_wp2_with fail
  refine R4.out.mono ?_
  rintro e w4 ⟨rfl, h4⟩
  have HP4 := hide h4
  clear h4 R4
  have R5 := hide (HP4.out.run2 a1 c1 L1 HL1.out 0 HRM.out (by omega))
  go_wp2_with fail
  refine R5.out.mono ?_
  rintro e w5 ⟨rfl, h5⟩
  have HP5 := hide h5
  clear h5 R5
  have hrm : (S.run L1).room (0 + L1.length) := HRM.out.run' L1
  rw [Nat.zero_add] at hrm
  have HR3 := hide hrm
  have hsy : (S.run L1).sy + 1 ≤ 4611686018427387904 := by have := hrm.2.1; omega
  generalize S.run L1 = S1 at *
  have HOK := hide (Sd.run_ok HP5.out).1
  clear hrm
  have R6 := hide (kIsOn' HP5.out.d)
  have R7 := hide (kIsOn' HP5.out.e)
  cases hpw : S1.pow with
  | false =>
    rw [hpw] at R6 R7
    go_wp2_with fail
    refine R6.out.mono ?_
    rintro e wq ⟨rfl, e1⟩
    have e1 := e1.symm
    subst e1
    go_wp2_with fail
    refine R7.out.mono ?_
    rintro e wq ⟨rfl, e1⟩
    have e1 := e1.symm
    subst e1
    go_wp2_with fail
    refine R6.out.mono ?_
    rintro e wq ⟨rfl, e1⟩
    have e1 := e1.symm
    subst e1
    have R8 := hide (kImage' HP5.out.d)
    clear R6 R7
    go_wp2_with fail
    refine R8.out.mono ?_
    rintro e w6 ⟨rfl, hr6, hb6⟩
    have HP6 := hide (HP5.out.keep hb6)
    have HR6 := hide hr6
    have R9 := hide (kImage' HP6.out.e)
    clear hr6 hb6 R8
    go_wp2_with fail
    refine R9.out.mono ?_
    rintro e w7 ⟨rfl, hr7, hb7⟩
    have HP7 := hide (HP6.out.keep hb7)
    have R10 := hide (EqB (HR6.out.keep hb7) hr7 HOK.out.imgLt)
    clear hr7 hb7 R9
    go_wp2_with fail
    refine R10.out.mono ?_
    rintro e w8 ⟨rfl, hb8⟩
    have HP8 := hide (HP7.out.keep hb8)
    clear hb8 R10
    go_wp2
    go_ret
    exact ⟨rfl, bt HB0.out HP8.out.b⟩
  | true =>
    rw [hpw] at R6 R7
    obtain ⟨m1, m2, m3, m4, m5, m6, m7⟩ := arm_off hpw
    obtain ⟨y1, y2⟩ := sync_on m2 m1
    rw [← m6] at hsy
    go_wp2_with fail
    refine R6.out.mono ?_
    rintro e wq ⟨rfl, e1⟩
    have e1 := e1.symm
    subst e1
    go_wp2_with fail
    refine R7.out.mono ?_
    rintro e wq ⟨rfl, e1⟩
    have e1 := e1.symm
    subst e1
    go_wp2_with fail
    refine R6.out.mono ?_
    rintro e wq ⟨rfl, e1⟩
    have e1 := e1.symm
    subst e1
    have R8 := hide (HP5.out.arm1 (-1) (by decide))
    clear R6 R7
    go_wp2_with fail
    refine R8.out.mono ?_
    rintro e w6 ⟨rfl, h6⟩
    have HP6 := hide h6
    have R9 := hide (HP6.out.arm2 (-1) (by decide))
    clear h6 R8
    go_wp2_with fail
    refine R9.out.mono ?_
    rintro e w7 ⟨rfl, h7⟩
    have HP7 := hide h7
    have HOK2 := hide (Sd.run_ok HP7.out).1
    clear h7 R9
    generalize S1.arm (-1) = S2 at *
    have hwh : S2.wh = S2.all := by unfold Sd.wh; rw [if_pos m2]
    have R10 := hide (kWhole' HP7.out.d)
    rw [hwh] at R10
    clear m1 m3 m4 m5 m6 m7 hwh hpw
    go_wp2_with fail
    refine R10.out.mono ?_
    rintro e w8 ⟨a8, c8, rfl, hr8, hn8, hb8⟩
    obtain ⟨g, rfl, hc8, _⟩ := hr8.some_ (by rw [HOK2.out.allLen]; have := HOK2.out.n0; omega)
    have hgn : w7.heap.size ≤ g := by
      rcases hn8 _ rfl with ⟨y, hy, _⟩ | h
      · cases hy
      · exact h
    have HP8 := hide (HP7.out.add hb8 hr8 hgn)
    clear hr8 hn8 hb8 R10 hgn
    have R11 := hide (HP8.out.sync1 hsy)
    rw [y1, y2] at R11
    go_wp2_with fail
    refine R11.out.mono ?_
    rintro e w9 ⟨rfl, h9⟩
    have HP9 := hide h9
    have R12 := hide (HP9.out.sync2 hsy)
    rw [y1, y2] at R12
    clear h9 R11
    go_wp2_with fail
    refine R12.out.mono ?_
    rintro e w10 ⟨rfl, h10⟩
    have HP10 := hide h10
    have R13 := hide HP10.out.off1
    clear h10 R12
    go_wp2_with fail
    refine R13.out.mono ?_
    rintro e w11 ⟨rfl, h11⟩
    have HP11 := hide h11
    have R14 := hide HP11.out.off2
    clear h11 R13
    go_wp2_with fail
    refine R14.out.mono ?_
    rintro e w12 ⟨rfl, h12⟩
    have HP12 := hide h12
    have HAG := hide (And.intro (again_on S2 A) (again_on S2 Z))
    have HLT := hide HOK2.out.allLt
    obtain ⟨t0, t1⟩ := HT.out w12 HP12.out.b
    have s0 : w12.cell? ⟨w.heap.size + 1, 0, none⟩ = some (.slice aA A.length cA) := by rw [cell_of_row _ _ _ _ _ _ t1]; rfl
    have R15 := hide (copyBools_any w12 aA A.length cA A (HA.out.keep HP12.out.b) rfl hAN)
    clear h12 R14 t0 t1
    go_wp2_with fail
    refine R15.out.mono ?_
    rintro e w13 ⟨rfl, hk13, hb13⟩
    have R16 := hide (HP12.out.on1 hb13 (some ⟨w12.heap.size, 0, none⟩) A.length A hk13 (fun x hx => by cases hx; exact Nat.le_refl _))
    clear hk13 hb13 R15 s0
    go_wp2_with fail
    refine R16.out.mono ?_
    rintro e w14 ⟨rfl, h14⟩
    have HP14 := hide h14
    obtain ⟨t0, t1⟩ := HT.out w14 HP14.out.b
    have s1 : w14.cell? ⟨w.heap.size + 1, 1, none⟩ = some (.slice aZ Z.length cZ) := by rw [cell_of_row _ _ _ _ _ _ t1]; rfl
    have R17 := hide (copyBools_any w14 aZ Z.length cZ Z (HZ.out.keep HP14.out.b) rfl hZN)
    clear h14 R16 t0 t1
    go_wp2_with fail
    refine R17.out.mono ?_
    rintro e w15 ⟨rfl, hk15, hb15⟩
    have R18 := hide (HP14.out.on2 hb15 (some ⟨w14.heap.size, 0, none⟩) Z.length Z hk15 (fun x hx => by cases hx; exact Nat.le_refl _))
    clear hk15 hb15 R17 s1
    go_wp2_with fail
    refine R18.out.mono ?_
    rintro e w16 ⟨rfl, h16⟩
    have HP16 := hide h16
    clear h16 R18
    generalize S2.synced.off.on A = SA at *
    generalize S2.synced.off.on Z = SZ at *
    have R19 := hide (kImage' HP16.out.d)
    rw [HAG.out.1.1] at R19
    go_wp2_with fail
    refine R19.out.mono ?_
    rintro e w17 ⟨rfl, hr17, hb17⟩
    have HP17 := hide (HP16.out.keep hb17)
    have R20 := hide (EqB hr17 (HP17.out.row (List.mem_singleton.2 rfl)) HLT.out)
    clear hr17 hb17 R19
    go_wp2_with fail
    refine R20.out.mono ?_
    rintro e w18 ⟨rfl, hb18⟩
    have HP18 := hide (HP17.out.keep hb18)
    have R21 := hide (kImage' HP18.out.e)
    rw [HAG.out.2.1] at R21
    clear hb18 R20
    go_wp2_with fail
    refine R21.out.mono ?_
    rintro e w19 ⟨rfl, hr19, hb19⟩
    have HP19 := hide (HP18.out.keep hb19)
    have R22 := hide (EqB hr19 (HP19.out.row (List.mem_singleton.2 rfl)) HLT.out)
    clear hr19 hb19 R21
    go_wp2_with fail
    refine R22.out.mono ?_
    rintro e w20 ⟨rfl, hb20⟩
    have HP20 := hide (HP19.out.keep hb20)
    have R23 := hide (kWhole' HP20.out.d)
    rw [HAG.out.1.2.1] at R23
    clear hb20 R22
    go_wp2_with fail
    refine R23.out.mono ?_
    rintro e w21 ⟨a21, c21, rfl, hr21, _, hb21⟩
    have HP21 := hide (HP20.out.keep hb21)
    have R24 := hide (EqB hr21 (HP21.out.row (List.mem_singleton.2 rfl)) HLT.out)
    clear hr21 hb21 R23
    go_wp2_with fail
    refine R24.out.mono ?_
    rintro e w22 ⟨rfl, hb22⟩
    have HP22 := hide (HP21.out.keep hb22)
    clear hb22 R24
    go_wp2
    go_ret
    exact ⟨rfl, bt HB0.out HP22.out.b⟩
set_option maxHeartbeats 2000000 in
theorem synced_bad (w : World) (nb : Int) (a : Option Addr) (l : List Nat) (cap : Nat) (hB : Bs w a l) (hN : l.length + 64 ≤ 140737488355328) (hok : ¬ stOk nb l) (a1 : Option Addr) (n1 c1 : Nat) (u v : Value) (hu : u.oneCell' = true) (hv : v.oneCell' = true) (hx : ∃ x n c, u = .slice x n c) (hy : ∃ x n c, v = .slice x n c) :
    Calls Try.prog 7 #[.agg #[.int .i64 nb, .slice a l.length cap], .slice a1 n1 c1, .agg #[u, v]] w fun e w' => e = .returned (.bool true) ∧ Below w.heap.size w w' := by
  obtain ⟨xa, xn, xc, rfl⟩ := hx
  obtain ⟨ya, yn, yc, rfl⟩ := hy
  obtain ⟨W0, hW0⟩ : ∃ W0, W0 = w.alloc (.cells #[.int .i64 nb, .slice a l.length cap] 37) := ⟨_, rfl⟩
  obtain ⟨W1, hW1⟩ : ∃ W1, W1 = W0.alloc (.cells #[.slice xa xn xc, .slice ya yn yc] 63) := ⟨_, rfl⟩
  have hs0 : W0.heap.size = w.heap.size + 1 := by rw [hW0, size_alloc]
  have hb0 : Below w.heap.size w W0 := by rw [hW0]; exact al _ _
  have hb01 : Below W0.heap.size W0 W1 := by rw [hW1]; exact al _ _
  have HB0 := hide (bt hb0 hb01)
  have HT : Hid (∀ V, Below W1.heap.size W1 V → V.heap[w.heap.size]? = some (.cells #[.int .i64 nb, .slice a l.length cap] 37 (0, 0))) := by
    intro V hb
    have := hb01.size
    rw [hb.block _ (by omega), hb01.block _ (by omega), hW0]; exact heap_alloc_last _ _
  have R1 := hide (works_any W1)
  have HST := hide fun (V : World) (hb : Below w.heap.size w V) => started_bad V nb a l cap (hB.keep hb) hN hok
  have HW1 := hide (show W1 = (w.alloc (.cells #[.int .i64 nb, .slice a l.length cap] 37)).alloc (.cells #[.slice xa xn xc, .slice ya yn yc] 63) by rw [hW1, hW0])
  rw [HW1.out] at R1
  clear hW0 hW1 hs0 hb0 hb01 hB hN hok hu hv
  go_enter Try.func7, Try.ntmps7
  go_wp2_with fail
  refine R1.out.mono ?_
  rintro e w1 ⟨rfl, hb1⟩
  rw [← HW1.out] at hb1
  have t0 := HT.out w1 hb1
  have s0 : w1.cell? ⟨w.heap.size, 0, none⟩ = some (.int .i64 nb) := by rw [cell_of_row _ _ _ _ _ _ t0]; rfl
  have s1 : w1.cell? ⟨w.heap.size, 1, none⟩ = some (.slice a l.length cap) := by rw [cell_of_row _ _ _ _ _ _ t0]; rfl
  have HBT := hide hb1
  have HB1 := hide (bt HB0.out hb1)
  have R2 := hide (HST.out w1 HB1.out)
  clear hb1 R1 t0
  go_wp2_with fail
  refine R2.out.mono ?_
  rintro e w2 ⟨rfl, hb2⟩
  have HBT2 := hide (bt HBT.out hb2)
  have t0 := HT.out w2 HBT2.out
  have s0 : w2.cell? ⟨w.heap.size, 0, none⟩ = some (.int .i64 nb) := by rw [cell_of_row _ _ _ _ _ _ t0]; rfl
  have s1 : w2.cell? ⟨w.heap.size, 1, none⟩ = some (.slice a l.length cap) := by rw [cell_of_row _ _ _ _ _ _ t0]; rfl
  have HB2 := hide (bt HB1.out hb2)
  have R3 := hide (HST.out w2 HB2.out)
  clear hb2 R2 t0
  go_wp2_with fail
  refine R3.out.mono ?_
  rintro e w3 ⟨rfl, hb3⟩
  have HB3 := hide (bt HB2.out hb3)
  clear hb3 R3 s0 s1
  go_wp2
  go_ret
  exact ⟨rfl, HB3.out⟩
theorem diskSynced_any (w : World) (nb : Int) (a : Option Addr) (l : List Nat) (cap : Nat) (_hnb : N64 nb) (hB : Bs w a l) (hN : l.length + 64 ≤ 140737488355328) (_hC : l.length ≤ cap) (a1 : Option Addr) (c1 : Nat) (L1 : List Ov) (hL1 : Sp w a1 L1) (aA : Option Addr) (A : List Bool) (cA : Nat) (aZ : Option Addr) (Z : List Bool) (cZ : Nat) (hA : Kb w aA A) (hAN : A.length ≤ 1048576) (hZ : Kb w aZ Z) (hZN : Z.length ≤ 1048576) :
    Calls Try.prog 7 #[.agg #[.int .i64 nb, .slice a l.length cap], .slice a1 L1.length c1, .agg #[.slice aA A.length cA, .slice aZ Z.length cZ]] w fun e w' => e = .returned (.bool true) ∧ Below w.heap.size w w' := by
  by_cases h : stOk nb l
  · exact synced_good w nb a l cap hB hN h a1 c1 L1 hL1 aA A cA aZ Z cZ hA hAN hZ hZN
  · exact synced_bad w nb a l cap hB hN h a1 L1.length c1 _ _ rfl rfl ⟨_, _, _, rfl⟩ ⟨_, _, _, rfl⟩
end Go.Proofs.Ytlflcdjaknnfaaa
