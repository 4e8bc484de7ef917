import Derived.Test.YtdfhalhllmnnbaaEAC
namespace Go.Proofs.Ytdfhalhllmnnbaa
set_option linter.unusedVariables false
open Go.RowKit

/-! ### PoolMakes -/
theorem start_rf (r : Int) (C : List Int) : (Po.start r C).rf = r := rfl
theorem wl_all (xs : List Int) : wl xs (-1) = xs := by unfold wl; rw [if_pos (by decide)]
theorem count_out {P : Po} {z : Int} (h : z < 1 ∨ (P.pg.length : Int) < z) : P.count z = 0 := by
  unfold Po.count; rw [if_neg (fun e => by have := Po.has_iff.1 e; omega)]
theorem state_out {P : Po} {z : Int} (h : z < 1 ∨ (P.pg.length : Int) < z) : P.state z = 0 := by
  unfold Po.state; rw [if_neg (fun e => by have := Po.has_iff.1 e; omega)]
set_option maxHeartbeats 8000000 in
set_option maxRecDepth 8000 in
theorem likely_any (w : World) (b q : Nat) (r : Int) (C : List Int) (col : Nat → Nat) (cb lb : Nat) (hP : Pl w b (Po.start r C) col) (hR : Rp w q r C (lasOf C) cb lb) :
    Calls Try.prog 10 #[.pointer (some ⟨b, 0, none⟩), .pointer (some ⟨q, 0, none⟩)] w fun e w' => e = .returned (.bool true) ∧ Below w.heap.size w w' := by
  have hl : C.length ≤ 65536 := by have := hP.ok.l2; rwa [start_len] at this
  have LP := hide fun (W : World) (hb : Below w.heap.size w W) => Len_pl W b _ col (hP.keep hb)
  have RP := hide fun (W : World) (hb : Below w.heap.size w W) => Refs_pl W b _ col (hP.keep hb)
  have MP := hide fun (W : World) (hb : Below w.heap.size w W) => Mark_pl W b _ col (hP.keep hb) (by rw [start_mark]; omega)
  have CP := hide fun (W : World) (hb : Below w.heap.size w W) => Counts_any W b _ col (hP.keep hb)
  have TP := hide fun (W : World) (hb : Below w.heap.size w W) (z : Int) => Tally_any W b _ col (hP.keep hb) z
  have WP := hide fun (W : World) (hb : Below w.heap.size w W) (z : Int) => walked_any W b _ col (hP.keep hb) z (-1)
  have C0 := hide fun (W : World) (hb : Below w.heap.size w W) => Count_pl W b _ col (hP.keep hb) 0
  have S0 := hide fun (W : World) (hb : Below w.heap.size w W) => State_pl W b _ col (hP.keep hb) 0
  have C1 := hide fun (W : World) (hb : Below w.heap.size w W) => Count_pl W b _ col (hP.keep hb) ((C.length : Int) + 1)
  have S1 := hide fun (W : World) (hb : Below w.heap.size w W) => State_pl W b _ col (hP.keep hb) ((C.length : Int) + 1)
  have LR := hide fun (W : World) (hb : Below w.heap.size w W) => yLen_any W q r C _ cb lb (hR.keep hb)
  have RR := hide fun (W : World) (hb : Below w.heap.size w W) => yRefs_any W q r C _ cb lb (hR.keep hb)
  have MR := hide fun (W : World) (hb : Below w.heap.size w W) => yMark_any W q r C _ cb lb (hR.keep hb)
  have CR := hide fun (W : World) (hb : Below w.heap.size w W) => yCounts_any W q r C _ cb lb (hR.keep hb) hl
  have PR := hide fun (W : World) (hb : Below w.heap.size w W) (z : Int) => yPages_any W q r C cb lb (hR.keep hb) hl z
  have PL := hide fun (z : Int) => Po.pages_len hP.ok z
  rw [start_len] at LP
  rw [start_rf] at RP
  rw [start_mark] at MP
  simp only [start_counts] at CP
  simp only [wl_all] at WP
  rw [count_out (.inl (by decide))] at C0
  rw [state_out (.inl (by decide))] at S0
  rw [count_out (.inr (by rw [start_len]; omega))] at C1
  rw [state_out (.inr (by rw [start_len]; omega))] at S1
  generalize Po.pages (Po.start r C) = pg at *
  have HC := hide (show C.length = C.length from rfl)
  obtain ⟨n, hn⟩ : ∃ n, C.length = n := ⟨_, rfl⟩
  have HN := hide hn
  rw [hn] at LP C1 S1 LR hl
  clear hP hR hn HC
  have e1 : ((n : Int) != (n : Int)) = false := by simp
  have e2 : (r != r) = false := by simp
  have B0 := hide (show Below w.heap.size w w from Below.refl _ _)
  go_enter Try.func10, Try.ntmps10
  go_wp2_with fail
  refine (LP.out _ B0.out).mono ?_
  rintro _ wq ⟨rfl, hwq⟩
  obtain rfl := hwq.symm
  go_wp2_with fail
  refine (LR.out _ B0.out).mono ?_
  rintro _ wq ⟨rfl, hwq⟩
  obtain rfl := hwq.symm
  go_wp2_with fail
  refine (RP.out _ B0.out).mono ?_
  rintro _ wq ⟨rfl, hwq⟩
  obtain rfl := hwq.symm
  go_wp2_with fail
  refine (RR.out _ B0.out).mono ?_
  rintro _ wq ⟨rfl, hwq⟩
  obtain rfl := hwq.symm
  go_wp2_with fail
  refine (MP.out _ B0.out).mono ?_
  rintro _ w1 ⟨rfl, hb⟩
  have B1 := hide (bt B0.out hb)
  clear hb
  go_wp2_with fail
  refine (MR.out _ B1.out).mono ?_
  rintro _ wq ⟨rfl, hwq⟩
  obtain rfl := hwq.symm
  go_wp2_with fail
  refine (CP.out _ B1.out).mono ?_
  rintro _ w2 ⟨a2, d2, rfl, hI⟩
  have R2 := hide hI.r
  have B2 := hide (bt B1.out hI.b)
  clear hI
  rw [HN.out]
  go_wp2_with fail
  refine (CR.out _ B2.out).mono ?_
  rintro _ w3 ⟨a3, d3, rfl, hI⟩
  have R3 := hide (R2.out.keep hI.b)
  have I3 := hide hI.r
  have B3 := hide (bt B2.out hI.b)
  clear hI R2
  rw [HN.out]
  have EQ := hide (EqInts_same w3 a2 a3 n n d2 d3 C R3.out.ir I3.out.ir HN.out.symm HN.out.symm (by rw [HN.out]; omega))
  go_wp2_with fail
  refine EQ.out.mono ?_
  rintro _ w4 ⟨rfl, hb⟩
  have B4 := hide (bt B3.out hb)
  clear hb EQ R3 I3 B0 B1 B2 B3
  go_wp2_with fail
  go_loopw [5, 6] (fun i s wr => ∃ (j : Nat), j ≤ 6 ∧ i = .int .i64 (j : Int) ∧ Below w.heap.size w wr) (fun i _ _ => 6 - (intOf i).toNat)
  case atStart => exact ⟨0, Nat.zero_le _, rfl, B4.out⟩
  case round =>
    clear B4
    obtain ⟨j, hj, rfl, hb⟩ := hrel
    have B := hide hb
    clear hb
    by_cases hlt : j < 6
    · have d1 : decide ((j : Int) ≤ 5) = true := decide_eq_true (by omega)
      have hle : (j : Int) ≤ 5 := by omega
      have TP' := hide fun (W : World) (hb : Below w.heap.size w W) => TP.out W hb (j : Int)
      have WP' := hide fun (W : World) (hb : Below w.heap.size w W) => WP.out W hb (j : Int)
      have PR' := hide (PR.out _ B.out (j : Int))
      have hpl := PL.out (j : Int)
      generalize pg (j : Int) = L at *
      obtain ⟨m, hm⟩ : ∃ m, L.length = m := ⟨_, rfl⟩
      have HM := hide hm
      rw [hm] at hpl TP'
      clear hm
      go_wp2_with fail
      refine PR'.out.mono ?_
      rintro _ w5 ⟨a5, d5, rfl, hI⟩
      have R5 := hide hI.r
      have B5 := hide (bt B.out hI.b)
      clear hI PR'
      rw [HM.out]
      go_wp2_with fail
      refine (TP'.out _ B5.out).mono ?_
      rintro _ w6 ⟨rfl, hb⟩
      have R6 := hide (R5.out.keep hb)
      have B6 := hide (bt B5.out hb)
      clear hb R5 TP'
      have e3 : ((m : Int) != (m : Int)) = false := by simp
      go_wp2_with fail
      refine (WP'.out _ B6.out).mono ?_
      rintro _ w7 ⟨a7, d7, rfl, hI⟩
      have R7 := hide (R6.out.keep hI.b)
      have I7 := hide hI.r
      have B7 := hide (bt B6.out hI.b)
      clear hI R6 WP'
      rw [HM.out]
      have EQ := hide (EqInts_same w7 a7 a5 m m d7 d5 L I7.out.ir R7.out.ir HM.out.symm HM.out.symm (by rw [HM.out]; omega))
      go_wp2_with fail
      refine EQ.out.mono ?_
      rintro _ w8 ⟨rfl, hb⟩
      have B8 := hide (bt B7.out hb)
      clear hb EQ R7 I7 B5 B6 B7
      go_wp2
      go_roundw
      case rel => exact ⟨j + 1, by omega, by go_num, B8.out⟩
      case measure => simp [intOf]; omega
    · obtain rfl : j = 6 := by omega
      have s1 : IntKind.i64.wrap ((n : Int) + 1) = (n : Int) + 1 := wrapI (by omega) (by omega)
      have s2 : wrap64 ((n : Int) + 1) = (n : Int) + 1 := by unfold wrap64; omega
      go_wp2_with fail
      refine (C0.out _ B.out).mono ?_
      rintro _ wq ⟨rfl, hwq⟩
      obtain rfl := hwq.symm
      go_wp2_with fail
      refine (S0.out _ B.out).mono ?_
      rintro _ w5 ⟨rfl, hb⟩
      have B5 := hide (bt B.out hb)
      clear hb
      go_wp2_with fail
      refine (LR.out _ B5.out).mono ?_
      rintro _ wq ⟨rfl, hwq⟩
      obtain rfl := hwq.symm
      go_wp2_with fail
      refine (C1.out _ B5.out).mono ?_
      rintro _ wq ⟨rfl, hwq⟩
      obtain rfl := hwq.symm
      go_wp2_with fail
      refine (LR.out _ B5.out).mono ?_
      rintro _ wq ⟨rfl, hwq⟩
      obtain rfl := hwq.symm
      go_wp2_with fail
      refine (S1.out _ B5.out).mono ?_
      rintro _ w6 ⟨rfl, hb⟩
      have B6 := hide (bt B5.out hb)
      clear hb
      go_wp2
      go_ret
      exact ⟨rfl, B6.out⟩
set_option maxHeartbeats 8000000 in
set_option maxRecDepth 8000 in
theorem poolMakes_any (w : World) (l : Bool) (n r : Int) (a : Option Addr) (cap : Nat) (C : List Int) (hC : Ir w a C) (hN : C.length ≤ 17592186043904) :
    Calls Try.prog 3 #[.agg #[.bool l, .int .i64 n, .int .i64 r, .slice a C.length cap]] w fun e w' => e = .returned (.bool true) ∧ Below w.heap.size w w' := by
  have aw := al w (.cells #[.bool l, .int .i64 n, .int .i64 r, .slice a C.length cap] 24)
  have FX := hide (fixed_any (w.alloc (.cells #[.bool l, .int .i64 n, .int .i64 r, .slice a C.length cap] 24)))
  have bx := World.alloc_heap_new w (.cells #[.bool l, .int .i64 n, .int .i64 r, .slice a C.length cap] 24)
  have BX := hide (show ∀ W, Below (w.alloc (.cells #[.bool l, .int .i64 n, .int .i64 r, .slice a C.length cap] 24)).heap.size (w.alloc (.cells #[.bool l, .int .i64 n, .int .i64 r, .slice a C.length cap] 24)) W → W.cell? ⟨w.heap.size, 0, none⟩ = some (.bool l) ∧ W.cell? ⟨w.heap.size, 1, none⟩ = some (.int .i64 n) ∧ W.cell? ⟨w.heap.size, 2, none⟩ = some (.int .i64 r) ∧ W.cell? ⟨w.heap.size, 3, none⟩ = some (.slice a C.length cap) from fun W hb => by
    have h := (hb.block w.heap.size (Array.getElem?_eq_some_iff.1 bx).1).trans bx
    rw [cell_of_row _ _ _ _ _ _ h, cell_of_row _ _ _ _ _ _ h, cell_of_row _ _ _ _ _ _ h, cell_of_row _ _ _ _ _ _ h]
    exact ⟨rfl, rfl, rfl, rfl⟩)
  have MD := hide fun (W : World) (hb : Below w.heap.size w W) => made_any W l n r a C.length cap C (hC.keep hb) rfl (by omega)
  have AW := hide aw
  generalize C.length = k at *
  clear aw bx hC
  go_enter Try.func3, Try.ntmps3
  go_wp2_with fail
  generalize w.alloc (.cells #[.bool l, .int .i64 n, .int .i64 r, .slice a k cap] 24) = W0 at *
  refine FX.out.mono ?_
  rintro _ w1 ⟨rfl, hb⟩
  obtain ⟨x0, x1, x2, x3⟩ := BX.out _ hb
  have B1 := hide (bt AW.out hb)
  clear hb FX BX
  go_wp2_with fail
  refine (MD.out _ B1.out).mono ?_
  rintro e w2 (⟨-, rfl, hb2⟩ | ⟨-, b, q, col, cb, lb, rfl, hT2⟩)
  · have B2 := hide (bt B1.out hb2)
    clear hb2 MD x0 x1 x2 x3
    go_wp2
    go_ret
    exact ⟨rfl, B2.out⟩
  have LK := hide (likely_any w2 b q r _ col cb lb hT2.np.p hT2.rp)
  have B2 := hide (bt B1.out hT2.np.b)
  clear hT2 MD x0 x1 x2 x3
  go_wp2_with fail
  refine LK.out.mono ?_
  rintro _ w3 ⟨rfl, hb⟩
  have B3 := hide (bt B2.out hb)
  clear hb LK
  go_wp2
  go_ret
  exact ⟨rfl, B3.out⟩
end Go.Proofs.Ytdfhalhllmnnbaa
