import Derived.Test.YtjemanlblckckaaZCA
namespace Go.Proofs.Ytjemanlblckckaa
open Go.RowKit

set_option maxRecDepth 100000 in
set_option maxHeartbeats 3200000 in
theorem spanOneForm_any (w : World) (a : Option Addr) (c : Nat) (L : List Rv) (hQ : Qs w a L) (hN : L.length ≤ 2513169434843) (hcap : L.length ≤ c) (ax : Option Addr) (cx : Nat) (x : List Nat) (hX : Bs w ax x) (_ : x.length + 64 ≤ 140737488355328) (_ : x.length ≤ cx) :
    Calls Try.prog 4 #[.slice a L.length c, .slice ax x.length cx] w fun e w' => e = .returned (.bool true) ∧ Below w.heap.size w w' := by
  have FX := hide (fixed_any w)
  have HQ := hide hQ
  have HX := hide hX
  have H8 : Hid (∀ r ∈ L.map Rv.rg, r.b8) := fun r hr => by
    obtain ⟨q, hq, rfl⟩ := List.mem_map.1 hr
    exact (hQ.1 q hq).b8
  have X8 := hide (B8_of hX)
  have CV := hide fun w1 (hb : Below w.heap.size w w1) => Cover_any w1 a L.length c L (hQ.keep hb) rfl (by omega)
  have hNI : ((L.length : Nat) : Int) ≤ 2513169434843 := by omega
  clear hQ hX
  go_enter Try.func4, Try.ntmps4
  go_wp2_with fail
  refine FX.out.mono ?_
  rintro e w1 ⟨rfl, hb⟩
  have HB1 := hide hb
  clear hb
  go_wp2_with fail
  refine (CV.out _ HB1.out).mono ?_
  rintro e w2 ⟨ac, cc, C, rfl, hL, hC⟩
  have HB2 := hide (bt HB1.out hL.q.b)
  have HCV := hide hC
  have HCT := hide (count_cover H8.out hL.m hC X8.out)
  have HAG := hide (again_cover H8.out hL.m hC)
  have HL := hide hL
  have hCl : C.length ≤ 2513169434843 := by
    have h1 := map_len hC
    have h2 := cover_len L
    omega
  clear hL hC
  go_wp2
  go_loopw [6, 8] (fun h i wx => ∃ j : Nat, j ≤ C.length ∧ i = .int .i64 j ∧ h = .int .i64 (((C.take j).filter fun r => has r.rg x).length : Nat) ∧ Below w2.heap.size w2 wx) (fun _ i _ => C.length - (intOf i).toNat)
  case atStart => exact ⟨0, Nat.zero_le _, rfl, rfl, Below.refl _ _⟩
  case round =>
    obtain ⟨j, hj, rfl, rfl, hb⟩ := hrel
    have HB := hide hb
    clear hb
    by_cases hlt : j < C.length
    · have hi : (j : Int) < (C.length : Int) := by omega
      have hj1 := w64 (j := j) (by omega)
      obtain ⟨b, off, rfl, hr⟩ := (HL.out.keep HB.out).cell hlt (by omega)
      obtain ⟨k0, k1, k2⟩ := range3 hr
      have HRI : Hid (Ri wr (C.getD j Rv.zero)) := (HL.out.keep HB.out).f.ri _ (getD_memR hlt)
      have HST := hide (filter_take (p := fun r => has r.rg x) hlt)
      have hle : ((C.take j).filter fun r => has r.rg x).length ≤ 2513169434843 := by
        have h1 := List.length_filter_le (fun r : Rv => has r.rg x) (C.take j)
        rw [List.length_take] at h1
        omega
      generalize ((C.take j).filter fun r => has r.rg x).length = n at *
      have hn1 := w64 (j := n) (by omega)
      generalize C.getD j Rv.zero = r at *
      have HS := hide (Has_any wr r ax x.length cx x HRI.out (HX.out.keep (bt HB2.out HB.out)) rfl)
      clear HRI hr
      unfold Rv.val Rv.cs at HS
      cases hh : has r.rg x with
      | true =>
        rw [hh] at HS HST
        clear hh
        go_wp2_with fail
        refine HS.out.mono ?_
        rintro e w4 ⟨rfl, hb⟩
        have HB4 := hide (bt HB.out hb)
        clear hb k0 k1 k2
        go_wp2
        go_roundw
        case rel => exact ⟨j + 1, by omega, by first | (go_num; done) | exact congrArg (Value.int IntKind.i64) (by omega), by rw [HST.out]; first | (go_num; done) | exact congrArg (Value.int IntKind.i64) (by simp), HB4.out⟩
        case measure => first | exact meas_up _ _ _ hj1 hlt | exact meas_up _ _ _ rfl hlt | (simp [intOf]; omega)
      | false =>
        rw [hh] at HS HST
        clear hh
        go_wp2_with fail
        refine HS.out.mono ?_
        rintro e w4 ⟨rfl, hb⟩
        have HB4 := hide (bt HB.out hb)
        clear hb k0 k1 k2
        go_wp2
        go_roundw
        case rel => exact ⟨j + 1, by omega, by first | (go_num; done) | exact congrArg (Value.int IntKind.i64) (by omega), by rw [HST.out]; first | rfl | (go_num; done) | exact congrArg (Value.int IntKind.i64) (by simp), HB4.out⟩
        case measure => first | exact meas_up _ _ _ hj1 hlt | exact meas_up _ _ _ rfl hlt | (simp [intOf]; omega)
    · obtain rfl : j = C.length := by omega
      rw [List.take_length, inN_all HCT.out]
      have hin0 : inN L x 0 ≤ 1 := by unfold inN; split <;> omega
      have HIN := hide hin0
      clear hin0
      have W2 := hide (bt HB2.out HB.out)
      have HL3 := hide (HL.out.keep HB.out)
      generalize hw3 : wr = w3 at *
      clear hw3
      go_wp2
      go_loopw [7, 9, 10] (fun h v i wx => ∃ (j : Nat) (ab : Option Addr) (cb : Nat), j ≤ L.length ∧ i = .int .i64 ((j : Int) - 1) ∧ v = .slice ab (L.length - j) cb ∧ h = .int .i64 ((inN L x j : Nat) : Int) ∧ QOwn w3 wx ab cb (L.drop j).reverse) (fun _ _ i _ => ((intOf i) + 1).toNat)
      case atStart =>
        refine ⟨L.length, none, 0, Nat.le_refl _, rfl, by simp, by rw [inN_end]; rfl, ?_⟩
        rw [List.drop_length]
        exact QOwn.nil w3 (Below.refl _ _)
      case round =>
        obtain ⟨j, ab, cb, hj, rfl, rfl, rfl, hq⟩ := hrel
        have HQ4 := hide hq
        clear hq
        cases j with
        | zero =>
          rw [List.drop_zero] at HQ4
          have W4 := hide (bt W2.out HQ4.out.b)
          have HL4 := hide (HL3.out.keep HQ4.out.b)
          have QB := hide (HQ4.out.r.qs (fun r hr => (HQ.out.keep W4.out).1 r (List.mem_reverse.1 hr)) (by rw [List.length_reverse]; omega))
          have QC := hide (HL4.out.q.r.qs HL4.out.f.ri (by omega))
          have hrl : L.length - 0 = L.reverse.length := by simp
          rw [hrl]
          have C2 := hide (Cover_any wr ac C.length cc C QC.out rfl (by omega))
          have C3 := hide fun w5 (hb : Below wr.heap.size wr w5) => Cover_any w5 ab L.reverse.length cb L.reverse (QB.out.keep hb) rfl (by rw [List.length_reverse]; omega)
          rw [HAG.out] at C2
          rw [back_cover H8.out, ← HCV.out] at C3
          have SR := hide fun w5 (hb : Below wr.heap.size wr w5) a5 c5 (D : List Rv) (hD : Qs w5 a5 D) (hm : Fmd D) (he : D.map Rv.fm = C.map Rv.fm) => (show Calls Try.prog 6 #[.slice a5 D.length c5, .slice ac C.length cc] w5 (fun e w' => e = .returned (.bool true) ∧ Below w5.heap.size w5 w') from by
            have := sameRanges_any w5 a5 ac D.length c5 C.length cc D C hD (QC.out.keep hb) rfl rfl
            rw [decide_eq_true ((tp_fm hm HL4.out.m).2 he)] at this
            exact this)
          have hln : ∀ D : List Rv, D.map Rv.fm = C.map Rv.fm → D.length ≤ 2513169434843 := fun D h => by
            have := congrArg List.length h
            rw [List.length_map, List.length_map] at this
            omega
          have HLN := hide hln
          generalize inN L x 0 = N0 at *
          generalize hRL : L.reverse.length = RL at *
          clear hrl hln hRL
          go_wp2_with fail
          refine C2.out.mono ?_
          rintro e w5 ⟨a5, c5, D, rfl, hD, hDm⟩
          have HB5 := hide hD.q.b
          have QD := hide (hD.q.r.qs hD.f.ri (by have := HLN.out D hDm; omega))
          have HDM := hide hD.m
          have HDE := hide hDm
          clear hD hDm
          go_wp2_with fail
          refine (SR.out _ HB5.out a5 c5 D QD.out HDM.out HDE.out).mono ?_
          rintro e w6 ⟨rfl, hb⟩
          have HB6 := hide (bt HB5.out hb)
          clear hb
          go_wp2_with fail
          refine (C3.out _ HB6.out).mono ?_
          rintro e w7 ⟨a7, c7, E, rfl, hE, hEm⟩
          have HB7 := hide (bt HB6.out hE.q.b)
          have QE := hide (hE.q.r.qs hE.f.ri (by have := HLN.out E hEm; omega))
          have HEM := hide hE.m
          have HEE := hide hEm
          clear hE hEm
          go_wp2_with fail
          refine (SR.out _ HB7.out a7 c7 E QE.out HEM.out HEE.out).mono ?_
          rintro e w8 ⟨rfl, hb⟩
          have W8 := hide (bt W4.out (bt HB7.out hb))
          clear hb
          go_wp2
          go_loopw [11, 12, 13] (fun i _ _ wx => ∃ j : Nat, j ≤ L.length ∧ i = .int .i64 j ∧ Below w.heap.size w wx) (fun i _ _ _ => L.length - (intOf i).toNat)
          case atStart => exact ⟨0, Nat.zero_le _, rfl, W8.out⟩
          case round =>
            obtain ⟨j, hj, rfl, hb⟩ := hrel
            have HB := hide hb
            clear hb
            have hj1 := w64 (j := j) (by omega)
            by_cases hlt : j + 1 < L.length
            · have hi : (j : Int) + 1 < (L.length : Int) := by omega
              obtain ⟨b, off, rfl, _⟩ := (HQ.out.keep HB.out).at (r := j) (by omega)
              have c1 : (j : Int) + 1 ≤ (c : Int) := by omega
              have c2 : (j : Int) + 2 ≤ (c : Int) := by omega
              have c3 : (j : Int) ≤ (c : Int) := by omega
              have c4 : j ≠ c := by omega
              have c5 : j + 1 ≠ c := by omega
              have c6 : j ≤ c := by omega
              have c7 : j + 1 ≤ c := by omega
              have c8 : IntKind.i64.wrap ((j : Int) + 1) = (j : Int) + 1 := wrapI (by omega) (by omega)
              have c9 : IntKind.i64.wrap ((j : Int) + 2) = (j : Int) + 2 := wrapI (by omega) (by omega)
              have d1 : (0 : Int) ≤ (j : Int) + 1 := by omega
              have d2 : ¬ c = j := by omega
              have d3 : (0 : Int) ≤ (j : Int) + 2 := by omega
              have d4 : ¬ c = j + 1 := by omega
              have d5 : (0 : Int) ≤ (j : Int) := by omega
              have CA := hide fun w1 (hb : Below w.heap.size w w1) => Cover_any w1 (some ⟨b, off + j * 3, none⟩) 1 (c - j) [L.getD j Rv.zero] ((HQ.out.keep hb).one (by omega)) rfl (by simp)
              have CB := hide fun w1 (hb : Below w.heap.size w w1) => Cover_any w1 (some ⟨b, off + (j + 1) * 3, none⟩) (((j : Int) + 2).toNat - (j + 1)) (c - (j + 1)) [L.getD (j + 1) Rv.zero] ((HQ.out.keep hb).one hlt) (by simp only [List.length_cons, List.length_nil]; omega) (by simp)
              have T1 := hide (bt HB.out (drew1 wr))
              have RI := hide fun w1 (hb : Below w.heap.size w w1) => (HQ.out.keep hb).1 _ (getD_memR (show j < L.length by omega))
              have RJ := hide fun w1 (hb : Below w.heap.size w w1) => (HQ.out.keep hb).1 _ (getD_memR hlt)
              have CI := hide fun w1 (hb : Below w.heap.size w w1) => (HQ.out.keep hb).at (show j < L.length by omega)
              have CJ := hide fun w1 (hb : Below w.heap.size w w1) => (HQ.out.keep hb).at hlt
              have hNL := hlt
              clear hlt
              generalize L.getD j Rv.zero = r at *
              generalize L.getD (j + 1) Rv.zero = s at *
              have EQ := hide fun w1 (hb : Below w.heap.size w w1) => Equal_any w1 r s (RI.out w1 hb) (RJ.out w1 hb)
              have EM := hide fun w1 (hb : Below w.heap.size w w1) => Empty_any w1 r (RI.out w1 hb)
              go_wp2
              go_region_held3 (fun _ => True)
                (trivial)
                (first | (go_at_call 7; with_reducible refine (CA.out _ T1.out).mono ?_; rintro e w9 ⟨a5, c5, Ca, rfl, hCa, hCam⟩; have T1 := hide (bt T1.out hCa.q.b); have HCA := hide hCa; have HCAM := hide hCam; clear hCa hCam) | (go_at_call 7; with_reducible refine (CB.out _ T1.out).mono ?_; rintro e w10 ⟨a6, c6, Cb, rfl, hCb, hCbm⟩; have T1 := hide (bt T1.out hCb.q.b); have HCA := hide (HCA.out.keep hCb.q.b); have HCB := hide hCb; have HCBM := hide hCbm; clear hCb hCbm))
              have QA := hide (HCA.out.q.r.qs HCA.out.f.ri (by have := one_len HCAM.out; split at this <;> omega))
              have QB2 := hide (HCB.out.q.r.qs HCB.out.f.ri (by have := one_len HCBM.out; split at this <;> omega))
              have SRX := hide fun w1 (hb : Below w10.heap.size w10 w1) => (show Calls Try.prog 6 #[.slice a5 Ca.length c5, .slice a6 Cb.length c6] w1 (fun e w' => e = .returned (.bool (decide (form r.rg = form s.rg))) ∧ Below w1.heap.size w1 w') from by
                have := sameRanges_any w1 a5 a6 Ca.length c5 Cb.length c6 Ca Cb (QA.out.keep hb) (QB2.out.keep hb) rfl rfl
                rw [one_same HCA.out.m HCB.out.m HCAM.out HCBM.out] at this
                exact this)
              have hzl : (((Ca.length : Nat) : Int) == 0) = !has r.rg (least r.lo) := by
                rw [one_len HCAM.out, form_isSome]
                show ((((if has r.rg (least r.lo) = true then 1 else 0 : Nat) : Nat) : Int) == 0) = _
                cases has r.rg (least r.lo) <;> rfl
              have D1 := hide (drew1 w10)
              have T1 := hide (bt T1.out (drew1 w10))
              have S1 := (show (w10.drew.cell? ⟨b, off + j * 3, none⟩ = some (.slice r.aL r.lo.length r.cL) ∧ w10.drew.cell? ⟨b, off + j * 3 + 1, none⟩ = some (.slice r.aH r.hi.length r.cH) ∧ w10.drew.cell? ⟨b, off + j * 3 + 2, none⟩ = some (.bool r.op)) ∧ w10.drew.cell? ⟨b, off + (j + 1) * 3, none⟩ = some (.slice s.aL s.lo.length s.cL) ∧ w10.drew.cell? ⟨b, off + (j + 1) * 3 + 1, none⟩ = some (.slice s.aH s.hi.length s.cH) ∧ w10.drew.cell? ⟨b, off + (j + 1) * 3 + 2, none⟩ = some (.bool s.op) from by
                obtain ⟨b1, o1, e1, h1⟩ := CI.out _ T1.out
                obtain ⟨b2, o2, e2, h2⟩ := CJ.out _ T1.out
                simp only [Option.some.injEq, Addr.mk.injEq] at e1 e2
                obtain ⟨rfl, rfl, _⟩ := e1
                obtain ⟨rfl, rfl, _⟩ := e2
                exact ⟨range3 h1, range3 h2⟩)
              have he1 : ∀ e1 : Bool, (e1 == e1) = true := fun e1 => by simp
              generalize decide (form r.rg = form s.rg) = e1 at *
              generalize has r.rg (least r.lo) = p at *
              unfold Rv.val at EQ EM
              unfold Rv.cs at EQ EM
              have hi0 : (j : Int) < (L.length : Int) := by omega
              have hi0' : (j : Int) + 1 < (L.length : Int) := by omega
              clear CA CB CI CJ QA QB2 HCA HCB HCAM HCBM RI RJ
              go_wp2
              go_region_held3 (fun w' => (w'.cell? ⟨b, off + j * 3, none⟩ = some (.slice r.aL r.lo.length r.cL) ∧ w'.cell? ⟨b, off + j * 3 + 1, none⟩ = some (.slice r.aH r.hi.length r.cH) ∧ w'.cell? ⟨b, off + j * 3 + 2, none⟩ = some (.bool r.op)) ∧ w'.cell? ⟨b, off + (j + 1) * 3, none⟩ = some (.slice s.aL s.lo.length s.cL) ∧ w'.cell? ⟨b, off + (j + 1) * 3 + 1, none⟩ = some (.slice s.aH s.hi.length s.cH) ∧ w'.cell? ⟨b, off + (j + 1) * 3 + 2, none⟩ = some (.bool s.op))
                (with_reducible exact S1)
                (first | (go_at_call 10; refine (EQ.out _ T1.out).mono ?_; rintro e w11 ⟨rfl, hb⟩; have S1 := And.intro (o3_keep S1.1 hb) (o3_keep S1.2 hb); have T1 := hide (bt T1.out hb); have D1 := hide (bt D1.out hb); clear hb) | (go_at_call 6; refine (SRX.out _ D1.out).mono ?_; rintro e w11 ⟨rfl, hb⟩; have S1 := And.intro (o3_keep S1.1 hb) (o3_keep S1.2 hb); have T1 := hide (bt T1.out hb); have D1 := hide (bt D1.out hb); clear hb) | (go_at_call 11; refine (EM.out _ T1.out).mono ?_; rintro e w11 ⟨rfl, hb⟩; have S1 := And.intro (o3_keep S1.1 hb) (o3_keep S1.2 hb); have T1 := hide (bt T1.out hb); have D1 := hide (bt D1.out hb); clear hb))
              clear S1
              go_wp2
              go_roundw
              case rel => exact ⟨j + 1, by omega, by first | (go_num; done) | exact congrArg (Value.int IntKind.i64) (by omega), T1.out⟩
              case measure => first | exact meas_up _ _ _ hj1 (by omega) | exact meas_up _ _ _ rfl (by omega) | (simp [intOf]; omega)
            · have hi : ¬ (j : Int) + 1 < (L.length : Int) := by omega
              go_wp2
              go_ret
              exact ⟨rfl, HB.out⟩
        | succ j =>
          have hlt : j < L.length := by omega
          have hi : (j : Int) < (L.length : Int) := by omega
          obtain ⟨b, off, rfl, hr⟩ := (HQ.out.keep (bt W2.out HQ4.out.b)).at hlt
          obtain ⟨k0, k1, k2⟩ := range3 hr
          have HRI : Hid (Ri wr (L.getD j Rv.zero)) := (HQ.out.keep (bt W2.out HQ4.out.b)).1 _ (getD_memR hlt)
          have HAY := hide (@inN_yes L x j hlt)
          have HAN := hide (@inN_no L x j hlt)
          have HRD := hide (rev_drop hlt)
          have hlen : (L.drop (j + 1)).reverse.length = L.length - (j + 1) := by simp
          have HS := hide (Has_any wr (L.getD j Rv.zero) ax x.length cx x HRI.out (HX.out.keep (bt W2.out HQ4.out.b)) rfl)
          generalize L.getD j Rv.zero = r at *
          generalize (L.drop (j + 1)).reverse = LR at *
          have HLEN := hide hlen
          have HSZ : Hid (LR.length + 1 ≤ 2513169434844) := by show _ ≤ _; omega
          have hNJ : (L.length - (j + 1)) + 1 = L.length - j := by omega
          have HNJ := hide hNJ
          clear HRI hr hlen hNJ
          obtain ⟨aL, cL, lo, aH, cH, hi', op⟩ := r
          unfold Rv.val at HS
          dsimp only [Rv.cs] at *
          generalize L.length - (j + 1) = M at *
          cases hh : has (Rv.rg ⟨aL, cL, lo, aH, cH, hi', op⟩) x with
          | true =>
            rw [hh] at HS
            have HAD := hide (HAY.out hh)
            clear hh
            go_wp2_with fail
            refine HS.out.mono ?_
            rintro e w4 ⟨rfl, hb⟩
            obtain ⟨m0, m1, m2⟩ := o3_keep (And.intro k0 (And.intro k1 k2)) hb
            have HB4 := hide hb
            clear hb k0 k1 k2
            go_wp2_with (at_builtin; refine wpList_apQ rfl _ _ rfl ab M cb LR rfl HLEN.out.symm (HQ4.out.r.keep (bt HB4.out (al _ _))) ⟨w4.heap.size, 0, none⟩ 1 ⟨aL, cL, lo, aH, cH, hi', op⟩ rfl (built_at ⟨aL, cL, lo, aH, cH, hi', op⟩ 30 rfl) HSZ.out ?_)
            intro g cap' w5 hR hN2 hg
            have HST := hide (HQ4.out.step (bt HB4.out (al _ _)) hR hN2 hg)
            clear hR hN2 hg
            go_wp2
            go_roundw
            case rel => exact ⟨j, _, cap', by omega, by first | rfl | (go_num; done), by rw [HNJ.out], by rw [HAD.out]; rfl, by rw [HRD.out]; exact HST.out⟩
            case measure => simp [intOf]
          | false =>
            rw [hh] at HS
            have HAD := hide (HAN.out hh)
            clear hh
            go_wp2_with fail
            refine HS.out.mono ?_
            rintro e w4 ⟨rfl, hb⟩
            obtain ⟨m0, m1, m2⟩ := o3_keep (And.intro k0 (And.intro k1 k2)) hb
            have HB4 := hide hb
            clear hb k0 k1 k2
            go_wp2_with (at_builtin; refine wpList_apQ rfl _ _ rfl ab M cb LR rfl HLEN.out.symm (HQ4.out.r.keep (bt HB4.out (al _ _))) ⟨w4.heap.size, 0, none⟩ 1 ⟨aL, cL, lo, aH, cH, hi', op⟩ rfl (built_at ⟨aL, cL, lo, aH, cH, hi', op⟩ 30 rfl) HSZ.out ?_)
            intro g cap' w5 hR hN2 hg
            have HST := hide (HQ4.out.step (bt HB4.out (al _ _)) hR hN2 hg)
            clear hR hN2 hg
            go_wp2
            go_roundw
            case rel => exact ⟨j, _, cap', by omega, by first | rfl | (go_num; done), by rw [HNJ.out], by rw [HAD.out], by rw [HRD.out]; exact HST.out⟩
            case measure => simp [intOf]
end Go.Proofs.Ytjemanlblckckaa
