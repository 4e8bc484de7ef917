import Derived.Test.YthfcgfdboienkaaXR
import Derived.Test.YthfcgfdboienkaaVJ
namespace Go.Proofs.Ythfcgfdboienkaa
open Go.RowKit

/-- two rows that stay -/
structure RT (w W : World) (b o b2 o2 : Nat) (y x : VV) : Prop where
  m : W.rangeAt b o y.pc.toList
  r : W.rangeAt b2 o2 x.rc.toList
  u : Below w.heap.size w W
theorem RT.keep {w W W' : World} {b o b2 o2 : Nat} {y x : VV} (h : RT w W b o b2 o2 y x) (hb : Below W.heap.size W W') : RT w W' b o b2 o2 y x :=
  ⟨range_below h.m hb, range_below h.r hb, bt h.u hb⟩
theorem RT.s {w W : World} {b o b2 o2 : Nat} {y x : VV} (h : RT w W b o b2 o2 y x) : (W.cell? ⟨b, o, none⟩ = some (.int .i64 y.kind) ∧ W.cell? ⟨b, o + 1, none⟩ = some (.bool y.bool) ∧ W.cell? ⟨b, o + 2, none⟩ = some (.int .i64 y.int) ∧ W.cell? ⟨b, o + 3, none⟩ = some (.float .f64 y.real) ∧ W.cell? ⟨b, o + 4, none⟩ = some (.complex .f64 y.re y.im) ∧ W.cell? ⟨b, o + 5, none⟩ = some (.string y.text)) ∧ (W.cell? ⟨b2, o2, none⟩ = some (.int .i64 x.kind) ∧ W.cell? ⟨b2, o2 + 1, none⟩ = some (.bool x.bool) ∧ W.cell? ⟨b2, o2 + 2, none⟩ = some (.int .i64 x.int) ∧ W.cell? ⟨b2, o2 + 3, none⟩ = some (.int .u64 (x.real : Int)) ∧ W.cell? ⟨b2, o2 + 4, none⟩ = some (.int .u64 (x.re : Int)) ∧ W.cell? ⟨b2, o2 + 5, none⟩ = some (.int .u64 (x.im : Int)) ∧ W.cell? ⟨b2, o2 + 6, none⟩ = some (.string x.text)) := ⟨six h.m, seven h.r⟩
theorem rc_eq' (v : VV) : v.rc = #[.int .i64 v.kind, .bool v.bool, .int .i64 v.int, .int .u64 (v.real : Int), .int .u64 (v.re : Int), .int .u64 (v.im : Int), .string v.text] := rfl
theorem encR_why (L : List VV) (h : (encR L).2 ≠ 0) : (L.all VV.valid = false) ∨ (encR L).2 = 4 := by
  unfold encR at h ⊢
  split at h
  · rename_i hv
    rw [if_pos hv]
    split at h
    · exact absurd rfl h
    · rename_i hl
      rw [if_neg hl]
      exact .inr rfl
  · rename_i hv
    exact .inl (by simpa using hv)
theorem all_take_succ {L : List VV} {j : Nat} (h : j < L.length) : (L.take (j + 1)).all VV.valid = ((L.take j).all VV.valid && (L.getD j VV.zero).valid) := by
  rw [List.take_succ_eq_append_getElem h, List.all_append]
  simp [List.getD, h]
set_option maxHeartbeats 3200000 in
theorem tupleReturns_any (w : World) (a : Option Addr) (n cap : Nat) (L : List VV) (hL : Rs w a L) (hn : n = L.length) :
    Calls Try.prog 8 #[.slice a n cap] w fun e w' => e = .returned (.bool true) ∧ Below w.heap.size w w' := by
  subst hn
  have hlen := hL.2.1
  have HL := hide hL
  have WK := hide works_any
  have DV := hide dValid_any
  have DS := hide dSame_any
  have BT := hide bits_any
  have HWH := hide (encR_why L)
  have HRE := hide (returns L hL.1)
  have HLT := hide (encR_lt L hL.1)
  have EN := hide (fun W g (h : Ls W g L) => tEncode_any W (some ⟨g, 0, none⟩) L.length (L.length + 2) L (h.ps hL.1 hL.2.1) rfl)
  clear hL
  generalize (encR L).1 = l at *
  generalize (encR L).2 = c at *
  go_enter Try.func8, Try.ntmps8
  go_wp2_with fail
  refine (WK.out _).mono ?_
  rintro e w1 ⟨rfl, hb1⟩
  have L1 := hide (list_any w1 a L.length cap L (HL.out.keep hb1) rfl)
  have B1 := hide hb1
  clear hb1 WK
  go_wp2_with fail
  refine L1.out.mono ?_
  rintro e w2 ⟨rfl, hl2, hb2⟩
  have E2 := hide (EN.out w2 w1.heap.size hl2)
  have B2 := hide (bt B1.out hb2)
  clear hl2 hb2 EN L1 B1
  generalize w1.heap.size = gx at *
  go_wp2_with fail
  refine E2.out.mono ?_
  rintro e w3 ⟨a3, c3, rfl, h3⟩
  have B3 := hide (bt B2.out h3.b)
  have H3 := hide h3
  clear h3 E2 B2
  by_cases hc : c = 0
  · subst hc
    obtain ⟨hdec, hl4⟩ := HRE.out rfl
    have DE := tDecode_any w3 a3 l.length c3 l (H3.out.r.bs HLT.out.1 (by omega)) (by rcases H3.out.r.cases with ⟨_, _, h⟩ | ⟨_, _, _, _, h, _⟩; subst h; simp; exact h) rfl
    rw [hdec] at DE
    dsimp only at DE
    have HLE : Hid ((L.map VV.same).length = L.length) := List.length_map ..
    have HGE := hide (fun j (h : j < L.length) => show (L.map VV.same).getD j VV.zero = (L.getD j VV.zero).same by simp [List.getD, h])
    generalize L.map VV.same = M at *
    rw [HLE.out] at DE
    have DE := hide DE
    have hl4i : ¬ (4096 : Int) < (l.length : Int) := by omega
    clear HWH HRE HLT hdec
    go_wp2_with fail
    refine DE.out.mono ?_
    rintro e w4 ⟨a4, c4, rfl, h4, hok4⟩
    have B4 := hide (bt B3.out h4.b)
    have HP := hide (h4.r.read hok4 (by rw [HLE.out]; exact hlen))
    have HL4 := hide (HL.out.keep B4.out)
    clear h4 hok4 DE H3 B3
    go_wp2
    go_loopw [9] (fun i wx => ∃ j : Nat, j ≤ L.length ∧ i = .int .i64 (j : Int) ∧ Below w4.heap.size w4 wx) (fun i _ => L.length - (intOf i).toNat)
    case atStart => exact ⟨0, Nat.zero_le _, rfl, Below.refl _ _⟩
    case round =>
      obtain ⟨j, hj, rfl, hG⟩ := hrel
      have HG := hide hG
      clear hG
      by_cases hlt : j < L.length
      · have hi : (j : Int) < (L.length : Int) := by omega
        have hok := HL.out.1 _ (getD_mem hlt)
        obtain ⟨b, off, rfl, hc⟩ := (HP.out.keep HG.out).at (r := j) (by rw [HLE.out]; exact hlt)
        rw [HGE.out j hlt] at hc
        obtain ⟨b2, off2, rfl, hc2⟩ := (HL4.out.keep HG.out).at hlt
        generalize L.getD j VV.zero = x at *
        have DSx := fun W => DS.out W x hok
        rw [rc_eq' x] at DSx
        generalize x.same = y at *
        have DSx := hide DSx
        have BTx := hide (fun W => BT.out W y)
        unfold VV.pc at BTx
        have hne := neq_same y
        have ST0 : Hid (RT w4 (World.drew wr) b (off + j * 6) b2 (off2 + j * 7) y x) := ⟨(World.rangeAt_drew _ _ _ _).2 hc, (World.rangeAt_drew _ _ _ _).2 hc2, HG.out.drew⟩
        clear hc hc2 hok DS BT
        go_wp2
        go_region_held3 (fun w' => (w'.cell? ⟨b, off + j * 6, none⟩ = some (.int .i64 y.kind) ∧ w'.cell? ⟨b, off + j * 6 + 1, none⟩ = some (.bool y.bool) ∧ w'.cell? ⟨b, off + j * 6 + 2, none⟩ = some (.int .i64 y.int) ∧ w'.cell? ⟨b, off + j * 6 + 3, none⟩ = some (.float .f64 y.real) ∧ w'.cell? ⟨b, off + j * 6 + 4, none⟩ = some (.complex .f64 y.re y.im) ∧ w'.cell? ⟨b, off + j * 6 + 5, none⟩ = some (.string y.text)) ∧ (w'.cell? ⟨b2, off2 + j * 7, none⟩ = some (.int .i64 x.kind) ∧ w'.cell? ⟨b2, off2 + j * 7 + 1, none⟩ = some (.bool x.bool) ∧ w'.cell? ⟨b2, off2 + j * 7 + 2, none⟩ = some (.int .i64 x.int) ∧ w'.cell? ⟨b2, off2 + j * 7 + 3, none⟩ = some (.int .u64 (x.real : Int)) ∧ w'.cell? ⟨b2, off2 + j * 7 + 4, none⟩ = some (.int .u64 (x.re : Int)) ∧ w'.cell? ⟨b2, off2 + j * 7 + 5, none⟩ = some (.int .u64 (x.im : Int)) ∧ w'.cell? ⟨b2, off2 + j * 7 + 6, none⟩ = some (.string x.text)))
          (first | exact ST0.out.s | exact ST1.out.s | exact ST2.out.s)
          (first | (go_at_call 12; refine (BTx.out _).mono ?_; rintro e w5 ⟨rfl, hb⟩; have ST1 := hide (ST0.out.keep hb); clear hb) | (go_at_call 14; refine (DSx.out _).mono ?_; rintro e w6 ⟨rfl, hb⟩; have ST2 := hide (ST1.out.keep hb); clear hb))
        go_wp2
        exact ⟨⟨j + 1, by omega, congrArg (Value.int IntKind.i64) (by omega), ST2.out.u⟩, by simp [intOf]; omega⟩
      · obtain rfl : j = L.length := by omega
        go_wp2
        go_ret
        exact ⟨rfl, bt B4.out HG.out⟩
  · have hc1 : (c != 0) = true := bne_iff_ne.2 hc
    have HW := hide (HWH.out hc)
    clear HRE HLT HWH DS BT H3 hc
    go_wp2
    go_loopw [5, 6] (fun v i wx => ∃ j : Nat, j ≤ L.length ∧ i = .int .i64 (j : Int) ∧ v = .bool ((L.take j).all VV.valid) ∧ Below w.heap.size w wx) (fun _ i _ => L.length - (intOf i).toNat)
    case atStart => exact ⟨0, Nat.zero_le _, rfl, rfl, B3.out⟩
    case round =>
      obtain ⟨j, hj, rfl, rfl, hG⟩ := hrel
      have HG := hide hG
      clear hG
      by_cases hlt : j < L.length
      · have hi : (j : Int) < (L.length : Int) := by omega
        obtain ⟨b2, off2, rfl, hc2⟩ := (HL.out.keep HG.out).at hlt
        have HAT := hide (all_take_succ hlt)
        generalize L.getD j VV.zero = x at *
        have HC := hide hc2
        have DVx := hide (fun W => DV.out W x)
        clear hc2 DV
        generalize (L.take j).all VV.valid = bv at *
        cases bv with
        | true =>
          obtain ⟨s0, s1, s2, s3, s4, s5, s6⟩ := seven HC.out
          unfold VV.rc at DVx
          generalize x.valid = bx at *
          cases bx with
          | true =>
            go_wp2_with fail
            refine (DVx.out _).mono ?_
            rintro e w5 ⟨rfl, o5, rfl⟩
            go_wp2
            go_roundw
            case rel => exact ⟨j + 1, by omega, congrArg (Value.int IntKind.i64) (by omega), by rw [HAT.out]; simp, bt HG.out (al _ _)⟩
            case measure => simp [intOf]; omega
          | false =>
            go_wp2_with fail
            refine (DVx.out _).mono ?_
            rintro e w5 ⟨rfl, o5, rfl⟩
            go_wp2
            go_roundw
            case rel => exact ⟨j + 1, by omega, congrArg (Value.int IntKind.i64) (by omega), by rw [HAT.out]; simp, bt HG.out (al _ _)⟩
            case measure => simp [intOf]; omega
        | false =>
          go_wp2
          go_roundw
          case rel => exact ⟨j + 1, by omega, congrArg (Value.int IntKind.i64) (by omega), by rw [HAT.out]; simp, HG.out⟩
          case measure => simp [intOf]; omega
      · obtain rfl : j = L.length := by omega
        rw [List.take_length]
        rcases HW.out with h | h
        · rw [h]
          go_wp2
          go_ret
          exact ⟨rfl, HG.out⟩
        · generalize L.all VV.valid = bv at *
          subst h
          cases bv with
          | true =>
            go_wp2
            go_ret
            exact ⟨rfl, HG.out⟩
          | false =>
            go_wp2
            go_ret
            exact ⟨rfl, HG.out⟩
end Go.Proofs.Ythfcgfdboienkaa
