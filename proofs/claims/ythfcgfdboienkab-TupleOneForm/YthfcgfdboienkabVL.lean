import Derived.Test.YthfcgfdboienkabVK
import Derived.Laws.StructEq
namespace Go.Proofs.Ythfcgfdboienkab
open Go.RowKit

set_option maxHeartbeats 1600000 in
theorem neq_same (v : VV) (w : World) : (binOp .neq 52 (.agg v.rc) (.agg v.rc)).run Try.prog w = .ok (.bool false) w := by
  unfold VV.rc
  simp [binOp, Op.equal, Op.maxDepth, go_sem]
set_option maxHeartbeats 1600000 in
theorem like_same (w : World) (a a2 : Option Addr) (n n2 cap cap2 : Nat) (L : List VV) (hP : Ps w a L) (hR : Rs w a2 L) (hn : n = L.length) (hn2 : n2 = L.length) :
    Calls Try.prog 24 #[.slice a n cap, .slice a2 n2 cap2] w fun e w' => e = .returned (.bool true) ∧ Below w.heap.size w w' := by
  subst hn hn2
  have hlen := hP.2.1
  have B := hide bits_any
  have HP := hide hP
  have HR := hide hR
  clear hP hR
  go_enter Try.func24, Try.ntmps24
  go_wp2
  go_loopw [5] (fun i wx => ∃ j : Nat, j ≤ L.length ∧ i = .int .i64 j ∧ Below w.heap.size w wx) (fun i _ => L.length - (intOf i).toNat)
  case atStart => exact ⟨0, Nat.zero_le _, rfl, Below.refl _ _⟩
  case round =>
    obtain ⟨j, hj, rfl, hG⟩ := hrel
    have HG := hide hG
    clear hG
    by_cases hlt : j < L.length
    · have hi : (j : Int) < (L.length : Int) := by omega
      obtain ⟨b, off, rfl, hc⟩ := (HP.out.keep HG.out).at hlt
      obtain ⟨b2, off2, rfl, hc2⟩ := (HR.out.keep HG.out).at hlt
      generalize L.getD j VV.zero = v at *
      have HC := hide hc
      have HC2 := hide hc2
      clear hc hc2
      have hne := neq_same v
      unfold VV.rc at hne
      unfold VV.pc VV.rc at B
      go_wp2
      go_region_held3 (fun w' => (w'.cell? ⟨b, off + j * 6, none⟩ = some (.int .i64 v.kind) ∧ w'.cell? ⟨b, off + j * 6 + 1, none⟩ = some (.bool v.bool) ∧ w'.cell? ⟨b, off + j * 6 + 2, none⟩ = some (.int .i64 v.int) ∧ w'.cell? ⟨b, off + j * 6 + 3, none⟩ = some (.float .f64 v.real) ∧ w'.cell? ⟨b, off + j * 6 + 4, none⟩ = some (.complex .f64 v.re v.im) ∧ w'.cell? ⟨b, off + j * 6 + 5, none⟩ = some (.string v.text)) ∧ (w'.cell? ⟨b2, off2 + j * 7, none⟩ = some (.int .i64 v.kind) ∧ w'.cell? ⟨b2, off2 + j * 7 + 1, none⟩ = some (.bool v.bool) ∧ w'.cell? ⟨b2, off2 + j * 7 + 2, none⟩ = some (.int .i64 v.int) ∧ w'.cell? ⟨b2, off2 + j * 7 + 3, none⟩ = some (.int .u64 (v.real : Int)) ∧ w'.cell? ⟨b2, off2 + j * 7 + 4, none⟩ = some (.int .u64 (v.re : Int)) ∧ w'.cell? ⟨b2, off2 + j * 7 + 5, none⟩ = some (.int .u64 (v.im : Int)) ∧ w'.cell? ⟨b2, off2 + j * 7 + 6, none⟩ = some (.string v.text)))
        (first | exact ⟨six ((World.rangeAt_drew _ _ _ _).2 HC.out), seven ((World.rangeAt_drew _ _ _ _).2 HC2.out)⟩ | exact HK.out)
        (first | (go_at_call 20; refine (B.out _ v).mono ?_; rintro e w1 ⟨rfl, hb1⟩; have HK := hide (And.intro (six (range_below ((World.rangeAt_drew _ _ _ _).2 HC.out) hb1)) (seven (range_below ((World.rangeAt_drew _ _ _ _).2 HC2.out) hb1))); have HB1 := hide (bt HG.out.drew hb1); clear hb1))
      go_wp2
      exact ⟨⟨j + 1, by omega, congrArg (Value.int IntKind.i64) (by omega), HB1.out⟩, by simp [intOf]; omega⟩
    · obtain rfl : j = L.length := by omega
      go_wp2
      go_ret
      exact ⟨rfl, HG.out⟩
set_option maxHeartbeats 1600000 in
theorem kept_any (w : World) (g : Nat) (a2 : Option Addr) (n n2 N cap2 : Nat) (L : List VV) (hL : Ls w g L) (hR : Rs w a2 L) (hn : n = L.length) (hn2 : n2 = L.length) (hN : N = L.length + 2) :
    Calls Try.prog 18 #[.slice (some ⟨g, 0, none⟩) n N, .slice a2 n2 cap2] w fun e w' => e = .returned (.bool true) ∧ Below w.heap.size w w' := by
  subst hn hn2
  have hlen := hR.2.1
  have hadd : IntKind.i64.wrap ((L.length : Int) + 2) = (N : Int) := by rw [wrapI (by omega) (by omega)]; omega
  have LK := hide (like_same w (some ⟨g, 0, none⟩) a2 L.length L.length N cap2 L (hL.ps hR.1 hR.2.1) hR rfl rfl)
  have HL := hide hL
  have B := hide bits_any
  have M := hide mark_any
  have HN := hide hN
  have hNb : N ≤ 2199023255554 := by omega
  have hI1 : (0 : Int) ≤ (N : Int) := by omega
  clear hL hR hN
  go_enter Try.func18, Try.ntmps18
  go_wp2_with fail
  refine LK.out.mono ?_
  rintro e w0 ⟨rfl, hb0⟩
  have HB0 := hide hb0
  clear hb0
  go_wp2
  go_loopw [6] (fun i wx => ∃ j : Nat, L.length ≤ j ∧ j ≤ N ∧ i = .int .i64 j ∧ Below w.heap.size w wx) (fun i _ => N - (intOf i).toNat)
  case atStart => exact ⟨L.length, Nat.le_refl _, by have := HN.out; omega, rfl, HB0.out⟩
  case round =>
    obtain ⟨j, hlj, hj, rfl, hG⟩ := hrel
    have HG := hide hG
    clear hG
    by_cases hlt : j < N
    · have hi : (j : Int) < (N : Int) := by omega
      have hc := (HL.out.keep HG.out).2 j (by have := HN.out; omega)
      have hv : lf L j = mk j := by unfold lf; rw [if_neg (by omega)]
      rw [hv] at hc
      have HC := hide hc
      have MJ := hide (fun W => M.out W j (by omega))
      have hj64 : j ≤ 9223372036854775000 := by omega
      clear hc hv M
      generalize mk j = v at *
      have hne := neq_same v
      go_wp2_with (refine wpList_load_mid rfl 48 _ rfl g _ rfl v.pc.toList _ HC.out Try.underlying48 rfl sizeVal ?_)
      refine (B.out _ v).mono ?_
      rintro e w1 ⟨rfl, hb1⟩
      have HB1 := hide (bt HG.out hb1)
      clear hb1
      go_wp2_with fail
      refine (MJ.out _).mono ?_
      rintro e w2 ⟨rfl, hb2⟩
      have HB2 := hide (bt HB1.out hb2)
      clear hb2
      go_wp2_with fail
      refine (B.out _ v).mono ?_
      rintro e w3 ⟨rfl, hb3⟩
      have HB3 := hide (bt HB2.out hb3)
      clear hb3
      go_wp2
      go_roundw
      case rel => exact ⟨j + 1, by omega, by omega, by go_num, HB3.out⟩
      case measure => simp [intOf]; omega
    · obtain rfl : N = j := by omega
      go_wp2
      go_ret
      exact ⟨rfl, HG.out⟩
end Go.Proofs.Ythfcgfdboienkab
