import Derived.Test.YthfcgfdboienkaaVK
import Derived.Test.YthfcgfdboienkaaVI
namespace Go.Proofs.Ythfcgfdboienkaa
open Go.RowKit

set_option maxHeartbeats 1600000 in
theorem dCompare_any (w : World) (a a2 : Option Addr) (n m cap cap2 : Nat) (L K : List VV) (hL : Rs w a L) (hK : Rs w a2 K) (hn : n = L.length) (hm : m = K.length) :
    Calls Try.prog 18 #[.slice a n cap, .slice a2 m cap2] w fun e w' => e = .returned (.int .i64 (cmpL L K)) ∧ Below w.heap.size w w' := by
  subst hn hm
  have hlen := hL.2.1
  have hlen2 := hK.2.1
  have VS := hide dvalues_any
  have IN := hide dints_any
  have HL := hide hL
  have HK := hide hK
  clear hL hK
  go_enter Try.func18, Try.ntmps18
  go_wp2
  go_loopw [5] (fun i wx => ∃ j : Nat, j ≤ L.length ∧ j ≤ K.length ∧ i = .int .i64 j ∧ (Below w.heap.size w wx ∧ cmpL (L.drop j) (K.drop j) = cmpL L K)) (fun i _ => L.length - (intOf i).toNat)
  case atStart => exact ⟨0, Nat.zero_le _, Nat.zero_le _, rfl, Below.refl _ _, rfl⟩
  case round =>
    obtain ⟨j, hj, hj2, rfl, hG⟩ := hrel
    have HG := hide hG
    clear hG
    by_cases hlt : j < L.length
    · by_cases hlt2 : j < K.length
      · have hi : (j : Int) < (L.length : Int) := by omega
        have hi2 : (j : Int) < (K.length : Int) := by omega
        have HS := hide (cmpL_drop L K j hlt hlt2)
        have ok1 := HL.out.1 _ (getD_mem hlt)
        have ok2 := HK.out.1 _ (getD_mem hlt2)
        obtain ⟨b, off, rfl, hc⟩ := (HL.out.keep HG.out.1).at hlt
        obtain ⟨b2, off2, rfl, hc2⟩ := (HK.out.keep HG.out.1).at hlt2
        have hj1 := w64 (j := j) (by omega)
        generalize L.getD j VV.zero = x at *
        generalize K.getD j VV.zero = y at *
        have VXY := hide (fun W => VS.out W x y ok1 ok2)
        have HC := hide hc
        have HC2 := hide hc2
        clear hc hc2 VS ok1 ok2
        unfold VV.rc at VXY
        by_cases hz : VV.cmp x y = 0
        · have HE : Hid (cmpL (L.drop (j + 1)) (K.drop (j + 1)) = cmpL L K) := by rw [← HG.out.2, HS.out, if_neg (by simp [hz])]; exact rfl
          rw [hz] at VXY
          clear HS hz
          go_wp2
          go_region_held3 (fun w' => (w'.cell? ⟨b, off + j * 7, none⟩ = some (.int .i64 x.kind) ∧ w'.cell? ⟨b, off + j * 7 + 1, none⟩ = some (.bool x.bool) ∧ w'.cell? ⟨b, off + j * 7 + 2, none⟩ = some (.int .i64 x.int) ∧ w'.cell? ⟨b, off + j * 7 + 3, none⟩ = some (.int .u64 (x.real : Int)) ∧ w'.cell? ⟨b, off + j * 7 + 4, none⟩ = some (.int .u64 (x.re : Int)) ∧ w'.cell? ⟨b, off + j * 7 + 5, none⟩ = some (.int .u64 (x.im : Int)) ∧ w'.cell? ⟨b, off + j * 7 + 6, none⟩ = some (.string x.text)) ∧ (w'.cell? ⟨b2, off2 + j * 7, none⟩ = some (.int .i64 y.kind) ∧ w'.cell? ⟨b2, off2 + j * 7 + 1, none⟩ = some (.bool y.bool) ∧ w'.cell? ⟨b2, off2 + j * 7 + 2, none⟩ = some (.int .i64 y.int) ∧ w'.cell? ⟨b2, off2 + j * 7 + 3, none⟩ = some (.int .u64 (y.real : Int)) ∧ w'.cell? ⟨b2, off2 + j * 7 + 4, none⟩ = some (.int .u64 (y.re : Int)) ∧ w'.cell? ⟨b2, off2 + j * 7 + 5, none⟩ = some (.int .u64 (y.im : Int)) ∧ w'.cell? ⟨b2, off2 + j * 7 + 6, none⟩ = some (.string y.text)))
            (first | exact ⟨seven ((World.rangeAt_drew _ _ _ _).2 HC.out), seven ((World.rangeAt_drew _ _ _ _).2 HC2.out)⟩ | exact HK2.out)
            (first | (go_at_call 39; refine (VXY.out _).mono ?_; rintro e w1 ⟨rfl, hb1⟩; have HK2 := hide (And.intro (seven (range_below ((World.rangeAt_drew _ _ _ _).2 HC.out) hb1)) (seven (range_below ((World.rangeAt_drew _ _ _ _).2 HC2.out) hb1))); have HB1 := hide (bt HG.out.1.drew hb1); clear hb1))
          go_wp2
          exact ⟨⟨j + 1, by omega, by omega, congrArg (Value.int IntKind.i64) (by omega), HB1.out, HE.out⟩, by simp [intOf]; omega⟩
        · have HE : Hid (VV.cmp x y = cmpL L K) := by rw [← HG.out.2, HS.out, if_pos hz]; exact rfl
          have hz2 := eqf hz
          clear HS hz
          generalize VV.cmp x y = c at *
          go_wp2
          go_region_held3 (fun w' => (w'.cell? ⟨b, off + j * 7, none⟩ = some (.int .i64 x.kind) ∧ w'.cell? ⟨b, off + j * 7 + 1, none⟩ = some (.bool x.bool) ∧ w'.cell? ⟨b, off + j * 7 + 2, none⟩ = some (.int .i64 x.int) ∧ w'.cell? ⟨b, off + j * 7 + 3, none⟩ = some (.int .u64 (x.real : Int)) ∧ w'.cell? ⟨b, off + j * 7 + 4, none⟩ = some (.int .u64 (x.re : Int)) ∧ w'.cell? ⟨b, off + j * 7 + 5, none⟩ = some (.int .u64 (x.im : Int)) ∧ w'.cell? ⟨b, off + j * 7 + 6, none⟩ = some (.string x.text)) ∧ (w'.cell? ⟨b2, off2 + j * 7, none⟩ = some (.int .i64 y.kind) ∧ w'.cell? ⟨b2, off2 + j * 7 + 1, none⟩ = some (.bool y.bool) ∧ w'.cell? ⟨b2, off2 + j * 7 + 2, none⟩ = some (.int .i64 y.int) ∧ w'.cell? ⟨b2, off2 + j * 7 + 3, none⟩ = some (.int .u64 (y.real : Int)) ∧ w'.cell? ⟨b2, off2 + j * 7 + 4, none⟩ = some (.int .u64 (y.re : Int)) ∧ w'.cell? ⟨b2, off2 + j * 7 + 5, none⟩ = some (.int .u64 (y.im : Int)) ∧ w'.cell? ⟨b2, off2 + j * 7 + 6, none⟩ = some (.string y.text)))
            (first | exact ⟨seven ((World.rangeAt_drew _ _ _ _).2 HC.out), seven ((World.rangeAt_drew _ _ _ _).2 HC2.out)⟩ | exact HK2.out)
            (first | (go_at_call 39; refine (VXY.out _).mono ?_; rintro e w1 ⟨rfl, hb1⟩; have HK2 := hide (And.intro (seven (range_below ((World.rangeAt_drew _ _ _ _).2 HC.out) hb1)) (seven (range_below ((World.rangeAt_drew _ _ _ _).2 HC2.out) hb1))); have HB1 := hide (bt HG.out.1.drew hb1); clear hb1))
          go_wp2
          go_ret
          exact ⟨by rw [← HE.out]; first | done | rfl, HB1.out⟩
      · have hi : (j : Int) < (L.length : Int) := by omega
        have hi2 : ¬ (j : Int) < (K.length : Int) := by omega
        have HE : Hid (cmpZ L.length K.length = cmpL L K) := by rw [← HG.out.2, cmpL_end L K j (.inr (by omega)) hj hj2]; exact rfl
        go_wp2_with fail
        refine (IN.out _ _ _).mono ?_
        rintro e w1 ⟨rfl, rfl⟩
        go_wp2
        go_ret
        exact ⟨by rw [← HE.out]; first | done | rfl, HG.out.1⟩
    · have hi : ¬ (j : Int) < (L.length : Int) := by omega
      have HE : Hid (cmpZ L.length K.length = cmpL L K) := by rw [← HG.out.2, cmpL_end L K j (.inl (by omega)) hj hj2]; exact rfl
      go_wp2_with fail
      refine (IN.out _ _ _).mono ?_
      rintro e w1 ⟨rfl, rfl⟩
      go_wp2
      go_ret
      exact ⟨by rw [← HE.out]; first | done | rfl, HG.out.1⟩

set_option maxHeartbeats 1600000 in
theorem CompareFunc_any (w : World) (a a2 : Option Addr) (n m cap cap2 : Nat) (L K : List VV) (hL : Ps w a L) (hK : Ps w a2 K) (hn : n = L.length) (hm : m = K.length) :
    Calls Try.prog 37 #[.slice a n cap, .slice a2 m cap2, .func (.func 38) #[] #[]] w fun e w' => e = .returned (.int .i64 (cmpL L K)) ∧ Below w.heap.size w w' := by
  subst hn hm
  have hlen := hL.2.1
  have hlen2 := hK.2.1
  have VS := hide compareValues_any
  have sf := st_float
  have sc := st_complex
  have HL := hide hL
  have HK := hide hK
  clear hL hK
  go_enter Try.func37, Try.ntmps37
  go_wp2
  go_loopw [13] (fun i wx => ∃ j : Nat, j ≤ L.length ∧ j ≤ K.length ∧ i = .int .i64 j ∧ (Below w.heap.size w wx ∧ cmpL (L.drop j) (K.drop j) = cmpL L K)) (fun i _ => L.length - (intOf i).toNat)
  case atStart => exact ⟨0, Nat.zero_le _, Nat.zero_le _, rfl, Below.refl _ _, rfl⟩
  case round =>
    obtain ⟨j, hj, hj2, rfl, hG⟩ := hrel
    have HG := hide hG
    clear hG
    by_cases hlt : j < L.length
    · have hi : (j : Int) < (L.length : Int) := by omega
      have ok1 := HL.out.1 _ (getD_mem hlt)
      obtain ⟨b, off, rfl, hc⟩ := (HL.out.keep HG.out.1).at hlt
      have hj1 := w64 (j := j) (by omega)
      by_cases hlt2 : j < K.length
      · have hi2 : (j : Int) < (K.length : Int) := by omega
        have HS := hide (cmpL_drop L K j hlt hlt2)
        have ok2 := HK.out.1 _ (getD_mem hlt2)
        obtain ⟨b2, off2, rfl, hc2⟩ := (HK.out.keep HG.out.1).at hlt2
        generalize L.getD j VV.zero = x at *
        generalize K.getD j VV.zero = y at *
        have VXY := hide (fun W => VS.out W x y ok1 ok2)
        have HC : Hid (wr.rangeAt b (off + j * 6) [.int .i64 x.kind, .bool x.bool, .int .i64 x.int, .float .f64 x.real, .complex .f64 x.re x.im, .string x.text]) := hc
        have HC2 : Hid (wr.rangeAt b2 (off2 + j * 6) [.int .i64 y.kind, .bool y.bool, .int .i64 y.int, .float .f64 y.real, .complex .f64 y.re y.im, .string y.text]) := hc2
        unfold VV.pc at VXY
        clear hc hc2 VS ok1 ok2
        by_cases hz : VV.cmp x y = 0
        · have HE : Hid (cmpL (L.drop (j + 1)) (K.drop (j + 1)) = cmpL L K) := by rw [← HG.out.2, HS.out, if_neg (by simp [hz])]; exact rfl
          rw [hz] at VXY
          clear HS hz
          go_wp2_with (first | (refine wpList_load_mid rfl 26 _ rfl b _ rfl [.int .i64 x.kind, .bool x.bool, .int .i64 x.int, .float .f64 x.real, .complex .f64 x.re x.im, .string x.text] _ (by first | exact HC.out | exact range_below HC.out ((Below.refl _ _).alloc (Nat.le_refl _) _)) Try.underlying26 rfl sizeVal ?_) | (refine wpList_load_mid rfl 26 _ rfl b2 _ rfl [.int .i64 y.kind, .bool y.bool, .int .i64 y.int, .float .f64 y.real, .complex .f64 y.re y.im, .string y.text] _ (by first | exact HC2.out | exact range_below HC2.out ((Below.refl _ _).alloc (Nat.le_refl _) _)) Try.underlying26 rfl sizeVal ?_))
          refine (VXY.out _).mono ?_
          rintro e w1 ⟨rfl, hb1⟩
          have HB1 := hide (bt ((HG.out.1.alloc HG.out.1.size _).alloc (by rw [size_alloc]; have := HG.out.1.size; omega) _) hb1)
          clear hb1
          go_wp2
          go_roundw
          case rel => exact ⟨j + 1, by omega, by omega, by first | go_num | exact congrArg (Value.int IntKind.i64) (by omega), HB1.out, HE.out⟩
          case measure => simp [intOf]; omega
        · have HE : Hid (VV.cmp x y = cmpL L K) := by rw [← HG.out.2, HS.out, if_pos hz]; exact rfl
          have hz2 := eqf hz
          clear HS hz
          generalize VV.cmp x y = c at *
          go_wp2_with (first | (refine wpList_load_mid rfl 26 _ rfl b _ rfl [.int .i64 x.kind, .bool x.bool, .int .i64 x.int, .float .f64 x.real, .complex .f64 x.re x.im, .string x.text] _ (by first | exact HC.out | exact range_below HC.out ((Below.refl _ _).alloc (Nat.le_refl _) _)) Try.underlying26 rfl sizeVal ?_) | (refine wpList_load_mid rfl 26 _ rfl b2 _ rfl [.int .i64 y.kind, .bool y.bool, .int .i64 y.int, .float .f64 y.real, .complex .f64 y.re y.im, .string y.text] _ (by first | exact HC2.out | exact range_below HC2.out ((Below.refl _ _).alloc (Nat.le_refl _) _)) Try.underlying26 rfl sizeVal ?_))
          refine (VXY.out _).mono ?_
          rintro e w1 ⟨rfl, hb1⟩
          have HB1 := hide (bt ((HG.out.1.alloc HG.out.1.size _).alloc (by rw [size_alloc]; have := HG.out.1.size; omega) _) hb1)
          clear hb1
          go_wp2
          go_ret
          exact ⟨by rw [← HE.out]; first | done | rfl, HB1.out⟩
      · have hi2 : (K.length : Int) ≤ (j : Int) := by omega
        have HE : Hid (1 = cmpL L K) := by rw [← HG.out.2, cmpL_end L K j (.inr (by omega)) hj hj2]; unfold cmpZ; rw [if_neg (by omega), if_pos (by omega)]; exact rfl
        generalize L.getD j VV.zero = x at *
        have HC : Hid (wr.rangeAt b (off + j * 6) [.int .i64 x.kind, .bool x.bool, .int .i64 x.int, .float .f64 x.real, .complex .f64 x.re x.im, .string x.text]) := hc
        clear hc VS ok1
        go_wp2_with (refine wpList_load_mid rfl 26 _ rfl b _ rfl [.int .i64 x.kind, .bool x.bool, .int .i64 x.int, .float .f64 x.real, .complex .f64 x.re x.im, .string x.text] _ (by first | exact HC.out | exact range_below HC.out ((Below.refl _ _).alloc (Nat.le_refl _) _)) Try.underlying26 rfl sizeVal ?_)
        go_ret
        exact ⟨by rw [← HE.out]; first | done | rfl, HG.out.1.alloc HG.out.1.size _⟩
    · obtain rfl : j = L.length := by omega
      by_cases h1 : L.length < K.length
      · have hi2 : (L.length : Int) < (K.length : Int) := by omega
        have HE : Hid (-1 = cmpL L K) := by rw [← HG.out.2, cmpL_end L K _ (.inl (Nat.le_refl _)) hj hj2]; unfold cmpZ; rw [if_pos (by omega)]; exact rfl
        go_wp2
        go_ret
        exact ⟨by rw [← HE.out]; first | done | rfl, HG.out.1⟩
      · have hi2 : ¬ (L.length : Int) < (K.length : Int) := by omega
        have HE : Hid (0 = cmpL L K) := by rw [← HG.out.2, cmpL_end L K _ (.inl (Nat.le_refl _)) hj hj2]; unfold cmpZ; rw [if_neg (by omega), if_neg (by omega)]; exact rfl
        go_wp2
        go_ret
        exact ⟨by rw [← HE.out]; first | done | rfl, HG.out.1⟩
theorem tCompare_any (w : World) (a a2 : Option Addr) (n m cap cap2 : Nat) (L K : List VV) (hL : Ps w a L) (hK : Ps w a2 K) (hn : n = L.length) (hm : m = K.length) :
    Calls Try.prog 17 #[.slice a n cap, .slice a2 m cap2] w fun e w' => e = .returned (.int .i64 (cmpL L K)) ∧ Below w.heap.size w w' := by
  have R := hide (CompareFunc_any w a a2 n m cap cap2 L K hL hK hn hm)
  clear hL hK hn hm
  go_enter Try.func17, Try.ntmps17
  go_wp2_with fail
  refine R.out.mono ?_
  rintro e w1 ⟨rfl, hb⟩
  go_wp2
  go_ret
  exact ⟨rfl, hb⟩
end Go.Proofs.Ythfcgfdboienkaa
