import Derived.Test.YtifhkfghjifecaaJG
namespace Go.Proofs.Ytifhkfghjifecaa
open Go.RowKit

/-! ### the document's Check -/
set_option maxRecDepth 8000 in
set_option maxHeartbeats 6400000 in
theorem rCheck_cfg (w : World) (s : Su) (a : Option Addr) (c : Nat) (hI : Js w a s.rs) (h1 : mayB s.bl s.cl s.rf = false) :
    Calls Try.prog 21 #[suv s a c] w fun y w' => y = .returned (.int .i64 (chE s : Int)) ∧ Below w.heap.size w w' := by
  have HA := hide (al w (.cells (suC s a c) 28))
  have HB := hide (Bx.new w 28 (suC s a c))
  have HI := hide hI
  have HR : Hid ((w.alloc (.cells (suC s a c) 28)).rangeAt w.heap.size 1 [.int .i64 s.bl, .int .i64 s.cl, .int .i64 s.rf]) := World.rangeAt_of_block (Bx.new w 28 (suC s a c)) 1 3
  have PL := hide fun w1 => rPlan_any w1 s.bl s.cl s.rf
  have hE : chE s = 1 := by unfold chE; rw [if_pos h1]
  rw [hE]
  unfold plA plE cfv plv at PL
  rw [h1] at PL
  simp only [Bool.false_eq_true, ↓reduceIte] at PL
  unfold suv suC at *
  clear hI
  go_enter Try.func21, Try.ntmps21
  go_wp2_with (first | (refine wpList_load_mid rfl 25 _ rfl w.heap.size 1 rfl _ _ HR.out Try.underlying25 rfl sizeCfg ?_))
  refine (PL.out _).mono ?_
  rintro y w1 ⟨rfl, hb⟩
  have HL := hide (bt HA.out hb)
  clear hb HA HR PL
  go_wp2
  go_ret
  exact ⟨rfl, HL.out.alloc HL.out.size _⟩
set_option maxRecDepth 8000 in
set_option maxHeartbeats 6400000 in
theorem rCheck_limg0 (w : World) (s : Su) (a : Option Addr) (c : Nat) (hI : Js w a s.rs) (h1 : mayB s.bl s.cl s.rf = true)  (c0 : s.gen < 0) :
    Calls Try.prog 21 #[suv s a c] w fun y w' => y = .returned (.int .i64 (chE s : Int)) ∧ Below w.heap.size w w' := by
  have HA := hide (al w (.cells (suC s a c) 28))
  have HB := hide (Bx.new w 28 (suC s a c))
  have HI := hide hI
  have HR : Hid ((w.alloc (.cells (suC s a c) 28)).rangeAt w.heap.size 1 [.int .i64 s.bl, .int .i64 s.cl, .int .i64 s.rf]) := World.rangeAt_of_block (Bx.new w 28 (suC s a c)) 1 3
  have PL := hide fun w1 => rPlan_any w1 s.bl s.cl s.rf
  have hE : chE s = 4 := by
    unfold chE
    rw [if_neg (by rw [h1]; simp), if_pos]
    exact Bool.eq_false_iff.2 fun h => by have := lim_iff.1 h; omega
  rw [hE]
  have d0 : decide (s.gen < 0) = true := by simpa using c0
  unfold plA plE cfv plv at PL
  rw [h1] at PL
  simp only [↓reduceIte] at PL
  unfold suv suC at *
  clear hI
  go_enter Try.func21, Try.ntmps21
  go_wp2_with (first | (refine wpList_load_mid rfl 25 _ rfl w.heap.size 1 rfl _ _ HR.out Try.underlying25 rfl sizeCfg ?_))
  refine (PL.out _).mono ?_
  rintro y w1 ⟨rfl, hb⟩
  have HL := hide (bt HA.out (bt hb (al w1 (.cells #[.int .i64 (pgs s.bl), .int .i64 (bnk s.bl), .int .i64 (fsb s.bl)] 63))))
  have HB := hide ((HB.out.keep hb).keep (al w1 (.cells #[.int .i64 (pgs s.bl), .int .i64 (bnk s.bl), .int .i64 (fsb s.bl)] 63)))
  have HP := hide (Bx.new w1 63 #[.int .i64 (pgs s.bl), .int .i64 (bnk s.bl), .int .i64 (fsb s.bl)])
  clear hb HA HR PL
  generalize hPP : pgs s.bl = PP at *
  have HPP := hide hPP
  clear hPP
  generalize bnk s.bl = KK at *
  generalize fsb s.bl = FF at *
  have x0 := HB.out.cell 0 (v := .int .i64 s.gen) rfl
  have x2 := HB.out.cell 2 (v := .int .i64 s.cl) rfl
  have x4 := HB.out.cell 4 (v := .int .i64 s.nx) rfl
  have x5 := HB.out.cell 5 (v := .slice a s.rs.length c) rfl
  go_wp2
  go_ret
  exact ⟨rfl, HL.out⟩
set_option maxRecDepth 8000 in
set_option maxHeartbeats 6400000 in
theorem rCheck_limg1 (w : World) (s : Su) (a : Option Addr) (c : Nat) (hI : Js w a s.rs) (h1 : mayB s.bl s.cl s.rf = true) (c0 : ¬ s.gen < 0) (c1 : 1099511627776 < s.gen) :
    Calls Try.prog 21 #[suv s a c] w fun y w' => y = .returned (.int .i64 (chE s : Int)) ∧ Below w.heap.size w w' := by
  have HA := hide (al w (.cells (suC s a c) 28))
  have HB := hide (Bx.new w 28 (suC s a c))
  have HI := hide hI
  have HR : Hid ((w.alloc (.cells (suC s a c) 28)).rangeAt w.heap.size 1 [.int .i64 s.bl, .int .i64 s.cl, .int .i64 s.rf]) := World.rangeAt_of_block (Bx.new w 28 (suC s a c)) 1 3
  have PL := hide fun w1 => rPlan_any w1 s.bl s.cl s.rf
  have hE : chE s = 4 := by
    unfold chE
    rw [if_neg (by rw [h1]; simp), if_pos]
    exact Bool.eq_false_iff.2 fun h => by have := lim_iff.1 h; omega
  rw [hE]
  have d0 : decide (s.gen < 0) = false := by simpa using c0
  have d1 : decide (1099511627776 < s.gen) = true := by simpa using c1
  unfold plA plE cfv plv at PL
  rw [h1] at PL
  simp only [↓reduceIte] at PL
  unfold suv suC at *
  clear hI
  go_enter Try.func21, Try.ntmps21
  go_wp2_with (first | (refine wpList_load_mid rfl 25 _ rfl w.heap.size 1 rfl _ _ HR.out Try.underlying25 rfl sizeCfg ?_))
  refine (PL.out _).mono ?_
  rintro y w1 ⟨rfl, hb⟩
  have HL := hide (bt HA.out (bt hb (al w1 (.cells #[.int .i64 (pgs s.bl), .int .i64 (bnk s.bl), .int .i64 (fsb s.bl)] 63))))
  have HB := hide ((HB.out.keep hb).keep (al w1 (.cells #[.int .i64 (pgs s.bl), .int .i64 (bnk s.bl), .int .i64 (fsb s.bl)] 63)))
  have HP := hide (Bx.new w1 63 #[.int .i64 (pgs s.bl), .int .i64 (bnk s.bl), .int .i64 (fsb s.bl)])
  clear hb HA HR PL
  generalize hPP : pgs s.bl = PP at *
  have HPP := hide hPP
  clear hPP
  generalize bnk s.bl = KK at *
  generalize fsb s.bl = FF at *
  have x0 := HB.out.cell 0 (v := .int .i64 s.gen) rfl
  have x2 := HB.out.cell 2 (v := .int .i64 s.cl) rfl
  have x4 := HB.out.cell 4 (v := .int .i64 s.nx) rfl
  have x5 := HB.out.cell 5 (v := .slice a s.rs.length c) rfl
  go_wp2
  go_ret
  exact ⟨rfl, HL.out⟩
set_option maxRecDepth 8000 in
set_option maxHeartbeats 6400000 in
theorem rCheck_limn0 (w : World) (s : Su) (a : Option Addr) (c : Nat) (hI : Js w a s.rs) (h1 : mayB s.bl s.cl s.rf = true) (c0 : ¬ s.gen < 0) (c1 : ¬ 1099511627776 < s.gen) (c2 : s.nx < 1) :
    Calls Try.prog 21 #[suv s a c] w fun y w' => y = .returned (.int .i64 (chE s : Int)) ∧ Below w.heap.size w w' := by
  have HA := hide (al w (.cells (suC s a c) 28))
  have HB := hide (Bx.new w 28 (suC s a c))
  have HI := hide hI
  have HR : Hid ((w.alloc (.cells (suC s a c) 28)).rangeAt w.heap.size 1 [.int .i64 s.bl, .int .i64 s.cl, .int .i64 s.rf]) := World.rangeAt_of_block (Bx.new w 28 (suC s a c)) 1 3
  have PL := hide fun w1 => rPlan_any w1 s.bl s.cl s.rf
  have hE : chE s = 4 := by
    unfold chE
    rw [if_neg (by rw [h1]; simp), if_pos]
    exact Bool.eq_false_iff.2 fun h => by have := lim_iff.1 h; omega
  rw [hE]
  have d0 : decide (s.gen < 0) = false := by simpa using c0
  have d1 : decide (1099511627776 < s.gen) = false := by simpa using c1
  have d2 : decide (s.nx < 1) = true := by simpa using c2
  unfold plA plE cfv plv at PL
  rw [h1] at PL
  simp only [↓reduceIte] at PL
  unfold suv suC at *
  clear hI
  go_enter Try.func21, Try.ntmps21
  go_wp2_with (first | (refine wpList_load_mid rfl 25 _ rfl w.heap.size 1 rfl _ _ HR.out Try.underlying25 rfl sizeCfg ?_))
  refine (PL.out _).mono ?_
  rintro y w1 ⟨rfl, hb⟩
  have HL := hide (bt HA.out (bt hb (al w1 (.cells #[.int .i64 (pgs s.bl), .int .i64 (bnk s.bl), .int .i64 (fsb s.bl)] 63))))
  have HB := hide ((HB.out.keep hb).keep (al w1 (.cells #[.int .i64 (pgs s.bl), .int .i64 (bnk s.bl), .int .i64 (fsb s.bl)] 63)))
  have HP := hide (Bx.new w1 63 #[.int .i64 (pgs s.bl), .int .i64 (bnk s.bl), .int .i64 (fsb s.bl)])
  clear hb HA HR PL
  generalize hPP : pgs s.bl = PP at *
  have HPP := hide hPP
  clear hPP
  generalize bnk s.bl = KK at *
  generalize fsb s.bl = FF at *
  have x0 := HB.out.cell 0 (v := .int .i64 s.gen) rfl
  have x2 := HB.out.cell 2 (v := .int .i64 s.cl) rfl
  have x4 := HB.out.cell 4 (v := .int .i64 s.nx) rfl
  have x5 := HB.out.cell 5 (v := .slice a s.rs.length c) rfl
  go_wp2
  go_ret
  exact ⟨rfl, HL.out⟩
set_option maxRecDepth 8000 in
set_option maxHeartbeats 6400000 in
theorem rCheck_limn1 (w : World) (s : Su) (a : Option Addr) (c : Nat) (hI : Js w a s.rs) (h1 : mayB s.bl s.cl s.rf = true) (c0 : ¬ s.gen < 0) (c1 : ¬ 1099511627776 < s.gen) (c2 : ¬ s.nx < 1) (c3 : 2147483648 < s.nx) :
    Calls Try.prog 21 #[suv s a c] w fun y w' => y = .returned (.int .i64 (chE s : Int)) ∧ Below w.heap.size w w' := by
  have HA := hide (al w (.cells (suC s a c) 28))
  have HB := hide (Bx.new w 28 (suC s a c))
  have HI := hide hI
  have HR : Hid ((w.alloc (.cells (suC s a c) 28)).rangeAt w.heap.size 1 [.int .i64 s.bl, .int .i64 s.cl, .int .i64 s.rf]) := World.rangeAt_of_block (Bx.new w 28 (suC s a c)) 1 3
  have PL := hide fun w1 => rPlan_any w1 s.bl s.cl s.rf
  have hE : chE s = 4 := by
    unfold chE
    rw [if_neg (by rw [h1]; simp), if_pos]
    exact Bool.eq_false_iff.2 fun h => by have := lim_iff.1 h; omega
  rw [hE]
  have d0 : decide (s.gen < 0) = false := by simpa using c0
  have d1 : decide (1099511627776 < s.gen) = false := by simpa using c1
  have d2 : decide (s.nx < 1) = false := by simpa using c2
  have d3 : decide (2147483648 < s.nx) = true := by simpa using c3
  unfold plA plE cfv plv at PL
  rw [h1] at PL
  simp only [↓reduceIte] at PL
  unfold suv suC at *
  clear hI
  go_enter Try.func21, Try.ntmps21
  go_wp2_with (first | (refine wpList_load_mid rfl 25 _ rfl w.heap.size 1 rfl _ _ HR.out Try.underlying25 rfl sizeCfg ?_))
  refine (PL.out _).mono ?_
  rintro y w1 ⟨rfl, hb⟩
  have HL := hide (bt HA.out (bt hb (al w1 (.cells #[.int .i64 (pgs s.bl), .int .i64 (bnk s.bl), .int .i64 (fsb s.bl)] 63))))
  have HB := hide ((HB.out.keep hb).keep (al w1 (.cells #[.int .i64 (pgs s.bl), .int .i64 (bnk s.bl), .int .i64 (fsb s.bl)] 63)))
  have HP := hide (Bx.new w1 63 #[.int .i64 (pgs s.bl), .int .i64 (bnk s.bl), .int .i64 (fsb s.bl)])
  clear hb HA HR PL
  generalize hPP : pgs s.bl = PP at *
  have HPP := hide hPP
  clear hPP
  generalize bnk s.bl = KK at *
  generalize fsb s.bl = FF at *
  have x0 := HB.out.cell 0 (v := .int .i64 s.gen) rfl
  have x2 := HB.out.cell 2 (v := .int .i64 s.cl) rfl
  have x4 := HB.out.cell 4 (v := .int .i64 s.nx) rfl
  have x5 := HB.out.cell 5 (v := .slice a s.rs.length c) rfl
  go_wp2
  go_ret
  exact ⟨rfl, HL.out⟩
set_option maxRecDepth 8000 in
set_option maxHeartbeats 6400000 in
theorem rCheck_liml0 (w : World) (s : Su) (a : Option Addr) (c : Nat) (hI : Js w a s.rs) (h1 : mayB s.bl s.cl s.rf = true) (c0 : ¬ s.gen < 0) (c1 : ¬ 1099511627776 < s.gen) (c2 : ¬ s.nx < 1) (c3 : ¬ 2147483648 < s.nx) (c4 : s.cl < (s.rs.length : Int)) :
    Calls Try.prog 21 #[suv s a c] w fun y w' => y = .returned (.int .i64 (chE s : Int)) ∧ Below w.heap.size w w' := by
  have HA := hide (al w (.cells (suC s a c) 28))
  have HB := hide (Bx.new w 28 (suC s a c))
  have HI := hide hI
  have HR : Hid ((w.alloc (.cells (suC s a c) 28)).rangeAt w.heap.size 1 [.int .i64 s.bl, .int .i64 s.cl, .int .i64 s.rf]) := World.rangeAt_of_block (Bx.new w 28 (suC s a c)) 1 3
  have PL := hide fun w1 => rPlan_any w1 s.bl s.cl s.rf
  have hE : chE s = 4 := by
    unfold chE
    rw [if_neg (by rw [h1]; simp), if_pos]
    exact Bool.eq_false_iff.2 fun h => by have := lim_iff.1 h; omega
  rw [hE]
  have d0 : decide (s.gen < 0) = false := by simpa using c0
  have d1 : decide (1099511627776 < s.gen) = false := by simpa using c1
  have d2 : decide (s.nx < 1) = false := by simpa using c2
  have d3 : decide (2147483648 < s.nx) = false := by simpa using c3
  have d4 : decide (s.cl < (s.rs.length : Int)) = true := by simpa using c4
  unfold plA plE cfv plv at PL
  rw [h1] at PL
  simp only [↓reduceIte] at PL
  unfold suv suC at *
  clear hI
  go_enter Try.func21, Try.ntmps21
  go_wp2_with (first | (refine wpList_load_mid rfl 25 _ rfl w.heap.size 1 rfl _ _ HR.out Try.underlying25 rfl sizeCfg ?_))
  refine (PL.out _).mono ?_
  rintro y w1 ⟨rfl, hb⟩
  have HL := hide (bt HA.out (bt hb (al w1 (.cells #[.int .i64 (pgs s.bl), .int .i64 (bnk s.bl), .int .i64 (fsb s.bl)] 63))))
  have HB := hide ((HB.out.keep hb).keep (al w1 (.cells #[.int .i64 (pgs s.bl), .int .i64 (bnk s.bl), .int .i64 (fsb s.bl)] 63)))
  have HP := hide (Bx.new w1 63 #[.int .i64 (pgs s.bl), .int .i64 (bnk s.bl), .int .i64 (fsb s.bl)])
  clear hb HA HR PL
  generalize hPP : pgs s.bl = PP at *
  have HPP := hide hPP
  clear hPP
  generalize bnk s.bl = KK at *
  generalize fsb s.bl = FF at *
  have x0 := HB.out.cell 0 (v := .int .i64 s.gen) rfl
  have x2 := HB.out.cell 2 (v := .int .i64 s.cl) rfl
  have x4 := HB.out.cell 4 (v := .int .i64 s.nx) rfl
  have x5 := HB.out.cell 5 (v := .slice a s.rs.length c) rfl
  go_wp2
  go_ret
  exact ⟨rfl, HL.out⟩
set_option maxRecDepth 8000 in
set_option maxHeartbeats 6400000 in
theorem rCheck_in (w : World) (s : Su) (a : Option Addr) (c : Nat) (hI : Js w a s.rs) (h1 : mayB s.bl s.cl s.rf = true) (h2 : lim s = true) :
    Calls Try.prog 21 #[suv s a c] w fun y w' => y = .returned (.int .i64 (chE s : Int)) ∧ Below w.heap.size w w' := by
  have HA := hide (al w (.cells (suC s a c) 28))
  have HB := hide (Bx.new w 28 (suC s a c))
  have HI := hide hI
  have HR : Hid ((w.alloc (.cells (suC s a c) 28)).rangeAt w.heap.size 1 [.int .i64 s.bl, .int .i64 s.cl, .int .i64 s.rf]) := World.rangeAt_of_block (Bx.new w 28 (suC s a c)) 1 3
  have PL := hide fun w1 => rPlan_any w1 s.bl s.cl s.rf
  obtain ⟨⟨g0, g1⟩, ⟨n0, n1⟩, l0⟩ := lim_iff.1 h2
  obtain ⟨⟨b0, b1⟩, ⟨k0, k1⟩, _⟩ := mayB_iff.1 h1
  have hpg := pgs_in b0 b1
  have hl16 : s.rs.length ≤ 16 := by omega
  have hC2 := hide (show ¬ mayB s.bl s.cl s.rf = false ∧ ¬ lim s = false from ⟨by rw [h1]; simp, by rw [h2]; simp⟩)
  have d0 : decide (s.gen < 0) = false := by simp; omega
  have d1 : decide (1099511627776 < s.gen) = false := by simp; omega
  have d2 : decide (s.nx < 1) = false := by simp; omega
  have d3 : decide (2147483648 < s.nx) = false := by simp; omega
  have d4 : decide (s.cl < (s.rs.length : Int)) = false := by simp; omega
  unfold plA plE cfv plv at PL
  rw [h1] at PL
  simp only [↓reduceIte] at PL
  unfold suv suC at *
  clear hI
  go_enter Try.func21, Try.ntmps21
  go_wp2_with (first | (refine wpList_load_mid rfl 25 _ rfl w.heap.size 1 rfl _ _ HR.out Try.underlying25 rfl sizeCfg ?_))
  refine (PL.out _).mono ?_
  rintro y w1 ⟨rfl, hb⟩
  have HL := hide (bt HA.out (bt hb (al w1 (.cells #[.int .i64 (pgs s.bl), .int .i64 (bnk s.bl), .int .i64 (fsb s.bl)] 63))))
  have HB := hide ((HB.out.keep hb).keep (al w1 (.cells #[.int .i64 (pgs s.bl), .int .i64 (bnk s.bl), .int .i64 (fsb s.bl)] 63)))
  have HP := hide (Bx.new w1 63 #[.int .i64 (pgs s.bl), .int .i64 (bnk s.bl), .int .i64 (fsb s.bl)])
  clear hb HA HR PL
  generalize hPP : pgs s.bl = PP at *
  have HPP := hide hPP
  clear hPP
  generalize bnk s.bl = KK at *
  generalize fsb s.bl = FF at *
  have x0 := HB.out.cell 0 (v := .int .i64 s.gen) rfl
  have x2 := HB.out.cell 2 (v := .int .i64 s.cl) rfl
  have x4 := HB.out.cell 4 (v := .int .i64 s.nx) rfl
  have x5 := HB.out.cell 5 (v := .slice a s.rs.length c) rfl
  go_wp2
  clear d0 d1 d2 d3 d4 x0 x2 x4 x5 g0 g1 n0 n1 l0 b0 b1 k0 k1 h1 h2
  generalize w1.alloc (.cells #[.int .i64 PP, .int .i64 KK, .int .i64 FF] 63) = W at *
  go_loopw [5] (fun q wx => ∃ j : Nat, j ≤ s.rs.length ∧ q = .int .i64 j ∧ (∀ k, k < j → okAt s.nx s.rs k = true) ∧ Below W.heap.size W wx) (fun q _ => s.rs.length - (intOf q).toNat)
  case atStart => exact ⟨0, Nat.zero_le _, rfl, fun k hk => by omega, Below.refl _ _⟩
  case round =>
    obtain ⟨j, hj, rfl, hN, hBB⟩ := hrel
    have HN := hide hN
    have B := hide hBB
    clear hN hBB
    have x4 := (HB.out.keep B.out).cell 4 (v := .int .i64 s.nx) rfl
    have x5 := (HB.out.keep B.out).cell 5 (v := .slice a s.rs.length c) rfl
    by_cases hlt : j < s.rs.length
    · have hlti : (j : Int) < (s.rs.length : Int) := by omega
      have hAT := (HI.out.keep (bt HL.out B.out))
      obtain ⟨b1, o1, hab, cA⟩ := hAT.at hlt
      have i0 := (range4 cA).1
      have ID0 := hide (rise_no (nx := s.nx) hlt)
      have IDS : Hid (okAt s.nx s.rs j = true → ∀ k, k < j + 1 → okAt s.nx s.rs k = true) := by
        intro hx k hk
        by_cases e : k = j
        · rw [e]; exact hx
        · exact HN.out k (by omega)
      have hOK : Hid (okAt s.nx s.rs j = (decide (1 ≤ (s.rs.getD j ro0).id) && decide ((s.rs.getD j ro0).id < s.nx) && (decide (j = 0) || decide ((s.rs.getD (j - 1) ro0).id < (s.rs.getD j ro0).id)))) := rfl
      have HE11 : Hid (okAt s.nx s.rs j = false → chE s = 11) := by
        intro hx
        unfold chE
        rw [if_neg hC2.out.1, if_neg hC2.out.2, if_pos (ID0.out hx)]
      by_cases e1 : (s.rs.getD j ro0).id < 1
      · have d1 : decide ((s.rs.getD j ro0).id < 1) = true := by simpa using e1
        have HE := hide (HE11.out (by rw [hOK.out, decide_eq_false (by omega)]; rfl))
        subst hab
        clear cA
        generalize (s.rs.getD j ro0).id = t at *
        go_wp2
        go_quiet (fail)
        go_wp2
        go_ret
        exact ⟨by rw [HE.out]; rfl, bt HL.out (bt B.out (drN _ _))⟩
      · have d1 : decide ((s.rs.getD j ro0).id < 1) = false := by simpa using e1
        by_cases e2 : s.nx ≤ (s.rs.getD j ro0).id
        · have d2 : decide (s.nx ≤ (s.rs.getD j ro0).id) = true := by simpa using e2
          have HE := hide (HE11.out (by rw [hOK.out, decide_eq_false (show ¬ (s.rs.getD j ro0).id < s.nx by omega)]; simp))
          subst hab
          clear cA
          generalize (s.rs.getD j ro0).id = t at *
          go_wp2
          go_quiet (fail)
          go_wp2
          go_ret
          exact ⟨by rw [HE.out]; rfl, bt HL.out (bt B.out (drN _ _))⟩
        · have d2 : decide (s.nx ≤ (s.rs.getD j ro0).id) = false := by simpa using e2
          cases j with
          | zero =>
            have HS := hide (IDS.out (by rw [hOK.out, decide_eq_true (show 1 ≤ (s.rs.getD 0 ro0).id by omega), decide_eq_true (show (s.rs.getD 0 ro0).id < s.nx by omega)]; rfl))
            subst hab
            clear cA
            generalize (s.rs.getD 0 ro0).id = t at *
            replace i0 : wr.cell? ⟨b1, o1, none⟩ = some (.int .i64 t) := by simpa using i0
            have h0l : (0 : Int) < (s.rs.length : Int) := by omega
            have h0n : 0 < s.rs.length := hlt
            go_wp2
            go_quiet (fail)
            clear x4 x5 i0
            go_wp2
            go_roundw
            case rel => exact ⟨1, by omega, by go_num, HS.out, bt B.out (drN _ _)⟩
            case measure => simp [intOf]; omega
          | succ i =>
            obtain ⟨b2, o2, hab2, cB⟩ := hAT.at (show i < s.rs.length by omega)
            rw [hab] at hab2
            cases hab2
            have i1 := (range4 cB).1
            have d3 : decide ((0 : Int) < ((i + 1 : Nat) : Int)) = true := by simp
            have hsub : (((i + 1 : Nat) : Int)) - 1 = (i : Int) := by omega
            have hwr : IntKind.i64.wrap (i : Int) = (i : Int) := by rw [IntKind.wrap_i64]; omega
            have hii : (i : Int) < (s.rs.length : Int) := by omega
            by_cases e3 : (s.rs.getD (i + 1) ro0).id ≤ (s.rs.getD i ro0).id
            · have d4 : decide ((s.rs.getD (i + 1) ro0).id ≤ (s.rs.getD i ro0).id) = true := by simpa using e3
              have HE := hide (HE11.out (by rw [hOK.out, Nat.add_sub_cancel, decide_eq_false (show ¬ (s.rs.getD i ro0).id < (s.rs.getD (i + 1) ro0).id by omega)]; simp))
              subst hab
              clear cA cB
              generalize (s.rs.getD (i + 1) ro0).id = t at *
              generalize (s.rs.getD i ro0).id = u at *
              go_wp2
              go_quiet (fail)
              go_wp2
              go_ret
              exact ⟨by rw [HE.out]; rfl, bt HL.out (bt B.out (drN _ _))⟩
            · have d4 : decide ((s.rs.getD (i + 1) ro0).id ≤ (s.rs.getD i ro0).id) = false := by simpa using e3
              have HS := hide (IDS.out (by rw [hOK.out, Nat.add_sub_cancel, decide_eq_true (show 1 ≤ (s.rs.getD (i + 1) ro0).id by omega), decide_eq_true (show (s.rs.getD (i + 1) ro0).id < s.nx by omega), decide_eq_true (show (s.rs.getD i ro0).id < (s.rs.getD (i + 1) ro0).id by omega)]; simp))
              subst hab
              clear cA cB
              generalize (s.rs.getD (i + 1) ro0).id = t at *
              generalize (s.rs.getD i ro0).id = u at *
              go_wp2
              go_quiet (fail)
              clear x4 x5 i0 i1 hsub hwr
              go_wp2
              go_roundw
              case rel => exact ⟨i + 1 + 1, by omega, by go_num, HS.out, bt B.out (drN _ _)⟩
              case measure => simp [intOf]; omega
    · obtain rfl : j = s.rs.length := by omega
      have HRI := hide (rise_iff.2 HN.out)
      have HB := hide (HB.out.keep B.out)
      have HP := hide (HP.out.keep B.out)
      have HL := hide (bt HL.out B.out)
      clear HN B
      go_wp2
      clear x4 x5
      generalize hWW : wr = W0 at *
      clear hWW
      go_loopw [6] (fun q wx => ∃ j : Nat, j ≤ s.rs.length ∧ q = .int .i64 j ∧ (∀ k, k < j → can PP (s.rs.getD k ro0) = true) ∧ Below W0.heap.size W0 wx) (fun q _ => s.rs.length - (intOf q).toNat)
      case atStart => exact ⟨0, Nat.zero_le _, rfl, fun k hk => by omega, Below.refl _ _⟩
      case round =>
        obtain ⟨j, hj, rfl, hN, hBB⟩ := hrel
        have HN := hide hN
        have B := hide hBB
        clear hN hBB
        have x5 := (HB.out.keep B.out).cell 5 (v := .slice a s.rs.length c) rfl
        by_cases hlt : j < s.rs.length
        · have hlti : (j : Int) < (s.rs.length : Int) := by omega
          obtain ⟨b1, o1, hab, cA⟩ := (HI.out.keep (bt HL.out B.out)).at hlt
          subst hab
          have HBX := hide (HB.out.keep B.out)
          have HPX := hide (HP.out.keep B.out)
          have HC := hide cA
          have TC := hide fun w1 => TreeCan_any w1 PP KK FF (s.rs.getD j ro0) (by omega)
          unfold plv trv at TC
          have HMEM := hide (getD_mem hlt)
          generalize hgt : s.rs.getD j ro0 = t at *
          have HGT := hide hgt
          clear hgt cA
          have S0 := hide (fun (w' : World) (hb : Below wr.heap.size wr w') => (show (w'.cell? ⟨w1.heap.size, 0, none⟩ = some (.int .i64 PP) ∧ w'.cell? ⟨w1.heap.size, 1, none⟩ = some (.int .i64 KK) ∧ w'.cell? ⟨w1.heap.size, 2, none⟩ = some (.int .i64 FF) ∧ w'.cell? ⟨w.heap.size, 5, none⟩ = some (.slice (some ⟨b1, o1, none⟩) s.rs.length c)) ∧ (w'.cell? ⟨b1, o1 + j * 4 + 1, none⟩ = some (.int .i64 t.r) ∧ w'.cell? ⟨b1, o1 + j * 4 + 2, none⟩ = some (.int .i64 t.h) ∧ w'.cell? ⟨b1, o1 + j * 4 + 3, none⟩ = some (.int .i64 t.n)) ∧ Below wr.heap.size wr w' from ⟨⟨(HPX.out.keep hb).cell 0 rfl, (HPX.out.keep hb).cell 1 rfl, (HPX.out.keep hb).cell 2 rfl, (HBX.out.keep hb).cell 5 rfl⟩, (range4 (range_below HC.out hb)).2, hb⟩))
          cases hx : can PP t with
          | true =>
            rw [hx] at TC
            have HNN : Hid (∀ k, k < j + 1 → can PP (s.rs.getD k ro0) = true) := by
              intro k hk
              by_cases e : k = j
              · rw [e, HGT.out]; exact hx
              · exact HN.out k (by omega)
            clear hx
            go_wp2
            refine wp_region_held_drew (S := fun w' => (w'.cell? ⟨w1.heap.size, 0, none⟩ = some (.int .i64 PP) ∧ w'.cell? ⟨w1.heap.size, 1, none⟩ = some (.int .i64 KK) ∧ w'.cell? ⟨w1.heap.size, 2, none⟩ = some (.int .i64 FF) ∧ w'.cell? ⟨w.heap.size, 5, none⟩ = some (.slice (some ⟨b1, o1, none⟩) s.rs.length c)) ∧ (w'.cell? ⟨b1, o1 + j * 4 + 1, none⟩ = some (.int .i64 t.r) ∧ w'.cell? ⟨b1, o1 + j * 4 + 2, none⟩ = some (.int .i64 t.h) ∧ w'.cell? ⟨b1, o1 + j * 4 + 3, none⟩ = some (.int .i64 t.n)) ∧ Below wr.heap.size wr w') (by kernel_rfl) (S0.out _ (dr2 wr)) (fun hHeld => ?_)
            refine wpAnyH_take (i := 0) (v := ?vap0) rfl (by kernel_rfl) (by kernel_rfl) (by kernel_rfl) (fun _ _ _ h => h) (Or.inl ⟨by rfl, ?hyp0⟩) (by assumption) ?rap0
            case hyp0 => (intro w hSw; (try dsimp only at hSw); go_simp <;> with_reducible rfl)
            try simp only [Act.put, List.getElem_toArray, List.getElem_cons_zero, List.setIfInBounds_toArray, List.set_cons_zero, List.set_cons_succ]
            refine wpAnyH_take (i := 1) (v := ?vap1) rfl (by kernel_rfl) (by kernel_rfl) (by kernel_rfl) (fun _ _ _ h => h) (Or.inl ⟨by rfl, ?hyp1⟩) (by assumption) ?rap1
            case hyp1 => (intro w hSw; (try dsimp only at hSw); go_simp <;> with_reducible rfl)
            try simp only [Act.put, List.getElem_toArray, List.getElem_cons_zero, List.getElem_cons_succ, List.setIfInBounds_toArray, List.set_cons_zero, List.set_cons_succ]
            refine wpAnyH_take (i := 2) (v := ?vap2) rfl (by kernel_rfl) (by kernel_rfl) (by kernel_rfl) (fun _ _ _ h => h) (Or.inl ⟨by rfl, ?hyp2⟩) (by assumption) ?rap2
            case hyp2 => (intro w hSw; (try dsimp only at hSw); go_simp <;> with_reducible rfl)
            try simp only [Act.put, List.getElem_toArray, List.getElem_cons_zero, List.getElem_cons_succ, List.setIfInBounds_toArray, List.set_cons_zero, List.set_cons_succ]
            refine wpAnyH_take (i := 3) (v := ?vap3) rfl (by kernel_rfl) (by kernel_rfl) (by kernel_rfl) (fun _ _ _ h => h) (Or.inl ⟨by rfl, ?hyp3⟩) (by assumption) ?rap3
            case hyp3 => (intro w hSw; (try dsimp only at hSw); go_simp <;> with_reducible rfl)
            try simp only [Act.put, List.getElem_toArray, List.getElem_cons_zero, List.getElem_cons_succ, List.setIfInBounds_toArray, List.set_cons_zero, List.set_cons_succ]
            refine wpAnyH_take (i := 4) (v := ?vap4) rfl (by kernel_rfl) (by kernel_rfl) (by kernel_rfl) (fun _ _ _ h => h) (Or.inl ⟨by rfl, ?hyp4⟩) (by assumption) ?rap4
            case hyp4 => (intro w hSw; (try dsimp only at hSw); go_simp <;> with_reducible rfl)
            try simp only [Act.put, List.getElem_toArray, List.getElem_cons_zero, List.getElem_cons_succ, List.setIfInBounds_toArray, List.set_cons_zero, List.set_cons_succ]
            refine wpAnyH_take (i := 5) (v := ?vap5) rfl (by kernel_rfl) (by kernel_rfl) (by kernel_rfl) (fun _ _ _ h => h) (Or.inl ⟨by rfl, ?hyp5⟩) (by assumption) ?rap5
            case hyp5 => (intro w hSw; (try dsimp only at hSw); go_simp <;> with_reducible rfl)
            try simp only [Act.put, List.getElem_toArray, List.getElem_cons_zero, List.getElem_cons_succ, List.setIfInBounds_toArray, List.set_cons_zero, List.set_cons_succ]
            refine wpAnyH_take (i := 6) (v := ?vap6) rfl (by kernel_rfl) (by kernel_rfl) (by kernel_rfl) (fun _ _ _ h => h) (Or.inl ⟨by rfl, ?hyp6⟩) (by assumption) ?rap6
            case hyp6 => (intro w hSw; (try dsimp only at hSw); go_simp <;> with_reducible rfl)
            try simp only [Act.put, List.getElem_toArray, List.getElem_cons_zero, List.getElem_cons_succ, List.setIfInBounds_toArray, List.set_cons_zero, List.set_cons_succ]
            refine wpAnyH_ready (rs := [7]) (by kernel_rfl) (by simp) ?_
            refine AllReadyH.cons rfl (fun K hK => ?_) AllReadyH.nil
            go_simp
            refine (TC.out _).mono ?_
            rintro e9 w5 ⟨rfl, hb⟩
            have TB1 := hide (bt (dr2 wr) hb)
            clear hb
            go_wp2_with fail
            refine hK.out _ _ (S0.out _ TB1.out) (fun hHeld => ?_)
            clear hK K
            try simp only [Act.put, List.getElem_toArray, List.getElem_cons_zero, List.getElem_cons_succ, List.setIfInBounds_toArray, List.set_cons_zero, List.set_cons_succ]
            refine wpAnyH_take (i := 8) (v := ?vap8) rfl (by kernel_rfl) (by kernel_rfl) (by kernel_rfl) (fun _ _ _ h => h) (Or.inl ⟨by rfl, ?hyp8⟩) (by assumption) ?rap8
            case hyp8 => (intro w hSw; (try dsimp only at hSw); go_simp <;> with_reducible rfl)
            try simp only [Act.put, List.getElem_toArray, List.getElem_cons_zero, List.getElem_cons_succ, List.setIfInBounds_toArray, List.set_cons_zero, List.set_cons_succ]
            refine wpAnyH_done (by kernel_rfl) ?_ _
            go_wp2
            go_roundw
            case rel => exact ⟨j + 1, by omega, by go_num, HNN.out, bt B.out TB1.out⟩
            case measure => simp [intOf]; omega
          | false =>
            rw [hx] at TC
            have HE : Hid (chE s = 5) := by
              show _ = _
              unfold chE
              rw [if_neg hC2.out.1, if_neg hC2.out.2, if_neg (by rw [HRI.out]; simp), if_pos, ]
              refine List.all_eq_false.2 ⟨t, HMEM.out, ?_⟩
              rw [HPP.out, hx]
              simp
            clear hx
            go_wp2
            refine wp_region_held_drew (S := fun w' => (w'.cell? ⟨w1.heap.size, 0, none⟩ = some (.int .i64 PP) ∧ w'.cell? ⟨w1.heap.size, 1, none⟩ = some (.int .i64 KK) ∧ w'.cell? ⟨w1.heap.size, 2, none⟩ = some (.int .i64 FF) ∧ w'.cell? ⟨w.heap.size, 5, none⟩ = some (.slice (some ⟨b1, o1, none⟩) s.rs.length c)) ∧ (w'.cell? ⟨b1, o1 + j * 4 + 1, none⟩ = some (.int .i64 t.r) ∧ w'.cell? ⟨b1, o1 + j * 4 + 2, none⟩ = some (.int .i64 t.h) ∧ w'.cell? ⟨b1, o1 + j * 4 + 3, none⟩ = some (.int .i64 t.n)) ∧ Below wr.heap.size wr w') (by kernel_rfl) (S0.out _ (dr2 wr)) (fun hHeld => ?_)
            refine wpAnyH_take (i := 0) (v := ?vaq0) rfl (by kernel_rfl) (by kernel_rfl) (by kernel_rfl) (fun _ _ _ h => h) (Or.inl ⟨by rfl, ?hyq0⟩) (by assumption) ?raq0
            case hyq0 => (intro w hSw; (try dsimp only at hSw); go_simp <;> with_reducible rfl)
            try simp only [Act.put, List.getElem_toArray, List.getElem_cons_zero, List.setIfInBounds_toArray, List.set_cons_zero, List.set_cons_succ]
            refine wpAnyH_take (i := 1) (v := ?vaq1) rfl (by kernel_rfl) (by kernel_rfl) (by kernel_rfl) (fun _ _ _ h => h) (Or.inl ⟨by rfl, ?hyq1⟩) (by assumption) ?raq1
            case hyq1 => (intro w hSw; (try dsimp only at hSw); go_simp <;> with_reducible rfl)
            try simp only [Act.put, List.getElem_toArray, List.getElem_cons_zero, List.getElem_cons_succ, List.setIfInBounds_toArray, List.set_cons_zero, List.set_cons_succ]
            refine wpAnyH_take (i := 2) (v := ?vaq2) rfl (by kernel_rfl) (by kernel_rfl) (by kernel_rfl) (fun _ _ _ h => h) (Or.inl ⟨by rfl, ?hyq2⟩) (by assumption) ?raq2
            case hyq2 => (intro w hSw; (try dsimp only at hSw); go_simp <;> with_reducible rfl)
            try simp only [Act.put, List.getElem_toArray, List.getElem_cons_zero, List.getElem_cons_succ, List.setIfInBounds_toArray, List.set_cons_zero, List.set_cons_succ]
            refine wpAnyH_take (i := 3) (v := ?vaq3) rfl (by kernel_rfl) (by kernel_rfl) (by kernel_rfl) (fun _ _ _ h => h) (Or.inl ⟨by rfl, ?hyq3⟩) (by assumption) ?raq3
            case hyq3 => (intro w hSw; (try dsimp only at hSw); go_simp <;> with_reducible rfl)
            try simp only [Act.put, List.getElem_toArray, List.getElem_cons_zero, List.getElem_cons_succ, List.setIfInBounds_toArray, List.set_cons_zero, List.set_cons_succ]
            refine wpAnyH_take (i := 4) (v := ?vaq4) rfl (by kernel_rfl) (by kernel_rfl) (by kernel_rfl) (fun _ _ _ h => h) (Or.inl ⟨by rfl, ?hyq4⟩) (by assumption) ?raq4
            case hyq4 => (intro w hSw; (try dsimp only at hSw); go_simp <;> with_reducible rfl)
            try simp only [Act.put, List.getElem_toArray, List.getElem_cons_zero, List.getElem_cons_succ, List.setIfInBounds_toArray, List.set_cons_zero, List.set_cons_succ]
            refine wpAnyH_take (i := 5) (v := ?vaq5) rfl (by kernel_rfl) (by kernel_rfl) (by kernel_rfl) (fun _ _ _ h => h) (Or.inl ⟨by rfl, ?hyq5⟩) (by assumption) ?raq5
            case hyq5 => (intro w hSw; (try dsimp only at hSw); go_simp <;> with_reducible rfl)
            try simp only [Act.put, List.getElem_toArray, List.getElem_cons_zero, List.getElem_cons_succ, List.setIfInBounds_toArray, List.set_cons_zero, List.set_cons_succ]
            refine wpAnyH_take (i := 6) (v := ?vaq6) rfl (by kernel_rfl) (by kernel_rfl) (by kernel_rfl) (fun _ _ _ h => h) (Or.inl ⟨by rfl, ?hyq6⟩) (by assumption) ?raq6
            case hyq6 => (intro w hSw; (try dsimp only at hSw); go_simp <;> with_reducible rfl)
            try simp only [Act.put, List.getElem_toArray, List.getElem_cons_zero, List.getElem_cons_succ, List.setIfInBounds_toArray, List.set_cons_zero, List.set_cons_succ]
            refine wpAnyH_ready (rs := [7]) (by kernel_rfl) (by simp) ?_
            refine AllReadyH.cons rfl (fun K hK => ?_) AllReadyH.nil
            go_simp
            refine (TC.out _).mono ?_
            rintro e9 w5 ⟨rfl, hb⟩
            have TB1 := hide (bt (dr2 wr) hb)
            clear hb
            go_wp2_with fail
            refine hK.out _ _ (S0.out _ TB1.out) (fun hHeld => ?_)
            clear hK K
            try simp only [Act.put, List.getElem_toArray, List.getElem_cons_zero, List.getElem_cons_succ, List.setIfInBounds_toArray, List.set_cons_zero, List.set_cons_succ]
            refine wpAnyH_take (i := 8) (v := ?vaq8) rfl (by kernel_rfl) (by kernel_rfl) (by kernel_rfl) (fun _ _ _ h => h) (Or.inl ⟨by rfl, ?hyq8⟩) (by assumption) ?raq8
            case hyq8 => (intro w hSw; (try dsimp only at hSw); go_simp <;> with_reducible rfl)
            try simp only [Act.put, List.getElem_toArray, List.getElem_cons_zero, List.getElem_cons_succ, List.setIfInBounds_toArray, List.set_cons_zero, List.set_cons_succ]
            refine wpAnyH_done (by kernel_rfl) ?_ _
            go_wp2
            go_ret
            exact ⟨by rw [HE.out]; rfl, bt HL.out (bt B.out TB1.out)⟩
        · obtain rfl : j = s.rs.length := by omega
          have HE : Hid (chE s = 0) := by
            show _ = _
            unfold chE
            rw [if_neg hC2.out.1, if_neg hC2.out.2, if_neg (by rw [HRI.out]; simp), if_neg]
            rw [Bool.not_eq_false, List.all_eq_true]
            intro t ht
            obtain ⟨k, hk, rfl⟩ := List.getElem_of_mem ht
            have := HN.out k hk
            rw [HPP.out]
            simpa [hk] using this
          go_wp2
          go_ret
          exact ⟨by rw [HE.out]; rfl, bt HL.out B.out⟩
theorem rCheck_any (w : World) (s : Su) (a : Option Addr) (c : Nat) (hI : Js w a s.rs) :
    Calls Try.prog 21 #[suv s a c] w fun y w' => y = .returned (.int .i64 (chE s : Int)) ∧ Below w.heap.size w w' := by
  cases h1 : mayB s.bl s.cl s.rf with
  | false => exact rCheck_cfg w s a c hI h1
  | true =>
    cases h2 : lim s with
    | true => exact rCheck_in w s a c hI h1 h2
    | false =>
      by_cases c0 : s.gen < 0
      · exact rCheck_limg0 w s a c hI h1 c0
      · by_cases c1 : 1099511627776 < s.gen
        · exact rCheck_limg1 w s a c hI h1 c0 c1
        · by_cases c2 : s.nx < 1
          · exact rCheck_limn0 w s a c hI h1 c0 c1 c2
          · by_cases c3 : 2147483648 < s.nx
            · exact rCheck_limn1 w s a c hI h1 c0 c1 c2 c3
            · refine rCheck_liml0 w s a c hI h1 c0 c1 c2 c3 (Classical.byContradiction fun h => ?_)
              rw [lim_iff.2 ⟨⟨by omega, by omega⟩, ⟨by omega, by omega⟩, by omega⟩] at h2
              cases h2
end Go.Proofs.Ytifhkfghjifecaa
