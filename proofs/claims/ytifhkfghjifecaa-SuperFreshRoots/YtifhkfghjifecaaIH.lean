import Derived.Test.YtifhkfghjifecaaIG
namespace Go.Proofs.Ytifhkfghjifecaa
open Go.RowKit

/-! ### what is wrong with a superblock -/
set_option maxRecDepth 8000 in
set_option maxHeartbeats 3200000 in
theorem Check_cfg (w : World) (s : Su) (a : Option Addr) (c : Nat) (hI : Js w a s.rs) (h1 : mayB s.bl s.cl s.rf = false) :
    Calls Try.prog 17 #[suv s a c] w fun y w' => y = .returned (.int .i64 1) ∧ Below w.heap.size w w' := by
  have HA := hide (al w (.cells (suC s a c) 28))
  have HB := hide (Bx.new w 28 (suC s a c))
  have HI := hide hI
  have HR : Hid ((w.alloc (.cells (suC s a c) 28)).rangeAt w.heap.size 1 [.int .i64 s.bl, .int .i64 s.cl, .int .i64 s.rf]) := World.rangeAt_of_block (Bx.new w 28 (suC s a c)) 1 3
  have PL := hide fun w1 => Plan_any w1 s.bl s.cl s.rf
  have WI := hide fun w1 => within_any w1 s a c
  unfold plA plE cfv plv at PL
  rw [h1] at PL
  simp only [Bool.false_eq_true, ↓reduceIte] at PL
  unfold suv suC at *
  go_enter Try.func17, Try.ntmps17
  go_wp2_with (first | (refine wpList_load_mid rfl 25 _ rfl w.heap.size 1 rfl _ _ HR.out Try.underlying25 rfl sizeCfg ?_))
  refine (PL.out _).mono ?_
  rintro y w1 ⟨rfl, hb⟩
  have HL := hide (bt HA.out hb)
  have HB := hide (HB.out.keep hb)
  have hwl := HB.out.lt
  clear hb HA HR PL
  go_wp2
  go_ret
  exact ⟨rfl, HL.out.alloc HL.out.size _⟩
set_option maxRecDepth 8000 in
set_option maxHeartbeats 3200000 in
theorem Check_lim (w : World) (s : Su) (a : Option Addr) (c : Nat) (hI : Js w a s.rs) (h1 : mayB s.bl s.cl s.rf = true) (h2 : lim s = false) :
    Calls Try.prog 17 #[suv s a c] w fun y w' => y = .returned (.int .i64 4) ∧ Below w.heap.size w w' := by
  have HA := hide (al w (.cells (suC s a c) 28))
  have HB := hide (Bx.new w 28 (suC s a c))
  have HI := hide hI
  have HR : Hid ((w.alloc (.cells (suC s a c) 28)).rangeAt w.heap.size 1 [.int .i64 s.bl, .int .i64 s.cl, .int .i64 s.rf]) := World.rangeAt_of_block (Bx.new w 28 (suC s a c)) 1 3
  have PL := hide fun w1 => Plan_any w1 s.bl s.cl s.rf
  have WI := hide fun w1 => within_any w1 s a c
  unfold plA plE cfv plv at PL
  rw [h1] at PL
  simp only [↓reduceIte] at PL
  unfold suv suC at *
  go_enter Try.func17, Try.ntmps17
  go_wp2_with (first | (refine wpList_load_mid rfl 25 _ rfl w.heap.size 1 rfl _ _ HR.out Try.underlying25 rfl sizeCfg ?_))
  refine (PL.out _).mono ?_
  rintro y w1 ⟨rfl, hb⟩
  have HL := hide (bt HA.out hb)
  have HB := hide (HB.out.keep hb)
  have hwl := HB.out.lt
  clear hb HA HR PL
  have HP : Hid (Bx (w1.alloc (.cells #[.int .i64 (pgs s.bl), .int .i64 (bnk s.bl), .int .i64 (fsb s.bl)] 63)) 63 w1.heap.size #[.int .i64 (pgs s.bl), .int .i64 (bnk s.bl), .int .i64 (fsb s.bl)]) := Bx.new w1 63 _
  have HB := hide (HB.out.keep (al w1 (.cells #[.int .i64 (pgs s.bl), .int .i64 (bnk s.bl), .int .i64 (fsb s.bl)] 63)))
  have HL := hide (bt HL.out (al w1 (.cells #[.int .i64 (pgs s.bl), .int .i64 (bnk s.bl), .int .i64 (fsb s.bl)] 63)))
  clear hwl
  go_wp2_with (first | (refine wpList_load_row rfl 28 _ rfl w.heap.size rfl 28 _ (0, 0) _ HB.out Try.underlying28 rfl sizeSuper ?_))
  refine (WI.out _).mono ?_
  rintro y w2 ⟨rfl, hb⟩
  have HL := hide (bt HL.out hb)
  rw [h2]
  clear hb
  go_wp2
  go_ret
  exact ⟨rfl, HL.out⟩
set_option maxRecDepth 8000 in
set_option maxHeartbeats 3200000 in
theorem Check_ord (w : World) (s : Su) (a : Option Addr) (c : Nat) (hI : Js w a s.rs) (h1 : mayB s.bl s.cl s.rf = true) (h2 : lim s = true) (h3 : rise s.nx s.rs = false) :
    Calls Try.prog 17 #[suv s a c] w fun y w' => y = .returned (.int .i64 11) ∧ Below w.heap.size w w' := by
  have HA := hide (al w (.cells (suC s a c) 28))
  have HB := hide (Bx.new w 28 (suC s a c))
  have HI := hide hI
  have HR : Hid ((w.alloc (.cells (suC s a c) 28)).rangeAt w.heap.size 1 [.int .i64 s.bl, .int .i64 s.cl, .int .i64 s.rf]) := World.rangeAt_of_block (Bx.new w 28 (suC s a c)) 1 3
  have PL := hide fun w1 => Plan_any w1 s.bl s.cl s.rf
  have WI := hide fun w1 => within_any w1 s a c
  have IR := hide fun (w1 : World) (hb : Below w.heap.size w w1) => idsRise_any w1 s a c (hI.keep hb) (lim_iff.1 h2).2.1 (by have := (lim_iff.1 h2).2.2; have := (mayB_iff.1 h1).2.1; omega)
  unfold plA plE cfv plv at PL
  rw [h1] at PL
  simp only [↓reduceIte] at PL
  unfold suv suC at *
  go_enter Try.func17, Try.ntmps17
  go_wp2_with (first | (refine wpList_load_mid rfl 25 _ rfl w.heap.size 1 rfl _ _ HR.out Try.underlying25 rfl sizeCfg ?_))
  refine (PL.out _).mono ?_
  rintro y w1 ⟨rfl, hb⟩
  have HL := hide (bt HA.out hb)
  have HB := hide (HB.out.keep hb)
  have hwl := HB.out.lt
  clear hb HA HR PL
  have HP : Hid (Bx (w1.alloc (.cells #[.int .i64 (pgs s.bl), .int .i64 (bnk s.bl), .int .i64 (fsb s.bl)] 63)) 63 w1.heap.size #[.int .i64 (pgs s.bl), .int .i64 (bnk s.bl), .int .i64 (fsb s.bl)]) := Bx.new w1 63 _
  have HB := hide (HB.out.keep (al w1 (.cells #[.int .i64 (pgs s.bl), .int .i64 (bnk s.bl), .int .i64 (fsb s.bl)] 63)))
  have HL := hide (bt HL.out (al w1 (.cells #[.int .i64 (pgs s.bl), .int .i64 (bnk s.bl), .int .i64 (fsb s.bl)] 63)))
  clear hwl
  go_wp2_with (first | (refine wpList_load_row rfl 28 _ rfl w.heap.size rfl 28 _ (0, 0) _ HB.out Try.underlying28 rfl sizeSuper ?_))
  refine (WI.out _).mono ?_
  rintro y w2 ⟨rfl, hb⟩
  have HL := hide (bt HL.out hb)
  have HB := hide (HB.out.keep hb)
  have HP := hide (HP.out.keep hb)
  rw [h2]
  clear hb
  go_wp2_with (first | (refine wpList_load_row rfl 28 _ rfl w.heap.size rfl 28 _ (0, 0) _ HB.out Try.underlying28 rfl sizeSuper ?_))
  refine (IR.out _ HL.out).mono ?_
  rintro y w3 ⟨rfl, hb⟩
  have HL := hide (bt HL.out hb)
  have HB := hide (HB.out.keep hb)
  have HP := hide (HP.out.keep hb)
  rw [h3]
  clear hb
  go_wp2
  go_ret
  exact ⟨rfl, HL.out⟩
set_option maxRecDepth 8000 in
set_option maxHeartbeats 3200000 in
theorem Check_form (w : World) (s : Su) (a : Option Addr) (c : Nat) (hI : Js w a s.rs) (hl : s.rs.length ≤ 4398046511000) (h1 : mayB s.bl s.cl s.rf = true) (h2 : lim s = true) (h3 : rise s.nx s.rs = true) (h4 : s.rs.all (can (pgs s.bl)) = false) :
    Calls Try.prog 17 #[suv s a c] w fun y w' => y = .returned (.int .i64 5) ∧ Below w.heap.size w w' := by
  have HA := hide (al w (.cells (suC s a c) 28))
  have HB := hide (Bx.new w 28 (suC s a c))
  have HI := hide hI
  have HR : Hid ((w.alloc (.cells (suC s a c) 28)).rangeAt w.heap.size 1 [.int .i64 s.bl, .int .i64 s.cl, .int .i64 s.rf]) := World.rangeAt_of_block (Bx.new w 28 (suC s a c)) 1 3
  have PL := hide fun w1 => Plan_any w1 s.bl s.cl s.rf
  have WI := hide fun w1 => within_any w1 s a c
  have IR := hide fun (w1 : World) (hb : Below w.heap.size w w1) => idsRise_any w1 s a c (hI.keep hb) (lim_iff.1 h2).2.1 (by have := (lim_iff.1 h2).2.2; have := (mayB_iff.1 h1).2.1; omega)
  have hpg := pgs_in (mayB_iff.1 h1).1.1 (mayB_iff.1 h1).1.2
  have TR := hide fun (w1 : World) (hb : Below w.heap.size w w1) => trees_any w1 a c s.rs (hI.keep hb) (pgs s.bl) (bnk s.bl) (fsb s.bl) (by omega) hl
  unfold plv at TR
  unfold plA plE cfv plv at PL
  rw [h1] at PL
  simp only [↓reduceIte] at PL
  unfold suv suC at *
  go_enter Try.func17, Try.ntmps17
  go_wp2_with (first | (refine wpList_load_mid rfl 25 _ rfl w.heap.size 1 rfl _ _ HR.out Try.underlying25 rfl sizeCfg ?_))
  refine (PL.out _).mono ?_
  rintro y w1 ⟨rfl, hb⟩
  have HL := hide (bt HA.out hb)
  have HB := hide (HB.out.keep hb)
  have hwl := HB.out.lt
  clear hb HA HR PL
  have HP : Hid (Bx (w1.alloc (.cells #[.int .i64 (pgs s.bl), .int .i64 (bnk s.bl), .int .i64 (fsb s.bl)] 63)) 63 w1.heap.size #[.int .i64 (pgs s.bl), .int .i64 (bnk s.bl), .int .i64 (fsb s.bl)]) := Bx.new w1 63 _
  have HB := hide (HB.out.keep (al w1 (.cells #[.int .i64 (pgs s.bl), .int .i64 (bnk s.bl), .int .i64 (fsb s.bl)] 63)))
  have HL := hide (bt HL.out (al w1 (.cells #[.int .i64 (pgs s.bl), .int .i64 (bnk s.bl), .int .i64 (fsb s.bl)] 63)))
  clear hwl
  go_wp2_with (first | (refine wpList_load_row rfl 28 _ rfl w.heap.size rfl 28 _ (0, 0) _ HB.out Try.underlying28 rfl sizeSuper ?_))
  refine (WI.out _).mono ?_
  rintro y w2 ⟨rfl, hb⟩
  have HL := hide (bt HL.out hb)
  have HB := hide (HB.out.keep hb)
  have HP := hide (HP.out.keep hb)
  rw [h2]
  clear hb
  go_wp2_with (first | (refine wpList_load_row rfl 28 _ rfl w.heap.size rfl 28 _ (0, 0) _ HB.out Try.underlying28 rfl sizeSuper ?_))
  refine (IR.out _ HL.out).mono ?_
  rintro y w3 ⟨rfl, hb⟩
  have HL := hide (bt HL.out hb)
  have HB := hide (HB.out.keep hb)
  have HP := hide (HP.out.keep hb)
  rw [h3]
  clear hb
  have cR := HB.out.cell 5 rfl
  go_wp2_with (first | (refine wpList_load_row rfl 63 _ rfl w1.heap.size rfl 63 _ (0, 0) _ HP.out Try.underlying63 rfl sizePlan ?_))
  refine (TR.out _ HL.out).mono ?_
  rintro y w4 ⟨rfl, hb⟩
  have HL := hide (bt HL.out hb)
  rw [h4]
  clear hb cR HP HB
  go_wp2
  go_ret
  exact ⟨rfl, HL.out⟩
set_option maxRecDepth 8000 in
set_option maxHeartbeats 3200000 in
theorem Check_ok (w : World) (s : Su) (a : Option Addr) (c : Nat) (hI : Js w a s.rs) (hl : s.rs.length ≤ 4398046511000) (h1 : mayB s.bl s.cl s.rf = true) (h2 : lim s = true) (h3 : rise s.nx s.rs = true) (h4 : s.rs.all (can (pgs s.bl)) = true) :
    Calls Try.prog 17 #[suv s a c] w fun y w' => y = .returned (.int .i64 0) ∧ Below w.heap.size w w' := by
  have HA := hide (al w (.cells (suC s a c) 28))
  have HB := hide (Bx.new w 28 (suC s a c))
  have HI := hide hI
  have HR : Hid ((w.alloc (.cells (suC s a c) 28)).rangeAt w.heap.size 1 [.int .i64 s.bl, .int .i64 s.cl, .int .i64 s.rf]) := World.rangeAt_of_block (Bx.new w 28 (suC s a c)) 1 3
  have PL := hide fun w1 => Plan_any w1 s.bl s.cl s.rf
  have WI := hide fun w1 => within_any w1 s a c
  have IR := hide fun (w1 : World) (hb : Below w.heap.size w w1) => idsRise_any w1 s a c (hI.keep hb) (lim_iff.1 h2).2.1 (by have := (lim_iff.1 h2).2.2; have := (mayB_iff.1 h1).2.1; omega)
  have hpg := pgs_in (mayB_iff.1 h1).1.1 (mayB_iff.1 h1).1.2
  have TR := hide fun (w1 : World) (hb : Below w.heap.size w w1) => trees_any w1 a c s.rs (hI.keep hb) (pgs s.bl) (bnk s.bl) (fsb s.bl) (by omega) hl
  unfold plv at TR
  unfold plA plE cfv plv at PL
  rw [h1] at PL
  simp only [↓reduceIte] at PL
  unfold suv suC at *
  go_enter Try.func17, Try.ntmps17
  go_wp2_with (first | (refine wpList_load_mid rfl 25 _ rfl w.heap.size 1 rfl _ _ HR.out Try.underlying25 rfl sizeCfg ?_))
  refine (PL.out _).mono ?_
  rintro y w1 ⟨rfl, hb⟩
  have HL := hide (bt HA.out hb)
  have HB := hide (HB.out.keep hb)
  have hwl := HB.out.lt
  clear hb HA HR PL
  have HP : Hid (Bx (w1.alloc (.cells #[.int .i64 (pgs s.bl), .int .i64 (bnk s.bl), .int .i64 (fsb s.bl)] 63)) 63 w1.heap.size #[.int .i64 (pgs s.bl), .int .i64 (bnk s.bl), .int .i64 (fsb s.bl)]) := Bx.new w1 63 _
  have HB := hide (HB.out.keep (al w1 (.cells #[.int .i64 (pgs s.bl), .int .i64 (bnk s.bl), .int .i64 (fsb s.bl)] 63)))
  have HL := hide (bt HL.out (al w1 (.cells #[.int .i64 (pgs s.bl), .int .i64 (bnk s.bl), .int .i64 (fsb s.bl)] 63)))
  clear hwl
  go_wp2_with (first | (refine wpList_load_row rfl 28 _ rfl w.heap.size rfl 28 _ (0, 0) _ HB.out Try.underlying28 rfl sizeSuper ?_))
  refine (WI.out _).mono ?_
  rintro y w2 ⟨rfl, hb⟩
  have HL := hide (bt HL.out hb)
  have HB := hide (HB.out.keep hb)
  have HP := hide (HP.out.keep hb)
  rw [h2]
  clear hb
  go_wp2_with (first | (refine wpList_load_row rfl 28 _ rfl w.heap.size rfl 28 _ (0, 0) _ HB.out Try.underlying28 rfl sizeSuper ?_))
  refine (IR.out _ HL.out).mono ?_
  rintro y w3 ⟨rfl, hb⟩
  have HL := hide (bt HL.out hb)
  have HB := hide (HB.out.keep hb)
  have HP := hide (HP.out.keep hb)
  rw [h3]
  clear hb
  have cR := HB.out.cell 5 rfl
  go_wp2_with (first | (refine wpList_load_row rfl 63 _ rfl w1.heap.size rfl 63 _ (0, 0) _ HP.out Try.underlying63 rfl sizePlan ?_))
  refine (TR.out _ HL.out).mono ?_
  rintro y w4 ⟨rfl, hb⟩
  have HL := hide (bt HL.out hb)
  rw [h4]
  clear hb cR HP HB
  go_wp2
  go_ret
  exact ⟨rfl, HL.out⟩
theorem Check_any (w : World) (s : Su) (a : Option Addr) (c : Nat) (hI : Js w a s.rs) (hl : s.rs.length ≤ 4398046511000) :
    Calls Try.prog 17 #[suv s a c] w fun y w' => y = .returned (.int .i64 (chE s : Int)) ∧ Below w.heap.size w w' := by
  unfold chE
  cases h1 : mayB s.bl s.cl s.rf with
  | false => exact Check_cfg w s a c hI h1
  | true =>
    cases h2 : lim s with
    | false => exact Check_lim w s a c hI h1 h2
    | true =>
      cases h3 : rise s.nx s.rs with
      | false => exact Check_ord w s a c hI h1 h2 h3
      | true =>
        cases h4 : s.rs.all (can (pgs s.bl)) with
        | false => exact Check_form w s a c hI hl h1 h2 h3 h4
        | true => exact Check_ok w s a c hI hl h1 h2 h3 h4
end Go.Proofs.Ytifhkfghjifecaa
