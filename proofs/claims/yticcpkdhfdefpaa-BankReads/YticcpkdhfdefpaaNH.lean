import Derived.Test.YticcpkdhfdefpaaNG
import Derived.Laws.StructEq
namespace Go.Proofs.Yticcpkdhfdefpaa
open Go.RowKit

/-! ### one block -/
/-- what Block answers -/
def BkQ (w : World) (gen pages i : Int) (b : List Nat) (y : Ending) (w' : World) : Prop := ∃ a c, y = .returned (.tuple #[.slice a (bkC gen pages i b).length c, .int .i64 (bkE gen pages i b : Int)]) ∧ IOwn w w' a c (bkC gen pages i b)
theorem bkQ_err {w w' : World} {gen pages i : Int} {b : List Nat} (h : bkE gen pages i b ≠ 0) (hb : Below w.heap.size w w') : BkQ w gen pages i b (.returned (.tuple #[.slice none 0 0, .int .i64 (bkE gen pages i b : Int)])) w' :=
  ⟨none, 0, by unfold bkC; rw [if_neg h]; rfl, by unfold bkC; rw [if_neg h]; exact ⟨Ig.nil _, New.none _ _, hb⟩⟩
theorem Rk.below {w v W : World} {rb : Nat} {s : RS} (hb : Below w.heap.size w v) (hr : w.heap.size ≤ rb) (k : Rk v W rb s) : Below w.heap.size w W :=
  ((But.ofBelow (S := fun _ => False) hb).trans k.u fun x hx e => by omega).below fun _ _ h => h
set_option maxRecDepth 8000 in
set_option maxHeartbeats 1600000 in
theorem Block_args (w : World) (gen pages i : Int) (a : Option Addr) (n c : Nat) (b : List Nat) (hp : pages ≤ 9223372036854775807) (ha : argsOk gen pages i = false) :
    Calls Try.prog 20 #[.int .i64 gen, .int .i64 pages, .int .i64 i, .slice a n c] w (BkQ w gen pages i b) := by
  have h1 : bkE gen pages i b = 1 := by unfold bkE; rw [if_pos ha]
  have HD := hide (fun w' hb => bkQ_err (w := w) (w' := w') (gen := gen) (pages := pages) (i := i) (b := b) (by rw [h1]; decide) hb)
  rw [h1] at HD
  have IG := hide fun w1 => nGen_any w1 gen
  have IP := hide fun w1 => nPg_any w1 pages
  have BL := hide fun w1 => Blocks_any w1 pages hp
  unfold argsOk at ha
  cases hg : isGen gen with
  | false =>
    rw [hg] at IG
    clear h1 ha hg
    go_enter Try.func20, Try.ntmps20
    go_wp2_with (go_at_call 26; refine (IG.out _).mono ?_; rintro y w1 ⟨rfl, hww⟩; obtain rfl := hww.symm)
    go_ret2
    exact HD.out _ (Below.refl _ _)
  | true =>
    rw [hg] at IG
    cases hpg : isPg pages with
    | false =>
      rw [hpg] at IP
      clear h1 ha hg hpg
      go_enter Try.func20, Try.ntmps20
      go_wp2_with (first | (go_at_call 26; refine (IG.out _).mono ?_; rintro y w1 ⟨rfl, hww⟩; obtain rfl := hww.symm) | (go_at_call 32; refine (IP.out _).mono ?_; rintro y w1 ⟨rfl, hww⟩; obtain rfl := hww.symm))
      go_ret2
      exact HD.out _ (Below.refl _ _)
    | true =>
      rw [hpg] at IP
      by_cases hi : i < 0
      · have hi' : decide (i < 0) = true := by simpa using hi
        clear h1 ha hg hpg
        go_enter Try.func20, Try.ntmps20
        go_wp2_with (first | (go_at_call 26; refine (IG.out _).mono ?_; rintro y w1 ⟨rfl, hww⟩; obtain rfl := hww.symm) | (go_at_call 32; refine (IP.out _).mono ?_; rintro y w1 ⟨rfl, hww⟩; obtain rfl := hww.symm))
        go_ret2
        exact HD.out _ (Below.refl _ _)
      · have hi' : decide (i < 0) = false := by simpa using hi
        have hin : ((nbl pages.toNat : Nat) : Int) ≤ i := by
          rw [hg, hpg, decide_eq_true (show 0 ≤ i by omega)] at ha
          simp at ha
          omega
        have hin' : decide (((nbl pages.toNat : Nat) : Int) ≤ i) = true := by simpa using hin
        clear h1 ha hg hpg
        generalize ((nbl pages.toNat : Nat) : Int) = N at *
        go_enter Try.func20, Try.ntmps20
        go_wp2_with (first | (go_at_call 26; refine (IG.out _).mono ?_; rintro y w1 ⟨rfl, hww⟩; obtain rfl := hww.symm) | (go_at_call 32; refine (IP.out _).mono ?_; rintro y w1 ⟨rfl, hww⟩; obtain rfl := hww.symm) | (go_at_call 8; refine (BL.out _).mono ?_; rintro y w1 ⟨rfl, hww⟩; obtain rfl := hww.symm))
        go_ret2
        exact HD.out _ (Below.refl _ _)
theorem zerosFin (Z : List Nat) : ((⟨Z, 0⟩ : RS).zeros).fin = if Z.all (· == 0) = true then 0 else 5 := by
  unfold RS.zeros RS.zerosE
  dsimp only
  cases h : Z.all (· == 0) <;> simp [RS.fin]
theorem rdH_of {D : List Nat} (hl : 17 ≤ D.length) : rdH ⟨D.drop 1, 0⟩ = ((numV ((D.drop 1).take 8), numV ((D.drop 9).take 4), numV ((D.drop 13).take 4)), ⟨D.drop 17, 0⟩) := by
  unfold rdH
  rw [get_cut (l := D.drop 1) (by rw [List.length_drop]; omega), List.drop_drop]
  dsimp only
  rw [get_cut (l := D.drop (1 + 8)) (by rw [List.length_drop]; omega), List.drop_drop]
  dsimp only
  rw [get_cut (l := D.drop (1 + 8 + 4)) (by rw [List.length_drop]; omega), List.drop_drop]
/-- the answers of the small calls -/
structure Sm (gen pages i : Nat) : Prop where
  g : ∀ w1, Calls Try.prog 26 #[.int .i64 (gen : Int)] w1 fun e w' => e = .returned (.bool true) ∧ w' = w1
  p : ∀ w1, Calls Try.prog 32 #[.int .i64 (pages : Int)] w1 fun e w' => e = .returned (.bool true) ∧ w' = w1
  b : ∀ w1, Calls Try.prog 8 #[.int .i64 (pages : Int)] w1 fun e w' => e = .returned (.int .i64 (nbl pages : Int)) ∧ w' = w1
  a : argsOk gen pages i = true
theorem sm {gen pages i : Nat} (hg : gen ≤ 1099511627776) (hp : pages ≤ 65536) (hi : i < nbl pages) : Sm gen pages i := by
  refine ⟨fun w1 => ?_, fun w1 => ?_, fun w1 => ?_, argsOk_iff.2 ⟨by omega, by omega, by omega, by simp only [Int.toNat_natCast]; omega⟩⟩
  · have := nGen_any w1 gen
    rwa [isGen_iff.2 (by omega)] at this
  · have := nPg_any w1 pages
    rwa [isPg_iff.2 (by omega)] at this
  · exact Blocks_any w1 pages (by omega)
set_option maxRecDepth 8000 in
set_option maxHeartbeats 6400000 in
theorem Block_len (w : World) (gen pages i : Nat) (a : Option Addr) (n c : Nat) (b : List Nat) (hn : n = b.length) (hl : b.length ≠ 512) (hg : gen ≤ 1099511627776) (hp : pages ≤ 65536) (hi : i < nbl pages) :
    Calls Try.prog 20 #[.int .i64 (gen : Int), .int .i64 (pages : Int), .int .i64 (i : Int), .slice a n c] w (BkQ w gen pages i b) := by
  have S := sm hg hp hi
  have IG := hide S.g
  have IP := hide S.p
  have BL := hide S.b
  have ha := S.a
  have hi' : decide ((i : Int) < 0) = false := by simp
  have hin' : decide (nbl pages ≤ i) = false := by simp; omega
  clear S
  have h1 : bkE gen pages i b = 16 := by unfold bkE; rw [if_neg (by rw [ha]; simp), if_pos hl]
  have HD := hide (fun w' hb => bkQ_err (w := w) (w' := w') (gen := gen) (pages := pages) (i := i) (b := b) (by rw [h1]; decide) hb)
  rw [h1] at HD
  have hn5 : (((n : Nat) : Int) == 512) = false := by simp; omega
  clear h1 ha hl hn hg hp hi
  go_enter Try.func20, Try.ntmps20
  go_wp2_with (first | (go_at_call 26; refine (IG.out _).mono ?_; rintro y w1 ⟨rfl, hww⟩; obtain rfl := hww.symm) | (go_at_call 32; refine (IP.out _).mono ?_; rintro y w1 ⟨rfl, hww⟩; obtain rfl := hww.symm) | (go_at_call 8; refine (BL.out _).mono ?_; rintro y w1 ⟨rfl, hww⟩; obtain rfl := hww.symm))
  go_ret2
  exact HD.out _ (Below.refl _ _)
set_option maxRecDepth 8000 in
set_option maxHeartbeats 6400000 in
theorem Block_sum (w : World) (gen pages i : Nat) (a : Option Addr) (c : Nat) (b : List Nat) (hB : Bs w a b) (hl : b.length = 512) (hc : 512 ≤ c) (hg : gen ≤ 1099511627776) (hp : pages ≤ 65536) (hi : i < nbl pages) (hs : numV (b.drop 508) ≠ M.of (b.take 508)) :
    Calls Try.prog 20 #[.int .i64 (gen : Int), .int .i64 (pages : Int), .int .i64 (i : Int), .slice a 512 c] w (BkQ w gen pages i b) := by
  have S := sm hg hp hi
  have IG := hide S.g
  have IP := hide S.p
  have BL := hide S.b
  have ha := S.a
  have hi' : decide ((i : Int) < 0) = false := by simp
  have hin' : decide (nbl pages ≤ i) = false := by simp; omega
  clear S
  have h1 : bkE gen pages i b = 6 := by unfold bkE; rw [if_neg (by rw [ha]; simp), if_neg (by simpa using hl), if_pos hs]
  have HD := hide (fun w' hb => bkQ_err (w := w) (w' := w') (gen := gen) (pages := pages) (i := i) (b := b) (by rw [h1]; decide) hb)
  rw [h1] at HD
  have OP := hide (Open_no w a c b hB hl hc hs)
  clear h1 ha hl hg hp hi hs hB hc
  go_enter Try.func20, Try.ntmps20
  go_wp2_with (first | (go_at_call 26; refine (IG.out _).mono ?_; rintro y w1 ⟨rfl, hww⟩; obtain rfl := hww.symm) | (go_at_call 32; refine (IP.out _).mono ?_; rintro y w1 ⟨rfl, hww⟩; obtain rfl := hww.symm) | (go_at_call 8; refine (BL.out _).mono ?_; rintro y w1 ⟨rfl, hww⟩; obtain rfl := hww.symm) | (go_at_call 34; refine OP.out.mono ?_; rintro y w1 ⟨rfl, hb1⟩; have T1 := hide hb1; clear hb1))
  go_ret2
  exact HD.out _ T1.out
set_option maxRecDepth 8000 in
set_option maxHeartbeats 6400000 in
theorem Block_tag (w : World) (gen pages i : Nat) (a : Option Addr) (c : Nat) (b : List Nat) (hB : Bs w a b) (hl : b.length = 512) (hc : 512 ≤ c) (hg : gen ≤ 1099511627776) (hp : pages ≤ 65536) (hi : i < nbl pages) (hs : numV (b.drop 508) = M.of (b.take 508)) (ht : numV ((b.take 508).take 1) ≠ 66) :
    Calls Try.prog 20 #[.int .i64 (gen : Int), .int .i64 (pages : Int), .int .i64 (i : Int), .slice a 512 c] w (BkQ w gen pages i b) := by
  have S := sm hg hp hi
  have IG := hide S.g
  have IP := hide S.p
  have BL := hide S.b
  have ha := S.a
  have hi' : decide ((i : Int) < 0) = false := by simp
  have hin' : decide (nbl pages ≤ i) = false := by simp; omega
  clear S
  have h1 : bkE gen pages i b = 5 := by unfold bkE inE; rw [if_neg (by rw [ha]; simp), if_neg (by simpa using hl), if_neg (by simpa using hs), if_pos ht]
  have HD := hide (fun w' hb => bkQ_err (w := w) (w' := w') (gen := gen) (pages := pages) (i := i) (b := b) (by rw [h1]; decide) hb)
  rw [h1] at HD
  have OP := hide (Open_yes w a c b hB hl hc hs)
  have hD : (b.take 508).length = 508 := by rw [List.length_take]; omega
  have G1 : Hid ((⟨b.take 508, 0⟩ : RS).get 1 = (numV ((b.take 508).take 1), ⟨(b.take 508).drop 1, 0⟩)) := get_cut (by omega)
  have ht' : (((numV ((b.take 508).take 1) : Nat) : Int) == 66) = false := by simp; omega
  clear h1 ha hl hg hp hi hs hB hc ht hD
  generalize numV ((b.take 508).take 1) = tg at *
  go_enter Try.func20, Try.ntmps20
  go_wp2_with (first | (go_at_call 26; refine (IG.out _).mono ?_; rintro y w1 ⟨rfl, hww⟩; obtain rfl := hww.symm) | (go_at_call 32; refine (IP.out _).mono ?_; rintro y w1 ⟨rfl, hww⟩; obtain rfl := hww.symm) | (go_at_call 8; refine (BL.out _).mono ?_; rintro y w1 ⟨rfl, hww⟩; obtain rfl := hww.symm))
  refine OP.out.mono ?_
  rintro y v ⟨rb, rfl, hk, hrb, hbv⟩
  have HRB := hide hrb
  have HBV := hide hbv
  have K := hide hk
  clear hk hrb hbv OP
  go_wp2_with fail
  refine (kGet8 K.out).mono ?_
  rintro y w2 ⟨rfl, hk, hb2⟩
  rw [G1.out] at hk ⊢
  dsimp only at hk ⊢
  have K := hide hk
  clear hk hb2
  go_wp2
  go_ret2
  exact HD.out _ (K.out.below HBV.out HRB.out)
set_option maxRecDepth 8000 in
set_option maxHeartbeats 6400000 in
theorem Block_other (w : World) (gen pages i : Nat) (a : Option Addr) (c : Nat) (b : List Nat) (hB : Bs w a b) (hl : b.length = 512) (hc : 512 ≤ c) (hg : gen ≤ 1099511627776) (hp : pages ≤ 65536) (hi : i < nbl pages) (hs : numV (b.drop 508) = M.of (b.take 508)) (ht : numV ((b.take 508).take 1) = 66) (hh : ¬ headIs gen pages i (b.take 508)) :
    Calls Try.prog 20 #[.int .i64 (gen : Int), .int .i64 (pages : Int), .int .i64 (i : Int), .slice a 512 c] w (BkQ w gen pages i b) := by
  have S := sm hg hp hi
  have IG := hide S.g
  have IP := hide S.p
  have BL := hide S.b
  have ha := S.a
  have hi' : decide ((i : Int) < 0) = false := by simp
  have hin' : decide (nbl pages ≤ i) = false := by simp; omega
  clear S
  have h1 : bkE gen pages i b = 25 := by unfold bkE inE; rw [if_neg (by rw [ha]; simp), if_neg (by simpa using hl), if_neg (by simpa using hs), if_neg (by simpa using ht), if_pos hh]
  have HD := hide (fun w' hb => bkQ_err (w := w) (w' := w') (gen := gen) (pages := pages) (i := i) (b := b) (by rw [h1]; decide) hb)
  rw [h1] at HD
  have OP := hide (Open_yes w a c b hB hl hc hs)
  have hD : (b.take 508).length = 508 := by rw [List.length_take]; omega
  have G1 : Hid ((⟨b.take 508, 0⟩ : RS).get 1 = (numV ((b.take 508).take 1), ⟨(b.take 508).drop 1, 0⟩)) := get_cut (by omega)
  have HO := hide fun w1 => headOf_any w1 gen pages i (by omega) (by omega) (by unfold nbl at hi; omega)
  have GH := hide (rdH_of (D := b.take 508) (by omega))
  have HT := hide ht
  unfold headIs at hh
  simp only [Int.toNat_natCast] at hh
  generalize numV (((b.take 508).drop 1).take 8) = hx at *
  generalize numV (((b.take 508).drop 9).take 4) = hy at *
  generalize numV (((b.take 508).drop 13).take 4) = hz at *
  have q1 := beqn hx gen
  have q2 := beqn hy i
  have q3 := beqn hz pages
  clear h1 ha hl hg hp hi hs hB hc ht hD
  by_cases e1 : hx = gen
  · by_cases e2 : hy = i
    · have e3 : ¬ hz = pages := fun e => hh ⟨e1, e2, e⟩
      rw [decide_eq_true e1] at q1
      rw [decide_eq_true e2] at q2
      rw [decide_eq_false e3] at q3
      clear e1 e2 e3 hh
      go_enter Try.func20, Try.ntmps20
      go_wp2_with (first | (go_at_call 26; refine (IG.out _).mono ?_; rintro y w1 ⟨rfl, hww⟩; obtain rfl := hww.symm) | (go_at_call 32; refine (IP.out _).mono ?_; rintro y w1 ⟨rfl, hww⟩; obtain rfl := hww.symm) | (go_at_call 8; refine (BL.out _).mono ?_; rintro y w1 ⟨rfl, hww⟩; obtain rfl := hww.symm))
      refine OP.out.mono ?_
      rintro y v ⟨rb, rfl, hk, hrb, hbv⟩
      have HRB := hide hrb
      have HBV := hide hbv
      have K := hide hk
      clear hk hrb hbv OP
      go_wp2_with fail
      refine (kGet8 K.out).mono ?_
      rintro y w2 ⟨rfl, hk, hb2⟩
      rw [G1.out] at hk ⊢
      dsimp only at hk ⊢
      have K := hide hk
      clear hk hb2
      rw [HT.out]
      go_wp2_with fail
      refine (readHead_any v w2 rb _ K.out).mono ?_
      rintro y w3 ⟨rfl, hk, hb3⟩
      rw [GH.out] at hk ⊢
      dsimp only at hk ⊢
      have K := hide hk
      clear hk hb3
      unfold hdc
      go_wp2_with fail
      refine (HO.out _).mono ?_
      rintro y w4 ⟨rfl, hb4⟩
      have K := hide (K.out.keep hb4)
      clear hb4
      unfold hdc
      have hm : Try.prog.eqGuardType Try.prog.depth 56 = false := by kernel_rfl
      go_wp2
      go_ret2
      exact HD.out _ (K.out.below HBV.out HRB.out)
    · rw [decide_eq_true e1] at q1
      rw [decide_eq_false e2] at q2
      clear e1 e2 hh q3
      go_enter Try.func20, Try.ntmps20
      go_wp2_with (first | (go_at_call 26; refine (IG.out _).mono ?_; rintro y w1 ⟨rfl, hww⟩; obtain rfl := hww.symm) | (go_at_call 32; refine (IP.out _).mono ?_; rintro y w1 ⟨rfl, hww⟩; obtain rfl := hww.symm) | (go_at_call 8; refine (BL.out _).mono ?_; rintro y w1 ⟨rfl, hww⟩; obtain rfl := hww.symm))
      refine OP.out.mono ?_
      rintro y v ⟨rb, rfl, hk, hrb, hbv⟩
      have HRB := hide hrb
      have HBV := hide hbv
      have K := hide hk
      clear hk hrb hbv OP
      go_wp2_with fail
      refine (kGet8 K.out).mono ?_
      rintro y w2 ⟨rfl, hk, hb2⟩
      rw [G1.out] at hk ⊢
      dsimp only at hk ⊢
      have K := hide hk
      clear hk hb2
      rw [HT.out]
      go_wp2_with fail
      refine (readHead_any v w2 rb _ K.out).mono ?_
      rintro y w3 ⟨rfl, hk, hb3⟩
      rw [GH.out] at hk ⊢
      dsimp only at hk ⊢
      have K := hide hk
      clear hk hb3
      unfold hdc
      go_wp2_with fail
      refine (HO.out _).mono ?_
      rintro y w4 ⟨rfl, hb4⟩
      have K := hide (K.out.keep hb4)
      clear hb4
      unfold hdc
      have hm : Try.prog.eqGuardType Try.prog.depth 56 = false := by kernel_rfl
      go_wp2
      go_ret2
      exact HD.out _ (K.out.below HBV.out HRB.out)
  · rw [decide_eq_false e1] at q1
    clear e1 hh q2 q3
    go_enter Try.func20, Try.ntmps20
    go_wp2_with (first | (go_at_call 26; refine (IG.out _).mono ?_; rintro y w1 ⟨rfl, hww⟩; obtain rfl := hww.symm) | (go_at_call 32; refine (IP.out _).mono ?_; rintro y w1 ⟨rfl, hww⟩; obtain rfl := hww.symm) | (go_at_call 8; refine (BL.out _).mono ?_; rintro y w1 ⟨rfl, hww⟩; obtain rfl := hww.symm))
    refine OP.out.mono ?_
    rintro y v ⟨rb, rfl, hk, hrb, hbv⟩
    have HRB := hide hrb
    have HBV := hide hbv
    have K := hide hk
    clear hk hrb hbv OP
    go_wp2_with fail
    refine (kGet8 K.out).mono ?_
    rintro y w2 ⟨rfl, hk, hb2⟩
    rw [G1.out] at hk ⊢
    dsimp only at hk ⊢
    have K := hide hk
    clear hk hb2
    rw [HT.out]
    go_wp2_with fail
    refine (readHead_any v w2 rb _ K.out).mono ?_
    rintro y w3 ⟨rfl, hk, hb3⟩
    rw [GH.out] at hk ⊢
    dsimp only at hk ⊢
    have K := hide hk
    clear hk hb3
    unfold hdc
    go_wp2_with fail
    refine (HO.out _).mono ?_
    rintro y w4 ⟨rfl, hb4⟩
    have K := hide (K.out.keep hb4)
    clear hb4
    unfold hdc
    have hm : Try.prog.eqGuardType Try.prog.depth 56 = false := by kernel_rfl
    go_wp2
    go_ret2
    exact HD.out _ (K.out.below HBV.out HRB.out)
set_option maxRecDepth 8000 in
set_option maxHeartbeats 6400000 in
theorem Block_head (w : World) (gen pages i : Nat) (a : Option Addr) (c : Nat) (b : List Nat) (hB : Bs w a b) (hl : b.length = 512) (hc : 512 ≤ c) (hg : gen ≤ 1099511627776) (hp : pages ≤ 65536) (hi : i < nbl pages) (hs : numV (b.drop 508) = M.of (b.take 508)) (ht : numV ((b.take 508).take 1) = 66) (hh : headIs gen pages i (b.take 508)) :
    Calls Try.prog 20 #[.int .i64 (gen : Int), .int .i64 (pages : Int), .int .i64 (i : Int), .slice a 512 c] w (BkQ w gen pages i b) := by
  have S := sm hg hp hi
  have IG := hide S.g
  have IP := hide S.p
  have BL := hide S.b
  have ha := S.a
  have hi' : decide ((i : Int) < 0) = false := by simp
  have hin' : decide (nbl pages ≤ i) = false := by simp; omega
  clear S
  have h2 : bkE gen pages i b = if ((b.take 508).drop (17 + 2 * cin pages i)).all (· == 0) = true then 0 else 5 := by
    unfold bkE inE
    rw [if_neg (by rw [ha]; simp), if_neg (by simpa using hl), if_neg (by simpa using hs), if_neg (by simpa using ht), if_neg (by simpa using hh)]
    simp only [Int.toNat_natCast]
    by_cases h : ((b.take 508).drop (17 + 2 * cin pages i)).all (· == 0) = true
    · rw [if_neg (by simpa using h), if_pos h]
    · rw [if_pos (by simpa using h), if_neg h]
  have HER := hide (fun (h : bkE gen pages i b ≠ 0) w' hb => bkQ_err (w := w) (w' := w') (gen := gen) (pages := pages) (i := i) (b := b) h hb)
  have HC : Hid (bkE gen pages i b = 0 → bkC gen pages i b = ints (cnt (b.take 508) (cin pages i))) := by
    intro h0; unfold bkC; rw [if_pos h0]; simp only [Int.toNat_natCast]; rfl
  have ZF := hide (zerosFin ((b.take 508).drop (17 + 2 * cin pages i)))
  rw [← h2] at ZF
  have H5 : Hid (bkE gen pages i b = 0 ∨ bkE gen pages i b = 5) := by
    show _ ∨ _
    rw [h2]
    split
    · exact .inl rfl
    · exact .inr rfl
  have CI := hide fun w1 => countsIn_any w1 pages i hp hi
  have hn240 := cin_le pages i
  have HN2 := hide hn240
  have hcl := hide (cnt_length (b.take 508) (cin pages i))
  have HLT := hide (cnt_lt (B8.take hB.1 508) (cin pages i))
  have OP := hide (Open_yes w a c b hB hl hc hs)
  have hD : (b.take 508).length = 508 := by rw [List.length_take]; omega
  have G1 : Hid ((⟨b.take 508, 0⟩ : RS).get 1 = (numV ((b.take 508).take 1), ⟨(b.take 508).drop 1, 0⟩)) := get_cut (by omega)
  have HO := hide fun w1 => headOf_any w1 gen pages i (by omega) (by omega) (by unfold nbl at hi; omega)
  have GH := hide (rdH_of (D := b.take 508) (by omega))
  have HT := hide ht
  have RR := hide fun (v w1 : World) (rb : Nat) (h : Rk v w1 rb ⟨(b.take 508).drop 17, 0⟩) => readRow_any v w1 rb (cin pages i) (b.take 508) h hn240 (by omega)
  obtain ⟨e1, e2, e3⟩ := hh
  simp only [Int.toNat_natCast] at e1 e2 e3
  rw [e1, e2, e3] at GH
  clear h2 ha hl hg hp hi hs hB hc ht hD hn240 e1 e2 e3
  unfold BkQ at *
  generalize bkE gen pages i b = E at *
  generalize bkC gen pages i b = BC at *
  generalize cin pages i = N at *
  generalize b.take 508 = D at *
  generalize hcs : cnt D N = cs at *
  have h240 : cs.length ≤ 240 := by have h1 := hcl.out; have h2 := HN2.out; omega
  go_enter Try.func20, Try.ntmps20
  go_wp2_with (first | (go_at_call 26; refine (IG.out _).mono ?_; rintro y w1 ⟨rfl, hww⟩; obtain rfl := hww.symm) | (go_at_call 32; refine (IP.out _).mono ?_; rintro y w1 ⟨rfl, hww⟩; obtain rfl := hww.symm) | (go_at_call 8; refine (BL.out _).mono ?_; rintro y w1 ⟨rfl, hww⟩; obtain rfl := hww.symm))
  refine OP.out.mono ?_
  rintro y v ⟨rb, rfl, hk, hrb, hbv⟩
  have HRB := hide hrb
  have HBV := hide hbv
  have K := hide hk
  clear hk hrb hbv OP
  go_wp2_with fail
  refine (kGet8 K.out).mono ?_
  rintro y w2 ⟨rfl, hk, hb2⟩
  rw [G1.out] at hk ⊢
  dsimp only at hk ⊢
  have K := hide hk
  clear hk hb2
  rw [HT.out]
  go_wp2_with fail
  refine (readHead_any v w2 rb _ K.out).mono ?_
  rintro y w3 ⟨rfl, hk, hb3⟩
  rw [GH.out] at hk ⊢
  dsimp only at hk ⊢
  have K := hide hk
  clear hk hb3
  unfold hdc
  go_wp2_with fail
  refine (HO.out _).mono ?_
  rintro y w4 ⟨rfl, hb4⟩
  have K := hide (K.out.keep hb4)
  clear hb4
  unfold hdc
  have hm : Try.prog.eqGuardType Try.prog.depth 56 = false := by kernel_rfl
  go_wp2_with (go_at_call 38; refine (CI.out _).mono ?_; rintro y w1 ⟨rfl, hww⟩; obtain rfl := hww.symm)
  refine (RR.out _ _ _ K.out).mono ?_
  rintro y w5 ⟨rfl, hk, hb5⟩
  have K := hide hk
  clear hk hb5 RR
  have HR5 := hide (show rb < w5.heap.size from Nat.lt_of_lt_of_le K.out.blt K.out.size)
  have hz := zeroRow
  go_wp2_with (refine wpList_store_row rfl 62 _ _ rfl w5.heap.size _ rfl rfl 62 (rc []) (heap_alloc_new _ _) (sizeRow h240) (by rw [rc_size h240, rc_size (by simp)]) (rc_all _) ?_)
  rw [World.setRow_alloc_new]
  have BX := hide (Bx.new w5 62 (rc cs))
  have K := hide (K.out.keep (al w5 (.cells (rc cs) 62)))
  have hv5 : Hid (rb ≠ w5.heap.size) := by
    have h1 := K.out.blt
    have h2 := K.out.size
    show _ ≠ _
    intro e
    have h3 := HR5.out
    omega
  generalize w5.alloc (.cells (rc cs) 62) = w6 at *
  refine (kZeros K.out).mono ?_
  rintro y w7 ⟨rfl, hk, hb7⟩
  have BX := hide (BX.out.but hb7 fun e => hv5.out e.symm)
  have K := hide hk
  clear hk hb7
  go_wp2_with fail
  refine (kEnd K.out).mono ?_
  rintro y w8 ⟨rfl, hww⟩
  obtain rfl := hww.symm
  rw [ZF.out]
  by_cases hE : E = 0
  · subst hE
    have HBC := hide (HC.out rfl)
    have RL := hide fun (w1 : World) => Rlist_any w1 cs N hcl.out.symm h240 HLT.out
    go_wp2_with (refine wpList_load_row rfl 62 _ rfl w5.heap.size rfl 62 (rc cs) (0, 0) _ BX.out Try.underlying62 rfl (sizeRow h240) ?_)
    refine (RL.out _).mono ?_
    rintro y w9 ⟨a9, c9, rfl, hO⟩
    have O9 := hide hO
    have HB9 := hide (K.out.below HBV.out HRB.out)
    clear hO
    go_wp2
    go_ret2
    rw [HBC.out, ints_length]
    exact ⟨a9, c9, rfl, O9.out.r, O9.out.n.mono HB9.out.size, bt HB9.out O9.out.b⟩
  · have hE' : (((E : Nat) : Int) == 0) = false := by simpa using hE
    go_wp2
    go_ret2
    have hE5 : (E : Int) = 5 := by rcases H5.out with h | h
                                   · exact absurd h hE
                                   · rw [h]; rfl
    have := HER.out hE _ (K.out.below HBV.out HRB.out)
    rw [hE5] at this ⊢
    exact this
theorem Block_any (w : World) (gen pages i : Int) (a : Option Addr) (n c : Nat) (b : List Nat) (hB : Bs w a b) (hn : n = b.length) (hc : b.length ≤ c) (hp : pages ≤ 9223372036854775807) :
    Calls Try.prog 20 #[.int .i64 gen, .int .i64 pages, .int .i64 i, .slice a n c] w (BkQ w gen pages i b) := by
  cases ha : argsOk gen pages i with
  | false => exact Block_args w gen pages i a n c b hp ha
  | true =>
    obtain ⟨hg, hp, hi, hi2⟩ := argsOk_iff.1 ha
    obtain ⟨g, rfl⟩ : ∃ g : Nat, gen = (g : Int) := ⟨gen.toNat, by omega⟩
    obtain ⟨p, rfl⟩ : ∃ g : Nat, pages = (g : Int) := ⟨pages.toNat, by omega⟩
    obtain ⟨k, rfl⟩ : ∃ g : Nat, i = (g : Int) := ⟨i.toNat, by omega⟩
    simp only [Int.toNat_natCast] at hi2
    by_cases hl : b.length = 512
    · obtain rfl : n = 512 := by omega
      by_cases hs : numV (b.drop 508) = M.of (b.take 508)
      · by_cases ht : numV ((b.take 508).take 1) = 66
        · by_cases hh : headIs g p k (b.take 508)
          · exact Block_head w g p k a c b hB hl (by omega) (by omega) (by omega) (by omega) hs ht hh
          · exact Block_other w g p k a c b hB hl (by omega) (by omega) (by omega) (by omega) hs ht hh
        · exact Block_tag w g p k a c b hB hl (by omega) (by omega) (by omega) (by omega) hs ht
      · exact Block_sum w g p k a c b hB hl (by omega) (by omega) (by omega) (by omega) hs
    · exact Block_len w g p k a n c b hn hl (by omega) (by omega) (by omega)
end Go.Proofs.Yticcpkdhfdefpaa
