import Derived.Test.YtlneomgjjkfnoabGreatPXX
import Derived.Test.YtlneomgjjkfnoabGreatPMY
import Derived.Test.YtlneomgjjkfnoabGreatPOF
import Derived.Deep.QuietTactic
import Derived.BigQuiet
import Derived.Test.YtlneomgjjkfnoabGreatPME
namespace Go.Proofs.YtlneomgjjkfnoabGreat
open Go.RowKit

set_option maxRecDepth 8000 in
set_option maxHeartbeats 1600000 in
theorem iDecode_no (w : World) (no : Int) (a : Option Addr) (n c : Nat) (b : List Nat) (hi : isNum no = false) :
    Calls Tryz.prog 28 #[.int .i64 no, .slice a n c] w (DecQ w no b) := by
  have h1 : decE no b = 15 := by unfold decE; rw [if_pos hi]
  have HD := hide (fun w' hb => decQ_err (w := w) (w' := w') (no := no) (b := b) (by rw [h1]; decide) hb)
  rw [h1] at HD
  have IN := hide fun w1 => IsPage_any w1 no
  rw [hi] at IN
  have M0 := hide (Bx.new w 27 Pv.zero.cs)
  clear h1 hi
  unfold Pv.zero Pv.cs at M0
  simp only [List.length_nil] at M0
  go_enter Tryz.func28, Tryz.ntmps28
  go_wp2_with (first | (go_at_call 50; refine (IN.out _).mono ?_; rintro y w1 ⟨rfl, hww⟩; obtain rfl := hww.symm) | refine wpList_store_row rfl 27 _ _ rfl w.heap.size _ rfl rfl 27 _ M0.out sizePage rfl (by simp [Value.oneCell']) ?_)
  refine bodyPost_ret (v := .tuple #[.agg _, _, _]) (results_cell_two Tryz.results28 _ _ w.heap.size 27 _ (0, 0) _ rfl (setRow_heap _ _ _ _ _ _ M0.out) Tryz.underlying27 rfl sizePage) rfl ?_
  exact HD.out _ (below_setRow (al _ _) (Nat.le_refl _) _)
set_option maxRecDepth 8000 in
set_option maxHeartbeats 1600000 in
theorem iDecode_len (w : World) (no : Int) (a : Option Addr) (n c : Nat) (b : List Nat) (hn : n = b.length) (hi : isNum no = true) (hl : b.length ≠ 512) :
    Calls Tryz.prog 28 #[.int .i64 no, .slice a n c] w (DecQ w no b) := by
  have h1 : decE no b = 16 := by unfold decE; rw [if_neg (by rw [hi]; simp), if_pos hl]
  have HD := hide (fun w' hb => decQ_err (w := w) (w' := w') (no := no) (b := b) (by rw [h1]; decide) hb)
  rw [h1] at HD
  have IN := hide fun w1 => IsPage_any w1 no
  rw [hi] at IN
  have M0 := hide (Bx.new w 27 Pv.zero.cs)
  have hn5 : (((n : Nat) : Int) == 512) = false := by simp; omega
  clear h1 hi hl hn
  unfold Pv.zero Pv.cs at M0
  simp only [List.length_nil] at M0
  go_enter Tryz.func28, Tryz.ntmps28
  go_wp2_with (first | (go_at_call 50; refine (IN.out _).mono ?_; rintro y w1 ⟨rfl, hww⟩; obtain rfl := hww.symm) | refine wpList_store_row rfl 27 _ _ rfl w.heap.size _ rfl rfl 27 _ M0.out sizePage rfl (by simp [Value.oneCell']) ?_)
  refine bodyPost_ret (v := .tuple #[.agg _, _, _]) (results_cell_two Tryz.results28 _ _ w.heap.size 27 _ (0, 0) _ rfl (setRow_heap _ _ _ _ _ _ M0.out) Tryz.underlying27 rfl sizePage) rfl ?_
  exact HD.out _ (below_setRow (al _ _) (Nat.le_refl _) _)
set_option maxRecDepth 8000 in
set_option maxHeartbeats 1600000 in
theorem iDecode_sum (w : World) (no : Int) (a : Option Addr) (c : Nat) (b : List Nat) (hB : Bs w a b) (hi : isNum no = true) (hl : b.length = 512) (hc : 512 ≤ c) (hs : numV (b.drop 508) ≠ M.of (b.take 508)) :
    Calls Tryz.prog 28 #[.int .i64 no, .slice a 512 c] w (DecQ w no b) := by
  have h1 : decE no b = 6 := by unfold decE; rw [if_neg (by rw [hi]; simp), if_neg (by simpa using hl), if_pos hs]
  have HD := hide (fun w' hb => decQ_err (w := w) (w' := w') (no := no) (b := b) (by rw [h1]; decide) hb)
  rw [h1] at HD
  obtain ⟨bk, off, rfl, _⟩ := hB.at (j := 0) (by omega)
  have IN := hide fun w1 => IsPage_any w1 no
  rw [hi] at IN
  have ht : (b.take 508).length = 508 := by rw [List.length_take]; omega
  have hd4 : (b.drop 508).take 4 = b.drop 508 := List.take_of_length_le (by rw [List.length_drop]; omega)
  have hmo : M.of (b.take 508) < 4294967296 := M.of_lt (hB.take 508).1
  have hnv : numV (b.drop 508) < 4294967296 := by have h := numV_take_lt hB.1 508 4; rw [hd4] at h; omega
  have NS := hide fun (w1 : World) (hb : Below w.heap.size w w1) => number_any w1 (some ⟨bk, off, none⟩) 512 c b (hB.keep hb) hl.symm 508 4 (by decide) (by decide) (by omega) (by rw [hd4]; omega)
  rw [hd4] at NS
  have OF := hide fun (w1 : World) (hb : Below w.heap.size w w1) (c' : Nat) => rOf_any (some ⟨bk, off, none⟩) 508 c' (b.take 508) w1 ((hB.take 508).keep hb) ht.symm
  have M0 := hide (Bx.new w 27 Pv.zero.cs)
  have W0 := hide (al w (.cells Pv.zero.cs 27))
  have h508 : (508 : Int) ≤ (c : Int) := by omega
  have hse : ((numV (b.drop 508) : Nat) : Int) ≠ ((M.of (b.take 508) : Nat) : Int) := by omega
  clear h1 hi hl hB hs ht hd4
  generalize M.of (b.take 508) = mo at *
  generalize numV (b.drop 508) = nv at *
  have hse' : (((nv : Nat) : Int) == ((mo : Nat) : Int)) = false := by simpa using hse
  unfold Pv.zero Pv.cs at M0 W0
  simp only [List.length_nil] at M0 W0
  go_enter Tryz.func28, Tryz.ntmps28
  go_wp2_with (go_at_call 50; refine (IN.out _).mono ?_; rintro y w1 ⟨rfl, hww⟩; obtain rfl := hww.symm)
  go_quiet (first | (go_at_call 53; exact Calls.quiet_of_same (NS.out _ (bt W0.out (drN _ _)))) | (go_at_call 54; exact Calls.quiet_of_same (OF.out _ (bt W0.out (drN _ _)) _)))
  have M1 := hide (M0.out.keep (drN _ nq))
  have W1 := hide (bt W0.out (drN _ nq))
  generalize World.drewN _ nq = v at *
  clear M0 W0 NS OF
  go_wp2_with (refine wpList_store_row rfl 27 _ _ rfl w.heap.size _ rfl rfl 27 _ M1.out sizePage rfl (by simp [Value.oneCell']) ?_)
  refine bodyPost_ret (v := .tuple #[.agg _, _, _]) (results_cell_two Tryz.results28 _ _ w.heap.size 27 _ (0, 0) _ rfl (setRow_heap _ _ _ _ _ _ M1.out) Tryz.underlying27 rfl sizePage) rfl ?_
  exact HD.out _ (below_setRow W1.out (Nat.le_refl _) _)
theorem dec_rest {no : Int} {b : List Nat} (hi : isNum no = true) (hl : b.length = 512) (hs : numV (b.drop 508) = M.of (b.take 508)) (hn : ((numV ((b.drop 2).take 4) : Nat) : Int) = no) : decE no b = if goodB no b = true then 0 else 5 := by
  unfold decE
  rw [if_neg (by rw [hi]; simp), if_neg (by simpa using hl), if_neg (by simpa using hs), if_neg (by simpa using hn)]
theorem good_enc {no : Int} {b : List Nat} (hi : isNum no = true) (h13 : b.getD 13 0 = 0) : goodB no b = true ↔ encE no (gn b) (guess b) = 0 ∧ b = encB no (gn b) (guess b) := by
  rw [goodB_iff, ← Pg.check_zero]
  unfold encB encE
  rw [if_neg (show ¬ isNum no = false by rw [hi]; simp)]
  cases hg : isGen (gn b : Int) with
  | false => simp
  | true =>
    rw [if_neg (by simp)]
    constructor
    · rintro ⟨_, _, h3, h4⟩
      rw [if_pos h3]
      exact ⟨h3, h4.symm⟩
    · rintro ⟨h3, h4⟩
      rw [if_pos h3] at h4
      exact ⟨h13, rfl, h3, h4.symm⟩
theorem gn_lt {b : List Nat} (h8 : ∀ x ∈ b, x < 256) (hl : b.length = 512) (h13 : b.getD 13 0 = 0) : numV ((b.drop 6).take 8) < 72057594037927936 := by
  have h1 := numV_snoc (b.drop 6) 7 (by rw [List.length_drop]; omega)
  have h2 : (b.drop 6).getD 7 0 = b.getD 13 0 := by simp [List.getD_eq_getElem?_getD, List.getElem?_drop]
  have h3 := numV_take_lt h8 6 7
  rw [h2, h13, Nat.zero_mul, Nat.add_zero] at h1
  show numV ((b.drop 6).take (7 + 1)) < _
  rw [h1]
  omega
set_option maxRecDepth 8000 in
set_option maxHeartbeats 1600000 in
theorem iDecode_other (w : World) (no : Int) (a : Option Addr) (c : Nat) (b : List Nat) (hB : Bs w a b) (hi : isNum no = true) (hl : b.length = 512) (hc : 512 ≤ c) (hs : numV (b.drop 508) = M.of (b.take 508)) (hn : ((numV ((b.drop 2).take 4) : Nat) : Int) ≠ no) :
    Calls Tryz.prog 28 #[.int .i64 no, .slice a 512 c] w (DecQ w no b) := by
  have h1 : decE no b = 25 := by unfold decE; rw [if_neg (by rw [hi]; simp), if_neg (by simpa using hl), if_neg (by simpa using hs), if_pos hn]
  have HD := hide (fun w' hb => decQ_err (w := w) (w' := w') (no := no) (b := b) (by rw [h1]; decide) hb)
  rw [h1] at HD
  obtain ⟨bk, off, rfl, _⟩ := hB.at (j := 0) (by omega)
  have IN := hide fun w1 => IsPage_any w1 no
  rw [hi] at IN
  have ht : (b.take 508).length = 508 := by rw [List.length_take]; omega
  have hd4 : (b.drop 508).take 4 = b.drop 508 := List.take_of_length_le (by rw [List.length_drop]; omega)
  have hmo : M.of (b.take 508) < 4294967296 := M.of_lt (hB.take 508).1
  have hnv : numV (b.drop 508) < 4294967296 := by have h := numV_take_lt hB.1 508 4; rw [hd4] at h; omega
  have NS := hide fun (w1 : World) (hb : Below w.heap.size w w1) => number_any w1 (some ⟨bk, off, none⟩) 512 c b (hB.keep hb) hl.symm 508 4 (by decide) (by decide) (by omega) (by rw [hd4]; omega)
  rw [hd4] at NS
  have OF := hide fun (w1 : World) (hb : Below w.heap.size w w1) (c' : Nat) => rOf_any (some ⟨bk, off, none⟩) 508 c' (b.take 508) w1 ((hB.take 508).keep hb) ht.symm
  have M0 := hide (Bx.new w 27 Pv.zero.cs)
  have W0 := hide (al w (.cells Pv.zero.cs 27))
  have h508 : (508 : Int) ≤ (c : Int) := by omega
  have hse : (((M.of (b.take 508) : Nat) : Int) == ((M.of (b.take 508) : Nat) : Int)) = true := by simp
  rw [hs] at NS hnv
  have hn2 := numV_take_lt hB.1 2 4
  have N2 := hide fun (w1 : World) (hb : Below w.heap.size w w1) => number_any w1 (some ⟨bk, off, none⟩) 512 c b (hB.keep hb) hl.symm 2 4 (by decide) (by decide) (by omega) (by omega)
  generalize numV ((b.drop 2).take 4) = nn at *
  clear h1 hi hl hB hs ht hd4
  generalize M.of (b.take 508) = mo at *
  have hne : (((nn : Nat) : Int) == no) = false := by simpa using hn
  unfold Pv.zero Pv.cs at M0 W0
  simp only [List.length_nil] at M0 W0
  go_enter Tryz.func28, Tryz.ntmps28
  go_wp2_with (go_at_call 50; refine (IN.out _).mono ?_; rintro y w1 ⟨rfl, hww⟩; obtain rfl := hww.symm)
  go_quiet (first | (go_at_call 53; exact Calls.quiet_of_same (NS.out _ (bt W0.out (drN _ _)))) | (go_at_call 54; exact Calls.quiet_of_same (OF.out _ (bt W0.out (drN _ _)) _)))
  have M1 := hide (M0.out.keep (drN _ nq))
  have W1 := hide (bt W0.out (drN _ nq))
  generalize World.drewN _ nq = v at *
  clear M0 W0 NS OF
  go_wp2_with (first | (go_at_call 53; refine (N2.out _ W1.out).mono ?_; rintro y w1 ⟨rfl, hww⟩; obtain rfl := hww.symm) | refine wpList_store_row rfl 27 _ _ rfl w.heap.size _ rfl rfl 27 _ M1.out sizePage rfl (by simp [Value.oneCell']) ?_)
  refine bodyPost_ret (v := .tuple #[.agg _, _, _]) (results_cell_two Tryz.results28 _ _ w.heap.size 27 _ (0, 0) _ rfl (setRow_heap _ _ _ _ _ _ M1.out) Tryz.underlying27 rfl sizePage) rfl ?_
  exact HD.out _ (below_setRow W1.out (Nat.le_refl _) _)
set_option maxRecDepth 8000 in
set_option maxHeartbeats 1600000 in
theorem iDecode_form (w : World) (no : Int) (a : Option Addr) (c : Nat) (b : List Nat) (hB : Bs w a b) (hi : isNum no = true) (hl : b.length = 512) (hc : 512 ≤ c) (hs : numV (b.drop 508) = M.of (b.take 508)) (hn : ((numV ((b.drop 2).take 4) : Nat) : Int) = no) (h13 : b.getD 13 0 ≠ 0) :
    Calls Tryz.prog 28 #[.int .i64 no, .slice a 512 c] w (DecQ w no b) := by
  have h1 : decE no b = 5 := by
    rw [dec_rest hi hl hs hn, if_neg]
    intro h
    exact h13 (goodB_iff.1 h).1
  have HD := hide (fun w' hb => decQ_err (w := w) (w' := w') (no := no) (b := b) (by rw [h1]; decide) hb)
  rw [h1] at HD
  obtain ⟨bk, off, rfl, _⟩ := hB.at (j := 0) (by omega)
  have IN := hide fun w1 => IsPage_any w1 no
  rw [hi] at IN
  have ht : (b.take 508).length = 508 := by rw [List.length_take]; omega
  have hd4 : (b.drop 508).take 4 = b.drop 508 := List.take_of_length_le (by rw [List.length_drop]; omega)
  have hmo : M.of (b.take 508) < 4294967296 := M.of_lt (hB.take 508).1
  have hnv : numV (b.drop 508) < 4294967296 := by have h := numV_take_lt hB.1 508 4; rw [hd4] at h; omega
  have NS := hide fun (w1 : World) (hb : Below w.heap.size w w1) => number_any w1 (some ⟨bk, off, none⟩) 512 c b (hB.keep hb) hl.symm 508 4 (by decide) (by decide) (by omega) (by rw [hd4]; omega)
  rw [hd4] at NS
  have OF := hide fun (w1 : World) (hb : Below w.heap.size w w1) (c' : Nat) => rOf_any (some ⟨bk, off, none⟩) 508 c' (b.take 508) w1 ((hB.take 508).keep hb) ht.symm
  have M0 := hide (Bx.new w 27 Pv.zero.cs)
  have W0 := hide (al w (.cells Pv.zero.cs 27))
  have h508 : (508 : Int) ≤ (c : Int) := by omega
  have hse : (((M.of (b.take 508) : Nat) : Int) == ((M.of (b.take 508) : Nat) : Int)) = true := by simp
  rw [hs] at NS hnv
  have hn2 := numV_take_lt hB.1 2 4
  have N2 := hide fun (w1 : World) (hb : Below w.heap.size w w1) => number_any w1 (some ⟨bk, off, none⟩) 512 c b (hB.keep hb) hl.symm 2 4 (by decide) (by decide) (by omega) (by omega)
  generalize numV ((b.drop 2).take 4) = nn at *
  have C13 := hide fun (w1 : World) (hb : Below w.heap.size w w1) => (hB.keep hb).cell (j := 13) (by omega)
  have h8 : b.getD 13 0 < 256 := hB.1 _ (by simp [hl])
  generalize b.getD 13 0 = b13 at *
  have hne : (((nn : Nat) : Int) == no) = true := by simpa using hn
  have hgt : (0 : Int) < ((b13 : Nat) : Int) := by omega
  clear h1 hi hl hB hs ht hd4 hn
  generalize M.of (b.take 508) = mo at *
  unfold Pv.zero Pv.cs at M0 W0
  simp only [List.length_nil] at M0 W0
  go_enter Tryz.func28, Tryz.ntmps28
  go_wp2_with (go_at_call 50; refine (IN.out _).mono ?_; rintro y w1 ⟨rfl, hww⟩; obtain rfl := hww.symm)
  go_quiet (first | (go_at_call 53; exact Calls.quiet_of_same (NS.out _ (bt W0.out (drN _ _)))) | (go_at_call 54; exact Calls.quiet_of_same (OF.out _ (bt W0.out (drN _ _)) _)))
  have M1 := hide (M0.out.keep (drN _ nq))
  have W1 := hide (bt W0.out (drN _ nq))
  generalize World.drewN _ nq = v at *
  clear M0 W0 NS OF
  have c13 := C13.out _ W1.out
  go_wp2_with (first | (go_at_call 53; refine (N2.out _ W1.out).mono ?_; rintro y w1 ⟨rfl, hww⟩; obtain rfl := hww.symm) | refine wpList_store_row rfl 27 _ _ rfl w.heap.size _ rfl rfl 27 _ M1.out sizePage rfl (by simp [Value.oneCell']) ?_)
  refine bodyPost_ret (v := .tuple #[.agg _, _, _]) (results_cell_two Tryz.results28 _ _ w.heap.size 27 _ (0, 0) _ rfl (setRow_heap _ _ _ _ _ _ M1.out) Tryz.underlying27 rfl sizePage) rfl ?_
  exact HD.out _ (below_setRow W1.out (Nat.le_refl _) _)
end Go.Proofs.YtlneomgjjkfnoabGreat

namespace Go.Proofs.YtlneomgjjkfnoabGreat
open Go.RowKit

set_option maxRecDepth 8000 in
set_option maxHeartbeats 6400000 in
theorem iDecode_rest (w : World) (no : Int) (a : Option Addr) (c : Nat) (b : List Nat) (hB : Bs w a b) (hi : isNum no = true) (hl : b.length = 512) (hc : 512 ≤ c) (hs : numV (b.drop 508) = M.of (b.take 508)) (hn : ((numV ((b.drop 2).take 4) : Nat) : Int) = no) (h13 : b.getD 13 0 = 0) :
    Calls Tryz.prog 28 #[.int .i64 no, .slice a 512 c] w (DecQ w no b) := by
  have HG := hide (good_enc hi h13)
  have HE := hide (dec_rest hi hl hs hn)
  have HER := hide (fun (h : ¬ goodB no b = true) w' hb => decQ_err (w := w) (w' := w') (no := no) (b := b) (by rw [HE.out, if_neg h]; decide) hb)
  obtain ⟨bk, off, rfl, _⟩ := hB.at (j := 0) (by omega)
  have IN := hide fun w1 => IsPage_any w1 no
  rw [hi] at IN
  have ht : (b.take 508).length = 508 := by rw [List.length_take]; omega
  have hd4 : (b.drop 508).take 4 = b.drop 508 := List.take_of_length_le (by rw [List.length_drop]; omega)
  have hmo : M.of (b.take 508) < 4294967296 := M.of_lt (hB.take 508).1
  have hnv : numV (b.drop 508) < 4294967296 := by have h := numV_take_lt hB.1 508 4; rw [hd4] at h; omega
  have NS := hide fun (w1 : World) (hb : Below w.heap.size w w1) => number_any w1 (some ⟨bk, off, none⟩) 512 c b (hB.keep hb) hl.symm 508 4 (by decide) (by decide) (by omega) (by rw [hd4]; omega)
  rw [hd4] at NS
  have OF := hide fun (w1 : World) (hb : Below w.heap.size w w1) (c' : Nat) => rOf_any (some ⟨bk, off, none⟩) 508 c' (b.take 508) w1 ((hB.take 508).keep hb) ht.symm
  have M0 := hide (Bx.new w 27 Pv.zero.cs)
  have W0 := hide (al w (.cells Pv.zero.cs 27))
  have h508 : (508 : Int) ≤ (c : Int) := by omega
  have hse : (((M.of (b.take 508) : Nat) : Int) == ((M.of (b.take 508) : Nat) : Int)) = true := by simp
  rw [hs] at NS hnv
  have hn2 := numV_take_lt hB.1 2 4
  have N2 := hide fun (w1 : World) (hb : Below w.heap.size w w1) => number_any w1 (some ⟨bk, off, none⟩) 512 c b (hB.keep hb) hl.symm 2 4 (by decide) (by decide) (by omega) (by omega)
  generalize numV ((b.drop 2).take 4) = nn at *
  have C13 := hide fun (w1 : World) (hb : Below w.heap.size w w1) => (hB.keep hb).cell (j := 13) (by omega)
  have h8 : b.getD 13 0 < 256 := hB.1 _ (by simp [hl])
  rw [h13] at C13
  have hgl := gn_lt hB.1 hl h13
  have N6 := hide fun (w1 : World) (hb : Below w.heap.size w w1) => number_any w1 (some ⟨bk, off, none⟩) 512 c b (hB.keep hb) hl.symm 6 8 (by decide) (by decide) (by omega) (by omega)
  rw [show numV ((b.drop 6).take 8) = gn b from rfl] at N6 hgl
  have GU := hide fun (w1 : World) (hb : Below w.heap.size w w1) => guess_any w1 (some ⟨bk, off, none⟩) c b (hB.keep hb) hl
  have EB := hide (encB_b8 (no := no) (gen := (gn b : Int)) (guess_b8 (show B8 b from hB.1)))
  have EN := hide fun (w1 : World) (P : Pv) (hp : Pi w1 P) => iEncode_any w1 no (gn b) P hp
  have EQ := hide fun (w1 : World) (hb : Below w.heap.size w w1) (a2 : Option Addr) (c2 : Nat) (l2 : List Nat) (h : Bs w1 a2 l2) => EqBytes_any w1 (some ⟨bk, off, none⟩) a2 512 l2.length c c2 b l2 (hB.keep hb) h hl.symm rfl
  have hne : (((nn : Nat) : Int) == no) = true := by simpa using hn
  have HDP := hide (show goodB no b = true → decP no b = guess b ∧ decG no b = gn b ∧ decE no b = 0 from fun h => by
    have h0 : decE no b = 0 := by rw [HE.out, if_pos h]
    unfold decP decG
    rw [if_pos h0, if_pos h0]
    exact ⟨rfl, rfl, h0⟩)
  clear hi hl hB hs ht hd4 hn
  generalize M.of (b.take 508) = mo at *
  generalize gn b = g at *
  unfold Pv.zero Pv.cs at M0 W0
  simp only [List.length_nil] at M0 W0
  go_enter Tryz.func28, Tryz.ntmps28
  go_wp2_with (go_at_call 50; refine (IN.out _).mono ?_; rintro y w1 ⟨rfl, hww⟩; obtain rfl := hww.symm)
  go_quiet (first | (go_at_call 53; exact Calls.quiet_of_same (NS.out _ (bt W0.out (drN _ _)))) | (go_at_call 54; exact Calls.quiet_of_same (OF.out _ (bt W0.out (drN _ _)) _)))
  have M1 := hide (M0.out.keep (drN _ nq))
  have W1 := hide (bt W0.out (drN _ nq))
  generalize World.drewN _ nq = v at *
  clear M0 W0 NS OF
  have c13 := C13.out _ W1.out
  go_wp2_with (first | (go_at_call 53; refine (N2.out _ W1.out).mono ?_; rintro y w1 ⟨rfl, hww⟩; obtain rfl := hww.symm) | fail)
  refine (GU.out _ W1.out).mono ?_
  rintro y w2 ⟨P, rfl, hpg, hpn, hpl, hb2⟩
  have W2 := hide (bt W1.out hb2)
  have M2 := hide (M1.out.keep hb2)
  have PN := hide (hpn.pre W1.out.size)
  have HPG := hide hpg
  have HPL := hide hpl
  clear hb2 M1 hpn hpg hpl GU c13
  go_wp2_with fail
  refine (N6.out _ W2.out).mono ?_
  rintro y w3 ⟨rfl, hww⟩
  obtain rfl := hww.symm
  clear hww N6
  have A3 := hide (al w2 (.cells P.cs 27))
  have M3 := hide (M2.out.keep A3.out)
  have PI := hide ((PN.out.keep A3.out).pi (by have := HPL.out; omega))
  have B3 := hide (Bx.new w2 27 P.cs)
  have EN := hide (EN.out _ P PI.out)
  have W3 := hide (bt W2.out A3.out)
  rw [HPG.out] at EN
  generalize encE no g (guess b) = ee at *
  generalize encB no g (guess b) = eb at *
  obtain ⟨kind, level, aI, cI, items, aD, cD, data, next⟩ := P
  unfold Pv.vl at EN ⊢
  simp only [Pv.cs] at EN A3 M3 B3 W3 PI ⊢
  go_wp2_with fail
  generalize World.alloc w2 _ = w3 at *
  refine EN.out.mono ?_
  rintro y w4 ⟨a4, c4, rfl, o4⟩
  have W4 := hide (bt W3.out o4.b)
  have M4 := hide (M3.out.keep o4.b)
  have B4 := hide (B3.out.keep o4.b)
  have P4 := hide ((PN.out.keep A3.out).keep o4.b)
  have Q4 := hide (EQ.out w4 W4.out a4 c4 eb (o4.bs EB.out))
  clear EN o4 M3 B3 EQ W3 PI PN A3 M2
  by_cases hee : ee = 0
  · have he0 : (((ee : Nat) : Int) == 0) = true := by simpa using hee
    rw [hee]
    go_wp2_with fail
    refine Q4.out.mono ?_
    rintro y w5 ⟨rfl, hb5⟩
    have W5 := hide (bt W4.out hb5)
    have M5 := hide (M4.out.keep hb5)
    have P5 := hide (P4.out.keep hb5)
    obtain ⟨k0, k1, k2, k3, k4⟩ := Bx.page (p := ⟨kind, level, aI, cI, items, aD, cD, data, next⟩) (B4.out.keep hb5)
    dsimp only at k0 k1 k2 k3 k4
    clear hb5 Q4 M4 B4 P4
    by_cases hbe : b = eb
    · have hd : decide (b = eb) = true := decide_eq_true hbe
      obtain ⟨d1, d2, d3⟩ := HDP.out (HG.out.2 ⟨hee, hbe⟩)
      have HD := hide (show ∀ w', Pn w w' ⟨kind, level, aI, cI, items, aD, cD, data, next⟩ → Below w.heap.size w w' → DecQ w no b (.returned (.tuple #[Pv.vl ⟨kind, level, aI, cI, items, aD, cD, data, next⟩, .int .i64 (g : Int), .int .i64 0])) w' from fun w' h1 h2 => ⟨_, by rw [d2, d3]; rfl, by rw [d1]; exact HPG.out, h1, by have h := HPL.out; dsimp only at h ⊢; omega, h2⟩)
      clear d1 d2 d3 HDP HG HER
      rw [hd]
      clear hd hbe
      go_wp2_with (refine wpList_store_row rfl 27 _ _ rfl w.heap.size _ rfl rfl 27 _ M5.out sizePage rfl (by simp [Value.oneCell']) ?_)
      refine bodyPost_ret (v := .tuple #[.agg _, _, _]) (results_cell_two Tryz.results28 _ _ w.heap.size 27 _ (0, 0) _ rfl (setRow_heap _ _ _ _ _ _ M5.out) Tryz.underlying27 rfl sizePage) rfl ?_
      exact HD.out _ (P5.out.row M5.out (by decide) (by decide) _) (below_setRow W5.out (Nat.le_refl _) _)
    · have hd : decide (b = eb) = false := decide_eq_false hbe
      have HD := hide (HER.out fun h => hbe (HG.out.1 h).2)
      have HE5 := hide (show decE no b = 5 by rw [HE.out, if_neg fun h => hbe (HG.out.1 h).2])
      rw [HE5.out] at HD
      clear HDP HG HER HE HE5
      rw [hd]
      clear hd hbe
      go_wp2_with (refine wpList_store_row rfl 27 _ _ rfl w.heap.size _ rfl rfl 27 _ M5.out sizePage rfl (by simp [Value.oneCell']) ?_)
      refine bodyPost_ret (v := .tuple #[.agg _, _, _]) (results_cell_two Tryz.results28 _ _ w.heap.size 27 _ (0, 0) _ rfl (setRow_heap _ _ _ _ _ _ M5.out) Tryz.underlying27 rfl sizePage) rfl ?_
      exact HD.out _ (below_setRow W5.out (Nat.le_refl _) _)
  · have he0 : (((ee : Nat) : Int) == 0) = false := by simpa using hee
    have HD := hide (HER.out fun h => hee (HG.out.1 h).1)
    have HE5 := hide (show decE no b = 5 by rw [HE.out, if_neg fun h => hee (HG.out.1 h).1])
    rw [HE5.out] at HD
    clear HDP HG HER HE HE5 Q4
    go_wp2_with (refine wpList_store_row rfl 27 _ _ rfl w.heap.size _ rfl rfl 27 _ M4.out sizePage rfl (by simp [Value.oneCell']) ?_)
    refine bodyPost_ret (v := .tuple #[.agg _, _, _]) (results_cell_two Tryz.results28 _ _ w.heap.size 27 _ (0, 0) _ rfl (setRow_heap _ _ _ _ _ _ M4.out) Tryz.underlying27 rfl sizePage) rfl ?_
    exact HD.out _ (below_setRow W4.out (Nat.le_refl _) _)
theorem iDecode_any (w : World) (no : Int) (a : Option Addr) (n c : Nat) (b : List Nat) (hB : Bs w a b) (hn : n = b.length) (hc : b.length ≤ c) :
    Calls Tryz.prog 28 #[.int .i64 no, .slice a n c] w (DecQ w no b) := by
  cases hi : isNum no with
  | false => exact iDecode_no w no a n c b hi
  | true =>
    by_cases hl : b.length = 512
    · obtain rfl : n = 512 := by omega
      by_cases hs : numV (b.drop 508) = M.of (b.take 508)
      · by_cases h2 : ((numV ((b.drop 2).take 4) : Nat) : Int) = no
        · by_cases h13 : b.getD 13 0 = 0
          · exact iDecode_rest w no a c b hB hi hl (by omega) hs h2 h13
          · exact iDecode_form w no a c b hB hi hl (by omega) hs h2 h13
        · exact iDecode_other w no a c b hB hi hl (by omega) hs h2
      · exact iDecode_sum w no a c b hB hi hl (by omega) hs
    · exact iDecode_len w no a n c b hn hi hl
end Go.Proofs.YtlneomgjjkfnoabGreat

namespace Go.Proofs.YtlneomgjjkfnoabGreat
open Go.RowKit

end Go.Proofs.YtlneomgjjkfnoabGreat
