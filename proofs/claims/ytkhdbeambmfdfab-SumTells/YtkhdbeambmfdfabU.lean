import Derived.Test.YtkhdbeambmfdfabQ
import Derived.Test.YtkhdbeambmfdfabT
import Derived.BigRegion
namespace Go.Proofs.Ytkhdbeambmfdfab
open Go.RowKit

/-- a block whose first cells are the bytes of c -/
def OwnB (w : World) (g : Nat) (c : List Nat) : Prop := ∃ cur, w.heap[g]? = some (.cells cur 5 (0, 0)) ∧ ∀ i, i < c.length → cur[i]? = some (.int .u8 ((c.getD i 0 : Nat) : Int))
theorem OwnB.cell {w : World} {g : Nat} {c : List Nat} (h : OwnB w g c) {i : Nat} (hi : i < c.length) : w.cell? ⟨g, i, none⟩ = some (.int .u8 ((c.getD i 0 : Nat) : Int)) := by
  obtain ⟨cur, hg, hc⟩ := h
  rw [cell_of_row _ _ _ _ _ _ hg, hc i hi]
theorem OwnB.frozen {w : World} {g : Nat} {c : List Nat} (h : OwnB w g c) (i : Nat) : w.frozen? ⟨g, i, none⟩ = false := by
  obtain ⟨cur, hg, hc⟩ := h
  exact frozen_of_row w g i _ _ hg
theorem OwnB.set {w : World} {g : Nat} {c : List Nat} (h : OwnB w g c) {i : Nat} (hi : i < c.length) (v : Nat) : OwnB (w.setCell ⟨g, i, none⟩ (.int .u8 (v : Int))) g (c.set i v) := by
  obtain ⟨cur, hg, hc⟩ := h
  refine ⟨_, heap_setCell_same w g i _ _ _ hg, ?_⟩
  intro j hj
  rw [List.length_set] at hj
  have hsz : i < cur.size := by
    have := hc i hi
    exact (Array.getElem?_eq_some_iff.1 this).1
  rw [Array.getElem?_setIfInBounds]
  by_cases e : i = j
  · subst e; simp [hsz, hi]
  · simp [e, hc j hj]
theorem OwnB.drew {w : World} {g : Nat} {c : List Nat} (h : OwnB w g c) : OwnB w.drew g c := h
theorem OwnB.bs {w : World} {g : Nat} {c : List Nat} (h : OwnB w g c) (hl : ∀ x ∈ c, x < 256) (hlen : c.length ≤ 9223372036854775807) : Bs w (some ⟨g, 0, none⟩) c :=
  ⟨hl, hlen, .inr ⟨g, 0, rfl, fun i hi => by rw [Nat.zero_add]; exact h.cell hi⟩⟩
theorem Owns.ownB {B : Nat} {w : World} {v : Value} {l : List Nat} (h : Owns B w v l) (h0 : l ≠ []) : ∃ g cap, v = .slice (some ⟨g, 0, none⟩) l.length cap ∧ B ≤ g ∧ OwnB w g l ∧ l.length ≤ cap := by
  obtain ⟨h1, h2⟩ := h
  rcases h2 with ⟨rfl, h3⟩ | ⟨g, cap, cur, rfl, hb, hg, hn, hc, hsz, htake⟩
  · exact absurd (List.length_eq_zero_iff.1 h3) h0
  · refine ⟨g, cap, rfl, hb, ⟨cur, hg, fun i hi => ?_⟩, hn⟩
    have e1 : (cur.toList.take (l.length * 1))[i]? = (vb l)[i]? := by rw [htake]
    rw [List.getElem?_take, if_pos (by omega)] at e1
    have e2 : (vb l)[i]? = some (.int .u8 ((l.getD i 0 : Nat) : Int)) := by simp [vb, hi]
    rw [← e2, ← e1]
    simp
theorem xor8 (a b : Nat) (ha : a < 256) (hb : b < 256) : bits .xor .u8 (a : Int) (b : Int) = ((a ^^^ b : Nat) : Int) := u8_xor_nat a b ha hb

theorem set_lt {c : List Nat} {i v : Nat} (hc : ∀ x ∈ c, x < 256) (hv : v < 256) : ∀ x ∈ c.set i v, x < 256 := fun x hx => by
  rcases List.mem_or_eq_of_mem_set hx with h | h
  · exact hc x h
  · omega

theorem pow8_lt {j : Nat} (h : j < 8) : 2 ^ j < 256 := Nat.pow_lt_pow_right (n := 8) (by decide) h
theorem xor_lt8 {x j : Nat} (hx : x < 256) (hj : j < 8) : x ^^^ 2 ^ j < 256 := Nat.xor_lt_two_pow (n := 8) hx (pow8_lt hj)
theorem xor_pow8 (x j : Nat) (hx : x < 256) (hj : j < 8) : bits .xor .u8 (x : Int) (2 ^ j % 256) = ((x ^^^ 2 ^ j : Nat) : Int) := by
  have hp := pow8_lt hj
  have e : (2 : Int) ^ j % 256 = ((2 ^ j : Nat) : Int) := by
    have e1 : (2 : Int) ^ j = ((2 ^ j : Nat) : Int) := by simp
    rw [e1]
    generalize 2 ^ j = n at hp
    omega
  rw [e]
  exact xor8 x _ hx hp
theorem tst_odd {s k : Nat} (h : s / 2 ^ k % 2 = 1) : (((s : Int) / 2 ^ k).tmod 2 == 0) = false := by
  have e : ((s : Int) / 2 ^ k) = ((s / 2 ^ k : Nat) : Int) := by simp
  rw [e, Int.tmod_eq_emod_of_nonneg (Int.natCast_nonneg _), beq_eq_false_iff_ne]; omega
theorem tst_even {s k : Nat} (h : ¬ s / 2 ^ k % 2 = 1) : (((s : Int) / 2 ^ k).tmod 2 == 0) = true := by
  have e : ((s : Int) / 2 ^ k) = ((s / 2 ^ k : Nat) : Int) := by simp
  rw [e, Int.tmod_eq_emod_of_nonneg (Int.natCast_nonneg _), beq_iff_eq]; omega

set_option maxRecDepth 100000 in
set_option maxHeartbeats 2000000 in
theorem tells_loop (a0 : Option Addr) (cap0 : Nat) (l : List Nat) (f bits : Nat) (w : World) (hB : Bs w a0 l) (hcap : l.length + 0 ≤ 140737488355328) (hf : f ≤ 9223372036854775807) (hb : bits < 4294967296) (hb0 : bits ≠ 0) (hl0 : l ≠ []) :
    Calls Try.prog 7 #[.slice a0 l.length cap0, .int .i64 f, .int .u32 bits] w fun e w' => e = .returned (.bool true) ∧ Below w.heap.size w w' := by
  have hbt : ((bits : Int) == 0) = false := by rw [beq_eq_false_iff_ne]; omega
  have hfd : decide ((f : Int) < 0) = false := by simp
  go_enter Try.func7, Try.ntmps7
  go_wp2_with fail
  refine (fixed_any _).mono ?_
  rintro e w1 ⟨rfl, hb1⟩
  go_wp2_with fail
  refine (joined_any a0 none l.length 0 cap0 0 l [] _ (hB.keep hb1) (Bs.nil _) rfl rfl hcap).mono ?_
  rintro e w2 ⟨v, rfl, hown, hb2⟩
  rw [List.append_nil] at hown
  obtain ⟨g, cap, hv, hg, hO, hgc⟩ := hown.ownB hl0
  have hbel := bt hb1 hb2
  have hg' : w.heap.size ≤ g := by have := hb1.size; omega
  rw [hv]
  clear hown hv hb2 hg
  go_wp2
  go_loopw [8, 9] (fun j _ wx => ∃ (k : Nat) (c : List Nat), k ≤ 32 ∧ j = .int .i64 k ∧ c.length = l.length ∧ (∀ x ∈ c, x < 256) ∧ OwnB wx g c ∧ Below w.heap.size w wx ∧ M.on M.F c = M.on M.F l ^^^ M.st (8 * l.length - f) (bits % 2 ^ k)) (fun j _ _ => 32 - (intOf j).toNat)
  case atStart =>
    refine ⟨0, l, Nat.zero_le _, rfl, rfl, hB.1, hO, hbel, ?_⟩
    rw [Nat.pow_zero, Nat.mod_one, M.st_zero, Nat.xor_zero]
  case round =>
    clear hO hbel
    obtain ⟨k, c, hk, rfl, hcl, hc8, hO, hbel, hon⟩ := hrel
    have Hon := hide hon
    have Hcl := hide hcl
    clear hon hcl
    by_cases hlt : k < 32
    · by_cases hbit : bits / 2 ^ k % 2 = 1
      · by_cases hin : f + k < 8 * l.length
        · have hi1 : (f + k) / 8 < c.length := by rw [Hcl.out]; omega
          have hcell := hO.cell hi1
          have hfro := hO.frozen ((f + k) / 8)
          have ht : (((bits : Int) / 2 ^ k).tmod 2 == 0) = false := tst_odd hbit
          have hx8 : c.getD ((f + k) / 8) 0 < 256 := by rw [getD_at c hi1]; exact hc8 _ (List.getElem_mem _)
          have hI0 : (0 : Int) ≤ ((f : Int) + (k : Int)) / 8 := by omega
          have hI1 : ((f : Int) + (k : Int)) / 8 < (l.length : Int) := by omega
          have hI2 : (f : Int) + (k : Int) < 8 * (l.length : Int) := by omega
          have Hbit := hide hbit
          have Hx := hide (rfl : c.getD ((f + k) / 8) 0 = c.getD ((f + k) / 8) 0)
          clear hbit
          generalize hxx : c.getD ((f + k) / 8) 0 = x at hcell hx8
          have Hxx := hide hxx
          clear hxx Hx
          go_wp2_with fail
          go_region
          rw [xor_pow8 x ((f + k) % 8) hx8 (by omega)]
          go_wp2
          go_roundw
          case rel =>
            refine ⟨k + 1, c.set ((f + k) / 8) (x ^^^ 2 ^ ((f + k) % 8)), by omega, by go_num, by rw [List.length_set]; exact Hcl.out, set_lt hc8 (xor_lt8 hx8 (by omega)), (hO.set hi1 _).drew, (hbel.setCell hg' _).drew, ?_⟩
            rw [← Hxx.out, M.on_set _ _ _ _ hi1, Hcl.out, M.bit_at l.length (f + k) ((f + k) / 8) ((f + k) % 8) k f (by omega) rfl hin, Hon.out, Nat.xor_assoc, ← M.st_xor, M.mod_succ_xor, if_pos Hbit.out]
          case measure => simp [intOf]; omega
        · have ht : (((bits : Int) / 2 ^ k).tmod 2 == 0) = false := tst_odd hbit
          have hI2 : 8 * (l.length : Int) - 1 - (k : Int) < (f : Int) := by omega
          go_wp2
          go_ret
          exact ⟨rfl, hbel⟩
      · have ht : (((bits : Int) / 2 ^ k).tmod 2 == 0) = true := tst_even hbit
        have Hbit := hide hbit
        clear hbit
        go_wp2
        go_roundw
        case rel =>
          refine ⟨k + 1, c, by omega, by go_num, Hcl.out, hc8, hO, hbel, ?_⟩
          rw [Hon.out, M.mod_succ_xor, if_neg Hbit.out, Nat.xor_zero]
        case measure => simp [intOf]; omega
    · obtain rfl : k = 32 := by omega
      have Hne := hide (M.tells l c (8 * l.length - f) bits hb hb0 (by rw [Hon.out, Nat.mod_eq_of_lt hb]))
      have hB1 := hB.keep hbel
      have hlc : c.length ≤ 9223372036854775807 := by rw [Hcl.out]; omega
      go_wp2_with fail
      refine (Of_any a0 l.length cap0 l _ hB1 rfl).mono ?_
      rintro e w3 ⟨rfl, hb3⟩
      go_wp2_with fail
      refine (Of_any (some ⟨g, 0, none⟩) l.length cap c _ ((hO.bs hc8 hlc).keep hb3) Hcl.out.symm).mono ?_
      rintro e w4 ⟨rfl, hb4⟩
      have hne : (((M.of l : Nat) : Int) != ((M.of c : Nat) : Int)) = true := by
        rw [bne_iff_ne]; intro h; exact Hne.out (by omega)
      go_wp2
      go_ret
      exact ⟨rfl, bt (bt hbel hb3) hb4⟩

set_option maxRecDepth 100000 in
set_option maxHeartbeats 2000000 in
theorem tells_nil (a0 : Option Addr) (cap0 : Nat) (f bits : Nat) (w : World) (hB : Bs w a0 []) (_hf : f ≤ 9223372036854775807) (hb : bits < 4294967296) (hb0 : bits ≠ 0) :
    Calls Try.prog 7 #[.slice a0 0 cap0, .int .i64 f, .int .u32 bits] w fun e w' => e = .returned (.bool true) ∧ Below w.heap.size w w' := by
  have hbt : ((bits : Int) == 0) = false := by rw [beq_eq_false_iff_ne]; omega
  have hfd : decide ((f : Int) < 0) = false := by simp
  go_enter Try.func7, Try.ntmps7
  go_wp2_with fail
  refine (fixed_any _).mono ?_
  rintro e w1 ⟨rfl, hb1⟩
  go_wp2_with fail
  refine (joined_any a0 none 0 0 cap0 0 [] [] _ (hB.keep hb1) (Bs.nil _) rfl rfl (by decide)).mono ?_
  rintro e w2 ⟨v, rfl, hown, hb2⟩
  have hbel := bt hb1 hb2
  clear hown hb2
  go_wp2
  go_loopw [8, 9] (fun j _ wx => ∃ k : Nat, k ≤ 32 ∧ j = .int .i64 k ∧ Below w.heap.size w wx ∧ bits % 2 ^ k = 0) (fun j _ _ => 32 - (intOf j).toNat)
  case atStart => exact ⟨0, Nat.zero_le _, rfl, hbel, by rw [Nat.pow_zero, Nat.mod_one]⟩
  case round =>
    clear hbel
    obtain ⟨k, hk, rfl, hbel, hm⟩ := hrel
    have Hm := hide hm
    clear hm
    by_cases hlt : k < 32
    · by_cases hbit : bits / 2 ^ k % 2 = 1
      · have ht : (((bits : Int) / 2 ^ k).tmod 2 == 0) = false := tst_odd hbit
        have hI2 : 8 * (0 : Int) - 1 - (k : Int) < (f : Int) := by omega
        go_wp2
        go_ret
        exact ⟨rfl, hbel⟩
      · have ht : (((bits : Int) / 2 ^ k).tmod 2 == 0) = true := tst_even hbit
        have Hbit := hide hbit
        clear hbit
        go_wp2
        go_roundw
        case rel =>
          refine ⟨k + 1, by omega, by go_num, hbel, ?_⟩
          rw [M.mod_succ_xor, if_neg Hbit.out, Nat.xor_zero]; exact Hm.out
        case measure => simp [intOf]; omega
    · obtain rfl : k = 32 := by omega
      exact absurd (by have h := Hm.out; rw [Nat.mod_eq_of_lt hb] at h; exact h) hb0

set_option maxHeartbeats 1000000 in
theorem tells_neg (a0 : Option Addr) (n cap0 : Nat) (f : Int) (bits : Nat) (w : World) (hf : f < 0) :
    Calls Try.prog 7 #[.slice a0 n cap0, .int .i64 f, .int .u32 bits] w fun e w' => e = .returned (.bool true) ∧ Below w.heap.size w w' := by
  go_enter Try.func7, Try.ntmps7
  go_wp2_with fail
  refine (fixed_any _).mono ?_
  rintro e w1 ⟨rfl, hb1⟩
  go_wp2
  go_ret
  exact ⟨rfl, hb1⟩
set_option maxHeartbeats 1000000 in
theorem tells_zero (a0 : Option Addr) (n cap0 : Nat) (f : Int) (w : World) (hf : 0 ≤ f) :
    Calls Try.prog 7 #[.slice a0 n cap0, .int .i64 f, .int .u32 0] w fun e w' => e = .returned (.bool true) ∧ Below w.heap.size w w' := by
  have hfd : decide (f < 0) = false := by simp; omega
  go_enter Try.func7, Try.ntmps7
  go_wp2_with fail
  refine (fixed_any _).mono ?_
  rintro e w1 ⟨rfl, hb1⟩
  go_wp2
  go_ret
  exact ⟨rfl, hb1⟩
theorem tells_any (a0 : Option Addr) (cap0 : Nat) (l : List Nat) (f : Int) (bits : Nat) (w : World) (hB : Bs w a0 l) (hcap : l.length + 0 ≤ 140737488355328) (hf : f ≤ 9223372036854775807) (hb : bits < 4294967296) :
    Calls Try.prog 7 #[.slice a0 l.length cap0, .int .i64 f, .int .u32 bits] w fun e w' => e = .returned (.bool true) ∧ Below w.heap.size w w' := by
  by_cases h1 : f < 0
  · exact tells_neg a0 _ cap0 f bits w h1
  · obtain ⟨F, rfl⟩ := Int.eq_ofNat_of_zero_le (show 0 ≤ f by omega)
    by_cases h2 : bits = 0
    · subst h2; exact tells_zero a0 _ cap0 _ w (by omega)
    · by_cases h3 : l = []
      · subst h3; exact tells_nil a0 cap0 F bits w hB (by omega) hb h2
      · exact tells_loop a0 cap0 l F bits w hB hcap (by omega) hb h2 h3
end Go.Proofs.Ytkhdbeambmfdfab
