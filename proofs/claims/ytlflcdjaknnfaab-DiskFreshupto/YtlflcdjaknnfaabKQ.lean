import Derived.Test.YtlflcdjaknnfaabKP
import Derived.Test.YtlflcdjaknnfaabKY
namespace Go.Proofs.Ytlflcdjaknnfaab
open Go.RowKit

/-- is there a disk of this start? -/
def stOk (nb : Int) (l : List Nat) : Prop := if l = [] then 8 ≤ nb ∧ nb ≤ 65536 else l.length % 512 = 0 ∧ 8 ≤ l.length / 512 ∧ l.length / 512 ≤ 65536
/-- the disk of a start -/
def stS (nb : Int) (l : List Nat) : Sd := if l = [] then Sd.new nb.toNat (fun _ => zb) else Sd.of l
theorem st_new (nb : Int) (l : List Nat) : (stS nb l).uns = [] ∧ (stS nb l).pow = true ∧ (stS nb l).alm = -1 ∧ (stS nb l).wr = 0 ∧ (stS nb l).sy = 0 := by
  unfold stS
  split <;> exact ⟨rfl, rfl, rfl, rfl, rfl⟩
/-- both disks of a start -/
structure Both (w w' : World) (F G : Nat → Prop) (p q : Nat) (S : Sd) : Prop where
  d : Dk F w' p S
  m : Hk G w' q S
  f : ∀ k, F k → w.heap.size ≤ k
  g : ∀ k, G k → w.heap.size ≤ k
  fg : ∀ k, F k → ¬ G k
  b : Below w.heap.size w w'
theorem Both.keep {w w' w'' : World} {F G : Nat → Prop} {p q : Nat} {S : Sd} (h : Both w w' F G p q S) (hb : Below w'.heap.size w' w'') : Both w w'' F G p q S :=
  ⟨h.d.keep hb, h.m.keep hb, h.f, h.g, h.fg, bt h.b hb⟩
set_option maxHeartbeats 3000000 in
theorem makes_good (w : World) (nb : Int) (a : Option Addr) (l : List Nat) (cap : Nat) (hB : Bs w a l) (hN : l.length + 64 ≤ 140737488355328) (hok : stOk nb l) :
    Calls Try.prog 5 #[.agg #[.int .i64 nb, .slice a l.length cap]] w fun e w' => ∃ F G p q, e = .returned (.tuple #[.pointer (some ⟨p, 0, none⟩), .pointer (some ⟨q, 0, none⟩), .bool true]) ∧ Both w w' F G p q (stS nb l) := by
  by_cases h0 : l = []
  · subst h0
    obtain ⟨i0, i1⟩ : 8 ≤ nb ∧ nb ≤ 65536 := by unfold stOk at hok; rw [if_pos rfl] at hok; exact hok
    obtain ⟨n, rfl⟩ : ∃ n : Nat, nb = (n : Int) := ⟨nb.toNat, by omega⟩
    have eS : stS (n : Int) [] = Sd.new n (fun _ => zb) := by unfold stS; rw [if_pos rfl]; rfl
    rw [eS]
    have HB0 := hide (al w (.cells #[.int .i64 (n : Int), .slice a 0 cap] 24))
    have R1 := hide (dNew_any (w.alloc (.cells #[.int .i64 (n : Int), .slice a 0 cap] 24)) n (by omega) (by omega))
    clear hok hB hN eS
    go_enter Try.func5, Try.ntmps5
    go_wp2_with fail
    refine R1.out.mono ?_
    rintro e w1 ⟨rfl, h1, hb1⟩
    have c0 : w1.cell? ⟨w.heap.size, 0, none⟩ = some (.int .i64 (n : Int)) := by
      rw [hb1.cell (p := ⟨w.heap.size, 0, none⟩) (show w.heap.size < _ by rw [size_alloc]; omega), cell_of_row _ _ _ _ _ _ (heap_alloc_last w _)]; rfl
    have HD1 : Hid (Dk _ w1 _ _) := ⟨_, _, _, _, h1⟩
    have HB1 := hide (bt HB0.out hb1)
    have R2 := hide (hNew_any w1 n (by omega) (by omega))
    clear h1 hb1 R1
    generalize (w.alloc (.cells #[.int .i64 (n : Int), .slice a 0 cap] 24)).heap.size + 1 + 1 = p at *
    go_wp2_with fail
    refine R2.out.mono ?_
    rintro e w2 ⟨q, rfl, h2, hb2⟩
    have HM := hide h2
    have HB2 := hide hb2
    clear h2 hb2 R2
    go_wp2
    go_ret3
    have hs0 := HB0.out.size
    have hs1 := HB1.out.size
    refine ⟨_, _, p, q, rfl, HD1.out.keep HB2.out, HM.out, fun k hk => ?_, fun k hk => ?_, fun k hk hk2 => ?_, bt HB1.out HB2.out⟩
    · have := ext_none hk; omega
    · have := ext_none hk; omega
    · have := ext_none hk; have := ext_none hk2; omega
  · obtain ⟨i0, i1, i2⟩ : l.length % 512 = 0 ∧ 8 ≤ l.length / 512 ∧ l.length / 512 ≤ 65536 := by unfold stOk at hok; rw [if_neg h0] at hok; exact hok
    have eS : stS nb l = Sd.of l := by unfold stS; rw [if_neg h0]
    rw [eS]
    obtain ⟨W0, hW0⟩ : ∃ W0, W0 = w.alloc (.cells #[.int .i64 nb, .slice a l.length cap] 24) := ⟨_, rfl⟩
    have hb0 : Below w.heap.size w W0 := by rw [hW0]; exact al _ _
    have hs0 : W0.heap.size = w.heap.size + 1 := by rw [hW0, size_alloc]
    have c0 : W0.cell? ⟨w.heap.size, 1, none⟩ = some (.slice a l.length cap) := by rw [hW0, cell_of_row _ _ _ _ _ _ (heap_alloc_last w _)]; rfl
    have R1 := hide (Spare_any W0 a l.length cap l (hB.keep hb0) rfl (by omega))
    have HB := hide hB
    have HB0 := hide hb0
    have hlt := hB.1
    have HC0 := hide c0
    have HS0 := hide hs0
    have hmb : l.length ≤ 140737488355328 := by omega
    have hpos : 0 < l.length := List.length_pos_iff.2 h0
    have HN := hide (show l.length = l.length / 512 * 512 ∧ 8 ≤ l.length / 512 ∧ l.length / 512 ≤ 65536 ∧ l.length + 64 ≤ 140737488355328 from ⟨by omega, i1, i2, hN⟩)
    rw [hW0] at R1
    have HW0 := hide hW0
    clear hb0 hs0 c0 hB hW0 hok eS i0 i1 i2 h0 hN
    obtain ⟨N, hNN⟩ : ∃ N, N = l.length := ⟨_, rfl⟩
    rw [← hNN] at R1 hmb hpos HC0 HN HW0 ⊢
    have HNN := hide hNN
    clear hNN
    have hi0 : (0 : Int) < (N : Int) := by omega
    go_enter Try.func5, Try.ntmps5
    go_wp2_with fail
    refine R1.out.mono ?_
    rintro e w1 ⟨rfl, h1, hb1⟩
    rw [← HW0.out] at h1 hb1
    rw [← HW0.out]
    have c1 := (hb1.cell (p := ⟨w.heap.size, 1, none⟩) (block_lt_of_cell HC0.out)).trans HC0.out
    have HR1 := hide h1
    have HB1 := hide (bt HB0.out hb1)
    have hs1 : W0.heap.size < w1.heap.size := h1.lt
    generalize W0.heap.size = x at *
    have hsp : Bs w1 (some ⟨x, 0, none⟩) l := spare_bs h1 (by rw [HNN.out]; omega) hlt (by rw [← HNN.out]; omega)
    have R2 := hide (dFrom_any w1 (some ⟨x, 0, none⟩) N (N + 64) l (N / 512) hsp HNN.out (by rw [← HNN.out]; exact HN.out.1) HN.out.2.1 HN.out.2.2.1 (by rw [← HNN.out]; omega))
    have HX := hide (show w.heap.size < x by have := HS0.out; omega)
    clear h1 hb1 R1 hsp HS0
    go_wp2_with fail
    refine R2.out.mono ?_
    rintro e w2 ⟨p, bl, bn, rfl, h2, hb2⟩
    have HD2 : Hid (Dk _ w2 p (Sd.of l)) := ⟨_, _, _, _, h2⟩
    have HB2 := hide (bt HB1.out hb2)
    have c2 := (hb2.cell (p := ⟨w.heap.size, 1, none⟩) (block_lt_of_cell c1)).trans c1
    have HR2 := hide (rowIs_below HR1.out hb2)
    have R3 := hide (hFrom_any w2 a N cap l (N / 512) (HB.out.keep HB2.out) HNN.out (by rw [← HNN.out]; exact HN.out.1) HN.out.2.1 HN.out.2.2.1)
    have hs2 := hb2.size
    clear h2 hb2 R2 c1 HR1
    go_wp2_with fail
    refine R3.out.mono ?_
    rintro e w3 ⟨q, rfl, h3, hb3⟩
    have HM3 := hide h3
    have HD3 := hide (HD2.out.keep hb3)
    have HB3 := hide (bt HB2.out hb3)
    have c3 := (hb3.cell (p := ⟨w.heap.size, 1, none⟩) (block_lt_of_cell c2)).trans c2
    have R4 := hide (Kept_any w3 x (N + 64) a N N cap l (rowIs_below HR2.out hb3 |> fun h => by rw [HNN.out]; rw [HNN.out] at h; exact h) (HB.out.keep HB3.out) HNN.out HNN.out (by rw [← HNN.out]) (by rw [← HNN.out]; have := HN.out.2.2.2; omega))
    clear h3 hb3 R3 c2 HR2 HD2
    go_wp2_with fail
    refine R4.out.mono ?_
    rintro e w4 ⟨rfl, hb4⟩
    have HB4 := hide hb4
    clear hb4 R4
    go_wp2
    go_ret3
    refine ⟨_, _, p, q, rfl, HD3.out.keep HB4.out, HM3.out.keep HB4.out, fun k hk => ?_, fun k hk => ?_, fun k hk hk2 => ?_, bt HB3.out HB4.out⟩
    · have := ext_none hk; have := HX.out; omega
    · have := ext_none hk; have := HX.out; omega
    · have := ext_none hk; have := ext_none hk2; omega
set_option maxHeartbeats 3000000 in
theorem makes_bad (w : World) (nb : Int) (a : Option Addr) (l : List Nat) (cap : Nat) (hB : Bs w a l) (hN : l.length + 64 ≤ 140737488355328) (hok : ¬ stOk nb l) :
    Calls Try.prog 5 #[.agg #[.int .i64 nb, .slice a l.length cap]] w fun e w' => e = .returned (.tuple #[.pointer none, .pointer none, .bool true]) ∧ Below w.heap.size w w' := by
  by_cases h0 : l = []
  · subst h0
    have hb : nb < 8 ∨ 65536 < nb := by unfold stOk at hok; rw [if_pos rfl] at hok; omega
    have HB0 := hide (al w (.cells #[.int .i64 nb, .slice a 0 cap] 24))
    have R1 := hide (dNew_bad (w.alloc (.cells #[.int .i64 nb, .slice a 0 cap] 24)) nb hb)
    have R2 := hide (hNew_bad (w.alloc (.cells #[.int .i64 nb, .slice a 0 cap] 24)) nb hb)
    clear hok hB hN hb
    go_enter Try.func5, Try.ntmps5
    go_wp2_with fail
    refine R1.out.mono ?_
    rintro e w1 ⟨rfl, e1⟩
    rw [e1]
    clear e1
    go_wp2_with fail
    refine R2.out.mono ?_
    rintro e w2 ⟨rfl, e2⟩
    rw [e2]
    clear e2
    go_wp2
    go_ret3
    exact ⟨rfl, HB0.out⟩
  · have hb : l.length % 512 ≠ 0 ∨ l.length / 512 < 8 ∨ 65536 < l.length / 512 := by unfold stOk at hok; rw [if_neg h0] at hok; omega
    obtain ⟨W0, hW0⟩ : ∃ W0, W0 = w.alloc (.cells #[.int .i64 nb, .slice a l.length cap] 24) := ⟨_, rfl⟩
    have hb0 : Below w.heap.size w W0 := by rw [hW0]; exact al _ _
    have c0 : W0.cell? ⟨w.heap.size, 1, none⟩ = some (.slice a l.length cap) := by rw [hW0, cell_of_row _ _ _ _ _ _ (heap_alloc_last w _)]; rfl
    have R1 := hide (Spare_any W0 a l.length cap l (hB.keep hb0) rfl (by omega))
    have HB := hide hB
    have HB0 := hide hb0
    have HC0 := hide c0
    have hmb : l.length ≤ 140737488355328 := by omega
    have hpos : 0 < l.length := List.length_pos_iff.2 h0
    have HH := hide hb
    rw [hW0] at R1
    have HW0 := hide hW0
    clear hb0 c0 hB hW0 hok hb h0 hN
    obtain ⟨N, hNN⟩ : ∃ N, N = l.length := ⟨_, rfl⟩
    rw [← hNN] at R1 hmb hpos HC0 HH HW0 ⊢
    have HNN := hide hNN
    clear hNN
    have hi0 : (0 : Int) < (N : Int) := by omega
    go_enter Try.func5, Try.ntmps5
    go_wp2_with fail
    refine R1.out.mono ?_
    rintro e w1 ⟨rfl, h1, hb1⟩
    rw [← HW0.out] at h1 hb1
    rw [← HW0.out]
    have c1 := (hb1.cell (p := ⟨w.heap.size, 1, none⟩) (block_lt_of_cell HC0.out)).trans HC0.out
    have HR1 := hide h1
    have HB1 := hide (bt HB0.out hb1)
    generalize W0.heap.size = x at *
    have R2 := hide (dFrom_bad w1 (some ⟨x, 0, none⟩) N (N + 64) (by omega) HH.out)
    have R3 := hide (hFrom_bad w1 a N cap (by omega) HH.out)
    have R4 := hide (Kept_any w1 x (N + 64) a N N cap l (by rw [HNN.out]; rw [HNN.out] at h1; exact h1) (HB.out.keep HB1.out) HNN.out HNN.out (by rw [← HNN.out]) (by rw [← HNN.out]; omega))
    clear h1 hb1 R1
    go_wp2_with fail
    refine R2.out.mono ?_
    rintro e w2 ⟨rfl, e2⟩
    have e2 := e2.symm
    subst e2
    go_wp2_with fail
    refine R3.out.mono ?_
    rintro e w2 ⟨rfl, e2⟩
    have e2 := e2.symm
    subst e2
    go_wp2_with fail
    refine R4.out.mono ?_
    rintro e w4 ⟨rfl, hb4⟩
    have HB4 := hide hb4
    clear hb4 R4
    go_wp2
    go_ret3
    exact ⟨rfl, bt HB1.out HB4.out⟩
end Go.Proofs.Ytlflcdjaknnfaab
