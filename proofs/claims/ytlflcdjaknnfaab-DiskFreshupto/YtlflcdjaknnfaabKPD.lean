import Derived.Test.YtlflcdjaknnfaabKPC
namespace Go.Proofs.Ytlflcdjaknnfaab
open Go.RowKit

theorem st_room' (nb : Int) (l : List Nat) : (stS nb l).room 0 := by
  obtain ⟨h1, _, _, h4, h5⟩ := st_new nb l
  exact ⟨by omega, by omega, by rw [h1]; exact Nat.le_refl _⟩
theorem Sd.fit.run {S : Sd} (h : S.fit) (L : List Ov) : (S.run L).fit := by
  unfold Sd.run
  induction L generalizing S with
  | nil => exact h
  | cons o L ih => exact ih (h.step o)
set_option maxRecDepth 8000 in
set_option maxHeartbeats 3000000 in
theorem plays_good (w : World) (nb : Int) (a : Option Addr) (l : List Nat) (cap : Nat) (hB : Bs w a l) (hN : l.length + 64 ≤ 140737488355328) (hok : stOk nb l) (aa : Option Addr) (c : Nat) (L : List Ov) (hL : Sp w aa L) :
    Calls Try.prog 3 #[.agg #[.int .i64 nb, .slice a l.length cap], .slice aa L.length c] w fun e w' => e = .returned (.bool true) ∧ Below w.heap.size w w' := by
  obtain ⟨W0, hW0⟩ : ∃ W0, W0 = w.alloc (.cells #[.int .i64 nb, .slice a l.length cap] 24) := ⟨_, rfl⟩
  have HB0 : Hid (Below w.heap.size w W0) := by rw [hW0]; exact al _ _
  have R1 := hide (makes_good W0 nb a l cap (hB.keep HB0.out) hN hok)
  have hN1 := hL.2.1
  have HL := hide hL
  have HRM := hide (st_room' nb l)
  have HFT := hide (st_fit nb l)
  have HW0 := hide hW0
  rw [hW0] at R1
  generalize stS nb l = S at *
  clear hW0 hB hN hok hL
  go_enter Try.func3, Try.ntmps3
  go_wp2_with fail
  refine R1.out.mono ?_
  rintro e w1 ⟨F, G, p, q, rfl, h1⟩
  rw [← HW0.out] at h1
  have HP1 : Hid (Bt w w1 F G p q S S) := ⟨h1.d, h1.m, fun k hk => Nat.le_trans HB0.out.size (h1.f k hk), fun k hk => Nat.le_trans HB0.out.size (h1.g k hk), h1.fg, bt HB0.out h1.b⟩
  clear h1 R1
  go_wp2
  go_loopw [8] (fun i wx => ∃ j : Nat, j ≤ L.length ∧ i = .int .i64 j ∧ (∃ F' G', Bt w wx F' G' p q (S.run (L.take j)) (S.run (L.take j)))) (fun i _ => L.length - (intOf i).toNat)
  case atStart => exact ⟨0, Nat.zero_le _, rfl, F, G, HP1.out⟩
  case round =>
    obtain ⟨j, hj, rfl, F', G', hG⟩ := hrel
    have HG := hide hG
    clear hG HP1
    by_cases hlt : j < L.length
    · have hi : (j : Int) < (L.length : Int) := by omega
      obtain ⟨b, o, rfl, hra, hgo⟩ := (HL.out.keep HG.out.b).at hlt
      have hgw : (L.getD j Ov.zero).good w := HL.out.1 _ (by rw [List.getD_eq_getElem?_getD, List.getElem?_eq_getElem hlt]; exact List.getElem_mem hlt)
      have hrm := HRM.out.run L j hj
      have R2 := hide (plays_any HG.out (HFT.out.run _) (L.getD j Ov.zero) hgw (by have := hrm.1; omega) (by have := hrm.2.1; omega) (by have := hrm.2.2; omega))
      have HS := hide (Sd.run_take S L hlt)
      rw [← HS.out] at R2
      generalize hov : L.getD j Ov.zero = ov at *
      obtain ⟨k, i, aB, B, cB, aK, K, cK⟩ := ov
      have hra' : wr.rangeAt b (o + j * 4) [.int .i64 k, .int .i64 i, .slice aB B.length cB, .slice aK K.length cK] := hra
      have q0 := hra' 0 _ rfl
      have q1 := hra' 1 _ rfl
      have q2 := hra' 2 _ rfl
      have q3 := hra' 3 _ rfl
      rw [Nat.add_zero] at q0
      dsimp only at R2
      clear hra hra' hgo hov hrm hgw HS
      go_wp2_with fail
      refine R2.out.mono ?_
      rintro e w2 ⟨rfl, F2, G2, h2⟩
      have H2 := hide h2.toBt
      clear h2 R2 q0 q1 q2 q3
      go_wp2
      go_roundw
      case rel => exact ⟨j + 1, by omega, by go_num, F2, G2, H2.out⟩
      case measure => simp [intOf]; omega
    · obtain rfl : j = L.length := by omega
      have R3 := hide (works_any wr)
      have HBX := hide HG.out.b
      clear HG
      go_wp2_with fail
      refine R3.out.mono ?_
      rintro e w2 ⟨rfl, hb2⟩
      have HB2 := hide (bt HBX.out hb2)
      clear hb2 R3
      go_wp2
      go_ret
      exact ⟨rfl, HB2.out⟩
set_option maxHeartbeats 2000000 in
theorem plays_bad (w : World) (nb : Int) (a : Option Addr) (l : List Nat) (cap : Nat) (hB : Bs w a l) (hN : l.length + 64 ≤ 140737488355328) (hok : ¬ stOk nb l) (a1 : Option Addr) (n1 c1 : Nat) :
    Calls Try.prog 3 #[.agg #[.int .i64 nb, .slice a l.length cap], .slice a1 n1 c1] w fun e w' => e = .returned (.bool true) ∧ Below w.heap.size w w' := by
  obtain ⟨W0, hW0⟩ : ∃ W0, W0 = w.alloc (.cells #[.int .i64 nb, .slice a l.length cap] 24) := ⟨_, rfl⟩
  have HB0 : Hid (Below w.heap.size w W0) := by rw [hW0]; exact al _ _
  have R1 := hide (makes_bad W0 nb a l cap (hB.keep HB0.out) hN hok)
  have HW0 := hide hW0
  rw [hW0] at R1
  clear hW0 hB hN hok
  go_enter Try.func3, Try.ntmps3
  go_wp2_with fail
  refine R1.out.mono ?_
  rintro e w1 ⟨rfl, hb1⟩
  rw [← HW0.out] at hb1
  have HB1 := hide (bt HB0.out hb1)
  have R3 := hide (works_any w1)
  clear hb1 R1
  go_wp2_with fail
  refine R3.out.mono ?_
  rintro e w2 ⟨rfl, hb2⟩
  have HB2 := hide (bt HB1.out hb2)
  clear hb2 R3
  go_wp2
  go_ret
  exact ⟨rfl, HB2.out⟩
theorem diskPlays_any (w : World) (nb : Int) (a : Option Addr) (l : List Nat) (cap : Nat) (_hnb : N64 nb) (hB : Bs w a l) (hN : l.length + 64 ≤ 140737488355328) (_hC : l.length ≤ cap) (aa : Option Addr) (c : Nat) (L : List Ov) (hL : Sp w aa L) :
    Calls Try.prog 3 #[.agg #[.int .i64 nb, .slice a l.length cap], .slice aa L.length c] w fun e w' => e = .returned (.bool true) ∧ Below w.heap.size w w' := by
  by_cases h : stOk nb l
  · exact plays_good w nb a l cap hB hN h aa c L hL
  · exact plays_bad w nb a l cap hB hN h aa L.length c
end Go.Proofs.Ytlflcdjaknnfaab
