import Derived.Test.YtlflcdjaknnfaaaKQ
namespace Go.Proofs.Ytlflcdjaknnfaaa
open Go.RowKit

set_option maxHeartbeats 4000000 in
theorem makes_walk (w : World) (nb : Int) (a : Option Addr) (l : List Nat) (cap : Nat) (hB : Bs w a l) (hN : l.length + 64 ≤ 140737488355328) (hok : stOk nb l) :
    Calls Try.prog 4 #[.agg #[.int .i64 nb, .slice a l.length cap]] w fun e w' => e = .returned (.bool true) ∧ Below w.heap.size w w' := by
  have HB0 := hide (al w (.cells #[.int .i64 nb, .slice a l.length cap] 37))
  have R1 := hide (makes_good (w.alloc (.cells #[.int .i64 nb, .slice a l.length cap] 37)) nb a l cap (hB.keep (al _ _)) hN hok)
  obtain ⟨hu, hpw, _, hwr, hsy⟩ := st_new nb l
  generalize stS nb l = S at *
  have hat : S.at.length = 0 := by rw [S.at_len, hu]; rfl
  clear hB hN hok
  go_enter Try.func4, Try.ntmps4
  go_wp2_with fail
  refine R1.out.mono ?_
  rintro e w1 ⟨F, G, p, q, rfl, h1⟩
  have H1 := hide h1
  have HB1 := hide (bt HB0.out h1.b)
  clear h1 R1
  go_wp2_with fail
  go_at_call 12
  refine (works_any w1).mono ?_
  rintro e w2 ⟨rfl, hb2⟩
  have H2 := hide (H1.out.keep hb2)
  have HB2 := hide (bt HB1.out hb2)
  have R3 := hide (kActs H2.out.d)
  rw [hwr, hsy] at R3
  clear hb2 H1
  go_wp2_with fail
  refine R3.out.mono ?_
  rintro e w3 ⟨rfl, hb3⟩
  have H3 := hide (H2.out.keep (bt hb3 (drw w3)))
  have HB3 := hide (bt HB2.out (bt hb3 (drw w3)))
  clear hb3 H2 R3
  obtain ⟨la, lc, wa, wc, A, hM⟩ := H3.out.m
  have c0 : w3.drew.cell? ⟨q, 0, none⟩ = some (.slice (some ⟨la, 0, none⟩) S.img.length lc) := hM.cell 0
  have HL := hide hM.l
  have hlt := hide hM.ok.imgLt
  have R4 := hide (kBlocks H3.out.d)
  have R5 := hide (hBlocks_any H3.out.m)
  have R6 := hide (kIsOn H3.out.d)
  have R7 := hide (kUnsynced H3.out.d)
  rw [hpw] at R6
  rw [hat] at R7
  clear hM
  have HD := hide H3.out.d
  clear H3
  generalize hn : S.n = n at *
  generalize himg : S.img = I at *
  have HI := hide himg
  clear hn himg
  go_wp2_with fail
  go_region_held3 (fun V => V.cell? ⟨q, 0, none⟩ = some (.slice (some ⟨la, 0, none⟩) I.length lc))
    (first | exact c0 | exact c5 | exact c6 | exact c7)
    (first
      | (go_at_call 18; refine R4.out.mono ?_; rintro e wq ⟨rfl, e1⟩; have e1 := e1.symm; subst e1)
      | (go_at_call 19; refine R5.out.mono ?_; rintro e wq ⟨rfl, e1⟩; have e1 := e1.symm; subst e1)
      | (go_at_call 20; refine R6.out.mono ?_; rintro e wq ⟨rfl, e1⟩; have e1 := e1.symm; subst e1)
      | (go_at_call 21; refine R7.out.mono ?_; rintro e w5 ⟨rfl, hi5, hb5⟩; have c5 := (hb5.cell (p := ⟨q, 0, none⟩) (block_lt_of_cell c0)).trans c0; have HB5 := hide (bt HB3.out hb5); have HL5 := hide (HL.out.keep hb5); have R8 := hide (kImage (HD.out.keep hb5)); rw [HI.out] at R8; clear hi5 hb5)
      | (go_at_call 14; refine R8.out.mono ?_; rintro e w6 ⟨rfl, hr6, hb6⟩; have c6 := (hb6.cell (p := ⟨q, 0, none⟩) (block_lt_of_cell c5)).trans c5; have HB6 := hide (bt HB5.out hb6); have R9 := hide (EqBytes_same w6 (some ⟨w5.heap.size, 0, none⟩) (some ⟨la, 0, none⟩) I.length I.length I.length lc I (hr6.bs' hlt.out) ((HL5.out.keep hb6).bs' hlt.out) rfl rfl); clear hr6 hb6)
      | (go_at_call 13; refine R9.out.mono ?_; rintro e w7 ⟨rfl, hb7⟩; have c7 := (hb7.cell (p := ⟨q, 0, none⟩) (block_lt_of_cell c6)).trans c6; have HB7 := hide (bt HB6.out hb7); clear hb7))
  all_goals
    go_wp2
    go_ret
    exact ⟨rfl, HB7.out⟩
set_option maxHeartbeats 2000000 in
theorem makes_walk_bad (w : World) (nb : Int) (a : Option Addr) (l : List Nat) (cap : Nat) (hB : Bs w a l) (hN : l.length + 64 ≤ 140737488355328) (hok : ¬ stOk nb l) :
    Calls Try.prog 4 #[.agg #[.int .i64 nb, .slice a l.length cap]] w fun e w' => e = .returned (.bool true) ∧ Below w.heap.size w w' := by
  have HB0 := hide (al w (.cells #[.int .i64 nb, .slice a l.length cap] 37))
  have R1 := hide (makes_bad (w.alloc (.cells #[.int .i64 nb, .slice a l.length cap] 37)) nb a l cap (hB.keep (al _ _)) hN hok)
  clear hB hN hok
  go_enter Try.func4, Try.ntmps4
  go_wp2_with fail
  refine R1.out.mono ?_
  rintro e w1 ⟨rfl, h1⟩
  have HB1 := hide (bt HB0.out h1)
  clear h1 R1
  go_wp2_with fail
  go_at_call 12
  refine (works_any w1).mono ?_
  rintro e w2 ⟨rfl, hb2⟩
  have HB2 := hide (bt HB1.out hb2)
  clear hb2
  go_wp2
  go_ret
  exact ⟨rfl, HB2.out⟩
theorem diskMakes_any (w : World) (nb : Int) (a : Option Addr) (l : List Nat) (cap : Nat) (_hnb : N64 nb) (hB : Bs w a l) (hN : l.length + 64 ≤ 140737488355328) (_hC : l.length ≤ cap) :
    Calls Try.prog 4 #[.agg #[.int .i64 nb, .slice a l.length cap]] w fun e w' => e = .returned (.bool true) ∧ Below w.heap.size w w' := by
  by_cases h : stOk nb l
  · exact makes_walk w nb a l cap hB hN h
  · exact makes_walk_bad w nb a l cap hB hN h
end Go.Proofs.Ytlflcdjaknnfaaa
