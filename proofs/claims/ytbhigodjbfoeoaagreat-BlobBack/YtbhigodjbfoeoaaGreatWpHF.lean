import Derived.Test.YtbhigodjbfoeoaaGreatWpHE
namespace Go.Proofs.YtbhigodjbfoeoaaGreat
set_option linter.unusedVariables false
set_option linter.unusedSimpArgs false
open Go.RowKit
set_option maxHeartbeats 16000000 in
set_option maxRecDepth 16000 in
theorem fixed13_any (w : World) : Calls Tryz.prog 8 #[] w fun e w' => e = .returned (.bool true) ∧ Below w.heap.size w w' := by
  have NW := hide (vNew_yes w 3 2 (by decide))
  have PG := hide fun (W : World) => bPages_any W 481 (by unfold N64; omega)
  obtain ⟨mc, hmc⟩ : ∃ mc, madeCells #[.int .u8 0] 500 = mc := ⟨_, rfl⟩
  have hmk : ∀ w : World, (Instr.makeSlice 32 (.int .i64 500) (.int .i64 500)).run Tryz.prog w = .ok (.slice (some ⟨w.heap.size, 0, none⟩) 500 500) (w.alloc (.cells mc 5)) := by
    rw [← hmc]
    exact make_u8 500 500 (Nat.le_refl _) (by decide)
  have M0 : Hid (mc[499]? = some (.int .u8 0)) := by show _ = _; rw [← hmc]; exact made_at
  have MR := hide fun (w : World) (g : Nat) (h : w.heap[g]? = some (.cells (mc.setIfInBounds 499 (.int .u8 7)) 5 (0, 0))) => l500_row (w := w) (g := g) (by rw [hmc]; exact h)
  obtain ⟨ms, hms⟩ : ∃ ms, mc.setIfInBounds 499 (.int .u8 7) = ms := ⟨_, rfl⟩
  rw [hms] at MR
  have HMS := hide hms
  clear hms
  clear hmc
  have hcv : ∀ (W : World) (C : Array Value) (n c g : Nat), W.heap.size = g → (convert 32 32 (.slice (some ⟨g, 0, none⟩) n c)).run Tryz.prog (W.alloc (.cells C 5)) = .ok (.slice (some ⟨g, 0, none⟩) n c) (W.alloc (.cells C 5 (C.size, C.size + 1))) := by
    intro W C n c g hg
    subst hg
    exact Lib.run_convert_bytes_const W 32 5 C n c Tryz.underlying32 Tryz.underlying5
  go_enter Tryz.func8, Tryz.ntmps8
  go_wp2_with fail
  refine NW.out.mono ?_
  rintro _ w1 ⟨b, rfl, pb, mb, pc, col, hV, hb1, hcol⟩
  have V1 : Hid (Vw w1 b S3 pb mb pc col) := hV
  have B1 := hide hb1
  have CN := hide hcol
  clear hV hb1 hcol NW
  go_upto_region 5 with fail
  have X1 := hide (heap_alloc_new w1 (.cells mc 5))
  have A1 := hide (al w1 (.cells mc 5))
  have c0 : (w1.alloc (.cells mc 5)).cell? ⟨w1.heap.size, 499, none⟩ = some (.int .u8 0) := by rw [cell_of_row _ _ _ _ _ _ X1.out]; exact M0.out
  have f0 : (w1.alloc (.cells mc 5)).frozen? ⟨w1.heap.size, 499, none⟩ = false := frozen_of_row _ _ _ _ _ X1.out
  go_upto_region 6 with fail
  clear c0 f0
  try rw [HMS.out]
  have X2 := hide (heap_alloc_new w1 (.cells ms 5))
  have B2 := hide (al w1 (.cells ms 5))
  have R2 := hide (MR.out _ _ X2.out)
  have hz2 : w1.heap.size < (w1.alloc (.cells ms 5)).heap.size := (Array.getElem?_eq_some_iff.1 X2.out).1
  generalize w1.alloc (.cells ms 5) = w2 at *
  have A3 := hide (al w2 (.cells #[.int .u8 107] 5 (1, 2)))
  have X3 := hide (heap_alloc_new w2 (.cells #[.int .u8 107] 5 (1, 2)))
  have V3 := hide (V1.out.keep (bt B2.out A3.out))
  have ZC : Hid (∀ k, w1.heap.size ≤ k → col k = 0) := fun k hk => V1.out.z hk
  have KB : Hid (Bs (w2.alloc (.cells #[.int .u8 107] 5 (1, 2))) (some ⟨w2.heap.size, 0, none⟩) [107]) := ⟨fun x hx => by have := List.mem_singleton.1 hx; omega, by decide, .inr ⟨_, _, rfl, fun i hi => by
    have : i = 0 := by simpa using hi
    subst this
    rw [cell_of_row _ _ _ _ _ _ X3.out]; rfl⟩⟩
  have ST := hide (Store_ok (w2.alloc (.cells #[.int .u8 107] 5 (1, 2))) b S3 pb mb pc col V3.out (some ⟨w2.heap.size, 0, none⟩) 1 [107] KB.out (fun x hx => by cases hx; exact ZC.out _ (Nat.le_of_lt hz2)) (by decide) (by decide) w1.heap.size 0 500 l500 ((R2.out.bs l500_b8 R2.out.len_le).keep A3.out) (ZC.out _ (Nat.le_refl _)) (Nat.lt_of_lt_of_le hz2 A3.out.size) (by rw [l500_len]; exact Nat.le_refl _) (by rw [l500_len]; decide) (by rw [l500_len]; decide) 2 (by rw [l500_len]) (by decide) (ok_two (by rw [l500_len]; decide) (by rw [l500_len]; decide)))
  rw [l500_len] at ST
  simp only [List.length_cons, List.length_nil, Nat.zero_add] at ST
  go_wp2_with fail
  refine ST.out.mono ?_
  rintro _ w4 ⟨S', x, rfl, xk, xv, xs, hSp, pc', col', hV4, hF4⟩
  obtain ⟨n2, hCh, hP⟩ := spr_two (by rw [l500_len]; decide) (by rw [l500_len]; decide) hSp
  have V4 := hide hV4
  have PP := hide hP
  have CH := hide hCh
  have B4 : Hid (Below w.heap.size w w4) := by
    have f1 := hF4.b
    refine (But.below (S := fun k => k < w4.heap.size ∧ w.heap.size ≤ k) ?_ (fun k hk e => by omega))
    have g1 : But (fun k => 1 ≤ col k ∧ col k ≤ 5) w w4 := (But.ofBelow (S := fun k => 1 ≤ col k ∧ col k ≤ 5) (bt B1.out (bt B2.out A3.out))).trans f1 (fun _ _ e => e)
    exact g1.mono (fun k hk e => by
      have := CN.out k (by show col k ≠ 0; omega)
      omega)
  have A5 := hide (al w4 (.cells x.cs 34))
  have X5 := hide (heap_alloc_new w4 (.cells x.cs 34))
  have LD := hide (Load_ok (w4.alloc (.cells x.cs 34)) b S' pb mb pc' col' (hV4.keep A5.out) l500 (by rw [l500_len]; decide) (by rw [l500_len]; decide) l500_b8 2 (by rw [l500_len]) x (by rw [l500_len]; exact xs) (by rw [n2]; exact hCh))
  rw [l500_len] at LD
  clear hSp hV4 hF4 hCh hP ST KB
  obtain ⟨xK, xcK, xkey, xV, xcV, xval, xch, xsz⟩ := x
  simp only at xk xv xs n2
  subst xs
  subst n2
  subst xv
  subst xk
  unfold Iv.vl at LD ⊢
  simp only [Iv.cs, List.length_nil, List.length_cons, Nat.zero_add] at LD A5 X5 ⊢
  obtain ⟨x0, x1, x2, x3⟩ := four13 X5.out
  go_wp2_with fail
  refine LD.out.mono ?_
  rintro _ w6 ⟨a, c, rfl, hO⟩
  have R6 := hide hO.r
  have B6 := hide (bt B4.out (bt A5.out hO.b))
  have V6 := hide (V4.out.keep (bt A5.out hO.b))
  have X6 := hide (blk13 X5.out hO.b)
  clear hO LD x0 x1 x2 x3
  obtain ⟨ga, oa, ea, hcell⟩ : ∃ g o, a = some ⟨g, o, none⟩ ∧ w6.cell? ⟨g, o + 499, none⟩ = some (.int .u8 7) := by
    have hb := R6.out.bs l500_b8 R6.out.len_le
    rcases hb.2.2 with h0 | ⟨g, o, e, hc⟩
    · have := congrArg List.length h0
      rw [l500_len] at this
      cases this
    · refine ⟨g, o, e, ?_⟩
      have := hc 499 (by rw [l500_len]; decide)
      rw [l500_at] at this
      exact this
  subst ea
  have hcap : Hid (500 ≤ c) := by have := R6.out.cap; rw [l500_len] at this; exact this
  obtain ⟨x0, x1, x2, x3⟩ := four13 X6.out
  have c0 := V6.out.c0
  have TA := hide (show ∀ W : World, Below w6.heap.size w6 W → Calls Tryz.prog 23 #[.pointer (some ⟨pb, 0, none⟩), .int .i64 1] W fun e w' => e = .returned (.int .i64 1) ∧ Below W.heap.size W w' from fun W hb => by
    obtain ⟨ac, cc, aa, ca, hq⟩ := V6.out.keep hb
    have := Q.Tally_any W pb _ _ hq.pool 1
    rw [PP.out] at this
    have e1 : ((P3.alloc.2.alloc.2).pages 1).length = 1 := by decide
    rw [e1] at this
    exact this)
  have hb6 : b < w6.heap.size := by obtain ⟨aa, ca, hx⟩ := V6.out.vx; exact hx.lb
  have p481 : bpn 481 = 2 := by decide
  go_wp2_with fail
  refine (TA.out _ (Below.refl _ _)).mono ?_
  rintro _ w7 ⟨rfl, hb7⟩
  have B7 := hide (bt B6.out hb7)
  clear hb7 TA x0 x1 x2 x3 c0 hcell
  go_wp2_with fail
  refine (PG.out _).mono ?_
  rintro _ w8 ⟨rfl, hw8⟩
  rw [hw8]
  clear hw8
  go_wp2_with fail
  go_ret
  exact ⟨by first | rfl | simp [p481], B7.out⟩
end Go.Proofs.YtbhigodjbfoeoaaGreat
