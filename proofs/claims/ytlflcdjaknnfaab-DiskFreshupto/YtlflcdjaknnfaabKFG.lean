import Derived.Test.YtlflcdjaknnfaabKFF
import Derived.Deep.RegionHeld3
import Derived.Deep.CutRange
import Derived.Deep.CutBlock
set_option linter.unusedVariables false
namespace Go.Proofs.Ytlflcdjaknnfaab
open Go.RowKit

theorem Iw.ig {w : World} {g : Nat} {l : List Nat} (h : Iw w g l) (hm : l.length ≤ 268435456) : Ig w (some ⟨g, 0, none⟩) l.length l := by
  obtain ⟨cur, hg, hs, hc⟩ := h
  refine Ig.mk hg (Nat.le_refl _) (by unfold maxLen; omega) hs ?_
  apply List.ext_getElem?
  intro i
  by_cases hi : i < l.length
  · rw [List.getElem?_take, if_pos hi, vi_get l i hi, ← hc i hi]
    simp
  · rw [List.getElem?_take, if_neg hi, List.getElem?_eq_none (by rw [vi_length]; omega)]
theorem step_ask {S : Sd} {o : Ov} (h1 : o.k ≠ 1) (h2 : o.k ≠ 2) (h3 : o.k ≠ 3) (h4 : o.k ≠ 4) (h5 : o.k ≠ 5) (h10 : o.k ≠ 10) : S.step o = S := by
  unfold Sd.step
  rw [if_neg h1, if_neg h2, if_neg h3, if_neg h4, if_neg h5, if_neg h10]
theorem two_get {a b : Value} {T : TypeId} {w : World} {n : Nat} (h : w.heap[n]? = some (.cells #[a, b] T (0, 0))) : ∀ j u, [a, b][j]? = some u → w.cell? ((⟨n, 0, none⟩ : Addr).add j) = some u := by
  intro j u hu
  rw [Addr.add_mid, cell_of_row _ _ _ _ _ _ h]
  simpa using hu
theorem new_le {w V : World} {a : Option Addr} (h : New V none a) (hs : w.heap.size ≤ V.heap.size) : ∀ x, a = some x → w.heap.size ≤ x.block := by
  intro x hx
  rcases h x hx with ⟨y, hy, _⟩ | h
  · cases hy
  · omega
set_option maxRecDepth 10000 in
set_option maxHeartbeats 16000000 in
theorem fresh_good (w : World) (nb : Int) (a : Option Addr) (l : List Nat) (cap : Nat) (hB : Bs w a l) (hN : l.length + 64 ≤ 140737488355328) (hok : stOk nb l) (aa : Option Addr) (c : Nat) (L : List Ov) (hL : Sp w aa L) :
    Calls Try.prog 4 #[.agg #[.int .i64 nb, .slice a l.length cap], .slice aa L.length c] w fun e w' => e = .returned (.bool true) ∧ Below w.heap.size w w' := by
  obtain ⟨W0, hW0⟩ : ∃ W0, W0 = w.alloc (.cells #[.int .i64 nb, .slice a l.length cap] 24) := ⟨_, rfl⟩
  have HB0 : Hid (Below w.heap.size w W0) := by rw [hW0]; exact al _ _
  have R1 := hide (makes_good W0 nb a l cap (hB.keep HB0.out) hN hok)
  have hN1 := hL.2.1
  have HL := hide hL
  have HRM := hide (st_room' nb l)
  have HFT := hide (st_fit nb l)
  have HW0 := hide hW0
  rw [hW0] at R1
  generalize stS nb l = S at *
  clear hW0 hB hN hok hL
  go_enter Try.func4, Try.ntmps4
  go_wp2_with fail
  refine R1.out.mono ?_
  rintro e w1 ⟨F, G, p, q, rfl, h1⟩
  rw [← HW0.out] at h1
  have HP1 : Hid (Bt w w1 F G p q S S) := ⟨h1.d, h1.m, fun k hk => Nat.le_trans HB0.out.size (h1.f k hk), fun k hk => Nat.le_trans HB0.out.size (h1.g k hk), h1.fg, bt HB0.out h1.b⟩
  have R2 := hide (works_any w1)
  clear h1 R1
  go_wp2_with fail
  refine R2.out.mono ?_
  rintro e w2 ⟨rfl, hb2⟩
  have HP2 := hide (HP1.out.keep hb2)
  clear hb2 R2 HP1
  go_wp2
  go_loopw [8, 9, 10] (fun vb vi i wx => ∃ (j : Nat) (ab ai : Option Addr) (cb ci nT nU : Nat), j ≤ L.length ∧ i = .int .i64 j ∧ vb = .slice ab nT cb ∧ vi = .slice ai nU ci ∧ Fq w wx (fun _ => False) p q (S.run (L.take j)) (S.run (L.take j)) ab cb nT ai ci nU (2 * j)) (fun _ _ i _ => L.length - (intOf i).toNat)
  case atStart => exact ⟨0, none, none, 0, 0, 0, 0, Nat.zero_le _, rfl, rfl, rfl, F, G, (fun _ => False), [], [], HP2.out, Told.nil _ _, rfl, rfl, Nat.zero_le _, Nat.zero_le _, fun k hk => hk.elim, fun k hk => hk.elim⟩
  case round =>
    obtain ⟨j, ab, ai, cb, ci, nT, nU, hj, rfl, rfl, rfl, hG⟩ := hrel
    have HG := hide hG
    clear hG HP2
    by_cases hlt : j < L.length
    · have hi : (j : Int) < (L.length : Int) := by omega
      obtain ⟨b, o, rfl, hra, hgo⟩ := (HL.out.keep HG.out.b).at hlt
      have hgw : (L.getD j Ov.zero).good w := HL.out.1 _ (by rw [List.getD_eq_getElem?_getD, List.getElem?_eq_getElem hlt]; exact List.getElem_mem hlt)
      have hrm := HRM.out.run L j hj
      have HS := hide (Sd.run_take S L hlt)
      have HFR := hide (HFT.out.run (L.take j))
      generalize hov : L.getD j Ov.zero = ov at *
      generalize S.run (L.take j) = S1 at *
      have hrb1 : S1.wr + 1 ≤ 4611686018427387904 := by have := hrm.1; omega
      have hrb2 : S1.sy + 1 ≤ 4611686018427387904 := by have := hrm.2.1; omega
      have hrb3 : S1.uns.length + 1 ≤ 268435437 := by have := hrm.2.2; omega
      have HRB := hide (And.intro hrb1 (And.intro hrb2 hrb3))
      obtain ⟨k, i, aB, B, cB, aK, K, cK⟩ := ov
      have hra' : wr.rangeAt b (o + j * 4) [.int .i64 k, .int .i64 i, .slice aB B.length cB, .slice aK K.length cK] := hra
      have q0 := hra' 0 _ rfl
      have q1 := hra' 1 _ rfl
      have q2 := hra' 2 _ rfl
      have q3 := hra' 3 _ rfl
      rw [Nat.add_zero] at q0
      have hBl : B.length ≤ 1048576 := hgw.bl
      have HGW := hide hgw
      obtain ⟨W1, hW1⟩ : ∃ W1, W1 = wr.alloc (.cells #[.int .i64 k, .int .i64 i, .slice aB B.length cB, .slice aK K.length cK] 34) := ⟨_, rfl⟩
      have hb1 : Below wr.heap.size wr W1 := by rw [hW1]; exact al _ _
      have hx1 : Bx W1 wr.heap.size k i aB B.length cB aK K.length cK := by rw [hW1]; exact box_cells (Below.refl _ _)
      have HC := hide (CopyBytes_any W1 aB B.length cB B (hgw.b.keep (bt HG.out.b hb1)) rfl (by omega))
      have HB1 := hide hb1
      have HX1 := hide hx1
      have HW1 := hide hW1
      rw [hW1] at HC
      have hs1 : W1.heap.size = wr.heap.size + 1 := by rw [hW1, size_alloc]
      have HS1 := hide hs1
      clear hra hra' hgo hgw hov hrm hb1 hx1 hW1 hs1 hrb1 hrb2 hrb3
      go_wp2_with fail
      refine HC.out.mono ?_
      rintro e w2 ⟨a2, c2, rfl, hr2, hn2, hb2⟩
      rw [← HW1.out] at hn2 hb2
      have HR2 := hide hr2
      have HX2 := hide (HX1.out.keep hb2)
      obtain ⟨E, hE⟩ : ∃ E : Nat → Prop, E = fun k => k = wr.heap.size ∨ ∃ x, a2 = some x ∧ x.block = k := ⟨_, rfl⟩
      have HE := hide hE
      have HQ2 : Hid (Fq w w2 E p q S1 S1 ab cb nT ai ci nU (2 * j)) := HG.out.watch (bt HB1.out hb2) (fun k hk => by
        have q1 := hb2.size
        have q2 := HS1.out
        rw [hE] at hk
        rcases hk with rfl | ⟨x, hx, rfl⟩
        · omega
        · have q3 := hr2.lt hx
          rcases hn2 x hx with ⟨y, hy, _⟩ | h
          · cases hy
          · omega)
      have HEN : Hid (E wr.heap.size) := by rw [hE]; exact .inl rfl
      have HEA : Hid (∀ x, a2 = some x → E x.block) := fun x hx => by rw [hE]; exact .inr ⟨x, hx, rfl⟩
      have HEW : Hid (∀ x, a2 = some x → w.heap.size ≤ x.block) := fun x hx => by
        have q1 := HG.out.b.size
        have q2 := HS1.out
        rcases hn2 x hx with ⟨y, hy, _⟩ | h
        · cases hy
        · omega
      obtain ⟨d0, d1, d2, d3⟩ := HX2.out
      have hs2 : wr.heap.size < w2.heap.size := block_lt_of_cell d0
      clear hr2 hn2 hb2 HC q0 q1 q2 q3 hE HG
      obtain ⟨S2, hS2⟩ : ∃ S2, S2 = S1.step ⟨k, i, aB, B, cB, aK, K, cK⟩ := ⟨_, rfl⟩
      rw [← hS2] at HS
      have HS2 := hide hS2
      clear hS2
      go_upto_block 2 with fail
      go_cut [8, 9] from 34 to 149 (fun vb vi wx => ∃ (ab' ai' : Option Addr) (cb' ci' nT' nU' : Nat), vb = .slice ab' nT' cb' ∧ vi = .slice ai' nU' ci' ∧ (Fq w wx E p q S2 S2 ab' cb' nT' ai' ci' nU' (2 * j + 2) ∧ Rw wx a2 c2 B))
      case first =>
        have HRW : Hid (∀ U, But (fun k => ¬ E k) w2 U → Rw U a2 c2 B) := fun U hb => HR2.out.but hb (fun x hx hn => hn (HEA.out x hx))
        have HBX : Hid (∀ U, But (fun k => ¬ E k) w2 U → Bx U wr.heap.size k i aB B.length cB aK K.length cK) := fun U hb => HX2.out.but hb (fun hn => hn HEN.out)
        by_cases k1 : k = 1
        · subst k1
          have HE2 : Hid (S2 = S1.write i B) := HS2.out
          have RR := hide (HQ2.out.write1 i a2 c2 B (HR2.out.bs' HGW.out.b.1) HEA.out (by have := HRB.out.2.2; omega) HRB.out.1)
          go_wp2_with fail
          refine RR.out.mono ?_
          rintro e w3 ⟨rfl, h3, hb3⟩
          obtain ⟨f0, f1, f2, f3⟩ := HBX.out w3 hb3
          have HQ3 := hide h3
          have HB3 := hide hb3
          have R2 := hide (HQ3.out.write2 i aB cB B HGW.out.b (by have := HRB.out.2.2; omega) HRB.out.1)
          clear RR h3 hb3 d0 d1 d2 d3
          go_wp2_with fail
          refine R2.out.mono ?_
          rintro e w4 ⟨rfl, h4, hb4⟩
          have HQ4 := hide (h4.more (Nat.le_add_right (2 * j) 2))
          have HRW4 := hide (HRW.out w4 (HB3.out.trans hb4 (fun _ _ h => h)))
          clear R2 h4 hb4 f0 f1 f2 f3
          go_wp2
          go_meet
          case rel => exact ⟨ab, ai, cb, ci, nT, nU, rfl, rfl, by rw [HE2.out]; exact HQ4.out, HRW4.out⟩
        have k1' := eqf k1
        by_cases k10 : k = 10
        · subst k10
          have HE2 : Hid (S2 = S1.layd i B) := HS2.out
          have RR := hide (HQ2.out.lay1 i a2 c2 B (HR2.out.bs' HGW.out.b.1))
          go_wp2_with fail
          refine RR.out.mono ?_
          rintro e w3 ⟨rfl, h3, hb3⟩
          obtain ⟨f0, f1, f2, f3⟩ := HBX.out w3 hb3
          have HQ3 := hide h3
          have HB3 := hide hb3
          have R2 := hide (HQ3.out.lay2 i aB cB B HGW.out.b)
          clear RR h3 hb3 d0 d1 d2 d3
          go_wp2_with fail
          refine R2.out.mono ?_
          rintro e w4 ⟨rfl, h4, hb4⟩
          have HQ4 := hide (h4.more (Nat.le_add_right (2 * j) 2))
          have HRW4 := hide (HRW.out w4 (HB3.out.trans hb4 (fun _ _ h => h)))
          clear R2 h4 hb4 f0 f1 f2 f3
          go_wp2
          go_meet
          case rel => exact ⟨ab, ai, cb, ci, nT, nU, rfl, rfl, by rw [HE2.out]; exact HQ4.out, HRW4.out⟩
        have k10' := eqf k10
        by_cases k0 : k = 0
        · subst k0
          have HE2 : Hid (S2 = S1) := HS2.out
          have HRD := hide fun (V : World) (hb : Below w2.heap.size w2 V) => (HQ2.out.keep hb).read1 i
          have HRM2 := hide fun (V : World) (hb : Below w2.heap.size w2 V) => (HQ2.out.keep hb).read2 i
          have hlt2 : Hid (∀ x ∈ S1.read i, x < 256) := by
            intro x hx
            unfold Sd.read at hx
            split at hx
            · cases hx
            · split at hx
              · cases hx
              · exact (HQ2.out.ok.show _).2 x hx
          have hln2 : (S1.read i).length ≤ 512 := by
            unfold Sd.read
            split
            · exact Nat.zero_le _
            · split
              · exact Nat.zero_le _
              · rw [(HQ2.out.ok.show _).1]; exact Nat.le_refl _
          generalize S1.read i = I at *
          generalize S1.readE i = e0 at *
          obtain ⟨vs, hvl, hAr, HAD⟩ := HQ2.out.addB
          have HAr := hide hAr
          have hbnd := HQ2.out
          have hnt : nT ≤ 2 * j := by obtain ⟨_, _, _, _, _, _, _, _, _, h5, _⟩ := hbnd; exact h5
          clear hAr hbnd
          have RR := hide (HRD.out w2 (Below.refl _ _))
          go_wp2_with fail
          refine RR.out.mono ?_
          rintro e w3 ⟨a3, c3, rfl, hr3, hn3, hb3⟩
          obtain ⟨f0, f1, f2, f3⟩ := HX2.out.keep hb3
          have H3 := hide (And.intro hr3 (And.intro hn3 hb3))
          have R4 := hide (HRD.out w3 hb3)
          clear hr3 hn3 hb3 RR d0 d1 d2 d3
          go_wp2_with fail
          refine R4.out.mono ?_
          rintro e w4 ⟨a4, c4, rfl, hr4, hn4, hb4⟩
          obtain ⟨g0, g1, g2, g3⟩ := HX2.out.keep (bt H3.out.2.2 hb4)
          have H4 := hide (And.intro hr4 (And.intro hn4 (bt H3.out.2.2 hb4)))
          have HR34 := hide (H3.out.1.keep hb4)
          have R5 := hide (HRM2.out w4 H4.out.2.2)
          clear hr4 hn4 hb4 R4 f0 f1 f2 f3
          go_wp2_with fail
          refine R5.out.mono ?_
          rintro e w5 ⟨a5, c5, rfl, hr5, hn5, hb5⟩
          have H5 := hide (And.intro hr5 hb5)
          have R6 := hide (EqBytes_same w5 a3 a5 I.length I.length c3 c5 I ((HR34.out.keep hb5).bs' hlt2.out) (hr5.bs' hlt2.out) rfl rfl)
          clear hr5 hn5 hb5 R5 g0 g1 g2 g3
          go_wp2_with fail
          refine R6.out.mono ?_
          rintro e w6 ⟨rfl, hb6⟩
          have H6 := hide (bt H5.out.2 hb6)
          have R7 := hide (EqBytes_same w6 a4 a5 I.length I.length c4 c5 I ((H4.out.1.keep H6.out).bs' hlt2.out) ((H5.out.1.keep hb6).bs' hlt2.out) rfl rfl)
          clear hb6 R6
          go_wp2_with fail
          refine R7.out.mono ?_
          rintro e w7 ⟨rfl, hb7⟩
          have H7 := hide (bt H6.out hb7)
          have HB7 := hide (bt H4.out.2.2 H7.out)
          clear hb7 R7
          have HAP := hide (HAr.out.keep (bt HB7.out (al w7 (.cells #[.slice a3 I.length c3, .slice a4 I.length c4] 22))))
          go_wp2_with (at_builtin; refine wpList_apArL rfl _ _ rfl ab nT cb vs rfl hvl.symm HAP.out ⟨w7.heap.size, 0, none⟩ 2 2 [.slice a3 I.length c3, .slice a4 I.length c4] rfl rfl (two_get (heap_alloc_last w7 _)) (by intro u hu; simp only [List.mem_cons, List.not_mem_nil, or_false] at hu; rcases hu with rfl | rfl <;> rfl) (Nat.succ_pos _) (by rw [hvl, List.length_cons, List.length_singleton]; omega) ?_)
          intro g cap' w8 hA8 hN8 hg8
          have HQ8 := hide (HAD.out _ w8 a3 c3 a4 c4 I g cap' (bt HB7.out (al w7 _)) ((HR34.out.keep H7.out).keep (al w7 _)) ((H4.out.1.keep H7.out).keep (al w7 _)) (new_le H3.out.2.1 (Nat.le_refl _)) (new_le H4.out.2.1 H3.out.2.2.size) (fun x y hx hy => by have q1 := H3.out.1.lt hx; have q2 := new_le H4.out.2.1 (Nat.le_refl _) y hy; omega) (by omega) hA8 hN8 hg8)
          clear hA8 hN8 hg8 HAP
          go_wp2
          go_meet
          case rel => exact ⟨some ⟨g, 0, none⟩, ai, cap', ci, nT + 2, nU, rfl, rfl, by rw [HE2.out]; exact HQ8.out.1, HRW.out w8 HQ8.out.2⟩
        have k0' := eqf k0
        by_cases k7 : k = 7
        · subst k7
          have HE2 : Hid (S2 = S1) := HS2.out
          have HRD := hide fun (V : World) (hb : Below w2.heap.size w2 V) => (HQ2.out.keep hb).uns1
          have hla : S1.at.length ≤ 268435436 := by rw [S1.at_len]; have := HRB.out.2.2; omega
          generalize S1.at = I at *
          obtain ⟨vs, hvl, hAr, HAD⟩ := HQ2.out.addI
          have HAr := hide hAr
          have hbnd := HQ2.out
          have hnt : nU ≤ 2 * j := by obtain ⟨_, _, _, _, _, _, _, _, _, _, h6, _⟩ := hbnd; exact h6
          clear hAr hbnd
          have RR := hide (HRD.out w2 (Below.refl _ _))
          obtain ⟨x3, hx3⟩ : ∃ x3, x3 = w2.heap.size := ⟨_, rfl⟩
          rw [← hx3] at RR
          have HX3 := hide hx3
          clear hx3
          go_wp2_with fail
          refine RR.out.mono ?_
          rintro e w3 ⟨rfl, hr3, hb3⟩
          rw [HX3.out] at hb3
          have H3 := hide (And.intro hr3 hb3)
          have R4 := hide (HRD.out w3 hb3)
          obtain ⟨x4, hx4⟩ : ∃ x4, x4 = w3.heap.size := ⟨_, rfl⟩
          rw [← hx4] at R4
          have HX4 := hide hx4
          clear hr3 hb3 RR hx4
          go_wp2_with fail
          refine R4.out.mono ?_
          rintro e w4 ⟨rfl, hr4, hb4⟩
          rw [HX4.out] at hb4
          have H4 := hide (And.intro hr4 (bt H3.out.2 hb4))
          have HR34 := hide (H3.out.1.keep hb4)
          clear hr4 hb4 R4
          have HAP := hide (HAr.out.keep (bt H4.out.2 (al w4 (.cells #[.slice (some ⟨x3, 0, none⟩) I.length I.length, .slice (some ⟨x4, 0, none⟩) I.length I.length] 45))))
          go_wp2_with (at_builtin; refine wpList_apAiL rfl _ _ rfl ai nU ci vs rfl hvl.symm HAP.out ⟨w4.heap.size, 0, none⟩ 2 2 [.slice (some ⟨x3, 0, none⟩) I.length I.length, .slice (some ⟨x4, 0, none⟩) I.length I.length] rfl rfl (two_get (heap_alloc_last w4 _)) (by intro u hu; simp only [List.mem_cons, List.not_mem_nil, or_false] at hu; rcases hu with rfl | rfl <;> rfl) (Nat.succ_pos _) (by rw [hvl, List.length_cons, List.length_singleton]; omega) ?_)
          intro g cap' w8 hA8 hN8 hg8
          have hs3 := H3.out.2.size
          have HQ8 := hide (HAD.out _ w8 (some ⟨x3, 0, none⟩) I.length (some ⟨x4, 0, none⟩) I.length I g cap' (bt H4.out.2 (al w4 _)) ((HR34.out.ig (by omega)).keep (al w4 _)) ((H4.out.1.ig (by omega)).keep (al w4 _)) (fun x hx => by cases hx; show _ ≤ x3; have := HX3.out; omega) (fun x hx => by cases hx; show _ ≤ x4; have := HX4.out; omega) (fun x y hx hy => by cases hx; cases hy; show x3 ≠ x4; have q0 : x3 < w3.heap.size := H3.out.1.lt; have := HX4.out; omega) hla hA8 hN8 hg8)
          clear hA8 hN8 hg8 HAP
          go_wp2
          go_meet
          case rel => exact ⟨ab, some ⟨g, 0, none⟩, cb, cap', nT, nU + 2, rfl, rfl, by rw [HE2.out]; exact HQ8.out.1, HRW.out w8 HQ8.out.2⟩
        have k7' := eqf k7
        by_cases k9 : k = 9
        · subst k9
          have HE2 : Hid (S2 = S1) := HS2.out
          have HRD := hide fun (V : World) (hb : Below w2.heap.size w2 V) => (HQ2.out.keep hb).img1
          have hla : S1.img.length ≤ 33554432 := HQ2.out.ok.imgBig
          generalize S1.img = I at *
          obtain ⟨vs, hvl, hAr, HAD⟩ := HQ2.out.addB
          have HAr := hide hAr
          have hbnd := HQ2.out
          have hnt : nT ≤ 2 * j := by obtain ⟨_, _, _, _, _, _, _, _, _, h5, _⟩ := hbnd; exact h5
          clear hAr hbnd
          have RR := hide (HRD.out w2 (Below.refl _ _))
          obtain ⟨x3, hx3⟩ : ∃ x3, x3 = w2.heap.size := ⟨_, rfl⟩
          rw [← hx3] at RR
          have HX3 := hide hx3
          clear hx3
          go_wp2_with fail
          refine RR.out.mono ?_
          rintro e w3 ⟨rfl, hr3, hb3⟩
          rw [HX3.out] at hb3
          have H3 := hide (And.intro hr3 hb3)
          have R4 := hide (HRD.out w3 hb3)
          obtain ⟨x4, hx4⟩ : ∃ x4, x4 = w3.heap.size := ⟨_, rfl⟩
          rw [← hx4] at R4
          have HX4 := hide hx4
          clear hr3 hb3 RR hx4
          go_wp2_with fail
          refine R4.out.mono ?_
          rintro e w4 ⟨rfl, hr4, hb4⟩
          rw [HX4.out] at hb4
          have H4 := hide (And.intro hr4 (bt H3.out.2 hb4))
          have HR34 := hide (H3.out.1.keep hb4)
          clear hr4 hb4 R4
          have HAP := hide (HAr.out.keep (bt H4.out.2 (al w4 (.cells #[.slice (some ⟨x3, 0, none⟩) I.length I.length, .slice (some ⟨x4, 0, none⟩) I.length I.length] 22))))
          go_wp2_with (at_builtin; refine wpList_apArL rfl _ _ rfl ab nT cb vs rfl hvl.symm HAP.out ⟨w4.heap.size, 0, none⟩ 2 2 [.slice (some ⟨x3, 0, none⟩) I.length I.length, .slice (some ⟨x4, 0, none⟩) I.length I.length] rfl rfl (two_get (heap_alloc_last w4 _)) (by intro u hu; simp only [List.mem_cons, List.not_mem_nil, or_false] at hu; rcases hu with rfl | rfl <;> rfl) (Nat.succ_pos _) (by rw [hvl, List.length_cons, List.length_singleton]; omega) ?_)
          intro g cap' w8 hA8 hN8 hg8
          have hs3 := H3.out.2.size
          have HQ8 := hide (HAD.out _ w8 (some ⟨x3, 0, none⟩) I.length (some ⟨x4, 0, none⟩) I.length I g cap' (bt H4.out.2 (al w4 _)) (HR34.out.keep (al w4 _)) (H4.out.1.keep (al w4 _)) (fun x hx => by cases hx; show _ ≤ x3; have := HX3.out; omega) (fun x hx => by cases hx; show _ ≤ x4; have := HX4.out; omega) (fun x y hx hy => by cases hx; cases hy; show x3 ≠ x4; have q0 : x3 < w3.heap.size := H3.out.1.lt rfl; have := HX4.out; omega) hla hA8 hN8 hg8)
          clear hA8 hN8 hg8 HAP
          go_wp2
          go_meet
          case rel => exact ⟨some ⟨g, 0, none⟩, ai, cap', ci, nT + 2, nU, rfl, rfl, by rw [HE2.out]; exact HQ8.out.1, HRW.out w8 HQ8.out.2⟩
        have k9' := eqf k9
        have RR := hide (HQ2.out.plays HFR.out ⟨k, i, aB, B, cB, aK, K, cK⟩ HGW.out HRB.out.1 HRB.out.2.1 (by have := HRB.out.2.2; omega))
        dsimp only at RR
        rw [← HS2.out] at RR
        go_wp2_with fail
        refine RR.out.mono ?_
        rintro e w3 ⟨rfl, h3, hb3⟩
        have HQ3 := hide (h3.more (Nat.le_add_right (2 * j) 2))
        have HRW3 := hide (HRW.out w3 hb3)
        clear RR h3 hb3 d0 d1 d2 d3
        go_wp2
        go_meet
        case rel => exact ⟨ab, ai, cb, ci, nT, nU, rfl, rfl, HQ3.out, HRW3.out⟩
      case rest =>
        obtain ⟨ab', ai', cb', ci', nT', nU', rfl, rfl, hQ, hR⟩ := hcut
        have HQ := hide hQ
        have HXB : Hid (B.length = 0 ∨ ∃ g, a2 = some ⟨g, 0, none⟩ ∧ Xb wc g B.length) := by
          rcases hR.cases with ⟨_, _, e⟩ | ⟨g, cur, e, _⟩
          · exact .inl (by rw [e]; rfl)
          · exact .inr ⟨g, e, Xb.ofRw (c := c2) (by rw [← e]; exact hR)⟩
        clear hQ hR HQ2 HX2 HR2 d0 d1 d2 d3 HB1 HX1 HW1 HS1 hs2
        go_wp2
        go_loopw [19] (fun v wx => ∃ kk : Nat, kk ≤ B.length ∧ v = .int .i64 kk ∧ ((B.length = 0 ∨ ∃ g, a2 = some ⟨g, 0, none⟩ ∧ Xb wx g B.length) ∧ But (fun b => ∃ x, a2 = some x ∧ x.block = b) wc wx)) (fun v _ => B.length - (intOf v).toNat)
        case atStart => exact ⟨0, Nat.zero_le _, rfl, HXB.out, But.refl _ _⟩
        case round =>
          obtain ⟨kk, hkk, rfl, hX⟩ := hrel
          have HX := hide hX
          clear hX
          by_cases hlk : kk < B.length
          · have hik : (kk : Int) < (B.length : Int) := by omega
            obtain ⟨g, hag, hxb⟩ : ∃ g, a2 = some ⟨g, 0, none⟩ ∧ Xb wr g B.length := by
              rcases HX.out.1 with h | h
              · omega
              · exact h
            obtain ⟨y, cy, fy⟩ := hxb.cell hlk
            have HNX := hide fun (v : Int) => hxb.set kk v
            have HAG := hide hag
            subst hag
            clear hxb
            go_wp2
            go_roundw
            case rel => exact ⟨kk + 1, hlk, by go_num, .inr ⟨g, rfl, HNX.out _⟩, HX.out.2.setCell (p := ⟨g, kk, none⟩) (fun _ => ⟨_, rfl, rfl⟩) _⟩
            case measure => simp [intOf]; omega
          · obtain rfl : kk = B.length := by omega
            have HF := hide ((HQ.out.spoil HX.out.2 (fun b ⟨x, hx, e⟩ => e ▸ ⟨HEA.out x hx, HEW.out x hx⟩)).free)
            rw [← HS.out] at HF
            clear HX HXB
            go_wp2
            go_roundw
            case rel => exact ⟨j + 1, ab', ai', cb', ci', nT', nU', hlt, by go_num, rfl, rfl, HF.out⟩
            case measure => first | exact meas_up _ _ _ rfl hlt | (simp [intOf]; omega)
    · obtain rfl : j = L.length := by omega
      have hm : 2 * L.length ≤ 2097152 := by omega
      have RA := hide (HG.out.apart hm)
      clear hm HG
      go_wp2_with fail
      refine RA.out.mono ?_
      rintro e w3 ⟨rfl, hC⟩
      have RB := hide hC
      clear hC RA
      go_wp2_with fail
      refine RB.out.mono ?_
      rintro e w4 ⟨rfl, F4, G4, h4⟩
      have H4 := hide (h4.keep (drw w4))
      obtain ⟨la, lc, c0, hL4, _⟩ := (h4.keep (drw w4)).m.lasts
      have HL4 := hide hL4
      have R8 := hide (kImage (h4.keep (drw w4)).d)
      have hlt2 := hide h4.d.ok.imgLt
      have hla := S.run (L.take L.length) |>.at_len
      have hub := h4.d.ok.u1
      generalize S.run (L.take L.length) = S1 at *
      generalize hI : S1.img = I at *
      clear hI
      have hab : S1.at.length ≤ 268435456 := by omega
      obtain ⟨x8, hx8⟩ : ∃ x8, x8 = w4.drew.heap.size := ⟨_, rfl⟩
      rw [← hx8] at R8
      have HX8 := hide hx8
      have HR7 := hide fun (V : World) (hb : Below w4.drew.heap.size w4.drew V) => kUnsynced (H4.out.keep hb).d
      have HR6 := hide fun (V : World) (hb : Below w4.drew.heap.size w4.drew V) => mUnsynced (H4.out.keep hb).m
      generalize S1.at = J at *
      clear h4 RB hL4 hx8 hla hub
      go_wp2
      go_region_held3 (fun V => V.cell? ⟨q, 0, none⟩ = some (.slice (some ⟨la, 0, none⟩) I.length lc))
        (first | exact c0 | exact c5 | exact c6 | exact c7 | exact c8 | exact c9)
        (first
          | (go_at_call 17; refine R8.out.mono ?_; rintro e w5 ⟨rfl, hr5, hb5⟩; have hb5' : Below w4.drew.heap.size w4.drew w5 := (by rw [← HX8.out]; exact hb5); have c5 := (hb5'.cell (p := ⟨q, 0, none⟩) (block_lt_of_cell c0)).trans c0; have HB5 := hide hb5'; have R9 := hide (EqBytes_same w5 (some ⟨x8, 0, none⟩) (some ⟨la, 0, none⟩) I.length I.length I.length lc I (hr5.bs' hlt2.out) (HL4.out.keep hb5') rfl rfl); clear hr5 hb5 hb5')
          | (go_at_call 15; refine R9.out.mono ?_; rintro e w6 ⟨rfl, hb6⟩; have c6 := (hb6.cell (p := ⟨q, 0, none⟩) (block_lt_of_cell c5)).trans c5; have HB6 := hide (bt HB5.out hb6); have R10 := hide (HR7.out w6 HB6.out); clear hb6; obtain ⟨x9, hx9⟩ : ∃ x9, x9 = w6.heap.size := ⟨_, rfl⟩; rw [← hx9] at R10; have HX9 := hide hx9; clear hx9)
          | (go_at_call 16; refine R10.out.mono ?_; rintro e w7 ⟨rfl, hr7, hb7⟩; have hb7' : Below w6.heap.size w6 w7 := (by rw [← HX9.out]; exact hb7); have c7 := (hb7'.cell (p := ⟨q, 0, none⟩) (block_lt_of_cell c6)).trans c6; have HB7 := hide (bt HB6.out hb7'); have HI7 := hide hr7; have R11 := hide (HR6.out w7 HB7.out); clear hr7 hb7 hb7')
          | (go_at_call 21; refine R11.out.mono ?_; rintro e w8 ⟨a8, cc8, rfl, hr8, hn8, hb8⟩; have c8 := (hb8.cell (p := ⟨q, 0, none⟩) (block_lt_of_cell c7)).trans c7; have HB8 := hide (bt HB7.out hb8); have R12 := hide (EqInts_same w8 (some ⟨x9, 0, none⟩) a8 J.length J.length J.length cc8 J ((HI7.out.keep hb8).ir) hr8.ir rfl rfl hab); clear hr8 hn8 hb8)
          | (go_at_call 20; refine R12.out.mono ?_; rintro e w9 ⟨rfl, hb9⟩; have c9 := (hb9.cell (p := ⟨q, 0, none⟩) (block_lt_of_cell c8)).trans c8; have HB9 := hide (bt HB8.out hb9); clear hb9))
      all_goals
        go_wp2
        go_ret
        exact ⟨rfl, bt H4.out.b HB9.out⟩
set_option maxRecDepth 10000 in
set_option maxHeartbeats 2000000 in
theorem fresh_bad (w : World) (nb : Int) (a : Option Addr) (l : List Nat) (cap : Nat) (hB : Bs w a l) (hN : l.length + 64 ≤ 140737488355328) (hok : ¬ stOk nb l) (a1 : Option Addr) (n1 c1 : Nat) :
    Calls Try.prog 4 #[.agg #[.int .i64 nb, .slice a l.length cap], .slice a1 n1 c1] w fun e w' => e = .returned (.bool true) ∧ Below w.heap.size w w' := by
  obtain ⟨W0, hW0⟩ : ∃ W0, W0 = w.alloc (.cells #[.int .i64 nb, .slice a l.length cap] 24) := ⟨_, rfl⟩
  have HB0 : Hid (Below w.heap.size w W0) := by rw [hW0]; exact al _ _
  have R1 := hide (makes_bad W0 nb a l cap (hB.keep HB0.out) hN hok)
  have HW0 := hide hW0
  rw [hW0] at R1
  clear hW0 hB hN hok
  go_enter Try.func4, Try.ntmps4
  go_wp2_with fail
  refine R1.out.mono ?_
  rintro e w1 ⟨rfl, hb1⟩
  rw [← HW0.out] at hb1
  have HB1 := hide (bt HB0.out hb1)
  have R3 := hide (works_any w1)
  clear hb1 R1
  go_wp2_with fail
  refine R3.out.mono ?_
  rintro e w2 ⟨rfl, hb2⟩
  have HB2 := hide (bt HB1.out hb2)
  clear hb2 R3
  go_wp2
  go_ret
  exact ⟨rfl, HB2.out⟩
theorem diskFresh_any (w : World) (nb : Int) (a : Option Addr) (l : List Nat) (cap : Nat) (_hnb : N64 nb) (hB : Bs w a l) (hN : l.length + 64 ≤ 140737488355328) (_hC : l.length ≤ cap) (aa : Option Addr) (c : Nat) (L : List Ov) (hL : Sp w aa L) :
    Calls Try.prog 4 #[.agg #[.int .i64 nb, .slice a l.length cap], .slice aa L.length c] w fun e w' => e = .returned (.bool true) ∧ Below w.heap.size w w' := by
  by_cases h : stOk nb l
  · exact fresh_good w nb a l cap hB hN h aa c L hL
  · exact fresh_bad w nb a l cap hB hN h aa L.length c
end Go.Proofs.Ytlflcdjaknnfaab
