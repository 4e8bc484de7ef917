import Derived.Test.YtlkjpljfbmploaaTA
import Derived.Deep.RegionHeld3
namespace Go.Proofs.Ytlkjpljfbmploaa
open Go.RowKit

set_option maxRecDepth 100000 in
set_option maxHeartbeats 16000000 in
theorem wireTwo_any (w : World) (m0 m1 : Int) (a0 : Option Addr) (l0 c0 : Nat) (G0 : Nat → Fd) (hF0 : FdsO w a0 l0 G0) (hl0 : l0 ≤ 2932031007402) (a1 : Option Addr) (l1 c1 : Nat) (G1 : Nat → Fd) (hF1 : FdsO w a1 l1 G1) (hl1 : l1 ≤ 2932031007402)
    (ab : Option Addr) (nt ct : Nat) (T : Nat → Bool) (hT : nt = 0 ∨ ∃ b off, ab = some ⟨b, off, none⟩ ∧ ∀ j, j < nt → w.cell? ⟨b, off + j, none⟩ = some (.bool (T j))) (hnt : nt ≤ 140737488355328) :
    Calls Try.prog 6 #[.agg #[.int .i64 m0, .int .i64 m1], .agg #[.slice a0 l0 c0, .slice a1 l1 c1], .slice ab nt ct] w fun x w' => x = .returned (.bool true) ∧ Below w.heap.size w w' := by
  have HF0 := hide hF0
  have HF1 := hide hF1
  have HT := hide hT
  obtain ⟨y0, y1, y2, hz, hb3⟩ := alloc3 w #[.int .i64 m0, .int .i64 m1] #[.slice a0 l0 c0, .slice a1 l1 c1] #[.pointer none, .pointer none] 60 61 63
  have HB3 := hide hb3
  have HQ0 := hide (cell_of_row _ w.heap.size 0 _ _ _ y0)
  have HQ1 := hide (cell_of_row _ w.heap.size 1 _ _ _ y0)
  have HR0 := hide (cell_of_row _ (w.heap.size + 1) 0 _ _ _ y1)
  have HR1 := hide (cell_of_row _ (w.heap.size + 1) 1 _ _ _ y1)
  have HX := hide y2
  have HZ := hide hz
  clear hF0 hF1 hT hb3 y0 y1 y2 hz
  go_enter Try.func6, Try.ntmps6
  go_wp2
  generalize ((w.alloc (.cells #[.int .i64 m0, .int .i64 m1] 60)).alloc (.cells #[.slice a0 l0 c0, .slice a1 l1 c1] 61)).alloc (.cells #[.pointer none, .pointer none] 63) = W3 at *
  generalize hbX : w.heap.size + 1 + 1 = bX at *
  generalize hbS : w.heap.size + 1 = bS at *
  have HbX := hide hbX
  have HbS := hide hbS
  have HM : Hid (w.heap.size < bX) := by show w.heap.size < bX; omega
  have HSX : Hid (bS < bX) := by show bS < bX; omega
  clear hbX hbS
  go_loopw [8] (fun i wx => ∃ j : Nat, i = .int .i64 j ∧ (But (fun k => k = bX) W3 wx ∧ ((j = 0 ∧ wx.heap[bX]? = some (.cells #[.pointer none, .pointer none] 63 (0, 0))) ∨ (j = 1 ∧ ∃ b0 F0 s0, One wx (bX) b0 F0 (bX + 1) s0) ∨ (j = 2 ∧ ∃ b0 b1 F0 F1 s0 s1, Two wx (bX) (bX) b0 b1 F0 F1 (bX + 1) 0 0 s0 s1)))) (fun i _ => 2 - (intOf i).toNat)
  case atStart => exact ⟨0, rfl, But.refl _ _, .inl ⟨rfl, HX.out⟩⟩
  case round =>
    obtain ⟨j, rfl, hG, hcase⟩ := hrel
    have HG := hide hG
    clear hG
    have HS : Hid (bX + 1 ≤ wr.heap.size) := by show bX + 1 ≤ wr.heap.size; rw [← HZ.out]; exact HG.out.size
    rcases hcase with ⟨rfl, hx⟩ | ⟨rfl, b0, F0, s0, h1⟩ | ⟨rfl, b0, b1, F0, F1, s0, s1, h2⟩
    · rw [show ((0 : Nat) : Int) = 0 from rfl]
      have p0 : wr.cell? ⟨w.heap.size, 0, none⟩ = some (.int .i64 m0) := (HG.out.cell (p := ⟨w.heap.size, 0, none⟩) (by show w.heap.size < _; rw [HZ.out]; have := HM.out; omega) (fun e => by have : w.heap.size = bX := e; have := HM.out; omega)).trans HQ0.out
      have N1 := hide (NewWriter_any wr.drew m0)
      have HXX := hide (show wr.drew.heap[bX]? = _ from hx)
      clear hx
      go_wp2
      go_region_held3 (fun w' => w'.cell? ⟨w.heap.size, 0, none⟩ = some (.int .i64 m0))
        (first | exact p0 | exact p1 | exact p2 | exact (((Below.refl _ _).alloc (Nat.le_refl _) _).cell (p := ⟨w.heap.size, 0, none⟩) (block_lt_of_cell p2)).trans p2 | exact (MD.out.2.1.cell (p := ⟨w.heap.size, 0, none⟩) (block_lt_of_cell p0) (fun e => by have : w.heap.size = bX := e; have := HM.out; omega)).trans p0)
        (first | (go_at_call 7; refine N1.out.mono ?_; rintro e w1 ⟨rfl, h1, hb1⟩; have p1 := (hb1.cell (p := ⟨w.heap.size, 0, none⟩) (block_lt_of_cell p0)).trans p0; have N2 := hide (rNewWriter_any w1 m0); have H1 := hide h1; have HB1 := hide hb1; clear h1 hb1) | (go_at_call 8; refine N2.out.mono ?_; rintro e w2 ⟨rfl, h2, hb2⟩; have p2 := (hb2.cell (p := ⟨w.heap.size, 0, none⟩) (block_lt_of_cell p1)).trans p1; obtain ⟨hlx, hx2, MD⟩ := made (i := 0) HXX.out H1.out HB1.out h2 hb2 (.pointer (some ⟨w2.heap.size, 0, none⟩)); have cx : w2.cell? ⟨bX, 0, none⟩ = some (.pointer none) := cell_of_row w2 bX 0 _ _ _ hx2; have fx := frozen_of_row w2 bX 0 _ _ hx2; clear h2 hb2 hx2))
      go_wp2
      exact ⟨⟨1, rfl, HG.out.drew.trans MD.out.2.1 (fun _ _ h => h), .inr (.inl ⟨rfl, _, _, _, one_made (w := wr) MD.out.2.2.1 rfl (Nat.lt_succ_self _) HS.out MD.out.1 ext_new⟩)⟩, by simp [intOf]⟩
    · rw [show ((1 : Nat) : Int) = 1 from rfl]
      have p0 : wr.cell? ⟨w.heap.size, 1, none⟩ = some (.int .i64 m1) := (HG.out.cell (p := ⟨w.heap.size, 1, none⟩) (by show w.heap.size < _; rw [HZ.out]; have := HM.out; omega) (fun e => by have : w.heap.size = bX := e; have := HM.out; omega)).trans HQ1.out
      have N1 := hide (NewWriter_any wr.drew m1)
      have HXX := hide (show wr.drew.heap[bX]? = _ from h1.1)
      have HO := hide h1
      clear h1
      go_wp2
      go_region_held3 (fun w' => w'.cell? ⟨w.heap.size, 1, none⟩ = some (.int .i64 m1))
        (first | exact p0 | exact p1 | exact p2 | exact (((Below.refl _ _).alloc (Nat.le_refl _) _).cell (p := ⟨w.heap.size, 1, none⟩) (block_lt_of_cell p2)).trans p2 | exact (MD.out.2.1.cell (p := ⟨w.heap.size, 1, none⟩) (block_lt_of_cell p0) (fun e => by have : w.heap.size = bX := e; have := HM.out; omega)).trans p0)
        (first | (go_at_call 7; refine N1.out.mono ?_; rintro e w1 ⟨rfl, h1, hb1⟩; have p1 := (hb1.cell (p := ⟨w.heap.size, 1, none⟩) (block_lt_of_cell p0)).trans p0; have N2 := hide (rNewWriter_any w1 m1); have H1 := hide h1; have HB1 := hide hb1; clear h1 hb1) | (go_at_call 8; refine N2.out.mono ?_; rintro e w2 ⟨rfl, h2, hb2⟩; have p2 := (hb2.cell (p := ⟨w.heap.size, 1, none⟩) (block_lt_of_cell p1)).trans p1; obtain ⟨hlx, hx2, MD⟩ := made (i := 1) HXX.out H1.out HB1.out h2 hb2 (.pointer (some ⟨w2.heap.size, 0, none⟩)); have cx : w2.cell? ⟨bX, 1, none⟩ = some (.pointer none) := cell_of_row w2 bX 1 _ _ _ hx2; have fx := frozen_of_row w2 bX 1 _ _ hx2; clear h2 hb2 hx2))
      go_wp2
      exact ⟨⟨2, rfl, HG.out.drew.trans MD.out.2.1 (fun _ _ h => h), .inr (.inr ⟨rfl, _, _, _, _, _, _, two_made (w := wr) HO.out ((But.refl _ wr).drew.trans MD.out.2.1 fun _ _ h => h) MD.out.2.2.1 rfl HS.out MD.out.1 ext_new⟩)⟩, by simp [intOf]⟩
    · rw [show ((2 : Nat) : Int) = 2 from rfl]
      have HT2 := hide (h2.newA (.cells #[.int .i64 0, .int .i64 0] 60))
      have HBA := hide (HG.out.alloc (.cells #[.int .i64 0, .int .i64 0] 60))
      have HAA := hide (heap_alloc_new wr (.cells #[.int .i64 0, .int .i64 0] 60))
      have HS0 : Hid (St W3 (wr.alloc (.cells #[.int .i64 0, .int .i64 0] 60)) bX wr.heap.size b0 b1 l0 l1 F0 F1 0 0 0 0 s0 s1) := ⟨HT2.out, HAA.out, Nat.zero_le _, Nat.zero_le _, Nat.le_refl _, Nat.le_refl _, HBA.out, HS.out, HZ.out⟩
      clear h2 HT2 HBA HAA HG HX HQ0 HQ1
      go_wp2
      generalize wr.alloc (.cells #[.int .i64 0, .int .i64 0] 60) = w5 at *
      generalize wr.heap.size = bA at *
      go_loopw [10, 11, 12] (fun i _ _ wx => ∃ (j p0 p1 n0 n1 : Nat) (F0 F1 : Nat → Prop) (s0 s1 : WS), j ≤ nt ∧ i = .int .i64 j ∧ St W3 wx bX bA b0 b1 l0 l1 F0 F1 p0 p1 n0 n1 s0 s1) (fun i _ _ _ => nt - (intOf i).toNat)
      case atStart => exact ⟨0, 0, 0, 0, 0, _, _, _, _, Nat.zero_le _, rfl, HS0.out⟩
      case round =>
        clear HS0
        obtain ⟨j, p0, p1, n0, n1, F0, F1, s0, s1, hj, rfl, hG⟩ := hrel
        have HG := hide hG
        clear hG
        by_cases hlt : j < nt
        · have hi : (j : Int) < (nt : Int) := by omega
          rcases HT.out with h0 | ⟨tb, to, rfl, hTc⟩
          · omega
          have HBW := hide (HG.out.below HB3.out (Nat.le_of_lt HM.out))
          have tc := (HBW.out.cell (p := ⟨tb, to + j, none⟩) (block_lt_of_cell (hTc j hlt))).trans (hTc j hlt)
          clear hTc
          cases hTj : T j
          · rw [hTj] at tc
            have k1 := HG.out.at0
            have k2 : wr.cell? ⟨bS, 0, none⟩ = some (.slice a0 l0 c0) := HG.out.old HSX.out HR0.out
            by_cases hp : p0 < l0
            · have hpi : (p0 : Int) < (l0 : Int) := by omega
              rcases HF0.out with h0 | ⟨bf, off, rfl, hFF⟩
              · omega
              obtain ⟨hat, hok⟩ := hFF p0 hp
              go_wp2
              go_quiet (fail)
              go_wp2
              generalize hwd : wr.drewN nq = wd at *
              have hBd : Below wr.heap.size wr wd := by rw [← hwd]; exact drN _ _
              have HD := hide (HG.out.keep hBd)
              have HBD := hide (bt HBW.out hBd)
              clear hwd hBd HG HBW k1 k2 tc
              have k1 := HD.out.at0
              have k2 : wd.cell? ⟨bS, 0, none⟩ = some (.slice (some ⟨bf, off, none⟩) l0 c0) := HD.out.old HSX.out HR0.out
              have k3 := HD.out.two.x0
              obtain ⟨e0, e1, e2, e3⟩ := hat.keep HBD.out
              have HDD := hide (HD.out.keep (Below.refl _ _).drew)
              have WR := hide (write_any wd.drew b0 F0 n0 s0 (G0 p0) HDD.out.two.a ((hok.keep HBD.out).keep (Below.refl _ _).drew) (fun x hx h0 h => by
                have h8 := hok.old hx h0
                have h9 := (HD.out.two.fa _ h).1
                have h10 := HM.out
                omega) (by have := HD.out.h0; have := HD.out.g0; omega))
              unfold Fd.cells at WR
              have hnw : nW (G0 p0) n0 ≤ p0 + 1 := by have := HD.out.h0; unfold nW; split <;> omega
              have HAT := hide (hat.keep HBD.out)
              have HBF : Hid (bf < bX) := Nat.lt_trans (show bf < w.heap.size from block_lt_of_cell hat.1) HM.out
              clear hat hok hFF
              have hadd : IntKind.i64.wrap ((p0 : Int) + 1) = ((p0 + 1 : Nat) : Int) := by rw [wrapI (by omega) (by omega)]; omega
              go_region_held3 (fun w' => (w'.cell? ⟨bX, 0, none⟩ = some (.pointer (some ⟨b0, 0, none⟩)) ∧ w'.cell? ⟨bS, 0, none⟩ = some (.slice (some ⟨bf, off, none⟩) l0 c0) ∧ w'.cell? ⟨bA, 0, none⟩ = some (.int .i64 (p0 : Int))) ∧ w'.cell? ⟨bf, off + p0 * 4, none⟩ = some (.int .i64 (G0 p0).kind) ∧ w'.cell? ⟨bf, off + p0 * 4 + 1, none⟩ = some (.int .u64 ((G0 p0).n : Int)) ∧ w'.cell? ⟨bf, off + p0 * 4 + 2, none⟩ = some (.slice (G0 p0).a (G0 p0).l.length (G0 p0).c) ∧ w'.cell? ⟨bf, off + p0 * 4 + 3, none⟩ = some (.int .i64 (G0 p0).k))
                (first | exact ⟨⟨k3, k2, k1⟩, e0, e1, e2, e3⟩ | exact K8.out)
                (first | (go_at_call 9; refine WR.out.mono ?_; rintro e w8 ⟨rfl, h8, hb8⟩; obtain ⟨t1, t2, T8⟩ := HDD.out.step0 h8 hb8 hnw hp; have K8 := hide (kept hb8 HDD.out.two.fa k3 k2 HSX.out k1 HAT.out HBF.out); clear h8 hb8))
              rw [show ((p0 + 1 : Nat) : Int) = (p0 : Int) + 1 by omega] at T8
              go_wp2
              go_roundw
              case rel => exact ⟨j + 1, p0 + 1, p1, _, _, _, _, _, _, by omega, by go_num, T8.out⟩
              case measure => simp [intOf]; omega
            · have hpe : p0 = l0 := by have := HG.out.g0; omega
              rw [hpe] at k1
              go_wp2
              go_quiet (fail)
              go_wp2
              go_roundw
              case rel => exact ⟨j + 1, p0, p1, n0, n1, F0, F1, s0, s1, by omega, by go_num, HG.out.keep (drN _ _)⟩
              case measure => simp [intOf]; omega
          · rw [hTj] at tc
            have k1 := HG.out.at1
            have k2 : wr.cell? ⟨bS, 1, none⟩ = some (.slice a1 l1 c1) := HG.out.old HSX.out HR1.out
            by_cases hp : p1 < l1
            · have hpi : (p1 : Int) < (l1 : Int) := by omega
              rcases HF1.out with h0 | ⟨bf, off, rfl, hFF⟩
              · omega
              obtain ⟨hat, hok⟩ := hFF p1 hp
              go_wp2
              go_quiet (fail)
              go_wp2
              generalize hwd : wr.drewN nq = wd at *
              have hBd : Below wr.heap.size wr wd := by rw [← hwd]; exact drN _ _
              have HD := hide (HG.out.keep hBd)
              have HBD := hide (bt HBW.out hBd)
              clear hwd hBd HG HBW k1 k2 tc
              have k1 := HD.out.at1
              have k2 : wd.cell? ⟨bS, 1, none⟩ = some (.slice (some ⟨bf, off, none⟩) l1 c1) := HD.out.old HSX.out HR1.out
              have k3 := HD.out.two.x1
              obtain ⟨e0, e1, e2, e3⟩ := hat.keep HBD.out
              have HDD := hide (HD.out.keep (Below.refl _ _).drew)
              have WR := hide (write_any wd.drew b1 F1 n1 s1 (G1 p1) HDD.out.two.b ((hok.keep HBD.out).keep (Below.refl _ _).drew) (fun x hx h0 h => by
                have h8 := hok.old hx h0
                have h9 := (HD.out.two.fb _ h).1
                have h10 := HM.out
                omega) (by have := HD.out.h1; have := HD.out.g1; omega))
              unfold Fd.cells at WR
              have hnw : nW (G1 p1) n1 ≤ p1 + 1 := by have := HD.out.h1; unfold nW; split <;> omega
              have HAT := hide (hat.keep HBD.out)
              have HBF : Hid (bf < bX) := Nat.lt_trans (show bf < w.heap.size from block_lt_of_cell hat.1) HM.out
              clear hat hok hFF
              have hadd : IntKind.i64.wrap ((p1 : Int) + 1) = ((p1 + 1 : Nat) : Int) := by rw [wrapI (by omega) (by omega)]; omega
              go_region_held3 (fun w' => (w'.cell? ⟨bX, 1, none⟩ = some (.pointer (some ⟨b1, 0, none⟩)) ∧ w'.cell? ⟨bS, 1, none⟩ = some (.slice (some ⟨bf, off, none⟩) l1 c1) ∧ w'.cell? ⟨bA, 1, none⟩ = some (.int .i64 (p1 : Int))) ∧ w'.cell? ⟨bf, off + p1 * 4, none⟩ = some (.int .i64 (G1 p1).kind) ∧ w'.cell? ⟨bf, off + p1 * 4 + 1, none⟩ = some (.int .u64 ((G1 p1).n : Int)) ∧ w'.cell? ⟨bf, off + p1 * 4 + 2, none⟩ = some (.slice (G1 p1).a (G1 p1).l.length (G1 p1).c) ∧ w'.cell? ⟨bf, off + p1 * 4 + 3, none⟩ = some (.int .i64 (G1 p1).k))
                (first | exact ⟨⟨k3, k2, k1⟩, e0, e1, e2, e3⟩ | exact K8.out)
                (first | (go_at_call 9; refine WR.out.mono ?_; rintro e w8 ⟨rfl, h8, hb8⟩; obtain ⟨t1, t2, T8⟩ := HDD.out.step1 h8 hb8 hnw hp; have K8 := hide (kept hb8 HDD.out.two.fb k3 k2 HSX.out k1 HAT.out HBF.out); clear h8 hb8))
              rw [show ((p1 + 1 : Nat) : Int) = (p1 : Int) + 1 by omega] at T8
              go_wp2
              go_roundw
              case rel => exact ⟨j + 1, p0, p1 + 1, _, _, _, _, _, _, by omega, by go_num, T8.out⟩
              case measure => simp [intOf]; omega
            · have hpe : p1 = l1 := by have := HG.out.g1; omega
              rw [hpe] at k1
              go_wp2
              go_quiet (fail)
              go_wp2
              go_roundw
              case rel => exact ⟨j + 1, p0, p1, n0, n1, F0, F1, s0, s1, by omega, by go_num, HG.out.keep (drN _ _)⟩
              case measure => simp [intOf]; omega
        · obtain rfl : nt = j := by omega
          have k3 := HG.out.two.x0
          obtain ⟨_, bw, aw, cw, br, ar, cr, at2, ct2, A, C, L, hc, _⟩ := HG.out.two.a
          have e1 := hc.fx1
          have e2 := hc.r.c1
          have hsl : s0.l.length ≤ 16777216 := by have h8 := hc.p.2.2.1; have h9 := hc.p.2.2.2.1; omega
          have HB256 := hide hc.p.2.2.2.2
          have CB := hide (CopyBytes_any wr ar s0.l.length cr s0.l (hc.r.2.1.bs hc.p.2.2.2.2 hc.r.2.1.len_le) rfl (by omega))
          clear hc
          go_wp2_with fail
          refine CB.out.mono ?_
          rintro e w6 ⟨a6, c6, rfl, hR6, hN6, hb6⟩
          have HR6 := hide (hR6.bs HB256.out hR6.len_le)
          have HB6 := hide hb6
          have NR := hide (NewReader_any w6 a6 s0.l.length c6 s0.l HR6.out rfl (by omega))
          clear hR6 hN6 hb6 k3 e1 e2
          go_wp2_with fail
          refine NR.out.mono ?_
          rintro e w7 ⟨bp, ap, cp, rfl, h7, hp7, hN7, hb7⟩
          have RN := hide (rNewReader_any w7 a6 s0.l.length c6 s0.l (HR6.out.keep hb7) rfl (by omega))
          have H7 := hide h7
          have HP7 := hide hp7
          have HN7 := hide hN7
          have HB7 := hide hb7
          clear h7 hp7 hN7 hb7
          go_wp2_with fail
          refine RN.out.mono ?_
          rintro e w8 ⟨bq, aq, cq, rfl, h8, hp8, hN8, hb8⟩
          have HL1 := hide (newLook H7.out HP7.out HN7.out HB7.out h8 hp8 hN8 hb8 (by omega))
          have HB69 := hide (bt (bt HB7.out hb8) ((Below.refl _ w8).alloc (Nat.le_refl _) (.cells #[.pointer (some ⟨bp, 0, none⟩), .pointer (some ⟨bq, 0, none⟩), .slice none 0 0] 45)))
          have NR2 := hide (NewReader_any _ a6 s0.l.length c6 s0.l (HR6.out.keep HB69.out) rfl (by omega))
          clear h8 hp8 hN8 hb8 H7 HP7 HN7
          go_wp2_with fail
          generalize w8.alloc (.cells #[.pointer (some ⟨bp, 0, none⟩), .pointer (some ⟨bq, 0, none⟩), .slice none 0 0] 45) = w9 at *
          generalize w8.heap.size = bl1 at *
          refine NR2.out.mono ?_
          rintro e w10 ⟨bp2, ap2, cp2, rfl, h10, hp10, hN10, hb10⟩
          have RN2 := hide (rNewReader_any w10 a6 s0.l.length c6 s0.l ((HR6.out.keep HB69.out).keep hb10) rfl (by omega))
          have H10 := hide h10
          have HP10 := hide hp10
          have HN10 := hide hN10
          have HB10 := hide hb10
          clear h10 hp10 hN10 hb10
          go_wp2_with fail
          refine RN2.out.mono ?_
          rintro e w11 ⟨bq2, aq2, cq2, rfl, h11, hp11, hN11, hb11⟩
          have HL2 := hide (newLook H10.out HP10.out HN10.out HB10.out h11 hp11 hN11 hb11 (by omega))
          have HB912 := hide (bt (bt HB10.out hb11) ((Below.refl _ w11).alloc (Nat.le_refl _) (.cells #[.pointer (some ⟨bp2, 0, none⟩), .pointer (some ⟨bq2, 0, none⟩), .slice none 0 0] 45)))
          have HFIN := hide (fin_start HG.out HB6.out HL1.out HB69.out HL2.out HB912.out)
          obtain ⟨bpx, u1⟩ := (HFIN.out.1.k1).c0
          obtain ⟨bpy, u2⟩ := (HFIN.out.1.k2).c0
          have HGG := hide HG.out
          clear h11 hp11 hN11 hb11 H10 HP10 HN10 HG HL1 HL2
          go_wp2
          generalize w11.alloc (.cells #[.pointer (some ⟨bp2, 0, none⟩), .pointer (some ⟨bq2, 0, none⟩), .slice none 0 0] 45) = w12 at *
          generalize w11.heap.size = bl2 at *
          have HF0' : Hid (Fin W3 w12 bX bA b0 b1 bl1 bl2 F0 F1 _ _ w6.heap.size n0 n1 s0 s1 ∧ w6.heap.size ≤ w12.heap.size) := HFIN.out
          have HP0 := hide (And.intro HGG.out.g0 (And.intro HGG.out.h0 (And.intro HGG.out.g1 HGG.out.h1)))
          generalize w6.heap.size = v at *
          clear HFIN u1 u2 HGG
          go_loopw [16, 17, 18] (fun i _ _ wx => ∃ (j : Nat) (K1 K2 : Nat → Prop), j ≤ nt ∧ i = .int .i64 j ∧ (Fin W3 wx bX bA b0 b1 bl1 bl2 F0 F1 K1 K2 v n0 n1 s0 s1 ∧ v ≤ wx.heap.size)) (fun i _ _ _ => nt - (intOf i).toNat)
          case atStart => exact ⟨0, _, _, Nat.zero_le _, rfl, HF0'.out⟩
          case round =>
            clear HF0'
            obtain ⟨j, K1, K2, hj, rfl, hG⟩ := hrel
            have HG := hide hG
            clear hG
            by_cases hlt : j < nt
            · have hi : (j : Int) < (nt : Int) := by omega
              rcases HT.out with h0 | ⟨tb, to, rfl, hTc⟩
              · omega
              have HBW := hide (HG.out.1.below HB3.out (Nat.le_of_lt HM.out))
              have tc := (HBW.out.cell (p := ⟨tb, to + j, none⟩) (block_lt_of_cell (hTc j hlt))).trans (hTc j hlt)
              clear hTc
              cases hTj : T j
              · rw [hTj] at tc
                have R1 := hide (quiet_any wr bl1 K1 0 true ⟨2 - ((j % 2 : Nat) : Int), 0, none, 0, [], 0⟩ (kind_rem j) HG.out.1.k1)
                unfold Fd.cells at R1
                dsimp only at R1
                have ht := tmod_two j
                have hm2 : j % 2 < 2 := Nat.mod_lt _ (by decide)
                generalize hjm : j % 2 = jm at *
                have hsb : IntKind.i64.wrap (2 - (jm : Int)) = 2 - (jm : Int) := wrapI (by omega) (by omega)
                clear hjm
                go_wp2_with fail
                refine R1.out.mono ?_
                rintro e u1 ⟨rfl, h1, hb1⟩
                have S1 := hide (state2_any u1 bl1 _ 0 true h1)
                have HB1 := hide hb1
                clear h1 hb1
                go_wp2_with fail
                refine S1.out.mono ?_
                rintro e u2 ⟨rfl, h2, hb2⟩
                obtain ⟨h2', hb2'⟩ := Look.step HG.out.1.k1.1 HB1.out h2 hb2
                have H2 := hide (HG.out.1.do1 HG.out.2 h2' hb2')
                have HV : Hid (v ≤ u2.heap.size) := Nat.le_trans HG.out.2 hb2'.size
                clear h2 hb2 h2' hb2' ht hsb
                go_wp2
                go_roundw
                case rel => exact ⟨j + 1, _, _, by omega, by go_num, H2.out, HV.out⟩
                case measure => simp [intOf]; omega
              · rw [hTj] at tc
                have R1 := hide (quiet_any wr bl2 K2 0 true ⟨2 - ((j % 2 : Nat) : Int), 0, none, 0, [], 0⟩ (kind_rem j) HG.out.1.k2)
                unfold Fd.cells at R1
                dsimp only at R1
                have ht := tmod_two j
                have hm2 : j % 2 < 2 := Nat.mod_lt _ (by decide)
                generalize hjm : j % 2 = jm at *
                have hsb : IntKind.i64.wrap (2 - (jm : Int)) = 2 - (jm : Int) := wrapI (by omega) (by omega)
                clear hjm
                go_wp2_with fail
                refine R1.out.mono ?_
                rintro e u1 ⟨rfl, h1, hb1⟩
                have S1 := hide (state2_any u1 bl2 _ 0 true h1)
                have HB1 := hide hb1
                clear h1 hb1
                go_wp2_with fail
                refine S1.out.mono ?_
                rintro e u2 ⟨rfl, h2, hb2⟩
                obtain ⟨h2', hb2'⟩ := Look.step HG.out.1.k2.1 HB1.out h2 hb2
                have H2 := hide (HG.out.1.do2 HG.out.2 h2' hb2')
                have HV : Hid (v ≤ u2.heap.size) := Nat.le_trans HG.out.2 hb2'.size
                clear h2 hb2 h2' hb2' ht hsb
                go_wp2
                go_roundw
                case rel => exact ⟨j + 1, _, _, by omega, by go_num, H2.out, HV.out⟩
                case measure => simp [intOf]; omega
            · obtain rfl : nt = j := by omega
              obtain ⟨hF, hv⟩ := HG.out
              have x0 := hF.two.x0
              have x1 := hF.two.x1
              have hzz := hF.hz
              have hp4 := HP0.out
              have EN := hide (end_any wr b0 F0 n0 s0 hF.two.a (by omega))
              have HFF := hide hF
              clear hF hv HG hp4
              go_wp2_with fail
              refine EN.out.mono ?_
              rintro e u1 ⟨rfl, h1, hb1⟩
              have y1 := (hb1.cell (p := ⟨bX, 1, none⟩) (block_lt_of_cell x1) (fun h => by have h8 := (HFF.out.two.fa _ h).1; dsimp only at h8; omega)).trans x1
              have b1' : But (fun k => k = bX) W3 u1 := HFF.out.base.trans hb1 fun k hk h => by have h8 := (HFF.out.two.fa _ h).1; omega
              have W1 := HFF.out.two.b.but hb1 fun k h1 h0 => HFF.out.two.d k h0 h1
              have L1 := HFF.out.k1.but hb1 fun k hk h0 => by have h8 := HFF.out.f0 k h0; have h9 := HFF.out.g1 k hk; omega
              have L2 := HFF.out.k2.but hb1 fun k hk h0 => by have h8 := HFF.out.f0 k h0; have h9 := HFF.out.g2 k hk; omega
              have hp5 := HP0.out
              have EN2 := hide (end_any u1 b1 F1 n1 s1 W1 (by omega))
              have HL1 := hide L1
              have HL2 := hide L2
              have HBB := hide b1'
              clear h1 hb1 b1' W1 L1 L2 hp5 x0 x1 EN
              go_wp2_with fail
              refine EN2.out.mono ?_
              rintro e u2 ⟨rfl, h2, hb2⟩
              have b2' : But (fun k => k = bX) W3 u2 := HBB.out.trans hb2 fun k hk h => by have h8 := (HFF.out.two.fb _ h).1; omega
              have L1 := HL1.out.but hb2 fun k hk h0 => by have h8 := HFF.out.f1 k h0; have h9 := HFF.out.g1 k hk; omega
              have L2 := HL2.out.but hb2 fun k hk h0 => by have h8 := HFF.out.f1 k h0; have h9 := HFF.out.g2 k hk; omega
              have S1 := hide (state2_any u2 bl1 K1 0 true L1)
              have HL3 := hide L2
              have HBC := hide b2'
              clear h2 hb2 b2' L1 L2 y1 EN2 HL1 HL2 HBB
              go_wp2_with fail
              refine S1.out.mono ?_
              rintro e u3 ⟨rfl, h3, hb3⟩
              have b3' : But (fun k => k = bX) W3 u3 := HBC.out.trans hb3 fun k hk h => by have h8 := HFF.out.g1 _ h; have h9 := HFF.out.xv; omega
              have L3 := HL3.out.but hb3 fun k hk h0 => HFF.out.d k h0 hk
              have S2 := hide (state2_any u3 bl2 K2 0 true L3)
              have HBD := hide b3'
              clear h3 hb3 b3' L3 HL3 HBC S1
              go_wp2_with fail
              refine S2.out.mono ?_
              rintro e u4 ⟨rfl, h4, hb4⟩
              have HBE : Hid (But (fun k => k = bX) W3 u4) := HBD.out.trans hb4 fun k hk h => by have h8 := HFF.out.g2 _ h; have h9 := HFF.out.xv; omega
              clear h4 hb4
              go_wp2
              go_ret
              exact ⟨rfl, belowOf HB3.out HBE.out fun x hx => by have h8 : x = bX := hx; have h9 := HM.out; omega⟩
end Go.Proofs.Ytlkjpljfbmploaa
