import Derived.Test.YtlflcdjaknnfaaaKT
namespace Go.Proofs.Ytlflcdjaknnfaaa
open Go.RowKit

theorem below_of {F : Nat → Prop} {w0 w wx : World} (hb0 : Below w0.heap.size w0 w) (h : But F w wx) (hF : ∀ k, F k → w0.heap.size ≤ k) : Below w0.heap.size w0 wx :=
  ⟨h.os.trans hb0.os, h.tape.trans hb0.tape, h.output.trans hb0.output, Nat.le_trans hb0.size h.size, fun k hk => (h.block k (Nat.lt_of_lt_of_le hk hb0.size) (fun hf => by have := hF k hf; omega)).trans (hb0.block k hk)⟩
theorem Dk.go {F : Nat → Prop} {w wr w2 w3 : World} {p : Nat} {S : Sd} (hb : But F w wr) (h2 : Below wr.heap.size wr w2) (h3 : Dk (ext (ext F w wr) w2 w3) w3 p S) (hb3 : But (ext F w wr) w2 w3) (hl : ∀ k, F k → k < w.heap.size) : Dk (ext F w w3) w3 p S ∧ But F w w3 := by
  have hs := hb.size
  have hs2 := h2.size
  have hs3 := hb3.size
  have hbb : But F w w3 := (hb.andBelow h2).trans hb3 (fun x hx hk => by
    rcases hk with h | h
    · exact h
    · omega)
  refine ⟨h3.mono (fun k hk => ?_) (ext_lt hl hbb.size), hbb⟩
  rcases hk with (h | h) | h
  · exact .inl h
  · exact .inr ⟨h.1, by omega⟩
  · exact .inr ⟨by omega, h.2⟩
theorem Dk.go' {F : Nat → Prop} {w wr w2 : World} {p : Nat} {S : Sd} (hb : But F w wr) (h2 : Below wr.heap.size wr w2) (h : Dk (ext F w wr) wr p S) (hl : ∀ k, F k → k < w.heap.size) : Dk (ext F w w2) w2 p S ∧ But F w w2 := by
  have hs := hb.size
  have hs2 := h2.size
  refine ⟨(h.keep h2).mono (fun k hk => ?_) (ext_lt hl (Nat.le_trans hs hs2)), hb.andBelow h2⟩
  rcases hk with h | h
  · exact .inl h
  · exact .inr ⟨h.1, by omega⟩
theorem new_not {F : Nat → Prop} {w wr V : World} {a : Option Addr} (hn : New V none a) (hs : wr.heap.size ≤ V.heap.size) (hl : ∀ k, F k → k < w.heap.size) (hw : w.heap.size ≤ wr.heap.size) : ∀ x, a = some x → ¬ ext F w wr x.block := by
  intro x hx hk
  rcases hn x hx with ⟨y, hy, _⟩ | h
  · cases hy
  · rcases hk with h1 | h1
    · have := hl _ h1; omega
    · omega
theorem not_ext {F : Nat → Prop} {n : Nat} (h : ∀ k, F k → k < n) : ∀ x : Addr, (some ⟨n + 1, 0, none⟩ : Option Addr) = some x → ¬ F x.block := by
  intro x hx hk
  cases hx
  have := h _ hk
  simp only at this
  omega
set_option maxHeartbeats 3000000 in
theorem run_any {F : Nat → Prop} {w0 w : World} {p : Nat} {S : Sd} (h : Dk F w p S) (hb0 : Below w0.heap.size w0 w) (hF : ∀ k, F k → w0.heap.size ≤ k) (a : Option Addr) (c : Nat) (L : List Ov) (hL : Sp w0 a L) (m : Nat) (hm : S.room m) (hmb : m + L.length ≤ 100000000) :
    Calls Try.prog 26 #[.pointer (some ⟨p, 0, none⟩), .slice a L.length c] w fun e w' => e = .returned (.tuple #[]) ∧ Dk (ext F w w') w' p (S.run L) ∧ But F w w' := by
  have HLT := hide h.lt
  have HB0 := hide hb0
  have HF := hide hF
  have HL := hide hL
  have HM := hide hm
  have HD := hide h
  have hLn := hL.2.1
  clear h hb0 hF hL hm
  go_enter Try.func26, Try.ntmps26
  go_wp2
  go_loopw [4] (fun i wx => ∃ j : Nat, j ≤ L.length ∧ i = .int .i64 j ∧ (Dk (ext F w wx) wx p (S.run (L.take j)) ∧ But F w wx)) (fun i _ => L.length - (intOf i).toNat)
  case atStart => exact ⟨0, Nat.zero_le _, rfl, HD.out.mono (fun _ h => .inl h) (ext_lt HLT.out (Nat.le_refl _)), But.refl _ _⟩
  case round =>
    obtain ⟨j, hj, rfl, hG⟩ := hrel
    have HG := hide hG
    clear hG
    by_cases hlt : j < L.length
    · have hi : (j : Int) < (L.length : Int) := by omega
      have HBW := hide (below_of HB0.out HG.out.2 HF.out)
      obtain ⟨b, o, rfl, hra, hgo⟩ := (HL.out.keep HBW.out).at hlt
      have hS := Sd.run_take S L hlt
      have hrm := HM.out.run L j hj
      generalize hov : L.getD j Ov.zero = ov at *
      obtain ⟨k, i, aB, B, cB, aK, K, cK⟩ := ov
      have hra' : wr.rangeAt b (o + j * 4) [.int .i64 k, .int .i64 i, .slice aB B.length cB, .slice aK K.length cK] := hra
      have q0 := hra' 0 _ rfl
      have q1 := hra' 1 _ rfl
      have q2 := hra' 2 _ rfl
      have q3 := hra' 3 _ rfl
      rw [Nat.add_zero] at q0
      obtain ⟨W1, hW1⟩ : ∃ W1, W1 = wr.alloc (.cells #[.int .i64 k, .int .i64 i, .slice aB B.length cB, .slice aK K.length cK] 54) := ⟨_, rfl⟩
      have hb1 : Below wr.heap.size wr W1 := by rw [hW1]; exact al _ _
      have d1 : W1.cell? ⟨wr.heap.size, 1, none⟩ = some (.int .i64 i) := by rw [hW1, cell_of_row _ _ _ _ _ _ (heap_alloc_last wr _)]; rfl
      have d2 : W1.cell? ⟨wr.heap.size, 2, none⟩ = some (.slice aB B.length cB) := by rw [hW1, cell_of_row _ _ _ _ _ _ (heap_alloc_last wr _)]; rfl
      have d3 : W1.cell? ⟨wr.heap.size, 3, none⟩ = some (.slice aK K.length cK) := by rw [hW1, cell_of_row _ _ _ _ _ _ (heap_alloc_last wr _)]; rfl
      have hD1 := HG.out.1.keep hb1
      have hg1 := hgo.keep hb1
      have hS2 : (S.run (L.take (j + 1))) = (S.run (L.take j)).step ⟨k, i, aB, B, cB, aK, K, cK⟩ := hS
      obtain ⟨S1, hS1⟩ : ∃ S1, S1 = S.run (L.take j) := ⟨_, rfl⟩
      rw [← hS1] at hrm hS2 hD1 HG
      have hrb1 : S1.wr + 1 ≤ 4611686018427387904 := by have := hrm.1; omega
      have hrb2 : S1.sy + 1 ≤ 4611686018427387904 := by have := hrm.2.1; omega
      have hrb3 : S1.uns.length + 1 ≤ 268435456 := by have := hrm.2.2; omega
      have hib := hgo.i
      have hBl : B.length ≤ 1048576 := hgo.bl
      have hKl : K.length ≤ 1048576 := hgo.kl
      have HS2 := hide hS2
      have HD1 := hide hD1
      have Hg1 := hide hg1
      have HW1 := hide hb1
      have HWE := hide hW1
      clear hra hra' hgo hS hov hS2 hS1 hrm hD1 hg1 hb1
      rw [hW1] at d1 d2 d3
      clear hW1
      by_cases k1 : k = 1
      · subst k1
        have HE : Hid (S.run (L.take (j + 1)) = S1.write i B) := HS2.out
        have HC := hide (CopyBytes_any W1.drew aB B.length cB B (Hg1.out.b.keep (drw W1)) rfl (by omega))
        rw [HWE.out] at HC
        go_wp2
        go_region_held3 (fun V => V.cell? ⟨wr.heap.size, 1, none⟩ = some (.int .i64 i) ∧ V.cell? ⟨wr.heap.size, 2, none⟩ = some (.slice aB B.length cB))
          (first | exact ⟨d1, d2⟩ | exact e2 | exact e3)
          (first
            | (go_at_call 9; refine HC.out.mono ?_; rintro e w2 ⟨a2, c2, rfl, hr2, hn2, hb2⟩; rw [← HWE.out] at hn2 hb2; have hbb := bt HW1.out (bt (drw W1) hb2); have e2 : w2.cell? ⟨wr.heap.size, 1, none⟩ = some (.int .i64 i) ∧ w2.cell? ⟨wr.heap.size, 2, none⟩ = some (.slice aB B.length cB) := (by rw [← HWE.out] at d1 d2; exact ⟨(hb2.cell (p := ⟨wr.heap.size, 1, none⟩) (block_lt_of_cell d1)).trans d1, (hb2.cell (p := ⟨wr.heap.size, 2, none⟩) (block_lt_of_cell d2)).trans d2⟩); have RW := hide (kWrite (HD1.out.keep (bt (drw W1) hb2)) i a2 B.length c2 B (hr2.bs' Hg1.out.b.1) rfl (new_not hn2 HW1.out.size HLT.out HG.out.2.size) hrb3 hrb1); have HBB := hide hbb; have hlt2 : wr.heap.size < w2.heap.size := block_lt_of_cell e2.1; clear hr2 hn2 hb2 hbb)
            | (go_at_call 25; refine RW.out.mono ?_; rintro e w3 ⟨rfl, h3, hb3⟩; have H3 := hide (Dk.go HG.out.2 HBB.out h3 hb3 HLT.out); have e3 : w3.cell? ⟨wr.heap.size, 1, none⟩ = some (.int .i64 i) ∧ w3.cell? ⟨wr.heap.size, 2, none⟩ = some (.slice aB B.length cB) := ⟨(hb3.cell (p := ⟨wr.heap.size, 1, none⟩) hlt2 (fun hk => absurd (HG.out.1.lt _ hk) (Nat.lt_irrefl _))).trans e2.1, (hb3.cell (p := ⟨wr.heap.size, 2, none⟩) hlt2 (fun hk => absurd (HG.out.1.lt _ hk) (Nat.lt_irrefl _))).trans e2.2⟩; clear h3 hb3))
        go_wp2
        go_roundw
        case rel => exact ⟨j + 1, by omega, by go_num, by rw [HE.out]; exact H3.out.1, H3.out.2⟩
        case measure => simp [intOf]; omega
      have k1' := eqf k1
      by_cases k2 : k = 2
      · subst k2
        have HE : Hid (S.run (L.take (j + 1)) = S1.sync) := HS2.out
        have RW := hide (kSync HD1.out hrb2)
        rw [HWE.out] at RW
        go_wp2_with (go_at_call 24; refine RW.out.mono ?_; rintro e w3 ⟨rfl, h3, hb3⟩; rw [← HWE.out] at h3 hb3; have H3 := hide (Dk.go HG.out.2 HW1.out h3 hb3 HLT.out); clear h3 hb3)
        go_roundw
        case rel => exact ⟨j + 1, by omega, by go_num, by rw [HE.out]; exact H3.out.1, H3.out.2⟩
        case measure => simp [intOf]; omega
      have k2' := eqf k2
      by_cases k3 : k = 3
      · subst k3
        have HE : Hid (S.run (L.take (j + 1)) = S1.arm i) := HS2.out
        have RW := hide (kArm HD1.out i hib.2)
        rw [HWE.out] at RW
        go_wp2_with (go_at_call 23; refine RW.out.mono ?_; rintro e w3 ⟨rfl, h3, hb3⟩; rw [← HWE.out] at h3 hb3; have H3 := hide (Dk.go HG.out.2 HW1.out h3 hb3 HLT.out); clear h3 hb3)
        go_roundw
        case rel => exact ⟨j + 1, by omega, by go_num, by rw [HE.out]; exact H3.out.1, H3.out.2⟩
        case measure => simp [intOf]; omega
      have k3' := eqf k3
      by_cases k4 : k = 4
      · subst k4
        have HE : Hid (S.run (L.take (j + 1)) = S1.off) := HS2.out
        have RW := hide (kOff HD1.out)
        rw [HWE.out] at RW
        go_wp2_with (go_at_call 28; refine RW.out.mono ?_; rintro e w3 ⟨rfl, h3, hb3⟩; rw [← HWE.out] at h3 hb3; have H3 := hide (Dk.go HG.out.2 HW1.out h3 hb3 HLT.out); clear h3 hb3)
        go_roundw
        case rel => exact ⟨j + 1, by omega, by go_num, by rw [HE.out]; exact H3.out.1, H3.out.2⟩
        case measure => simp [intOf]; omega
      have k4' := eqf k4
      by_cases k5 : k = 5
      · subst k5
        have HE : Hid (S.run (L.take (j + 1)) = S1.on K) := HS2.out
        have hsz1 : W1.heap.size = wr.heap.size + 1 := by rw [HWE.out, size_alloc]
        have RC := hide (copyBools_any W1 aK K.length cK K Hg1.out.kb rfl hKl)
        rw [hsz1] at RC
        have HSZ := hide hsz1
        clear hsz1
        rw [HWE.out] at RC
        go_wp2_with (first | (go_at_call 29; refine RC.out.mono ?_; rintro e w2 ⟨rfl, hr2, hb2⟩; rw [← HWE.out] at hb2; have hb2' : Below W1.heap.size W1 w2 := (by rw [HSZ.out]; exact hb2); have RW := hide (kOn (HD1.out.keep hb2') (some ⟨wr.heap.size + 1, 0, none⟩) K.length K.length K hr2 rfl (not_ext HG.out.1.lt)); have HBB := hide (bt HW1.out hb2'); clear hr2 hb2 hb2') | (go_at_call 27; refine RW.out.mono ?_; rintro e w3 ⟨rfl, h3, hb3⟩; have H3 := hide (Dk.go HG.out.2 HBB.out h3 hb3 HLT.out); clear h3 hb3))
        go_roundw
        case rel => exact ⟨j + 1, by omega, by go_num, by rw [HE.out]; exact H3.out.1, H3.out.2⟩
        case measure => simp [intOf]; omega
      have k5' := eqf k5
      by_cases k10 : k = 10
      · subst k10
        have HE : Hid (S.run (L.take (j + 1)) = S1.layd i B) := HS2.out
        have HC := hide (CopyBytes_any W1.drew aB B.length cB B (Hg1.out.b.keep (drw W1)) rfl (by omega))
        rw [HWE.out] at HC
        go_wp2
        go_region_held3 (fun V => V.cell? ⟨wr.heap.size, 1, none⟩ = some (.int .i64 i) ∧ V.cell? ⟨wr.heap.size, 2, none⟩ = some (.slice aB B.length cB))
          (first | exact ⟨d1, d2⟩ | exact e2 | exact e3)
          (first
            | (go_at_call 9; refine HC.out.mono ?_; rintro e w2 ⟨a2, c2, rfl, hr2, hn2, hb2⟩; rw [← HWE.out] at hn2 hb2; have hbb := bt HW1.out (bt (drw W1) hb2); have e2 : w2.cell? ⟨wr.heap.size, 1, none⟩ = some (.int .i64 i) ∧ w2.cell? ⟨wr.heap.size, 2, none⟩ = some (.slice aB B.length cB) := (by rw [← HWE.out] at d1 d2; exact ⟨(hb2.cell (p := ⟨wr.heap.size, 1, none⟩) (block_lt_of_cell d1)).trans d1, (hb2.cell (p := ⟨wr.heap.size, 2, none⟩) (block_lt_of_cell d2)).trans d2⟩); have RW := hide (kLay (HD1.out.keep (bt (drw W1) hb2)) i a2 B.length c2 B (hr2.bs' Hg1.out.b.1) rfl); have HBB := hide hbb; have hlt2 : wr.heap.size < w2.heap.size := block_lt_of_cell e2.1; clear hr2 hn2 hb2 hbb)
            | (go_at_call 43; refine RW.out.mono ?_; rintro e w3 ⟨rfl, h3, hb3⟩; have H3 := hide (Dk.go HG.out.2 HBB.out h3 hb3 HLT.out); have e3 : w3.cell? ⟨wr.heap.size, 1, none⟩ = some (.int .i64 i) ∧ w3.cell? ⟨wr.heap.size, 2, none⟩ = some (.slice aB B.length cB) := ⟨(hb3.cell (p := ⟨wr.heap.size, 1, none⟩) hlt2 (fun hk => absurd (HG.out.1.lt _ hk) (Nat.lt_irrefl _))).trans e2.1, (hb3.cell (p := ⟨wr.heap.size, 2, none⟩) hlt2 (fun hk => absurd (HG.out.1.lt _ hk) (Nat.lt_irrefl _))).trans e2.2⟩; clear h3 hb3))
        go_wp2
        go_roundw
        case rel => exact ⟨j + 1, by omega, by go_num, by rw [HE.out]; exact H3.out.1, H3.out.2⟩
        case measure => simp [intOf]; omega
      have k10' := eqf k10
      have HE : Hid (S.run (L.take (j + 1)) = S1) := by
        show _ = _
        rw [HS2.out]
        unfold Sd.step
        rw [if_neg k1, if_neg k2, if_neg k3, if_neg k4, if_neg k5, if_neg k10]
      have H3 := hide (Dk.go' HG.out.2 HW1.out HG.out.1 HLT.out)
      rw [HWE.out] at H3
      go_wp2
      go_roundw
      case rel => exact ⟨j + 1, by omega, by go_num, by rw [HE.out]; exact H3.out.1, H3.out.2⟩
      case measure => simp [intOf]; omega
    · obtain rfl : j = L.length := by omega
      go_wp2
      go_end0
      have h := HG.out
      rw [List.take_length] at h
      exact ⟨rfl, h⟩
end Go.Proofs.Ytlflcdjaknnfaaa
