import Derived.Test.YtbhigodjbfoeoaaGreatWpUXB
namespace Go.Proofs.YtbhigodjbfoeoaaGreat.Q
open Go.RowKit
set_option maxHeartbeats 2000000 in
set_option maxRecDepth 20000 in
theorem Replace_none (w : World) (a : Option Addr) (cap : Nat) (A B : List Rn) (hR : Vw w a cap (A ++ B)) (av : Option Addr) (cv : Nat) (V : List Rn) (hV : Vw w av cv V) (hne : ∀ x y, a = some x → av = some y → x.block ≠ y.block) (hl : A.length + B.length + V.length ≤ 14000000000000) :
    Calls Tryz.prog 138 #[.slice a ((A.length + B.length : Nat)) cap, .int .i64 ((A.length : Nat) : Int), .int .i64 ((A.length : Nat) : Int), .slice av V.length cv] w fun e w' =>
      ∃ a' cap', e = .returned (.slice a' ((A.length + V.length + B.length : Nat)) cap') ∧ Vw w' a' cap' (A ++ V ++ B) ∧ New w a a' ∧ But (InA a) w w' := by
  have hcl := hR.len
  rw [List.length_append] at hcl
  unfold maxLen at hcl
  obtain ⟨hc1, hc2⟩ := hcl
  have C := hide (Insert_any w a cap A B hR av cv V hV hne hl)
  obtain ⟨nS, hS⟩ : ∃ m : Nat, m = A.length + B.length := ⟨_, rfl⟩
  have l1 : A.length ≤ nS := by omega
  have l2 : A.length ≤ cap := by omega
  rw [← hS] at C ⊢
  generalize A.length + V.length + B.length = nT at *
  generalize A.length = nA at *
  generalize V.length = nV at *
  clear hS hl hR hV hc1 hne
  by_cases hcz : cap = nA
  · subst hcz
    go_enter Tryz.func138, Tryz.ntmps138
    go_wp2_with fail
    refine C.out.mono ?_
    rintro e w1 ⟨a', cap', rfl, h1, h2, h3⟩
    go_wp2
    go_ret
    exact ⟨a', cap', rfl, h1, h2, h3⟩
  · skip
    go_enter Tryz.func138, Tryz.ntmps138
    go_wp2_with fail
    refine C.out.mono ?_
    rintro e w1 ⟨a', cap', rfl, h1, h2, h3⟩
    go_wp2
    go_ret
    exact ⟨a', cap', rfl, h1, h2, h3⟩
end Go.Proofs.YtbhigodjbfoeoaaGreat.Q
namespace Go.Proofs.YtbhigodjbfoeoaaGreat.Q
open Go.RowKit
set_option maxHeartbeats 2000000 in
set_option maxRecDepth 20000 in
theorem Replace_end1 (w : World) (a : Option Addr) (cap : Nat) (A M B : List Rn) (hR : Vw w a cap (A ++ M ++ B)) (av : Option Addr) (cv : Nat) (V : List Rn) (hV : Vw w av cv V) (hne : ∀ x y, a = some x → av = some y → x.block ≠ y.block) (hl : A.length + M.length + B.length + V.length ≤ 14000000000000) (hm0 : M ≠ []) (hb0 : B.length = 0) (hvm : V.length < M.length) :
    Calls Tryz.prog 138 #[.slice a ((A.length + M.length + B.length : Nat)) cap, .int .i64 ((A.length : Nat) : Int), .int .i64 ((A.length + M.length : Nat) : Int), .slice av V.length cv] w fun e w' =>
      ∃ a' cap', e = .returned (.slice a' ((A.length + V.length + B.length : Nat)) cap') ∧ Vw w' a' cap' (A ++ V ++ B) ∧ New w a a' ∧ But (InA a) w w' := by
  have hcl := hR.len
  rw [List.length_append, List.length_append] at hcl
  unfold maxLen at hcl
  obtain ⟨hc1, hc2⟩ := hcl
  have hmp : 0 < M.length := List.length_pos_iff.2 hm0
  rcases hR.cases with ⟨_, _, h0⟩ | ⟨g, Y, rfl, hg, h1, h2, h3⟩
  · simp at h0
    exact absurd h0.2.1 hm0
  rw [List.length_append, List.length_append] at h3
  rw [rc_append, rc_append, List.append_assoc, List.append_assoc] at hg
  have lA := rc_length A
  have lM := rc_length M
  have lB := rc_length B
  have lV := rc_length V
  have hVs := hV.vs
  have hV1 : rc V = [] ∨ ∃ b o, av = some ⟨b, o, none⟩ ∧ Cs w b o (rc V) := hVs.imp (fun h => by rw [h]; rfl) id
  have avne : ∀ b o, av = some ⟨b, o, none⟩ → b ≠ g := fun b o e e2 => hne ⟨g, 0, none⟩ ⟨b, o, none⟩ rfl e e2.symm
  have RA : Vw w (some ⟨g, 0, none⟩) cap A := by
    rw [List.append_assoc] at hR
    rcases hR.front with h | h
    · exact h
    · cases h
  have cB : Cs w g ((A.length + M.length) * 2) (rc B) := by
    have := hg.cs (P := rc A ++ rc M) (X := rc B) (Y := Y) (by simp)
    rwa [List.length_append, lA, lM, ← Nat.add_mul] at this
  obtain ⟨nA, hA⟩ : ∃ m : Nat, m = A.length := ⟨_, rfl⟩
  obtain ⟨nM, hM⟩ : ∃ m : Nat, m = M.length := ⟨_, rfl⟩
  obtain ⟨nB, hB⟩ : ∃ m : Nat, m = B.length := ⟨_, rfl⟩
  obtain ⟨nV, hnV⟩ : ∃ m : Nat, m = V.length := ⟨_, rfl⟩
  rw [← hA] at lA hl hc1 h3 cB ⊢
  rw [← hM] at lM hl hc1 h3 hmp cB ⊢
  rw [← hB] at lB hl hc1 h3 ⊢
  rw [← hnV] at lV hl ⊢
  obtain ⟨nS, hS⟩ : ∃ m : Nat, m = nA + nM + nB := ⟨_, rfl⟩
  obtain ⟨nJ, hJ⟩ : ∃ m : Nat, m = nA + nM := ⟨_, rfl⟩
  obtain ⟨nT, hT⟩ : ∃ m : Nat, m = nA + nV + nB := ⟨_, rfl⟩
  obtain ⟨nX, hX⟩ : ∃ m : Nat, m = nA + nV := ⟨_, rfl⟩
  rw [← hJ] at cB
  rw [← hS, ← hJ, ← hT]
  have l1 : nA ≤ nJ := by omega
  have l2 : nJ ≤ nS := by omega
  have l3 : nS ≤ cap := by omega
  have l4 : ¬ nA = nJ := by omega
  have l5 : nT ≤ 14000000000000 := by omega
  have l6 : nS ≤ 14000000000000 := by omega
  have l7 : nX ≤ nT := by omega
  have l8 : ¬ cap = nA := by omega
  have x1 : (nA : Int) ≤ (nJ : Int) := by omega
  have x2 : (nJ : Int) ≤ (nS : Int) := by omega
  have x3 : (nA : Int) ≤ (nS : Int) := by omega
  have wX : IntKind.i64.wrap (nX : Int) = (nX : Int) := wrapI (by omega) (by omega)
  have gl := hg.lt
  rw [← hB] at hb0
  rw [← hM, ← hnV] at hvm
  obtain rfl : nJ = nS := by omega
  obtain rfl : nT = nX := by omega
  obtain ⟨w1, hrun1, r1, b1⟩ := run_apIn w 131 g cap nA (rc A) (rc V) (rc M ++ (rc B ++ Y)) av nV cv lA hg lV hV1 (by rw [List.length_append, lV, lM]; omega) (rc_one V) (by omega)
  have e0 : nA + nV = nT := by omega
  rw [e0] at hrun1
  have ly : ((rc M ++ (rc B ++ Y)).drop (rc V).length).length = (nM - nV) * 2 + Y.length := by rw [List.length_drop, List.length_append, List.length_append, lV, lM, lB]; omega
  generalize (rc M ++ (rc B ++ Y)).drop (rc V).length = Y1 at *
  obtain ⟨nD, hD⟩ : ∃ m : Nat, m = nM - nV := ⟨_, rfl⟩
  obtain ⟨w2, hrun2, r2, b2⟩ := run_clearR w1 0 g nD (cap - nT) (rc A ++ rc V) Y1 r1 (by rw [ly]; omega)
  rw [List.length_append, lA, lV, show nA * 2 + nV * 2 = nT * 2 by omega] at hrun2
  have n1 : nJ - nT = nD := by omega
  have l9 : nT < nJ := by omega
  have l10 : ¬ cap = nT := by omega
  have x4 : (nT : Int) ≤ (nJ : Int) := by omega
  have hB0 : B = [] := List.length_eq_zero_iff.1 (by omega)
  have goal : ∃ a' cap', Ending.returned (.slice (some ⟨g, 0, none⟩) nT cap) = .returned (.slice a' nT cap') ∧ Vw w2 a' cap' (A ++ V ++ B) ∧ New w (some ⟨g, 0, none⟩) a' ∧ But (InA (some ⟨g, 0, none⟩)) w w2 := by
    refine ⟨_, cap, rfl, Vw.mk (Y := rc (List.replicate nD Rn.zero) ++ Y1.drop (nD * 2)) ?_ ?_ (by unfold maxLen; omega) ?_, New.refl _ _, (b1.trans b2 (fun _ _ h => h)).mono (fun k _ h => ⟨_, rfl, h.symm⟩)⟩
    · rw [hB0, List.append_nil, rc_append, ← List.append_assoc]
      exact r2
    · rw [List.length_append, List.length_append, ← hA, ← hB, ← hnV]
      omega
    · rw [List.length_append, List.length_append, ← hA, ← hB, ← hnV, List.length_append, rc_length, List.length_replicate, List.length_drop, ly]
      omega
  have GG := hide goal
  clear goal r1 r2 b1 b2 ly hD e0 hB0 hA hM hB hnV
  clear hS hJ hT hX lA lM lB lV h3 hVs hV1 hg hR hV RA hne avne hl hc1 h1 h2 cB
  go_enter Tryz.func138, Tryz.ntmps138
  go_wp2_with (at_builtin; refine Lib.wpList_append_run _ rfl _ _ _ _ rfl _ _ rfl rfl _ _ hrun1 ?_)
  go_ret
  exact GG.out
end Go.Proofs.YtbhigodjbfoeoaaGreat.Q
namespace Go.Proofs.YtbhigodjbfoeoaaGreat.Q
open Go.RowKit
set_option maxHeartbeats 2000000 in
set_option maxRecDepth 20000 in
theorem Replace_end2 (w : World) (a : Option Addr) (cap : Nat) (A M B : List Rn) (hR : Vw w a cap (A ++ M ++ B)) (av : Option Addr) (cv : Nat) (V : List Rn) (hV : Vw w av cv V) (hne : ∀ x y, a = some x → av = some y → x.block ≠ y.block) (hl : A.length + M.length + B.length + V.length ≤ 14000000000000) (hm0 : M ≠ []) (hb0 : B.length = 0) (hvm : M.length ≤ V.length) :
    Calls Tryz.prog 138 #[.slice a ((A.length + M.length + B.length : Nat)) cap, .int .i64 ((A.length : Nat) : Int), .int .i64 ((A.length + M.length : Nat) : Int), .slice av V.length cv] w fun e w' =>
      ∃ a' cap', e = .returned (.slice a' ((A.length + V.length + B.length : Nat)) cap') ∧ Vw w' a' cap' (A ++ V ++ B) ∧ New w a a' ∧ But (InA a) w w' := by
  have hcl := hR.len
  rw [List.length_append, List.length_append] at hcl
  unfold maxLen at hcl
  obtain ⟨hc1, hc2⟩ := hcl
  have hmp : 0 < M.length := List.length_pos_iff.2 hm0
  rcases hR.cases with ⟨_, _, h0⟩ | ⟨g, Y, rfl, hg, h1, h2, h3⟩
  · simp at h0
    exact absurd h0.2.1 hm0
  rw [List.length_append, List.length_append] at h3
  rw [rc_append, rc_append, List.append_assoc, List.append_assoc] at hg
  have lA := rc_length A
  have lM := rc_length M
  have lB := rc_length B
  have lV := rc_length V
  have hVs := hV.vs
  have hV1 : rc V = [] ∨ ∃ b o, av = some ⟨b, o, none⟩ ∧ Cs w b o (rc V) := hVs.imp (fun h => by rw [h]; rfl) id
  have avne : ∀ b o, av = some ⟨b, o, none⟩ → b ≠ g := fun b o e e2 => hne ⟨g, 0, none⟩ ⟨b, o, none⟩ rfl e e2.symm
  have RA : Vw w (some ⟨g, 0, none⟩) cap A := by
    rw [List.append_assoc] at hR
    rcases hR.front with h | h
    · exact h
    · cases h
  have cB : Cs w g ((A.length + M.length) * 2) (rc B) := by
    have := hg.cs (P := rc A ++ rc M) (X := rc B) (Y := Y) (by simp)
    rwa [List.length_append, lA, lM, ← Nat.add_mul] at this
  obtain ⟨nA, hA⟩ : ∃ m : Nat, m = A.length := ⟨_, rfl⟩
  obtain ⟨nM, hM⟩ : ∃ m : Nat, m = M.length := ⟨_, rfl⟩
  obtain ⟨nB, hB⟩ : ∃ m : Nat, m = B.length := ⟨_, rfl⟩
  obtain ⟨nV, hnV⟩ : ∃ m : Nat, m = V.length := ⟨_, rfl⟩
  rw [← hA] at lA hl hc1 h3 cB ⊢
  rw [← hM] at lM hl hc1 h3 hmp cB ⊢
  rw [← hB] at lB hl hc1 h3 ⊢
  rw [← hnV] at lV hl ⊢
  obtain ⟨nS, hS⟩ : ∃ m : Nat, m = nA + nM + nB := ⟨_, rfl⟩
  obtain ⟨nJ, hJ⟩ : ∃ m : Nat, m = nA + nM := ⟨_, rfl⟩
  obtain ⟨nT, hT⟩ : ∃ m : Nat, m = nA + nV + nB := ⟨_, rfl⟩
  obtain ⟨nX, hX⟩ : ∃ m : Nat, m = nA + nV := ⟨_, rfl⟩
  rw [← hJ] at cB
  rw [← hS, ← hJ, ← hT]
  have l1 : nA ≤ nJ := by omega
  have l2 : nJ ≤ nS := by omega
  have l3 : nS ≤ cap := by omega
  have l4 : ¬ nA = nJ := by omega
  have l5 : nT ≤ 14000000000000 := by omega
  have l6 : nS ≤ 14000000000000 := by omega
  have l7 : nX ≤ nT := by omega
  have l8 : ¬ cap = nA := by omega
  have x1 : (nA : Int) ≤ (nJ : Int) := by omega
  have x2 : (nJ : Int) ≤ (nS : Int) := by omega
  have x3 : (nA : Int) ≤ (nS : Int) := by omega
  have wX : IntKind.i64.wrap (nX : Int) = (nX : Int) := wrapI (by omega) (by omega)
  have gl := hg.lt
  rw [← hB] at hb0
  rw [← hM, ← hnV] at hvm
  obtain rfl : nJ = nS := by omega
  obtain rfl : nT = nX := by omega
  have hv0 : V ≠ [] := fun e => by rw [e] at hnV; simp at hnV; omega
  obtain ⟨g', cap', w1, hrun1, r1, n1, b1⟩ := run_apR w 131 (some ⟨g, 0, none⟩) nA cap A hA RA av nV cv V hnV hVs hv0 (by omega)
  have e0 : nA + nV = nT := by omega
  rw [e0] at hrun1
  have l9 : ¬ nT < nJ := by omega
  have hB0 : B = [] := List.length_eq_zero_iff.1 (by omega)
  have goal : ∃ a' cap'', Ending.returned (.slice (some ⟨g', 0, none⟩) nT cap') = .returned (.slice a' nT cap'') ∧ Vw w1 a' cap'' (A ++ V ++ B) ∧ New w (some ⟨g, 0, none⟩) a' ∧ But (InA (some ⟨g, 0, none⟩)) w w1 :=
    ⟨_, cap', rfl, by rw [hB0, List.append_nil]; exact r1, n1, But.inA b1⟩
  have GG := hide goal
  clear goal r1 n1 b1 e0 hB0 hA hM hB hnV hv0
  clear hS hJ hT hX lA lM lB lV h3 hVs hV1 hg hR hV RA hne avne hl hc1 h1 h2 cB
  go_enter Tryz.func138, Tryz.ntmps138
  go_wp2_with (at_builtin; refine Lib.wpList_append_run _ rfl _ _ _ _ rfl _ _ rfl rfl _ _ hrun1 ?_)
  go_ret
  exact GG.out
end Go.Proofs.YtbhigodjbfoeoaaGreat.Q
