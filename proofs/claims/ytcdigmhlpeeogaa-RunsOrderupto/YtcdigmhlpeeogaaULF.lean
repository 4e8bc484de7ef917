import Derived.Test.YtcdigmhlpeeogaaUK
namespace Go.Proofs.Ytcdigmhlpeeogaa
open Go.RowKit

set_option maxHeartbeats 2000000 in
set_option maxRecDepth 20000 in
theorem Replace_mid3 (w : World) (a : Option Addr) (cap : Nat) (A M B : List Rn) (hR : Vw w a cap (A ++ M ++ B)) (av : Option Addr) (cv : Nat) (V : List Rn) (hV : Vw w av cv V) (hne : ∀ x y, a = some x → av = some y → x.block ≠ y.block) (hl : A.length + M.length + B.length + V.length ≤ 8589934592) (hm0 : M ≠ []) (hb0 : 0 < B.length) (hroom : A.length + V.length + B.length ≤ cap) (hvm : M.length < V.length) :
    Calls Try.prog 24 #[.slice a ((A.length + M.length + B.length : Nat)) cap, .int .i64 ((A.length : Nat) : Int), .int .i64 ((A.length + M.length : Nat) : Int), .slice av V.length cv] w fun e w' =>
      ∃ a' cap', e = .returned (.slice a' ((A.length + V.length + B.length : Nat)) cap') ∧ Vw w' a' cap' (A ++ V ++ B) ∧ New w a a' ∧ But (InA a) w w' := by
  have hcl := hR.len
  rw [List.length_append, List.length_append] at hcl
  unfold maxLen at hcl
  obtain ⟨hc1, hc2⟩ := hcl
  have hmp : 0 < M.length := List.length_pos_iff.2 hm0
  rcases hR.cases with ⟨_, _, h0⟩ | ⟨g, Y, rfl, hg, h1, h2, h3⟩
  · simp at h0
    exact absurd h0.2.1 hm0
  rw [List.length_append, List.length_append] at h3
  rw [rc_append, rc_append, List.append_assoc, List.append_assoc] at hg
  have lA := rc_length A
  have lM := rc_length M
  have lB := rc_length B
  have lV := rc_length V
  have hVs := hV.vs
  have hV1 : rc V = [] ∨ ∃ b o, av = some ⟨b, o, none⟩ ∧ Cs w b o (rc V) := hVs.imp (fun h => by rw [h]; rfl) id
  have avne : ∀ b o, av = some ⟨b, o, none⟩ → b ≠ g := fun b o e e2 => hne ⟨g, 0, none⟩ ⟨b, o, none⟩ rfl e e2.symm
  have RA : Vw w (some ⟨g, 0, none⟩) cap A := by
    rw [List.append_assoc] at hR
    rcases hR.front with h | h
    · exact h
    · cases h
  have cB : Cs w g ((A.length + M.length) * 2) (rc B) := by
    have := hg.cs (P := rc A ++ rc M) (X := rc B) (Y := Y) (by simp)
    rwa [List.length_append, lA, lM, ← Nat.add_mul] at this
  obtain ⟨nA, hA⟩ : ∃ m : Nat, m = A.length := ⟨_, rfl⟩
  obtain ⟨nM, hM⟩ : ∃ m : Nat, m = M.length := ⟨_, rfl⟩
  obtain ⟨nB, hB⟩ : ∃ m : Nat, m = B.length := ⟨_, rfl⟩
  obtain ⟨nV, hnV⟩ : ∃ m : Nat, m = V.length := ⟨_, rfl⟩
  rw [← hA] at lA hl hc1 h3 cB ⊢
  rw [← hM] at lM hl hc1 h3 hmp cB ⊢
  rw [← hB] at lB hl hc1 h3 ⊢
  rw [← hnV] at lV hl ⊢
  obtain ⟨nS, hS⟩ : ∃ m : Nat, m = nA + nM + nB := ⟨_, rfl⟩
  obtain ⟨nJ, hJ⟩ : ∃ m : Nat, m = nA + nM := ⟨_, rfl⟩
  obtain ⟨nT, hT⟩ : ∃ m : Nat, m = nA + nV + nB := ⟨_, rfl⟩
  obtain ⟨nX, hX⟩ : ∃ m : Nat, m = nA + nV := ⟨_, rfl⟩
  rw [← hJ] at cB
  rw [← hS, ← hJ, ← hT]
  have l1 : nA ≤ nJ := by omega
  have l2 : nJ ≤ nS := by omega
  have l3 : nS ≤ cap := by omega
  have l4 : ¬ nA = nJ := by omega
  have l5 : nT ≤ 8589934592 := by omega
  have l6 : nS ≤ 8589934592 := by omega
  have l7 : nX ≤ nT := by omega
  have l8 : ¬ cap = nA := by omega
  have x1 : (nA : Int) ≤ (nJ : Int) := by omega
  have x2 : (nJ : Int) ≤ (nS : Int) := by omega
  have x3 : (nA : Int) ≤ (nS : Int) := by omega
  have wX : IntKind.i64.wrap (nX : Int) = (nX : Int) := wrapI (by omega) (by omega)
  have gl := hg.lt
  rw [← hB] at hb0
  have l9 : ¬ nJ = nS := by omega
  have l11 : ¬ cap = nJ := by omega
  have n5 : nS - nJ = nB := by omega
  have i1 : (nA : Int) + (nV : Int) = (nX : Int) := by omega
  have i2 : (nX : Int) + (nB : Int) = (nT : Int) := by omega
  have x5 : (nX : Int) ≤ (nT : Int) := by omega
  have x6 : (nA : Int) ≤ (nT : Int) := by omega
  have n6 : nT - nX = nB := by omega
  have wT : IntKind.i64.wrap (nT : Int) = (nT : Int) := wrapI (by omega) (by omega)
  rw [← hA, ← hB, ← hnV, ← hT] at hroom
  rw [← hM, ← hnV] at hvm
  have lX : ¬ nX ≤ nJ := by omega
  have xX : ¬ (nX : Int) ≤ (nJ : Int) := by omega
  have lXc : ¬ cap = nX := by omega
  have n7 : nT - nA = nV + nB := by omega
  obtain ⟨nZ, hZ⟩ : ∃ m : Nat, m = nV + nB := ⟨_, rfl⟩
  rw [← hZ] at n7
  have HZ := hide hZ
  clear hZ
  have FF := hide (And.intro hS (And.intro hJ (And.intro hT (And.intro hX (And.intro hA (And.intro hM (And.intro hB hnV)))))))
  have F2 := hide (And.intro lA (And.intro lM (And.intro lB lV)))
  have F3 := hide h3
  have F4 := hide hg
  have F5 := hide RA
  have F6 := hide hV
  have F7 := hide hne
  have F8 := hide cB
  have F9 := hide hl
  clear hS hJ hT hX hA hM hB hnV lA lM lB lV h3 hg RA hV hne cB hl hVs hV1 avne hR hc1 h1 h2
  go_enter Try.func24, Try.ntmps24
  go_wp2_with fail
  go_quiet (fail)
  obtain ⟨W0, hW0⟩ : ∃ W0, w.drewN nq = W0 := ⟨_, rfl⟩
  have b0 : Below w.heap.size w W0 := by rw [← hW0]; exact drews _ _
  have s0 : W0.heap.size = w.heap.size := by rw [← hW0]; rfl
  rw [hW0]
  obtain ⟨hS, hJ, hT, hX, hA, hM, hB, hnV⟩ := FF.out
  obtain ⟨lA, lM, lB, lV⟩ := F2.out
  have h3 := F3.out
  have hg := F4.out.keep b0
  have RA := F5.out.keep b0
  have hV := F6.out.keep b0
  have hne := F7.out
  have cB := F8.out.keep b0
  have hl := F9.out
  have hZ := HZ.out
  have hv0 : V ≠ [] := fun e => by rw [e] at hnV; simp at hnV; omega
  rcases hV.cases with ⟨_, _, h0⟩ | ⟨gv, Yv, rfl, hgv, v1, v2, v3⟩
  · exact absurd h0 hv0
  have hgg : g ≠ gv := hne _ _ rfl rfl
  have cV : Cs W0 gv 0 (rc V) := hgv.cs (P := []) (X := rc V) (Y := Yv) (by simp)
  have hov := fun oh lb cb => run_overlaps W0 g gv oh 0 lb cb nV cv _ _ hg hgv hgg (by intro e; have := congrArg List.length e; rw [List.length_append, lV] at this; simp at this; omega)
  obtain ⟨Q, R, hQ, lQ⟩ : ∃ Q R, rc M ++ (rc B ++ Y) = Q ++ R ∧ Q.length = nV * 2 := ⟨(rc M ++ (rc B ++ Y)).take (nV * 2), (rc M ++ (rc B ++ Y)).drop (nV * 2), (List.take_append_drop _ _).symm, by rw [List.length_take, List.length_append, List.length_append, lM, lB]; omega⟩
  have lR : nV * 2 + R.length = nM * 2 + nB * 2 + Y.length := by have := congrArg List.length hQ; rw [List.length_append, List.length_append, List.length_append, lM, lB, lQ] at this; omega
  rw [hQ, ← List.append_assoc] at hg
  obtain ⟨w1, hrun1, r1, b1⟩ := run_copyR W0.drew 3 g nB (cap - nX) (some ⟨g, nJ * 2, none⟩) nB (cap - nJ) (rc A ++ Q) (rc B) R hg (by rw [lB, show Nat.min nB nB = nB from Nat.min_self _]) (.inr ⟨g, nJ * 2, rfl, cB⟩) (by rw [lB]; omega) (rc_one B)
  rw [List.length_append, lA, lQ, show nA * 2 + nV * 2 = nX * 2 by omega] at hrun1
  have b1' : But (fun k => k = g) W0 w1 := (But.drew (But.refl _ W0)).trans b1 (fun _ _ h => h)
  obtain ⟨w2, hrun2, r2, b2⟩ := run_copyR w1 3 g nZ (cap - nA) (some ⟨gv, 0, none⟩) nV cv (rc A) (rc V) (Q ++ rc B ++ R.drop (rc B).length) (by rw [← List.append_assoc, ← List.append_assoc]; exact r1) (by rw [lV, show Nat.min nV nZ = nV from Nat.min_eq_left (by omega)]) (.inr ⟨gv, 0, rfl, cV.but b1' (show ¬ gv = g from fun e => hgg e.symm)⟩) (by rw [List.length_append, List.length_append, lQ, lV]; omega) (rc_one V)
  rw [lA] at hrun2
  have goal : ∀ w4, w4 = w2 → ∃ a' cap'', Ending.returned (.slice (some ⟨g, 0, none⟩) nT cap) = .returned (.slice a' nT cap'') ∧ Vw w4 a' cap'' (A ++ V ++ B) ∧ New w (some ⟨g, 0, none⟩) a' ∧ But (InA (some ⟨g, 0, none⟩)) w w4 := by
    rintro w4 rfl
    refine ⟨_, cap, rfl, Vw.mk (Y := R.drop (rc B).length) ?_ ?_ (by unfold maxLen; omega) ?_, New.refl _ _, (((But.ofBelow (S := fun k => k = g) b0).trans b1' (fun _ _ h => h)).trans b2 (fun _ _ h => h)).mono (fun k _ h => ⟨_, rfl, h.symm⟩)⟩
    · have e : (Q ++ rc B ++ R.drop (rc B).length).drop (rc V).length = rc B ++ R.drop (rc B).length := by
        rw [lV, ← lQ, List.append_assoc, List.drop_left' rfl]
      rw [e, ← List.append_assoc] at r2
      rw [rc_append, rc_append]
      exact r2
    · rw [List.length_append, List.length_append, ← hA, ← hB, ← hnV]
      omega
    · rw [List.length_append, List.length_append, ← hA, ← hB, ← hnV, List.length_drop, lB]
      omega
  have GG := hide (goal w2 rfl)
  clear goal b1 b1' b2 r2 r1 hQ lQ lR cV hgv v1 v2 v3 hv0 hZ HZ hA hM hB hnV
  clear hS hJ hT hX lA lM lB lV h3 hg hV RA hne hl cB hW0 FF F2 F3 F4 F5 F6 F7 F8 F9
  go_wp2_with fail
  go_region
  all_goals
    go_wp2
    go_ret
    exact GG.out
end Go.Proofs.Ytcdigmhlpeeogaa
