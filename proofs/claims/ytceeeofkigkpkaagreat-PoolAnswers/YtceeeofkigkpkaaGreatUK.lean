import Derived.Test.YtceeeofkigkpkaaGreatUJ
namespace Go.Proofs.YtceeeofkigkpkaaGreat
open Go.RowKit

theorem wrapI {x : Int} (h : -9223372036854775808 ≤ x) (h2 : x ≤ 9223372036854775807) : IntKind.i64.wrap x = x := by rw [IntKind.wrap_i64]; omega
theorem Vw.front {w : World} {a : Option Addr} {cap : Nat} {L M : List Rn} (h : Vw w a cap (L ++ M)) : Vw w a cap L ∨ a = none := by
  rcases h.cases with ⟨rfl, rfl, hn⟩ | ⟨g, Y, rfl, hg, h1, h2, h3⟩
  · exact .inr rfl
  · rw [rc_append, List.append_assoc] at hg
    rw [List.length_append] at h1 h3
    exact .inl (Vw.mk hg (by omega) h2 (by rw [List.length_append, rc_length]; omega))
theorem But.inA {a : Option Addr} {w w' : World} (hg : w.grownBy w' (a.map Addr.block)) : But (InA a) w w' := (But.refl _ _).grown hg fun _ hk _ => map_some hk
set_option maxHeartbeats 4000000 in
set_option maxRecDepth 10000 in
theorem Insert_any (w : World) (a : Option Addr) (cap : Nat) (A B : List Rn) (hR : Vw w a cap (A ++ B)) (av : Option Addr) (cv : Nat) (V : List Rn) (hV : Vw w av cv V) (hne : ∀ x y, a = some x → av = some y → x.block ≠ y.block) (hl : A.length + B.length + V.length ≤ 14000000000000) :
    Calls Tryz.prog 87 #[.slice a ((A.length + B.length : Nat)) cap, .int .i64 ((A.length : Nat) : Int), .slice av V.length cv] w fun e w' =>
      ∃ a' cap', e = .returned (.slice a' ((A.length + V.length + B.length : Nat)) cap') ∧ Vw w' a' cap' (A ++ V ++ B) ∧ New w a a' ∧ But (InA a) w w' := by
  have hcl := hR.len
  rw [List.length_append] at hcl
  unfold maxLen at hcl
  obtain ⟨hc1, hc2⟩ := hcl
  have hR' := hide hR
  have hV' := hide hV
  by_cases hv0 : V = []
  · subst hv0
    have hR2 := hide hR
    clear hR hV
    rw [List.length_nil]
    obtain ⟨nA, hA⟩ : ∃ nA : Nat, nA = A.length := ⟨_, rfl⟩
    obtain ⟨n, hn⟩ : ∃ n : Nat, n = A.length + B.length := ⟨_, rfl⟩
    have hAn : nA ≤ n := by omega
    rw [← hn, ← hA, show nA + 0 + B.length = n by omega]
    rw [← hn] at hc1
    clear hA hn
    by_cases hcz : cap = nA
    · go_enter Tryz.func87, Tryz.ntmps87
      go_wp2
      go_ret
      exact ⟨a, cap, rfl, by rw [List.append_nil]; exact hR2.out, New.refl _ _, But.refl _ _⟩
    · go_enter Tryz.func87, Tryz.ntmps87
      go_wp2
      go_ret
      exact ⟨a, cap, rfl, by rw [List.append_nil]; exact hR2.out, New.refl _ _, But.refl _ _⟩
  · have hvp : 0 < V.length := List.length_pos_iff.2 hv0
    obtain ⟨nV, hnV⟩ : ∃ nV : Nat, nV = V.length := ⟨_, rfl⟩
    by_cases hb0 : B = []
    · subst hb0
      rw [List.append_nil] at hR
      rw [List.length_nil, Nat.add_zero, Nat.add_zero] at *
      obtain ⟨nA, hA⟩ : ∃ nA : Nat, nA = A.length := ⟨_, rfl⟩
      rw [← hA, ← hnV]
      rw [← hA] at hc1
      have hp : 0 < nV := by omega
      have hl2 : nA + nV ≤ 14000000000000 := by omega
      have hA' := hide hA
      have hnV' := hide hnV
      have hvp' := hide hvp
      have hl' := hide hl
      clear hA hnV hvp hl hR hV
      by_cases hcz : cap = nA
      all_goals
        go_enter Tryz.func87, Tryz.ntmps87
        go_wp2_with (at_builtin; refine wpList_apR rfl _ _ rfl a nA cap A (by simp [Act.eval]) hA'.out (by have := hR'.out; rwa [List.append_nil] at this) av nV cv V (by simp [Act.eval]) hnV'.out hV'.out.vs hv0 hl'.out ?_; intro g cap' w' h1 h2 h3)
        go_ret
        exact ⟨_, cap', rfl, by rw [List.append_nil]; exact h1, h2, But.inA h3⟩
    · have hbp : 0 < B.length := List.length_pos_iff.2 hb0
      obtain ⟨nA, hA⟩ : ∃ nA : Nat, nA = A.length := ⟨_, rfl⟩
      obtain ⟨nB, hB⟩ : ∃ nB : Nat, nB = B.length := ⟨_, rfl⟩
      rw [← hA, ← hB, ← hnV]
      rw [← hA, ← hB] at hc1 hl
      rw [← hnV] at hl hvp
      rw [← hB] at hbp
      have hA' := hide hA
      have hB' := hide hB
      have hnV' := hide hnV
      clear hA hB hnV hR hV
      rcases hR'.out.cases with ⟨_, _, h0⟩ | ⟨g, Y, rfl, hg, h1, h2, h3⟩
      · simp at h0
        exact absurd h0.2 hb0
      rcases hV'.out.cases with ⟨_, _, h0⟩ | ⟨gv, Yv, rfl, hgv, v1, v2, v3⟩
      · exact absurd h0 hv0
      have hgg : g ≠ gv := hne _ _ rfl rfl
      have hcz : ¬ cap = nA := by omega
      rw [rc_append, List.append_assoc] at hg
      rw [List.length_append, ← hA'.out, ← hB'.out] at h3
      have cB : Cs w g (nA * 2) (rc B) := by have := hg.cs (P := rc A) (X := rc B) (Y := Y) (by simp); rwa [rc_length, ← hA'.out] at this
      have cV : Cs w gv 0 (rc V) := hgv.cs (P := []) (X := rc V) (Y := Yv) (by simp)
      have lA : (rc A).length = nA * 2 := by rw [rc_length, ← hA'.out]
      have lB : (rc B).length = nB * 2 := by rw [rc_length, ← hB'.out]
      have lV : (rc V).length = nV * 2 := by rw [rc_length, ← hnV'.out]
      obtain ⟨nS, hS⟩ : ∃ m : Nat, m = nA + nB := ⟨_, rfl⟩
      obtain ⟨nT, hT⟩ : ∃ m : Nat, m = nA + nB + nV := ⟨_, rfl⟩
      obtain ⟨nX, hX⟩ : ∃ m : Nat, m = nA + nV := ⟨_, rfl⟩
      rw [← hS, show nA + nV + nB = nT by omega]
      rw [← hS] at hc1
      have i1 : (nS : Int) + (nV : Int) = (nT : Int) := by omega
      have i2 : (nA : Int) + (nV : Int) = (nX : Int) := by omega
      have n1 : nT - nX = nB := by omega
      have n2 : nT - nA = nB + nV := by omega
      have n3 : nS - nA = nB := by omega
      have l1 : nA ≤ nS := by omega
      have l2 : nX ≤ nT := by omega
      have l3 : nA ≤ nT := by omega
      have l4 : ¬ nA = nS := by omega
      have l5 : nT ≤ 14000000000000 := by omega
      have l6 : nS ≤ 14000000000000 := by omega
      have l7 : ¬ nV = 0 := by omega
      have wX : IntKind.i64.wrap (nX : Int) = (nX : Int) := wrapI (by omega) (by omega)
      have x1 : (nX : Int) ≤ (nT : Int) := by omega
      have x2 : (nA : Int) ≤ (nT : Int) := by omega
      have x3 : (nA : Int) ≤ (nS : Int) := by omega
      have q1 := hide hS
      have q2 := hide hT
      have q3 := hide hX
      by_cases hroom : nT ≤ cap
      · obtain ⟨Q, R, hQ, lQ⟩ : ∃ Q R, rc B ++ Y = Q ++ R ∧ Q.length = nV * 2 := ⟨(rc B ++ Y).take (nV * 2), (rc B ++ Y).drop (nV * 2), (List.take_append_drop _ _).symm, by rw [List.length_take, List.length_append, lB]; omega⟩
        have lR : nV * 2 + R.length = nB * 2 + Y.length := by have := congrArg List.length hQ; rw [List.length_append, List.length_append, lB, lQ] at this; omega
        rw [hQ, ← List.append_assoc] at hg
        have hov := fun oh lb cb => run_overlaps w gv g 0 oh nV cv lb cb _ _ hgv hg (fun e => hgg e.symm) (by intro e; have := congrArg List.length e; rw [List.length_append, List.length_append, lA, lQ] at this; simp at this; omega)
        have hg' := hide hg
        have cB' := hide cB
        have cV' := hide cV
        have hcz2 : ¬ cap = nX := by omega
        have q4 := hide lR
        have q5 := hide lQ
        have q6 := hide lA
        have q7 := hide lB
        have q8 := hide lV
        have q9 := hide h3
        clear hg cB cV hQ hS hT hX lR lQ lA lB lV h3 h1 h2 v1 v2 v3
        go_enter Tryz.func87, Tryz.ntmps87
        go_wp2_with fail
        go_region_law (first | (refine step_copyR rfl _ _ rfl g (nX * 2) nB (cap - nX) (by simp [Act.eval, Act.put]) (some ⟨g, nA * 2, none⟩) (nB + nV) (cap - nA) (by simp [Act.eval, Act.put]) (rc A ++ Q) (rc B) R (by rw [List.length_append, q6.out, q5.out, q3.out]; omega) hg'.out (by rw [q7.out, show Nat.min (nB + nV) nB = nB from Nat.min_eq_right (by omega)]) (.inr ⟨g, nA * 2, rfl, cB'.out⟩) (by have := q4.out; have := q9.out; have := q2.out; rw [q7.out]; omega) (rc_one B) ?_; intro n1' w1 r1 b0))
        have b1 : But (fun k => k = g) w w1 := (But.drew (But.refl _ w)).trans b0 (fun _ _ h => h)
        clear b0
        have r1' := hide (show Rowb w1 g (rc A ++ (Q ++ rc B ++ R.drop (rc B).length)) by rw [← List.append_assoc, ← List.append_assoc]; exact r1)
        have cV1 := hide (cV'.out.but b1 (show ¬ gv = g from fun e => hgg e.symm))
        clear r1
        obtain ⟨w2, hrun, r2, b2⟩ := run_copyR w1 3 g (nB + nV) (cap - nA) (some ⟨gv, 0, none⟩) nV cv (rc A) (rc V) (Q ++ rc B ++ R.drop (rc B).length) r1'.out (by rw [q8.out, show Nat.min nV (nB + nV) = nV from Nat.min_eq_left (by omega)]) (.inr ⟨gv, 0, rfl, cV1.out⟩) (by rw [List.length_append, List.length_append, q5.out, q8.out]; omega) (rc_one V)
        rw [q6.out] at hrun
        have r2' := hide r2
        clear r2
        go_wp2
        go_ret
        have r2 := r2'.out
        refine ⟨_, cap, rfl, Vw.mk (Y := R.drop (rc B).length) ?_ ?_ (by unfold maxLen; omega) ?_, New.refl _ _, ?_⟩
        · rw [rc_append, rc_append]
          have e : (Q ++ rc B ++ R.drop (rc B).length).drop (rc V).length = rc B ++ R.drop (rc B).length := by
            rw [q8.out, ← q5.out, List.append_assoc, List.drop_left' rfl]
          rw [e, ← List.append_assoc] at r2
          exact r2
        · rw [List.length_append, List.length_append, ← hA'.out, ← hB'.out, ← hnV'.out]
          have := q2.out
          omega
        · rw [List.length_append, List.length_append, ← hA'.out, ← hB'.out, ← hnV'.out, List.length_drop, q7.out]
          have := q2.out
          have := q4.out
          have := q9.out
          omega
        · exact (b1.trans b2 (fun _ _ h => h)).mono (fun k _ h => ⟨_, rfl, h.symm⟩)
      · have hA0 := hide (show Vs w (some ⟨g, 0, none⟩) A by
          rcases hR'.out.front with h | h
          · exact h.vs
          · cases h)
        have cB' := hide cB
        have cV' := hide cV
        have q6 := hide lA
        have q7 := hide lB
        have q8 := hide lV
        have gl := hg.lt
        have gvl := hgv.lt
        have i3 : (nT : Int) - (nA : Int) = ((nB + nV : Nat) : Int) := by omega
        obtain ⟨nZ, hZ⟩ : ∃ m : Nat, m = nB + nV := ⟨_, rfl⟩
        rw [← hZ] at i3 n2
        have zA : nA + nZ = nT := by omega
        have zp : 0 < nZ := by omega
        have z9 : nZ ≤ 14000000000000 := by omega
        have qZ := hide hZ
        have hroom' : cap < nT := by omega
        clear cB cV hS hT hX lA lB lV h3 h1 h2 v1 v2 v3 hg hgv hZ hroom
        obtain ⟨cap', w1, hrun1, hv1, hb1⟩ := run_apZ w 88 (some ⟨g, 0, none⟩) nA cap A hA'.out hA0.out nZ zp (by rw [← hA'.out, zA]; exact hroom') (by rw [← hA'.out, zA]; exact l5)
        rw [zA] at hrun1
        have hl1 := hv1.len
        rw [List.length_append, List.length_replicate, ← hA'.out, zA] at hl1
        obtain ⟨hl1a, hl1b⟩ := hl1
        unfold maxLen at hl1b
        have hcz3 : ¬ cap' = nA := by omega
        have hcz4 : ¬ cap' = nX := by omega
        rcases hv1.cases with ⟨h0, _⟩ | ⟨H, Y1, h0, hg1, y1, y2, y3⟩
        · cases h0
        simp only [Option.some.injEq, Addr.mk.injEq, and_true] at h0
        subst h0
        rw [rc_append, List.append_assoc] at hg1
        have lZ : (rc (List.replicate nZ Rn.zero)).length = nZ * 2 := by rw [rc_length, List.length_replicate]
        obtain ⟨w2, hrun2, r2, b2⟩ := run_copyR w1 3 w.heap.size nZ (cap' - nA) (some ⟨gv, 0, none⟩) nV cv (rc A) (rc V) (rc (List.replicate nZ Rn.zero) ++ Y1) hg1 (by rw [q8.out, show Nat.min nV nZ = nV from Nat.min_eq_left (by have := qZ.out; omega)]) (.inr ⟨gv, 0, rfl, cV'.out.keep hb1⟩) (by have := qZ.out; rw [List.length_append, lZ, q8.out]; omega) (rc_one V)
        rw [q6.out] at hrun2
        have bB2 : Cs w2 g (nA * 2) (rc B) := (cB'.out.keep hb1).but b2 (show ¬ g = w.heap.size by omega)
        have ly : ((rc (List.replicate nZ Rn.zero) ++ Y1).drop (rc V).length).length = nB * 2 + Y1.length := by have := qZ.out; rw [List.length_drop, List.length_append, lZ, q8.out]; omega
        generalize (rc (List.replicate nZ Rn.zero) ++ Y1).drop (rc V).length = Y2 at *
        obtain ⟨w3, hrun3, r3, b3⟩ := run_copyR w2.drew 3 w.heap.size nB (cap' - nX) (some ⟨g, nA * 2, none⟩) nB (cap - nA) (rc A ++ rc V) (rc B) Y2 r2 (by rw [q7.out, show Nat.min nB nB = nB from Nat.min_self _]) (.inr ⟨g, nA * 2, rfl, bB2⟩) (by rw [ly, q7.out]; omega) (rc_one B)
        rw [List.length_append, q6.out, q8.out, show nA * 2 + nV * 2 = nX * 2 by have := q3.out; omega] at hrun3
        have R3 := hide r3
        have B3 := hide b3
        have B2 := hide b2
        have LY := hide ly
        have Y3 := hide y3
        clear r3 b3 b2 ly y3 r2 bB2 hv1 hg1 lZ
        go_enter Tryz.func87, Tryz.ntmps87
        go_wp2_with (at_builtin; refine Lib.wpList_append_run _ rfl _ _ _ _ rfl _ _ rfl rfl _ _ hrun1 ?_)
        go_region
        all_goals
          go_wp2
          go_ret
          refine ⟨_, cap', rfl, Vw.mk (Y := Y2.drop (rc B).length) (by rw [rc_append, rc_append]; exact R3.out) ?_ (by unfold maxLen; omega) ?_, fun z hz => .inr (by cases hz; exact Nat.le_refl _), ?_⟩
          · rw [List.length_append, List.length_append, ← hA'.out, ← hB'.out, ← hnV'.out]
            have := q2.out
            omega
          · rw [List.length_append, List.length_append, ← hA'.out, ← hB'.out, ← hnV'.out, List.length_drop, q7.out, LY.out]
            have := Y3.out
            rw [List.length_append, List.length_replicate, ← hA'.out] at this
            have := qZ.out
            omega
          · exact ((But.ofBelow hb1).trans B2.out (fun k hk e => by omega)).trans ((But.drew (But.refl (fun k => k = w.heap.size) w2)).trans B3.out (fun _ _ h => h)) (fun k hk e => by omega)
end Go.Proofs.YtceeeofkigkpkaaGreat
