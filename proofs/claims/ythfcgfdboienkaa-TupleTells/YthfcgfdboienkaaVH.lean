import Derived.Test.YthfcgfdboienkaaVG
import Derived.Laws.Strings
namespace Go.Proofs.Ythfcgfdboienkaa
open Go.RowKit

theorem kinds6 (k : Int) : k = 1 ∨ k = 2 ∨ k = 3 ∨ k = 4 ∨ k = 5 ∨ (k ≠ 1 ∧ k ≠ 2 ∧ k ≠ 3 ∧ k ≠ 4 ∧ k ≠ 5) := by omega
theorem cmpZ_ne {x y : Int} (h : x ≠ y) : cmpZ x y ≠ 0 := by
  unfold cmpZ
  split
  · decide
  · split
    · decide
    · omega
theorem cmp_ne {a b : VV} (h : a.kind ≠ b.kind) : VV.cmp a b = cmpZ a.kind b.kind := by unfold VV.cmp; rw [if_pos (cmpZ_ne h)]
theorem cmp_eq {a b : VV} (h : a.kind = b.kind) : VV.cmp a b = if a.kind = 1 then cmpBool a.bool b.bool
  else if a.kind = 2 then cmpZ a.int b.int
  else if a.kind = 3 then cmpZ (rank a.real) (rank b.real)
  else if a.kind = 4 then (if cmpZ (rank a.re) (rank b.re) ≠ 0 then cmpZ (rank a.re) (rank b.re) else cmpZ (rank a.im) (rank b.im))
  else if a.kind = 5 then cmpB (tl a.text) (tl b.text)
  else 0 := by unfold VV.cmp; rw [if_neg (by rw [h, cmpZ_refl]; decide)]
set_option maxHeartbeats 1600000 in
theorem compareValues_any (w : World) (a b : VV) (ha : a.ok) (hb : b.ok) : Calls Try.prog 38 #[.agg a.pc, .agg b.pc] w fun e w' => e = .returned (.int .i64 (VV.cmp a b)) ∧ Below w.heap.size w w' := by
  have sf := st_float
  have sc := st_complex
  have CI := hide cmpInt_any
  have CL := hide cmpI64_any
  have CU := hide cmpU64_any
  have CS := hide cmpStr_any
  have CB := hide compareBools_any
  have RK := hide rank_any
  obtain ⟨ak, ab, ai, ar, are, aim, at_⟩ := a
  obtain ⟨bk, bb, bi, br, bre, bim, bt_⟩ := b
  have har : ar < 18446744073709551616 := ha.r
  have hbr : br < 18446744073709551616 := hb.r
  have hare : are < 18446744073709551616 := ha.re
  have hbre : bre < 18446744073709551616 := hb.re
  have haim : aim < 18446744073709551616 := ha.im
  have hbim : bim < 18446744073709551616 := hb.im
  have hat : at_.size ≤ 140737488355328 := ha.t
  have hbt : bt_.size ≤ 140737488355328 := hb.t
  clear ha hb
  have BB : ∀ o o2, Below w.heap.size w ((w.alloc o).alloc o2) := fun o o2 => ((Below.refl w.heap.size w).alloc (Nat.le_refl _) o).alloc (by rw [size_alloc]; omega) o2
  unfold VV.pc
  dsimp only
  by_cases hk : ak = bk
  · subst hk
    rw [cmp_eq (a := ⟨ak, ab, ai, ar, are, aim, at_⟩) (b := ⟨ak, bb, bi, br, bre, bim, bt_⟩) rfl]
    dsimp only
    have CZ : Hid (∀ w, Calls Try.prog 53 #[.int .i64 ak, .int .i64 ak] w fun e w' => e = .returned (.int .i64 0) ∧ w' = w) := fun w => by have h := CI.out w ak ak; rw [cmpZ_refl] at h; exact h
    rcases kinds6 ak with rfl | rfl | rfl | rfl | rfl | ⟨h1, h2, h3, h4, h5⟩
    · rw [if_pos rfl]
      go_enter Try.func38, Try.ntmps38
      go_wp2_with fail
      refine (CZ.out _).mono ?_
      rintro e w1 ⟨rfl, rfl⟩
      go_wp2_with fail
      refine (CB.out _ _ _).mono ?_
      rintro e w1 ⟨rfl, rfl⟩
      go_wp2
      go_ret
      refine ⟨by first | rfl | simp, ?_⟩
      first | exact BB _ _ | exact bt (BB _ _) (drN _ _) | exact bt (bt (BB _ _) (drN _ _)) (drN _ _) | exact bt (((bt (BB _ _) (drN _ _)).setCell (Nat.le_refl _) _).setCell (Nat.le_succ _) _) (drN _ _) | exact bt (((bt (BB _ _) (drN _ _)).setCell (Nat.le_succ _) _).setCell (Nat.le_refl _) _) (drN _ _)
    · rw [if_neg (by decide), if_pos rfl]
      go_enter Try.func38, Try.ntmps38
      go_wp2_with fail
      refine (CZ.out _).mono ?_
      rintro e w1 ⟨rfl, rfl⟩
      go_wp2_with fail
      refine (CL.out _ _ _).mono ?_
      rintro e w1 ⟨rfl, rfl⟩
      go_wp2
      go_ret
      refine ⟨by first | rfl | simp, ?_⟩
      first | exact BB _ _ | exact bt (BB _ _) (drN _ _) | exact bt (bt (BB _ _) (drN _ _)) (drN _ _) | exact bt (((bt (BB _ _) (drN _ _)).setCell (Nat.le_refl _) _).setCell (Nat.le_succ _) _) (drN _ _) | exact bt (((bt (BB _ _) (drN _ _)).setCell (Nat.le_succ _) _).setCell (Nat.le_refl _) _) (drN _ _)
    · rw [if_neg (by decide), if_neg (by decide), if_pos rfl]
      go_enter Try.func38, Try.ntmps38
      go_wp2_with fail
      refine (CZ.out _).mono ?_
      rintro e w1 ⟨rfl, rfl⟩
      go_wp2
      go_quiet (first | (go_at_call 57; first | exact Calls.quiet_of_same (RK.out _ _ har) | exact Calls.quiet_of_same (RK.out _ _ hbr)) | (go_at_call 56; first | exact Calls.quiet_of_same (CU.out _ _ _)))
      go_wp2
      go_ret
      refine ⟨by first | rfl | simp, ?_⟩
      first | exact BB _ _ | exact bt (BB _ _) (drN _ _) | exact bt (bt (BB _ _) (drN _ _)) (drN _ _) | exact bt (((bt (BB _ _) (drN _ _)).setCell (Nat.le_refl _) _).setCell (Nat.le_succ _) _) (drN _ _) | exact bt (((bt (BB _ _) (drN _ _)).setCell (Nat.le_succ _) _).setCell (Nat.le_refl _) _) (drN _ _)
    · rw [if_neg (by decide), if_neg (by decide), if_neg (by decide), if_pos rfl]
      have hre := hide (CU.out w ((rank are : Nat) : Int) ((rank bre : Nat) : Int))
      by_cases hc : cmpZ (rank are) (rank bre) = 0
      · rw [if_neg (by simp [hc])]
        have CV : Hid (∀ w, Calls Try.prog 56 #[.int .u64 (rank are : Int), .int .u64 (rank bre : Int)] w fun e w' => e = .returned (.int .i64 0) ∧ w' = w) := fun w => by have h := CU.out w (rank are) (rank bre); rw [hc] at h; exact h
        clear hc
        go_enter Try.func38, Try.ntmps38
        go_wp2_with fail
        refine (CZ.out _).mono ?_
        rintro e w1 ⟨rfl, rfl⟩
        go_wp2
        go_quiet (first | (go_at_call 57; first | exact Calls.quiet_of_same (RK.out _ _ hare) | exact Calls.quiet_of_same (RK.out _ _ hbre)) | (go_at_call 56; first | exact Calls.quiet_of_same (CV.out _)))
        have SK : ∀ (W : World) (k : Nat) (u : Value), W.cell? ⟨w.heap.size, 4, none⟩ = some (.complex .f64 are aim) → W.cell? ⟨w.heap.size + 1, 4, none⟩ = some (.complex .f64 bre bim) → (W.setCell ⟨k, 3, none⟩ u).cell? ⟨w.heap.size, 4, none⟩ = some (.complex .f64 are aim) ∧ (W.setCell ⟨k, 3, none⟩ u).cell? ⟨w.heap.size + 1, 4, none⟩ = some (.complex .f64 bre bim) := fun W k u h1 h2 => ⟨(World.cell?_setCell_other _ _ _ _ (by simp)).trans h1, (World.cell?_setCell_other _ _ _ _ (by simp)).trans h2⟩
        go_wp2
        go_region_held3 (fun w' => w'.cell? ⟨w.heap.size, 4, none⟩ = some (.complex .f64 are aim) ∧ w'.cell? ⟨w.heap.size + 1, 4, none⟩ = some (.complex .f64 bre bim)) (first | (simp; done) | (exact SK _ _ _ (by simp) (by simp)) | (exact SK _ _ _ (SK _ _ _ (by simp) (by simp)).1 (SK _ _ _ (by simp) (by simp)).2)) (first | fail)
        all_goals (go_wp2; go_quiet (first | (go_at_call 57; first | exact Calls.quiet_of_same (RK.out _ _ haim) | exact Calls.quiet_of_same (RK.out _ _ hbim)) | (go_at_call 56; first | exact Calls.quiet_of_same (CU.out _ _ _))); go_wp2; go_ret; refine ⟨by first | rfl | simp, ?_⟩; first | exact BB _ _ | exact bt (BB _ _) (drN _ _) | exact bt (bt (BB _ _) (drN _ _)) (drN _ _) | exact bt (((bt (BB _ _) (drN _ _)).setCell (Nat.le_refl _) _).setCell (Nat.le_succ _) _) (drN _ _) | exact bt (((bt (BB _ _) (drN _ _)).setCell (Nat.le_succ _) _).setCell (Nat.le_refl _) _) (drN _ _))
      · rw [if_pos hc]
        have hc2 := eqf hc
        have CV := hide (fun w => CU.out w (rank are) (rank bre))
        clear hc CU
        generalize hcc : cmpZ (rank are) (rank bre) = c at *
        clear hcc
        go_enter Try.func38, Try.ntmps38
        go_wp2_with fail
        refine (CZ.out _).mono ?_
        rintro e w1 ⟨rfl, rfl⟩
        go_wp2
        go_quiet (first | (go_at_call 57; first | exact Calls.quiet_of_same (RK.out _ _ hare) | exact Calls.quiet_of_same (RK.out _ _ hbre)) | (go_at_call 56; first | exact Calls.quiet_of_same (CV.out _)))
        go_wp2
        go_ret
        refine ⟨by first | rfl | simp, ?_⟩
        first | exact BB _ _ | exact bt (BB _ _) (drN _ _) | exact bt (bt (BB _ _) (drN _ _)) (drN _ _) | exact bt (((bt (BB _ _) (drN _ _)).setCell (Nat.le_refl _) _).setCell (Nat.le_succ _) _) (drN _ _) | exact bt (((bt (BB _ _) (drN _ _)).setCell (Nat.le_succ _) _).setCell (Nat.le_refl _) _) (drN _ _)
    · rw [if_neg (by decide), if_neg (by decide), if_neg (by decide), if_neg (by decide), if_pos rfl]
      go_enter Try.func38, Try.ntmps38
      go_wp2_with fail
      refine (CZ.out _).mono ?_
      rintro e w1 ⟨rfl, rfl⟩
      go_wp2_with fail
      refine (CS.out _ _ _).mono ?_
      rintro e w1 ⟨rfl, rfl⟩
      go_wp2
      go_ret
      refine ⟨by first | rfl | simp, ?_⟩
      first | exact BB _ _ | exact bt (BB _ _) (drN _ _) | exact bt (bt (BB _ _) (drN _ _)) (drN _ _) | exact bt (((bt (BB _ _) (drN _ _)).setCell (Nat.le_refl _) _).setCell (Nat.le_succ _) _) (drN _ _) | exact bt (((bt (BB _ _) (drN _ _)).setCell (Nat.le_succ _) _).setCell (Nat.le_refl _) _) (drN _ _)
    · rw [if_neg h1, if_neg h2, if_neg h3, if_neg h4, if_neg h5]
      have q1 := eqf h1
      have q2 := eqf h2
      have q3 := eqf h3
      have q4 := eqf h4
      have q5 := eqf h5
      clear h1 h2 h3 h4 h5
      go_enter Try.func38, Try.ntmps38
      go_wp2_with fail
      refine (CZ.out _).mono ?_
      rintro e w1 ⟨rfl, rfl⟩
      go_wp2
      go_ret
      refine ⟨by first | rfl | simp, ?_⟩
      first | exact BB _ _ | exact bt (BB _ _) (drN _ _) | exact bt (bt (BB _ _) (drN _ _)) (drN _ _) | exact bt (((bt (BB _ _) (drN _ _)).setCell (Nat.le_refl _) _).setCell (Nat.le_succ _) _) (drN _ _) | exact bt (((bt (BB _ _) (drN _ _)).setCell (Nat.le_succ _) _).setCell (Nat.le_refl _) _) (drN _ _)
  · rw [cmp_ne (a := ⟨ak, ab, ai, ar, are, aim, at_⟩) (b := ⟨bk, bb, bi, br, bre, bim, bt_⟩) hk]
    dsimp only
    have hz := eqf (cmpZ_ne hk)
    have CZ := hide (fun w => CI.out w ak bk)
    clear CI hk
    generalize hcc : cmpZ ak bk = c at *
    clear hcc
    go_enter Try.func38, Try.ntmps38
    go_wp2_with fail
    refine (CZ.out _).mono ?_
    rintro e w1 ⟨rfl, rfl⟩
    go_wp2
    go_ret
    refine ⟨by first | rfl | simp, ?_⟩
    first | exact BB _ _ | exact bt (BB _ _) (drN _ _) | exact bt (bt (BB _ _) (drN _ _)) (drN _ _) | exact bt (((bt (BB _ _) (drN _ _)).setCell (Nat.le_refl _) _).setCell (Nat.le_succ _) _) (drN _ _) | exact bt (((bt (BB _ _) (drN _ _)).setCell (Nat.le_succ _) _).setCell (Nat.le_refl _) _) (drN _ _)
end Go.Proofs.Ythfcgfdboienkaa
