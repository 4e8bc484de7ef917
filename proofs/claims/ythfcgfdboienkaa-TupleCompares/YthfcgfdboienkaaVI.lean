import Derived.Test.YthfcgfdboienkaaVH
import Derived.Lib.ConvBytes
namespace Go.Proofs.Ythfcgfdboienkaa
open Go.RowKit

theorem conv_str (W : World) (s : ByteArray) : (convert 9 44 (.string s)).run Try.prog W = .ok (.slice (some ⟨W.heap.size, 0, none⟩) s.size (grownCap W s.size 0 5)) (Lib.bytesWorld W 5 s) := Lib.run_convert_string_bytes W 9 44 5 s Try.underlying9 Try.underlying44 Try.underlying5
theorem conv_below (W : World) (s : ByteArray) : Below W.heap.size W (Lib.bytesWorld W 5 s) := ⟨rfl, rfl, rfl, by rw [Lib.bytesWorld_size]; omega, fun k hk => Lib.bytesWorld_at_old W 5 s k hk⟩
theorem conv_bs (W : World) (s : ByteArray) (n : Nat) (hn : n = W.heap.size) (hs : s.size ≤ 9223372036854775807) : Bs (Lib.bytesWorld W 5 s) (some ⟨n, 0, none⟩) (tl s) := by
  subst hn
  refine ⟨tl_lt s, by rw [tl_length]; exact hs, .inr ⟨W.heap.size, 0, rfl, fun i hi => ?_⟩⟩
  rw [tl_length] at hi
  rw [Nat.zero_add, Lib.bytesWorld_cell W 5 s i hi]
  congr 2
  unfold tl
  have h2 : i < s.data.toList.length := by simpa using hi
  simp [hi]
set_option maxHeartbeats 1600000 in
theorem dvalues_any (w : World) (a b : VV) (ha : a.ok) (hb : b.ok) : Calls Try.prog 39 #[.agg a.rc, .agg b.rc] w fun e w' => e = .returned (.int .i64 (VV.cmp a b)) ∧ Below w.heap.size w w' := by
  have CI := hide dints_any
  have CU := hide dreals_any
  have CS := hide Compare_any
  have CB := hide dbools_any
  have hcv := conv_str
  have hold : ∀ (W : World) (s : ByteArray) (b o : Nat), b < W.heap.size → (Lib.bytesWorld W 5 s).cell? ⟨b, o, none⟩ = W.cell? ⟨b, o, none⟩ := fun W s b o h => Lib.bytesWorld_old W 5 s ⟨b, o, none⟩ h
  obtain ⟨ak, ab, ai, ar, are, aim, at_⟩ := a
  obtain ⟨bk, bb, bi, br, bre, bim, bt_⟩ := b
  have har : ar < 18446744073709551616 := ha.r
  have hbr : br < 18446744073709551616 := hb.r
  have hare : are < 18446744073709551616 := ha.re
  have hbre : bre < 18446744073709551616 := hb.re
  have haim : aim < 18446744073709551616 := ha.im
  have hbim : bim < 18446744073709551616 := hb.im
  have hat : at_.size ≤ 140737488355328 := ha.t
  have hbt : bt_.size ≤ 140737488355328 := hb.t
  clear ha hb
  have BB : ∀ o o2, Below w.heap.size w ((w.alloc o).alloc o2) := fun o o2 => ((Below.refl w.heap.size w).alloc (Nat.le_refl _) o).alloc (by rw [size_alloc]; omega) o2
  unfold VV.rc
  dsimp only
  by_cases hk : ak = bk
  · subst hk
    rw [cmp_eq (a := ⟨ak, ab, ai, ar, are, aim, at_⟩) (b := ⟨ak, bb, bi, br, bre, bim, bt_⟩) rfl]
    dsimp only
    have CZ : Hid (∀ w, Calls Try.prog 40 #[.int .i64 ak, .int .i64 ak] w fun e w' => e = .returned (.int .i64 0) ∧ w' = w) := fun w => by have h := CI.out w ak ak; rw [cmpZ_refl] at h; exact h
    rcases kinds6 ak with rfl | rfl | rfl | rfl | rfl | ⟨h1, h2, h3, h4, h5⟩
    · rw [if_pos rfl]
      go_enter Try.func39, Try.ntmps39
      go_wp2_with fail
      refine (CZ.out _).mono ?_
      rintro e w1 ⟨rfl, rfl⟩
      go_wp2_with fail
      refine (CB.out _ _ _).mono ?_
      rintro e w1 ⟨rfl, rfl⟩
      go_wp2
      go_ret
      refine ⟨by first | rfl | simp, ?_⟩
      first | exact BB _ _ | exact bt (BB _ _) (drN _ _) | exact bt (bt (BB _ _) (drN _ _)) (drN _ _) | exact bt (((bt (BB _ _) (drN _ _)).setCell (Nat.le_refl _) _).setCell (Nat.le_succ _) _) (drN _ _) | exact bt (((bt (BB _ _) (drN _ _)).setCell (Nat.le_succ _) _).setCell (Nat.le_refl _) _) (drN _ _)
    · rw [if_neg (by decide), if_pos rfl]
      go_enter Try.func39, Try.ntmps39
      go_wp2_with fail
      refine (CZ.out _).mono ?_
      rintro e w1 ⟨rfl, rfl⟩
      go_wp2_with fail
      refine (CI.out _ _ _).mono ?_
      rintro e w1 ⟨rfl, rfl⟩
      go_wp2
      go_ret
      refine ⟨by first | rfl | simp, ?_⟩
      first | exact BB _ _ | exact bt (BB _ _) (drN _ _) | exact bt (bt (BB _ _) (drN _ _)) (drN _ _) | exact bt (((bt (BB _ _) (drN _ _)).setCell (Nat.le_refl _) _).setCell (Nat.le_succ _) _) (drN _ _) | exact bt (((bt (BB _ _) (drN _ _)).setCell (Nat.le_succ _) _).setCell (Nat.le_refl _) _) (drN _ _)
    · rw [if_neg (by decide), if_neg (by decide), if_pos rfl]
      go_enter Try.func39, Try.ntmps39
      go_wp2_with fail
      refine (CZ.out _).mono ?_
      rintro e w1 ⟨rfl, rfl⟩
      go_wp2_with fail
      refine (CU.out _ _ _ har hbr).mono ?_
      rintro e w1 ⟨rfl, rfl⟩
      go_wp2
      go_ret
      refine ⟨by first | rfl | simp, ?_⟩
      first | exact BB _ _ | exact bt (BB _ _) (drN _ _) | exact bt (bt (BB _ _) (drN _ _)) (drN _ _) | exact bt (((bt (BB _ _) (drN _ _)).setCell (Nat.le_refl _) _).setCell (Nat.le_succ _) _) (drN _ _) | exact bt (((bt (BB _ _) (drN _ _)).setCell (Nat.le_succ _) _).setCell (Nat.le_refl _) _) (drN _ _)
    · rw [if_neg (by decide), if_neg (by decide), if_neg (by decide), if_pos rfl]
      by_cases hc : cmpZ (rank are) (rank bre) = 0
      · rw [if_neg (by simp [hc])]
        have CV : Hid (∀ w, Calls Try.prog 60 #[.int .u64 (are : Int), .int .u64 (bre : Int)] w fun e w' => e = .returned (.int .i64 0) ∧ w' = w) := fun w => by have h := CU.out w are bre hare hbre; rw [hc] at h; exact h
        clear hc
        go_enter Try.func39, Try.ntmps39
        go_wp2_with fail
        refine (CZ.out _).mono ?_
        rintro e w1 ⟨rfl, rfl⟩
        go_wp2_with fail
        refine (CV.out _).mono ?_
        rintro e w1 ⟨rfl, rfl⟩
        go_wp2_with fail
        refine (CU.out _ _ _ haim hbim).mono ?_
        rintro e w1 ⟨rfl, rfl⟩
        go_wp2
        go_ret
        refine ⟨by first | rfl | simp, ?_⟩
        first | exact BB _ _ | exact bt (BB _ _) (drN _ _) | exact bt (bt (BB _ _) (drN _ _)) (drN _ _) | exact bt (((bt (BB _ _) (drN _ _)).setCell (Nat.le_refl _) _).setCell (Nat.le_succ _) _) (drN _ _) | exact bt (((bt (BB _ _) (drN _ _)).setCell (Nat.le_succ _) _).setCell (Nat.le_refl _) _) (drN _ _)
      · rw [if_pos hc]
        have hc2 := eqf hc
        have CV := hide (fun w => CU.out w are bre hare hbre)
        clear hc CU
        generalize hcc : cmpZ (rank are) (rank bre) = c at *
        clear hcc
        go_enter Try.func39, Try.ntmps39
        go_wp2_with fail
        refine (CZ.out _).mono ?_
        rintro e w1 ⟨rfl, rfl⟩
        go_wp2_with fail
        refine (CV.out _).mono ?_
        rintro e w1 ⟨rfl, rfl⟩
        go_wp2
        go_ret
        refine ⟨by first | rfl | simp, ?_⟩
        first | exact BB _ _ | exact bt (BB _ _) (drN _ _) | exact bt (bt (BB _ _) (drN _ _)) (drN _ _) | exact bt (((bt (BB _ _) (drN _ _)).setCell (Nat.le_refl _) _).setCell (Nat.le_succ _) _) (drN _ _) | exact bt (((bt (BB _ _) (drN _ _)).setCell (Nat.le_succ _) _).setCell (Nat.le_refl _) _) (drN _ _)
    · rw [if_neg (by decide), if_neg (by decide), if_neg (by decide), if_neg (by decide), if_pos rfl]
      go_enter Try.func39, Try.ntmps39
      go_wp2_with fail
      refine (CZ.out _).mono ?_
      rintro e w1 ⟨rfl, rfl⟩
      go_wp2_with fail
      refine (CS.out _ _ _ _ _ _ _ (tl at_) (tl bt_) ?sa ?sb (tl_length _).symm (tl_length _).symm).mono ?_
      case sa => exact (conv_bs _ at_ _ (by simp) (by omega)).keep (conv_below _ _)
      case sb => exact conv_bs _ bt_ _ (by first | rfl | simp) (by omega)
      rintro e w1 ⟨rfl, hb1⟩
      go_wp2
      go_ret
      exact ⟨rfl, bt (bt (bt (BB _ _) (conv_below _ _)) (conv_below _ _)) hb1⟩
    · rw [if_neg h1, if_neg h2, if_neg h3, if_neg h4, if_neg h5]
      have q1 := eqf h1
      have q2 := eqf h2
      have q3 := eqf h3
      have q4 := eqf h4
      have q5 := eqf h5
      clear h1 h2 h3 h4 h5
      go_enter Try.func39, Try.ntmps39
      go_wp2_with fail
      refine (CZ.out _).mono ?_
      rintro e w1 ⟨rfl, rfl⟩
      go_wp2
      go_ret
      refine ⟨by first | rfl | simp, ?_⟩
      first | exact BB _ _ | exact bt (BB _ _) (drN _ _) | exact bt (bt (BB _ _) (drN _ _)) (drN _ _) | exact bt (((bt (BB _ _) (drN _ _)).setCell (Nat.le_refl _) _).setCell (Nat.le_succ _) _) (drN _ _) | exact bt (((bt (BB _ _) (drN _ _)).setCell (Nat.le_succ _) _).setCell (Nat.le_refl _) _) (drN _ _)
  · rw [cmp_ne (a := ⟨ak, ab, ai, ar, are, aim, at_⟩) (b := ⟨bk, bb, bi, br, bre, bim, bt_⟩) hk]
    dsimp only
    have hz := eqf (cmpZ_ne hk)
    have CZ := hide (fun w => CI.out w ak bk)
    clear CI hk
    generalize hcc : cmpZ ak bk = c at *
    clear hcc
    go_enter Try.func39, Try.ntmps39
    go_wp2_with fail
    refine (CZ.out _).mono ?_
    rintro e w1 ⟨rfl, rfl⟩
    go_wp2
    go_ret
    refine ⟨by first | rfl | simp, ?_⟩
    first | exact BB _ _ | exact bt (BB _ _) (drN _ _) | exact bt (bt (BB _ _) (drN _ _)) (drN _ _) | exact bt (((bt (BB _ _) (drN _ _)).setCell (Nat.le_refl _) _).setCell (Nat.le_succ _) _) (drN _ _) | exact bt (((bt (BB _ _) (drN _ _)).setCell (Nat.le_succ _) _).setCell (Nat.le_refl _) _) (drN _ _)
end Go.Proofs.Ythfcgfdboienkaa
