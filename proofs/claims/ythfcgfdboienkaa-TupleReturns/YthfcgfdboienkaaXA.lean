import Derived.Test.YthfcgfdboienkaaVZ
namespace Go.Proofs.Ythfcgfdboienkaa
open Go.RowKit

theorem At.sep {w W : World} {a a2 : Option Addr} {cap : Nat} {l : List Nat} (hR : Rw w a cap l) (hW : w.heap.size < W.heap.size) (hN : New W a a2) : ∀ x, At a2 x → x ≠ w.heap.size := by
  intro x hx e
  subst e
  obtain ⟨y, hy, e⟩ := map_some hx
  rcases hN y hy with ⟨z, hz, e2⟩ | h
  · exact At.not_new hR (by unfold At; rw [hz]; simp only [Option.map_some, Option.some.injEq]; rw [e2, e])
  · omega
theorem At.sep2 {w2 : World} {a2 a3 : Option Addr} {gv : Nat} (h : ∀ x, At a2 x → x ≠ gv) (hg : gv < w2.heap.size) (hN : New w2 a2 a3) : ∀ x, At a3 x → x ≠ gv := by
  intro x hx e
  subst e
  obtain ⟨y, hy, e⟩ := map_some hx
  rcases hN y hy with ⟨z, hz, e2⟩ | h2
  · exact h x (by unfold At; rw [hz]; simp only [Option.map_some, Option.some.injEq]; rw [e2, e]) rfl
  · omega
theorem own_r {w w2 : World} {a : Option Addr} {cap : Nat} {l : List Nat} (v : VV) (h : Rw w a cap l) (hb : But (At a) (w.alloc (.cells v.rc 30)) w2) : w2.heap[w.heap.size]? = some (.cells v.rc 30 (0, 0)) := by
  rw [hb.block w.heap.size (by rw [size_alloc]; omega) (At.not_new h)]
  exact heap_alloc_new _ _
theorem row_r {w2 : World} {gv : Nat} {v : VV} (e : w2.heap[gv]? = some (.cells v.rc 30 (0, 0))) :
    w2.cell? ⟨gv, 3, none⟩ = some (.int .u64 (v.real : Int)) ∧ w2.cell? ⟨gv, 4, none⟩ = some (.int .u64 (v.re : Int)) ∧ w2.cell? ⟨gv, 5, none⟩ = some (.int .u64 (v.im : Int)) ∧ w2.cell? ⟨gv, 6, none⟩ = some (.string v.text) := by
  refine ⟨?_, ?_, ?_, ?_⟩
  all_goals (rw [cell_of_row _ _ _ _ _ _ e]; rfl)
set_option maxHeartbeats 1600000 in
theorem dput_any (w : World) (a : Option Addr) (cap n : Nat) (l : List Nat) (v : VV) (hR : Rw w a cap l) (hv : v.ok) (hn : n = l.length) (hlen : l.length + v.bytes.length + 9 ≤ 140737488355328) :
    Calls Try.prog 41 #[.slice a n cap, .agg v.rc] w (Gives w a (l ++ v.bytes)) := by
  subst hn
  have HV := hide hv
  have HR := hide hR
  have HLEN := hide hlen
  have HRB := hide (fun o => hR.keep (al w o))
  have PI := hide (fun W (hW : Rw W a cap l) => dputInt_any W a cap l.length l v.int hW hv.i0 hv.i1 rfl)
  clear hR hlen hv
  obtain ⟨k, b, i, r, re, im, t⟩ := v
  dsimp only at PI
  rcases kinds6 k with rfl | rfl | rfl | rfl | rfl | ⟨h1, h2, h3, h4, h5⟩
  · cases b
    · have HE : Hid ((VV.mk 1 false i r re im t).bytes = [2]) := by show _ = _; simp [VV.bytes]
      unfold VV.rc
      go_enter Try.func41, Try.ntmps41
      go_wp2_with (at_builtin; refine wpList_ap1 rfl _ _ rfl a l.length cap l rfl rfl (HR.out.keep (bt (al _ _) (al _ _))) ⟨w.heap.size + 1, 0, none⟩ 1 2 rfl ?cfalse (by have := HLEN.out; omega) ?_)
      try case cfalse => exact new_cell _ _ (by rw [size_alloc]) _ _
      intro g2 cap2 w2 hR2 hN2 hg2 _
      have A1 := hide (Apd.ofGrown (bt (al _ _) (al _ _)) hR2 hN2 hg2)
      clear hR2 hN2 hg2
      go_wp2
      go_ret
      rw [HE.out]
      exact ⟨_, cap2, by simp, A1.out⟩
    · have HE : Hid ((VV.mk 1 true i r re im t).bytes = [3]) := by show _ = _; simp [VV.bytes]
      unfold VV.rc
      go_enter Try.func41, Try.ntmps41
      go_wp2_with (at_builtin; refine wpList_ap1 rfl _ _ rfl a l.length cap l rfl rfl (HR.out.keep (bt (al _ _) (al _ _))) ⟨w.heap.size + 1, 0, none⟩ 1 3 rfl ?ctrue (by have := HLEN.out; omega) ?_)
      try case ctrue => exact new_cell _ _ (by rw [size_alloc]) _ _
      intro g2 cap2 w2 hR2 hN2 hg2 _
      have A1 := hide (Apd.ofGrown (bt (al _ _) (al _ _)) hR2 hN2 hg2)
      clear hR2 hN2 hg2
      go_wp2
      go_ret
      rw [HE.out]
      exact ⟨_, cap2, by simp, A1.out⟩
  · have HE : Hid ((VV.mk 2 b i r re im t).bytes = (if 0 ≤ i then 32 + iw i else 31 - iw i) :: hb (ub i) (iw i)) := by show _ = _; simp [VV.bytes]
    unfold VV.rc
    have P := hide (PI.out _ (HRB.out (.cells #[.int .i64 2, .bool b, .int .i64 i, .int .u64 (r : Int), .int .u64 (re : Int), .int .u64 (im : Int), .string t] 30)) (by have := HLEN.out; omega))
    rw [← HE.out] at P
    generalize l ++ (VV.mk 2 b i r re im t).bytes = Z at *
    go_enter Try.func41, Try.ntmps41
    go_wp2_with fail
    refine P.out.mono ?_
    rintro e w1 ⟨a1, c1, rfl, h1⟩
    have H1 := hide h1
    clear h1
    go_wp2
    go_ret
    exact ⟨a1, c1, rfl, Apd.pre (al _ _) H1.out⟩
  · have HE : Hid (l ++ (VV.mk 3 b i r re im t).bytes = (l ++ [48]) ++ hb (rank r) 8) := by show _ = _; simp [VV.bytes]
    rw [HE.out]
    unfold VV.rc
    go_enter Try.func41, Try.ntmps41
    go_wp2_with (at_builtin; refine wpList_ap1 rfl _ _ rfl a l.length cap l rfl rfl (HR.out.keep (bt (al _ _) (al _ _))) ⟨w.heap.size + 1, 0, none⟩ 1 48 rfl ?c3 (by have := HLEN.out; omega) ?_)
    try case c3 => exact new_cell _ _ (by rw [size_alloc]) _ _
    intro g2 cap2 w2 hR2 hN2 hg2 _
    have A1 := hide (Apd.ofGrown (bt (al _ _) (al _ _)) hR2 hN2 hg2)
    have M0 := own_r (w := w) (w2 := w2) (VV.mk 3 b i r re im t) HR.out ((But.ofBelow (al _ _)).trans ((But.refl _ _).grown hg2 fun _ hk _ => hk) fun _ _ h => h)
    have HG2 := hide (At.sep HR.out (by rw [size_alloc, size_alloc]; omega) hN2)
    obtain ⟨k3, k4, k5, k6⟩ := row_r M0
    have LT := hide (block_lt_of_cell k3)
    clear M0 hN2 hg2
    dsimp only at k3 k4 k5 k6
    have P := hide (dputReal_any w2 _ cap2 (l.length + 1) (l ++ [48]) r hR2 HV.out.r (by simp) (by have := HLEN.out; simp only [List.length_append, List.length_cons, List.length_nil]; omega))
    clear hR2
    generalize (l ++ [48]) ++ hb (rank r) 8 = Z at *
    generalize w.heap.size = gv at *
    go_wp2_with fail
    refine P.out.mono ?_
    rintro e w3 ⟨a3, c3, rfl, h3⟩
    have H3 := hide h3
    clear h3
    go_wp2
    go_ret
    exact ⟨a3, c3, rfl, A1.out.trans H3.out⟩
  · have HE : Hid (l ++ (VV.mk 4 b i r re im t).bytes = ((l ++ [56]) ++ hb (rank re) 8) ++ hb (rank im) 8) := by show _ = _; simp [VV.bytes]
    rw [HE.out]
    unfold VV.rc
    go_enter Try.func41, Try.ntmps41
    go_wp2_with (at_builtin; refine wpList_ap1 rfl _ _ rfl a l.length cap l rfl rfl (HR.out.keep (bt (al _ _) (al _ _))) ⟨w.heap.size + 1, 0, none⟩ 1 56 rfl ?c4 (by have := HLEN.out; omega) ?_)
    try case c4 => exact new_cell _ _ (by rw [size_alloc]) _ _
    intro g2 cap2 w2 hR2 hN2 hg2 _
    have A1 := hide (Apd.ofGrown (bt (al _ _) (al _ _)) hR2 hN2 hg2)
    have M0 := own_r (w := w) (w2 := w2) (VV.mk 4 b i r re im t) HR.out ((But.ofBelow (al _ _)).trans ((But.refl _ _).grown hg2 fun _ hk _ => hk) fun _ _ h => h)
    have HG2 := hide (At.sep HR.out (by rw [size_alloc, size_alloc]; omega) hN2)
    obtain ⟨k3, k4, k5, k6⟩ := row_r M0
    have LT := hide (block_lt_of_cell k3)
    clear M0 hN2 hg2
    dsimp only at k3 k4 k5 k6
    have P := hide (dputReal_any w2 _ cap2 (l.length + 1) (l ++ [56]) re hR2 HV.out.re (by simp) (by have := HLEN.out; simp only [List.length_append, List.length_cons, List.length_nil]; omega))
    have P2 := hide (fun W a3 c3 (hW : Rw W a3 c3 ((l ++ [56]) ++ hb (rank re) 8)) => dputReal_any W a3 c3 ((l ++ [56]) ++ hb (rank re) 8).length _ im hW HV.out.im rfl (by have := HLEN.out; have : (VV.mk 4 b i r re im t).bytes.length = 17 := (by simp [VV.bytes, hb_length]); simp only [List.length_append, List.length_cons, List.length_nil, hb_length]; omega))
    clear hR2
    generalize (l ++ [56]) ++ hb (rank re) 8 = Z at *
    generalize Z ++ hb (rank im) 8 = Z2 at *
    generalize w.heap.size = gv at *
    go_wp2_with fail
    refine P.out.mono ?_
    rintro e w3 ⟨a3, c3, rfl, h3⟩
    have j5 := (h3.b.cell (p := ⟨gv, 5, none⟩) LT.out (fun h => HG2.out _ h rfl)).trans k5
    have Q := hide (P2.out w3 a3 c3 h3.r)
    have H3 := hide h3
    clear h3
    go_wp2_with fail
    refine Q.out.mono ?_
    rintro e w4 ⟨a4, c4, rfl, h4⟩
    have H4 := hide h4
    clear h4
    go_wp2
    go_ret
    exact ⟨a4, c4, rfl, (A1.out.trans H3.out).trans H4.out⟩
  · have hsz : t.size ≤ 140737488355328 := HV.out.t
    have HBL : Hid ((VV.mk 5 b i r re im t).bytes.length = 1 + ((esc (tl t)).length + 1)) := by show _ = _; simp [VV.bytes]; omega
    have HE : Hid (l ++ (VV.mk 5 b i r re im t).bytes = ((l ++ [64]) ++ esc (tl t)) ++ [0]) := by show _ = _; simp [VV.bytes]
    rw [HE.out]
    generalize hZ : ((l ++ [64]) ++ esc (tl t)) ++ [0] = Z at *
    have HZ := hide hZ
    clear hZ HE
    unfold VV.rc
    go_enter Try.func41, Try.ntmps41
    go_wp2_with (at_builtin; refine wpList_ap1 rfl _ _ rfl a l.length cap l rfl rfl (HR.out.keep (bt (al _ _) (al _ _))) ⟨w.heap.size + 1, 0, none⟩ 1 64 rfl ?c5 (by have := HLEN.out; omega) ?_)
    try case c5 => exact new_cell _ _ (by rw [size_alloc]) _ _
    intro g2 cap2 w2 hR2 hN2 hg2 _
    have A1 := hide (Apd.ofGrown (bt (al _ _) (al _ _)) hR2 hN2 hg2)
    have M0 := own_r (w := w) (w2 := w2) (VV.mk 5 b i r re im t) HR.out ((But.ofBelow (al _ _)).trans ((But.refl _ _).grown hg2 fun _ hk _ => hk) fun _ _ h => h)
    have HG2 := hide (At.sep HR.out (by rw [size_alloc, size_alloc]; omega) hN2)
    obtain ⟨k3, k4, k5, k6⟩ := row_r M0
    have LT := hide (block_lt_of_cell k3)
    clear M0 hN2 hg2
    dsimp only at k3 k4 k5 k6
    have HL0 : Hid (l.length + 1 = (l ++ [64]).length) := by show _ = _; simp
    have HA2 : Hid (Apd w2 (some ⟨g2, 0, none⟩) w2 (some ⟨g2, 0, none⟩) cap2 (l ++ [64])) := Apd.refl hR2
    clear hR2
    generalize w.heap.size = gv at *
    go_wp2
    go_loopw [0, 5] (fun v i wx => ∃ (j : Nat) (m : List Nat) (aj : Option Addr) (cj : Nat), j ≤ t.size ∧ i = .int .i64 (j : Int) ∧ v = .slice aj m.length cj ∧ (Apd w2 (some ⟨g2, 0, none⟩) wx aj cj m ∧ m = (l ++ [64]) ++ esc ((tl t).take j))) (fun _ i _ => t.size - (intOf i).toNat)
    case atStart => exact ⟨0, l ++ [64], _, cap2, Nat.zero_le _, rfl, by rw [HL0.out], HA2.out, by simp [esc]⟩
    case round =>
      obtain ⟨j, m, aj, cj, hj, rfl, rfl, hG⟩ := hrel
      have j6 := (hG.1.b.cell (p := ⟨gv, 6, none⟩) LT.out (fun h => HG2.out _ h rfl)).trans k6
      have HLT : Hid (gv < wr.heap.size) := Nat.lt_of_lt_of_le LT.out hG.1.b.size
      have HSJ := hide (At.sep2 HG2.out LT.out hG.1.n)
      have HG := hide hG
      clear hG
      by_cases hlt : j < t.size
      · have hi : (j : Int) < (t.size : Int) := by omega
        have hat := tl_at t j hlt
        have hlt2 : j < (tl t).length := by rw [tl_length]; exact hlt
        have HE := hide (esc_take hlt2)
        have HM : Hid ((l ++ [64]).length + (esc ((tl t).take (j + 1))).length + 1 ≤ 140737488355328) := by have := HLEN.out; have := HBL.out; have := esc_take_le (tl t) (j + 1); show _ ≤ _; rw [← HL0.out]; omega
        have hmm := HG.out.2
        rw [HE.out] at HM
        generalize (tl t).getD j 0 = y at *
        by_cases hy : y = 0
        · subst hy
          rw [if_pos rfl] at HM HE
          have HM2 : Hid (m.length + 2 ≤ 140737488355328) := by have := HM.out; rw [hmm]; simp only [List.length_append, List.length_cons, List.length_nil] at this ⊢; show _ ≤ _; omega
          have HE2 : Hid (m ++ [0, 255] = (l ++ [64]) ++ esc ((tl t).take (j + 1))) := by show _ = _; rw [HE.out, hmm]; simp
          have HL1 : Hid ((m ++ [0]).length = m.length + 1) := by show _ = _; simp
          have HL2 : Hid ((m ++ [0, 255]).length = m.length + 1 + 1) := by show _ = _; simp
          clear hmm HM HE
          go_wp2_with (at_builtin; refine wpList_ap1 rfl _ _ rfl aj m.length cj m rfl rfl (HG.out.1.r.keep (al _ _)) ⟨wr.heap.size, 0, none⟩ 1 0 rfl ?c6 (by have := HM2.out; omega) ?_)
          try case c6 => simp
          intro g3 cap3 w3 hR hN hg _
          have H2 := hide (HG.out.1.trans (Apd.ofGrown (al _ _) hR hN hg))
          have j7 := (H2.out.b.cell (p := ⟨gv, 6, none⟩) LT.out (fun h => HG2.out _ h rfl)).trans k6
          clear hR hN hg
          go_wp2_with (at_builtin; refine wpList_ap1 rfl _ _ rfl (some ⟨g3, 0, none⟩) (m.length + 1) cap3 (m ++ [0]) rfl HL1.out.symm (H2.out.r.keep (al _ _)) ⟨w3.heap.size, 0, none⟩ 1 255 rfl ?c7 (by have := HM2.out; rw [HL1.out]; omega) ?_)
          try case c7 => simp
          intro g4 cap4 w4 hR hN hg _
          have H3 := hide (H2.out.trans (Apd.ofGrown (al _ _) hR hN hg))
          clear hR hN hg
          go_wp2
          go_roundw
          case rel => exact ⟨j + 1, m ++ [0, 255], _, cap4, by omega, by first | rfl | go_num, by rw [HL2.out], H3.out, HE2.out⟩
          case measure => simp [intOf]; omega
        · rw [if_neg hy] at HM HE
          have hyf : ((y : Int) == 0) = false := eqf (by omega)
          have HM2 : Hid (m.length + 1 ≤ 140737488355328) := by have := HM.out; rw [hmm]; simp only [List.length_append, List.length_cons, List.length_nil] at this ⊢; show _ ≤ _; omega
          have HE2 : Hid (m ++ [y] = (l ++ [64]) ++ esc ((tl t).take (j + 1))) := by show _ = _; rw [HE.out, hmm]; simp
          have HL1 : Hid ((m ++ [y]).length = m.length + 1) := by show _ = _; simp
          clear hmm HM HE hy
          go_wp2_with (at_builtin; refine wpList_ap1 rfl _ _ rfl aj m.length cj m rfl rfl (HG.out.1.r.keep (al _ _)) ⟨wr.heap.size, 0, none⟩ 1 y rfl ?c8 HM2.out ?_)
          try case c8 => simp
          intro g3 cap3 w3 hR hN hg _
          have H2 := hide (HG.out.1.trans (Apd.ofGrown (al _ _) hR hN hg))
          have j7 := (H2.out.b.cell (p := ⟨gv, 6, none⟩) LT.out (fun h => HG2.out _ h rfl)).trans k6
          clear hR hN hg
          go_wp2
          go_roundw
          case rel => exact ⟨j + 1, m ++ [y], _, cap3, by omega, by first | rfl | go_num, by rw [HL1.out], H2.out, HE2.out⟩
          case measure => simp [intOf]; omega
      · obtain rfl : j = t.size := by omega
        have hmm := HG.out.2
        rw [List.take_of_length_le (by rw [tl_length]; exact Nat.le_refl _)] at hmm
        have HM2 : Hid (m.length + 1 ≤ 140737488355328) := by have := HLEN.out; have := HBL.out; rw [hmm, List.length_append, ← HL0.out]; show _ ≤ _; omega
        have HE2 : Hid (m ++ [0] = Z) := by show _ = _; rw [← HZ.out, hmm]
        have HL1 : Hid ((m ++ [0]).length = m.length + 1) := by show _ = _; simp
        clear hmm
        go_wp2_with (at_builtin; refine wpList_ap1 rfl _ _ rfl aj m.length cj m rfl rfl (HG.out.1.r.keep (al _ _)) ⟨wr.heap.size, 0, none⟩ 1 0 rfl ?c9 HM2.out ?_)
        try case c9 => simp
        intro g3 cap3 w3 hR hN hg _
        have H2 := hide (HG.out.1.trans (Apd.ofGrown (al _ _) hR hN hg))
        clear hR hN hg
        go_wp2
        go_ret
        rw [← HE2.out]
        exact ⟨_, cap3, by rw [HL1.out]; rfl, A1.out.trans H2.out⟩
  · have HE : Hid ((VV.mk k b i r re im t).bytes = if k = 0 then [1] else []) := by show _ = _; simp only [VV.bytes, h1, h2, h3, h4, h5, if_false]
    have q1 := eqf h1
    have q2 := eqf h2
    have q3 := eqf h3
    have q4 := eqf h4
    have q5 := eqf h5
    clear h1 h2 h3 h4 h5
    unfold VV.rc
    by_cases h0 : k = 0
    · subst h0
      go_enter Try.func41, Try.ntmps41
      go_wp2_with (at_builtin; refine wpList_ap1 rfl _ _ rfl a l.length cap l rfl rfl (HR.out.keep (bt (al _ _) (al _ _))) ⟨w.heap.size + 1, 0, none⟩ 1 1 rfl ?c0 (by have := HLEN.out; omega) ?_)
      try case c0 => exact new_cell _ _ (by rw [size_alloc]) _ _
      intro g2 cap2 w2 hR2 hN2 hg2 _
      have A1 := hide (Apd.ofGrown (bt (al _ _) (al _ _)) hR2 hN2 hg2)
      clear hR2 hN2 hg2
      go_wp2
      go_ret
      rw [HE.out]
      exact ⟨_, cap2, by simp, A1.out⟩
    · have q0 := eqf h0
      rw [if_neg h0] at HE
      clear h0
      go_enter Try.func41, Try.ntmps41
      go_wp2
      go_ret
      rw [HE.out, List.append_nil]
      exact ⟨a, cap, rfl, Apd.pre (al _ _) (Apd.refl (HR.out.keep (al _ _)))⟩
end Go.Proofs.Ythfcgfdboienkaa
