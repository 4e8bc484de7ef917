import Derived.Test.YticcpkdhfdefpaaNRZ
namespace Go.Proofs.Yticcpkdhfdefpaa
open Go.RowKit

/-- what was done, and a step more -/
theorem did_step {T : TypeId} {w w1 w2 : World} {b : Nat} {a a1 a2 : Option Addr} {s1 s2 : WS} {cap1 cap2 : Nat} (h : Wt T w1 b a1 cap1 s1 ∧ New w a a1 ∧ But (Ft b a) w w1) {o : Obj} (k : Wt T w2 b a2 cap2 s2 ∧ New (w1.alloc o) a1 a2 ∧ But (Ft b a1) (w1.alloc o) w2) :
    Wt T w2 b a2 cap2 s2 ∧ New w a a2 ∧ But (Ft b a) w w2 := by
  refine ⟨k.1, h.2.1.trans (k.2.1.mono (by rw [size_alloc]; omega)) h.2.2.size, (h.2.2.alloc _).trans k.2.2 ?_⟩
  rintro x hx (rfl | ⟨z, hz, e⟩)
  · exact .inl rfl
  · rcases h.2.1 z hz with ⟨u, hu, e2⟩ | h4
    · exact .inr ⟨u, hu, e2.trans e⟩
    · omega
theorem sep_new {w : World} {b k : Nat} {a aj : Option Addr} (h : ¬ Ft b a k) (hk : k < w.heap.size) (hN : New w a aj) : ¬ Ft b aj k := by
  rintro (e | ⟨x, hx, e⟩)
  · exact h (.inl e)
  · rcases hN x hx with ⟨y, hy, e2⟩ | h2
    · exact h (.inr ⟨y, hy, e2.trans e⟩)
    · omega
theorem cell_grown {w w2 : World} {b k i : Nat} {aj : Option Addr} {u : Value} (h : ¬ Ft b aj k) (hc : w.cell? ⟨k, i, none⟩ = some u) (hg : w.grownBy w2 (aj.map Addr.block)) : w2.cell? ⟨k, i, none⟩ = some u := by
  refine (World.grownBy.cell_far hg ⟨k, i, none⟩ (block_lt_of_cell hc) fun e => h (.inr ?_)).trans hc
  obtain ⟨x, hx, e2⟩ := map_some e.symm
  exact ⟨x, hx, e2⟩
set_option maxHeartbeats 3200000 in
set_option maxRecDepth 100000 in
theorem rput_any (w : World) (b : Nat) (a : Option Addr) (cap : Nat) (s : WS) (aa : Option Addr) (n capa : Nat) (p : List Nat) (h : Wt 84 w b a cap s) (hB : Bs w aa p) (hn : n = p.length) (hsep : ∀ x, aa = some x → p ≠ [] → ¬ Ft b a x.block) (hlen : p.length ≤ 140737488355328) :
    Calls Try.prog 81 #[.pointer (some ⟨b, 0, none⟩), .slice aa n capa] w fun x w' => x = .returned (.tuple #[]) ∧ Did 84 w w' b a (s.put p) := by
  subst hn
  have hm := h.2.2.1
  have hl := h.2.2.2.1
  have c0 := h.c0
  have c1 := h.c1
  have c2 := h.c2
  have f2 := h.f 2
  have H := hide h
  have HB := hide hB
  have HM := hide hm
  have HL := hide hl
  have HS := hide hsep
  have HN := hide hlen
  clear h hB hsep hlen
  have hadd : IntKind.i64.wrap ((s.l.length : Int) + (p.length : Int)) = (s.l.length : Int) + (p.length : Int) := wrapI (by omega) (by have := HN.out; omega)
  clear hm hl
  by_cases he : s.e = 0
  · have HE := hide he
    rw [he] at c2
    by_cases hf : s.l.length + p.length ≤ s.most
    · rw [WS.put_fits he hf]
      have hgt : ¬ (s.most : Int) < (s.l.length : Int) + (p.length : Int) := by omega
      have HF := hide hf
      clear hf he
      go_enter Try.func81, Try.ntmps81
      go_wp2
      go_quiet (fail)
      go_wp2
      go_loopw [4] (fun i wx => ∃ (j : Nat) (aj : Option Addr) (cj : Nat), j ≤ p.length ∧ i = .int .i64 j ∧ (Wt 84 wx b aj cj ⟨s.most, s.l ++ p.take j, 0⟩ ∧ New w a aj ∧ But (Ft b a) w wx)) (fun i _ => p.length - (intOf i).toNat)
      case atStart =>
        have hs : (⟨s.most, s.l ++ [], 0⟩ : WS) = s := by rw [List.append_nil]; have := HE.out; cases s; simp_all
        exact ⟨0, a, cap, Nat.zero_le _, rfl, by rw [List.take_zero, hs]; exact H.out.keep (drN _ _), New.refl _ _, But.ofBelow (drN _ _)⟩
      case round =>
        clear c0 c1 c2 f2
        obtain ⟨j, aj, cj, hj, rfl, hG⟩ := hrel
        have HG := hide hG
        clear hG
        by_cases hlt : j < p.length
        · have hi : (j : Int) < (p.length : Int) := by omega
          have hj1 : wrap64 ((j : Int) + 1) = (j : Int) + 1 := by unfold wrap64; have := HN.out; omega
          have c1 := HG.out.1.c1
          have f1 := HG.out.1.f 1
          have hlw := HG.out.1.lt
          obtain ⟨bs, off, rfl, hcs⟩ := (HB.out.but HG.out.2.2 HS.out).at hlt
          have hls := block_lt_of_cell hcs
          have HSN : Hid ((s.l ++ p.take j) ++ [p.getD j 0] = s.l ++ p.take (j + 1)) := by rw [List.append_assoc, take_snoc p hlt]; exact rfl
          have hz : (s.l ++ p.take j).length = s.l.length + j := by rw [List.length_append, List.length_take]; omega
          have hxb : p.getD j 0 < 256 := by rw [getD_at p hlt]; exact HB.out.1 _ (List.getElem_mem _)
          dsimp only at c1
          rw [hz] at c1
          generalize p.getD j 0 = x at *
          generalize s.l ++ p.take j = L at *
          have HR := hide (HG.out.1.2.1.keep (((Below.refl _ _).drew).alloc (Nat.le_refl _) (.cells #[.int .u8 (x : Int)] 5)))
          go_wp2_with fail
          go_region_law (first | (refine step_ap1 rfl _ _ rfl aj (s.l.length + j) cj L (by simp [Act.eval]) hz.symm HR.out ⟨wr.heap.size, 0, none⟩ 1 x (by simp [Act.eval]) (by simp) (by have := HF.out; have := HM.out; omega) ?_; intro g cap' w2 hR hN hg _; obtain ⟨d1, e1, G⟩ := ((HG.out.1.drew).alloc _).after (n := s.l.length + j + 1) (p := [x]) (by decide) hR hN hg (by intro z hm; rw [List.mem_singleton] at hm; omega) (by have := HF.out; show L.length + 1 ≤ s.most; omega) rfl (by show _ = L.length + 1; omega); dsimp only at d1; rw [hz] at d1; clear hR hN hg))
          all_goals go_wp2
          all_goals go_roundw
          all_goals first | exact meas_up _ _ _ hj1 hlt | (refine ⟨j + 1, some ⟨g, 0, none⟩, cap', by omega, congrArg (Value.int IntKind.i64) (by omega), ?_⟩; have h3 := G.out; dsimp only at h3; rw [HSN.out] at h3; exact did_step ⟨HG.out.1.drew, HG.out.2.1, HG.out.2.2.drew⟩ h3)
        · obtain rfl : j = p.length := by omega
          go_wp2
          go_end0
          refine ⟨rfl, aj, cj, ?_⟩
          have h3 := HG.out
          rw [List.take_length] at h3
          exact h3
    · rw [WS.put_many he (by omega)]
      have hgt : (s.most : Int) < (s.l.length : Int) + (p.length : Int) := by omega
      have HF := hide hf
      clear hf he
      go_enter Try.func81, Try.ntmps81
      go_wp2
      go_quiet (fail)
      go_wp2
      refine bodyPost_ret (results_none rfl _ _ _) rfl ?_
      exact ⟨rfl, Did.same ((H.out.setE (by decide) 4).keep (drN _ _)) (((But.cell1 _ _ _ _).toFt a).andBelow (drN _ _))⟩
  · rw [WS.put_err he]
    have hz : (((s.e : Nat) : Int) == 0) = false := by simp; omega
    have hz2 : (((s.e : Nat) : Int) != 0) = true := by simp; omega
    clear he
    go_enter Try.func81, Try.ntmps81
    go_wp2
    refine bodyPost_ret (results_none rfl _ _ _) rfl ?_
    exact ⟨rfl, Did.same H.out (But.refl _ _)⟩
theorem new_sep {w : World} {b : Nat} {a a' : Option Addr} {T : TypeId} {cap : Nat} {s : WS} (h : Wt T w b a cap s) (hN : New w none a') : ∀ x, a' = some x → ¬ Ft b a x.block := by
  intro x hx hf
  have hge : w.heap.size ≤ x.block := by
    rcases hN x hx with ⟨y, hy, _⟩ | h
    · cases hy
    · exact h
  rcases hf with e | ⟨y, hy, e⟩
  · have := h.lt; omega
  · have := h.2.1.lt hy; omega
set_option maxHeartbeats 800000 in
theorem rPut_any (w : World) (b : Nat) (a : Option Addr) (cap : Nat) (s : WS) (x k : Nat) (hx : x < 18446744073709551616) (hk : k ≤ 8) (h : Wt 84 w b a cap s) :
    Calls Try.prog 57 #[.pointer (some ⟨b, 0, none⟩), .int .u64 (x : Int), .int .i64 (k : Int)] w fun y w' => y = .returned (.tuple #[]) ∧ Did 84 w w' b a (s.put (numB x k)) := by
  have H := hide h
  clear h
  go_enter Try.func57, Try.ntmps57
  go_wp2_with fail
  refine (Number_any w x k hx hk).mono ?_
  rintro e w1 ⟨a', cap', rfl, hR, hN, hb⟩
  have R := hide (rput_any w1 b a cap s a' k cap' (numB x k) (H.out.keep hb) (hR.bs (numB_lt x k) (by rw [numB_length]; omega)) (numB_length x k).symm (fun y hy _ => new_sep H.out hN y hy) (by rw [numB_length]; omega))
  clear hR hN
  go_wp2_with fail
  refine R.out.mono ?_
  rintro e w2 ⟨rfl, h2⟩
  have H2 := hide h2
  clear h2
  go_wp2
  go_end0
  exact ⟨rfl, H2.out.pre hb⟩
theorem size_setCell (w : World) (p : Addr) (u : Value) : (w.setCell p u).heap.size = w.heap.size := by simp [World.setCell]
theorem fresh_step' {w wx w2 : World} {B : World} {aj a' : Option Addr} {o : Obj} (hB : B.heap.size = w.heap.size) (hN : New w none aj) (hb : Below B.heap.size B wx) (hg : (wx.alloc o).grownBy w2 (aj.map Addr.block)) (hN2 : New (wx.alloc o) aj a') : New w none a' ∧ Below B.heap.size B w2 := by
  have hN' : New B none aj := fun x hx => by rw [hB]; exact hN x hx
  obtain ⟨h1, h2⟩ := fresh_step hN' hb hg hN2
  exact ⟨fun x hx => by rw [← hB]; exact h1 x hx, h2⟩
theorem Bs.pre {w w' : World} {aa : Option Addr} {p : List Nat} {b : Nat} {a : Option Addr} (hB : Bs w aa p) (hsep : ∀ x, aa = some x → p ≠ [] → ¬ Ft b a x.block) (hb : But (fun k => k = b) w w') : Bs w' aa p := hB.but hb fun x hx h0 e => hsep x hx h0 (.inl e)
set_option maxHeartbeats 1600000 in
theorem rFill_any (w : World) (b : Nat) (a : Option Addr) (cap : Nat) (s : WS) (n : Int) (h : Wt 84 w b a cap s) :
    Calls Try.prog 58 #[.pointer (some ⟨b, 0, none⟩), .int .i64 n] w fun x w' => x = .returned (.tuple #[]) ∧ Did 84 w w' b a (s.fill n) := by
  have c0 := h.c0
  have c1 := h.c1
  have c2 := h.c2
  have f2 := h.f 2
  have hm := h.2.2.1
  have H := hide h
  have HM := hide hm
  clear h hm
  by_cases he : s.e = 0
  · have HE := hide he
    rw [he] at c2
    by_cases hlt : n < (s.l.length : Int)
    · rw [show s.fill n = s.err 3 by unfold WS.fill; rw [if_neg (by omega), if_pos hlt]]
      clear he
      go_enter Try.func58, Try.ntmps58
      go_wp2
      refine bodyPost_ret (results_none rfl _ _ _) rfl ?_
      exact ⟨rfl, Did.same (H.out.setE (by decide) 3) ((But.cell1 _ _ _ _).toFt a)⟩
    · have hge : ¬ n < (s.l.length : Int) := hlt
      by_cases hmo : (s.most : Int) < n
      · rw [show s.fill n = s.err 4 by unfold WS.fill; rw [if_neg (by omega), if_neg hlt, if_pos hmo]]
        clear he
        go_enter Try.func58, Try.ntmps58
        go_wp2
        refine bodyPost_ret (results_none rfl _ _ _) rfl ?_
        exact ⟨rfl, Did.same (H.out.setE (by decide) 4) ((But.cell1 _ _ _ _).toFt a)⟩
      · obtain ⟨m, rfl⟩ : ∃ m : Nat, n = (s.l.length : Int) + (m : Int) := ⟨(n - s.l.length).toNat, by omega⟩
        rw [show s.fill ((s.l.length : Int) + (m : Int)) = ⟨s.most, s.l ++ List.replicate m 0, 0⟩ by
          unfold WS.fill; rw [if_neg (by omega), if_neg hlt, if_neg hmo, show ((s.l.length : Int) + (m : Int)).toNat - s.l.length = m by omega]]
        have HMO : Hid (s.l.length + m ≤ s.most) := by show s.l.length + m ≤ s.most; omega
        clear he hlt
        go_enter Try.func58, Try.ntmps58
        go_wp2
        clear c0 c1 c2 f2 hge hmo
        go_loopg [] m (fun k wx => k ≤ m ∧ ∃ (aj : Option Addr) (cj : Nat), (Wt 84 wx b aj cj ⟨s.most, s.l ++ List.replicate (m - k) 0, 0⟩ ∧ New w a aj ∧ But (Ft b a) w wx))
        case atStart =>
          have hs : (⟨s.most, s.l ++ [], 0⟩ : WS) = s := by rw [List.append_nil]; have := HE.out; cases s; simp_all
          exact ⟨Nat.le_refl _, a, cap, by rw [Nat.sub_self, List.replicate_zero, hs]; exact H.out, New.refl _ _, But.refl _ _⟩
        case round =>
          obtain ⟨hk, aj, cj, hG⟩ := hrel
          have HG := hide hG
          clear hG
          have c1 := HG.out.1.c1
          have hlw := HG.out.1.lt
          have hz : (s.l ++ List.replicate (m - gk) 0).length = s.l.length + (m - gk) := by rw [List.length_append, List.length_replicate]
          dsimp only at c1
          rw [hz] at c1
          by_cases h0 : gk = 0
          · subst h0
            have hcmp : ¬ ((s.l.length + (m - 0) : Nat) : Int) < (s.l.length : Int) + (m : Int) := by omega
            go_wp2
            go_end0
            refine ⟨rfl, aj, cj, ?_⟩
            have h3 := HG.out
            rw [Nat.sub_zero] at h3
            exact h3
          · have hcmp : ((s.l.length + (m - gk) : Nat) : Int) < (s.l.length : Int) + (m : Int) := by omega
            have HSN : Hid ((s.l ++ List.replicate (m - gk) 0) ++ [0] = s.l ++ List.replicate (m - (gk - 1)) 0) := by
              rw [List.append_assoc, show m - (gk - 1) = (m - gk) + 1 by omega, List.replicate_succ']; exact rfl
            generalize s.l ++ List.replicate (m - gk) 0 = L at *
            generalize hq : s.l.length + (m - gk) = q at *
            go_wp2_with (at_builtin; refine wpList_ap1 rfl _ _ rfl aj q cj L rfl hz.symm (HG.out.1.2.1.keep ((Below.refl _ _).alloc (Nat.le_refl _) _)) ⟨wr.heap.size, 0, none⟩ 1 0 rfl ?c1 (by have := HMO.out; have := HM.out; omega) ?_)
            try case c1 => simp
            intro g cap' w2 hR hN hg _
            obtain ⟨d1, e1, G⟩ := (HG.out.1.alloc _).after (n := q + 1) (p := [0]) (by decide) hR hN hg (by intro z hm; rw [List.mem_singleton] at hm; omega) (by have := HMO.out; show L.length + 1 ≤ s.most; omega) rfl (by show _ = L.length + 1; omega)
            dsimp only at d1
            rw [hz] at d1
            clear hR hN hg c1
            go_wp2
            go_roundg (gk - 1)
            case rel =>
              refine ⟨by omega, some ⟨g, 0, none⟩, cap', ?_⟩
              have h3 := G.out
              try dsimp only at h3
              rw [HSN.out] at h3
              exact did_step HG.out h3
            case measure => omega
  · rw [show s.fill n = s by unfold WS.fill; rw [if_pos he]]
    have hz : (((s.e : Nat) : Int) == 0) = false := by simp; omega
    have hz2 : (((s.e : Nat) : Int) != 0) = true := by simp; omega
    clear he
    go_enter Try.func58, Try.ntmps58
    go_wp2
    refine bodyPost_ret (results_none rfl _ _ _) rfl ?_
    exact ⟨rfl, Did.same H.out (But.refl _ _)⟩
end Go.Proofs.Yticcpkdhfdefpaa
