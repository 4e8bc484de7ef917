import Derived.Test.YtlkjpljfbmploaaWI
import Derived.Deep.LoopGhost
namespace Go.Proofs.Ytlkjpljfbmploaa
open Go.RowKit

theorem size_setCell (w : World) (p : Addr) (u : Value) : (w.setCell p u).heap.size = w.heap.size := by simp [World.setCell]
theorem fresh_step' {w wx w2 : World} {B : World} {aj a' : Option Addr} {o : Obj} (hB : B.heap.size = w.heap.size) (hN : New w none aj) (hb : Below B.heap.size B wx) (hg : (wx.alloc o).grownBy w2 (aj.map Addr.block)) (hN2 : New (wx.alloc o) aj a') : New w none a' ∧ Below B.heap.size B w2 := by
  have hN' : New B none aj := fun x hx => by rw [hB]; exact hN x hx
  obtain ⟨h1, h2⟩ := fresh_step hN' hb hg hN2
  exact ⟨fun x hx => by rw [← hB]; exact h1 x hx, h2⟩
theorem Bs.pre {w w' : World} {aa : Option Addr} {p : List Nat} {b : Nat} {a : Option Addr} (hB : Bs w aa p) (hsep : ∀ x, aa = some x → p ≠ [] → ¬ Ft b a x.block) (hb : But (fun k => k = b) w w') : Bs w' aa p := hB.but hb fun x hx h0 e => hsep x hx h0 (.inl e)

set_option maxHeartbeats 1600000 in
theorem rShort_any (w : World) (b : Nat) (a : Option Addr) (cap : Nat) (s : WS) (aa : Option Addr) (n capa : Nat) (p : List Nat) (h : Wt 65 w b a cap s) (hB : Bs w aa p) (hn : n = p.length) (hsep : ∀ x, aa = some x → p ≠ [] → ¬ Ft b a x.block) (hlen : p.length + 1 ≤ 140737488355328) :
    Calls Try.prog 40 #[.pointer (some ⟨b, 0, none⟩), .slice aa n capa] w fun x w' => x = .returned (.tuple #[]) ∧ Did 65 w w' b a (s.short p) := by
  subst hn
  have c2 := h.c2
  have f2 := h.f 2
  have H := hide h
  have HB := hide hB
  have HS := hide hsep
  have HN := hide hlen
  clear h hB hsep
  have hw8 : IntKind.u8.wrap (p.length : Int) = ((p.length % 256 : Nat) : Int) := by rw [IntKind.wrap_u8']; omega
  by_cases he : s.e = 0
  · have HE := hide he
    rw [he] at c2
    by_cases hg : 255 < p.length
    · have hgt : (255 : Int) < (p.length : Int) := by omega
      rw [show s.short p = (s.err 3).put (p.length % 256 :: p) by rw [WS.put_err (by show (3 : Nat) ≠ 0; decide)]; unfold WS.short; rw [if_neg (by omega), if_pos hg]]
      clear hg he
      have HW := hide (H.out.setE (by decide) 3)
      have HBW := hide (HB.out.pre HS.out (But.cell1 w b 2 (.int .i64 3)))
      go_enter Try.func40, Try.ntmps40
      go_wp2

      go_loopw [4, 5] (fun v i wx => ∃ (j : Nat) (aj : Option Addr) (cj : Nat), j ≤ p.length ∧ i = .int .i64 j ∧ v = .slice aj (j + 1) cj ∧ (Rw wx aj cj (p.length % 256 :: p.take j) ∧ New w none aj ∧ Below (w.setCell ⟨b, 2, none⟩ (.int .i64 3)).heap.size (w.setCell ⟨b, 2, none⟩ (.int .i64 3)) wx)) (fun _ i _ => p.length - (intOf i).toNat)
      case atStart => exact ⟨0, some ⟨w.heap.size, 0, none⟩, 1, Nat.zero_le _, rfl, rfl, Rw.mk (cur := #[.int .u8 ((p.length % 256 : Nat) : Int)]) (by have h := heap_alloc_new (w.setCell ⟨b, 2, none⟩ (.int .i64 3)) (.cells #[.int .u8 ((p.length % 256 : Nat) : Int)] 5); rw [size_setCell] at h; exact h) (Nat.le_refl _) (by unfold maxLen; omega) rfl rfl, fun x hx => .inr (by simp only [Option.some.injEq] at hx; subst hx; exact Nat.le_refl _), (Below.refl _ _).alloc (Nat.le_refl _) _⟩
      case round =>
        obtain ⟨j, aj, cj, hj, rfl, rfl, hG⟩ := hrel
        have HG := hide hG
        clear hG
        by_cases hlt : j < p.length
        · have hi : (j : Int) < (p.length : Int) := by omega
          obtain ⟨bs, off, rfl, hcs⟩ := byte_at HBW.out HG.out.2.2 hlt
          have HS2 : Hid ((p.length % 256 :: p.take j) ++ [p.getD j 0] = p.length % 256 :: p.take (j + 1)) := by rw [List.cons_append, take_snoc p hlt]; exact rfl
          have hz : (p.length % 256 :: p.take j).length = j + 1 := by rw [List.length_cons, List.length_take]; omega
          have hlw := block_lt_of_cell hcs
          generalize p.getD j 0 = x at *
          generalize p.length % 256 :: p.take j = L at *
          go_wp2_with (at_builtin; refine wpList_ap1 rfl _ _ rfl aj (j + 1) cj L ?q1x1 hz.symm ?q2x1 ⟨wr.heap.size, 0, none⟩ 1 x ?q3x1 ?c1x1 ?q5x1 ?_)
          try case q1x1 => rfl
          try case q3x1 => rfl
          try case c1x1 => simp
          try case q2x1 => exact (HG.out.1.keep ((Below.refl _ _).alloc (Nat.le_refl _) _))
          try case q5x1 => have := HN.out; omega
          intro g cap' w2 hR hN hg _
          obtain ⟨h1, h2⟩ := fresh_step' (by first | rfl | exact size_setCell _ _ _) HG.out.2.1 HG.out.2.2 hg hN
          rw [HS2.out] at hR
          have HR := hide hR
          clear hR hN hg
          go_wp2
          go_roundw
          case rel => exact ⟨j + 1, _, cap', by omega, by go_num, rfl, HR.out, h1, h2⟩
          case measure => simp [intOf]; omega
        · obtain rfl : j = p.length := by omega
          have h := HG.out
          rw [List.take_length] at h
          have HP := hide h
          clear h HG
          have hll : ∀ x ∈ p.length % 256 :: p, x < 256 := by intro x hx; rcases List.mem_cons.1 hx with rfl | hx; exact Nat.mod_lt _ (by decide); exact HB.out.1 x hx
          have R := hide (rput_any wr b a cap (s.err 3) aj (p.length + 1) cj (p.length % 256 :: p) (HW.out.keep HP.out.2.2) (HP.out.1.bs hll (by rw [List.length_cons]; have := HN.out; omega)) rfl (fun y hy _ => new_sep H.out HP.out.2.1 y hy) (by rw [List.length_cons]; exact HN.out))
          go_wp2_with fail
          refine R.out.mono ?_
          rintro e w3 ⟨rfl, h3⟩
          have H3 := hide h3
          clear h3
          go_wp2
          go_end0
          refine ⟨rfl, ?_⟩
          obtain ⟨a', cap', k1, k2, k3⟩ := H3.out.pre HP.out.2.2
          have hbw1 : But (fun k => k = b) w (w.setCell ⟨b, 2, none⟩ (.int .i64 3)) := But.cell1 _ _ _ _
          exact ⟨a', cap', k1, k2.mono hbw1.size, (hbw1.toFt a).trans k3 fun _ _ h => h⟩
    · have hgt : ¬ (255 : Int) < (p.length : Int) := by omega
      rw [show s.short p = s.put (p.length % 256 :: p) by unfold WS.short; rw [if_neg (by omega), if_neg hg, Nat.mod_eq_of_lt (by omega)]]
      clear hg he
      go_enter Try.func40, Try.ntmps40
      go_wp2
      go_loopw [4, 5] (fun v i wx => ∃ (j : Nat) (aj : Option Addr) (cj : Nat), j ≤ p.length ∧ i = .int .i64 j ∧ v = .slice aj (j + 1) cj ∧ (Rw wx aj cj (p.length % 256 :: p.take j) ∧ New w none aj ∧ Below (w).heap.size (w) wx)) (fun _ i _ => p.length - (intOf i).toNat)
      case atStart => exact ⟨0, some ⟨w.heap.size, 0, none⟩, 1, Nat.zero_le _, rfl, rfl, Rw.mk (cur := #[.int .u8 ((p.length % 256 : Nat) : Int)]) (heap_alloc_new _ _) (Nat.le_refl _) (by unfold maxLen; omega) rfl rfl, fun x hx => .inr (by simp only [Option.some.injEq] at hx; subst hx; exact Nat.le_refl _), (Below.refl _ _).alloc (Nat.le_refl _) _⟩
      case round =>
        obtain ⟨j, aj, cj, hj, rfl, rfl, hG⟩ := hrel
        have HG := hide hG
        clear hG
        by_cases hlt : j < p.length
        · have hi : (j : Int) < (p.length : Int) := by omega
          obtain ⟨bs, off, rfl, hcs⟩ := byte_at HB.out HG.out.2.2 hlt
          have HS2 : Hid ((p.length % 256 :: p.take j) ++ [p.getD j 0] = p.length % 256 :: p.take (j + 1)) := by rw [List.cons_append, take_snoc p hlt]; exact rfl
          have hz : (p.length % 256 :: p.take j).length = j + 1 := by rw [List.length_cons, List.length_take]; omega
          have hlw := block_lt_of_cell hcs
          generalize p.getD j 0 = x at *
          generalize p.length % 256 :: p.take j = L at *
          go_wp2_with (at_builtin; refine wpList_ap1 rfl _ _ rfl aj (j + 1) cj L ?q1x2 hz.symm ?q2x2 ⟨wr.heap.size, 0, none⟩ 1 x ?q3x2 ?c1x2 ?q5x2 ?_)
          try case q1x2 => rfl
          try case q3x2 => rfl
          try case c1x2 => simp
          try case q2x2 => exact (HG.out.1.keep ((Below.refl _ _).alloc (Nat.le_refl _) _))
          try case q5x2 => have := HN.out; omega
          intro g cap' w2 hR hN hg _
          obtain ⟨h1, h2⟩ := fresh_step' (by first | rfl | exact size_setCell _ _ _) HG.out.2.1 HG.out.2.2 hg hN
          rw [HS2.out] at hR
          have HR := hide hR
          clear hR hN hg
          go_wp2
          go_roundw
          case rel => exact ⟨j + 1, _, cap', by omega, by go_num, rfl, HR.out, h1, h2⟩
          case measure => simp [intOf]; omega
        · obtain rfl : j = p.length := by omega
          have h := HG.out
          rw [List.take_length] at h
          have HP := hide h
          clear h HG
          have hll : ∀ x ∈ p.length % 256 :: p, x < 256 := by intro x hx; rcases List.mem_cons.1 hx with rfl | hx; exact Nat.mod_lt _ (by decide); exact HB.out.1 x hx
          have R := hide (rput_any wr b a cap s aj (p.length + 1) cj (p.length % 256 :: p) (H.out.keep HP.out.2.2) (HP.out.1.bs hll (by rw [List.length_cons]; have := HN.out; omega)) rfl (fun y hy _ => new_sep H.out HP.out.2.1 y hy) (by rw [List.length_cons]; exact HN.out))
          go_wp2_with fail
          refine R.out.mono ?_
          rintro e w3 ⟨rfl, h3⟩
          have H3 := hide h3
          clear h3
          go_wp2
          go_end0
          exact ⟨rfl, H3.out.pre HP.out.2.2⟩
  · · rw [show s.short p = s.put (p.length % 256 :: p) by rw [WS.put_err he]; unfold WS.short; rw [if_pos he]]
      have hz : (((s.e : Nat) : Int) == 0) = false := by simp; omega
      clear he
      go_enter Try.func40, Try.ntmps40
      go_wp2
      go_loopw [4, 5] (fun v i wx => ∃ (j : Nat) (aj : Option Addr) (cj : Nat), j ≤ p.length ∧ i = .int .i64 j ∧ v = .slice aj (j + 1) cj ∧ (Rw wx aj cj (p.length % 256 :: p.take j) ∧ New w none aj ∧ Below (w).heap.size (w) wx)) (fun _ i _ => p.length - (intOf i).toNat)
      case atStart => exact ⟨0, some ⟨w.heap.size, 0, none⟩, 1, Nat.zero_le _, rfl, rfl, Rw.mk (cur := #[.int .u8 ((p.length % 256 : Nat) : Int)]) (heap_alloc_new _ _) (Nat.le_refl _) (by unfold maxLen; omega) rfl rfl, fun x hx => .inr (by simp only [Option.some.injEq] at hx; subst hx; exact Nat.le_refl _), (Below.refl _ _).alloc (Nat.le_refl _) _⟩
      case round =>
        obtain ⟨j, aj, cj, hj, rfl, rfl, hG⟩ := hrel
        have HG := hide hG
        clear hG
        by_cases hlt : j < p.length
        · have hi : (j : Int) < (p.length : Int) := by omega
          obtain ⟨bs, off, rfl, hcs⟩ := byte_at HB.out HG.out.2.2 hlt
          have HS2 : Hid ((p.length % 256 :: p.take j) ++ [p.getD j 0] = p.length % 256 :: p.take (j + 1)) := by rw [List.cons_append, take_snoc p hlt]; exact rfl
          have hz : (p.length % 256 :: p.take j).length = j + 1 := by rw [List.length_cons, List.length_take]; omega
          have hlw := block_lt_of_cell hcs
          generalize p.getD j 0 = x at *
          generalize p.length % 256 :: p.take j = L at *
          go_wp2_with (at_builtin; refine wpList_ap1 rfl _ _ rfl aj (j + 1) cj L ?q1x3 hz.symm ?q2x3 ⟨wr.heap.size, 0, none⟩ 1 x ?q3x3 ?c1x3 ?q5x3 ?_)
          try case q1x3 => rfl
          try case q3x3 => rfl
          try case c1x3 => simp
          try case q2x3 => exact (HG.out.1.keep ((Below.refl _ _).alloc (Nat.le_refl _) _))
          try case q5x3 => have := HN.out; omega
          intro g cap' w2 hR hN hg _
          obtain ⟨h1, h2⟩ := fresh_step' (by first | rfl | exact size_setCell _ _ _) HG.out.2.1 HG.out.2.2 hg hN
          rw [HS2.out] at hR
          have HR := hide hR
          clear hR hN hg
          go_wp2
          go_roundw
          case rel => exact ⟨j + 1, _, cap', by omega, by go_num, rfl, HR.out, h1, h2⟩
          case measure => simp [intOf]; omega
        · obtain rfl : j = p.length := by omega
          have h := HG.out
          rw [List.take_length] at h
          have HP := hide h
          clear h HG
          have hll : ∀ x ∈ p.length % 256 :: p, x < 256 := by intro x hx; rcases List.mem_cons.1 hx with rfl | hx; exact Nat.mod_lt _ (by decide); exact HB.out.1 x hx
          have R := hide (rput_any wr b a cap s aj (p.length + 1) cj (p.length % 256 :: p) (H.out.keep HP.out.2.2) (HP.out.1.bs hll (by rw [List.length_cons]; have := HN.out; omega)) rfl (fun y hy _ => new_sep H.out HP.out.2.1 y hy) (by rw [List.length_cons]; exact HN.out))
          go_wp2_with fail
          refine R.out.mono ?_
          rintro e w3 ⟨rfl, h3⟩
          have H3 := hide h3
          clear h3
          go_wp2
          go_end0
          exact ⟨rfl, H3.out.pre HP.out.2.2⟩

set_option maxHeartbeats 1600000 in
theorem rFill_any (w : World) (b : Nat) (a : Option Addr) (cap : Nat) (s : WS) (n : Int) (h : Wt 65 w b a cap s) :
    Calls Try.prog 41 #[.pointer (some ⟨b, 0, none⟩), .int .i64 n] w fun x w' => x = .returned (.tuple #[]) ∧ Did 65 w w' b a (s.fill n) := by
  have c0 := h.c0
  have c1 := h.c1
  have c2 := h.c2
  have f2 := h.f 2
  have hm := h.2.2.1
  have H := hide h
  have HM := hide hm
  clear h hm
  by_cases he : s.e = 0
  · have HE := hide he
    rw [he] at c2
    by_cases hlt : n < (s.l.length : Int)
    · rw [show s.fill n = s.err 3 by unfold WS.fill; rw [if_neg (by omega), if_pos hlt]]
      clear he
      go_enter Try.func41, Try.ntmps41
      go_wp2
      refine bodyPost_ret (results_none rfl _ _ _) rfl ?_
      exact ⟨rfl, Did.same (H.out.setE (by decide) 3) ((But.cell1 _ _ _ _).toFt a)⟩
    · have hge : ¬ n < (s.l.length : Int) := hlt
      by_cases hmo : (s.most : Int) < n
      · rw [show s.fill n = s.err 4 by unfold WS.fill; rw [if_neg (by omega), if_neg hlt, if_pos hmo]]
        clear he
        go_enter Try.func41, Try.ntmps41
        go_wp2
        refine bodyPost_ret (results_none rfl _ _ _) rfl ?_
        exact ⟨rfl, Did.same (H.out.setE (by decide) 4) ((But.cell1 _ _ _ _).toFt a)⟩
      · obtain ⟨m, rfl⟩ : ∃ m : Nat, n = (s.l.length : Int) + (m : Int) := ⟨(n - s.l.length).toNat, by omega⟩
        rw [show s.fill ((s.l.length : Int) + (m : Int)) = ⟨s.most, s.l ++ List.replicate m 0, 0⟩ by
          unfold WS.fill; rw [if_neg (by omega), if_neg hlt, if_neg hmo, show ((s.l.length : Int) + (m : Int)).toNat - s.l.length = m by omega]]
        have HMO : Hid (s.l.length + m ≤ s.most) := by show s.l.length + m ≤ s.most; omega
        clear he hlt
        go_enter Try.func41, Try.ntmps41
        go_wp2
        clear c0 c1 c2 f2 hge hmo
        go_loopg [] m (fun k wx => k ≤ m ∧ ∃ (aj : Option Addr) (cj : Nat), (Wt 65 wx b aj cj ⟨s.most, s.l ++ List.replicate (m - k) 0, 0⟩ ∧ New w a aj ∧ But (Ft b a) w wx))
        case atStart =>
          have hs : (⟨s.most, s.l ++ [], 0⟩ : WS) = s := by rw [List.append_nil]; have := HE.out; cases s; simp_all
          exact ⟨Nat.le_refl _, a, cap, by rw [Nat.sub_self, List.replicate_zero, hs]; exact H.out, New.refl _ _, But.refl _ _⟩
        case round =>
          obtain ⟨hk, aj, cj, hG⟩ := hrel
          have HG := hide hG
          clear hG
          have c1 := HG.out.1.c1
          have hlw := HG.out.1.lt
          have hz : (s.l ++ List.replicate (m - gk) 0).length = s.l.length + (m - gk) := by rw [List.length_append, List.length_replicate]
          dsimp only at c1
          rw [hz] at c1
          by_cases h0 : gk = 0
          · subst h0
            have hcmp : ¬ ((s.l.length + (m - 0) : Nat) : Int) < (s.l.length : Int) + (m : Int) := by omega
            go_wp2
            go_end0
            refine ⟨rfl, aj, cj, ?_⟩
            have h3 := HG.out
            rw [Nat.sub_zero] at h3
            exact h3
          · have hcmp : ((s.l.length + (m - gk) : Nat) : Int) < (s.l.length : Int) + (m : Int) := by omega
            have HSN : Hid ((s.l ++ List.replicate (m - gk) 0) ++ [0] = s.l ++ List.replicate (m - (gk - 1)) 0) := by
              rw [List.append_assoc, show m - (gk - 1) = (m - gk) + 1 by omega, List.replicate_succ']; exact rfl
            generalize s.l ++ List.replicate (m - gk) 0 = L at *
            generalize hq : s.l.length + (m - gk) = q at *
            go_wp2_with (at_builtin; refine wpList_ap1 rfl _ _ rfl aj q cj L rfl hz.symm (HG.out.1.2.1.keep ((Below.refl _ _).alloc (Nat.le_refl _) _)) ⟨wr.heap.size, 0, none⟩ 1 0 rfl ?c1 (by have := HMO.out; have := HM.out; omega) ?_)
            try case c1 => simp
            intro g cap' w2 hR hN hg _
            obtain ⟨d1, e1, G⟩ := (HG.out.1.alloc _).after (n := q + 1) (p := [0]) (by decide) hR hN hg (by intro z hm; rw [List.mem_singleton] at hm; omega) (by have := HMO.out; show L.length + 1 ≤ s.most; omega) rfl (by show _ = L.length + 1; omega)
            dsimp only at d1
            rw [hz] at d1
            clear hR hN hg c1
            go_wp2
            go_roundg (gk - 1)
            case rel =>
              refine ⟨by omega, some ⟨g, 0, none⟩, cap', ?_⟩
              have h3 := G.out
              try dsimp only at h3
              rw [HSN.out] at h3
              exact did_step HG.out h3
            case measure => omega
  · rw [show s.fill n = s by unfold WS.fill; rw [if_pos he]]
    have hz : (((s.e : Nat) : Int) == 0) = false := by simp; omega
    have hz2 : (((s.e : Nat) : Int) != 0) = true := by simp; omega
    clear he
    go_enter Try.func41, Try.ntmps41
    go_wp2
    refine bodyPost_ret (results_none rfl _ _ _) rfl ?_
    exact ⟨rfl, Did.same H.out (But.refl _ _)⟩

set_option maxHeartbeats 800000 in
theorem rDone_ok (w : World) (b : Nat) (a : Option Addr) (cap : Nat) (s : WS) (h : Wt 65 w b a cap s) (he : s.e = 0) :
    Calls Try.prog 42 #[.pointer (some ⟨b, 0, none⟩)] w fun x w' => ∃ a' cap', x = .returned (.tuple #[.slice a' s.l.length cap', .int .i64 0]) ∧ Rw w' a' cap' s.l ∧ New w none a' ∧ Below w.heap.size w w' := by
  have c1 := h.c1
  have c2 := h.c2
  rw [he] at c2
  have H := hide h
  clear h he
  go_enter Try.func42, Try.ntmps42
  go_wp2_with fail
  refine (CopyBytes_any w a s.l.length cap s.l (H.out.2.1.bs H.out.2.2.2.2 H.out.2.1.len_le) rfl (by have := H.out.2.2.1; have := H.out.2.2.2.1; omega)).mono ?_
  rintro e w1 ⟨a', cap', rfl, hR, hN, hb⟩
  have HR := hide hR
  clear hR
  go_wp2
  go_ret2
  exact ⟨a', cap', rfl, HR.out, hN, hb⟩
set_option maxHeartbeats 800000 in
theorem rDone_err (w : World) (b : Nat) (a : Option Addr) (cap : Nat) (s : WS) (h : Wt 65 w b a cap s) (he : s.e ≠ 0) :
    Calls Try.prog 42 #[.pointer (some ⟨b, 0, none⟩)] w fun x w' => x = .returned (.tuple #[.slice none 0 0, .int .i64 (s.e : Int)]) ∧ Below w.heap.size w w' := by
  have c2 := h.c2
  have hz : (((s.e : Nat) : Int) == 0) = false := by simp; omega
  have hz2 : (((s.e : Nat) : Int) != 0) = true := by simp; omega
  clear h he
  go_enter Try.func42, Try.ntmps42
  go_wp2
  go_region
  all_goals go_wp2
  all_goals go_ret2
  all_goals exact ⟨rfl, (Below.refl _ _).drew⟩
end Go.Proofs.Ytlkjpljfbmploaa
