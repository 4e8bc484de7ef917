import Derived.Test.YtbhigodjbfoeoaaGreatWpPIA
namespace Go.Proofs.YtbhigodjbfoeoaaGreat
open Go.RowKit
set_option maxRecDepth 8000 in
set_option maxHeartbeats 3200000 in
theorem Kids_2 (w : World) (p : Pv) (hP : Pi w p) (hk : p.kind = 2) : Calls Tryz.prog 109 #[p.vl] w fun e w' => ∃ a c, e = .returned (.slice a (p.pg.kids).length c) ∧ IOwn w w' a c p.pg.kids := by
  rw [kids_node p (by omega)]
  have hin : p.items.length ≤ 2199023255489 := hP.it.2.1
  have HP := hide (hP.keep (al w (.cells p.cs 93)))
  have B0 := hide (Bx.new w 93 p.cs)
  have HW := hide (al w (.cells p.cs 93))
  obtain ⟨v, hv⟩ : ∃ v, w.alloc (.cells p.cs 93) = v := ⟨_, rfl⟩
  rw [hv] at HP B0 HW
  have PG := hide fun (w1 : World) (hb : Below v.heap.size v w1) => Bx.page (B0.out.keep hb)
  have HR := hide fun (w1 : World) (hb : Below v.heap.size v w1) (k : Nat) (hk : k < p.items.length) => (HP.out.it.keep hb).at hk
  have HKS := hide fun (k : Nat) (hk : k < p.items.length) => kidsTo_snoc p.kind p.items k hk
  have HKL := hide fun (k : Nat) => (show (kidsTo p.kind (p.items.take k)).length ≤ k from Nat.le_trans (kidsTo_len _ _) (by rw [List.length_take]; omega))
  have HALL : Hid (p.items.take p.items.length = p.items) := List.take_length
  clear hP
  obtain ⟨kind, level, aI, cI, items, aD, cD, data, next⟩ := p
  unfold Pv.vl
  simp only [Pv.cs] at *
  subst hk
  obtain ⟨b0, b1, b2, b3, b4⟩ := PG.out _ (Below.refl _ _)
  go_enter Tryz.func109, Tryz.ntmps109
  go_wp2
  go_loopw [3, 5, 14] (fun o _ i wx => ∃ (k : Nat) (ak : Option Addr) (ck : Nat), k ≤ items.length ∧ i = .int .i64 k ∧ o = .slice ak (kidsTo 2 (items.take k)).length ck ∧ IOwn v wx ak ck (kidsTo 2 (items.take k))) (fun _ _ i _ => items.length - (intOf i).toNat)
  case atStart => exact ⟨0, none, 0, Nat.zero_le _, rfl, rfl, Ig.nil _, New.none _ _, Below.refl _ _⟩
  case round =>
    clear hv b0 b1 b2 b3 b4
    obtain ⟨k, ak, ck, hk, rfl, rfl, hO⟩ := hrel
    have O0 := hide hO
    obtain ⟨c0, c1, c2, c3, c4⟩ := PG.out _ hO.b
    clear hO
    by_cases hlt : k < items.length
    · have hlti : (k : Int) < (items.length : Int) := by omega
      have hj1 := w64 (j := k) (by omega)
      obtain ⟨bI, off, rfl, hr⟩ := HR.out _ O0.out.b k hlt
      obtain ⟨k0, k1, k2, k3⟩ := range4 hr
      have HS1 := hide (HKS.out k hlt)
      have HL1 := HKL.out k
      clear hr HR HKS HKL
      generalize items.getD k Iv.zero = x at *
      have hb1 := al wr (.cells x.cs 34)
      have O1 := hide (O0.out.keep hb1)
      obtain ⟨e0, e1, e2, e3, e4⟩ := PG.out _ O1.out.b
      obtain ⟨aK, cK, key, aV, cV, val, child, size⟩ := x
      simp only [Iv.cs] at *
      generalize kidsTo 2 (items.take k) = L at *
      have HLE : Hid (L ++ [child] = kidsTo 2 (items.take (k + 1))) := by show _ = _; rw [HS1.out]; simp
      go_wp2_with (at_builtin; refine wpList_apI rfl _ _ rfl ak L.length ck L rfl rfl (O1.out.r.keep ((Below.refl _ _).alloc (Nat.le_refl _) _)) ⟨wr.heap.size + 1, 0, none⟩ 1 child rfl ?c1 (by omega) ?_)
      try case c1 => simp
      intro g c2' w2 hR hN hg hlt2
      have O2 := hide (O1.out.step (al _ _) hR hN hg)
      rw [HLE.out] at O2
      have HLN := hide (congrArg List.length HLE.out)
      clear hR hN hg
      go_wp2
      go_roundw
      case rel => exact ⟨k + 1, _, c2', by omega, by first | (go_num; done) | exact congrArg (Value.int IntKind.i64) (by omega), by rw [← HLN.out]; simp, O2.out⟩
      case measure => first | exact meas_up _ _ _ hj1 hlt | exact meas_up _ _ _ rfl hlt | (simp [intOf]; omega)
    · obtain rfl : k = items.length := by omega
      rw [HALL.out] at O0 ⊢
      go_wp2
      go_ret
      exact ⟨ak, ck, rfl, O0.out.r, O0.out.n.mono HW.out.size, bt HW.out O0.out.b⟩
set_option maxRecDepth 8000 in
set_option maxHeartbeats 3200000 in
theorem Kids_1 (w : World) (p : Pv) (hP : Pi w p) (hk : p.kind = 1) : Calls Tryz.prog 109 #[p.vl] w fun e w' => ∃ a c, e = .returned (.slice a (p.pg.kids).length c) ∧ IOwn w w' a c p.pg.kids := by
  rw [kids_node p (by omega)]
  have hin : p.items.length ≤ 2199023255489 := hP.it.2.1
  have HP := hide (hP.keep (al w (.cells p.cs 93)))
  have B0 := hide (Bx.new w 93 p.cs)
  have HW := hide (al w (.cells p.cs 93))
  obtain ⟨v, hv⟩ : ∃ v, w.alloc (.cells p.cs 93) = v := ⟨_, rfl⟩
  rw [hv] at HP B0 HW
  have PG := hide fun (w1 : World) (hb : Below v.heap.size v w1) => Bx.page (B0.out.keep hb)
  have HR := hide fun (w1 : World) (hb : Below v.heap.size v w1) (k : Nat) (hk : k < p.items.length) => (HP.out.it.keep hb).at hk
  have HKS := hide fun (k : Nat) (hk : k < p.items.length) => kidsTo_snoc p.kind p.items k hk
  have HKL := hide fun (k : Nat) => (show (kidsTo p.kind (p.items.take k)).length ≤ k from Nat.le_trans (kidsTo_len _ _) (by rw [List.length_take]; omega))
  have HALL : Hid (p.items.take p.items.length = p.items) := List.take_length
  clear hP
  obtain ⟨kind, level, aI, cI, items, aD, cD, data, next⟩ := p
  unfold Pv.vl
  simp only [Pv.cs] at *
  subst hk
  obtain ⟨b0, b1, b2, b3, b4⟩ := PG.out _ (Below.refl _ _)
  go_enter Tryz.func109, Tryz.ntmps109
  go_wp2
  go_loopw [3, 5, 14] (fun o _ i wx => ∃ (k : Nat) (ak : Option Addr) (ck : Nat), k ≤ items.length ∧ i = .int .i64 k ∧ o = .slice ak (kidsTo 1 (items.take k)).length ck ∧ IOwn v wx ak ck (kidsTo 1 (items.take k))) (fun _ _ i _ => items.length - (intOf i).toNat)
  case atStart => exact ⟨0, none, 0, Nat.zero_le _, rfl, rfl, Ig.nil _, New.none _ _, Below.refl _ _⟩
  case round =>
    clear hv b0 b1 b2 b3 b4
    obtain ⟨k, ak, ck, hk, rfl, rfl, hO⟩ := hrel
    have O0 := hide hO
    obtain ⟨c0, c1, c2, c3, c4⟩ := PG.out _ hO.b
    clear hO
    by_cases hlt : k < items.length
    · have hlti : (k : Int) < (items.length : Int) := by omega
      have hj1 := w64 (j := k) (by omega)
      obtain ⟨bI, off, rfl, hr⟩ := HR.out _ O0.out.b k hlt
      obtain ⟨k0, k1, k2, k3⟩ := range4 hr
      have HS1 := hide (HKS.out k hlt)
      have HL1 := HKL.out k
      clear hr HR HKS HKL
      generalize items.getD k Iv.zero = x at *
      have hb1 := al wr (.cells x.cs 34)
      have O1 := hide (O0.out.keep hb1)
      obtain ⟨e0, e1, e2, e3, e4⟩ := PG.out _ O1.out.b
      obtain ⟨aK, cK, key, aV, cV, val, child, size⟩ := x
      simp only [Iv.cs] at *
      generalize kidsTo 1 (items.take k) = L at *
      by_cases h0 : child = 0
      · subst h0
        have HLE : Hid (L = kidsTo 1 (items.take (k + 1))) := by show _ = _; rw [HS1.out]; simp
        go_wp2
        go_roundw
        case rel => exact ⟨k + 1, ak, ck, by omega, by first | (go_num; done) | exact congrArg (Value.int IntKind.i64) (by omega), by rw [← HLE.out], by rw [← HLE.out]; exact O1.out⟩
        case measure => first | exact meas_up _ _ _ hj1 hlt | exact meas_up _ _ _ rfl hlt | (simp [intOf]; omega)
      · have h0' : (child == 0) = false := by simpa using h0
        have HLE : Hid (L ++ [child] = kidsTo 1 (items.take (k + 1))) := by show _ = _; rw [HS1.out]; simp [h0]
        go_wp2_with (at_builtin; refine wpList_apI rfl _ _ rfl ak L.length ck L rfl rfl (O1.out.r.keep ((Below.refl _ _).alloc (Nat.le_refl _) _)) ⟨wr.heap.size + 1, 0, none⟩ 1 child rfl ?c1 (by omega) ?_)
        try case c1 => simp
        intro g c2' w2 hR hN hg hlt2
        have O2 := hide (O1.out.step (al _ _) hR hN hg)
        rw [HLE.out] at O2
        have HLN := hide (congrArg List.length HLE.out)
        clear hR hN hg
        go_wp2
        go_roundw
        case rel => exact ⟨k + 1, _, c2', by omega, by first | (go_num; done) | exact congrArg (Value.int IntKind.i64) (by omega), by rw [← HLN.out]; simp, O2.out⟩
        case measure => first | exact meas_up _ _ _ hj1 hlt | exact meas_up _ _ _ rfl hlt | (simp [intOf]; omega)
    · obtain rfl : k = items.length := by omega
      rw [HALL.out] at O0 ⊢
      go_wp2
      go_ret
      exact ⟨ak, ck, rfl, O0.out.r, O0.out.n.mono HW.out.size, bt HW.out O0.out.b⟩
set_option maxRecDepth 8000 in
set_option maxHeartbeats 1600000 in
theorem Kids_rest (w : World) (p : Pv) (h1 : p.kind ≠ 1) (h2 : p.kind ≠ 2) : Calls Tryz.prog 109 #[p.vl] w fun e w' => ∃ a c, e = .returned (.slice a (p.pg.kids).length c) ∧ IOwn w w' a c p.pg.kids := by
  have hk : p.pg.kids = if p.kind = 3 ∧ p.next ≠ 0 then [p.next] else [] := by
    unfold Pg.kids
    rw [if_neg (show ¬ p.pg.kind = 2 from h2), if_neg (show ¬ p.pg.kind = 1 from h1)]
    rfl
  rw [hk]
  clear hk
  obtain ⟨kind, level, aI, cI, items, aD, cD, data, next⟩ := p
  unfold Pv.vl
  simp only [Pv.cs] at *
  have h1' : (kind == 1) = false := by simpa using h1
  have h2' : (kind == 2) = false := by simpa using h2
  by_cases h3 : kind = 3
  · subst h3
    by_cases h0 : next = 0
    · subst h0
      go_enter Tryz.func109, Tryz.ntmps109
      go_wp2
      go_ret
      exact ⟨none, 0, by simp, Ig.nil _, New.none _ _, al _ _⟩
    · have h0' : (next == 0) = false := by simpa using h0
      rw [if_pos ⟨rfl, h0⟩]
      go_enter Tryz.func109, Tryz.ntmps109
      go_wp2_with (at_builtin; refine wpList_apI rfl _ _ rfl none 0 0 [] rfl rfl (Ig.nil _) ⟨w.heap.size + 1, 0, none⟩ 1 next rfl ?c1 (by decide) ?_)
      try case c1 => simp
      intro g c2' w2 hR hN hg hlt2
      have O2 : Hid (IOwn w w2 (some ⟨g, 0, none⟩) c2' ([] ++ [next])) := IOwn.step (w := w) (wx := w) ⟨Ig.nil _, New.none _ _, Below.refl _ _⟩ (bt (al _ _) (al _ _)) hR hN hg
      clear hR hN hg
      go_wp2
      go_ret
      exact ⟨_, c2', rfl, O2.out⟩
  · have h3' : (kind == 3) = false := by simpa using h3
    rw [if_neg (fun h => h3 h.1)]
    go_enter Tryz.func109, Tryz.ntmps109
    go_wp2
    go_ret
    exact ⟨none, 0, rfl, Ig.nil _, New.none _ _, al _ _⟩
theorem Kids_any (w : World) (p : Pv) (hP : Pi w p) : Calls Tryz.prog 109 #[p.vl] w fun e w' => ∃ a c, e = .returned (.slice a (p.pg.kids).length c) ∧ IOwn w w' a c p.pg.kids := by
  by_cases h1 : p.kind = 1
  · exact Kids_1 w p hP h1
  · by_cases h2 : p.kind = 2
    · exact Kids_2 w p hP h2
    · exact Kids_rest w p h1 h2
end Go.Proofs.YtbhigodjbfoeoaaGreat
