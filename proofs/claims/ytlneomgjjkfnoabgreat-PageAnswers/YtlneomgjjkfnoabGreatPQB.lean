import Derived.Test.YtlneomgjjkfnoabGreatPOE
import Derived.Test.YtlneomgjjkfnoabGreatPJA
namespace Go.Proofs.YtlneomgjjkfnoabGreat
open Go.RowKit

set_option maxRecDepth 8000 in
set_option maxHeartbeats 3200000 in
theorem EqItem_same (w : World) (x y : Iv) (hx : Ii w x) (hy : Ii w y) (he : x.it = y.it) : Calls Tryz.prog 42 #[x.vl, y.vl] w fun e w' => e = .returned (.bool true) ∧ Below w.heap.size w w' := by
  obtain ⟨aK, cK, key, aV, cV, val, child, size⟩ := x
  obtain ⟨bK, dK, key2, bV, dV, val2, child2, size2⟩ := y
  simp only [Iv.it, It.mk.injEq] at he
  obtain ⟨rfl, rfl, rfl, rfl⟩ := he
  have E1 := hide fun (w1 : World) (hb : Below w.heap.size w w1) => EqBytes_same w1 aK bK key.length key.length cK dK key (hx.bk.keep hb) (hy.bk.keep hb) rfl rfl
  have E2 := hide fun (w1 : World) (hb : Below w.heap.size w w1) => EqBytes_same w1 aV bV val.length val.length cV dV val (hx.bv.keep hb) (hy.bv.keep hb) rfl rfl
  obtain ⟨q1, q2⟩ := bx2 w 55 55 (Iv.cs ⟨aK, cK, key, aV, cV, val, child, size⟩) (Iv.cs ⟨bK, dK, key, bV, dV, val, child, size⟩)
  have CC := hide fun (w1 : World) (hb : Below ((w.alloc (.cells (Iv.cs ⟨aK, cK, key, aV, cV, val, child, size⟩) 55)).alloc (.cells (Iv.cs ⟨bK, dK, key, bV, dV, val, child, size⟩) 55)).heap.size ((w.alloc (.cells (Iv.cs ⟨aK, cK, key, aV, cV, val, child, size⟩) 55)).alloc (.cells (Iv.cs ⟨bK, dK, key, bV, dV, val, child, size⟩) 55)) w1) => And.intro (Bx.item (q1.keep hb)) (Bx.item (q2.keep hb))
  clear hx hy q1 q2
  unfold Iv.vl
  simp only [Iv.cs] at *
  go_enter Tryz.func42, Tryz.ntmps42
  go_wp2_with fail
  refine (E1.out _ (bt (al _ _) (al _ _))).mono ?_
  rintro y w1 ⟨rfl, hb1⟩
  obtain ⟨⟨c0, c1, c2, c3⟩, d0, d1, d2, d3⟩ := CC.out _ hb1
  have T1 := hide (bt (bt (al w _) (al _ _)) hb1)
  clear hb1
  go_wp2_with fail
  refine (E2.out _ T1.out).mono ?_
  rintro y w2 ⟨rfl, hb2⟩
  have T2 := hide (bt T1.out hb2)
  clear hb2
  go_wp2
  go_ret
  exact ⟨by simp, T2.out⟩
set_option maxRecDepth 8000 in
set_option maxHeartbeats 3200000 in
theorem EqPage_same (w : World) (p q : Pv) (hp : Pi w p) (hq : Pi w q) (he : p.pg = q.pg) : Calls Tryz.prog 23 #[p.vl, q.vl] w fun e w' => e = .returned (.bool true) ∧ Below w.heap.size w w' := by
  have hin : p.items.length ≤ 2199023255489 := hp.it.2.1
  have HP := hide hp
  have HQ := hide hq
  obtain ⟨q1, q2⟩ := bx2 w 27 27 p.cs q.cs
  have HW := hide (bt (al w (.cells p.cs 27)) (al _ (.cells q.cs 27)))
  obtain ⟨v, hv⟩ : ∃ v, (w.alloc (.cells p.cs 27)).alloc (.cells q.cs 27) = v := ⟨_, rfl⟩
  rw [hv] at q1 q2 HW
  have CC := hide fun (w1 : World) (hb : Below v.heap.size v w1) => And.intro (Bx.page (q1.keep hb)) (Bx.page (q2.keep hb))
  have HIT : Hid (p.items.map Iv.it = q.items.map Iv.it) := congrArg Pg.items he
  have hlen : q.items.length = p.items.length := by have := congrArg List.length HIT.out; simpa using this.symm
  have HEI := hide fun (k : Nat) (hk : k < p.items.length) (w1 : World) (hb : Below v.heap.size v w1) => EqItem_same w1 (p.items.getD k Iv.zero) (q.items.getD k Iv.zero) ((HP.out.it.keep (bt HW.out hb)).1 _ (getD_memR hk)) ((HQ.out.it.keep (bt HW.out hb)).1 _ (getD_memR (by omega))) (by
    have h1 := congrArg (fun L => L.getD k It.zero) HIT.out
    have e1 := Pv.at p k
    have e2 := Pv.at q k
    unfold Pg.at at e1 e2
    rw [← e1, ← e2]
    exact h1)
  have HRA := hide fun (w1 : World) (hb : Below v.heap.size v w1) => HP.out.it.keep (bt HW.out hb)
  have HRB := hide fun (w1 : World) (hb : Below v.heap.size v w1) => HQ.out.it.keep (bt HW.out hb)
  have hd : q.data = p.data := (congrArg Pg.data he).symm
  have ED := hide fun (w1 : World) (hb : Below v.heap.size v w1) => EqBytes_same w1 p.aD q.aD p.data.length q.data.length p.cD q.cD p.data (HP.out.bd.keep (bt HW.out hb)) (hd ▸ HQ.out.bd.keep (bt HW.out hb)) rfl (by rw [hd])
  have h1 : q.kind = p.kind := (congrArg Pg.kind he).symm
  have h2 : q.level = p.level := (congrArg Pg.level he).symm
  have h3 : q.next = p.next := (congrArg Pg.next he).symm
  clear he hp hq q1 q2 HIT hd HP HQ
  obtain ⟨kind, level, aI, cI, items, aD, cD, data, next⟩ := p
  obtain ⟨kind', level', bIa, dI, items', bD, dD, data', next'⟩ := q
  unfold Pv.vl
  simp only [Pv.cs] at *
  subst h1 h2 h3
  rw [hlen] at hv CC ⊢
  obtain ⟨⟨b0, b1, b2, b3, b4⟩, e0, e1, e2, e3, e4⟩ := CC.out _ (Below.refl _ _)
  go_enter Tryz.func23, Tryz.ntmps23
  go_wp2_with fail
  refine (ED.out _ (Below.refl _ _)).mono ?_
  rintro y w1 ⟨rfl, hb1⟩
  have T1 := hide hb1
  clear hb1 hv b0 b1 b2 b3 b4 e0 e1 e2 e3 e4
  obtain ⟨⟨c0, c1, c2, c3, c4⟩, d0, d1, d2, d3, d4⟩ := CC.out _ T1.out
  go_wp2
  go_loopw [5] (fun i wx => ∃ k : Nat, k ≤ items.length ∧ i = .int .i64 k ∧ Below v.heap.size v wx) (fun i _ => items.length - (intOf i).toNat)
  case atStart => exact ⟨0, Nat.zero_le _, rfl, T1.out⟩
  case round =>
    clear T1 c0 c1 c2 c3 c4 d0 d1 d2 d3 d4
    obtain ⟨k, hk, rfl, hT⟩ := hrel
    have T1 := hide hT
    clear hT
    obtain ⟨⟨c0, c1, c2, c3, c4⟩, d0, d1, d2, d3, d4⟩ := CC.out _ T1.out
    by_cases hlt : k < items.length
    · have hlti : (k : Int) < (items.length : Int) := by omega
      have hj1 := w64 (j := k) (by omega)
      have EI := hide (HEI.out k hlt)
      obtain ⟨bI, oI, rfl⟩ : ∃ bI oI, aI = some ⟨bI, oI, none⟩ := by obtain ⟨b2, o2, e2, _⟩ := (HRA.out _ (Below.refl _ _)).at hlt; exact ⟨b2, o2, e2⟩
      obtain ⟨bJ, oJ, rfl⟩ : ∃ bI oI, bIa = some ⟨bI, oI, none⟩ := by obtain ⟨b2, o2, e2, _⟩ := (HRB.out _ (Below.refl _ _)).at (r := k) (by omega); exact ⟨b2, o2, e2⟩
      have HA := hide fun (w1 : World) (hb : Below v.heap.size v w1) => rowAt (HRA.out w1 hb) hlt
      have HB := hide fun (w1 : World) (hb : Below v.heap.size v w1) => rowAt (HRB.out w1 hb) (k := k) (by omega)
      clear HEI HRA HRB
      generalize items.getD k Iv.zero = x at *
      generalize items'.getD k Iv.zero = y at *
      generalize items.length = n at *
      obtain ⟨aK, cK, key, aV, cV, val, child, size⟩ := x
      obtain ⟨bK, dK, key2, bV, dV, val2, child2, size2⟩ := y
      simp only [Iv.vl, Iv.cs] at EI HA HB
      go_wp2
      have T1 := hide (bt T1.out (dr2 _))
      have S1 := And.intro (And.intro (CC.out _ T1.out).1.2.2.1 (CC.out _ T1.out).2.2.2.1) (And.intro (HA.out _ T1.out) (HB.out _ T1.out))
      refine wp_region_held_drew (S := fun w' => (w'.cell? ⟨w.heap.size, 2, none⟩ = some (.slice (some ⟨bI, oI, none⟩) n cI) ∧ w'.cell? ⟨w.heap.size + 1, 2, none⟩ = some (.slice (some ⟨bJ, oJ, none⟩) n dI)) ∧ (w'.cell? ⟨bI, oI + k * 4, none⟩ = some (.slice aK key.length cK) ∧ w'.cell? ⟨bI, oI + k * 4 + 1, none⟩ = some (.slice aV val.length cV) ∧ w'.cell? ⟨bI, oI + k * 4 + 2, none⟩ = some (.int .i64 child) ∧ w'.cell? ⟨bI, oI + k * 4 + 3, none⟩ = some (.int .i64 size)) ∧ (w'.cell? ⟨bJ, oJ + k * 4, none⟩ = some (.slice bK key2.length dK) ∧ w'.cell? ⟨bJ, oJ + k * 4 + 1, none⟩ = some (.slice bV val2.length dV) ∧ w'.cell? ⟨bJ, oJ + k * 4 + 2, none⟩ = some (.int .i64 child2) ∧ w'.cell? ⟨bJ, oJ + k * 4 + 3, none⟩ = some (.int .i64 size2))) (by kernel_rfl) (by exact S1) (fun hHeld => ?_)
      refine wpAnyH_take (i := 0) (v := ?v1) rfl (by kernel_rfl) (by kernel_rfl) (by kernel_rfl) (fun _ _ _ h => h) (Or.inl ⟨by rfl, ?hy1⟩) (by assumption) ?rest1
      case hy1 => (intro w hSw; (try dsimp only at hSw); go_simp <;> with_reducible rfl)
      try simp only [Act.put, List.getElem_toArray, List.getElem_cons_zero, List.setIfInBounds_toArray, List.set_cons_zero, List.set_cons_succ]
      refine wpAnyH_take (i := 1) (v := ?v2) rfl (by kernel_rfl) (by kernel_rfl) (by kernel_rfl) (fun _ _ _ h => h) (Or.inl ⟨by rfl, ?hy2⟩) (by assumption) ?rest2
      case hy2 => (intro w hSw; (try dsimp only at hSw); go_simp <;> with_reducible rfl)
      try simp only [Act.put, List.getElem_toArray, List.getElem_cons_zero, List.getElem_cons_succ, List.setIfInBounds_toArray, List.set_cons_zero, List.set_cons_succ]
      refine wpAnyH_take (i := 2) (v := ?v3) rfl (by kernel_rfl) (by kernel_rfl) (by kernel_rfl) (fun _ _ _ h => h) (Or.inl ⟨by rfl, ?hy3⟩) (by assumption) ?rest3
      case hy3 => (intro w hSw; (try dsimp only at hSw); go_simp <;> with_reducible rfl)
      try simp only [Act.put, List.getElem_toArray, List.getElem_cons_zero, List.getElem_cons_succ, List.setIfInBounds_toArray, List.set_cons_zero, List.set_cons_succ]
      refine wpAnyH_take (i := 3) (v := ?v4) rfl (by kernel_rfl) (by kernel_rfl) (by kernel_rfl) (fun _ _ _ h => h) (Or.inl ⟨by rfl, ?hy4⟩) (by assumption) ?rest4
      case hy4 => (intro w hSw; (try dsimp only at hSw); go_simp <;> with_reducible rfl)
      try simp only [Act.put, List.getElem_toArray, List.getElem_cons_zero, List.getElem_cons_succ, List.setIfInBounds_toArray, List.set_cons_zero, List.set_cons_succ]
      refine wpAnyH_take (i := 4) (v := ?v5) rfl (by kernel_rfl) (by kernel_rfl) (by kernel_rfl) (fun _ _ _ h => h) (Or.inl ⟨by rfl, ?hy5⟩) (by assumption) ?rest5
      case hy5 => (intro w hSw; (try dsimp only at hSw); go_simp <;> with_reducible rfl)
      try simp only [Act.put, List.getElem_toArray, List.getElem_cons_zero, List.getElem_cons_succ, List.setIfInBounds_toArray, List.set_cons_zero, List.set_cons_succ]
      refine wpAnyH_take (i := 5) (v := ?v6) rfl (by kernel_rfl) (by kernel_rfl) (by kernel_rfl) (fun _ _ _ h => h) (Or.inl ⟨by rfl, ?hy6⟩) (by assumption) ?rest6
      case hy6 => (intro w hSw; (try dsimp only at hSw); go_simp <;> with_reducible rfl)
      try simp only [Act.put, List.getElem_toArray, List.getElem_cons_zero, List.getElem_cons_succ, List.setIfInBounds_toArray, List.set_cons_zero, List.set_cons_succ]
      refine wpAnyH_take (i := 6) (v := ?v7) rfl (by kernel_rfl) (by kernel_rfl) (by kernel_rfl) (fun _ _ _ h => h) (Or.inl ⟨by rfl, ?hy7⟩) (by assumption) ?rest7
      case hy7 => (intro w hSw; (try dsimp only at hSw); go_simp <;> with_reducible rfl)
      try simp only [Act.put, List.getElem_toArray, List.getElem_cons_zero, List.getElem_cons_succ, List.setIfInBounds_toArray, List.set_cons_zero, List.set_cons_succ]
      refine wpAnyH_take (i := 7) (v := ?v8) rfl (by kernel_rfl) (by kernel_rfl) (by kernel_rfl) (fun _ _ _ h => h) (Or.inl ⟨by rfl, ?hy8⟩) (by assumption) ?rest8
      case hy8 => (intro w hSw; (try dsimp only at hSw); go_simp <;> with_reducible rfl)
      try simp only [Act.put, List.getElem_toArray, List.getElem_cons_zero, List.getElem_cons_succ, List.setIfInBounds_toArray, List.set_cons_zero, List.set_cons_succ]
      refine wpAnyH_take (i := 8) (v := ?v9) rfl (by kernel_rfl) (by kernel_rfl) (by kernel_rfl) (fun _ _ _ h => h) (Or.inl ⟨by rfl, ?hy9⟩) (by assumption) ?rest9
      case hy9 => (intro w hSw; (try dsimp only at hSw); go_simp <;> with_reducible rfl)
      try simp only [Act.put, List.getElem_toArray, List.getElem_cons_zero, List.getElem_cons_succ, List.setIfInBounds_toArray, List.set_cons_zero, List.set_cons_succ]
      refine wpAnyH_take (i := 9) (v := ?v10) rfl (by kernel_rfl) (by kernel_rfl) (by kernel_rfl) (fun _ _ _ h => h) (Or.inl ⟨by rfl, ?hy10⟩) (by assumption) ?rest10
      case hy10 => (intro w hSw; (try dsimp only at hSw); go_simp <;> with_reducible rfl)
      try simp only [Act.put, List.getElem_toArray, List.getElem_cons_zero, List.getElem_cons_succ, List.setIfInBounds_toArray, List.set_cons_zero, List.set_cons_succ]
      refine wpAnyH_ready (rs := [10]) (by kernel_rfl) (by simp) ?_
      refine AllReadyH.cons rfl (fun K hK => ?_) AllReadyH.nil
      go_simp
      refine (EI.out _ T1.out).mono ?_
      rintro e w9 ⟨rfl, hb⟩
      have T1 := hide (bt T1.out hb)
      have S1 := And.intro (And.intro (CC.out _ T1.out).1.2.2.1 (CC.out _ T1.out).2.2.2.1) (And.intro (HA.out _ T1.out) (HB.out _ T1.out))
      clear hb
      go_wp2_with fail
      refine hK.out _ _ (by exact S1) (fun hHeld => ?_)
      clear hK K
      try simp only [Act.put, List.getElem_toArray, List.getElem_cons_zero, List.getElem_cons_succ, List.setIfInBounds_toArray, List.set_cons_zero, List.set_cons_succ]
      refine wpAnyH_take (i := 11) (v := ?v11) rfl (by kernel_rfl) (by kernel_rfl) (by kernel_rfl) (fun _ _ _ h => h) (Or.inl ⟨by rfl, ?hy11⟩) (by assumption) ?rest11
      case hy11 => (intro w hSw; (try dsimp only at hSw); go_simp <;> with_reducible rfl)
      try simp only [Act.put, List.getElem_toArray, List.getElem_cons_zero, List.getElem_cons_succ, List.setIfInBounds_toArray, List.set_cons_zero, List.set_cons_succ]
      refine wpAnyH_done (by kernel_rfl) ?_ _
      clear S1
      go_wp2
      go_roundw
      case rel => exact ⟨k + 1, by omega, by first | (go_num; done) | exact congrArg (Value.int IntKind.i64) (by omega), T1.out⟩
      case measure => first | exact meas_up _ _ _ hj1 hlt | exact meas_up _ _ _ rfl hlt | (simp [intOf]; omega)
    · obtain rfl : k = items.length := by omega
      go_wp2
      go_ret
      exact ⟨rfl, bt HW.out T1.out⟩
end Go.Proofs.YtlneomgjjkfnoabGreat
