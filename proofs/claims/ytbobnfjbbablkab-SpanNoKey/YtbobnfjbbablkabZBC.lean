import Derived.Test.YtbobnfjbbablkabZBB
namespace Go.Proofs.Ytbobnfjbbablkab
open Go.RowKit

theorem has_least {r : Rg} (hr : r.b8) {x : List Nat} (hx : B8 x) (h : has r x = true) : has r (least r.lo) = true := by
  have hk : KK x := ⟨has_key h, hx⟩
  cases hf : form r with
  | none => rw [form_none hr hf hk] at h; cases h
  | some f => rw [← form_isSome, hf]; rfl
theorem has_same {r s : Rg} (hr : r.b8) (hs : s.b8) (e : form r = form s) {x : List Nat} (hx : B8 x) : has r x = has s x := by
  by_cases hk : isK x = true
  · have hK : KK x := ⟨hk, hx⟩
    cases hf : form r with
    | none => rw [form_none hr hf hK, form_none hs (e ▸ hf) hK]
    | some f =>
      have h1 := (form_some hr hf).2 x hK
      have h2 := (form_some hs (e ▸ hf)).2 x hK
      rw [Bool.eq_iff_iff, h1, h2]
  · have e1 : ∀ t : Rg, has t x = false := fun t => by
      cases h : has t x with
      | false => rfl
      | true => exact absurd (has_key h) hk
    rw [e1, e1]
set_option linter.unusedSimpArgs false in
set_option maxRecDepth 100000 in
set_option maxHeartbeats 12800000 in
theorem spanNoKey_a (w : World) (r : Rv) (hR : Ri w r) (_ : Rb' r) (s : Rv) (hS : Ri w s) (_ : Rb' s) (ax : Option Addr) (cx : Nat) (x : List Nat) (hX : Bs w ax x) (_ : x.length + 64 ≤ 140737488355328) (_ : x.length ≤ cx) (hlo1 : r.lo.length < 1) :
    Calls Try.prog 4 #[.agg r.cs, .agg s.cs, .slice ax x.length cx] w fun e w' => e = .returned (.bool true) ∧ Below w.heap.size w w' := by
  have FX := hide fixed_any
  have M1 := hide fun w1 (hb : Below w.heap.size w w1) => Empty_any w1 r (hR.keep hb)
  have Q1 := hide fun w1 (hb : Below w.heap.size w w1) => Equal_any w1 r s (hR.keep hb) (hS.keep hb)
  have HX := hide fun w1 (hb : Below w.heap.size w w1) => Has_any w1 r ax x.length cx x (hR.keep hb) (hX.keep hb) rfl
  have HY := hide fun w1 (hb : Below w.heap.size w w1) => Has_any w1 s ax x.length cx x (hS.keep hb) (hX.keep hb) rfl
  have HL := hide fun w1 (hb : Below w.heap.size w w1) a c (hk : Bs w1 a (least r.lo)) => Has_any w1 r a (least r.lo).length c (least r.lo) (hR.keep hb) hk rfl
  have NX := hide fun w1 (hb : Below w.heap.size w w1) => Next_any w1 r.aL r.lo.length r.cL r.lo (hR.bl.keep hb) rfl hR.cl
  have HLO := hide fun w1 (hb : Below w.heap.size w w1) => hR.bl.keep hb
  have N8 := hide (least_b8 hR.bl.1)
  have P1 : has r.rg x = true → has r.rg (least r.lo) = true := has_least hR.b8 (B8_of hX)
  have P2 := fun e => has_same hR.b8 hS.b8 e (B8_of hX)
  have hpn : ∀ p : Bool, ((!p) == p) = false := fun p => by cases p <;> rfl
  clear hR hS hX
  unfold Rv.val at *
  have q1 : (r.lo.length : Int) < 1 := by omega
  have e : least r.lo = next r.lo := least_no (by unfold isK; rw [decide_eq_false (by omega)]; rfl)
  rw [← e] at NX
  clear e hlo1
  cases hq : has r.rg x with
  | false =>
    have hpp := hpn (has r.rg (least r.lo))
    rw [hq] at HX
    by_cases hE : form r.rg = form s.rg
    · have hy := (P2 hE).symm.trans hq
      rw [decide_eq_true hE] at Q1
      rw [hy] at HY
      clear hE hy hq P1 P2 hpn
      generalize has r.rg (least r.lo) = p at *
      unfold Rv.cs at *
      go_enter Try.func4, Try.ntmps4
      go_wp2_with fail
      refine (FX.out _).mono ?_
      rintro e w1 ⟨rfl, hb⟩
      obtain ⟨m0, m1, hb1, hs1⟩ := two_blocks _ _ _ hb
      have S1 := And.intro (row3_cells m0) (row3_cells m1)
      have T1 := hide hb1
      clear hb hb1 m0 m1 hs1
      obtain ⟨⟨k0, k1, k2⟩, j0, j1, j2⟩ := S1
      go_wp2_with fail
      refine (NX.out _ T1.out).mono ?_
      rintro e w2 ⟨a2, d2, rfl, o2⟩
      have S1 := s6_keep (And.intro (And.intro k0 (And.intro k1 k2)) (And.intro j0 (And.intro j1 j2))) o2.b
      have T1 := hide (bt T1.out o2.b)
      have KB := hide fun w3 (hb : Below w2.heap.size w2 w3) => (o2.bs N8.out).keep hb
      clear o2 k0 k1 k2 j0 j1 j2
      go_wp2
      have S1 := s6_keep S1 (drew1 _)
      have T1 := hide (bt T1.out (drew1 _))
      have D1 := hide (drew1 w2)
      go_region_held3 (fun w' => (w'.cell? ⟨w.heap.size, 0, none⟩ = some (.slice r.aL r.lo.length r.cL) ∧ w'.cell? ⟨w.heap.size, 1, none⟩ = some (.slice r.aH r.hi.length r.cH) ∧ w'.cell? ⟨w.heap.size, 2, none⟩ = some (.bool r.op)) ∧ w'.cell? ⟨w.heap.size + 1, 0, none⟩ = some (.slice s.aL s.lo.length s.cL) ∧ w'.cell? ⟨w.heap.size + 1, 1, none⟩ = some (.slice s.aH s.hi.length s.cH) ∧ w'.cell? ⟨w.heap.size + 1, 2, none⟩ = some (.bool s.op))
        (with_reducible exact S1)
        (first | (go_at_call 7; with_reducible refine (M1.out _ T1.out).mono ?_; rintro e w9 ⟨rfl, hb⟩; have S1 := s6_keep S1 hb; have D1 := hide (bt D1.out hb); have T1 := hide (bt T1.out hb); clear hb) | (go_at_call 12; refine (HL.out _ T1.out _ _ (KB.out _ D1.out)).mono ?_; rintro e w9 ⟨rfl, hb⟩; have S1 := s6_keep S1 hb; have D1 := hide (bt D1.out hb); have T1 := hide (bt T1.out hb); clear hb))
      obtain ⟨⟨k0, k1, k2⟩, j0, j1, j2⟩ := S1
      go_wp2_with fail
      refine (HX.out _ T1.out).mono ?_
      rintro e w4 ⟨rfl, hb⟩
      have S1 := s6_keep (And.intro (And.intro k0 (And.intro k1 k2)) (And.intro j0 (And.intro j1 j2))) hb
      have T1 := hide (bt T1.out hb)
      clear hb k0 k1 k2 j0 j1 j2
      go_wp2
      have S1 := s6_keep S1 (drew1 _)
      have T1 := hide (bt T1.out (drew1 _))
      go_region_held3 (fun w' => (w'.cell? ⟨w.heap.size, 0, none⟩ = some (.slice r.aL r.lo.length r.cL) ∧ w'.cell? ⟨w.heap.size, 1, none⟩ = some (.slice r.aH r.hi.length r.cH) ∧ w'.cell? ⟨w.heap.size, 2, none⟩ = some (.bool r.op)) ∧ w'.cell? ⟨w.heap.size + 1, 0, none⟩ = some (.slice s.aL s.lo.length s.cL) ∧ w'.cell? ⟨w.heap.size + 1, 1, none⟩ = some (.slice s.aH s.hi.length s.cH) ∧ w'.cell? ⟨w.heap.size + 1, 2, none⟩ = some (.bool s.op))
        (with_reducible exact S1)
        (first | (go_at_call 9; with_reducible refine (Q1.out _ T1.out).mono ?_; rintro e w9 ⟨rfl, hb⟩; have S1 := s6_keep S1 hb; have T1 := hide (bt T1.out hb); clear hb) | (go_at_call 12; with_reducible refine (HX.out _ T1.out).mono ?_; rintro e w9 ⟨rfl, hb⟩; have S1 := s6_keep S1 hb; have T1 := hide (bt T1.out hb); clear hb) | (go_at_call 12; with_reducible refine (HY.out _ T1.out).mono ?_; rintro e w9 ⟨rfl, hb⟩; have S1 := s6_keep S1 hb; have T1 := hide (bt T1.out hb); clear hb))
      clear S1
      go_wp2
      go_ret
      exact ⟨by simp, T1.out⟩
    · rw [decide_eq_false hE] at Q1
      clear hE hq P1 P2 hpn
      generalize has r.rg (least r.lo) = p at *
      generalize has s.rg x = q at *
      unfold Rv.cs at *
      go_enter Try.func4, Try.ntmps4
      go_wp2_with fail
      refine (FX.out _).mono ?_
      rintro e w1 ⟨rfl, hb⟩
      obtain ⟨m0, m1, hb1, hs1⟩ := two_blocks _ _ _ hb
      have S1 := And.intro (row3_cells m0) (row3_cells m1)
      have T1 := hide hb1
      clear hb hb1 m0 m1 hs1
      obtain ⟨⟨k0, k1, k2⟩, j0, j1, j2⟩ := S1
      go_wp2_with fail
      refine (NX.out _ T1.out).mono ?_
      rintro e w2 ⟨a2, d2, rfl, o2⟩
      have S1 := s6_keep (And.intro (And.intro k0 (And.intro k1 k2)) (And.intro j0 (And.intro j1 j2))) o2.b
      have T1 := hide (bt T1.out o2.b)
      have KB := hide fun w3 (hb : Below w2.heap.size w2 w3) => (o2.bs N8.out).keep hb
      clear o2 k0 k1 k2 j0 j1 j2
      go_wp2
      have S1 := s6_keep S1 (drew1 _)
      have T1 := hide (bt T1.out (drew1 _))
      have D1 := hide (drew1 w2)
      go_region_held3 (fun w' => (w'.cell? ⟨w.heap.size, 0, none⟩ = some (.slice r.aL r.lo.length r.cL) ∧ w'.cell? ⟨w.heap.size, 1, none⟩ = some (.slice r.aH r.hi.length r.cH) ∧ w'.cell? ⟨w.heap.size, 2, none⟩ = some (.bool r.op)) ∧ w'.cell? ⟨w.heap.size + 1, 0, none⟩ = some (.slice s.aL s.lo.length s.cL) ∧ w'.cell? ⟨w.heap.size + 1, 1, none⟩ = some (.slice s.aH s.hi.length s.cH) ∧ w'.cell? ⟨w.heap.size + 1, 2, none⟩ = some (.bool s.op))
        (with_reducible exact S1)
        (first | (go_at_call 7; with_reducible refine (M1.out _ T1.out).mono ?_; rintro e w9 ⟨rfl, hb⟩; have S1 := s6_keep S1 hb; have D1 := hide (bt D1.out hb); have T1 := hide (bt T1.out hb); clear hb) | (go_at_call 12; refine (HL.out _ T1.out _ _ (KB.out _ D1.out)).mono ?_; rintro e w9 ⟨rfl, hb⟩; have S1 := s6_keep S1 hb; have D1 := hide (bt D1.out hb); have T1 := hide (bt T1.out hb); clear hb))
      obtain ⟨⟨k0, k1, k2⟩, j0, j1, j2⟩ := S1
      go_wp2_with fail
      refine (HX.out _ T1.out).mono ?_
      rintro e w4 ⟨rfl, hb⟩
      have S1 := s6_keep (And.intro (And.intro k0 (And.intro k1 k2)) (And.intro j0 (And.intro j1 j2))) hb
      have T1 := hide (bt T1.out hb)
      clear hb k0 k1 k2 j0 j1 j2
      go_wp2
      have S1 := s6_keep S1 (drew1 _)
      have T1 := hide (bt T1.out (drew1 _))
      refine wp_region_held_drew (S := fun w' => (w'.cell? ⟨w.heap.size, 0, none⟩ = some (.slice r.aL r.lo.length r.cL) ∧ w'.cell? ⟨w.heap.size, 1, none⟩ = some (.slice r.aH r.hi.length r.cH) ∧ w'.cell? ⟨w.heap.size, 2, none⟩ = some (.bool r.op)) ∧ w'.cell? ⟨w.heap.size + 1, 0, none⟩ = some (.slice s.aL s.lo.length s.cL) ∧ w'.cell? ⟨w.heap.size + 1, 1, none⟩ = some (.slice s.aH s.hi.length s.cH) ∧ w'.cell? ⟨w.heap.size + 1, 2, none⟩ = some (.bool s.op)) (by kernel_rfl) (by exact S1) (fun hHeld => ?_)
      refine wpAnyH_take (i := 0) (v := ?v1) rfl (by kernel_rfl) (by kernel_rfl) (by kernel_rfl) (fun _ _ _ h => h) (Or.inl ⟨by rfl, ?hy1⟩) (by assumption) ?rest1
      case hy1 => (intro w hSw; (try dsimp only at hSw); go_simp <;> with_reducible rfl)
      try simp only [Act.put, List.getElem_toArray, List.getElem_cons_zero, List.getElem_cons_succ, List.setIfInBounds_toArray, List.set_cons_zero, List.set_cons_succ]
      refine wpAnyH_take (i := 1) (v := ?v2) rfl (by kernel_rfl) (by kernel_rfl) (by kernel_rfl) (fun _ _ _ h => h) (Or.inl ⟨by rfl, ?hy2⟩) (by assumption) ?rest2
      case hy2 => (intro w hSw; (try dsimp only at hSw); go_simp <;> with_reducible rfl)
      try simp only [Act.put, List.getElem_toArray, List.getElem_cons_zero, List.getElem_cons_succ, List.setIfInBounds_toArray, List.set_cons_zero, List.set_cons_succ]
      refine wpAnyH_ready (rs := [2]) (by kernel_rfl) (by simp) ?_
      refine AllReadyH.cons rfl (fun K hK => ?_) AllReadyH.nil
      go_simp
      refine (Q1.out _ T1.out).mono ?_
      rintro e w9 ⟨rfl, hb⟩
      have S1 := s6_keep S1 hb
      have T1 := hide (bt T1.out hb)
      clear hb
      go_wp2_with fail
      refine hK.out _ _ (by exact S1) (fun hHeld => ?_)
      clear hK K
      try simp only [Act.put, List.getElem_toArray, List.getElem_cons_zero, List.getElem_cons_succ, List.setIfInBounds_toArray, List.set_cons_zero, List.set_cons_succ]
      refine wpAnyH_take (i := 3) (v := ?v3) rfl (by kernel_rfl) (by kernel_rfl) (by kernel_rfl) (fun _ _ _ h => h) (Or.inl ⟨by rfl, ?hy3⟩) (by assumption) ?rest3
      case hy3 => (intro w hSw; (try dsimp only at hSw); go_simp <;> with_reducible rfl)
      try simp only [Act.put, List.getElem_toArray, List.getElem_cons_zero, List.getElem_cons_succ, List.setIfInBounds_toArray, List.set_cons_zero, List.set_cons_succ]
      refine wpAnyH_take (i := 4) (v := ?v4) rfl (by kernel_rfl) (by kernel_rfl) (by kernel_rfl) (fun _ _ _ h => h) (Or.inl ⟨by rfl, ?hy4⟩) (by assumption) ?rest4
      case hy4 => (intro w hSw; (try dsimp only at hSw); go_simp <;> with_reducible rfl)
      try simp only [Act.put, List.getElem_toArray, List.getElem_cons_zero, List.getElem_cons_succ, List.setIfInBounds_toArray, List.set_cons_zero, List.set_cons_succ]
      refine wpAnyH_take (i := 5) (v := undef) rfl (by kernel_rfl) (by kernel_rfl) (by kernel_rfl) (fun _ _ _ h => h) (Or.inr ⟨by rfl, rfl⟩) (by assumption) ?_
      try simp only [Act.put, List.getElem_toArray, List.getElem_cons_zero, List.getElem_cons_succ, List.setIfInBounds_toArray, List.set_cons_zero, List.set_cons_succ]
      refine wpAnyH_take (i := 6) (v := undef) rfl (by kernel_rfl) (by kernel_rfl) (by kernel_rfl) (fun _ _ _ h => h) (Or.inr ⟨by rfl, rfl⟩) (by assumption) ?_
      try simp only [Act.put, List.getElem_toArray, List.getElem_cons_zero, List.getElem_cons_succ, List.setIfInBounds_toArray, List.set_cons_zero, List.set_cons_succ]
      refine wpAnyH_take (i := 7) (v := undef) rfl (by kernel_rfl) (by kernel_rfl) (by kernel_rfl) (fun _ _ _ h => h) (Or.inr ⟨by rfl, rfl⟩) (by assumption) ?_
      try simp only [Act.put, List.getElem_toArray, List.getElem_cons_zero, List.getElem_cons_succ, List.setIfInBounds_toArray, List.set_cons_zero, List.set_cons_succ]
      refine wpAnyH_take (i := 8) (v := undef) rfl (by kernel_rfl) (by kernel_rfl) (by kernel_rfl) (fun _ _ _ h => h) (Or.inr ⟨by rfl, rfl⟩) (by assumption) ?_
      try simp only [Act.put, List.getElem_toArray, List.getElem_cons_zero, List.getElem_cons_succ, List.setIfInBounds_toArray, List.set_cons_zero, List.set_cons_succ]
      refine wpAnyH_take (i := 9) (v := undef) rfl (by kernel_rfl) (by kernel_rfl) (by kernel_rfl) (fun _ _ _ h => h) (Or.inr ⟨by rfl, rfl⟩) (by assumption) ?_
      try simp only [Act.put, List.getElem_toArray, List.getElem_cons_zero, List.getElem_cons_succ, List.setIfInBounds_toArray, List.set_cons_zero, List.set_cons_succ]
      refine wpAnyH_take (i := 10) (v := undef) rfl (by kernel_rfl) (by kernel_rfl) (by kernel_rfl) (fun _ _ _ h => h) (Or.inr ⟨by rfl, rfl⟩) (by assumption) ?_
      try simp only [Act.put, List.getElem_toArray, List.getElem_cons_zero, List.getElem_cons_succ, List.setIfInBounds_toArray, List.set_cons_zero, List.set_cons_succ]
      refine wpAnyH_take (i := 11) (v := undef) rfl (by kernel_rfl) (by kernel_rfl) (by kernel_rfl) (fun _ _ _ h => h) (Or.inr ⟨by rfl, rfl⟩) (by assumption) ?_
      try simp only [Act.put, List.getElem_toArray, List.getElem_cons_zero, List.getElem_cons_succ, List.setIfInBounds_toArray, List.set_cons_zero, List.set_cons_succ]
      refine wpAnyH_take (i := 12) (v := ?v5) rfl (by kernel_rfl) (by kernel_rfl) (by kernel_rfl) (fun _ _ _ h => h) (Or.inl ⟨by rfl, ?hy5⟩) (by assumption) ?rest5
      case hy5 => (intro w hSw; (try dsimp only at hSw); go_simp <;> with_reducible rfl)
      try simp only [Act.put, List.getElem_toArray, List.getElem_cons_zero, List.getElem_cons_succ, List.setIfInBounds_toArray, List.set_cons_zero, List.set_cons_succ]
      refine wpAnyH_take (i := 13) (v := ?v6) rfl (by kernel_rfl) (by kernel_rfl) (by kernel_rfl) (fun _ _ _ h => h) (Or.inl ⟨by rfl, ?hy6⟩) (by assumption) ?rest6
      case hy6 => (intro w hSw; (try dsimp only at hSw); go_simp <;> with_reducible rfl)
      try simp only [Act.put, List.getElem_toArray, List.getElem_cons_zero, List.getElem_cons_succ, List.setIfInBounds_toArray, List.set_cons_zero, List.set_cons_succ]
      refine wpAnyH_done (by kernel_rfl) ?_ _
      clear S1
      go_wp2
      go_ret
      exact ⟨by simp, T1.out⟩
  | true =>
    have hp := P1 hq
    rw [hq] at HX
    rw [show has r.rg (least r.lo) = true from hp] at HL M1
    by_cases hE : form r.rg = form s.rg
    · have hy := (P2 hE).symm.trans hq
      rw [decide_eq_true hE] at Q1
      rw [hy] at HY
      clear hE hy hq P1 P2 hpn hp
      unfold Rv.cs at *
      go_enter Try.func4, Try.ntmps4
      go_wp2_with fail
      refine (FX.out _).mono ?_
      rintro e w1 ⟨rfl, hb⟩
      obtain ⟨m0, m1, hb1, hs1⟩ := two_blocks _ _ _ hb
      have S1 := And.intro (row3_cells m0) (row3_cells m1)
      have T1 := hide hb1
      clear hb hb1 m0 m1 hs1
      obtain ⟨⟨k0, k1, k2⟩, j0, j1, j2⟩ := S1
      go_wp2_with fail
      refine (NX.out _ T1.out).mono ?_
      rintro e w2 ⟨a2, d2, rfl, o2⟩
      have S1 := s6_keep (And.intro (And.intro k0 (And.intro k1 k2)) (And.intro j0 (And.intro j1 j2))) o2.b
      have T1 := hide (bt T1.out o2.b)
      have KB := hide fun w3 (hb : Below w2.heap.size w2 w3) => (o2.bs N8.out).keep hb
      clear o2 k0 k1 k2 j0 j1 j2
      go_wp2
      have S1 := s6_keep S1 (drew1 _)
      have T1 := hide (bt T1.out (drew1 _))
      have D1 := hide (drew1 w2)
      go_region_held3 (fun w' => (w'.cell? ⟨w.heap.size, 0, none⟩ = some (.slice r.aL r.lo.length r.cL) ∧ w'.cell? ⟨w.heap.size, 1, none⟩ = some (.slice r.aH r.hi.length r.cH) ∧ w'.cell? ⟨w.heap.size, 2, none⟩ = some (.bool r.op)) ∧ w'.cell? ⟨w.heap.size + 1, 0, none⟩ = some (.slice s.aL s.lo.length s.cL) ∧ w'.cell? ⟨w.heap.size + 1, 1, none⟩ = some (.slice s.aH s.hi.length s.cH) ∧ w'.cell? ⟨w.heap.size + 1, 2, none⟩ = some (.bool s.op))
        (with_reducible exact S1)
        (first | (go_at_call 7; with_reducible refine (M1.out _ T1.out).mono ?_; rintro e w9 ⟨rfl, hb⟩; have S1 := s6_keep S1 hb; have D1 := hide (bt D1.out hb); have T1 := hide (bt T1.out hb); clear hb) | (go_at_call 12; refine (HL.out _ T1.out _ _ (KB.out _ D1.out)).mono ?_; rintro e w9 ⟨rfl, hb⟩; have S1 := s6_keep S1 hb; have D1 := hide (bt D1.out hb); have T1 := hide (bt T1.out hb); clear hb))
      obtain ⟨⟨k0, k1, k2⟩, j0, j1, j2⟩ := S1
      go_wp2_with fail
      refine (HX.out _ T1.out).mono ?_
      rintro e w4 ⟨rfl, hb⟩
      have S1 := s6_keep (And.intro (And.intro k0 (And.intro k1 k2)) (And.intro j0 (And.intro j1 j2))) hb
      have T1 := hide (bt T1.out hb)
      clear hb k0 k1 k2 j0 j1 j2
      obtain ⟨⟨k0, k1, k2⟩, j0, j1, j2⟩ := S1
      go_wp2_with fail
      refine (M1.out _ T1.out).mono ?_
      rintro e w5 ⟨rfl, hb⟩
      have S1 := s6_keep (And.intro (And.intro k0 (And.intro k1 k2)) (And.intro j0 (And.intro j1 j2))) hb
      have T1 := hide (bt T1.out hb)
      clear hb k0 k1 k2 j0 j1 j2
      go_wp2
      have S1 := s6_keep S1 (drew1 _)
      have T1 := hide (bt T1.out (drew1 _))
      go_region_held3 (fun w' => (w'.cell? ⟨w.heap.size, 0, none⟩ = some (.slice r.aL r.lo.length r.cL) ∧ w'.cell? ⟨w.heap.size, 1, none⟩ = some (.slice r.aH r.hi.length r.cH) ∧ w'.cell? ⟨w.heap.size, 2, none⟩ = some (.bool r.op)) ∧ w'.cell? ⟨w.heap.size + 1, 0, none⟩ = some (.slice s.aL s.lo.length s.cL) ∧ w'.cell? ⟨w.heap.size + 1, 1, none⟩ = some (.slice s.aH s.hi.length s.cH) ∧ w'.cell? ⟨w.heap.size + 1, 2, none⟩ = some (.bool s.op))
        (with_reducible exact S1)
        (first | (go_at_call 9; with_reducible refine (Q1.out _ T1.out).mono ?_; rintro e w9 ⟨rfl, hb⟩; have S1 := s6_keep S1 hb; have T1 := hide (bt T1.out hb); clear hb) | (go_at_call 12; with_reducible refine (HX.out _ T1.out).mono ?_; rintro e w9 ⟨rfl, hb⟩; have S1 := s6_keep S1 hb; have T1 := hide (bt T1.out hb); clear hb) | (go_at_call 12; with_reducible refine (HY.out _ T1.out).mono ?_; rintro e w9 ⟨rfl, hb⟩; have S1 := s6_keep S1 hb; have T1 := hide (bt T1.out hb); clear hb))
      clear S1
      go_wp2
      go_ret
      exact ⟨by simp, T1.out⟩
    · rw [decide_eq_false hE] at Q1
      clear hE hq P1 P2 hpn hp
      generalize has s.rg x = q at *
      unfold Rv.cs at *
      go_enter Try.func4, Try.ntmps4
      go_wp2_with fail
      refine (FX.out _).mono ?_
      rintro e w1 ⟨rfl, hb⟩
      obtain ⟨m0, m1, hb1, hs1⟩ := two_blocks _ _ _ hb
      have S1 := And.intro (row3_cells m0) (row3_cells m1)
      have T1 := hide hb1
      clear hb hb1 m0 m1 hs1
      obtain ⟨⟨k0, k1, k2⟩, j0, j1, j2⟩ := S1
      go_wp2_with fail
      refine (NX.out _ T1.out).mono ?_
      rintro e w2 ⟨a2, d2, rfl, o2⟩
      have S1 := s6_keep (And.intro (And.intro k0 (And.intro k1 k2)) (And.intro j0 (And.intro j1 j2))) o2.b
      have T1 := hide (bt T1.out o2.b)
      have KB := hide fun w3 (hb : Below w2.heap.size w2 w3) => (o2.bs N8.out).keep hb
      clear o2 k0 k1 k2 j0 j1 j2
      go_wp2
      have S1 := s6_keep S1 (drew1 _)
      have T1 := hide (bt T1.out (drew1 _))
      have D1 := hide (drew1 w2)
      go_region_held3 (fun w' => (w'.cell? ⟨w.heap.size, 0, none⟩ = some (.slice r.aL r.lo.length r.cL) ∧ w'.cell? ⟨w.heap.size, 1, none⟩ = some (.slice r.aH r.hi.length r.cH) ∧ w'.cell? ⟨w.heap.size, 2, none⟩ = some (.bool r.op)) ∧ w'.cell? ⟨w.heap.size + 1, 0, none⟩ = some (.slice s.aL s.lo.length s.cL) ∧ w'.cell? ⟨w.heap.size + 1, 1, none⟩ = some (.slice s.aH s.hi.length s.cH) ∧ w'.cell? ⟨w.heap.size + 1, 2, none⟩ = some (.bool s.op))
        (with_reducible exact S1)
        (first | (go_at_call 7; with_reducible refine (M1.out _ T1.out).mono ?_; rintro e w9 ⟨rfl, hb⟩; have S1 := s6_keep S1 hb; have D1 := hide (bt D1.out hb); have T1 := hide (bt T1.out hb); clear hb) | (go_at_call 12; refine (HL.out _ T1.out _ _ (KB.out _ D1.out)).mono ?_; rintro e w9 ⟨rfl, hb⟩; have S1 := s6_keep S1 hb; have D1 := hide (bt D1.out hb); have T1 := hide (bt T1.out hb); clear hb))
      obtain ⟨⟨k0, k1, k2⟩, j0, j1, j2⟩ := S1
      go_wp2_with fail
      refine (HX.out _ T1.out).mono ?_
      rintro e w4 ⟨rfl, hb⟩
      have S1 := s6_keep (And.intro (And.intro k0 (And.intro k1 k2)) (And.intro j0 (And.intro j1 j2))) hb
      have T1 := hide (bt T1.out hb)
      clear hb k0 k1 k2 j0 j1 j2
      obtain ⟨⟨k0, k1, k2⟩, j0, j1, j2⟩ := S1
      go_wp2_with fail
      refine (M1.out _ T1.out).mono ?_
      rintro e w5 ⟨rfl, hb⟩
      have S1 := s6_keep (And.intro (And.intro k0 (And.intro k1 k2)) (And.intro j0 (And.intro j1 j2))) hb
      have T1 := hide (bt T1.out hb)
      clear hb k0 k1 k2 j0 j1 j2
      go_wp2
      have S1 := s6_keep S1 (drew1 _)
      have T1 := hide (bt T1.out (drew1 _))
      refine wp_region_held_drew (S := fun w' => (w'.cell? ⟨w.heap.size, 0, none⟩ = some (.slice r.aL r.lo.length r.cL) ∧ w'.cell? ⟨w.heap.size, 1, none⟩ = some (.slice r.aH r.hi.length r.cH) ∧ w'.cell? ⟨w.heap.size, 2, none⟩ = some (.bool r.op)) ∧ w'.cell? ⟨w.heap.size + 1, 0, none⟩ = some (.slice s.aL s.lo.length s.cL) ∧ w'.cell? ⟨w.heap.size + 1, 1, none⟩ = some (.slice s.aH s.hi.length s.cH) ∧ w'.cell? ⟨w.heap.size + 1, 2, none⟩ = some (.bool s.op)) (by kernel_rfl) (by exact S1) (fun hHeld => ?_)
      refine wpAnyH_take (i := 0) (v := ?v7) rfl (by kernel_rfl) (by kernel_rfl) (by kernel_rfl) (fun _ _ _ h => h) (Or.inl ⟨by rfl, ?hy7⟩) (by assumption) ?rest7
      case hy7 => (intro w hSw; (try dsimp only at hSw); go_simp <;> with_reducible rfl)
      try simp only [Act.put, List.getElem_toArray, List.getElem_cons_zero, List.getElem_cons_succ, List.setIfInBounds_toArray, List.set_cons_zero, List.set_cons_succ]
      refine wpAnyH_take (i := 1) (v := ?v8) rfl (by kernel_rfl) (by kernel_rfl) (by kernel_rfl) (fun _ _ _ h => h) (Or.inl ⟨by rfl, ?hy8⟩) (by assumption) ?rest8
      case hy8 => (intro w hSw; (try dsimp only at hSw); go_simp <;> with_reducible rfl)
      try simp only [Act.put, List.getElem_toArray, List.getElem_cons_zero, List.getElem_cons_succ, List.setIfInBounds_toArray, List.set_cons_zero, List.set_cons_succ]
      refine wpAnyH_ready (rs := [2]) (by kernel_rfl) (by simp) ?_
      refine AllReadyH.cons rfl (fun K hK => ?_) AllReadyH.nil
      go_simp
      refine (Q1.out _ T1.out).mono ?_
      rintro e w9 ⟨rfl, hb⟩
      have S1 := s6_keep S1 hb
      have T1 := hide (bt T1.out hb)
      clear hb
      go_wp2_with fail
      refine hK.out _ _ (by exact S1) (fun hHeld => ?_)
      clear hK K
      try simp only [Act.put, List.getElem_toArray, List.getElem_cons_zero, List.getElem_cons_succ, List.setIfInBounds_toArray, List.set_cons_zero, List.set_cons_succ]
      refine wpAnyH_take (i := 3) (v := ?v9) rfl (by kernel_rfl) (by kernel_rfl) (by kernel_rfl) (fun _ _ _ h => h) (Or.inl ⟨by rfl, ?hy9⟩) (by assumption) ?rest9
      case hy9 => (intro w hSw; (try dsimp only at hSw); go_simp <;> with_reducible rfl)
      try simp only [Act.put, List.getElem_toArray, List.getElem_cons_zero, List.getElem_cons_succ, List.setIfInBounds_toArray, List.set_cons_zero, List.set_cons_succ]
      refine wpAnyH_take (i := 4) (v := ?v10) rfl (by kernel_rfl) (by kernel_rfl) (by kernel_rfl) (fun _ _ _ h => h) (Or.inl ⟨by rfl, ?hy10⟩) (by assumption) ?rest10
      case hy10 => (intro w hSw; (try dsimp only at hSw); go_simp <;> with_reducible rfl)
      try simp only [Act.put, List.getElem_toArray, List.getElem_cons_zero, List.getElem_cons_succ, List.setIfInBounds_toArray, List.set_cons_zero, List.set_cons_succ]
      refine wpAnyH_take (i := 5) (v := undef) rfl (by kernel_rfl) (by kernel_rfl) (by kernel_rfl) (fun _ _ _ h => h) (Or.inr ⟨by rfl, rfl⟩) (by assumption) ?_
      try simp only [Act.put, List.getElem_toArray, List.getElem_cons_zero, List.getElem_cons_succ, List.setIfInBounds_toArray, List.set_cons_zero, List.set_cons_succ]
      refine wpAnyH_take (i := 6) (v := undef) rfl (by kernel_rfl) (by kernel_rfl) (by kernel_rfl) (fun _ _ _ h => h) (Or.inr ⟨by rfl, rfl⟩) (by assumption) ?_
      try simp only [Act.put, List.getElem_toArray, List.getElem_cons_zero, List.getElem_cons_succ, List.setIfInBounds_toArray, List.set_cons_zero, List.set_cons_succ]
      refine wpAnyH_take (i := 7) (v := undef) rfl (by kernel_rfl) (by kernel_rfl) (by kernel_rfl) (fun _ _ _ h => h) (Or.inr ⟨by rfl, rfl⟩) (by assumption) ?_
      try simp only [Act.put, List.getElem_toArray, List.getElem_cons_zero, List.getElem_cons_succ, List.setIfInBounds_toArray, List.set_cons_zero, List.set_cons_succ]
      refine wpAnyH_take (i := 8) (v := undef) rfl (by kernel_rfl) (by kernel_rfl) (by kernel_rfl) (fun _ _ _ h => h) (Or.inr ⟨by rfl, rfl⟩) (by assumption) ?_
      try simp only [Act.put, List.getElem_toArray, List.getElem_cons_zero, List.getElem_cons_succ, List.setIfInBounds_toArray, List.set_cons_zero, List.set_cons_succ]
      refine wpAnyH_take (i := 9) (v := undef) rfl (by kernel_rfl) (by kernel_rfl) (by kernel_rfl) (fun _ _ _ h => h) (Or.inr ⟨by rfl, rfl⟩) (by assumption) ?_
      try simp only [Act.put, List.getElem_toArray, List.getElem_cons_zero, List.getElem_cons_succ, List.setIfInBounds_toArray, List.set_cons_zero, List.set_cons_succ]
      refine wpAnyH_take (i := 10) (v := undef) rfl (by kernel_rfl) (by kernel_rfl) (by kernel_rfl) (fun _ _ _ h => h) (Or.inr ⟨by rfl, rfl⟩) (by assumption) ?_
      try simp only [Act.put, List.getElem_toArray, List.getElem_cons_zero, List.getElem_cons_succ, List.setIfInBounds_toArray, List.set_cons_zero, List.set_cons_succ]
      refine wpAnyH_take (i := 11) (v := undef) rfl (by kernel_rfl) (by kernel_rfl) (by kernel_rfl) (fun _ _ _ h => h) (Or.inr ⟨by rfl, rfl⟩) (by assumption) ?_
      try simp only [Act.put, List.getElem_toArray, List.getElem_cons_zero, List.getElem_cons_succ, List.setIfInBounds_toArray, List.set_cons_zero, List.set_cons_succ]
      refine wpAnyH_take (i := 12) (v := ?v11) rfl (by kernel_rfl) (by kernel_rfl) (by kernel_rfl) (fun _ _ _ h => h) (Or.inl ⟨by rfl, ?hy11⟩) (by assumption) ?rest11
      case hy11 => (intro w hSw; (try dsimp only at hSw); go_simp <;> with_reducible rfl)
      try simp only [Act.put, List.getElem_toArray, List.getElem_cons_zero, List.getElem_cons_succ, List.setIfInBounds_toArray, List.set_cons_zero, List.set_cons_succ]
      refine wpAnyH_take (i := 13) (v := ?v12) rfl (by kernel_rfl) (by kernel_rfl) (by kernel_rfl) (fun _ _ _ h => h) (Or.inl ⟨by rfl, ?hy12⟩) (by assumption) ?rest12
      case hy12 => (intro w hSw; (try dsimp only at hSw); go_simp <;> with_reducible rfl)
      try simp only [Act.put, List.getElem_toArray, List.getElem_cons_zero, List.getElem_cons_succ, List.setIfInBounds_toArray, List.set_cons_zero, List.set_cons_succ]
      refine wpAnyH_done (by kernel_rfl) ?_ _
      clear S1
      go_wp2
      go_ret
      exact ⟨by simp, T1.out⟩
set_option linter.unusedSimpArgs false in
set_option maxRecDepth 100000 in
set_option maxHeartbeats 12800000 in
theorem spanNoKey_b (w : World) (r : Rv) (hR : Ri w r) (_ : Rb' r) (s : Rv) (hS : Ri w s) (_ : Rb' s) (ax : Option Addr) (cx : Nat) (x : List Nat) (hX : Bs w ax x) (_ : x.length + 64 ≤ 140737488355328) (_ : x.length ≤ cx) (_ : ¬ r.lo.length < 1) (hlo2 : 24 < r.lo.length) :
    Calls Try.prog 4 #[.agg r.cs, .agg s.cs, .slice ax x.length cx] w fun e w' => e = .returned (.bool true) ∧ Below w.heap.size w w' := by
  have FX := hide fixed_any
  have M1 := hide fun w1 (hb : Below w.heap.size w w1) => Empty_any w1 r (hR.keep hb)
  have Q1 := hide fun w1 (hb : Below w.heap.size w w1) => Equal_any w1 r s (hR.keep hb) (hS.keep hb)
  have HX := hide fun w1 (hb : Below w.heap.size w w1) => Has_any w1 r ax x.length cx x (hR.keep hb) (hX.keep hb) rfl
  have HY := hide fun w1 (hb : Below w.heap.size w w1) => Has_any w1 s ax x.length cx x (hS.keep hb) (hX.keep hb) rfl
  have HL := hide fun w1 (hb : Below w.heap.size w w1) a c (hk : Bs w1 a (least r.lo)) => Has_any w1 r a (least r.lo).length c (least r.lo) (hR.keep hb) hk rfl
  have NX := hide fun w1 (hb : Below w.heap.size w w1) => Next_any w1 r.aL r.lo.length r.cL r.lo (hR.bl.keep hb) rfl hR.cl
  have HLO := hide fun w1 (hb : Below w.heap.size w w1) => hR.bl.keep hb
  have N8 := hide (least_b8 hR.bl.1)
  have P1 : has r.rg x = true → has r.rg (least r.lo) = true := has_least hR.b8 (B8_of hX)
  have P2 := fun e => has_same hR.b8 hS.b8 e (B8_of hX)
  have hpn : ∀ p : Bool, ((!p) == p) = false := fun p => by cases p <;> rfl
  clear hR hS hX
  unfold Rv.val at *
  have q1 : ¬ (r.lo.length : Int) < 1 := by omega
  have q2 : (24 : Int) < (r.lo.length : Int) := by omega
  have e : least r.lo = next r.lo := least_no (by unfold isK; rw [decide_eq_false (show ¬ r.lo.length ≤ 24 by omega)]; simp)
  rw [← e] at NX
  clear e hlo2
  cases hq : has r.rg x with
  | false =>
    have hpp := hpn (has r.rg (least r.lo))
    rw [hq] at HX
    by_cases hE : form r.rg = form s.rg
    · have hy := (P2 hE).symm.trans hq
      rw [decide_eq_true hE] at Q1
      rw [hy] at HY
      clear hE hy hq P1 P2 hpn
      generalize has r.rg (least r.lo) = p at *
      unfold Rv.cs at *
      go_enter Try.func4, Try.ntmps4
      go_wp2_with fail
      refine (FX.out _).mono ?_
      rintro e w1 ⟨rfl, hb⟩
      obtain ⟨m0, m1, hb1, hs1⟩ := two_blocks _ _ _ hb
      have S1 := And.intro (row3_cells m0) (row3_cells m1)
      have T1 := hide hb1
      clear hb hb1 m0 m1 hs1
      obtain ⟨⟨k0, k1, k2⟩, j0, j1, j2⟩ := S1
      go_wp2_with fail
      refine (NX.out _ T1.out).mono ?_
      rintro e w2 ⟨a2, d2, rfl, o2⟩
      have S1 := s6_keep (And.intro (And.intro k0 (And.intro k1 k2)) (And.intro j0 (And.intro j1 j2))) o2.b
      have T1 := hide (bt T1.out o2.b)
      have KB := hide fun w3 (hb : Below w2.heap.size w2 w3) => (o2.bs N8.out).keep hb
      clear o2 k0 k1 k2 j0 j1 j2
      go_wp2
      have S1 := s6_keep S1 (drew1 _)
      have T1 := hide (bt T1.out (drew1 _))
      have D1 := hide (drew1 w2)
      go_region_held3 (fun w' => (w'.cell? ⟨w.heap.size, 0, none⟩ = some (.slice r.aL r.lo.length r.cL) ∧ w'.cell? ⟨w.heap.size, 1, none⟩ = some (.slice r.aH r.hi.length r.cH) ∧ w'.cell? ⟨w.heap.size, 2, none⟩ = some (.bool r.op)) ∧ w'.cell? ⟨w.heap.size + 1, 0, none⟩ = some (.slice s.aL s.lo.length s.cL) ∧ w'.cell? ⟨w.heap.size + 1, 1, none⟩ = some (.slice s.aH s.hi.length s.cH) ∧ w'.cell? ⟨w.heap.size + 1, 2, none⟩ = some (.bool s.op))
        (with_reducible exact S1)
        (first | (go_at_call 7; with_reducible refine (M1.out _ T1.out).mono ?_; rintro e w9 ⟨rfl, hb⟩; have S1 := s6_keep S1 hb; have D1 := hide (bt D1.out hb); have T1 := hide (bt T1.out hb); clear hb) | (go_at_call 12; refine (HL.out _ T1.out _ _ (KB.out _ D1.out)).mono ?_; rintro e w9 ⟨rfl, hb⟩; have S1 := s6_keep S1 hb; have D1 := hide (bt D1.out hb); have T1 := hide (bt T1.out hb); clear hb))
      obtain ⟨⟨k0, k1, k2⟩, j0, j1, j2⟩ := S1
      go_wp2_with fail
      refine (HX.out _ T1.out).mono ?_
      rintro e w4 ⟨rfl, hb⟩
      have S1 := s6_keep (And.intro (And.intro k0 (And.intro k1 k2)) (And.intro j0 (And.intro j1 j2))) hb
      have T1 := hide (bt T1.out hb)
      clear hb k0 k1 k2 j0 j1 j2
      go_wp2
      have S1 := s6_keep S1 (drew1 _)
      have T1 := hide (bt T1.out (drew1 _))
      go_region_held3 (fun w' => (w'.cell? ⟨w.heap.size, 0, none⟩ = some (.slice r.aL r.lo.length r.cL) ∧ w'.cell? ⟨w.heap.size, 1, none⟩ = some (.slice r.aH r.hi.length r.cH) ∧ w'.cell? ⟨w.heap.size, 2, none⟩ = some (.bool r.op)) ∧ w'.cell? ⟨w.heap.size + 1, 0, none⟩ = some (.slice s.aL s.lo.length s.cL) ∧ w'.cell? ⟨w.heap.size + 1, 1, none⟩ = some (.slice s.aH s.hi.length s.cH) ∧ w'.cell? ⟨w.heap.size + 1, 2, none⟩ = some (.bool s.op))
        (with_reducible exact S1)
        (first | (go_at_call 9; with_reducible refine (Q1.out _ T1.out).mono ?_; rintro e w9 ⟨rfl, hb⟩; have S1 := s6_keep S1 hb; have T1 := hide (bt T1.out hb); clear hb) | (go_at_call 12; with_reducible refine (HX.out _ T1.out).mono ?_; rintro e w9 ⟨rfl, hb⟩; have S1 := s6_keep S1 hb; have T1 := hide (bt T1.out hb); clear hb) | (go_at_call 12; with_reducible refine (HY.out _ T1.out).mono ?_; rintro e w9 ⟨rfl, hb⟩; have S1 := s6_keep S1 hb; have T1 := hide (bt T1.out hb); clear hb))
      clear S1
      go_wp2
      go_ret
      exact ⟨by simp, T1.out⟩
    · rw [decide_eq_false hE] at Q1
      clear hE hq P1 P2 hpn
      generalize has r.rg (least r.lo) = p at *
      generalize has s.rg x = q at *
      unfold Rv.cs at *
      go_enter Try.func4, Try.ntmps4
      go_wp2_with fail
      refine (FX.out _).mono ?_
      rintro e w1 ⟨rfl, hb⟩
      obtain ⟨m0, m1, hb1, hs1⟩ := two_blocks _ _ _ hb
      have S1 := And.intro (row3_cells m0) (row3_cells m1)
      have T1 := hide hb1
      clear hb hb1 m0 m1 hs1
      obtain ⟨⟨k0, k1, k2⟩, j0, j1, j2⟩ := S1
      go_wp2_with fail
      refine (NX.out _ T1.out).mono ?_
      rintro e w2 ⟨a2, d2, rfl, o2⟩
      have S1 := s6_keep (And.intro (And.intro k0 (And.intro k1 k2)) (And.intro j0 (And.intro j1 j2))) o2.b
      have T1 := hide (bt T1.out o2.b)
      have KB := hide fun w3 (hb : Below w2.heap.size w2 w3) => (o2.bs N8.out).keep hb
      clear o2 k0 k1 k2 j0 j1 j2
      go_wp2
      have S1 := s6_keep S1 (drew1 _)
      have T1 := hide (bt T1.out (drew1 _))
      have D1 := hide (drew1 w2)
      go_region_held3 (fun w' => (w'.cell? ⟨w.heap.size, 0, none⟩ = some (.slice r.aL r.lo.length r.cL) ∧ w'.cell? ⟨w.heap.size, 1, none⟩ = some (.slice r.aH r.hi.length r.cH) ∧ w'.cell? ⟨w.heap.size, 2, none⟩ = some (.bool r.op)) ∧ w'.cell? ⟨w.heap.size + 1, 0, none⟩ = some (.slice s.aL s.lo.length s.cL) ∧ w'.cell? ⟨w.heap.size + 1, 1, none⟩ = some (.slice s.aH s.hi.length s.cH) ∧ w'.cell? ⟨w.heap.size + 1, 2, none⟩ = some (.bool s.op))
        (with_reducible exact S1)
        (first | (go_at_call 7; with_reducible refine (M1.out _ T1.out).mono ?_; rintro e w9 ⟨rfl, hb⟩; have S1 := s6_keep S1 hb; have D1 := hide (bt D1.out hb); have T1 := hide (bt T1.out hb); clear hb) | (go_at_call 12; refine (HL.out _ T1.out _ _ (KB.out _ D1.out)).mono ?_; rintro e w9 ⟨rfl, hb⟩; have S1 := s6_keep S1 hb; have D1 := hide (bt D1.out hb); have T1 := hide (bt T1.out hb); clear hb))
      obtain ⟨⟨k0, k1, k2⟩, j0, j1, j2⟩ := S1
      go_wp2_with fail
      refine (HX.out _ T1.out).mono ?_
      rintro e w4 ⟨rfl, hb⟩
      have S1 := s6_keep (And.intro (And.intro k0 (And.intro k1 k2)) (And.intro j0 (And.intro j1 j2))) hb
      have T1 := hide (bt T1.out hb)
      clear hb k0 k1 k2 j0 j1 j2
      go_wp2
      have S1 := s6_keep S1 (drew1 _)
      have T1 := hide (bt T1.out (drew1 _))
      refine wp_region_held_drew (S := fun w' => (w'.cell? ⟨w.heap.size, 0, none⟩ = some (.slice r.aL r.lo.length r.cL) ∧ w'.cell? ⟨w.heap.size, 1, none⟩ = some (.slice r.aH r.hi.length r.cH) ∧ w'.cell? ⟨w.heap.size, 2, none⟩ = some (.bool r.op)) ∧ w'.cell? ⟨w.heap.size + 1, 0, none⟩ = some (.slice s.aL s.lo.length s.cL) ∧ w'.cell? ⟨w.heap.size + 1, 1, none⟩ = some (.slice s.aH s.hi.length s.cH) ∧ w'.cell? ⟨w.heap.size + 1, 2, none⟩ = some (.bool s.op)) (by kernel_rfl) (by exact S1) (fun hHeld => ?_)
      refine wpAnyH_take (i := 0) (v := ?v13) rfl (by kernel_rfl) (by kernel_rfl) (by kernel_rfl) (fun _ _ _ h => h) (Or.inl ⟨by rfl, ?hy13⟩) (by assumption) ?rest13
      case hy13 => (intro w hSw; (try dsimp only at hSw); go_simp <;> with_reducible rfl)
      try simp only [Act.put, List.getElem_toArray, List.getElem_cons_zero, List.getElem_cons_succ, List.setIfInBounds_toArray, List.set_cons_zero, List.set_cons_succ]
      refine wpAnyH_take (i := 1) (v := ?v14) rfl (by kernel_rfl) (by kernel_rfl) (by kernel_rfl) (fun _ _ _ h => h) (Or.inl ⟨by rfl, ?hy14⟩) (by assumption) ?rest14
      case hy14 => (intro w hSw; (try dsimp only at hSw); go_simp <;> with_reducible rfl)
      try simp only [Act.put, List.getElem_toArray, List.getElem_cons_zero, List.getElem_cons_succ, List.setIfInBounds_toArray, List.set_cons_zero, List.set_cons_succ]
      refine wpAnyH_ready (rs := [2]) (by kernel_rfl) (by simp) ?_
      refine AllReadyH.cons rfl (fun K hK => ?_) AllReadyH.nil
      go_simp
      refine (Q1.out _ T1.out).mono ?_
      rintro e w9 ⟨rfl, hb⟩
      have S1 := s6_keep S1 hb
      have T1 := hide (bt T1.out hb)
      clear hb
      go_wp2_with fail
      refine hK.out _ _ (by exact S1) (fun hHeld => ?_)
      clear hK K
      try simp only [Act.put, List.getElem_toArray, List.getElem_cons_zero, List.getElem_cons_succ, List.setIfInBounds_toArray, List.set_cons_zero, List.set_cons_succ]
      refine wpAnyH_take (i := 3) (v := ?v15) rfl (by kernel_rfl) (by kernel_rfl) (by kernel_rfl) (fun _ _ _ h => h) (Or.inl ⟨by rfl, ?hy15⟩) (by assumption) ?rest15
      case hy15 => (intro w hSw; (try dsimp only at hSw); go_simp <;> with_reducible rfl)
      try simp only [Act.put, List.getElem_toArray, List.getElem_cons_zero, List.getElem_cons_succ, List.setIfInBounds_toArray, List.set_cons_zero, List.set_cons_succ]
      refine wpAnyH_take (i := 4) (v := ?v16) rfl (by kernel_rfl) (by kernel_rfl) (by kernel_rfl) (fun _ _ _ h => h) (Or.inl ⟨by rfl, ?hy16⟩) (by assumption) ?rest16
      case hy16 => (intro w hSw; (try dsimp only at hSw); go_simp <;> with_reducible rfl)
      try simp only [Act.put, List.getElem_toArray, List.getElem_cons_zero, List.getElem_cons_succ, List.setIfInBounds_toArray, List.set_cons_zero, List.set_cons_succ]
      refine wpAnyH_take (i := 5) (v := undef) rfl (by kernel_rfl) (by kernel_rfl) (by kernel_rfl) (fun _ _ _ h => h) (Or.inr ⟨by rfl, rfl⟩) (by assumption) ?_
      try simp only [Act.put, List.getElem_toArray, List.getElem_cons_zero, List.getElem_cons_succ, List.setIfInBounds_toArray, List.set_cons_zero, List.set_cons_succ]
      refine wpAnyH_take (i := 6) (v := undef) rfl (by kernel_rfl) (by kernel_rfl) (by kernel_rfl) (fun _ _ _ h => h) (Or.inr ⟨by rfl, rfl⟩) (by assumption) ?_
      try simp only [Act.put, List.getElem_toArray, List.getElem_cons_zero, List.getElem_cons_succ, List.setIfInBounds_toArray, List.set_cons_zero, List.set_cons_succ]
      refine wpAnyH_take (i := 7) (v := undef) rfl (by kernel_rfl) (by kernel_rfl) (by kernel_rfl) (fun _ _ _ h => h) (Or.inr ⟨by rfl, rfl⟩) (by assumption) ?_
      try simp only [Act.put, List.getElem_toArray, List.getElem_cons_zero, List.getElem_cons_succ, List.setIfInBounds_toArray, List.set_cons_zero, List.set_cons_succ]
      refine wpAnyH_take (i := 8) (v := undef) rfl (by kernel_rfl) (by kernel_rfl) (by kernel_rfl) (fun _ _ _ h => h) (Or.inr ⟨by rfl, rfl⟩) (by assumption) ?_
      try simp only [Act.put, List.getElem_toArray, List.getElem_cons_zero, List.getElem_cons_succ, List.setIfInBounds_toArray, List.set_cons_zero, List.set_cons_succ]
      refine wpAnyH_take (i := 9) (v := undef) rfl (by kernel_rfl) (by kernel_rfl) (by kernel_rfl) (fun _ _ _ h => h) (Or.inr ⟨by rfl, rfl⟩) (by assumption) ?_
      try simp only [Act.put, List.getElem_toArray, List.getElem_cons_zero, List.getElem_cons_succ, List.setIfInBounds_toArray, List.set_cons_zero, List.set_cons_succ]
      refine wpAnyH_take (i := 10) (v := undef) rfl (by kernel_rfl) (by kernel_rfl) (by kernel_rfl) (fun _ _ _ h => h) (Or.inr ⟨by rfl, rfl⟩) (by assumption) ?_
      try simp only [Act.put, List.getElem_toArray, List.getElem_cons_zero, List.getElem_cons_succ, List.setIfInBounds_toArray, List.set_cons_zero, List.set_cons_succ]
      refine wpAnyH_take (i := 11) (v := undef) rfl (by kernel_rfl) (by kernel_rfl) (by kernel_rfl) (fun _ _ _ h => h) (Or.inr ⟨by rfl, rfl⟩) (by assumption) ?_
      try simp only [Act.put, List.getElem_toArray, List.getElem_cons_zero, List.getElem_cons_succ, List.setIfInBounds_toArray, List.set_cons_zero, List.set_cons_succ]
      refine wpAnyH_take (i := 12) (v := ?v17) rfl (by kernel_rfl) (by kernel_rfl) (by kernel_rfl) (fun _ _ _ h => h) (Or.inl ⟨by rfl, ?hy17⟩) (by assumption) ?rest17
      case hy17 => (intro w hSw; (try dsimp only at hSw); go_simp <;> with_reducible rfl)
      try simp only [Act.put, List.getElem_toArray, List.getElem_cons_zero, List.getElem_cons_succ, List.setIfInBounds_toArray, List.set_cons_zero, List.set_cons_succ]
      refine wpAnyH_take (i := 13) (v := ?v18) rfl (by kernel_rfl) (by kernel_rfl) (by kernel_rfl) (fun _ _ _ h => h) (Or.inl ⟨by rfl, ?hy18⟩) (by assumption) ?rest18
      case hy18 => (intro w hSw; (try dsimp only at hSw); go_simp <;> with_reducible rfl)
      try simp only [Act.put, List.getElem_toArray, List.getElem_cons_zero, List.getElem_cons_succ, List.setIfInBounds_toArray, List.set_cons_zero, List.set_cons_succ]
      refine wpAnyH_done (by kernel_rfl) ?_ _
      clear S1
      go_wp2
      go_ret
      exact ⟨by simp, T1.out⟩
  | true =>
    have hp := P1 hq
    rw [hq] at HX
    rw [show has r.rg (least r.lo) = true from hp] at HL M1
    by_cases hE : form r.rg = form s.rg
    · have hy := (P2 hE).symm.trans hq
      rw [decide_eq_true hE] at Q1
      rw [hy] at HY
      clear hE hy hq P1 P2 hpn hp
      unfold Rv.cs at *
      go_enter Try.func4, Try.ntmps4
      go_wp2_with fail
      refine (FX.out _).mono ?_
      rintro e w1 ⟨rfl, hb⟩
      obtain ⟨m0, m1, hb1, hs1⟩ := two_blocks _ _ _ hb
      have S1 := And.intro (row3_cells m0) (row3_cells m1)
      have T1 := hide hb1
      clear hb hb1 m0 m1 hs1
      obtain ⟨⟨k0, k1, k2⟩, j0, j1, j2⟩ := S1
      go_wp2_with fail
      refine (NX.out _ T1.out).mono ?_
      rintro e w2 ⟨a2, d2, rfl, o2⟩
      have S1 := s6_keep (And.intro (And.intro k0 (And.intro k1 k2)) (And.intro j0 (And.intro j1 j2))) o2.b
      have T1 := hide (bt T1.out o2.b)
      have KB := hide fun w3 (hb : Below w2.heap.size w2 w3) => (o2.bs N8.out).keep hb
      clear o2 k0 k1 k2 j0 j1 j2
      go_wp2
      have S1 := s6_keep S1 (drew1 _)
      have T1 := hide (bt T1.out (drew1 _))
      have D1 := hide (drew1 w2)
      go_region_held3 (fun w' => (w'.cell? ⟨w.heap.size, 0, none⟩ = some (.slice r.aL r.lo.length r.cL) ∧ w'.cell? ⟨w.heap.size, 1, none⟩ = some (.slice r.aH r.hi.length r.cH) ∧ w'.cell? ⟨w.heap.size, 2, none⟩ = some (.bool r.op)) ∧ w'.cell? ⟨w.heap.size + 1, 0, none⟩ = some (.slice s.aL s.lo.length s.cL) ∧ w'.cell? ⟨w.heap.size + 1, 1, none⟩ = some (.slice s.aH s.hi.length s.cH) ∧ w'.cell? ⟨w.heap.size + 1, 2, none⟩ = some (.bool s.op))
        (with_reducible exact S1)
        (first | (go_at_call 7; with_reducible refine (M1.out _ T1.out).mono ?_; rintro e w9 ⟨rfl, hb⟩; have S1 := s6_keep S1 hb; have D1 := hide (bt D1.out hb); have T1 := hide (bt T1.out hb); clear hb) | (go_at_call 12; refine (HL.out _ T1.out _ _ (KB.out _ D1.out)).mono ?_; rintro e w9 ⟨rfl, hb⟩; have S1 := s6_keep S1 hb; have D1 := hide (bt D1.out hb); have T1 := hide (bt T1.out hb); clear hb))
      obtain ⟨⟨k0, k1, k2⟩, j0, j1, j2⟩ := S1
      go_wp2_with fail
      refine (HX.out _ T1.out).mono ?_
      rintro e w4 ⟨rfl, hb⟩
      have S1 := s6_keep (And.intro (And.intro k0 (And.intro k1 k2)) (And.intro j0 (And.intro j1 j2))) hb
      have T1 := hide (bt T1.out hb)
      clear hb k0 k1 k2 j0 j1 j2
      obtain ⟨⟨k0, k1, k2⟩, j0, j1, j2⟩ := S1
      go_wp2_with fail
      refine (M1.out _ T1.out).mono ?_
      rintro e w5 ⟨rfl, hb⟩
      have S1 := s6_keep (And.intro (And.intro k0 (And.intro k1 k2)) (And.intro j0 (And.intro j1 j2))) hb
      have T1 := hide (bt T1.out hb)
      clear hb k0 k1 k2 j0 j1 j2
      go_wp2
      have S1 := s6_keep S1 (drew1 _)
      have T1 := hide (bt T1.out (drew1 _))
      go_region_held3 (fun w' => (w'.cell? ⟨w.heap.size, 0, none⟩ = some (.slice r.aL r.lo.length r.cL) ∧ w'.cell? ⟨w.heap.size, 1, none⟩ = some (.slice r.aH r.hi.length r.cH) ∧ w'.cell? ⟨w.heap.size, 2, none⟩ = some (.bool r.op)) ∧ w'.cell? ⟨w.heap.size + 1, 0, none⟩ = some (.slice s.aL s.lo.length s.cL) ∧ w'.cell? ⟨w.heap.size + 1, 1, none⟩ = some (.slice s.aH s.hi.length s.cH) ∧ w'.cell? ⟨w.heap.size + 1, 2, none⟩ = some (.bool s.op))
        (with_reducible exact S1)
        (first | (go_at_call 9; with_reducible refine (Q1.out _ T1.out).mono ?_; rintro e w9 ⟨rfl, hb⟩; have S1 := s6_keep S1 hb; have T1 := hide (bt T1.out hb); clear hb) | (go_at_call 12; with_reducible refine (HX.out _ T1.out).mono ?_; rintro e w9 ⟨rfl, hb⟩; have S1 := s6_keep S1 hb; have T1 := hide (bt T1.out hb); clear hb) | (go_at_call 12; with_reducible refine (HY.out _ T1.out).mono ?_; rintro e w9 ⟨rfl, hb⟩; have S1 := s6_keep S1 hb; have T1 := hide (bt T1.out hb); clear hb))
      clear S1
      go_wp2
      go_ret
      exact ⟨by simp, T1.out⟩
    · rw [decide_eq_false hE] at Q1
      clear hE hq P1 P2 hpn hp
      generalize has s.rg x = q at *
      unfold Rv.cs at *
      go_enter Try.func4, Try.ntmps4
      go_wp2_with fail
      refine (FX.out _).mono ?_
      rintro e w1 ⟨rfl, hb⟩
      obtain ⟨m0, m1, hb1, hs1⟩ := two_blocks _ _ _ hb
      have S1 := And.intro (row3_cells m0) (row3_cells m1)
      have T1 := hide hb1
      clear hb hb1 m0 m1 hs1
      obtain ⟨⟨k0, k1, k2⟩, j0, j1, j2⟩ := S1
      go_wp2_with fail
      refine (NX.out _ T1.out).mono ?_
      rintro e w2 ⟨a2, d2, rfl, o2⟩
      have S1 := s6_keep (And.intro (And.intro k0 (And.intro k1 k2)) (And.intro j0 (And.intro j1 j2))) o2.b
      have T1 := hide (bt T1.out o2.b)
      have KB := hide fun w3 (hb : Below w2.heap.size w2 w3) => (o2.bs N8.out).keep hb
      clear o2 k0 k1 k2 j0 j1 j2
      go_wp2
      have S1 := s6_keep S1 (drew1 _)
      have T1 := hide (bt T1.out (drew1 _))
      have D1 := hide (drew1 w2)
      go_region_held3 (fun w' => (w'.cell? ⟨w.heap.size, 0, none⟩ = some (.slice r.aL r.lo.length r.cL) ∧ w'.cell? ⟨w.heap.size, 1, none⟩ = some (.slice r.aH r.hi.length r.cH) ∧ w'.cell? ⟨w.heap.size, 2, none⟩ = some (.bool r.op)) ∧ w'.cell? ⟨w.heap.size + 1, 0, none⟩ = some (.slice s.aL s.lo.length s.cL) ∧ w'.cell? ⟨w.heap.size + 1, 1, none⟩ = some (.slice s.aH s.hi.length s.cH) ∧ w'.cell? ⟨w.heap.size + 1, 2, none⟩ = some (.bool s.op))
        (with_reducible exact S1)
        (first | (go_at_call 7; with_reducible refine (M1.out _ T1.out).mono ?_; rintro e w9 ⟨rfl, hb⟩; have S1 := s6_keep S1 hb; have D1 := hide (bt D1.out hb); have T1 := hide (bt T1.out hb); clear hb) | (go_at_call 12; refine (HL.out _ T1.out _ _ (KB.out _ D1.out)).mono ?_; rintro e w9 ⟨rfl, hb⟩; have S1 := s6_keep S1 hb; have D1 := hide (bt D1.out hb); have T1 := hide (bt T1.out hb); clear hb))
      obtain ⟨⟨k0, k1, k2⟩, j0, j1, j2⟩ := S1
      go_wp2_with fail
      refine (HX.out _ T1.out).mono ?_
      rintro e w4 ⟨rfl, hb⟩
      have S1 := s6_keep (And.intro (And.intro k0 (And.intro k1 k2)) (And.intro j0 (And.intro j1 j2))) hb
      have T1 := hide (bt T1.out hb)
      clear hb k0 k1 k2 j0 j1 j2
      obtain ⟨⟨k0, k1, k2⟩, j0, j1, j2⟩ := S1
      go_wp2_with fail
      refine (M1.out _ T1.out).mono ?_
      rintro e w5 ⟨rfl, hb⟩
      have S1 := s6_keep (And.intro (And.intro k0 (And.intro k1 k2)) (And.intro j0 (And.intro j1 j2))) hb
      have T1 := hide (bt T1.out hb)
      clear hb k0 k1 k2 j0 j1 j2
      go_wp2
      have S1 := s6_keep S1 (drew1 _)
      have T1 := hide (bt T1.out (drew1 _))
      refine wp_region_held_drew (S := fun w' => (w'.cell? ⟨w.heap.size, 0, none⟩ = some (.slice r.aL r.lo.length r.cL) ∧ w'.cell? ⟨w.heap.size, 1, none⟩ = some (.slice r.aH r.hi.length r.cH) ∧ w'.cell? ⟨w.heap.size, 2, none⟩ = some (.bool r.op)) ∧ w'.cell? ⟨w.heap.size + 1, 0, none⟩ = some (.slice s.aL s.lo.length s.cL) ∧ w'.cell? ⟨w.heap.size + 1, 1, none⟩ = some (.slice s.aH s.hi.length s.cH) ∧ w'.cell? ⟨w.heap.size + 1, 2, none⟩ = some (.bool s.op)) (by kernel_rfl) (by exact S1) (fun hHeld => ?_)
      refine wpAnyH_take (i := 0) (v := ?v19) rfl (by kernel_rfl) (by kernel_rfl) (by kernel_rfl) (fun _ _ _ h => h) (Or.inl ⟨by rfl, ?hy19⟩) (by assumption) ?rest19
      case hy19 => (intro w hSw; (try dsimp only at hSw); go_simp <;> with_reducible rfl)
      try simp only [Act.put, List.getElem_toArray, List.getElem_cons_zero, List.getElem_cons_succ, List.setIfInBounds_toArray, List.set_cons_zero, List.set_cons_succ]
      refine wpAnyH_take (i := 1) (v := ?v20) rfl (by kernel_rfl) (by kernel_rfl) (by kernel_rfl) (fun _ _ _ h => h) (Or.inl ⟨by rfl, ?hy20⟩) (by assumption) ?rest20
      case hy20 => (intro w hSw; (try dsimp only at hSw); go_simp <;> with_reducible rfl)
      try simp only [Act.put, List.getElem_toArray, List.getElem_cons_zero, List.getElem_cons_succ, List.setIfInBounds_toArray, List.set_cons_zero, List.set_cons_succ]
      refine wpAnyH_ready (rs := [2]) (by kernel_rfl) (by simp) ?_
      refine AllReadyH.cons rfl (fun K hK => ?_) AllReadyH.nil
      go_simp
      refine (Q1.out _ T1.out).mono ?_
      rintro e w9 ⟨rfl, hb⟩
      have S1 := s6_keep S1 hb
      have T1 := hide (bt T1.out hb)
      clear hb
      go_wp2_with fail
      refine hK.out _ _ (by exact S1) (fun hHeld => ?_)
      clear hK K
      try simp only [Act.put, List.getElem_toArray, List.getElem_cons_zero, List.getElem_cons_succ, List.setIfInBounds_toArray, List.set_cons_zero, List.set_cons_succ]
      refine wpAnyH_take (i := 3) (v := ?v21) rfl (by kernel_rfl) (by kernel_rfl) (by kernel_rfl) (fun _ _ _ h => h) (Or.inl ⟨by rfl, ?hy21⟩) (by assumption) ?rest21
      case hy21 => (intro w hSw; (try dsimp only at hSw); go_simp <;> with_reducible rfl)
      try simp only [Act.put, List.getElem_toArray, List.getElem_cons_zero, List.getElem_cons_succ, List.setIfInBounds_toArray, List.set_cons_zero, List.set_cons_succ]
      refine wpAnyH_take (i := 4) (v := ?v22) rfl (by kernel_rfl) (by kernel_rfl) (by kernel_rfl) (fun _ _ _ h => h) (Or.inl ⟨by rfl, ?hy22⟩) (by assumption) ?rest22
      case hy22 => (intro w hSw; (try dsimp only at hSw); go_simp <;> with_reducible rfl)
      try simp only [Act.put, List.getElem_toArray, List.getElem_cons_zero, List.getElem_cons_succ, List.setIfInBounds_toArray, List.set_cons_zero, List.set_cons_succ]
      refine wpAnyH_take (i := 5) (v := undef) rfl (by kernel_rfl) (by kernel_rfl) (by kernel_rfl) (fun _ _ _ h => h) (Or.inr ⟨by rfl, rfl⟩) (by assumption) ?_
      try simp only [Act.put, List.getElem_toArray, List.getElem_cons_zero, List.getElem_cons_succ, List.setIfInBounds_toArray, List.set_cons_zero, List.set_cons_succ]
      refine wpAnyH_take (i := 6) (v := undef) rfl (by kernel_rfl) (by kernel_rfl) (by kernel_rfl) (fun _ _ _ h => h) (Or.inr ⟨by rfl, rfl⟩) (by assumption) ?_
      try simp only [Act.put, List.getElem_toArray, List.getElem_cons_zero, List.getElem_cons_succ, List.setIfInBounds_toArray, List.set_cons_zero, List.set_cons_succ]
      refine wpAnyH_take (i := 7) (v := undef) rfl (by kernel_rfl) (by kernel_rfl) (by kernel_rfl) (fun _ _ _ h => h) (Or.inr ⟨by rfl, rfl⟩) (by assumption) ?_
      try simp only [Act.put, List.getElem_toArray, List.getElem_cons_zero, List.getElem_cons_succ, List.setIfInBounds_toArray, List.set_cons_zero, List.set_cons_succ]
      refine wpAnyH_take (i := 8) (v := undef) rfl (by kernel_rfl) (by kernel_rfl) (by kernel_rfl) (fun _ _ _ h => h) (Or.inr ⟨by rfl, rfl⟩) (by assumption) ?_
      try simp only [Act.put, List.getElem_toArray, List.getElem_cons_zero, List.getElem_cons_succ, List.setIfInBounds_toArray, List.set_cons_zero, List.set_cons_succ]
      refine wpAnyH_take (i := 9) (v := undef) rfl (by kernel_rfl) (by kernel_rfl) (by kernel_rfl) (fun _ _ _ h => h) (Or.inr ⟨by rfl, rfl⟩) (by assumption) ?_
      try simp only [Act.put, List.getElem_toArray, List.getElem_cons_zero, List.getElem_cons_succ, List.setIfInBounds_toArray, List.set_cons_zero, List.set_cons_succ]
      refine wpAnyH_take (i := 10) (v := undef) rfl (by kernel_rfl) (by kernel_rfl) (by kernel_rfl) (fun _ _ _ h => h) (Or.inr ⟨by rfl, rfl⟩) (by assumption) ?_
      try simp only [Act.put, List.getElem_toArray, List.getElem_cons_zero, List.getElem_cons_succ, List.setIfInBounds_toArray, List.set_cons_zero, List.set_cons_succ]
      refine wpAnyH_take (i := 11) (v := undef) rfl (by kernel_rfl) (by kernel_rfl) (by kernel_rfl) (fun _ _ _ h => h) (Or.inr ⟨by rfl, rfl⟩) (by assumption) ?_
      try simp only [Act.put, List.getElem_toArray, List.getElem_cons_zero, List.getElem_cons_succ, List.setIfInBounds_toArray, List.set_cons_zero, List.set_cons_succ]
      refine wpAnyH_take (i := 12) (v := ?v23) rfl (by kernel_rfl) (by kernel_rfl) (by kernel_rfl) (fun _ _ _ h => h) (Or.inl ⟨by rfl, ?hy23⟩) (by assumption) ?rest23
      case hy23 => (intro w hSw; (try dsimp only at hSw); go_simp <;> with_reducible rfl)
      try simp only [Act.put, List.getElem_toArray, List.getElem_cons_zero, List.getElem_cons_succ, List.setIfInBounds_toArray, List.set_cons_zero, List.set_cons_succ]
      refine wpAnyH_take (i := 13) (v := ?v24) rfl (by kernel_rfl) (by kernel_rfl) (by kernel_rfl) (fun _ _ _ h => h) (Or.inl ⟨by rfl, ?hy24⟩) (by assumption) ?rest24
      case hy24 => (intro w hSw; (try dsimp only at hSw); go_simp <;> with_reducible rfl)
      try simp only [Act.put, List.getElem_toArray, List.getElem_cons_zero, List.getElem_cons_succ, List.setIfInBounds_toArray, List.set_cons_zero, List.set_cons_succ]
      refine wpAnyH_done (by kernel_rfl) ?_ _
      clear S1
      go_wp2
      go_ret
      exact ⟨by simp, T1.out⟩
set_option linter.unusedSimpArgs false in
set_option maxRecDepth 100000 in
set_option maxHeartbeats 12800000 in
theorem spanNoKey_c (w : World) (r : Rv) (hR : Ri w r) (_ : Rb' r) (s : Rv) (hS : Ri w s) (_ : Rb' s) (ax : Option Addr) (cx : Nat) (x : List Nat) (hX : Bs w ax x) (_ : x.length + 64 ≤ 140737488355328) (_ : x.length ≤ cx) (hlo1 : ¬ r.lo.length < 1) (hlo2 : ¬ 24 < r.lo.length) :
    Calls Try.prog 4 #[.agg r.cs, .agg s.cs, .slice ax x.length cx] w fun e w' => e = .returned (.bool true) ∧ Below w.heap.size w w' := by
  have FX := hide fixed_any
  have M1 := hide fun w1 (hb : Below w.heap.size w w1) => Empty_any w1 r (hR.keep hb)
  have Q1 := hide fun w1 (hb : Below w.heap.size w w1) => Equal_any w1 r s (hR.keep hb) (hS.keep hb)
  have HX := hide fun w1 (hb : Below w.heap.size w w1) => Has_any w1 r ax x.length cx x (hR.keep hb) (hX.keep hb) rfl
  have HY := hide fun w1 (hb : Below w.heap.size w w1) => Has_any w1 s ax x.length cx x (hS.keep hb) (hX.keep hb) rfl
  have HL := hide fun w1 (hb : Below w.heap.size w w1) a c (hk : Bs w1 a (least r.lo)) => Has_any w1 r a (least r.lo).length c (least r.lo) (hR.keep hb) hk rfl
  have NX := hide fun w1 (hb : Below w.heap.size w w1) => Next_any w1 r.aL r.lo.length r.cL r.lo (hR.bl.keep hb) rfl hR.cl
  have HLO := hide fun w1 (hb : Below w.heap.size w w1) => hR.bl.keep hb
  have N8 := hide (least_b8 hR.bl.1)
  have P1 : has r.rg x = true → has r.rg (least r.lo) = true := has_least hR.b8 (B8_of hX)
  have P2 := fun e => has_same hR.b8 hS.b8 e (B8_of hX)
  have hpn : ∀ p : Bool, ((!p) == p) = false := fun p => by cases p <;> rfl
  clear hR hS hX
  unfold Rv.val at *
  have q1 : ¬ (r.lo.length : Int) < 1 := by omega
  have q2 : ¬ (24 : Int) < (r.lo.length : Int) := by omega
  have e : least r.lo = r.lo := least_yes (isK_iff.2 ⟨by omega, by omega⟩)
  rw [e] at HL M1 P1
  clear e NX N8 hlo1 hlo2
  cases hq : has r.rg x with
  | false =>
    have hpp := hpn (has r.rg (r.lo))
    rw [hq] at HX
    by_cases hE : form r.rg = form s.rg
    · have hy := (P2 hE).symm.trans hq
      rw [decide_eq_true hE] at Q1
      rw [hy] at HY
      clear hE hy hq P1 P2 hpn
      generalize has r.rg (r.lo) = p at *
      unfold Rv.cs at *
      go_enter Try.func4, Try.ntmps4
      go_wp2_with fail
      refine (FX.out _).mono ?_
      rintro e w1 ⟨rfl, hb⟩
      obtain ⟨m0, m1, hb1, hs1⟩ := two_blocks _ _ _ hb
      have S1 := And.intro (row3_cells m0) (row3_cells m1)
      have T1 := hide hb1
      clear hb hb1 m0 m1 hs1
      obtain ⟨⟨k0, k1, k2⟩, j0, j1, j2⟩ := S1
      have KB := hide fun w2 (hb : Below w1.heap.size w1 w2) => (HLO.out w1 T1.out).keep hb
      have S1 := And.intro (And.intro k0 (And.intro k1 k2)) (And.intro j0 (And.intro j1 j2))
      go_wp2
      have S1 := s6_keep S1 (drew1 _)
      have T1 := hide (bt T1.out (drew1 _))
      have D1 := hide (drew1 w1)
      go_region_held3 (fun w' => (w'.cell? ⟨w.heap.size, 0, none⟩ = some (.slice r.aL r.lo.length r.cL) ∧ w'.cell? ⟨w.heap.size, 1, none⟩ = some (.slice r.aH r.hi.length r.cH) ∧ w'.cell? ⟨w.heap.size, 2, none⟩ = some (.bool r.op)) ∧ w'.cell? ⟨w.heap.size + 1, 0, none⟩ = some (.slice s.aL s.lo.length s.cL) ∧ w'.cell? ⟨w.heap.size + 1, 1, none⟩ = some (.slice s.aH s.hi.length s.cH) ∧ w'.cell? ⟨w.heap.size + 1, 2, none⟩ = some (.bool s.op))
        (with_reducible exact S1)
        (first | (go_at_call 7; with_reducible refine (M1.out _ T1.out).mono ?_; rintro e w9 ⟨rfl, hb⟩; have S1 := s6_keep S1 hb; have D1 := hide (bt D1.out hb); have T1 := hide (bt T1.out hb); clear hb) | (go_at_call 12; refine (HL.out _ T1.out _ _ (KB.out _ D1.out)).mono ?_; rintro e w9 ⟨rfl, hb⟩; have S1 := s6_keep S1 hb; have D1 := hide (bt D1.out hb); have T1 := hide (bt T1.out hb); clear hb))
      obtain ⟨⟨k0, k1, k2⟩, j0, j1, j2⟩ := S1
      go_wp2_with fail
      refine (HX.out _ T1.out).mono ?_
      rintro e w4 ⟨rfl, hb⟩
      have S1 := s6_keep (And.intro (And.intro k0 (And.intro k1 k2)) (And.intro j0 (And.intro j1 j2))) hb
      have T1 := hide (bt T1.out hb)
      clear hb k0 k1 k2 j0 j1 j2
      go_wp2
      have S1 := s6_keep S1 (drew1 _)
      have T1 := hide (bt T1.out (drew1 _))
      go_region_held3 (fun w' => (w'.cell? ⟨w.heap.size, 0, none⟩ = some (.slice r.aL r.lo.length r.cL) ∧ w'.cell? ⟨w.heap.size, 1, none⟩ = some (.slice r.aH r.hi.length r.cH) ∧ w'.cell? ⟨w.heap.size, 2, none⟩ = some (.bool r.op)) ∧ w'.cell? ⟨w.heap.size + 1, 0, none⟩ = some (.slice s.aL s.lo.length s.cL) ∧ w'.cell? ⟨w.heap.size + 1, 1, none⟩ = some (.slice s.aH s.hi.length s.cH) ∧ w'.cell? ⟨w.heap.size + 1, 2, none⟩ = some (.bool s.op))
        (with_reducible exact S1)
        (first | (go_at_call 9; with_reducible refine (Q1.out _ T1.out).mono ?_; rintro e w9 ⟨rfl, hb⟩; have S1 := s6_keep S1 hb; have T1 := hide (bt T1.out hb); clear hb) | (go_at_call 12; with_reducible refine (HX.out _ T1.out).mono ?_; rintro e w9 ⟨rfl, hb⟩; have S1 := s6_keep S1 hb; have T1 := hide (bt T1.out hb); clear hb) | (go_at_call 12; with_reducible refine (HY.out _ T1.out).mono ?_; rintro e w9 ⟨rfl, hb⟩; have S1 := s6_keep S1 hb; have T1 := hide (bt T1.out hb); clear hb))
      clear S1
      go_wp2
      go_ret
      exact ⟨by simp, T1.out⟩
    · rw [decide_eq_false hE] at Q1
      clear hE hq P1 P2 hpn
      generalize has r.rg (r.lo) = p at *
      generalize has s.rg x = q at *
      unfold Rv.cs at *
      go_enter Try.func4, Try.ntmps4
      go_wp2_with fail
      refine (FX.out _).mono ?_
      rintro e w1 ⟨rfl, hb⟩
      obtain ⟨m0, m1, hb1, hs1⟩ := two_blocks _ _ _ hb
      have S1 := And.intro (row3_cells m0) (row3_cells m1)
      have T1 := hide hb1
      clear hb hb1 m0 m1 hs1
      obtain ⟨⟨k0, k1, k2⟩, j0, j1, j2⟩ := S1
      have KB := hide fun w2 (hb : Below w1.heap.size w1 w2) => (HLO.out w1 T1.out).keep hb
      have S1 := And.intro (And.intro k0 (And.intro k1 k2)) (And.intro j0 (And.intro j1 j2))
      go_wp2
      have S1 := s6_keep S1 (drew1 _)
      have T1 := hide (bt T1.out (drew1 _))
      have D1 := hide (drew1 w1)
      go_region_held3 (fun w' => (w'.cell? ⟨w.heap.size, 0, none⟩ = some (.slice r.aL r.lo.length r.cL) ∧ w'.cell? ⟨w.heap.size, 1, none⟩ = some (.slice r.aH r.hi.length r.cH) ∧ w'.cell? ⟨w.heap.size, 2, none⟩ = some (.bool r.op)) ∧ w'.cell? ⟨w.heap.size + 1, 0, none⟩ = some (.slice s.aL s.lo.length s.cL) ∧ w'.cell? ⟨w.heap.size + 1, 1, none⟩ = some (.slice s.aH s.hi.length s.cH) ∧ w'.cell? ⟨w.heap.size + 1, 2, none⟩ = some (.bool s.op))
        (with_reducible exact S1)
        (first | (go_at_call 7; with_reducible refine (M1.out _ T1.out).mono ?_; rintro e w9 ⟨rfl, hb⟩; have S1 := s6_keep S1 hb; have D1 := hide (bt D1.out hb); have T1 := hide (bt T1.out hb); clear hb) | (go_at_call 12; refine (HL.out _ T1.out _ _ (KB.out _ D1.out)).mono ?_; rintro e w9 ⟨rfl, hb⟩; have S1 := s6_keep S1 hb; have D1 := hide (bt D1.out hb); have T1 := hide (bt T1.out hb); clear hb))
      obtain ⟨⟨k0, k1, k2⟩, j0, j1, j2⟩ := S1
      go_wp2_with fail
      refine (HX.out _ T1.out).mono ?_
      rintro e w4 ⟨rfl, hb⟩
      have S1 := s6_keep (And.intro (And.intro k0 (And.intro k1 k2)) (And.intro j0 (And.intro j1 j2))) hb
      have T1 := hide (bt T1.out hb)
      clear hb k0 k1 k2 j0 j1 j2
      go_wp2
      have S1 := s6_keep S1 (drew1 _)
      have T1 := hide (bt T1.out (drew1 _))
      refine wp_region_held_drew (S := fun w' => (w'.cell? ⟨w.heap.size, 0, none⟩ = some (.slice r.aL r.lo.length r.cL) ∧ w'.cell? ⟨w.heap.size, 1, none⟩ = some (.slice r.aH r.hi.length r.cH) ∧ w'.cell? ⟨w.heap.size, 2, none⟩ = some (.bool r.op)) ∧ w'.cell? ⟨w.heap.size + 1, 0, none⟩ = some (.slice s.aL s.lo.length s.cL) ∧ w'.cell? ⟨w.heap.size + 1, 1, none⟩ = some (.slice s.aH s.hi.length s.cH) ∧ w'.cell? ⟨w.heap.size + 1, 2, none⟩ = some (.bool s.op)) (by kernel_rfl) (by exact S1) (fun hHeld => ?_)
      refine wpAnyH_take (i := 0) (v := ?v25) rfl (by kernel_rfl) (by kernel_rfl) (by kernel_rfl) (fun _ _ _ h => h) (Or.inl ⟨by rfl, ?hy25⟩) (by assumption) ?rest25
      case hy25 => (intro w hSw; (try dsimp only at hSw); go_simp <;> with_reducible rfl)
      try simp only [Act.put, List.getElem_toArray, List.getElem_cons_zero, List.getElem_cons_succ, List.setIfInBounds_toArray, List.set_cons_zero, List.set_cons_succ]
      refine wpAnyH_take (i := 1) (v := ?v26) rfl (by kernel_rfl) (by kernel_rfl) (by kernel_rfl) (fun _ _ _ h => h) (Or.inl ⟨by rfl, ?hy26⟩) (by assumption) ?rest26
      case hy26 => (intro w hSw; (try dsimp only at hSw); go_simp <;> with_reducible rfl)
      try simp only [Act.put, List.getElem_toArray, List.getElem_cons_zero, List.getElem_cons_succ, List.setIfInBounds_toArray, List.set_cons_zero, List.set_cons_succ]
      refine wpAnyH_ready (rs := [2]) (by kernel_rfl) (by simp) ?_
      refine AllReadyH.cons rfl (fun K hK => ?_) AllReadyH.nil
      go_simp
      refine (Q1.out _ T1.out).mono ?_
      rintro e w9 ⟨rfl, hb⟩
      have S1 := s6_keep S1 hb
      have T1 := hide (bt T1.out hb)
      clear hb
      go_wp2_with fail
      refine hK.out _ _ (by exact S1) (fun hHeld => ?_)
      clear hK K
      try simp only [Act.put, List.getElem_toArray, List.getElem_cons_zero, List.getElem_cons_succ, List.setIfInBounds_toArray, List.set_cons_zero, List.set_cons_succ]
      refine wpAnyH_take (i := 3) (v := ?v27) rfl (by kernel_rfl) (by kernel_rfl) (by kernel_rfl) (fun _ _ _ h => h) (Or.inl ⟨by rfl, ?hy27⟩) (by assumption) ?rest27
      case hy27 => (intro w hSw; (try dsimp only at hSw); go_simp <;> with_reducible rfl)
      try simp only [Act.put, List.getElem_toArray, List.getElem_cons_zero, List.getElem_cons_succ, List.setIfInBounds_toArray, List.set_cons_zero, List.set_cons_succ]
      refine wpAnyH_take (i := 4) (v := ?v28) rfl (by kernel_rfl) (by kernel_rfl) (by kernel_rfl) (fun _ _ _ h => h) (Or.inl ⟨by rfl, ?hy28⟩) (by assumption) ?rest28
      case hy28 => (intro w hSw; (try dsimp only at hSw); go_simp <;> with_reducible rfl)
      try simp only [Act.put, List.getElem_toArray, List.getElem_cons_zero, List.getElem_cons_succ, List.setIfInBounds_toArray, List.set_cons_zero, List.set_cons_succ]
      refine wpAnyH_take (i := 5) (v := undef) rfl (by kernel_rfl) (by kernel_rfl) (by kernel_rfl) (fun _ _ _ h => h) (Or.inr ⟨by rfl, rfl⟩) (by assumption) ?_
      try simp only [Act.put, List.getElem_toArray, List.getElem_cons_zero, List.getElem_cons_succ, List.setIfInBounds_toArray, List.set_cons_zero, List.set_cons_succ]
      refine wpAnyH_take (i := 6) (v := undef) rfl (by kernel_rfl) (by kernel_rfl) (by kernel_rfl) (fun _ _ _ h => h) (Or.inr ⟨by rfl, rfl⟩) (by assumption) ?_
      try simp only [Act.put, List.getElem_toArray, List.getElem_cons_zero, List.getElem_cons_succ, List.setIfInBounds_toArray, List.set_cons_zero, List.set_cons_succ]
      refine wpAnyH_take (i := 7) (v := undef) rfl (by kernel_rfl) (by kernel_rfl) (by kernel_rfl) (fun _ _ _ h => h) (Or.inr ⟨by rfl, rfl⟩) (by assumption) ?_
      try simp only [Act.put, List.getElem_toArray, List.getElem_cons_zero, List.getElem_cons_succ, List.setIfInBounds_toArray, List.set_cons_zero, List.set_cons_succ]
      refine wpAnyH_take (i := 8) (v := undef) rfl (by kernel_rfl) (by kernel_rfl) (by kernel_rfl) (fun _ _ _ h => h) (Or.inr ⟨by rfl, rfl⟩) (by assumption) ?_
      try simp only [Act.put, List.getElem_toArray, List.getElem_cons_zero, List.getElem_cons_succ, List.setIfInBounds_toArray, List.set_cons_zero, List.set_cons_succ]
      refine wpAnyH_take (i := 9) (v := undef) rfl (by kernel_rfl) (by kernel_rfl) (by kernel_rfl) (fun _ _ _ h => h) (Or.inr ⟨by rfl, rfl⟩) (by assumption) ?_
      try simp only [Act.put, List.getElem_toArray, List.getElem_cons_zero, List.getElem_cons_succ, List.setIfInBounds_toArray, List.set_cons_zero, List.set_cons_succ]
      refine wpAnyH_take (i := 10) (v := undef) rfl (by kernel_rfl) (by kernel_rfl) (by kernel_rfl) (fun _ _ _ h => h) (Or.inr ⟨by rfl, rfl⟩) (by assumption) ?_
      try simp only [Act.put, List.getElem_toArray, List.getElem_cons_zero, List.getElem_cons_succ, List.setIfInBounds_toArray, List.set_cons_zero, List.set_cons_succ]
      refine wpAnyH_take (i := 11) (v := undef) rfl (by kernel_rfl) (by kernel_rfl) (by kernel_rfl) (fun _ _ _ h => h) (Or.inr ⟨by rfl, rfl⟩) (by assumption) ?_
      try simp only [Act.put, List.getElem_toArray, List.getElem_cons_zero, List.getElem_cons_succ, List.setIfInBounds_toArray, List.set_cons_zero, List.set_cons_succ]
      refine wpAnyH_take (i := 12) (v := ?v29) rfl (by kernel_rfl) (by kernel_rfl) (by kernel_rfl) (fun _ _ _ h => h) (Or.inl ⟨by rfl, ?hy29⟩) (by assumption) ?rest29
      case hy29 => (intro w hSw; (try dsimp only at hSw); go_simp <;> with_reducible rfl)
      try simp only [Act.put, List.getElem_toArray, List.getElem_cons_zero, List.getElem_cons_succ, List.setIfInBounds_toArray, List.set_cons_zero, List.set_cons_succ]
      refine wpAnyH_take (i := 13) (v := ?v30) rfl (by kernel_rfl) (by kernel_rfl) (by kernel_rfl) (fun _ _ _ h => h) (Or.inl ⟨by rfl, ?hy30⟩) (by assumption) ?rest30
      case hy30 => (intro w hSw; (try dsimp only at hSw); go_simp <;> with_reducible rfl)
      try simp only [Act.put, List.getElem_toArray, List.getElem_cons_zero, List.getElem_cons_succ, List.setIfInBounds_toArray, List.set_cons_zero, List.set_cons_succ]
      refine wpAnyH_done (by kernel_rfl) ?_ _
      clear S1
      go_wp2
      go_ret
      exact ⟨by simp, T1.out⟩
  | true =>
    have hp := P1 hq
    rw [hq] at HX
    rw [show has r.rg (r.lo) = true from hp] at HL M1
    by_cases hE : form r.rg = form s.rg
    · have hy := (P2 hE).symm.trans hq
      rw [decide_eq_true hE] at Q1
      rw [hy] at HY
      clear hE hy hq P1 P2 hpn hp
      unfold Rv.cs at *
      go_enter Try.func4, Try.ntmps4
      go_wp2_with fail
      refine (FX.out _).mono ?_
      rintro e w1 ⟨rfl, hb⟩
      obtain ⟨m0, m1, hb1, hs1⟩ := two_blocks _ _ _ hb
      have S1 := And.intro (row3_cells m0) (row3_cells m1)
      have T1 := hide hb1
      clear hb hb1 m0 m1 hs1
      obtain ⟨⟨k0, k1, k2⟩, j0, j1, j2⟩ := S1
      have KB := hide fun w2 (hb : Below w1.heap.size w1 w2) => (HLO.out w1 T1.out).keep hb
      have S1 := And.intro (And.intro k0 (And.intro k1 k2)) (And.intro j0 (And.intro j1 j2))
      go_wp2
      have S1 := s6_keep S1 (drew1 _)
      have T1 := hide (bt T1.out (drew1 _))
      have D1 := hide (drew1 w1)
      go_region_held3 (fun w' => (w'.cell? ⟨w.heap.size, 0, none⟩ = some (.slice r.aL r.lo.length r.cL) ∧ w'.cell? ⟨w.heap.size, 1, none⟩ = some (.slice r.aH r.hi.length r.cH) ∧ w'.cell? ⟨w.heap.size, 2, none⟩ = some (.bool r.op)) ∧ w'.cell? ⟨w.heap.size + 1, 0, none⟩ = some (.slice s.aL s.lo.length s.cL) ∧ w'.cell? ⟨w.heap.size + 1, 1, none⟩ = some (.slice s.aH s.hi.length s.cH) ∧ w'.cell? ⟨w.heap.size + 1, 2, none⟩ = some (.bool s.op))
        (with_reducible exact S1)
        (first | (go_at_call 7; with_reducible refine (M1.out _ T1.out).mono ?_; rintro e w9 ⟨rfl, hb⟩; have S1 := s6_keep S1 hb; have D1 := hide (bt D1.out hb); have T1 := hide (bt T1.out hb); clear hb) | (go_at_call 12; refine (HL.out _ T1.out _ _ (KB.out _ D1.out)).mono ?_; rintro e w9 ⟨rfl, hb⟩; have S1 := s6_keep S1 hb; have D1 := hide (bt D1.out hb); have T1 := hide (bt T1.out hb); clear hb))
      obtain ⟨⟨k0, k1, k2⟩, j0, j1, j2⟩ := S1
      go_wp2_with fail
      refine (HX.out _ T1.out).mono ?_
      rintro e w4 ⟨rfl, hb⟩
      have S1 := s6_keep (And.intro (And.intro k0 (And.intro k1 k2)) (And.intro j0 (And.intro j1 j2))) hb
      have T1 := hide (bt T1.out hb)
      clear hb k0 k1 k2 j0 j1 j2
      obtain ⟨⟨k0, k1, k2⟩, j0, j1, j2⟩ := S1
      go_wp2_with fail
      refine (M1.out _ T1.out).mono ?_
      rintro e w5 ⟨rfl, hb⟩
      have S1 := s6_keep (And.intro (And.intro k0 (And.intro k1 k2)) (And.intro j0 (And.intro j1 j2))) hb
      have T1 := hide (bt T1.out hb)
      clear hb k0 k1 k2 j0 j1 j2
      go_wp2
      have S1 := s6_keep S1 (drew1 _)
      have T1 := hide (bt T1.out (drew1 _))
      go_region_held3 (fun w' => (w'.cell? ⟨w.heap.size, 0, none⟩ = some (.slice r.aL r.lo.length r.cL) ∧ w'.cell? ⟨w.heap.size, 1, none⟩ = some (.slice r.aH r.hi.length r.cH) ∧ w'.cell? ⟨w.heap.size, 2, none⟩ = some (.bool r.op)) ∧ w'.cell? ⟨w.heap.size + 1, 0, none⟩ = some (.slice s.aL s.lo.length s.cL) ∧ w'.cell? ⟨w.heap.size + 1, 1, none⟩ = some (.slice s.aH s.hi.length s.cH) ∧ w'.cell? ⟨w.heap.size + 1, 2, none⟩ = some (.bool s.op))
        (with_reducible exact S1)
        (first | (go_at_call 9; with_reducible refine (Q1.out _ T1.out).mono ?_; rintro e w9 ⟨rfl, hb⟩; have S1 := s6_keep S1 hb; have T1 := hide (bt T1.out hb); clear hb) | (go_at_call 12; with_reducible refine (HX.out _ T1.out).mono ?_; rintro e w9 ⟨rfl, hb⟩; have S1 := s6_keep S1 hb; have T1 := hide (bt T1.out hb); clear hb) | (go_at_call 12; with_reducible refine (HY.out _ T1.out).mono ?_; rintro e w9 ⟨rfl, hb⟩; have S1 := s6_keep S1 hb; have T1 := hide (bt T1.out hb); clear hb))
      clear S1
      go_wp2
      go_ret
      exact ⟨by simp, T1.out⟩
    · rw [decide_eq_false hE] at Q1
      clear hE hq P1 P2 hpn hp
      generalize has s.rg x = q at *
      unfold Rv.cs at *
      go_enter Try.func4, Try.ntmps4
      go_wp2_with fail
      refine (FX.out _).mono ?_
      rintro e w1 ⟨rfl, hb⟩
      obtain ⟨m0, m1, hb1, hs1⟩ := two_blocks _ _ _ hb
      have S1 := And.intro (row3_cells m0) (row3_cells m1)
      have T1 := hide hb1
      clear hb hb1 m0 m1 hs1
      obtain ⟨⟨k0, k1, k2⟩, j0, j1, j2⟩ := S1
      have KB := hide fun w2 (hb : Below w1.heap.size w1 w2) => (HLO.out w1 T1.out).keep hb
      have S1 := And.intro (And.intro k0 (And.intro k1 k2)) (And.intro j0 (And.intro j1 j2))
      go_wp2
      have S1 := s6_keep S1 (drew1 _)
      have T1 := hide (bt T1.out (drew1 _))
      have D1 := hide (drew1 w1)
      go_region_held3 (fun w' => (w'.cell? ⟨w.heap.size, 0, none⟩ = some (.slice r.aL r.lo.length r.cL) ∧ w'.cell? ⟨w.heap.size, 1, none⟩ = some (.slice r.aH r.hi.length r.cH) ∧ w'.cell? ⟨w.heap.size, 2, none⟩ = some (.bool r.op)) ∧ w'.cell? ⟨w.heap.size + 1, 0, none⟩ = some (.slice s.aL s.lo.length s.cL) ∧ w'.cell? ⟨w.heap.size + 1, 1, none⟩ = some (.slice s.aH s.hi.length s.cH) ∧ w'.cell? ⟨w.heap.size + 1, 2, none⟩ = some (.bool s.op))
        (with_reducible exact S1)
        (first | (go_at_call 7; with_reducible refine (M1.out _ T1.out).mono ?_; rintro e w9 ⟨rfl, hb⟩; have S1 := s6_keep S1 hb; have D1 := hide (bt D1.out hb); have T1 := hide (bt T1.out hb); clear hb) | (go_at_call 12; refine (HL.out _ T1.out _ _ (KB.out _ D1.out)).mono ?_; rintro e w9 ⟨rfl, hb⟩; have S1 := s6_keep S1 hb; have D1 := hide (bt D1.out hb); have T1 := hide (bt T1.out hb); clear hb))
      obtain ⟨⟨k0, k1, k2⟩, j0, j1, j2⟩ := S1
      go_wp2_with fail
      refine (HX.out _ T1.out).mono ?_
      rintro e w4 ⟨rfl, hb⟩
      have S1 := s6_keep (And.intro (And.intro k0 (And.intro k1 k2)) (And.intro j0 (And.intro j1 j2))) hb
      have T1 := hide (bt T1.out hb)
      clear hb k0 k1 k2 j0 j1 j2
      obtain ⟨⟨k0, k1, k2⟩, j0, j1, j2⟩ := S1
      go_wp2_with fail
      refine (M1.out _ T1.out).mono ?_
      rintro e w5 ⟨rfl, hb⟩
      have S1 := s6_keep (And.intro (And.intro k0 (And.intro k1 k2)) (And.intro j0 (And.intro j1 j2))) hb
      have T1 := hide (bt T1.out hb)
      clear hb k0 k1 k2 j0 j1 j2
      go_wp2
      have S1 := s6_keep S1 (drew1 _)
      have T1 := hide (bt T1.out (drew1 _))
      refine wp_region_held_drew (S := fun w' => (w'.cell? ⟨w.heap.size, 0, none⟩ = some (.slice r.aL r.lo.length r.cL) ∧ w'.cell? ⟨w.heap.size, 1, none⟩ = some (.slice r.aH r.hi.length r.cH) ∧ w'.cell? ⟨w.heap.size, 2, none⟩ = some (.bool r.op)) ∧ w'.cell? ⟨w.heap.size + 1, 0, none⟩ = some (.slice s.aL s.lo.length s.cL) ∧ w'.cell? ⟨w.heap.size + 1, 1, none⟩ = some (.slice s.aH s.hi.length s.cH) ∧ w'.cell? ⟨w.heap.size + 1, 2, none⟩ = some (.bool s.op)) (by kernel_rfl) (by exact S1) (fun hHeld => ?_)
      refine wpAnyH_take (i := 0) (v := ?v31) rfl (by kernel_rfl) (by kernel_rfl) (by kernel_rfl) (fun _ _ _ h => h) (Or.inl ⟨by rfl, ?hy31⟩) (by assumption) ?rest31
      case hy31 => (intro w hSw; (try dsimp only at hSw); go_simp <;> with_reducible rfl)
      try simp only [Act.put, List.getElem_toArray, List.getElem_cons_zero, List.getElem_cons_succ, List.setIfInBounds_toArray, List.set_cons_zero, List.set_cons_succ]
      refine wpAnyH_take (i := 1) (v := ?v32) rfl (by kernel_rfl) (by kernel_rfl) (by kernel_rfl) (fun _ _ _ h => h) (Or.inl ⟨by rfl, ?hy32⟩) (by assumption) ?rest32
      case hy32 => (intro w hSw; (try dsimp only at hSw); go_simp <;> with_reducible rfl)
      try simp only [Act.put, List.getElem_toArray, List.getElem_cons_zero, List.getElem_cons_succ, List.setIfInBounds_toArray, List.set_cons_zero, List.set_cons_succ]
      refine wpAnyH_ready (rs := [2]) (by kernel_rfl) (by simp) ?_
      refine AllReadyH.cons rfl (fun K hK => ?_) AllReadyH.nil
      go_simp
      refine (Q1.out _ T1.out).mono ?_
      rintro e w9 ⟨rfl, hb⟩
      have S1 := s6_keep S1 hb
      have T1 := hide (bt T1.out hb)
      clear hb
      go_wp2_with fail
      refine hK.out _ _ (by exact S1) (fun hHeld => ?_)
      clear hK K
      try simp only [Act.put, List.getElem_toArray, List.getElem_cons_zero, List.getElem_cons_succ, List.setIfInBounds_toArray, List.set_cons_zero, List.set_cons_succ]
      refine wpAnyH_take (i := 3) (v := ?v33) rfl (by kernel_rfl) (by kernel_rfl) (by kernel_rfl) (fun _ _ _ h => h) (Or.inl ⟨by rfl, ?hy33⟩) (by assumption) ?rest33
      case hy33 => (intro w hSw; (try dsimp only at hSw); go_simp <;> with_reducible rfl)
      try simp only [Act.put, List.getElem_toArray, List.getElem_cons_zero, List.getElem_cons_succ, List.setIfInBounds_toArray, List.set_cons_zero, List.set_cons_succ]
      refine wpAnyH_take (i := 4) (v := ?v34) rfl (by kernel_rfl) (by kernel_rfl) (by kernel_rfl) (fun _ _ _ h => h) (Or.inl ⟨by rfl, ?hy34⟩) (by assumption) ?rest34
      case hy34 => (intro w hSw; (try dsimp only at hSw); go_simp <;> with_reducible rfl)
      try simp only [Act.put, List.getElem_toArray, List.getElem_cons_zero, List.getElem_cons_succ, List.setIfInBounds_toArray, List.set_cons_zero, List.set_cons_succ]
      refine wpAnyH_take (i := 5) (v := undef) rfl (by kernel_rfl) (by kernel_rfl) (by kernel_rfl) (fun _ _ _ h => h) (Or.inr ⟨by rfl, rfl⟩) (by assumption) ?_
      try simp only [Act.put, List.getElem_toArray, List.getElem_cons_zero, List.getElem_cons_succ, List.setIfInBounds_toArray, List.set_cons_zero, List.set_cons_succ]
      refine wpAnyH_take (i := 6) (v := undef) rfl (by kernel_rfl) (by kernel_rfl) (by kernel_rfl) (fun _ _ _ h => h) (Or.inr ⟨by rfl, rfl⟩) (by assumption) ?_
      try simp only [Act.put, List.getElem_toArray, List.getElem_cons_zero, List.getElem_cons_succ, List.setIfInBounds_toArray, List.set_cons_zero, List.set_cons_succ]
      refine wpAnyH_take (i := 7) (v := undef) rfl (by kernel_rfl) (by kernel_rfl) (by kernel_rfl) (fun _ _ _ h => h) (Or.inr ⟨by rfl, rfl⟩) (by assumption) ?_
      try simp only [Act.put, List.getElem_toArray, List.getElem_cons_zero, List.getElem_cons_succ, List.setIfInBounds_toArray, List.set_cons_zero, List.set_cons_succ]
      refine wpAnyH_take (i := 8) (v := undef) rfl (by kernel_rfl) (by kernel_rfl) (by kernel_rfl) (fun _ _ _ h => h) (Or.inr ⟨by rfl, rfl⟩) (by assumption) ?_
      try simp only [Act.put, List.getElem_toArray, List.getElem_cons_zero, List.getElem_cons_succ, List.setIfInBounds_toArray, List.set_cons_zero, List.set_cons_succ]
      refine wpAnyH_take (i := 9) (v := undef) rfl (by kernel_rfl) (by kernel_rfl) (by kernel_rfl) (fun _ _ _ h => h) (Or.inr ⟨by rfl, rfl⟩) (by assumption) ?_
      try simp only [Act.put, List.getElem_toArray, List.getElem_cons_zero, List.getElem_cons_succ, List.setIfInBounds_toArray, List.set_cons_zero, List.set_cons_succ]
      refine wpAnyH_take (i := 10) (v := undef) rfl (by kernel_rfl) (by kernel_rfl) (by kernel_rfl) (fun _ _ _ h => h) (Or.inr ⟨by rfl, rfl⟩) (by assumption) ?_
      try simp only [Act.put, List.getElem_toArray, List.getElem_cons_zero, List.getElem_cons_succ, List.setIfInBounds_toArray, List.set_cons_zero, List.set_cons_succ]
      refine wpAnyH_take (i := 11) (v := undef) rfl (by kernel_rfl) (by kernel_rfl) (by kernel_rfl) (fun _ _ _ h => h) (Or.inr ⟨by rfl, rfl⟩) (by assumption) ?_
      try simp only [Act.put, List.getElem_toArray, List.getElem_cons_zero, List.getElem_cons_succ, List.setIfInBounds_toArray, List.set_cons_zero, List.set_cons_succ]
      refine wpAnyH_take (i := 12) (v := ?v35) rfl (by kernel_rfl) (by kernel_rfl) (by kernel_rfl) (fun _ _ _ h => h) (Or.inl ⟨by rfl, ?hy35⟩) (by assumption) ?rest35
      case hy35 => (intro w hSw; (try dsimp only at hSw); go_simp <;> with_reducible rfl)
      try simp only [Act.put, List.getElem_toArray, List.getElem_cons_zero, List.getElem_cons_succ, List.setIfInBounds_toArray, List.set_cons_zero, List.set_cons_succ]
      refine wpAnyH_take (i := 13) (v := ?v36) rfl (by kernel_rfl) (by kernel_rfl) (by kernel_rfl) (fun _ _ _ h => h) (Or.inl ⟨by rfl, ?hy36⟩) (by assumption) ?rest36
      case hy36 => (intro w hSw; (try dsimp only at hSw); go_simp <;> with_reducible rfl)
      try simp only [Act.put, List.getElem_toArray, List.getElem_cons_zero, List.getElem_cons_succ, List.setIfInBounds_toArray, List.set_cons_zero, List.set_cons_succ]
      refine wpAnyH_done (by kernel_rfl) ?_ _
      clear S1
      go_wp2
      go_ret
      exact ⟨by simp, T1.out⟩
theorem spanNoKey_any (w : World) (r : Rv) (hR : Ri w r) (_ : Rb' r) (s : Rv) (hS : Ri w s) (_ : Rb' s) (ax : Option Addr) (cx : Nat) (x : List Nat) (hX : Bs w ax x) (_ : x.length + 64 ≤ 140737488355328) (_ : x.length ≤ cx) :
    Calls Try.prog 4 #[.agg r.cs, .agg s.cs, .slice ax x.length cx] w fun e w' => e = .returned (.bool true) ∧ Below w.heap.size w w' := by
  by_cases hlo1 : r.lo.length < 1
  · exact spanNoKey_a w r hR (by assumption) s hS (by assumption) ax cx x hX (by assumption) (by assumption) hlo1
  · by_cases hlo2 : 24 < r.lo.length
    · exact spanNoKey_b w r hR (by assumption) s hS (by assumption) ax cx x hX (by assumption) (by assumption) hlo1 hlo2
    · exact spanNoKey_c w r hR (by assumption) s hS (by assumption) ax cx x hX (by assumption) (by assumption) hlo1 hlo2
end Go.Proofs.Ytbobnfjbbablkab
