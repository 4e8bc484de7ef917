import Derived.Test.YtbhigodjbfoeoaaGreatWqB11
namespace Go.Proofs.YtbhigodjbfoeoaaGreat
open Go.RowKit
set_option maxRecDepth 8000 in
set_option maxHeartbeats 3200000 in
theorem iCheck_1 (w : World) (p : Pv) (hP : Pi w p) (hf : p.pg.formE = 0) (k1 : p.kind = 1) : Calls Tryz.prog 61 #[p.vl] w fun e w' => e = .returned (.int .i64 (p.pg.check : Int)) ∧ Below w.heap.size w w' := by
  have HP := hide (hP.keep (al w (.cells p.cs 93)))
  have hin : p.items.length ≤ 2199023255489 := hP.it.2.1
  have B0 := hide (Bx.new w 93 p.cs)
  have HW := hide (al w (.cells p.cs 93))
  obtain ⟨v, hv⟩ : ∃ v, w.alloc (.cells p.cs 93) = v := ⟨_, rfl⟩
  rw [hv] at HP B0 HW
  have PG := hide fun (w1 : World) (hb : Below v.heap.size v w1) => Bx.page (B0.out.keep hb)
  have FO := hide fun (w1 : World) => iform_any w1 p
  have HX := hide (form_zero hf)
  have HKD := hide (Pg.kindOk_iff.1 (form_zero hf).1)
  have KYA := hide fun (k : Nat) (hk : k < p.items.length) (w1 : World) (hb : Below v.heap.size v w1) => ikey_any w1 p k (HP.out.keep hb) hk
  have VAA := hide fun (x : Iv) (w1 : World) (hb : Below v.heap.size v w1) => ivalue_any w1 p x
  have CHA := hide fun (x : Iv) (w1 : World) (hb : Below v.heap.size v w1) => ichild_any w1 p x
  have HEA := hide fun (k : Nat) (h0 : firstE p.pg.itemE k = 0) (hk : k < p.items.length) (x : Nat) (hx : x ≠ 0) (e : p.pg.itemE k = x) => (show p.pg.check = x from by
    rw [check_at hf h0 (by simpa [Pv.pg] using hk) (by rw [e]; exact hx), e])
  have HEN := hide fun (h0 : firstE p.pg.itemE p.items.length = 0) => (check_end hf (by simpa [Pv.pg] using h0))
  have HIT := hide fun k => (show p.pg.itemE k = if p.pg.keyOk k = false then 7 else if (decide (k = 0) || decide (0 < cmpB (p.items.getD k Iv.zero).key (p.items.getD (k - 1) Iv.zero).key)) = false then 11 else if (p.items.getD k Iv.zero).it.valOk p.kind = false then 8 else if (p.items.getD k Iv.zero).it.kidOk p.kind = false then 15 else 0 from by
    unfold Pg.itemE Pg.ordOk; rw [Pv.at, Pv.at]; rfl)
  have HNL := hide fun (h : p.kind = 3) => (show p.items.length = 0 from by have h2 := (form_zero hf).2; unfold Pg.form at h2; rw [if_pos (show p.pg.kind = 3 from h)] at h2; simp [Pv.pg] at h2; rw [h2.1.1.2]; rfl)
  have HNX : Hid (p.pg.nextOk = !(decide (p.kind = 3) && decide (p.next ≠ 0) && !isNum p.next)) := rfl
  rw [HX.out.2] at FO
  have hpk : p.pg.kind = p.kind := rfl
  rw [hpk] at HKD
  clear hpk HX hP hf
  generalize p.pg.check = ans at *
  generalize p.pg.itemE = f at *
  generalize p.pg.nextOk = nx at *
  obtain ⟨kind, level, aI, cI, items, aD, cD, data, next⟩ := p
  unfold Pv.vl
  simp only [Pv.cs, Pv.vl] at *
  subst k1
  obtain ⟨b0, b1, b2, b3, b4⟩ := PG.out _ (Below.refl _ _)
  go_enter Tryz.func61, Tryz.ntmps61
  go_wp2_with fail
  refine (FO.out _).mono ?_
  rintro y w1 ⟨rfl, hb⟩
  have T1 := hide hb
  clear hb hv FO b0 b1 b2 b3 b4
  obtain ⟨c0, c1, c2, c3, c4⟩ := PG.out _ T1.out
  go_wp2
  go_loopw [3] (fun i wx => ∃ k : Nat, k ≤ items.length ∧ i = .int .i64 k ∧ Below v.heap.size v wx ∧ firstE f k = 0) (fun i _ => items.length - (intOf i).toNat)
  case atStart => exact ⟨0, Nat.zero_le _, rfl, T1.out, rfl⟩
  case round =>
    clear T1 c0 c1 c2 c3 c4
    obtain ⟨k, hk, rfl, hT, h0⟩ := hrel
    have T1 := hide hT
    have H0 := hide h0
    clear hT h0
    obtain ⟨c0, c1, c2, c3, c4⟩ := PG.out _ T1.out
    by_cases hlt : k < items.length
    · have hlti : (k : Int) < (items.length : Int) := by omega
      have hj1 := w64 (j := k) (by omega)
      have KY := hide (KYA.out k hlt)
      have VA := hide (VAA.out (items.getD k Iv.zero))
      have CH := hide (CHA.out (items.getD k Iv.zero))
      have HE := hide (HEA.out k H0.out hlt)
      have E4 := hide (HIT.out k)
      obtain ⟨bI, off, rfl⟩ : ∃ bI off, aI = some ⟨bI, off, none⟩ := by obtain ⟨b2, o2, e2, _⟩ := HP.out.it.at hlt; exact ⟨b2, o2, e2⟩
      have HR := hide fun (w1 : World) (hb : Below v.heap.size v w1) => rowAt (HP.out.it.keep hb) hlt
      have hlq : k - 1 < items.length := by omega
      have HQ := hide fun (w1 : World) (hb : Below v.heap.size v w1) => (rowAt (HP.out.it.keep hb) hlq).1
      have CM := hide fun (w1 : World) (hb : Below v.heap.size v w1) => Compare_any w1 (items.getD k Iv.zero).aK (items.getD (k - 1) Iv.zero).aK _ _ (items.getD k Iv.zero).cK (items.getD (k - 1) Iv.zero).cK (items.getD k Iv.zero).key (items.getD (k - 1) Iv.zero).key ((HP.out.it.keep hb).1 _ (getD_memR hlt)).bk ((HP.out.it.keep hb).1 _ (getD_memR hlq)).bk rfl rfl
      generalize items.getD k Iv.zero = x at *
      generalize items.getD (k - 1) Iv.zero = y at *
      simp only [Iv.vl] at VA CH
      generalize Pg.keyOk _ k = kk at *
      generalize hvv : x.it.valOk _ = vv at *
      generalize hcc : x.it.kidOk _ = cc at *
      clear hvv hcc
      generalize cmpB x.key y.key = z at *
      obtain ⟨aK, cK, key, aV, cV, val, child, size⟩ := x
      obtain ⟨yaK, ycK, yk, yaV, ycV, yval, ychild, ysize⟩ := y
      simp only [Iv.cs] at *
      clear KYA VAA CHA HEA HIT HEN
      by_cases hk0 : k = 0
      · subst hk0
        simp only [Nat.zero_mul, Nat.add_zero] at HR
        go_wp2_with fail
        refine (KY.out _ T1.out).mono ?_
        rintro y w1 ⟨rfl, hb⟩
        have T1 := hide (bt T1.out hb)
        clear hb
        obtain ⟨c0, c1, c2, c3, c4⟩ := PG.out _ T1.out
        cases kk with
        | false =>
          go_wp2
          go_ret
          exact ⟨ret_nat (HE.out 7 (by decide) (by simp [E4.out])), bt HW.out T1.out⟩
        | true =>
          go_wp2
          have T1 := hide (bt T1.out (dr1 _))
          have S1 := And.intro (PG.out _ T1.out) (HR.out _ T1.out)
          refine wp_region_held_drew (S := fun w' => (w'.cell? ⟨w.heap.size, 0, none⟩ = some (.int .i64 1) ∧ w'.cell? ⟨w.heap.size, 1, none⟩ = some (.int .i64 level) ∧ w'.cell? ⟨w.heap.size, 2, none⟩ = some (.slice (some ⟨bI, off, none⟩) items.length cI) ∧ w'.cell? ⟨w.heap.size, 3, none⟩ = some (.slice aD data.length cD) ∧ w'.cell? ⟨w.heap.size, 4, none⟩ = some (.int .i64 next)) ∧ (w'.cell? ⟨bI, off, none⟩ = some (.slice aK key.length cK) ∧ w'.cell? ⟨bI, off + 1, none⟩ = some (.slice aV val.length cV) ∧ w'.cell? ⟨bI, off + 2, none⟩ = some (.int .i64 child) ∧ w'.cell? ⟨bI, off + 3, none⟩ = some (.int .i64 size))) (by kernel_rfl) (by exact S1) (fun hHeld => ?_)
          refine wpAnyH_take (i := 0) (v := ?v1) rfl (by kernel_rfl) (by kernel_rfl) (by kernel_rfl) (fun _ _ _ h => h) (Or.inl ⟨by rfl, ?hy1⟩) (by assumption) ?rest1
          case hy1 => (intro w hSw; (try dsimp only at hSw); go_simp <;> with_reducible rfl)
          try simp only [Act.put, List.getElem_toArray, List.getElem_cons_zero, List.setIfInBounds_toArray, List.set_cons_zero, List.set_cons_succ]
          refine wpAnyH_take (i := 1) (v := ?v2) rfl (by kernel_rfl) (by kernel_rfl) (by kernel_rfl) (fun _ _ _ h => h) (Or.inl ⟨by rfl, ?hy2⟩) (by assumption) ?rest2
          case hy2 => (intro w hSw; (try dsimp only at hSw); go_simp <;> with_reducible rfl)
          try simp only [Act.put, List.getElem_toArray, List.getElem_cons_zero, List.getElem_cons_succ, List.setIfInBounds_toArray, List.set_cons_zero, List.set_cons_succ]
          refine wpAnyH_take (i := 2) (v := ?v3) rfl (by kernel_rfl) (by kernel_rfl) (by kernel_rfl) (fun _ _ _ h => h) (Or.inl ⟨by rfl, ?hy3⟩) (by assumption) ?rest3
          case hy3 => (intro w hSw; (try dsimp only at hSw); go_simp <;> with_reducible rfl)
          try simp only [Act.put, List.getElem_toArray, List.getElem_cons_zero, List.getElem_cons_succ, List.setIfInBounds_toArray, List.set_cons_zero, List.set_cons_succ]
          refine wpAnyH_take (i := 3) (v := undef) rfl (by kernel_rfl) (by kernel_rfl) (by kernel_rfl) (fun _ _ _ h => h) (Or.inr ⟨by rfl, rfl⟩) (by assumption) ?_
          try simp only [Act.put, List.getElem_toArray, List.getElem_cons_zero, List.getElem_cons_succ, List.setIfInBounds_toArray, List.set_cons_zero, List.set_cons_succ]
          refine wpAnyH_take (i := 4) (v := undef) rfl (by kernel_rfl) (by kernel_rfl) (by kernel_rfl) (fun _ _ _ h => h) (Or.inr ⟨by rfl, rfl⟩) (by assumption) ?_
          try simp only [Act.put, List.getElem_toArray, List.getElem_cons_zero, List.getElem_cons_succ, List.setIfInBounds_toArray, List.set_cons_zero, List.set_cons_succ]
          refine wpAnyH_take (i := 5) (v := undef) rfl (by kernel_rfl) (by kernel_rfl) (by kernel_rfl) (fun _ _ _ h => h) (Or.inr ⟨by rfl, rfl⟩) (by assumption) ?_
          try simp only [Act.put, List.getElem_toArray, List.getElem_cons_zero, List.getElem_cons_succ, List.setIfInBounds_toArray, List.set_cons_zero, List.set_cons_succ]
          refine wpAnyH_take (i := 6) (v := undef) rfl (by kernel_rfl) (by kernel_rfl) (by kernel_rfl) (fun _ _ _ h => h) (Or.inr ⟨by rfl, rfl⟩) (by assumption) ?_
          try simp only [Act.put, List.getElem_toArray, List.getElem_cons_zero, List.getElem_cons_succ, List.setIfInBounds_toArray, List.set_cons_zero, List.set_cons_succ]
          refine wpAnyH_take (i := 7) (v := undef) rfl (by kernel_rfl) (by kernel_rfl) (by kernel_rfl) (fun _ _ _ h => h) (Or.inr ⟨by rfl, rfl⟩) (by assumption) ?_
          try simp only [Act.put, List.getElem_toArray, List.getElem_cons_zero, List.getElem_cons_succ, List.setIfInBounds_toArray, List.set_cons_zero, List.set_cons_succ]
          refine wpAnyH_take (i := 8) (v := undef) rfl (by kernel_rfl) (by kernel_rfl) (by kernel_rfl) (fun _ _ _ h => h) (Or.inr ⟨by rfl, rfl⟩) (by assumption) ?_
          try simp only [Act.put, List.getElem_toArray, List.getElem_cons_zero, List.getElem_cons_succ, List.setIfInBounds_toArray, List.set_cons_zero, List.set_cons_succ]
          refine wpAnyH_take (i := 9) (v := undef) rfl (by kernel_rfl) (by kernel_rfl) (by kernel_rfl) (fun _ _ _ h => h) (Or.inr ⟨by rfl, rfl⟩) (by assumption) ?_
          try simp only [Act.put, List.getElem_toArray, List.getElem_cons_zero, List.getElem_cons_succ, List.setIfInBounds_toArray, List.set_cons_zero, List.set_cons_succ]
          refine wpAnyH_take (i := 10) (v := undef) rfl (by kernel_rfl) (by kernel_rfl) (by kernel_rfl) (fun _ _ _ h => h) (Or.inr ⟨by rfl, rfl⟩) (by assumption) ?_
          try simp only [Act.put, List.getElem_toArray, List.getElem_cons_zero, List.getElem_cons_succ, List.setIfInBounds_toArray, List.set_cons_zero, List.set_cons_succ]
          refine wpAnyH_take (i := 11) (v := undef) rfl (by kernel_rfl) (by kernel_rfl) (by kernel_rfl) (fun _ _ _ h => h) (Or.inr ⟨by rfl, rfl⟩) (by assumption) ?_
          try simp only [Act.put, List.getElem_toArray, List.getElem_cons_zero, List.getElem_cons_succ, List.setIfInBounds_toArray, List.set_cons_zero, List.set_cons_succ]
          refine wpAnyH_take (i := 12) (v := undef) rfl (by kernel_rfl) (by kernel_rfl) (by kernel_rfl) (fun _ _ _ h => h) (Or.inr ⟨by rfl, rfl⟩) (by assumption) ?_
          try simp only [Act.put, List.getElem_toArray, List.getElem_cons_zero, List.getElem_cons_succ, List.setIfInBounds_toArray, List.set_cons_zero, List.set_cons_succ]
          refine wpAnyH_take (i := 13) (v := undef) rfl (by kernel_rfl) (by kernel_rfl) (by kernel_rfl) (fun _ _ _ h => h) (Or.inr ⟨by rfl, rfl⟩) (by assumption) ?_
          try simp only [Act.put, List.getElem_toArray, List.getElem_cons_zero, List.getElem_cons_succ, List.setIfInBounds_toArray, List.set_cons_zero, List.set_cons_succ]
          refine wpAnyH_take (i := 14) (v := undef) rfl (by kernel_rfl) (by kernel_rfl) (by kernel_rfl) (fun _ _ _ h => h) (Or.inr ⟨by rfl, rfl⟩) (by assumption) ?_
          try simp only [Act.put, List.getElem_toArray, List.getElem_cons_zero, List.getElem_cons_succ, List.setIfInBounds_toArray, List.set_cons_zero, List.set_cons_succ]
          refine wpAnyH_take (i := 15) (v := undef) rfl (by kernel_rfl) (by kernel_rfl) (by kernel_rfl) (fun _ _ _ h => h) (Or.inr ⟨by rfl, rfl⟩) (by assumption) ?_
          try simp only [Act.put, List.getElem_toArray, List.getElem_cons_zero, List.getElem_cons_succ, List.setIfInBounds_toArray, List.set_cons_zero, List.set_cons_succ]
          refine wpAnyH_take (i := 16) (v := undef) rfl (by kernel_rfl) (by kernel_rfl) (by kernel_rfl) (fun _ _ _ h => h) (Or.inr ⟨by rfl, rfl⟩) (by assumption) ?_
          try simp only [Act.put, List.getElem_toArray, List.getElem_cons_zero, List.getElem_cons_succ, List.setIfInBounds_toArray, List.set_cons_zero, List.set_cons_succ]
          refine wpAnyH_take (i := 17) (v := undef) rfl (by kernel_rfl) (by kernel_rfl) (by kernel_rfl) (fun _ _ _ h => h) (Or.inr ⟨by rfl, rfl⟩) (by assumption) ?_
          try simp only [Act.put, List.getElem_toArray, List.getElem_cons_zero, List.getElem_cons_succ, List.setIfInBounds_toArray, List.set_cons_zero, List.set_cons_succ]
          refine wpAnyH_take (i := 18) (v := ?v4) rfl (by kernel_rfl) (by kernel_rfl) (by kernel_rfl) (fun _ _ _ h => h) (Or.inl ⟨by rfl, ?hy4⟩) (by assumption) ?rest4
          case hy4 => (intro w hSw; (try dsimp only at hSw); go_simp <;> with_reducible rfl)
          try simp only [Act.put, List.getElem_toArray, List.getElem_cons_zero, List.getElem_cons_succ, List.setIfInBounds_toArray, List.set_cons_zero, List.set_cons_succ]
          refine wpAnyH_done (by kernel_rfl) ?_ _
          clear S1
          go_wp2
          have T1 := hide (bt T1.out (dr1 _))
          have S1 := And.intro (PG.out _ T1.out) (HR.out _ T1.out)
          refine wp_region_held_drew (S := fun w' => (w'.cell? ⟨w.heap.size, 0, none⟩ = some (.int .i64 1) ∧ w'.cell? ⟨w.heap.size, 1, none⟩ = some (.int .i64 level) ∧ w'.cell? ⟨w.heap.size, 2, none⟩ = some (.slice (some ⟨bI, off, none⟩) items.length cI) ∧ w'.cell? ⟨w.heap.size, 3, none⟩ = some (.slice aD data.length cD) ∧ w'.cell? ⟨w.heap.size, 4, none⟩ = some (.int .i64 next)) ∧ (w'.cell? ⟨bI, off, none⟩ = some (.slice aK key.length cK) ∧ w'.cell? ⟨bI, off + 1, none⟩ = some (.slice aV val.length cV) ∧ w'.cell? ⟨bI, off + 2, none⟩ = some (.int .i64 child) ∧ w'.cell? ⟨bI, off + 3, none⟩ = some (.int .i64 size))) (by kernel_rfl) (by exact S1) (fun hHeld => ?_)
          refine wpAnyH_take (i := 0) (v := ?v5) rfl (by kernel_rfl) (by kernel_rfl) (by kernel_rfl) (fun _ _ _ h => h) (Or.inl ⟨by rfl, ?hy5⟩) (by assumption) ?rest5
          case hy5 => (intro w hSw; (try dsimp only at hSw); go_simp <;> with_reducible rfl)
          try simp only [Act.put, List.getElem_toArray, List.getElem_cons_zero, List.setIfInBounds_toArray, List.set_cons_zero, List.set_cons_succ]
          refine wpAnyH_take (i := 1) (v := ?v6) rfl (by kernel_rfl) (by kernel_rfl) (by kernel_rfl) (fun _ _ _ h => h) (Or.inl ⟨by rfl, ?hy6⟩) (by assumption) ?rest6
          case hy6 => (intro w hSw; (try dsimp only at hSw); go_simp <;> with_reducible rfl)
          try simp only [Act.put, List.getElem_toArray, List.getElem_cons_zero, List.getElem_cons_succ, List.setIfInBounds_toArray, List.set_cons_zero, List.set_cons_succ]
          refine wpAnyH_take (i := 2) (v := ?v7) rfl (by kernel_rfl) (by kernel_rfl) (by kernel_rfl) (fun _ _ _ h => h) (Or.inl ⟨by rfl, ?hy7⟩) (by assumption) ?rest7
          case hy7 => (intro w hSw; (try dsimp only at hSw); go_simp <;> with_reducible rfl)
          try simp only [Act.put, List.getElem_toArray, List.getElem_cons_zero, List.getElem_cons_succ, List.setIfInBounds_toArray, List.set_cons_zero, List.set_cons_succ]
          refine wpAnyH_take (i := 3) (v := ?v8) rfl (by kernel_rfl) (by kernel_rfl) (by kernel_rfl) (fun _ _ _ h => h) (Or.inl ⟨by rfl, ?hy8⟩) (by assumption) ?rest8
          case hy8 => (intro w hSw; (try dsimp only at hSw); go_simp <;> with_reducible rfl)
          try simp only [Act.put, List.getElem_toArray, List.getElem_cons_zero, List.getElem_cons_succ, List.setIfInBounds_toArray, List.set_cons_zero, List.set_cons_succ]
          refine wpAnyH_take (i := 4) (v := ?v9) rfl (by kernel_rfl) (by kernel_rfl) (by kernel_rfl) (fun _ _ _ h => h) (Or.inl ⟨by rfl, ?hy9⟩) (by assumption) ?rest9
          case hy9 => (intro w hSw; (try dsimp only at hSw); go_simp <;> with_reducible rfl)
          try simp only [Act.put, List.getElem_toArray, List.getElem_cons_zero, List.getElem_cons_succ, List.setIfInBounds_toArray, List.set_cons_zero, List.set_cons_succ]
          refine wpAnyH_take (i := 5) (v := ?v10) rfl (by kernel_rfl) (by kernel_rfl) (by kernel_rfl) (fun _ _ _ h => h) (Or.inl ⟨by rfl, ?hy10⟩) (by assumption) ?rest10
          case hy10 => (intro w hSw; (try dsimp only at hSw); go_simp <;> with_reducible rfl)
          try simp only [Act.put, List.getElem_toArray, List.getElem_cons_zero, List.getElem_cons_succ, List.setIfInBounds_toArray, List.set_cons_zero, List.set_cons_succ]
          refine wpAnyH_ready (rs := [6]) (by kernel_rfl) (by simp) ?_
          refine AllReadyH.cons rfl (fun K hK => ?_) AllReadyH.nil
          go_simp
          refine (VA.out _ T1.out).mono ?_
          rintro e w9 ⟨rfl, hb⟩
          have T1 := hide (bt T1.out hb)
          have S1 := And.intro (PG.out _ T1.out) (HR.out _ T1.out)
          clear hb
          go_wp2_with fail
          refine hK.out _ _ (by exact S1) (fun hHeld => ?_)
          clear hK K
          try simp only [Act.put, List.getElem_toArray, List.getElem_cons_zero, List.getElem_cons_succ, List.setIfInBounds_toArray, List.set_cons_zero, List.set_cons_succ]
          refine wpAnyH_take (i := 7) (v := ?v11) rfl (by kernel_rfl) (by kernel_rfl) (by kernel_rfl) (fun _ _ _ h => h) (Or.inl ⟨by rfl, ?hy11⟩) (by assumption) ?rest11
          case hy11 => (intro w hSw; (try dsimp only at hSw); go_simp <;> with_reducible rfl)
          try simp only [Act.put, List.getElem_toArray, List.getElem_cons_zero, List.getElem_cons_succ, List.setIfInBounds_toArray, List.set_cons_zero, List.set_cons_succ]
          refine wpAnyH_done (by kernel_rfl) ?_ _
          clear S1
          cases vv with
          | false =>
            go_wp2
            go_ret
            exact ⟨ret_nat (HE.out 8 (by decide) (by rw [E4.out]; first | (simp; done) | (simp; omega))), bt HW.out T1.out⟩
          | true =>
            go_wp2
            have T1 := hide (bt T1.out (dr1 _))
            have S1 := And.intro (PG.out _ T1.out) (HR.out _ T1.out)
            refine wp_region_held_drew (S := fun w' => (w'.cell? ⟨w.heap.size, 0, none⟩ = some (.int .i64 1) ∧ w'.cell? ⟨w.heap.size, 1, none⟩ = some (.int .i64 level) ∧ w'.cell? ⟨w.heap.size, 2, none⟩ = some (.slice (some ⟨bI, off, none⟩) items.length cI) ∧ w'.cell? ⟨w.heap.size, 3, none⟩ = some (.slice aD data.length cD) ∧ w'.cell? ⟨w.heap.size, 4, none⟩ = some (.int .i64 next)) ∧ (w'.cell? ⟨bI, off, none⟩ = some (.slice aK key.length cK) ∧ w'.cell? ⟨bI, off + 1, none⟩ = some (.slice aV val.length cV) ∧ w'.cell? ⟨bI, off + 2, none⟩ = some (.int .i64 child) ∧ w'.cell? ⟨bI, off + 3, none⟩ = some (.int .i64 size))) (by kernel_rfl) (by exact S1) (fun hHeld => ?_)
            refine wpAnyH_take (i := 0) (v := ?v12) rfl (by kernel_rfl) (by kernel_rfl) (by kernel_rfl) (fun _ _ _ h => h) (Or.inl ⟨by rfl, ?hy12⟩) (by assumption) ?rest12
            case hy12 => (intro w hSw; (try dsimp only at hSw); go_simp <;> with_reducible rfl)
            try simp only [Act.put, List.getElem_toArray, List.getElem_cons_zero, List.setIfInBounds_toArray, List.set_cons_zero, List.set_cons_succ]
            refine wpAnyH_take (i := 1) (v := ?v13) rfl (by kernel_rfl) (by kernel_rfl) (by kernel_rfl) (fun _ _ _ h => h) (Or.inl ⟨by rfl, ?hy13⟩) (by assumption) ?rest13
            case hy13 => (intro w hSw; (try dsimp only at hSw); go_simp <;> with_reducible rfl)
            try simp only [Act.put, List.getElem_toArray, List.getElem_cons_zero, List.getElem_cons_succ, List.setIfInBounds_toArray, List.set_cons_zero, List.set_cons_succ]
            refine wpAnyH_take (i := 2) (v := ?v14) rfl (by kernel_rfl) (by kernel_rfl) (by kernel_rfl) (fun _ _ _ h => h) (Or.inl ⟨by rfl, ?hy14⟩) (by assumption) ?rest14
            case hy14 => (intro w hSw; (try dsimp only at hSw); go_simp <;> with_reducible rfl)
            try simp only [Act.put, List.getElem_toArray, List.getElem_cons_zero, List.getElem_cons_succ, List.setIfInBounds_toArray, List.set_cons_zero, List.set_cons_succ]
            refine wpAnyH_take (i := 3) (v := ?v15) rfl (by kernel_rfl) (by kernel_rfl) (by kernel_rfl) (fun _ _ _ h => h) (Or.inl ⟨by rfl, ?hy15⟩) (by assumption) ?rest15
            case hy15 => (intro w hSw; (try dsimp only at hSw); go_simp <;> with_reducible rfl)
            try simp only [Act.put, List.getElem_toArray, List.getElem_cons_zero, List.getElem_cons_succ, List.setIfInBounds_toArray, List.set_cons_zero, List.set_cons_succ]
            refine wpAnyH_take (i := 4) (v := ?v16) rfl (by kernel_rfl) (by kernel_rfl) (by kernel_rfl) (fun _ _ _ h => h) (Or.inl ⟨by rfl, ?hy16⟩) (by assumption) ?rest16
            case hy16 => (intro w hSw; (try dsimp only at hSw); go_simp <;> with_reducible rfl)
            try simp only [Act.put, List.getElem_toArray, List.getElem_cons_zero, List.getElem_cons_succ, List.setIfInBounds_toArray, List.set_cons_zero, List.set_cons_succ]
            refine wpAnyH_take (i := 5) (v := ?v17) rfl (by kernel_rfl) (by kernel_rfl) (by kernel_rfl) (fun _ _ _ h => h) (Or.inl ⟨by rfl, ?hy17⟩) (by assumption) ?rest17
            case hy17 => (intro w hSw; (try dsimp only at hSw); go_simp <;> with_reducible rfl)
            try simp only [Act.put, List.getElem_toArray, List.getElem_cons_zero, List.getElem_cons_succ, List.setIfInBounds_toArray, List.set_cons_zero, List.set_cons_succ]
            refine wpAnyH_ready (rs := [6]) (by kernel_rfl) (by simp) ?_
            refine AllReadyH.cons rfl (fun K hK => ?_) AllReadyH.nil
            go_simp
            refine (CH.out _ T1.out).mono ?_
            rintro e w9 ⟨rfl, hb⟩
            have T1 := hide (bt T1.out hb)
            have S1 := And.intro (PG.out _ T1.out) (HR.out _ T1.out)
            clear hb
            go_wp2_with fail
            refine hK.out _ _ (by exact S1) (fun hHeld => ?_)
            clear hK K
            try simp only [Act.put, List.getElem_toArray, List.getElem_cons_zero, List.getElem_cons_succ, List.setIfInBounds_toArray, List.set_cons_zero, List.set_cons_succ]
            refine wpAnyH_take (i := 7) (v := ?v18) rfl (by kernel_rfl) (by kernel_rfl) (by kernel_rfl) (fun _ _ _ h => h) (Or.inl ⟨by rfl, ?hy18⟩) (by assumption) ?rest18
            case hy18 => (intro w hSw; (try dsimp only at hSw); go_simp <;> with_reducible rfl)
            try simp only [Act.put, List.getElem_toArray, List.getElem_cons_zero, List.getElem_cons_succ, List.setIfInBounds_toArray, List.set_cons_zero, List.set_cons_succ]
            refine wpAnyH_done (by kernel_rfl) ?_ _
            clear S1
            cases cc with
            | false =>
              go_wp2
              go_ret
              exact ⟨ret_nat (HE.out 15 (by decide) (by rw [E4.out]; first | (simp; done) | (simp; omega))), bt HW.out T1.out⟩
            | true =>
              go_wp2
              go_roundw
              case rel => exact ⟨0 + 1, by omega, by first | (go_num; done) | exact congrArg (Value.int IntKind.i64) (by omega), T1.out, by rw [firstE_snoc, H0.out]; show f 0 = 0; rw [E4.out]; first | (simp; done) | (simp; omega)⟩
              case measure => first | exact meas_up _ _ _ hj1 hlt | exact meas_up _ _ _ rfl hlt | (simp [intOf]; omega)
      · obtain ⟨j, rfl⟩ : ∃ j, k = j + 1 := ⟨k - 1, by omega⟩
        rw [show j + 1 - 1 = j by omega] at HQ
        have hwj : IntKind.i64.wrap (j : Int) = (j : Int) := wrapI (by omega) (by omega)
        have hkq : (j : Int) < (items.length : Int) := by omega
        have hj0 : (0 : Int) ≤ (j : Int) + 1 := by omega
        go_wp2_with fail
        refine (KY.out _ T1.out).mono ?_
        rintro y w1 ⟨rfl, hb⟩
        have T1 := hide (bt T1.out hb)
        clear hb
        obtain ⟨c0, c1, c2, c3, c4⟩ := PG.out _ T1.out
        cases kk with
        | false =>
          go_wp2
          go_ret
          exact ⟨ret_nat (HE.out 7 (by decide) (by simp [E4.out])), bt HW.out T1.out⟩
        | true =>
          go_wp2
          have T1 := hide (bt T1.out (dr1 _))
          have S1 := And.intro (PG.out _ T1.out) (And.intro (HR.out _ T1.out) (HQ.out _ T1.out))
          refine wp_region_held_drew (S := fun w' => (w'.cell? ⟨w.heap.size, 0, none⟩ = some (.int .i64 1) ∧ w'.cell? ⟨w.heap.size, 1, none⟩ = some (.int .i64 level) ∧ w'.cell? ⟨w.heap.size, 2, none⟩ = some (.slice (some ⟨bI, off, none⟩) items.length cI) ∧ w'.cell? ⟨w.heap.size, 3, none⟩ = some (.slice aD data.length cD) ∧ w'.cell? ⟨w.heap.size, 4, none⟩ = some (.int .i64 next)) ∧ (w'.cell? ⟨bI, off + (j + 1) * 4, none⟩ = some (.slice aK key.length cK) ∧ w'.cell? ⟨bI, off + (j + 1) * 4 + 1, none⟩ = some (.slice aV val.length cV) ∧ w'.cell? ⟨bI, off + (j + 1) * 4 + 2, none⟩ = some (.int .i64 child) ∧ w'.cell? ⟨bI, off + (j + 1) * 4 + 3, none⟩ = some (.int .i64 size)) ∧ w'.cell? ⟨bI, off + j * 4, none⟩ = some (.slice yaK yk.length ycK)) (by kernel_rfl) (by exact S1) (fun hHeld => ?_)
          refine wpAnyH_take (i := 0) (v := ?v19) rfl (by kernel_rfl) (by kernel_rfl) (by kernel_rfl) (fun _ _ _ h => h) (Or.inl ⟨by rfl, ?hy19⟩) (by assumption) ?rest19
          case hy19 => (intro w hSw; (try dsimp only at hSw); go_simp <;> with_reducible rfl)
          try simp only [Act.put, List.getElem_toArray, List.getElem_cons_zero, List.setIfInBounds_toArray, List.set_cons_zero, List.set_cons_succ]
          refine wpAnyH_take (i := 1) (v := ?v20) rfl (by kernel_rfl) (by kernel_rfl) (by kernel_rfl) (fun _ _ _ h => h) (Or.inl ⟨by rfl, ?hy20⟩) (by assumption) ?rest20
          case hy20 => (intro w hSw; (try dsimp only at hSw); go_simp <;> with_reducible rfl)
          try simp only [Act.put, List.getElem_toArray, List.getElem_cons_zero, List.getElem_cons_succ, List.setIfInBounds_toArray, List.set_cons_zero, List.set_cons_succ]
          refine wpAnyH_take (i := 2) (v := ?v21) rfl (by kernel_rfl) (by kernel_rfl) (by kernel_rfl) (fun _ _ _ h => h) (Or.inl ⟨by rfl, ?hy21⟩) (by assumption) ?rest21
          case hy21 => (intro w hSw; (try dsimp only at hSw); go_simp <;> with_reducible rfl)
          try simp only [Act.put, List.getElem_toArray, List.getElem_cons_zero, List.getElem_cons_succ, List.setIfInBounds_toArray, List.set_cons_zero, List.set_cons_succ]
          refine wpAnyH_take (i := 3) (v := ?v22) rfl (by kernel_rfl) (by kernel_rfl) (by kernel_rfl) (fun _ _ _ h => h) (Or.inl ⟨by rfl, ?hy22⟩) (by assumption) ?rest22
          case hy22 => (intro w hSw; (try dsimp only at hSw); go_simp <;> with_reducible rfl)
          try simp only [Act.put, List.getElem_toArray, List.getElem_cons_zero, List.getElem_cons_succ, List.setIfInBounds_toArray, List.set_cons_zero, List.set_cons_succ]
          refine wpAnyH_take (i := 4) (v := ?v23) rfl (by kernel_rfl) (by kernel_rfl) (by kernel_rfl) (fun _ _ _ h => h) (Or.inl ⟨by rfl, ?hy23⟩) (by assumption) ?rest23
          case hy23 => (intro w hSw; (try dsimp only at hSw); go_simp <;> with_reducible rfl)
          try simp only [Act.put, List.getElem_toArray, List.getElem_cons_zero, List.getElem_cons_succ, List.setIfInBounds_toArray, List.set_cons_zero, List.set_cons_succ]
          refine wpAnyH_take (i := 5) (v := ?v24) rfl (by kernel_rfl) (by kernel_rfl) (by kernel_rfl) (fun _ _ _ h => h) (Or.inl ⟨by rfl, ?hy24⟩) (by assumption) ?rest24
          case hy24 => (intro w hSw; (try dsimp only at hSw); go_simp <;> with_reducible rfl)
          try simp only [Act.put, List.getElem_toArray, List.getElem_cons_zero, List.getElem_cons_succ, List.setIfInBounds_toArray, List.set_cons_zero, List.set_cons_succ]
          refine wpAnyH_take (i := 6) (v := ?v25) rfl (by kernel_rfl) (by kernel_rfl) (by kernel_rfl) (fun _ _ _ h => h) (Or.inl ⟨by rfl, ?hy25⟩) (by assumption) ?rest25
          case hy25 => (intro w hSw; (try dsimp only at hSw); go_simp <;> with_reducible rfl)
          try simp only [Act.put, List.getElem_toArray, List.getElem_cons_zero, List.getElem_cons_succ, List.setIfInBounds_toArray, List.set_cons_zero, List.set_cons_succ]
          refine wpAnyH_take (i := 7) (v := ?v26) rfl (by kernel_rfl) (by kernel_rfl) (by kernel_rfl) (fun _ _ _ h => h) (Or.inl ⟨by rfl, ?hy26⟩) (by assumption) ?rest26
          case hy26 => (intro w hSw; (try dsimp only at hSw); go_simp <;> with_reducible rfl)
          try simp only [Act.put, List.getElem_toArray, List.getElem_cons_zero, List.getElem_cons_succ, List.setIfInBounds_toArray, List.set_cons_zero, List.set_cons_succ]
          refine wpAnyH_take (i := 8) (v := ?v27) rfl (by kernel_rfl) (by kernel_rfl) (by kernel_rfl) (fun _ _ _ h => h) (Or.inl ⟨by rfl, ?hy27⟩) (by assumption) ?rest27
          case hy27 => (intro w hSw; (try dsimp only at hSw); go_simp <;> with_reducible rfl)
          try simp only [Act.put, List.getElem_toArray, List.getElem_cons_zero, List.getElem_cons_succ, List.setIfInBounds_toArray, List.set_cons_zero, List.set_cons_succ]
          refine wpAnyH_take (i := 9) (v := ?v28) rfl (by kernel_rfl) (by kernel_rfl) (by kernel_rfl) (fun _ _ _ h => h) (Or.inl ⟨by rfl, ?hy28⟩) (by assumption) ?rest28
          case hy28 => (intro w hSw; (try dsimp only at hSw); go_simp <;> with_reducible rfl)
          try simp only [Act.put, List.getElem_toArray, List.getElem_cons_zero, List.getElem_cons_succ, List.setIfInBounds_toArray, List.set_cons_zero, List.set_cons_succ]
          refine wpAnyH_take (i := 10) (v := ?v29) rfl (by kernel_rfl) (by kernel_rfl) (by kernel_rfl) (fun _ _ _ h => h) (Or.inl ⟨by rfl, ?hy29⟩) (by assumption) ?rest29
          case hy29 => (intro w hSw; (try dsimp only at hSw); go_simp <;> with_reducible rfl)
          try simp only [Act.put, List.getElem_toArray, List.getElem_cons_zero, List.getElem_cons_succ, List.setIfInBounds_toArray, List.set_cons_zero, List.set_cons_succ]
          refine wpAnyH_take (i := 11) (v := ?v30) rfl (by kernel_rfl) (by kernel_rfl) (by kernel_rfl) (fun _ _ _ h => h) (Or.inl ⟨by rfl, ?hy30⟩) (by assumption) ?rest30
          case hy30 => (intro w hSw; (try dsimp only at hSw); go_simp <;> with_reducible rfl)
          try simp only [Act.put, List.getElem_toArray, List.getElem_cons_zero, List.getElem_cons_succ, List.setIfInBounds_toArray, List.set_cons_zero, List.set_cons_succ]
          refine wpAnyH_take (i := 12) (v := ?v31) rfl (by kernel_rfl) (by kernel_rfl) (by kernel_rfl) (fun _ _ _ h => h) (Or.inl ⟨by rfl, ?hy31⟩) (by assumption) ?rest31
          case hy31 => (intro w hSw; (try dsimp only at hSw); go_simp <;> with_reducible rfl)
          try simp only [Act.put, List.getElem_toArray, List.getElem_cons_zero, List.getElem_cons_succ, List.setIfInBounds_toArray, List.set_cons_zero, List.set_cons_succ]
          refine wpAnyH_take (i := 13) (v := ?v32) rfl (by kernel_rfl) (by kernel_rfl) (by kernel_rfl) (fun _ _ _ h => h) (Or.inl ⟨by rfl, ?hy32⟩) (by assumption) ?rest32
          case hy32 => (intro w hSw; (try dsimp only at hSw); go_simp <;> with_reducible rfl)
          try simp only [Act.put, List.getElem_toArray, List.getElem_cons_zero, List.getElem_cons_succ, List.setIfInBounds_toArray, List.set_cons_zero, List.set_cons_succ]
          refine wpAnyH_take (i := 14) (v := ?v33) rfl (by kernel_rfl) (by kernel_rfl) (by kernel_rfl) (fun _ _ _ h => h) (Or.inl ⟨by rfl, ?hy33⟩) (by assumption) ?rest33
          case hy33 => (intro w hSw; (try dsimp only at hSw); go_simp <;> with_reducible rfl)
          try simp only [Act.put, List.getElem_toArray, List.getElem_cons_zero, List.getElem_cons_succ, List.setIfInBounds_toArray, List.set_cons_zero, List.set_cons_succ]
          refine wpAnyH_take (i := 15) (v := ?v34) rfl (by kernel_rfl) (by kernel_rfl) (by kernel_rfl) (fun _ _ _ h => h) (Or.inl ⟨by rfl, ?hy34⟩) (by assumption) ?rest34
          case hy34 => (intro w hSw; (try dsimp only at hSw); go_simp <;> with_reducible rfl)
          try simp only [Act.put, List.getElem_toArray, List.getElem_cons_zero, List.getElem_cons_succ, List.setIfInBounds_toArray, List.set_cons_zero, List.set_cons_succ]
          refine wpAnyH_ready (rs := [16]) (by kernel_rfl) (by simp) ?_
          refine AllReadyH.cons rfl (fun K hK => ?_) AllReadyH.nil
          go_simp
          refine (CM.out _ T1.out).mono ?_
          rintro e w9 ⟨rfl, hb⟩
          have T1 := hide (bt T1.out hb)
          have S1 := And.intro (PG.out _ T1.out) (And.intro (HR.out _ T1.out) (HQ.out _ T1.out))
          clear hb
          go_wp2_with fail
          refine hK.out _ _ (by exact S1) (fun hHeld => ?_)
          clear hK K
          try simp only [Act.put, List.getElem_toArray, List.getElem_cons_zero, List.getElem_cons_succ, List.setIfInBounds_toArray, List.set_cons_zero, List.set_cons_succ]
          refine wpAnyH_take (i := 17) (v := ?v35) rfl (by kernel_rfl) (by kernel_rfl) (by kernel_rfl) (fun _ _ _ h => h) (Or.inl ⟨by rfl, ?hy35⟩) (by assumption) ?rest35
          case hy35 => (intro w hSw; (try dsimp only at hSw); go_simp <;> with_reducible rfl)
          try simp only [Act.put, List.getElem_toArray, List.getElem_cons_zero, List.getElem_cons_succ, List.setIfInBounds_toArray, List.set_cons_zero, List.set_cons_succ]
          refine wpAnyH_take (i := 18) (v := ?v36) rfl (by kernel_rfl) (by kernel_rfl) (by kernel_rfl) (fun _ _ _ h => h) (Or.inl ⟨by rfl, ?hy36⟩) (by assumption) ?rest36
          case hy36 => (intro w hSw; (try dsimp only at hSw); go_simp <;> with_reducible rfl)
          try simp only [Act.put, List.getElem_toArray, List.getElem_cons_zero, List.getElem_cons_succ, List.setIfInBounds_toArray, List.set_cons_zero, List.set_cons_succ]
          refine wpAnyH_done (by kernel_rfl) ?_ _
          clear S1
          by_cases hz : z ≤ 0
          · have hzd : decide (z ≤ 0) = true := by simpa using hz
            go_wp2
            go_ret
            exact ⟨ret_nat (HE.out 11 (by decide) (by rw [E4.out]; first | (simp; done) | (simp; omega) | (simp [hz]; done) | (simp [hz]; omega))), bt HW.out T1.out⟩
          · have hzd : decide (z ≤ 0) = false := by simpa using hz
            go_wp2
            have T1 := hide (bt T1.out (dr1 _))
            have S1 := And.intro (PG.out _ T1.out) (HR.out _ T1.out)
            refine wp_region_held_drew (S := fun w' => (w'.cell? ⟨w.heap.size, 0, none⟩ = some (.int .i64 1) ∧ w'.cell? ⟨w.heap.size, 1, none⟩ = some (.int .i64 level) ∧ w'.cell? ⟨w.heap.size, 2, none⟩ = some (.slice (some ⟨bI, off, none⟩) items.length cI) ∧ w'.cell? ⟨w.heap.size, 3, none⟩ = some (.slice aD data.length cD) ∧ w'.cell? ⟨w.heap.size, 4, none⟩ = some (.int .i64 next)) ∧ (w'.cell? ⟨bI, off + (j + 1) * 4, none⟩ = some (.slice aK key.length cK) ∧ w'.cell? ⟨bI, off + (j + 1) * 4 + 1, none⟩ = some (.slice aV val.length cV) ∧ w'.cell? ⟨bI, off + (j + 1) * 4 + 2, none⟩ = some (.int .i64 child) ∧ w'.cell? ⟨bI, off + (j + 1) * 4 + 3, none⟩ = some (.int .i64 size))) (by kernel_rfl) (by exact S1) (fun hHeld => ?_)
            refine wpAnyH_take (i := 0) (v := ?v37) rfl (by kernel_rfl) (by kernel_rfl) (by kernel_rfl) (fun _ _ _ h => h) (Or.inl ⟨by rfl, ?hy37⟩) (by assumption) ?rest37
            case hy37 => (intro w hSw; (try dsimp only at hSw); go_simp <;> with_reducible rfl)
            try simp only [Act.put, List.getElem_toArray, List.getElem_cons_zero, List.setIfInBounds_toArray, List.set_cons_zero, List.set_cons_succ]
            refine wpAnyH_take (i := 1) (v := ?v38) rfl (by kernel_rfl) (by kernel_rfl) (by kernel_rfl) (fun _ _ _ h => h) (Or.inl ⟨by rfl, ?hy38⟩) (by assumption) ?rest38
            case hy38 => (intro w hSw; (try dsimp only at hSw); go_simp <;> with_reducible rfl)
            try simp only [Act.put, List.getElem_toArray, List.getElem_cons_zero, List.getElem_cons_succ, List.setIfInBounds_toArray, List.set_cons_zero, List.set_cons_succ]
            refine wpAnyH_take (i := 2) (v := ?v39) rfl (by kernel_rfl) (by kernel_rfl) (by kernel_rfl) (fun _ _ _ h => h) (Or.inl ⟨by rfl, ?hy39⟩) (by assumption) ?rest39
            case hy39 => (intro w hSw; (try dsimp only at hSw); go_simp <;> with_reducible rfl)
            try simp only [Act.put, List.getElem_toArray, List.getElem_cons_zero, List.getElem_cons_succ, List.setIfInBounds_toArray, List.set_cons_zero, List.set_cons_succ]
            refine wpAnyH_take (i := 3) (v := ?v40) rfl (by kernel_rfl) (by kernel_rfl) (by kernel_rfl) (fun _ _ _ h => h) (Or.inl ⟨by rfl, ?hy40⟩) (by assumption) ?rest40
            case hy40 => (intro w hSw; (try dsimp only at hSw); go_simp <;> with_reducible rfl)
            try simp only [Act.put, List.getElem_toArray, List.getElem_cons_zero, List.getElem_cons_succ, List.setIfInBounds_toArray, List.set_cons_zero, List.set_cons_succ]
            refine wpAnyH_take (i := 4) (v := ?v41) rfl (by kernel_rfl) (by kernel_rfl) (by kernel_rfl) (fun _ _ _ h => h) (Or.inl ⟨by rfl, ?hy41⟩) (by assumption) ?rest41
            case hy41 => (intro w hSw; (try dsimp only at hSw); go_simp <;> with_reducible rfl)
            try simp only [Act.put, List.getElem_toArray, List.getElem_cons_zero, List.getElem_cons_succ, List.setIfInBounds_toArray, List.set_cons_zero, List.set_cons_succ]
            refine wpAnyH_take (i := 5) (v := ?v42) rfl (by kernel_rfl) (by kernel_rfl) (by kernel_rfl) (fun _ _ _ h => h) (Or.inl ⟨by rfl, ?hy42⟩) (by assumption) ?rest42
            case hy42 => (intro w hSw; (try dsimp only at hSw); go_simp <;> with_reducible rfl)
            try simp only [Act.put, List.getElem_toArray, List.getElem_cons_zero, List.getElem_cons_succ, List.setIfInBounds_toArray, List.set_cons_zero, List.set_cons_succ]
            refine wpAnyH_ready (rs := [6]) (by kernel_rfl) (by simp) ?_
            refine AllReadyH.cons rfl (fun K hK => ?_) AllReadyH.nil
            go_simp
            refine (VA.out _ T1.out).mono ?_
            rintro e w9 ⟨rfl, hb⟩
            have T1 := hide (bt T1.out hb)
            have S1 := And.intro (PG.out _ T1.out) (HR.out _ T1.out)
            clear hb
            go_wp2_with fail
            refine hK.out _ _ (by exact S1) (fun hHeld => ?_)
            clear hK K
            try simp only [Act.put, List.getElem_toArray, List.getElem_cons_zero, List.getElem_cons_succ, List.setIfInBounds_toArray, List.set_cons_zero, List.set_cons_succ]
            refine wpAnyH_take (i := 7) (v := ?v43) rfl (by kernel_rfl) (by kernel_rfl) (by kernel_rfl) (fun _ _ _ h => h) (Or.inl ⟨by rfl, ?hy43⟩) (by assumption) ?rest43
            case hy43 => (intro w hSw; (try dsimp only at hSw); go_simp <;> with_reducible rfl)
            try simp only [Act.put, List.getElem_toArray, List.getElem_cons_zero, List.getElem_cons_succ, List.setIfInBounds_toArray, List.set_cons_zero, List.set_cons_succ]
            refine wpAnyH_done (by kernel_rfl) ?_ _
            clear S1
            cases vv with
            | false =>
              go_wp2
              go_ret
              exact ⟨ret_nat (HE.out 8 (by decide) (by rw [E4.out]; first | (simp; done) | (simp; omega) | (simp [hz]; done) | (simp [hz]; omega))), bt HW.out T1.out⟩
            | true =>
              go_wp2
              have T1 := hide (bt T1.out (dr1 _))
              have S1 := And.intro (PG.out _ T1.out) (HR.out _ T1.out)
              refine wp_region_held_drew (S := fun w' => (w'.cell? ⟨w.heap.size, 0, none⟩ = some (.int .i64 1) ∧ w'.cell? ⟨w.heap.size, 1, none⟩ = some (.int .i64 level) ∧ w'.cell? ⟨w.heap.size, 2, none⟩ = some (.slice (some ⟨bI, off, none⟩) items.length cI) ∧ w'.cell? ⟨w.heap.size, 3, none⟩ = some (.slice aD data.length cD) ∧ w'.cell? ⟨w.heap.size, 4, none⟩ = some (.int .i64 next)) ∧ (w'.cell? ⟨bI, off + (j + 1) * 4, none⟩ = some (.slice aK key.length cK) ∧ w'.cell? ⟨bI, off + (j + 1) * 4 + 1, none⟩ = some (.slice aV val.length cV) ∧ w'.cell? ⟨bI, off + (j + 1) * 4 + 2, none⟩ = some (.int .i64 child) ∧ w'.cell? ⟨bI, off + (j + 1) * 4 + 3, none⟩ = some (.int .i64 size))) (by kernel_rfl) (by exact S1) (fun hHeld => ?_)
              refine wpAnyH_take (i := 0) (v := ?v44) rfl (by kernel_rfl) (by kernel_rfl) (by kernel_rfl) (fun _ _ _ h => h) (Or.inl ⟨by rfl, ?hy44⟩) (by assumption) ?rest44
              case hy44 => (intro w hSw; (try dsimp only at hSw); go_simp <;> with_reducible rfl)
              try simp only [Act.put, List.getElem_toArray, List.getElem_cons_zero, List.setIfInBounds_toArray, List.set_cons_zero, List.set_cons_succ]
              refine wpAnyH_take (i := 1) (v := ?v45) rfl (by kernel_rfl) (by kernel_rfl) (by kernel_rfl) (fun _ _ _ h => h) (Or.inl ⟨by rfl, ?hy45⟩) (by assumption) ?rest45
              case hy45 => (intro w hSw; (try dsimp only at hSw); go_simp <;> with_reducible rfl)
              try simp only [Act.put, List.getElem_toArray, List.getElem_cons_zero, List.getElem_cons_succ, List.setIfInBounds_toArray, List.set_cons_zero, List.set_cons_succ]
              refine wpAnyH_take (i := 2) (v := ?v46) rfl (by kernel_rfl) (by kernel_rfl) (by kernel_rfl) (fun _ _ _ h => h) (Or.inl ⟨by rfl, ?hy46⟩) (by assumption) ?rest46
              case hy46 => (intro w hSw; (try dsimp only at hSw); go_simp <;> with_reducible rfl)
              try simp only [Act.put, List.getElem_toArray, List.getElem_cons_zero, List.getElem_cons_succ, List.setIfInBounds_toArray, List.set_cons_zero, List.set_cons_succ]
              refine wpAnyH_take (i := 3) (v := ?v47) rfl (by kernel_rfl) (by kernel_rfl) (by kernel_rfl) (fun _ _ _ h => h) (Or.inl ⟨by rfl, ?hy47⟩) (by assumption) ?rest47
              case hy47 => (intro w hSw; (try dsimp only at hSw); go_simp <;> with_reducible rfl)
              try simp only [Act.put, List.getElem_toArray, List.getElem_cons_zero, List.getElem_cons_succ, List.setIfInBounds_toArray, List.set_cons_zero, List.set_cons_succ]
              refine wpAnyH_take (i := 4) (v := ?v48) rfl (by kernel_rfl) (by kernel_rfl) (by kernel_rfl) (fun _ _ _ h => h) (Or.inl ⟨by rfl, ?hy48⟩) (by assumption) ?rest48
              case hy48 => (intro w hSw; (try dsimp only at hSw); go_simp <;> with_reducible rfl)
              try simp only [Act.put, List.getElem_toArray, List.getElem_cons_zero, List.getElem_cons_succ, List.setIfInBounds_toArray, List.set_cons_zero, List.set_cons_succ]
              refine wpAnyH_take (i := 5) (v := ?v49) rfl (by kernel_rfl) (by kernel_rfl) (by kernel_rfl) (fun _ _ _ h => h) (Or.inl ⟨by rfl, ?hy49⟩) (by assumption) ?rest49
              case hy49 => (intro w hSw; (try dsimp only at hSw); go_simp <;> with_reducible rfl)
              try simp only [Act.put, List.getElem_toArray, List.getElem_cons_zero, List.getElem_cons_succ, List.setIfInBounds_toArray, List.set_cons_zero, List.set_cons_succ]
              refine wpAnyH_ready (rs := [6]) (by kernel_rfl) (by simp) ?_
              refine AllReadyH.cons rfl (fun K hK => ?_) AllReadyH.nil
              go_simp
              refine (CH.out _ T1.out).mono ?_
              rintro e w9 ⟨rfl, hb⟩
              have T1 := hide (bt T1.out hb)
              have S1 := And.intro (PG.out _ T1.out) (HR.out _ T1.out)
              clear hb
              go_wp2_with fail
              refine hK.out _ _ (by exact S1) (fun hHeld => ?_)
              clear hK K
              try simp only [Act.put, List.getElem_toArray, List.getElem_cons_zero, List.getElem_cons_succ, List.setIfInBounds_toArray, List.set_cons_zero, List.set_cons_succ]
              refine wpAnyH_take (i := 7) (v := ?v50) rfl (by kernel_rfl) (by kernel_rfl) (by kernel_rfl) (fun _ _ _ h => h) (Or.inl ⟨by rfl, ?hy50⟩) (by assumption) ?rest50
              case hy50 => (intro w hSw; (try dsimp only at hSw); go_simp <;> with_reducible rfl)
              try simp only [Act.put, List.getElem_toArray, List.getElem_cons_zero, List.getElem_cons_succ, List.setIfInBounds_toArray, List.set_cons_zero, List.set_cons_succ]
              refine wpAnyH_done (by kernel_rfl) ?_ _
              clear S1
              cases cc with
              | false =>
                go_wp2
                go_ret
                exact ⟨ret_nat (HE.out 15 (by decide) (by rw [E4.out]; first | (simp; done) | (simp; omega) | (simp [hz]; done) | (simp [hz]; omega))), bt HW.out T1.out⟩
              | true =>
                go_wp2
                go_roundw
                case rel => exact ⟨j + 1 + 1, by omega, by first | (go_num; done) | exact congrArg (Value.int IntKind.i64) (by omega), T1.out, by rw [firstE_snoc, H0.out]; show f (j + 1) = 0; rw [E4.out]; first | (simp; done) | (simp; omega) | (simp [hz]; done) | (simp [hz]; omega)⟩
                case measure => first | exact meas_up _ _ _ hj1 hlt | exact meas_up _ _ _ rfl hlt | (simp [intOf]; omega)
    · obtain rfl : k = items.length := by omega
      go_wp2
      go_ret
      exact ⟨ret_nat (by rw [HEN.out H0.out, HNX.out]; simp), bt HW.out T1.out⟩
end Go.Proofs.YtbhigodjbfoeoaaGreat
namespace Go.Proofs.YtbhigodjbfoeoaaGreat
open Go.RowKit
set_option maxRecDepth 8000 in
set_option maxHeartbeats 3200000 in
theorem iCheck_2 (w : World) (p : Pv) (hP : Pi w p) (hf : p.pg.formE = 0) (k1 : p.kind = 2) : Calls Tryz.prog 61 #[p.vl] w fun e w' => e = .returned (.int .i64 (p.pg.check : Int)) ∧ Below w.heap.size w w' := by
  have HP := hide (hP.keep (al w (.cells p.cs 93)))
  have hin : p.items.length ≤ 2199023255489 := hP.it.2.1
  have B0 := hide (Bx.new w 93 p.cs)
  have HW := hide (al w (.cells p.cs 93))
  obtain ⟨v, hv⟩ : ∃ v, w.alloc (.cells p.cs 93) = v := ⟨_, rfl⟩
  rw [hv] at HP B0 HW
  have PG := hide fun (w1 : World) (hb : Below v.heap.size v w1) => Bx.page (B0.out.keep hb)
  have FO := hide fun (w1 : World) => iform_any w1 p
  have HX := hide (form_zero hf)
  have HKD := hide (Pg.kindOk_iff.1 (form_zero hf).1)
  have KYA := hide fun (k : Nat) (hk : k < p.items.length) (w1 : World) (hb : Below v.heap.size v w1) => ikey_any w1 p k (HP.out.keep hb) hk
  have VAA := hide fun (x : Iv) (w1 : World) (hb : Below v.heap.size v w1) => ivalue_any w1 p x
  have CHA := hide fun (x : Iv) (w1 : World) (hb : Below v.heap.size v w1) => ichild_any w1 p x
  have HEA := hide fun (k : Nat) (h0 : firstE p.pg.itemE k = 0) (hk : k < p.items.length) (x : Nat) (hx : x ≠ 0) (e : p.pg.itemE k = x) => (show p.pg.check = x from by
    rw [check_at hf h0 (by simpa [Pv.pg] using hk) (by rw [e]; exact hx), e])
  have HEN := hide fun (h0 : firstE p.pg.itemE p.items.length = 0) => (check_end hf (by simpa [Pv.pg] using h0))
  have HIT := hide fun k => (show p.pg.itemE k = if p.pg.keyOk k = false then 7 else if (decide (k = 0) || decide (0 < cmpB (p.items.getD k Iv.zero).key (p.items.getD (k - 1) Iv.zero).key)) = false then 11 else if (p.items.getD k Iv.zero).it.valOk p.kind = false then 8 else if (p.items.getD k Iv.zero).it.kidOk p.kind = false then 15 else 0 from by
    unfold Pg.itemE Pg.ordOk; rw [Pv.at, Pv.at]; rfl)
  have HNL := hide fun (h : p.kind = 3) => (show p.items.length = 0 from by have h2 := (form_zero hf).2; unfold Pg.form at h2; rw [if_pos (show p.pg.kind = 3 from h)] at h2; simp [Pv.pg] at h2; rw [h2.1.1.2]; rfl)
  have HNX : Hid (p.pg.nextOk = !(decide (p.kind = 3) && decide (p.next ≠ 0) && !isNum p.next)) := rfl
  rw [HX.out.2] at FO
  have hpk : p.pg.kind = p.kind := rfl
  rw [hpk] at HKD
  clear hpk HX hP hf
  generalize p.pg.check = ans at *
  generalize p.pg.itemE = f at *
  generalize p.pg.nextOk = nx at *
  obtain ⟨kind, level, aI, cI, items, aD, cD, data, next⟩ := p
  unfold Pv.vl
  simp only [Pv.cs, Pv.vl] at *
  subst k1
  obtain ⟨b0, b1, b2, b3, b4⟩ := PG.out _ (Below.refl _ _)
  go_enter Tryz.func61, Tryz.ntmps61
  go_wp2_with fail
  refine (FO.out _).mono ?_
  rintro y w1 ⟨rfl, hb⟩
  have T1 := hide hb
  clear hb hv FO b0 b1 b2 b3 b4
  obtain ⟨c0, c1, c2, c3, c4⟩ := PG.out _ T1.out
  go_wp2
  go_loopw [3] (fun i wx => ∃ k : Nat, k ≤ items.length ∧ i = .int .i64 k ∧ Below v.heap.size v wx ∧ firstE f k = 0) (fun i _ => items.length - (intOf i).toNat)
  case atStart => exact ⟨0, Nat.zero_le _, rfl, T1.out, rfl⟩
  case round =>
    clear T1 c0 c1 c2 c3 c4
    obtain ⟨k, hk, rfl, hT, h0⟩ := hrel
    have T1 := hide hT
    have H0 := hide h0
    clear hT h0
    obtain ⟨c0, c1, c2, c3, c4⟩ := PG.out _ T1.out
    by_cases hlt : k < items.length
    · have hlti : (k : Int) < (items.length : Int) := by omega
      have hj1 := w64 (j := k) (by omega)
      have KY := hide (KYA.out k hlt)
      have VA := hide (VAA.out (items.getD k Iv.zero))
      have CH := hide (CHA.out (items.getD k Iv.zero))
      have HE := hide (HEA.out k H0.out hlt)
      have E4 := hide (HIT.out k)
      obtain ⟨bI, off, rfl⟩ : ∃ bI off, aI = some ⟨bI, off, none⟩ := by obtain ⟨b2, o2, e2, _⟩ := HP.out.it.at hlt; exact ⟨b2, o2, e2⟩
      have HR := hide fun (w1 : World) (hb : Below v.heap.size v w1) => rowAt (HP.out.it.keep hb) hlt
      have hlq : k - 1 < items.length := by omega
      have HQ := hide fun (w1 : World) (hb : Below v.heap.size v w1) => (rowAt (HP.out.it.keep hb) hlq).1
      have CM := hide fun (w1 : World) (hb : Below v.heap.size v w1) => Compare_any w1 (items.getD k Iv.zero).aK (items.getD (k - 1) Iv.zero).aK _ _ (items.getD k Iv.zero).cK (items.getD (k - 1) Iv.zero).cK (items.getD k Iv.zero).key (items.getD (k - 1) Iv.zero).key ((HP.out.it.keep hb).1 _ (getD_memR hlt)).bk ((HP.out.it.keep hb).1 _ (getD_memR hlq)).bk rfl rfl
      generalize items.getD k Iv.zero = x at *
      generalize items.getD (k - 1) Iv.zero = y at *
      simp only [Iv.vl] at VA CH
      generalize Pg.keyOk _ k = kk at *
      generalize hvv : x.it.valOk _ = vv at *
      generalize hcc : x.it.kidOk _ = cc at *
      clear hvv hcc
      generalize cmpB x.key y.key = z at *
      obtain ⟨aK, cK, key, aV, cV, val, child, size⟩ := x
      obtain ⟨yaK, ycK, yk, yaV, ycV, yval, ychild, ysize⟩ := y
      simp only [Iv.cs] at *
      clear KYA VAA CHA HEA HIT HEN
      by_cases hk0 : k = 0
      · subst hk0
        simp only [Nat.zero_mul, Nat.add_zero] at HR
        go_wp2_with fail
        refine (KY.out _ T1.out).mono ?_
        rintro y w1 ⟨rfl, hb⟩
        have T1 := hide (bt T1.out hb)
        clear hb
        obtain ⟨c0, c1, c2, c3, c4⟩ := PG.out _ T1.out
        cases kk with
        | false =>
          go_wp2
          go_ret
          exact ⟨ret_nat (HE.out 7 (by decide) (by simp [E4.out])), bt HW.out T1.out⟩
        | true =>
          go_wp2
          have T1 := hide (bt T1.out (dr1 _))
          have S1 := And.intro (PG.out _ T1.out) (HR.out _ T1.out)
          refine wp_region_held_drew (S := fun w' => (w'.cell? ⟨w.heap.size, 0, none⟩ = some (.int .i64 2) ∧ w'.cell? ⟨w.heap.size, 1, none⟩ = some (.int .i64 level) ∧ w'.cell? ⟨w.heap.size, 2, none⟩ = some (.slice (some ⟨bI, off, none⟩) items.length cI) ∧ w'.cell? ⟨w.heap.size, 3, none⟩ = some (.slice aD data.length cD) ∧ w'.cell? ⟨w.heap.size, 4, none⟩ = some (.int .i64 next)) ∧ (w'.cell? ⟨bI, off, none⟩ = some (.slice aK key.length cK) ∧ w'.cell? ⟨bI, off + 1, none⟩ = some (.slice aV val.length cV) ∧ w'.cell? ⟨bI, off + 2, none⟩ = some (.int .i64 child) ∧ w'.cell? ⟨bI, off + 3, none⟩ = some (.int .i64 size))) (by kernel_rfl) (by exact S1) (fun hHeld => ?_)
          refine wpAnyH_take (i := 0) (v := ?v51) rfl (by kernel_rfl) (by kernel_rfl) (by kernel_rfl) (fun _ _ _ h => h) (Or.inl ⟨by rfl, ?hy51⟩) (by assumption) ?rest51
          case hy51 => (intro w hSw; (try dsimp only at hSw); go_simp <;> with_reducible rfl)
          try simp only [Act.put, List.getElem_toArray, List.getElem_cons_zero, List.setIfInBounds_toArray, List.set_cons_zero, List.set_cons_succ]
          refine wpAnyH_take (i := 1) (v := ?v52) rfl (by kernel_rfl) (by kernel_rfl) (by kernel_rfl) (fun _ _ _ h => h) (Or.inl ⟨by rfl, ?hy52⟩) (by assumption) ?rest52
          case hy52 => (intro w hSw; (try dsimp only at hSw); go_simp <;> with_reducible rfl)
          try simp only [Act.put, List.getElem_toArray, List.getElem_cons_zero, List.getElem_cons_succ, List.setIfInBounds_toArray, List.set_cons_zero, List.set_cons_succ]
          refine wpAnyH_take (i := 2) (v := ?v53) rfl (by kernel_rfl) (by kernel_rfl) (by kernel_rfl) (fun _ _ _ h => h) (Or.inl ⟨by rfl, ?hy53⟩) (by assumption) ?rest53
          case hy53 => (intro w hSw; (try dsimp only at hSw); go_simp <;> with_reducible rfl)
          try simp only [Act.put, List.getElem_toArray, List.getElem_cons_zero, List.getElem_cons_succ, List.setIfInBounds_toArray, List.set_cons_zero, List.set_cons_succ]
          refine wpAnyH_take (i := 3) (v := undef) rfl (by kernel_rfl) (by kernel_rfl) (by kernel_rfl) (fun _ _ _ h => h) (Or.inr ⟨by rfl, rfl⟩) (by assumption) ?_
          try simp only [Act.put, List.getElem_toArray, List.getElem_cons_zero, List.getElem_cons_succ, List.setIfInBounds_toArray, List.set_cons_zero, List.set_cons_succ]
          refine wpAnyH_take (i := 4) (v := undef) rfl (by kernel_rfl) (by kernel_rfl) (by kernel_rfl) (fun _ _ _ h => h) (Or.inr ⟨by rfl, rfl⟩) (by assumption) ?_
          try simp only [Act.put, List.getElem_toArray, List.getElem_cons_zero, List.getElem_cons_succ, List.setIfInBounds_toArray, List.set_cons_zero, List.set_cons_succ]
          refine wpAnyH_take (i := 5) (v := undef) rfl (by kernel_rfl) (by kernel_rfl) (by kernel_rfl) (fun _ _ _ h => h) (Or.inr ⟨by rfl, rfl⟩) (by assumption) ?_
          try simp only [Act.put, List.getElem_toArray, List.getElem_cons_zero, List.getElem_cons_succ, List.setIfInBounds_toArray, List.set_cons_zero, List.set_cons_succ]
          refine wpAnyH_take (i := 6) (v := undef) rfl (by kernel_rfl) (by kernel_rfl) (by kernel_rfl) (fun _ _ _ h => h) (Or.inr ⟨by rfl, rfl⟩) (by assumption) ?_
          try simp only [Act.put, List.getElem_toArray, List.getElem_cons_zero, List.getElem_cons_succ, List.setIfInBounds_toArray, List.set_cons_zero, List.set_cons_succ]
          refine wpAnyH_take (i := 7) (v := undef) rfl (by kernel_rfl) (by kernel_rfl) (by kernel_rfl) (fun _ _ _ h => h) (Or.inr ⟨by rfl, rfl⟩) (by assumption) ?_
          try simp only [Act.put, List.getElem_toArray, List.getElem_cons_zero, List.getElem_cons_succ, List.setIfInBounds_toArray, List.set_cons_zero, List.set_cons_succ]
          refine wpAnyH_take (i := 8) (v := undef) rfl (by kernel_rfl) (by kernel_rfl) (by kernel_rfl) (fun _ _ _ h => h) (Or.inr ⟨by rfl, rfl⟩) (by assumption) ?_
          try simp only [Act.put, List.getElem_toArray, List.getElem_cons_zero, List.getElem_cons_succ, List.setIfInBounds_toArray, List.set_cons_zero, List.set_cons_succ]
          refine wpAnyH_take (i := 9) (v := undef) rfl (by kernel_rfl) (by kernel_rfl) (by kernel_rfl) (fun _ _ _ h => h) (Or.inr ⟨by rfl, rfl⟩) (by assumption) ?_
          try simp only [Act.put, List.getElem_toArray, List.getElem_cons_zero, List.getElem_cons_succ, List.setIfInBounds_toArray, List.set_cons_zero, List.set_cons_succ]
          refine wpAnyH_take (i := 10) (v := undef) rfl (by kernel_rfl) (by kernel_rfl) (by kernel_rfl) (fun _ _ _ h => h) (Or.inr ⟨by rfl, rfl⟩) (by assumption) ?_
          try simp only [Act.put, List.getElem_toArray, List.getElem_cons_zero, List.getElem_cons_succ, List.setIfInBounds_toArray, List.set_cons_zero, List.set_cons_succ]
          refine wpAnyH_take (i := 11) (v := undef) rfl (by kernel_rfl) (by kernel_rfl) (by kernel_rfl) (fun _ _ _ h => h) (Or.inr ⟨by rfl, rfl⟩) (by assumption) ?_
          try simp only [Act.put, List.getElem_toArray, List.getElem_cons_zero, List.getElem_cons_succ, List.setIfInBounds_toArray, List.set_cons_zero, List.set_cons_succ]
          refine wpAnyH_take (i := 12) (v := undef) rfl (by kernel_rfl) (by kernel_rfl) (by kernel_rfl) (fun _ _ _ h => h) (Or.inr ⟨by rfl, rfl⟩) (by assumption) ?_
          try simp only [Act.put, List.getElem_toArray, List.getElem_cons_zero, List.getElem_cons_succ, List.setIfInBounds_toArray, List.set_cons_zero, List.set_cons_succ]
          refine wpAnyH_take (i := 13) (v := undef) rfl (by kernel_rfl) (by kernel_rfl) (by kernel_rfl) (fun _ _ _ h => h) (Or.inr ⟨by rfl, rfl⟩) (by assumption) ?_
          try simp only [Act.put, List.getElem_toArray, List.getElem_cons_zero, List.getElem_cons_succ, List.setIfInBounds_toArray, List.set_cons_zero, List.set_cons_succ]
          refine wpAnyH_take (i := 14) (v := undef) rfl (by kernel_rfl) (by kernel_rfl) (by kernel_rfl) (fun _ _ _ h => h) (Or.inr ⟨by rfl, rfl⟩) (by assumption) ?_
          try simp only [Act.put, List.getElem_toArray, List.getElem_cons_zero, List.getElem_cons_succ, List.setIfInBounds_toArray, List.set_cons_zero, List.set_cons_succ]
          refine wpAnyH_take (i := 15) (v := undef) rfl (by kernel_rfl) (by kernel_rfl) (by kernel_rfl) (fun _ _ _ h => h) (Or.inr ⟨by rfl, rfl⟩) (by assumption) ?_
          try simp only [Act.put, List.getElem_toArray, List.getElem_cons_zero, List.getElem_cons_succ, List.setIfInBounds_toArray, List.set_cons_zero, List.set_cons_succ]
          refine wpAnyH_take (i := 16) (v := undef) rfl (by kernel_rfl) (by kernel_rfl) (by kernel_rfl) (fun _ _ _ h => h) (Or.inr ⟨by rfl, rfl⟩) (by assumption) ?_
          try simp only [Act.put, List.getElem_toArray, List.getElem_cons_zero, List.getElem_cons_succ, List.setIfInBounds_toArray, List.set_cons_zero, List.set_cons_succ]
          refine wpAnyH_take (i := 17) (v := undef) rfl (by kernel_rfl) (by kernel_rfl) (by kernel_rfl) (fun _ _ _ h => h) (Or.inr ⟨by rfl, rfl⟩) (by assumption) ?_
          try simp only [Act.put, List.getElem_toArray, List.getElem_cons_zero, List.getElem_cons_succ, List.setIfInBounds_toArray, List.set_cons_zero, List.set_cons_succ]
          refine wpAnyH_take (i := 18) (v := ?v54) rfl (by kernel_rfl) (by kernel_rfl) (by kernel_rfl) (fun _ _ _ h => h) (Or.inl ⟨by rfl, ?hy54⟩) (by assumption) ?rest54
          case hy54 => (intro w hSw; (try dsimp only at hSw); go_simp <;> with_reducible rfl)
          try simp only [Act.put, List.getElem_toArray, List.getElem_cons_zero, List.getElem_cons_succ, List.setIfInBounds_toArray, List.set_cons_zero, List.set_cons_succ]
          refine wpAnyH_done (by kernel_rfl) ?_ _
          clear S1
          go_wp2
          have T1 := hide (bt T1.out (dr1 _))
          have S1 := And.intro (PG.out _ T1.out) (HR.out _ T1.out)
          refine wp_region_held_drew (S := fun w' => (w'.cell? ⟨w.heap.size, 0, none⟩ = some (.int .i64 2) ∧ w'.cell? ⟨w.heap.size, 1, none⟩ = some (.int .i64 level) ∧ w'.cell? ⟨w.heap.size, 2, none⟩ = some (.slice (some ⟨bI, off, none⟩) items.length cI) ∧ w'.cell? ⟨w.heap.size, 3, none⟩ = some (.slice aD data.length cD) ∧ w'.cell? ⟨w.heap.size, 4, none⟩ = some (.int .i64 next)) ∧ (w'.cell? ⟨bI, off, none⟩ = some (.slice aK key.length cK) ∧ w'.cell? ⟨bI, off + 1, none⟩ = some (.slice aV val.length cV) ∧ w'.cell? ⟨bI, off + 2, none⟩ = some (.int .i64 child) ∧ w'.cell? ⟨bI, off + 3, none⟩ = some (.int .i64 size))) (by kernel_rfl) (by exact S1) (fun hHeld => ?_)
          refine wpAnyH_take (i := 0) (v := ?v55) rfl (by kernel_rfl) (by kernel_rfl) (by kernel_rfl) (fun _ _ _ h => h) (Or.inl ⟨by rfl, ?hy55⟩) (by assumption) ?rest55
          case hy55 => (intro w hSw; (try dsimp only at hSw); go_simp <;> with_reducible rfl)
          try simp only [Act.put, List.getElem_toArray, List.getElem_cons_zero, List.setIfInBounds_toArray, List.set_cons_zero, List.set_cons_succ]
          refine wpAnyH_take (i := 1) (v := ?v56) rfl (by kernel_rfl) (by kernel_rfl) (by kernel_rfl) (fun _ _ _ h => h) (Or.inl ⟨by rfl, ?hy56⟩) (by assumption) ?rest56
          case hy56 => (intro w hSw; (try dsimp only at hSw); go_simp <;> with_reducible rfl)
          try simp only [Act.put, List.getElem_toArray, List.getElem_cons_zero, List.getElem_cons_succ, List.setIfInBounds_toArray, List.set_cons_zero, List.set_cons_succ]
          refine wpAnyH_take (i := 2) (v := ?v57) rfl (by kernel_rfl) (by kernel_rfl) (by kernel_rfl) (fun _ _ _ h => h) (Or.inl ⟨by rfl, ?hy57⟩) (by assumption) ?rest57
          case hy57 => (intro w hSw; (try dsimp only at hSw); go_simp <;> with_reducible rfl)
          try simp only [Act.put, List.getElem_toArray, List.getElem_cons_zero, List.getElem_cons_succ, List.setIfInBounds_toArray, List.set_cons_zero, List.set_cons_succ]
          refine wpAnyH_take (i := 3) (v := ?v58) rfl (by kernel_rfl) (by kernel_rfl) (by kernel_rfl) (fun _ _ _ h => h) (Or.inl ⟨by rfl, ?hy58⟩) (by assumption) ?rest58
          case hy58 => (intro w hSw; (try dsimp only at hSw); go_simp <;> with_reducible rfl)
          try simp only [Act.put, List.getElem_toArray, List.getElem_cons_zero, List.getElem_cons_succ, List.setIfInBounds_toArray, List.set_cons_zero, List.set_cons_succ]
          refine wpAnyH_take (i := 4) (v := ?v59) rfl (by kernel_rfl) (by kernel_rfl) (by kernel_rfl) (fun _ _ _ h => h) (Or.inl ⟨by rfl, ?hy59⟩) (by assumption) ?rest59
          case hy59 => (intro w hSw; (try dsimp only at hSw); go_simp <;> with_reducible rfl)
          try simp only [Act.put, List.getElem_toArray, List.getElem_cons_zero, List.getElem_cons_succ, List.setIfInBounds_toArray, List.set_cons_zero, List.set_cons_succ]
          refine wpAnyH_take (i := 5) (v := ?v60) rfl (by kernel_rfl) (by kernel_rfl) (by kernel_rfl) (fun _ _ _ h => h) (Or.inl ⟨by rfl, ?hy60⟩) (by assumption) ?rest60
          case hy60 => (intro w hSw; (try dsimp only at hSw); go_simp <;> with_reducible rfl)
          try simp only [Act.put, List.getElem_toArray, List.getElem_cons_zero, List.getElem_cons_succ, List.setIfInBounds_toArray, List.set_cons_zero, List.set_cons_succ]
          refine wpAnyH_ready (rs := [6]) (by kernel_rfl) (by simp) ?_
          refine AllReadyH.cons rfl (fun K hK => ?_) AllReadyH.nil
          go_simp
          refine (VA.out _ T1.out).mono ?_
          rintro e w9 ⟨rfl, hb⟩
          have T1 := hide (bt T1.out hb)
          have S1 := And.intro (PG.out _ T1.out) (HR.out _ T1.out)
          clear hb
          go_wp2_with fail
          refine hK.out _ _ (by exact S1) (fun hHeld => ?_)
          clear hK K
          try simp only [Act.put, List.getElem_toArray, List.getElem_cons_zero, List.getElem_cons_succ, List.setIfInBounds_toArray, List.set_cons_zero, List.set_cons_succ]
          refine wpAnyH_take (i := 7) (v := ?v61) rfl (by kernel_rfl) (by kernel_rfl) (by kernel_rfl) (fun _ _ _ h => h) (Or.inl ⟨by rfl, ?hy61⟩) (by assumption) ?rest61
          case hy61 => (intro w hSw; (try dsimp only at hSw); go_simp <;> with_reducible rfl)
          try simp only [Act.put, List.getElem_toArray, List.getElem_cons_zero, List.getElem_cons_succ, List.setIfInBounds_toArray, List.set_cons_zero, List.set_cons_succ]
          refine wpAnyH_done (by kernel_rfl) ?_ _
          clear S1
          cases vv with
          | false =>
            go_wp2
            go_ret
            exact ⟨ret_nat (HE.out 8 (by decide) (by rw [E4.out]; first | (simp; done) | (simp; omega))), bt HW.out T1.out⟩
          | true =>
            go_wp2
            have T1 := hide (bt T1.out (dr1 _))
            have S1 := And.intro (PG.out _ T1.out) (HR.out _ T1.out)
            refine wp_region_held_drew (S := fun w' => (w'.cell? ⟨w.heap.size, 0, none⟩ = some (.int .i64 2) ∧ w'.cell? ⟨w.heap.size, 1, none⟩ = some (.int .i64 level) ∧ w'.cell? ⟨w.heap.size, 2, none⟩ = some (.slice (some ⟨bI, off, none⟩) items.length cI) ∧ w'.cell? ⟨w.heap.size, 3, none⟩ = some (.slice aD data.length cD) ∧ w'.cell? ⟨w.heap.size, 4, none⟩ = some (.int .i64 next)) ∧ (w'.cell? ⟨bI, off, none⟩ = some (.slice aK key.length cK) ∧ w'.cell? ⟨bI, off + 1, none⟩ = some (.slice aV val.length cV) ∧ w'.cell? ⟨bI, off + 2, none⟩ = some (.int .i64 child) ∧ w'.cell? ⟨bI, off + 3, none⟩ = some (.int .i64 size))) (by kernel_rfl) (by exact S1) (fun hHeld => ?_)
            refine wpAnyH_take (i := 0) (v := ?v62) rfl (by kernel_rfl) (by kernel_rfl) (by kernel_rfl) (fun _ _ _ h => h) (Or.inl ⟨by rfl, ?hy62⟩) (by assumption) ?rest62
            case hy62 => (intro w hSw; (try dsimp only at hSw); go_simp <;> with_reducible rfl)
            try simp only [Act.put, List.getElem_toArray, List.getElem_cons_zero, List.setIfInBounds_toArray, List.set_cons_zero, List.set_cons_succ]
            refine wpAnyH_take (i := 1) (v := ?v63) rfl (by kernel_rfl) (by kernel_rfl) (by kernel_rfl) (fun _ _ _ h => h) (Or.inl ⟨by rfl, ?hy63⟩) (by assumption) ?rest63
            case hy63 => (intro w hSw; (try dsimp only at hSw); go_simp <;> with_reducible rfl)
            try simp only [Act.put, List.getElem_toArray, List.getElem_cons_zero, List.getElem_cons_succ, List.setIfInBounds_toArray, List.set_cons_zero, List.set_cons_succ]
            refine wpAnyH_take (i := 2) (v := ?v64) rfl (by kernel_rfl) (by kernel_rfl) (by kernel_rfl) (fun _ _ _ h => h) (Or.inl ⟨by rfl, ?hy64⟩) (by assumption) ?rest64
            case hy64 => (intro w hSw; (try dsimp only at hSw); go_simp <;> with_reducible rfl)
            try simp only [Act.put, List.getElem_toArray, List.getElem_cons_zero, List.getElem_cons_succ, List.setIfInBounds_toArray, List.set_cons_zero, List.set_cons_succ]
            refine wpAnyH_take (i := 3) (v := ?v65) rfl (by kernel_rfl) (by kernel_rfl) (by kernel_rfl) (fun _ _ _ h => h) (Or.inl ⟨by rfl, ?hy65⟩) (by assumption) ?rest65
            case hy65 => (intro w hSw; (try dsimp only at hSw); go_simp <;> with_reducible rfl)
            try simp only [Act.put, List.getElem_toArray, List.getElem_cons_zero, List.getElem_cons_succ, List.setIfInBounds_toArray, List.set_cons_zero, List.set_cons_succ]
            refine wpAnyH_take (i := 4) (v := ?v66) rfl (by kernel_rfl) (by kernel_rfl) (by kernel_rfl) (fun _ _ _ h => h) (Or.inl ⟨by rfl, ?hy66⟩) (by assumption) ?rest66
            case hy66 => (intro w hSw; (try dsimp only at hSw); go_simp <;> with_reducible rfl)
            try simp only [Act.put, List.getElem_toArray, List.getElem_cons_zero, List.getElem_cons_succ, List.setIfInBounds_toArray, List.set_cons_zero, List.set_cons_succ]
            refine wpAnyH_take (i := 5) (v := ?v67) rfl (by kernel_rfl) (by kernel_rfl) (by kernel_rfl) (fun _ _ _ h => h) (Or.inl ⟨by rfl, ?hy67⟩) (by assumption) ?rest67
            case hy67 => (intro w hSw; (try dsimp only at hSw); go_simp <;> with_reducible rfl)
            try simp only [Act.put, List.getElem_toArray, List.getElem_cons_zero, List.getElem_cons_succ, List.setIfInBounds_toArray, List.set_cons_zero, List.set_cons_succ]
            refine wpAnyH_ready (rs := [6]) (by kernel_rfl) (by simp) ?_
            refine AllReadyH.cons rfl (fun K hK => ?_) AllReadyH.nil
            go_simp
            refine (CH.out _ T1.out).mono ?_
            rintro e w9 ⟨rfl, hb⟩
            have T1 := hide (bt T1.out hb)
            have S1 := And.intro (PG.out _ T1.out) (HR.out _ T1.out)
            clear hb
            go_wp2_with fail
            refine hK.out _ _ (by exact S1) (fun hHeld => ?_)
            clear hK K
            try simp only [Act.put, List.getElem_toArray, List.getElem_cons_zero, List.getElem_cons_succ, List.setIfInBounds_toArray, List.set_cons_zero, List.set_cons_succ]
            refine wpAnyH_take (i := 7) (v := ?v68) rfl (by kernel_rfl) (by kernel_rfl) (by kernel_rfl) (fun _ _ _ h => h) (Or.inl ⟨by rfl, ?hy68⟩) (by assumption) ?rest68
            case hy68 => (intro w hSw; (try dsimp only at hSw); go_simp <;> with_reducible rfl)
            try simp only [Act.put, List.getElem_toArray, List.getElem_cons_zero, List.getElem_cons_succ, List.setIfInBounds_toArray, List.set_cons_zero, List.set_cons_succ]
            refine wpAnyH_done (by kernel_rfl) ?_ _
            clear S1
            cases cc with
            | false =>
              go_wp2
              go_ret
              exact ⟨ret_nat (HE.out 15 (by decide) (by rw [E4.out]; first | (simp; done) | (simp; omega))), bt HW.out T1.out⟩
            | true =>
              go_wp2
              go_roundw
              case rel => exact ⟨0 + 1, by omega, by first | (go_num; done) | exact congrArg (Value.int IntKind.i64) (by omega), T1.out, by rw [firstE_snoc, H0.out]; show f 0 = 0; rw [E4.out]; first | (simp; done) | (simp; omega)⟩
              case measure => first | exact meas_up _ _ _ hj1 hlt | exact meas_up _ _ _ rfl hlt | (simp [intOf]; omega)
      · obtain ⟨j, rfl⟩ : ∃ j, k = j + 1 := ⟨k - 1, by omega⟩
        rw [show j + 1 - 1 = j by omega] at HQ
        have hwj : IntKind.i64.wrap (j : Int) = (j : Int) := wrapI (by omega) (by omega)
        have hkq : (j : Int) < (items.length : Int) := by omega
        have hj0 : (0 : Int) ≤ (j : Int) + 1 := by omega
        go_wp2_with fail
        refine (KY.out _ T1.out).mono ?_
        rintro y w1 ⟨rfl, hb⟩
        have T1 := hide (bt T1.out hb)
        clear hb
        obtain ⟨c0, c1, c2, c3, c4⟩ := PG.out _ T1.out
        cases kk with
        | false =>
          go_wp2
          go_ret
          exact ⟨ret_nat (HE.out 7 (by decide) (by simp [E4.out])), bt HW.out T1.out⟩
        | true =>
          go_wp2
          have T1 := hide (bt T1.out (dr1 _))
          have S1 := And.intro (PG.out _ T1.out) (And.intro (HR.out _ T1.out) (HQ.out _ T1.out))
          refine wp_region_held_drew (S := fun w' => (w'.cell? ⟨w.heap.size, 0, none⟩ = some (.int .i64 2) ∧ w'.cell? ⟨w.heap.size, 1, none⟩ = some (.int .i64 level) ∧ w'.cell? ⟨w.heap.size, 2, none⟩ = some (.slice (some ⟨bI, off, none⟩) items.length cI) ∧ w'.cell? ⟨w.heap.size, 3, none⟩ = some (.slice aD data.length cD) ∧ w'.cell? ⟨w.heap.size, 4, none⟩ = some (.int .i64 next)) ∧ (w'.cell? ⟨bI, off + (j + 1) * 4, none⟩ = some (.slice aK key.length cK) ∧ w'.cell? ⟨bI, off + (j + 1) * 4 + 1, none⟩ = some (.slice aV val.length cV) ∧ w'.cell? ⟨bI, off + (j + 1) * 4 + 2, none⟩ = some (.int .i64 child) ∧ w'.cell? ⟨bI, off + (j + 1) * 4 + 3, none⟩ = some (.int .i64 size)) ∧ w'.cell? ⟨bI, off + j * 4, none⟩ = some (.slice yaK yk.length ycK)) (by kernel_rfl) (by exact S1) (fun hHeld => ?_)
          refine wpAnyH_take (i := 0) (v := ?v69) rfl (by kernel_rfl) (by kernel_rfl) (by kernel_rfl) (fun _ _ _ h => h) (Or.inl ⟨by rfl, ?hy69⟩) (by assumption) ?rest69
          case hy69 => (intro w hSw; (try dsimp only at hSw); go_simp <;> with_reducible rfl)
          try simp only [Act.put, List.getElem_toArray, List.getElem_cons_zero, List.setIfInBounds_toArray, List.set_cons_zero, List.set_cons_succ]
          refine wpAnyH_take (i := 1) (v := ?v70) rfl (by kernel_rfl) (by kernel_rfl) (by kernel_rfl) (fun _ _ _ h => h) (Or.inl ⟨by rfl, ?hy70⟩) (by assumption) ?rest70
          case hy70 => (intro w hSw; (try dsimp only at hSw); go_simp <;> with_reducible rfl)
          try simp only [Act.put, List.getElem_toArray, List.getElem_cons_zero, List.getElem_cons_succ, List.setIfInBounds_toArray, List.set_cons_zero, List.set_cons_succ]
          refine wpAnyH_take (i := 2) (v := ?v71) rfl (by kernel_rfl) (by kernel_rfl) (by kernel_rfl) (fun _ _ _ h => h) (Or.inl ⟨by rfl, ?hy71⟩) (by assumption) ?rest71
          case hy71 => (intro w hSw; (try dsimp only at hSw); go_simp <;> with_reducible rfl)
          try simp only [Act.put, List.getElem_toArray, List.getElem_cons_zero, List.getElem_cons_succ, List.setIfInBounds_toArray, List.set_cons_zero, List.set_cons_succ]
          refine wpAnyH_take (i := 3) (v := ?v72) rfl (by kernel_rfl) (by kernel_rfl) (by kernel_rfl) (fun _ _ _ h => h) (Or.inl ⟨by rfl, ?hy72⟩) (by assumption) ?rest72
          case hy72 => (intro w hSw; (try dsimp only at hSw); go_simp <;> with_reducible rfl)
          try simp only [Act.put, List.getElem_toArray, List.getElem_cons_zero, List.getElem_cons_succ, List.setIfInBounds_toArray, List.set_cons_zero, List.set_cons_succ]
          refine wpAnyH_take (i := 4) (v := ?v73) rfl (by kernel_rfl) (by kernel_rfl) (by kernel_rfl) (fun _ _ _ h => h) (Or.inl ⟨by rfl, ?hy73⟩) (by assumption) ?rest73
          case hy73 => (intro w hSw; (try dsimp only at hSw); go_simp <;> with_reducible rfl)
          try simp only [Act.put, List.getElem_toArray, List.getElem_cons_zero, List.getElem_cons_succ, List.setIfInBounds_toArray, List.set_cons_zero, List.set_cons_succ]
          refine wpAnyH_take (i := 5) (v := ?v74) rfl (by kernel_rfl) (by kernel_rfl) (by kernel_rfl) (fun _ _ _ h => h) (Or.inl ⟨by rfl, ?hy74⟩) (by assumption) ?rest74
          case hy74 => (intro w hSw; (try dsimp only at hSw); go_simp <;> with_reducible rfl)
          try simp only [Act.put, List.getElem_toArray, List.getElem_cons_zero, List.getElem_cons_succ, List.setIfInBounds_toArray, List.set_cons_zero, List.set_cons_succ]
          refine wpAnyH_take (i := 6) (v := ?v75) rfl (by kernel_rfl) (by kernel_rfl) (by kernel_rfl) (fun _ _ _ h => h) (Or.inl ⟨by rfl, ?hy75⟩) (by assumption) ?rest75
          case hy75 => (intro w hSw; (try dsimp only at hSw); go_simp <;> with_reducible rfl)
          try simp only [Act.put, List.getElem_toArray, List.getElem_cons_zero, List.getElem_cons_succ, List.setIfInBounds_toArray, List.set_cons_zero, List.set_cons_succ]
          refine wpAnyH_take (i := 7) (v := ?v76) rfl (by kernel_rfl) (by kernel_rfl) (by kernel_rfl) (fun _ _ _ h => h) (Or.inl ⟨by rfl, ?hy76⟩) (by assumption) ?rest76
          case hy76 => (intro w hSw; (try dsimp only at hSw); go_simp <;> with_reducible rfl)
          try simp only [Act.put, List.getElem_toArray, List.getElem_cons_zero, List.getElem_cons_succ, List.setIfInBounds_toArray, List.set_cons_zero, List.set_cons_succ]
          refine wpAnyH_take (i := 8) (v := ?v77) rfl (by kernel_rfl) (by kernel_rfl) (by kernel_rfl) (fun _ _ _ h => h) (Or.inl ⟨by rfl, ?hy77⟩) (by assumption) ?rest77
          case hy77 => (intro w hSw; (try dsimp only at hSw); go_simp <;> with_reducible rfl)
          try simp only [Act.put, List.getElem_toArray, List.getElem_cons_zero, List.getElem_cons_succ, List.setIfInBounds_toArray, List.set_cons_zero, List.set_cons_succ]
          refine wpAnyH_take (i := 9) (v := ?v78) rfl (by kernel_rfl) (by kernel_rfl) (by kernel_rfl) (fun _ _ _ h => h) (Or.inl ⟨by rfl, ?hy78⟩) (by assumption) ?rest78
          case hy78 => (intro w hSw; (try dsimp only at hSw); go_simp <;> with_reducible rfl)
          try simp only [Act.put, List.getElem_toArray, List.getElem_cons_zero, List.getElem_cons_succ, List.setIfInBounds_toArray, List.set_cons_zero, List.set_cons_succ]
          refine wpAnyH_take (i := 10) (v := ?v79) rfl (by kernel_rfl) (by kernel_rfl) (by kernel_rfl) (fun _ _ _ h => h) (Or.inl ⟨by rfl, ?hy79⟩) (by assumption) ?rest79
          case hy79 => (intro w hSw; (try dsimp only at hSw); go_simp <;> with_reducible rfl)
          try simp only [Act.put, List.getElem_toArray, List.getElem_cons_zero, List.getElem_cons_succ, List.setIfInBounds_toArray, List.set_cons_zero, List.set_cons_succ]
          refine wpAnyH_take (i := 11) (v := ?v80) rfl (by kernel_rfl) (by kernel_rfl) (by kernel_rfl) (fun _ _ _ h => h) (Or.inl ⟨by rfl, ?hy80⟩) (by assumption) ?rest80
          case hy80 => (intro w hSw; (try dsimp only at hSw); go_simp <;> with_reducible rfl)
          try simp only [Act.put, List.getElem_toArray, List.getElem_cons_zero, List.getElem_cons_succ, List.setIfInBounds_toArray, List.set_cons_zero, List.set_cons_succ]
          refine wpAnyH_take (i := 12) (v := ?v81) rfl (by kernel_rfl) (by kernel_rfl) (by kernel_rfl) (fun _ _ _ h => h) (Or.inl ⟨by rfl, ?hy81⟩) (by assumption) ?rest81
          case hy81 => (intro w hSw; (try dsimp only at hSw); go_simp <;> with_reducible rfl)
          try simp only [Act.put, List.getElem_toArray, List.getElem_cons_zero, List.getElem_cons_succ, List.setIfInBounds_toArray, List.set_cons_zero, List.set_cons_succ]
          refine wpAnyH_take (i := 13) (v := ?v82) rfl (by kernel_rfl) (by kernel_rfl) (by kernel_rfl) (fun _ _ _ h => h) (Or.inl ⟨by rfl, ?hy82⟩) (by assumption) ?rest82
          case hy82 => (intro w hSw; (try dsimp only at hSw); go_simp <;> with_reducible rfl)
          try simp only [Act.put, List.getElem_toArray, List.getElem_cons_zero, List.getElem_cons_succ, List.setIfInBounds_toArray, List.set_cons_zero, List.set_cons_succ]
          refine wpAnyH_take (i := 14) (v := ?v83) rfl (by kernel_rfl) (by kernel_rfl) (by kernel_rfl) (fun _ _ _ h => h) (Or.inl ⟨by rfl, ?hy83⟩) (by assumption) ?rest83
          case hy83 => (intro w hSw; (try dsimp only at hSw); go_simp <;> with_reducible rfl)
          try simp only [Act.put, List.getElem_toArray, List.getElem_cons_zero, List.getElem_cons_succ, List.setIfInBounds_toArray, List.set_cons_zero, List.set_cons_succ]
          refine wpAnyH_take (i := 15) (v := ?v84) rfl (by kernel_rfl) (by kernel_rfl) (by kernel_rfl) (fun _ _ _ h => h) (Or.inl ⟨by rfl, ?hy84⟩) (by assumption) ?rest84
          case hy84 => (intro w hSw; (try dsimp only at hSw); go_simp <;> with_reducible rfl)
          try simp only [Act.put, List.getElem_toArray, List.getElem_cons_zero, List.getElem_cons_succ, List.setIfInBounds_toArray, List.set_cons_zero, List.set_cons_succ]
          refine wpAnyH_ready (rs := [16]) (by kernel_rfl) (by simp) ?_
          refine AllReadyH.cons rfl (fun K hK => ?_) AllReadyH.nil
          go_simp
          refine (CM.out _ T1.out).mono ?_
          rintro e w9 ⟨rfl, hb⟩
          have T1 := hide (bt T1.out hb)
          have S1 := And.intro (PG.out _ T1.out) (And.intro (HR.out _ T1.out) (HQ.out _ T1.out))
          clear hb
          go_wp2_with fail
          refine hK.out _ _ (by exact S1) (fun hHeld => ?_)
          clear hK K
          try simp only [Act.put, List.getElem_toArray, List.getElem_cons_zero, List.getElem_cons_succ, List.setIfInBounds_toArray, List.set_cons_zero, List.set_cons_succ]
          refine wpAnyH_take (i := 17) (v := ?v85) rfl (by kernel_rfl) (by kernel_rfl) (by kernel_rfl) (fun _ _ _ h => h) (Or.inl ⟨by rfl, ?hy85⟩) (by assumption) ?rest85
          case hy85 => (intro w hSw; (try dsimp only at hSw); go_simp <;> with_reducible rfl)
          try simp only [Act.put, List.getElem_toArray, List.getElem_cons_zero, List.getElem_cons_succ, List.setIfInBounds_toArray, List.set_cons_zero, List.set_cons_succ]
          refine wpAnyH_take (i := 18) (v := ?v86) rfl (by kernel_rfl) (by kernel_rfl) (by kernel_rfl) (fun _ _ _ h => h) (Or.inl ⟨by rfl, ?hy86⟩) (by assumption) ?rest86
          case hy86 => (intro w hSw; (try dsimp only at hSw); go_simp <;> with_reducible rfl)
          try simp only [Act.put, List.getElem_toArray, List.getElem_cons_zero, List.getElem_cons_succ, List.setIfInBounds_toArray, List.set_cons_zero, List.set_cons_succ]
          refine wpAnyH_done (by kernel_rfl) ?_ _
          clear S1
          by_cases hz : z ≤ 0
          · have hzd : decide (z ≤ 0) = true := by simpa using hz
            go_wp2
            go_ret
            exact ⟨ret_nat (HE.out 11 (by decide) (by rw [E4.out]; first | (simp; done) | (simp; omega) | (simp [hz]; done) | (simp [hz]; omega))), bt HW.out T1.out⟩
          · have hzd : decide (z ≤ 0) = false := by simpa using hz
            go_wp2
            have T1 := hide (bt T1.out (dr1 _))
            have S1 := And.intro (PG.out _ T1.out) (HR.out _ T1.out)
            refine wp_region_held_drew (S := fun w' => (w'.cell? ⟨w.heap.size, 0, none⟩ = some (.int .i64 2) ∧ w'.cell? ⟨w.heap.size, 1, none⟩ = some (.int .i64 level) ∧ w'.cell? ⟨w.heap.size, 2, none⟩ = some (.slice (some ⟨bI, off, none⟩) items.length cI) ∧ w'.cell? ⟨w.heap.size, 3, none⟩ = some (.slice aD data.length cD) ∧ w'.cell? ⟨w.heap.size, 4, none⟩ = some (.int .i64 next)) ∧ (w'.cell? ⟨bI, off + (j + 1) * 4, none⟩ = some (.slice aK key.length cK) ∧ w'.cell? ⟨bI, off + (j + 1) * 4 + 1, none⟩ = some (.slice aV val.length cV) ∧ w'.cell? ⟨bI, off + (j + 1) * 4 + 2, none⟩ = some (.int .i64 child) ∧ w'.cell? ⟨bI, off + (j + 1) * 4 + 3, none⟩ = some (.int .i64 size))) (by kernel_rfl) (by exact S1) (fun hHeld => ?_)
            refine wpAnyH_take (i := 0) (v := ?v87) rfl (by kernel_rfl) (by kernel_rfl) (by kernel_rfl) (fun _ _ _ h => h) (Or.inl ⟨by rfl, ?hy87⟩) (by assumption) ?rest87
            case hy87 => (intro w hSw; (try dsimp only at hSw); go_simp <;> with_reducible rfl)
            try simp only [Act.put, List.getElem_toArray, List.getElem_cons_zero, List.setIfInBounds_toArray, List.set_cons_zero, List.set_cons_succ]
            refine wpAnyH_take (i := 1) (v := ?v88) rfl (by kernel_rfl) (by kernel_rfl) (by kernel_rfl) (fun _ _ _ h => h) (Or.inl ⟨by rfl, ?hy88⟩) (by assumption) ?rest88
            case hy88 => (intro w hSw; (try dsimp only at hSw); go_simp <;> with_reducible rfl)
            try simp only [Act.put, List.getElem_toArray, List.getElem_cons_zero, List.getElem_cons_succ, List.setIfInBounds_toArray, List.set_cons_zero, List.set_cons_succ]
            refine wpAnyH_take (i := 2) (v := ?v89) rfl (by kernel_rfl) (by kernel_rfl) (by kernel_rfl) (fun _ _ _ h => h) (Or.inl ⟨by rfl, ?hy89⟩) (by assumption) ?rest89
            case hy89 => (intro w hSw; (try dsimp only at hSw); go_simp <;> with_reducible rfl)
            try simp only [Act.put, List.getElem_toArray, List.getElem_cons_zero, List.getElem_cons_succ, List.setIfInBounds_toArray, List.set_cons_zero, List.set_cons_succ]
            refine wpAnyH_take (i := 3) (v := ?v90) rfl (by kernel_rfl) (by kernel_rfl) (by kernel_rfl) (fun _ _ _ h => h) (Or.inl ⟨by rfl, ?hy90⟩) (by assumption) ?rest90
            case hy90 => (intro w hSw; (try dsimp only at hSw); go_simp <;> with_reducible rfl)
            try simp only [Act.put, List.getElem_toArray, List.getElem_cons_zero, List.getElem_cons_succ, List.setIfInBounds_toArray, List.set_cons_zero, List.set_cons_succ]
            refine wpAnyH_take (i := 4) (v := ?v91) rfl (by kernel_rfl) (by kernel_rfl) (by kernel_rfl) (fun _ _ _ h => h) (Or.inl ⟨by rfl, ?hy91⟩) (by assumption) ?rest91
            case hy91 => (intro w hSw; (try dsimp only at hSw); go_simp <;> with_reducible rfl)
            try simp only [Act.put, List.getElem_toArray, List.getElem_cons_zero, List.getElem_cons_succ, List.setIfInBounds_toArray, List.set_cons_zero, List.set_cons_succ]
            refine wpAnyH_take (i := 5) (v := ?v92) rfl (by kernel_rfl) (by kernel_rfl) (by kernel_rfl) (fun _ _ _ h => h) (Or.inl ⟨by rfl, ?hy92⟩) (by assumption) ?rest92
            case hy92 => (intro w hSw; (try dsimp only at hSw); go_simp <;> with_reducible rfl)
            try simp only [Act.put, List.getElem_toArray, List.getElem_cons_zero, List.getElem_cons_succ, List.setIfInBounds_toArray, List.set_cons_zero, List.set_cons_succ]
            refine wpAnyH_ready (rs := [6]) (by kernel_rfl) (by simp) ?_
            refine AllReadyH.cons rfl (fun K hK => ?_) AllReadyH.nil
            go_simp
            refine (VA.out _ T1.out).mono ?_
            rintro e w9 ⟨rfl, hb⟩
            have T1 := hide (bt T1.out hb)
            have S1 := And.intro (PG.out _ T1.out) (HR.out _ T1.out)
            clear hb
            go_wp2_with fail
            refine hK.out _ _ (by exact S1) (fun hHeld => ?_)
            clear hK K
            try simp only [Act.put, List.getElem_toArray, List.getElem_cons_zero, List.getElem_cons_succ, List.setIfInBounds_toArray, List.set_cons_zero, List.set_cons_succ]
            refine wpAnyH_take (i := 7) (v := ?v93) rfl (by kernel_rfl) (by kernel_rfl) (by kernel_rfl) (fun _ _ _ h => h) (Or.inl ⟨by rfl, ?hy93⟩) (by assumption) ?rest93
            case hy93 => (intro w hSw; (try dsimp only at hSw); go_simp <;> with_reducible rfl)
            try simp only [Act.put, List.getElem_toArray, List.getElem_cons_zero, List.getElem_cons_succ, List.setIfInBounds_toArray, List.set_cons_zero, List.set_cons_succ]
            refine wpAnyH_done (by kernel_rfl) ?_ _
            clear S1
            cases vv with
            | false =>
              go_wp2
              go_ret
              exact ⟨ret_nat (HE.out 8 (by decide) (by rw [E4.out]; first | (simp; done) | (simp; omega) | (simp [hz]; done) | (simp [hz]; omega))), bt HW.out T1.out⟩
            | true =>
              go_wp2
              have T1 := hide (bt T1.out (dr1 _))
              have S1 := And.intro (PG.out _ T1.out) (HR.out _ T1.out)
              refine wp_region_held_drew (S := fun w' => (w'.cell? ⟨w.heap.size, 0, none⟩ = some (.int .i64 2) ∧ w'.cell? ⟨w.heap.size, 1, none⟩ = some (.int .i64 level) ∧ w'.cell? ⟨w.heap.size, 2, none⟩ = some (.slice (some ⟨bI, off, none⟩) items.length cI) ∧ w'.cell? ⟨w.heap.size, 3, none⟩ = some (.slice aD data.length cD) ∧ w'.cell? ⟨w.heap.size, 4, none⟩ = some (.int .i64 next)) ∧ (w'.cell? ⟨bI, off + (j + 1) * 4, none⟩ = some (.slice aK key.length cK) ∧ w'.cell? ⟨bI, off + (j + 1) * 4 + 1, none⟩ = some (.slice aV val.length cV) ∧ w'.cell? ⟨bI, off + (j + 1) * 4 + 2, none⟩ = some (.int .i64 child) ∧ w'.cell? ⟨bI, off + (j + 1) * 4 + 3, none⟩ = some (.int .i64 size))) (by kernel_rfl) (by exact S1) (fun hHeld => ?_)
              refine wpAnyH_take (i := 0) (v := ?v94) rfl (by kernel_rfl) (by kernel_rfl) (by kernel_rfl) (fun _ _ _ h => h) (Or.inl ⟨by rfl, ?hy94⟩) (by assumption) ?rest94
              case hy94 => (intro w hSw; (try dsimp only at hSw); go_simp <;> with_reducible rfl)
              try simp only [Act.put, List.getElem_toArray, List.getElem_cons_zero, List.setIfInBounds_toArray, List.set_cons_zero, List.set_cons_succ]
              refine wpAnyH_take (i := 1) (v := ?v95) rfl (by kernel_rfl) (by kernel_rfl) (by kernel_rfl) (fun _ _ _ h => h) (Or.inl ⟨by rfl, ?hy95⟩) (by assumption) ?rest95
              case hy95 => (intro w hSw; (try dsimp only at hSw); go_simp <;> with_reducible rfl)
              try simp only [Act.put, List.getElem_toArray, List.getElem_cons_zero, List.getElem_cons_succ, List.setIfInBounds_toArray, List.set_cons_zero, List.set_cons_succ]
              refine wpAnyH_take (i := 2) (v := ?v96) rfl (by kernel_rfl) (by kernel_rfl) (by kernel_rfl) (fun _ _ _ h => h) (Or.inl ⟨by rfl, ?hy96⟩) (by assumption) ?rest96
              case hy96 => (intro w hSw; (try dsimp only at hSw); go_simp <;> with_reducible rfl)
              try simp only [Act.put, List.getElem_toArray, List.getElem_cons_zero, List.getElem_cons_succ, List.setIfInBounds_toArray, List.set_cons_zero, List.set_cons_succ]
              refine wpAnyH_take (i := 3) (v := ?v97) rfl (by kernel_rfl) (by kernel_rfl) (by kernel_rfl) (fun _ _ _ h => h) (Or.inl ⟨by rfl, ?hy97⟩) (by assumption) ?rest97
              case hy97 => (intro w hSw; (try dsimp only at hSw); go_simp <;> with_reducible rfl)
              try simp only [Act.put, List.getElem_toArray, List.getElem_cons_zero, List.getElem_cons_succ, List.setIfInBounds_toArray, List.set_cons_zero, List.set_cons_succ]
              refine wpAnyH_take (i := 4) (v := ?v98) rfl (by kernel_rfl) (by kernel_rfl) (by kernel_rfl) (fun _ _ _ h => h) (Or.inl ⟨by rfl, ?hy98⟩) (by assumption) ?rest98
              case hy98 => (intro w hSw; (try dsimp only at hSw); go_simp <;> with_reducible rfl)
              try simp only [Act.put, List.getElem_toArray, List.getElem_cons_zero, List.getElem_cons_succ, List.setIfInBounds_toArray, List.set_cons_zero, List.set_cons_succ]
              refine wpAnyH_take (i := 5) (v := ?v99) rfl (by kernel_rfl) (by kernel_rfl) (by kernel_rfl) (fun _ _ _ h => h) (Or.inl ⟨by rfl, ?hy99⟩) (by assumption) ?rest99
              case hy99 => (intro w hSw; (try dsimp only at hSw); go_simp <;> with_reducible rfl)
              try simp only [Act.put, List.getElem_toArray, List.getElem_cons_zero, List.getElem_cons_succ, List.setIfInBounds_toArray, List.set_cons_zero, List.set_cons_succ]
              refine wpAnyH_ready (rs := [6]) (by kernel_rfl) (by simp) ?_
              refine AllReadyH.cons rfl (fun K hK => ?_) AllReadyH.nil
              go_simp
              refine (CH.out _ T1.out).mono ?_
              rintro e w9 ⟨rfl, hb⟩
              have T1 := hide (bt T1.out hb)
              have S1 := And.intro (PG.out _ T1.out) (HR.out _ T1.out)
              clear hb
              go_wp2_with fail
              refine hK.out _ _ (by exact S1) (fun hHeld => ?_)
              clear hK K
              try simp only [Act.put, List.getElem_toArray, List.getElem_cons_zero, List.getElem_cons_succ, List.setIfInBounds_toArray, List.set_cons_zero, List.set_cons_succ]
              refine wpAnyH_take (i := 7) (v := ?v100) rfl (by kernel_rfl) (by kernel_rfl) (by kernel_rfl) (fun _ _ _ h => h) (Or.inl ⟨by rfl, ?hy100⟩) (by assumption) ?rest100
              case hy100 => (intro w hSw; (try dsimp only at hSw); go_simp <;> with_reducible rfl)
              try simp only [Act.put, List.getElem_toArray, List.getElem_cons_zero, List.getElem_cons_succ, List.setIfInBounds_toArray, List.set_cons_zero, List.set_cons_succ]
              refine wpAnyH_done (by kernel_rfl) ?_ _
              clear S1
              cases cc with
              | false =>
                go_wp2
                go_ret
                exact ⟨ret_nat (HE.out 15 (by decide) (by rw [E4.out]; first | (simp; done) | (simp; omega) | (simp [hz]; done) | (simp [hz]; omega))), bt HW.out T1.out⟩
              | true =>
                go_wp2
                go_roundw
                case rel => exact ⟨j + 1 + 1, by omega, by first | (go_num; done) | exact congrArg (Value.int IntKind.i64) (by omega), T1.out, by rw [firstE_snoc, H0.out]; show f (j + 1) = 0; rw [E4.out]; first | (simp; done) | (simp; omega) | (simp [hz]; done) | (simp [hz]; omega)⟩
                case measure => first | exact meas_up _ _ _ hj1 hlt | exact meas_up _ _ _ rfl hlt | (simp [intOf]; omega)
    · obtain rfl : k = items.length := by omega
      go_wp2
      go_ret
      exact ⟨ret_nat (by rw [HEN.out H0.out, HNX.out]; simp), bt HW.out T1.out⟩
end Go.Proofs.YtbhigodjbfoeoaaGreat
namespace Go.Proofs.YtbhigodjbfoeoaaGreat
open Go.RowKit
set_option maxRecDepth 8000 in
set_option maxHeartbeats 3200000 in
theorem iCheck_3 (w : World) (p : Pv) (hP : Pi w p) (hf : p.pg.formE = 0) (k1 : p.kind = 3) : Calls Tryz.prog 61 #[p.vl] w fun e w' => e = .returned (.int .i64 (p.pg.check : Int)) ∧ Below w.heap.size w w' := by
  have HP := hide (hP.keep (al w (.cells p.cs 93)))
  have hin : p.items.length ≤ 2199023255489 := hP.it.2.1
  have B0 := hide (Bx.new w 93 p.cs)
  have HW := hide (al w (.cells p.cs 93))
  obtain ⟨v, hv⟩ : ∃ v, w.alloc (.cells p.cs 93) = v := ⟨_, rfl⟩
  rw [hv] at HP B0 HW
  have PG := hide fun (w1 : World) (hb : Below v.heap.size v w1) => Bx.page (B0.out.keep hb)
  have FO := hide fun (w1 : World) => iform_any w1 p
  have HX := hide (form_zero hf)
  have HKD := hide (Pg.kindOk_iff.1 (form_zero hf).1)
  have KYA := hide fun (k : Nat) (hk : k < p.items.length) (w1 : World) (hb : Below v.heap.size v w1) => ikey_any w1 p k (HP.out.keep hb) hk
  have VAA := hide fun (x : Iv) (w1 : World) (hb : Below v.heap.size v w1) => ivalue_any w1 p x
  have CHA := hide fun (x : Iv) (w1 : World) (hb : Below v.heap.size v w1) => ichild_any w1 p x
  have HEA := hide fun (k : Nat) (h0 : firstE p.pg.itemE k = 0) (hk : k < p.items.length) (x : Nat) (hx : x ≠ 0) (e : p.pg.itemE k = x) => (show p.pg.check = x from by
    rw [check_at hf h0 (by simpa [Pv.pg] using hk) (by rw [e]; exact hx), e])
  have HEN := hide fun (h0 : firstE p.pg.itemE p.items.length = 0) => (check_end hf (by simpa [Pv.pg] using h0))
  have HIT := hide fun k => (show p.pg.itemE k = if p.pg.keyOk k = false then 7 else if (decide (k = 0) || decide (0 < cmpB (p.items.getD k Iv.zero).key (p.items.getD (k - 1) Iv.zero).key)) = false then 11 else if (p.items.getD k Iv.zero).it.valOk p.kind = false then 8 else if (p.items.getD k Iv.zero).it.kidOk p.kind = false then 15 else 0 from by
    unfold Pg.itemE Pg.ordOk; rw [Pv.at, Pv.at]; rfl)
  have HNL := hide fun (h : p.kind = 3) => (show p.items.length = 0 from by have h2 := (form_zero hf).2; unfold Pg.form at h2; rw [if_pos (show p.pg.kind = 3 from h)] at h2; simp [Pv.pg] at h2; rw [h2.1.1.2]; rfl)
  have HNX : Hid (p.pg.nextOk = !(decide (p.kind = 3) && decide (p.next ≠ 0) && !isNum p.next)) := rfl
  rw [HX.out.2] at FO
  have hpk : p.pg.kind = p.kind := rfl
  rw [hpk] at HKD
  clear hpk HX hP hf
  generalize p.pg.check = ans at *
  generalize p.pg.itemE = f at *
  generalize p.pg.nextOk = nx at *
  obtain ⟨kind, level, aI, cI, items, aD, cD, data, next⟩ := p
  unfold Pv.vl
  simp only [Pv.cs, Pv.vl] at *
  subst k1
  obtain rfl := List.length_eq_zero_iff.1 (HNL.out rfl)
  simp only [List.length_nil] at *
  obtain ⟨b0, b1, b2, b3, b4⟩ := PG.out _ (Below.refl _ _)
  go_enter Tryz.func61, Tryz.ntmps61
  go_wp2_with fail
  refine (FO.out _).mono ?_
  rintro y w1 ⟨rfl, hb⟩
  have T1 := hide hb
  clear hb hv FO b0 b1 b2 b3 b4
  obtain ⟨c0, c1, c2, c3, c4⟩ := PG.out _ T1.out
  go_wp2
  go_loopw [3] (fun i wx => ∃ k : Nat, k ≤ 0 ∧ i = .int .i64 k ∧ Below v.heap.size v wx ∧ firstE f k = 0) (fun i _ => 0 - (intOf i).toNat)
  case atStart => exact ⟨0, Nat.zero_le _, rfl, T1.out, rfl⟩
  case round =>
    clear T1 c0 c1 c2 c3 c4
    obtain ⟨k, hk, rfl, hT, h0⟩ := hrel
    have T1 := hide hT
    have H0 := hide h0
    clear hT h0
    obtain ⟨c0, c1, c2, c3, c4⟩ := PG.out _ T1.out
    obtain rfl : k = 0 := by simpa using hk
    by_cases hn0 : next = 0
    · subst hn0
      go_wp2
      go_ret
      exact ⟨ret_nat (by rw [HEN.out rfl, HNX.out]; simp), bt HW.out T1.out⟩
    · have hn0' : (next == 0) = false := by simpa using hn0
      go_wp2_with fail
      refine (IsPage_any _ _).mono ?_
      rintro y w2 ⟨rfl, hw⟩
      obtain rfl := hw.symm
      cases hisn : isNum next with
      | false =>
        go_wp2
        go_ret
        exact ⟨ret_nat (by rw [HEN.out rfl, HNX.out]; simp [hn0, hisn]), bt HW.out T1.out⟩
      | true =>
        go_wp2
        go_ret
        exact ⟨ret_nat (by rw [HEN.out rfl, HNX.out]; simp [hisn]), bt HW.out T1.out⟩
end Go.Proofs.YtbhigodjbfoeoaaGreat
namespace Go.Proofs.YtbhigodjbfoeoaaGreat
open Go.RowKit
set_option maxRecDepth 8000 in
set_option maxHeartbeats 1600000 in
theorem iCheck_any (w : World) (p : Pv) (hP : Pi w p) : Calls Tryz.prog 61 #[p.vl] w fun e w' => e = .returned (.int .i64 (p.pg.check : Int)) ∧ Below w.heap.size w w' := by
  by_cases hf : p.pg.formE = 0
  · rcases Pg.kindOk_iff.1 (form_zero hf).1 with k | k | k
    · exact iCheck_1 w p hP hf k
    · exact iCheck_2 w p hP hf k
    · exact iCheck_3 w p hP hf k
  · rw [check_form hf]
    have FO := hide fun (w1 : World) => iform_any w1 p
    cases hk : p.pg.kindOk with
    | false =>
      have he : p.pg.formE = 22 := by unfold Pg.formE; rw [if_pos hk]
      have hn : ¬ p.kind = 1 ∧ ¬ p.kind = 2 ∧ ¬ p.kind = 3 := by
        refine ⟨fun h => ?_, fun h => ?_, fun h => ?_⟩ <;> simp [Pg.kindOk, Pv.pg, h] at hk
      rw [he]
      clear FO hf hP hk he
      obtain ⟨kind, level, aI, cI, items, aD, cD, data, next⟩ := p
      unfold Pv.vl
      simp only [Pv.cs] at *
      obtain ⟨h1, h2, h3⟩ := hn
      have h1' : (kind == 1) = false := by simpa using h1
      have h2' : (kind == 2) = false := by simpa using h2
      have h3' : (kind == 3) = false := by simpa using h3
      have g1 : (kind != 1) = true := by simpa using h1
      have g2 : (kind != 2) = true := by simpa using h2
      have g3 : (kind != 3) = true := by simpa using h3
      go_enter Tryz.func61, Tryz.ntmps61
      go_wp2
      go_ret
      exact ⟨rfl, al _ _⟩
    | true =>
      have hff : p.pg.form = false := by
        cases h : p.pg.form with
        | false => rfl
        | true => exact absurd (by unfold Pg.formE; simp [hk, h]) hf
      have he : p.pg.formE = 5 := by unfold Pg.formE; simp [hk, hff]
      rw [he]
      rw [hff] at FO
      have HB := hide (Bx.new w 93 p.cs)
      have hkk := Pg.kindOk_iff.1 hk
      have hpk : p.pg.kind = p.kind := rfl
      rw [hpk] at hkk
      clear hf hP hk he hff hpk
      obtain ⟨kind, level, aI, cI, items, aD, cD, data, next⟩ := p
      unfold Pv.vl at *
      simp only [Pv.cs] at *
      rcases hkk with rfl | rfl | rfl
      · go_enter Tryz.func61, Tryz.ntmps61
        go_wp2_with fail
        refine (FO.out _).mono ?_
        rintro y w1 ⟨rfl, hb⟩
        go_wp2
        go_ret
        exact ⟨rfl, bt (al _ _) hb⟩
      · go_enter Tryz.func61, Tryz.ntmps61
        go_wp2_with fail
        refine (FO.out _).mono ?_
        rintro y w1 ⟨rfl, hb⟩
        go_wp2
        go_ret
        exact ⟨rfl, bt (al _ _) hb⟩
      · go_enter Tryz.func61, Tryz.ntmps61
        go_wp2_with fail
        refine (FO.out _).mono ?_
        rintro y w1 ⟨rfl, hb⟩
        go_wp2
        go_ret
        exact ⟨rfl, bt (al _ _) hb⟩
end Go.Proofs.YtbhigodjbfoeoaaGreat
