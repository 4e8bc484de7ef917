import Derived.Test.YtdngdcjjhabfiaaPHA
namespace Go.Proofs.Ytdngdcjjhabfiaa
open Go.RowKit
set_option maxRecDepth 8000 in
set_option maxHeartbeats 3200000 in
theorem checkItem_iN (w0 w : World) (kb e i : Nat) (p : Pv) (h : Kt w0 kb w e) (hP : Pi w0 p) (hi : i < p.items.length) (hk : p.kind = 2) (h0 : i ≠ 0) : Calls Try.prog 24 #[p.vl, .int .i64 (i : Int), tv kb] w fun x w' => x = .returned (.tuple #[]) ∧ Kt w0 kb w' (els e (p.pg.itemE i)) := by
  have hne := box_ne h
  have hlt := h.c.lt
  have hne2 : w.heap.size + 1 ≠ kb := by omega
  have hPa := Pv.at p i
  have hPb := Pv.at p (i - 1)
  obtain ⟨bI, off, hbo, hr⟩ := (hP.it.keep (bt h.b (al w (.cells p.cs 25)))).at hi
  have hi' : i - 1 < p.items.length := by omega
  have HJ := hide (hP.it.1 _ (getD_memR hi'))
  have HR := hide fun (w1 : World) (hb : Below w0.heap.size w0 w1) => (show w1.cell? ⟨bI, off + (i - 1) * 4, none⟩ = some (.slice (p.items.getD (i - 1) Iv.zero).aK (p.items.getD (i - 1) Iv.zero).key.length (p.items.getD (i - 1) Iv.zero).cK) from by obtain ⟨b2, o2, e2, r2⟩ := (hP.it.keep hb).at hi'; rw [hbo] at e2; simp only [Option.some.injEq, Addr.mk.injEq, and_true] at e2; obtain ⟨rfl, rfl⟩ := e2; exact (range4 r2).1)
  have HI := hide (hP.it.1 _ (getD_memR hi))
  obtain ⟨k0, k1, k2, k3⟩ := range4 hr
  rw [itmE_eq, hPa, hPb]
  clear hPa hPb
  generalize hx : p.items.getD i Iv.zero = x at *
  generalize hy : p.items.getD (i - 1) Iv.zero = y at *
  have CM := hide fun (w1 : World) (hb : Below w0.heap.size w0 w1) => bCompare_any w1 y.aK x.aK y.key.length y.cK x.key.length x.cK y.key x.key (HJ.out.bk.keep hb) (HI.out.bk.keep hb) rfl rfl
  have H := hide ((h.keep (al w (.cells p.cs 25))).keep (al _ (.cells x.cs 47)))
  have B := hide ((Bx.new w 25 p.cs).keep (al _ (.cells x.cs 47)))
  have D := hide (item_new w p.cs x.cs)
  have TN := hide fun (w1 : World) (e : Nat) (hk : Kt w0 kb w1 e) (hB : Bx w1 25 w.heap.size p.cs) (hD : Bx w1 47 (w.heap.size + 1) x.cs) (wrong : Bool) (xi : Int) (hx : 0 ≤ xi) => tell2 w0 w1 kb e w.heap.size (w.heap.size + 1) p.cs x.cs hk hB hD hne hne2 wrong xi hx
  have CV := hide fun (w1 : World) (e : Nat) (hk : Kt w0 kb w1 e) => checkValue_any w0 w1 kb e x hk
  have PG := hide fun (w1 : World) (hB : Bx w1 25 w.heap.size p.cs) => Bx.page hB
  have PI := hide fun (w1 : World) (hB : Bx w1 47 (w.heap.size + 1) x.cs) => Bx.item hB
  have HL := hide hP.ci
  have HLN := hide hP.it.2.1
  clear h hr hP hx hy
  obtain ⟨kind, level, aI, cI, items, aD, cD, data, next⟩ := p
  obtain ⟨aK, cK, key, aV, cV, val, child, size⟩ := x
  unfold Pv.vl tv
  simp only [Pv.cs, Iv.cs, Iv.vl, tv] at *
  subst hbo hk
  have hiI : (i : Int) < (items.length : Int) := by omega
  have hip : decide ((0 : Int) < (i : Int)) = true := by simp; omega
  have hi0 : ((i : Int) == 0) = false := by simpa using h0
  have hwj : IntKind.i64.wrap ((i : Int) - 1) = ((i - 1 : Nat) : Int) := by have := HLN.out; rw [wrapI (by omega) (by omega)]; omega
  obtain ⟨j, rfl⟩ : ∃ j, i = j + 1 := ⟨i - 1, by omega⟩
  rw [show j + 1 - 1 = j by omega] at HR hwj
  rw [show ((j + 1 : Nat) : Int) - 1 = (j : Int) by omega] at hwj
  have hiJ : (j : Int) < (items.length : Int) := by omega
  obtain ⟨yaK, ycK, yk, yaV, ycV, yval, ychild, ysize⟩ := y
  dsimp only at HR CM ⊢
  generalize hz : cmpB yk key = z at *
  have HZ := hide hz
  clear hz
  clear CV
  generalize hvn : val.length = vn at *
  have HVN := hide hvn
  clear hvn
  cases hkd : decide (((key.length : Nat) : Int) < 1)
  · skip
    by_cases hv0 : vn = 0
    · subst hv0
      go_enter Try.func24, Try.ntmps24
      go_wp2_with (first | (go_at_call 50; refine (TN.out _ _ H.out B.out D.out _ _ (by decide)).mono ?_; rintro y w1 ⟨rfl, hk, hb, hd⟩; have H := hide hk; have B := hide hb; have D := hide hd; obtain ⟨c0, c1, c2, c3, c4⟩ := PG.out _ hb; obtain ⟨d0, d1, d2, d3⟩ := PI.out _ hd; clear hk hb hd) | (go_at_call 25; refine (isNumber_any _ _).mono ?_; rintro y w1 ⟨rfl, hww⟩; obtain rfl := hww.symm) | (go_at_call 54; refine (CV.out _ _ H.out).mono ?_; rintro y w1 ⟨rfl, hk, _⟩; have H := hide hk))
      have H := hide (H.out.keep (dr1 _))
      have B := hide (B.out.keep (dr1 _))
      have D := hide (D.out.keep (dr1 _))
      have S1 := And.intro (PG.out _ B.out).2.2.1 (And.intro (PI.out _ D.out).1 (HR.out _ H.out.b))
      refine wp_region_held_drew (S := fun w' => w'.cell? ⟨w.heap.size, 2, none⟩ = some (.slice (some ⟨bI, off, none⟩) items.length cI) ∧ w'.cell? ⟨w.heap.size + 1, 0, none⟩ = some (.slice aK key.length cK) ∧ w'.cell? ⟨bI, off + j * 4, none⟩ = some (.slice yaK yk.length ycK)) (by kernel_rfl) (by exact S1) (fun hHeld => ?_)
      refine wpAnyH_take (i := 0) (v := ?v11) rfl (by kernel_rfl) (by kernel_rfl) (by kernel_rfl) (fun _ _ _ h => h) (Or.inl ⟨by rfl, ?hy11⟩) (by assumption) ?rest11
      case hy11 => (intro w hSw; (try dsimp only at hSw); go_simp <;> with_reducible rfl)
      try simp only [Act.put, List.getElem_toArray, List.getElem_cons_zero, List.setIfInBounds_toArray, List.set_cons_zero, List.set_cons_succ]
      refine wpAnyH_take (i := 1) (v := ?v12) rfl (by kernel_rfl) (by kernel_rfl) (by kernel_rfl) (fun _ _ _ h => h) (Or.inl ⟨by rfl, ?hy12⟩) (by assumption) ?rest12
      case hy12 => (intro w hSw; (try dsimp only at hSw); go_simp <;> with_reducible rfl)
      try simp only [Act.put, List.getElem_toArray, List.getElem_cons_zero, List.getElem_cons_succ, List.setIfInBounds_toArray, List.set_cons_zero, List.set_cons_succ]
      refine wpAnyH_take (i := 2) (v := ?v13) rfl (by kernel_rfl) (by kernel_rfl) (by kernel_rfl) (fun _ _ _ h => h) (Or.inl ⟨by rfl, ?hy13⟩) (by assumption) ?rest13
      case hy13 => (intro w hSw; (try dsimp only at hSw); go_simp <;> with_reducible rfl)
      try simp only [Act.put, List.getElem_toArray, List.getElem_cons_zero, List.getElem_cons_succ, List.setIfInBounds_toArray, List.set_cons_zero, List.set_cons_succ]
      refine wpAnyH_take (i := 3) (v := ?v14) rfl (by kernel_rfl) (by kernel_rfl) (by kernel_rfl) (fun _ _ _ h => h) (Or.inl ⟨by rfl, ?hy14⟩) (by assumption) ?rest14
      case hy14 => (intro w hSw; (try dsimp only at hSw); go_simp <;> with_reducible rfl)
      try simp only [Act.put, List.getElem_toArray, List.getElem_cons_zero, List.getElem_cons_succ, List.setIfInBounds_toArray, List.set_cons_zero, List.set_cons_succ]
      refine wpAnyH_take (i := 4) (v := ?v15) rfl (by kernel_rfl) (by kernel_rfl) (by kernel_rfl) (fun _ _ _ h => h) (Or.inl ⟨by rfl, ?hy15⟩) (by assumption) ?rest15
      case hy15 => (intro w hSw; (try dsimp only at hSw); go_simp <;> with_reducible rfl)
      try simp only [Act.put, List.getElem_toArray, List.getElem_cons_zero, List.getElem_cons_succ, List.setIfInBounds_toArray, List.set_cons_zero, List.set_cons_succ]
      refine wpAnyH_take (i := 5) (v := ?v16) rfl (by kernel_rfl) (by kernel_rfl) (by kernel_rfl) (fun _ _ _ h => h) (Or.inl ⟨by rfl, ?hy16⟩) (by assumption) ?rest16
      case hy16 => (intro w hSw; (try dsimp only at hSw); go_simp <;> with_reducible rfl)
      try simp only [Act.put, List.getElem_toArray, List.getElem_cons_zero, List.getElem_cons_succ, List.setIfInBounds_toArray, List.set_cons_zero, List.set_cons_succ]
      refine wpAnyH_take (i := 6) (v := ?v17) rfl (by kernel_rfl) (by kernel_rfl) (by kernel_rfl) (fun _ _ _ h => h) (Or.inl ⟨by rfl, ?hy17⟩) (by assumption) ?rest17
      case hy17 => (intro w hSw; (try dsimp only at hSw); go_simp <;> with_reducible rfl)
      try simp only [Act.put, List.getElem_toArray, List.getElem_cons_zero, List.getElem_cons_succ, List.setIfInBounds_toArray, List.set_cons_zero, List.set_cons_succ]
      refine wpAnyH_take (i := 7) (v := ?v18) rfl (by kernel_rfl) (by kernel_rfl) (by kernel_rfl) (fun _ _ _ h => h) (Or.inl ⟨by rfl, ?hy18⟩) (by assumption) ?rest18
      case hy18 => (intro w hSw; (try dsimp only at hSw); go_simp <;> with_reducible rfl)
      try simp only [Act.put, List.getElem_toArray, List.getElem_cons_zero, List.getElem_cons_succ, List.setIfInBounds_toArray, List.set_cons_zero, List.set_cons_succ]
      refine wpAnyH_take (i := 8) (v := ?v19) rfl (by kernel_rfl) (by kernel_rfl) (by kernel_rfl) (fun _ _ _ h => h) (Or.inl ⟨by rfl, ?hy19⟩) (by assumption) ?rest19
      case hy19 => (intro w hSw; (try dsimp only at hSw); go_simp <;> with_reducible rfl)
      try simp only [Act.put, List.getElem_toArray, List.getElem_cons_zero, List.getElem_cons_succ, List.setIfInBounds_toArray, List.set_cons_zero, List.set_cons_succ]
      refine wpAnyH_take (i := 9) (v := ?v20) rfl (by kernel_rfl) (by kernel_rfl) (by kernel_rfl) (fun _ _ _ h => h) (Or.inl ⟨by rfl, ?hy20⟩) (by assumption) ?rest20
      case hy20 => (intro w hSw; (try dsimp only at hSw); go_simp <;> with_reducible rfl)
      try simp only [Act.put, List.getElem_toArray, List.getElem_cons_zero, List.getElem_cons_succ, List.setIfInBounds_toArray, List.set_cons_zero, List.set_cons_succ]
      refine wpAnyH_take (i := 10) (v := ?v21) rfl (by kernel_rfl) (by kernel_rfl) (by kernel_rfl) (fun _ _ _ h => h) (Or.inl ⟨by rfl, ?hy21⟩) (by assumption) ?rest21
      case hy21 => (intro w hSw; (try dsimp only at hSw); go_simp <;> with_reducible rfl)
      try simp only [Act.put, List.getElem_toArray, List.getElem_cons_zero, List.getElem_cons_succ, List.setIfInBounds_toArray, List.set_cons_zero, List.set_cons_succ]
      refine wpAnyH_take (i := 11) (v := ?v22) rfl (by kernel_rfl) (by kernel_rfl) (by kernel_rfl) (fun _ _ _ h => h) (Or.inl ⟨by rfl, ?hy22⟩) (by assumption) ?rest22
      case hy22 => (intro w hSw; (try dsimp only at hSw); go_simp <;> with_reducible rfl)
      try simp only [Act.put, List.getElem_toArray, List.getElem_cons_zero, List.getElem_cons_succ, List.setIfInBounds_toArray, List.set_cons_zero, List.set_cons_succ]
      refine wpAnyH_take (i := 12) (v := ?v23) rfl (by kernel_rfl) (by kernel_rfl) (by kernel_rfl) (fun _ _ _ h => h) (Or.inl ⟨by rfl, ?hy23⟩) (by assumption) ?rest23
      case hy23 => (intro w hSw; (try dsimp only at hSw); go_simp <;> with_reducible rfl)
      try simp only [Act.put, List.getElem_toArray, List.getElem_cons_zero, List.getElem_cons_succ, List.setIfInBounds_toArray, List.set_cons_zero, List.set_cons_succ]
      refine wpAnyH_ready (rs := [13]) (by kernel_rfl) (by simp) ?_
      refine AllReadyH.cons rfl (fun K hK => ?_) AllReadyH.nil
      go_simp
      refine (CM.out _ H.out.b).mono ?_
      rintro e w9 ⟨rfl, hw⟩
      obtain rfl := hw.symm
      clear hw
      go_wp2_with fail
      refine hK.out _ _ (by exact S1) (fun hHeld => ?_)
      clear hK K
      try simp only [Act.put, List.getElem_toArray, List.getElem_cons_zero, List.getElem_cons_succ, List.setIfInBounds_toArray, List.set_cons_zero, List.set_cons_succ]
      refine wpAnyH_take (i := 14) (v := ?v24) rfl (by kernel_rfl) (by kernel_rfl) (by kernel_rfl) (fun _ _ _ h => h) (Or.inl ⟨by rfl, ?hy24⟩) (by assumption) ?rest24
      case hy24 => (intro w hSw; (try dsimp only at hSw); go_simp <;> with_reducible rfl)
      try simp only [Act.put, List.getElem_toArray, List.getElem_cons_zero, List.getElem_cons_succ, List.setIfInBounds_toArray, List.set_cons_zero, List.set_cons_succ]
      refine wpAnyH_take (i := 15) (v := ?v25) rfl (by kernel_rfl) (by kernel_rfl) (by kernel_rfl) (fun _ _ _ h => h) (Or.inl ⟨by rfl, ?hy25⟩) (by assumption) ?rest25
      case hy25 => (intro w hSw; (try dsimp only at hSw); go_simp <;> with_reducible rfl)
      try simp only [Act.put, List.getElem_toArray, List.getElem_cons_zero, List.getElem_cons_succ, List.setIfInBounds_toArray, List.set_cons_zero, List.set_cons_succ]
      refine wpAnyH_ready (rs := [16]) (by kernel_rfl) (by simp) ?_
      refine AllReadyH.cons rfl (fun K hK => ?_) AllReadyH.nil
      go_simp
      refine (TN.out _ _ H.out B.out D.out _ _ (by decide)).mono ?_
      rintro y w1 ⟨rfl, hk, hb, hd⟩
      have H := hide hk
      have B := hide hb
      have D := hide hd
      obtain ⟨c0, c1, c2, c3, c4⟩ := PG.out _ hb
      obtain ⟨d0, d1, d2, d3⟩ := PI.out _ hd
      clear hk hb hd
      have S1 := And.intro (PG.out _ B.out).2.2.1 (And.intro (PI.out _ D.out).1 (HR.out _ H.out.b))
      go_wp2_with fail
      refine hK.out _ _ (by exact S1) (fun hHeld => ?_)
      clear hK K
      try simp only [Act.put, List.getElem_toArray, List.getElem_cons_zero, List.getElem_cons_succ, List.setIfInBounds_toArray, List.set_cons_zero, List.set_cons_succ]
      refine wpAnyH_done (by kernel_rfl) ?_ _
      clear S1
      go_wp2_with (first | (go_at_call 50; refine (TN.out _ _ H.out B.out D.out _ _ (by decide)).mono ?_; rintro y w1 ⟨rfl, hk, hb, hd⟩; have H := hide hk; have B := hide hb; have D := hide hd; obtain ⟨c0, c1, c2, c3, c4⟩ := PG.out _ hb; obtain ⟨d0, d1, d2, d3⟩ := PI.out _ hd; clear hk hb hd) | (go_at_call 25; refine (isNumber_any _ _).mono ?_; rintro y w1 ⟨rfl, hww⟩; obtain rfl := hww.symm) | (go_at_call 54; refine (CV.out _ _ H.out).mono ?_; rintro y w1 ⟨rfl, hk, _⟩; have H := hide hk))
      all_goals ((first | go_end0 | refine bodyPost_ret (results_none rfl _ _ _) rfl ?_); have HV := HVN.out; refine ⟨rfl, (congrArg (Kt w0 kb _) (idx_fin e (j + 1) (Iv.it ⟨aK, cK, key, aV, cV, val, child, size⟩) yk _ _ _ _ ?_ ?_ ?_ ?_)).mp H.out⟩ <;> clear H B D TN PG PI HI HL <;> have hkl : (0 < key.length) = ¬ key = [] := (by rw [List.length_pos_iff]))
      all_goals (have HZ := HZ.out; simp [Iv.it, HZ]; try grind)
    · have hvd : decide ((0 : Int) < (vn : Int)) = true := by simp; omega
      go_enter Try.func24, Try.ntmps24
      go_wp2_with (first | (go_at_call 50; refine (TN.out _ _ H.out B.out D.out _ _ (by decide)).mono ?_; rintro y w1 ⟨rfl, hk, hb, hd⟩; have H := hide hk; have B := hide hb; have D := hide hd; obtain ⟨c0, c1, c2, c3, c4⟩ := PG.out _ hb; obtain ⟨d0, d1, d2, d3⟩ := PI.out _ hd; clear hk hb hd) | (go_at_call 25; refine (isNumber_any _ _).mono ?_; rintro y w1 ⟨rfl, hww⟩; obtain rfl := hww.symm) | (go_at_call 54; refine (CV.out _ _ H.out).mono ?_; rintro y w1 ⟨rfl, hk, _⟩; have H := hide hk))
      have H := hide (H.out.keep (dr1 _))
      have B := hide (B.out.keep (dr1 _))
      have D := hide (D.out.keep (dr1 _))
      have S1 := And.intro (PG.out _ B.out).2.2.1 (And.intro (PI.out _ D.out).1 (HR.out _ H.out.b))
      refine wp_region_held_drew (S := fun w' => w'.cell? ⟨w.heap.size, 2, none⟩ = some (.slice (some ⟨bI, off, none⟩) items.length cI) ∧ w'.cell? ⟨w.heap.size + 1, 0, none⟩ = some (.slice aK key.length cK) ∧ w'.cell? ⟨bI, off + j * 4, none⟩ = some (.slice yaK yk.length ycK)) (by kernel_rfl) (by exact S1) (fun hHeld => ?_)
      refine wpAnyH_take (i := 0) (v := ?v26) rfl (by kernel_rfl) (by kernel_rfl) (by kernel_rfl) (fun _ _ _ h => h) (Or.inl ⟨by rfl, ?hy26⟩) (by assumption) ?rest26
      case hy26 => (intro w hSw; (try dsimp only at hSw); go_simp <;> with_reducible rfl)
      try simp only [Act.put, List.getElem_toArray, List.getElem_cons_zero, List.setIfInBounds_toArray, List.set_cons_zero, List.set_cons_succ]
      refine wpAnyH_take (i := 1) (v := ?v27) rfl (by kernel_rfl) (by kernel_rfl) (by kernel_rfl) (fun _ _ _ h => h) (Or.inl ⟨by rfl, ?hy27⟩) (by assumption) ?rest27
      case hy27 => (intro w hSw; (try dsimp only at hSw); go_simp <;> with_reducible rfl)
      try simp only [Act.put, List.getElem_toArray, List.getElem_cons_zero, List.getElem_cons_succ, List.setIfInBounds_toArray, List.set_cons_zero, List.set_cons_succ]
      refine wpAnyH_take (i := 2) (v := ?v28) rfl (by kernel_rfl) (by kernel_rfl) (by kernel_rfl) (fun _ _ _ h => h) (Or.inl ⟨by rfl, ?hy28⟩) (by assumption) ?rest28
      case hy28 => (intro w hSw; (try dsimp only at hSw); go_simp <;> with_reducible rfl)
      try simp only [Act.put, List.getElem_toArray, List.getElem_cons_zero, List.getElem_cons_succ, List.setIfInBounds_toArray, List.set_cons_zero, List.set_cons_succ]
      refine wpAnyH_take (i := 3) (v := ?v29) rfl (by kernel_rfl) (by kernel_rfl) (by kernel_rfl) (fun _ _ _ h => h) (Or.inl ⟨by rfl, ?hy29⟩) (by assumption) ?rest29
      case hy29 => (intro w hSw; (try dsimp only at hSw); go_simp <;> with_reducible rfl)
      try simp only [Act.put, List.getElem_toArray, List.getElem_cons_zero, List.getElem_cons_succ, List.setIfInBounds_toArray, List.set_cons_zero, List.set_cons_succ]
      refine wpAnyH_take (i := 4) (v := ?v30) rfl (by kernel_rfl) (by kernel_rfl) (by kernel_rfl) (fun _ _ _ h => h) (Or.inl ⟨by rfl, ?hy30⟩) (by assumption) ?rest30
      case hy30 => (intro w hSw; (try dsimp only at hSw); go_simp <;> with_reducible rfl)
      try simp only [Act.put, List.getElem_toArray, List.getElem_cons_zero, List.getElem_cons_succ, List.setIfInBounds_toArray, List.set_cons_zero, List.set_cons_succ]
      refine wpAnyH_take (i := 5) (v := ?v31) rfl (by kernel_rfl) (by kernel_rfl) (by kernel_rfl) (fun _ _ _ h => h) (Or.inl ⟨by rfl, ?hy31⟩) (by assumption) ?rest31
      case hy31 => (intro w hSw; (try dsimp only at hSw); go_simp <;> with_reducible rfl)
      try simp only [Act.put, List.getElem_toArray, List.getElem_cons_zero, List.getElem_cons_succ, List.setIfInBounds_toArray, List.set_cons_zero, List.set_cons_succ]
      refine wpAnyH_take (i := 6) (v := ?v32) rfl (by kernel_rfl) (by kernel_rfl) (by kernel_rfl) (fun _ _ _ h => h) (Or.inl ⟨by rfl, ?hy32⟩) (by assumption) ?rest32
      case hy32 => (intro w hSw; (try dsimp only at hSw); go_simp <;> with_reducible rfl)
      try simp only [Act.put, List.getElem_toArray, List.getElem_cons_zero, List.getElem_cons_succ, List.setIfInBounds_toArray, List.set_cons_zero, List.set_cons_succ]
      refine wpAnyH_take (i := 7) (v := ?v33) rfl (by kernel_rfl) (by kernel_rfl) (by kernel_rfl) (fun _ _ _ h => h) (Or.inl ⟨by rfl, ?hy33⟩) (by assumption) ?rest33
      case hy33 => (intro w hSw; (try dsimp only at hSw); go_simp <;> with_reducible rfl)
      try simp only [Act.put, List.getElem_toArray, List.getElem_cons_zero, List.getElem_cons_succ, List.setIfInBounds_toArray, List.set_cons_zero, List.set_cons_succ]
      refine wpAnyH_take (i := 8) (v := ?v34) rfl (by kernel_rfl) (by kernel_rfl) (by kernel_rfl) (fun _ _ _ h => h) (Or.inl ⟨by rfl, ?hy34⟩) (by assumption) ?rest34
      case hy34 => (intro w hSw; (try dsimp only at hSw); go_simp <;> with_reducible rfl)
      try simp only [Act.put, List.getElem_toArray, List.getElem_cons_zero, List.getElem_cons_succ, List.setIfInBounds_toArray, List.set_cons_zero, List.set_cons_succ]
      refine wpAnyH_take (i := 9) (v := ?v35) rfl (by kernel_rfl) (by kernel_rfl) (by kernel_rfl) (fun _ _ _ h => h) (Or.inl ⟨by rfl, ?hy35⟩) (by assumption) ?rest35
      case hy35 => (intro w hSw; (try dsimp only at hSw); go_simp <;> with_reducible rfl)
      try simp only [Act.put, List.getElem_toArray, List.getElem_cons_zero, List.getElem_cons_succ, List.setIfInBounds_toArray, List.set_cons_zero, List.set_cons_succ]
      refine wpAnyH_take (i := 10) (v := ?v36) rfl (by kernel_rfl) (by kernel_rfl) (by kernel_rfl) (fun _ _ _ h => h) (Or.inl ⟨by rfl, ?hy36⟩) (by assumption) ?rest36
      case hy36 => (intro w hSw; (try dsimp only at hSw); go_simp <;> with_reducible rfl)
      try simp only [Act.put, List.getElem_toArray, List.getElem_cons_zero, List.getElem_cons_succ, List.setIfInBounds_toArray, List.set_cons_zero, List.set_cons_succ]
      refine wpAnyH_take (i := 11) (v := ?v37) rfl (by kernel_rfl) (by kernel_rfl) (by kernel_rfl) (fun _ _ _ h => h) (Or.inl ⟨by rfl, ?hy37⟩) (by assumption) ?rest37
      case hy37 => (intro w hSw; (try dsimp only at hSw); go_simp <;> with_reducible rfl)
      try simp only [Act.put, List.getElem_toArray, List.getElem_cons_zero, List.getElem_cons_succ, List.setIfInBounds_toArray, List.set_cons_zero, List.set_cons_succ]
      refine wpAnyH_take (i := 12) (v := ?v38) rfl (by kernel_rfl) (by kernel_rfl) (by kernel_rfl) (fun _ _ _ h => h) (Or.inl ⟨by rfl, ?hy38⟩) (by assumption) ?rest38
      case hy38 => (intro w hSw; (try dsimp only at hSw); go_simp <;> with_reducible rfl)
      try simp only [Act.put, List.getElem_toArray, List.getElem_cons_zero, List.getElem_cons_succ, List.setIfInBounds_toArray, List.set_cons_zero, List.set_cons_succ]
      refine wpAnyH_ready (rs := [13]) (by kernel_rfl) (by simp) ?_
      refine AllReadyH.cons rfl (fun K hK => ?_) AllReadyH.nil
      go_simp
      refine (CM.out _ H.out.b).mono ?_
      rintro e w9 ⟨rfl, hw⟩
      obtain rfl := hw.symm
      clear hw
      go_wp2_with fail
      refine hK.out _ _ (by exact S1) (fun hHeld => ?_)
      clear hK K
      try simp only [Act.put, List.getElem_toArray, List.getElem_cons_zero, List.getElem_cons_succ, List.setIfInBounds_toArray, List.set_cons_zero, List.set_cons_succ]
      refine wpAnyH_take (i := 14) (v := ?v39) rfl (by kernel_rfl) (by kernel_rfl) (by kernel_rfl) (fun _ _ _ h => h) (Or.inl ⟨by rfl, ?hy39⟩) (by assumption) ?rest39
      case hy39 => (intro w hSw; (try dsimp only at hSw); go_simp <;> with_reducible rfl)
      try simp only [Act.put, List.getElem_toArray, List.getElem_cons_zero, List.getElem_cons_succ, List.setIfInBounds_toArray, List.set_cons_zero, List.set_cons_succ]
      refine wpAnyH_take (i := 15) (v := ?v40) rfl (by kernel_rfl) (by kernel_rfl) (by kernel_rfl) (fun _ _ _ h => h) (Or.inl ⟨by rfl, ?hy40⟩) (by assumption) ?rest40
      case hy40 => (intro w hSw; (try dsimp only at hSw); go_simp <;> with_reducible rfl)
      try simp only [Act.put, List.getElem_toArray, List.getElem_cons_zero, List.getElem_cons_succ, List.setIfInBounds_toArray, List.set_cons_zero, List.set_cons_succ]
      refine wpAnyH_ready (rs := [16]) (by kernel_rfl) (by simp) ?_
      refine AllReadyH.cons rfl (fun K hK => ?_) AllReadyH.nil
      go_simp
      refine (TN.out _ _ H.out B.out D.out _ _ (by decide)).mono ?_
      rintro y w1 ⟨rfl, hk, hb, hd⟩
      have H := hide hk
      have B := hide hb
      have D := hide hd
      obtain ⟨c0, c1, c2, c3, c4⟩ := PG.out _ hb
      obtain ⟨d0, d1, d2, d3⟩ := PI.out _ hd
      clear hk hb hd
      have S1 := And.intro (PG.out _ B.out).2.2.1 (And.intro (PI.out _ D.out).1 (HR.out _ H.out.b))
      go_wp2_with fail
      refine hK.out _ _ (by exact S1) (fun hHeld => ?_)
      clear hK K
      try simp only [Act.put, List.getElem_toArray, List.getElem_cons_zero, List.getElem_cons_succ, List.setIfInBounds_toArray, List.set_cons_zero, List.set_cons_succ]
      refine wpAnyH_done (by kernel_rfl) ?_ _
      clear S1
      go_wp2_with (first | (go_at_call 50; refine (TN.out _ _ H.out B.out D.out _ _ (by decide)).mono ?_; rintro y w1 ⟨rfl, hk, hb, hd⟩; have H := hide hk; have B := hide hb; have D := hide hd; obtain ⟨c0, c1, c2, c3, c4⟩ := PG.out _ hb; obtain ⟨d0, d1, d2, d3⟩ := PI.out _ hd; clear hk hb hd) | (go_at_call 25; refine (isNumber_any _ _).mono ?_; rintro y w1 ⟨rfl, hww⟩; obtain rfl := hww.symm) | (go_at_call 54; refine (CV.out _ _ H.out).mono ?_; rintro y w1 ⟨rfl, hk, _⟩; have H := hide hk))
      all_goals ((first | go_end0 | refine bodyPost_ret (results_none rfl _ _ _) rfl ?_); have HV := HVN.out; refine ⟨rfl, (congrArg (Kt w0 kb _) (idx_fin e (j + 1) (Iv.it ⟨aK, cK, key, aV, cV, val, child, size⟩) yk _ _ _ _ ?_ ?_ ?_ ?_)).mp H.out⟩ <;> clear H B D TN PG PI HI HL <;> have hkl : (0 < key.length) = ¬ key = [] := (by rw [List.length_pos_iff]))
      all_goals (have HZ := HZ.out; simp [Iv.it, HZ]; try grind)
  · skip
    by_cases hv0 : vn = 0
    · subst hv0
      go_enter Try.func24, Try.ntmps24
      go_wp2_with (first | (go_at_call 50; refine (TN.out _ _ H.out B.out D.out _ _ (by decide)).mono ?_; rintro y w1 ⟨rfl, hk, hb, hd⟩; have H := hide hk; have B := hide hb; have D := hide hd; obtain ⟨c0, c1, c2, c3, c4⟩ := PG.out _ hb; obtain ⟨d0, d1, d2, d3⟩ := PI.out _ hd; clear hk hb hd) | (go_at_call 25; refine (isNumber_any _ _).mono ?_; rintro y w1 ⟨rfl, hww⟩; obtain rfl := hww.symm) | (go_at_call 54; refine (CV.out _ _ H.out).mono ?_; rintro y w1 ⟨rfl, hk, _⟩; have H := hide hk))
      have H := hide (H.out.keep (dr1 _))
      have B := hide (B.out.keep (dr1 _))
      have D := hide (D.out.keep (dr1 _))
      have S1 := And.intro (PG.out _ B.out).2.2.1 (And.intro (PI.out _ D.out).1 (HR.out _ H.out.b))
      refine wp_region_held_drew (S := fun w' => w'.cell? ⟨w.heap.size, 2, none⟩ = some (.slice (some ⟨bI, off, none⟩) items.length cI) ∧ w'.cell? ⟨w.heap.size + 1, 0, none⟩ = some (.slice aK key.length cK) ∧ w'.cell? ⟨bI, off + j * 4, none⟩ = some (.slice yaK yk.length ycK)) (by kernel_rfl) (by exact S1) (fun hHeld => ?_)
      refine wpAnyH_take (i := 0) (v := ?v41) rfl (by kernel_rfl) (by kernel_rfl) (by kernel_rfl) (fun _ _ _ h => h) (Or.inl ⟨by rfl, ?hy41⟩) (by assumption) ?rest41
      case hy41 => (intro w hSw; (try dsimp only at hSw); go_simp <;> with_reducible rfl)
      try simp only [Act.put, List.getElem_toArray, List.getElem_cons_zero, List.setIfInBounds_toArray, List.set_cons_zero, List.set_cons_succ]
      refine wpAnyH_take (i := 1) (v := ?v42) rfl (by kernel_rfl) (by kernel_rfl) (by kernel_rfl) (fun _ _ _ h => h) (Or.inl ⟨by rfl, ?hy42⟩) (by assumption) ?rest42
      case hy42 => (intro w hSw; (try dsimp only at hSw); go_simp <;> with_reducible rfl)
      try simp only [Act.put, List.getElem_toArray, List.getElem_cons_zero, List.getElem_cons_succ, List.setIfInBounds_toArray, List.set_cons_zero, List.set_cons_succ]
      refine wpAnyH_take (i := 2) (v := ?v43) rfl (by kernel_rfl) (by kernel_rfl) (by kernel_rfl) (fun _ _ _ h => h) (Or.inl ⟨by rfl, ?hy43⟩) (by assumption) ?rest43
      case hy43 => (intro w hSw; (try dsimp only at hSw); go_simp <;> with_reducible rfl)
      try simp only [Act.put, List.getElem_toArray, List.getElem_cons_zero, List.getElem_cons_succ, List.setIfInBounds_toArray, List.set_cons_zero, List.set_cons_succ]
      refine wpAnyH_take (i := 3) (v := ?v44) rfl (by kernel_rfl) (by kernel_rfl) (by kernel_rfl) (fun _ _ _ h => h) (Or.inl ⟨by rfl, ?hy44⟩) (by assumption) ?rest44
      case hy44 => (intro w hSw; (try dsimp only at hSw); go_simp <;> with_reducible rfl)
      try simp only [Act.put, List.getElem_toArray, List.getElem_cons_zero, List.getElem_cons_succ, List.setIfInBounds_toArray, List.set_cons_zero, List.set_cons_succ]
      refine wpAnyH_take (i := 4) (v := ?v45) rfl (by kernel_rfl) (by kernel_rfl) (by kernel_rfl) (fun _ _ _ h => h) (Or.inl ⟨by rfl, ?hy45⟩) (by assumption) ?rest45
      case hy45 => (intro w hSw; (try dsimp only at hSw); go_simp <;> with_reducible rfl)
      try simp only [Act.put, List.getElem_toArray, List.getElem_cons_zero, List.getElem_cons_succ, List.setIfInBounds_toArray, List.set_cons_zero, List.set_cons_succ]
      refine wpAnyH_take (i := 5) (v := ?v46) rfl (by kernel_rfl) (by kernel_rfl) (by kernel_rfl) (fun _ _ _ h => h) (Or.inl ⟨by rfl, ?hy46⟩) (by assumption) ?rest46
      case hy46 => (intro w hSw; (try dsimp only at hSw); go_simp <;> with_reducible rfl)
      try simp only [Act.put, List.getElem_toArray, List.getElem_cons_zero, List.getElem_cons_succ, List.setIfInBounds_toArray, List.set_cons_zero, List.set_cons_succ]
      refine wpAnyH_take (i := 6) (v := ?v47) rfl (by kernel_rfl) (by kernel_rfl) (by kernel_rfl) (fun _ _ _ h => h) (Or.inl ⟨by rfl, ?hy47⟩) (by assumption) ?rest47
      case hy47 => (intro w hSw; (try dsimp only at hSw); go_simp <;> with_reducible rfl)
      try simp only [Act.put, List.getElem_toArray, List.getElem_cons_zero, List.getElem_cons_succ, List.setIfInBounds_toArray, List.set_cons_zero, List.set_cons_succ]
      refine wpAnyH_take (i := 7) (v := ?v48) rfl (by kernel_rfl) (by kernel_rfl) (by kernel_rfl) (fun _ _ _ h => h) (Or.inl ⟨by rfl, ?hy48⟩) (by assumption) ?rest48
      case hy48 => (intro w hSw; (try dsimp only at hSw); go_simp <;> with_reducible rfl)
      try simp only [Act.put, List.getElem_toArray, List.getElem_cons_zero, List.getElem_cons_succ, List.setIfInBounds_toArray, List.set_cons_zero, List.set_cons_succ]
      refine wpAnyH_take (i := 8) (v := ?v49) rfl (by kernel_rfl) (by kernel_rfl) (by kernel_rfl) (fun _ _ _ h => h) (Or.inl ⟨by rfl, ?hy49⟩) (by assumption) ?rest49
      case hy49 => (intro w hSw; (try dsimp only at hSw); go_simp <;> with_reducible rfl)
      try simp only [Act.put, List.getElem_toArray, List.getElem_cons_zero, List.getElem_cons_succ, List.setIfInBounds_toArray, List.set_cons_zero, List.set_cons_succ]
      refine wpAnyH_take (i := 9) (v := ?v50) rfl (by kernel_rfl) (by kernel_rfl) (by kernel_rfl) (fun _ _ _ h => h) (Or.inl ⟨by rfl, ?hy50⟩) (by assumption) ?rest50
      case hy50 => (intro w hSw; (try dsimp only at hSw); go_simp <;> with_reducible rfl)
      try simp only [Act.put, List.getElem_toArray, List.getElem_cons_zero, List.getElem_cons_succ, List.setIfInBounds_toArray, List.set_cons_zero, List.set_cons_succ]
      refine wpAnyH_take (i := 10) (v := ?v51) rfl (by kernel_rfl) (by kernel_rfl) (by kernel_rfl) (fun _ _ _ h => h) (Or.inl ⟨by rfl, ?hy51⟩) (by assumption) ?rest51
      case hy51 => (intro w hSw; (try dsimp only at hSw); go_simp <;> with_reducible rfl)
      try simp only [Act.put, List.getElem_toArray, List.getElem_cons_zero, List.getElem_cons_succ, List.setIfInBounds_toArray, List.set_cons_zero, List.set_cons_succ]
      refine wpAnyH_take (i := 11) (v := ?v52) rfl (by kernel_rfl) (by kernel_rfl) (by kernel_rfl) (fun _ _ _ h => h) (Or.inl ⟨by rfl, ?hy52⟩) (by assumption) ?rest52
      case hy52 => (intro w hSw; (try dsimp only at hSw); go_simp <;> with_reducible rfl)
      try simp only [Act.put, List.getElem_toArray, List.getElem_cons_zero, List.getElem_cons_succ, List.setIfInBounds_toArray, List.set_cons_zero, List.set_cons_succ]
      refine wpAnyH_take (i := 12) (v := ?v53) rfl (by kernel_rfl) (by kernel_rfl) (by kernel_rfl) (fun _ _ _ h => h) (Or.inl ⟨by rfl, ?hy53⟩) (by assumption) ?rest53
      case hy53 => (intro w hSw; (try dsimp only at hSw); go_simp <;> with_reducible rfl)
      try simp only [Act.put, List.getElem_toArray, List.getElem_cons_zero, List.getElem_cons_succ, List.setIfInBounds_toArray, List.set_cons_zero, List.set_cons_succ]
      refine wpAnyH_ready (rs := [13]) (by kernel_rfl) (by simp) ?_
      refine AllReadyH.cons rfl (fun K hK => ?_) AllReadyH.nil
      go_simp
      refine (CM.out _ H.out.b).mono ?_
      rintro e w9 ⟨rfl, hw⟩
      obtain rfl := hw.symm
      clear hw
      go_wp2_with fail
      refine hK.out _ _ (by exact S1) (fun hHeld => ?_)
      clear hK K
      try simp only [Act.put, List.getElem_toArray, List.getElem_cons_zero, List.getElem_cons_succ, List.setIfInBounds_toArray, List.set_cons_zero, List.set_cons_succ]
      refine wpAnyH_take (i := 14) (v := ?v54) rfl (by kernel_rfl) (by kernel_rfl) (by kernel_rfl) (fun _ _ _ h => h) (Or.inl ⟨by rfl, ?hy54⟩) (by assumption) ?rest54
      case hy54 => (intro w hSw; (try dsimp only at hSw); go_simp <;> with_reducible rfl)
      try simp only [Act.put, List.getElem_toArray, List.getElem_cons_zero, List.getElem_cons_succ, List.setIfInBounds_toArray, List.set_cons_zero, List.set_cons_succ]
      refine wpAnyH_take (i := 15) (v := ?v55) rfl (by kernel_rfl) (by kernel_rfl) (by kernel_rfl) (fun _ _ _ h => h) (Or.inl ⟨by rfl, ?hy55⟩) (by assumption) ?rest55
      case hy55 => (intro w hSw; (try dsimp only at hSw); go_simp <;> with_reducible rfl)
      try simp only [Act.put, List.getElem_toArray, List.getElem_cons_zero, List.getElem_cons_succ, List.setIfInBounds_toArray, List.set_cons_zero, List.set_cons_succ]
      refine wpAnyH_ready (rs := [16]) (by kernel_rfl) (by simp) ?_
      refine AllReadyH.cons rfl (fun K hK => ?_) AllReadyH.nil
      go_simp
      refine (TN.out _ _ H.out B.out D.out _ _ (by decide)).mono ?_
      rintro y w1 ⟨rfl, hk, hb, hd⟩
      have H := hide hk
      have B := hide hb
      have D := hide hd
      obtain ⟨c0, c1, c2, c3, c4⟩ := PG.out _ hb
      obtain ⟨d0, d1, d2, d3⟩ := PI.out _ hd
      clear hk hb hd
      have S1 := And.intro (PG.out _ B.out).2.2.1 (And.intro (PI.out _ D.out).1 (HR.out _ H.out.b))
      go_wp2_with fail
      refine hK.out _ _ (by exact S1) (fun hHeld => ?_)
      clear hK K
      try simp only [Act.put, List.getElem_toArray, List.getElem_cons_zero, List.getElem_cons_succ, List.setIfInBounds_toArray, List.set_cons_zero, List.set_cons_succ]
      refine wpAnyH_done (by kernel_rfl) ?_ _
      clear S1
      go_wp2_with (first | (go_at_call 50; refine (TN.out _ _ H.out B.out D.out _ _ (by decide)).mono ?_; rintro y w1 ⟨rfl, hk, hb, hd⟩; have H := hide hk; have B := hide hb; have D := hide hd; obtain ⟨c0, c1, c2, c3, c4⟩ := PG.out _ hb; obtain ⟨d0, d1, d2, d3⟩ := PI.out _ hd; clear hk hb hd) | (go_at_call 25; refine (isNumber_any _ _).mono ?_; rintro y w1 ⟨rfl, hww⟩; obtain rfl := hww.symm) | (go_at_call 54; refine (CV.out _ _ H.out).mono ?_; rintro y w1 ⟨rfl, hk, _⟩; have H := hide hk))
      all_goals ((first | go_end0 | refine bodyPost_ret (results_none rfl _ _ _) rfl ?_); have HV := HVN.out; refine ⟨rfl, (congrArg (Kt w0 kb _) (idx_fin e (j + 1) (Iv.it ⟨aK, cK, key, aV, cV, val, child, size⟩) yk _ _ _ _ ?_ ?_ ?_ ?_)).mp H.out⟩ <;> clear H B D TN PG PI HI HL <;> have hkl : (0 < key.length) = ¬ key = [] := (by rw [List.length_pos_iff]))
      all_goals (have HZ := HZ.out; simp [Iv.it, HZ]; try grind)
    · have hvd : decide ((0 : Int) < (vn : Int)) = true := by simp; omega
      go_enter Try.func24, Try.ntmps24
      go_wp2_with (first | (go_at_call 50; refine (TN.out _ _ H.out B.out D.out _ _ (by decide)).mono ?_; rintro y w1 ⟨rfl, hk, hb, hd⟩; have H := hide hk; have B := hide hb; have D := hide hd; obtain ⟨c0, c1, c2, c3, c4⟩ := PG.out _ hb; obtain ⟨d0, d1, d2, d3⟩ := PI.out _ hd; clear hk hb hd) | (go_at_call 25; refine (isNumber_any _ _).mono ?_; rintro y w1 ⟨rfl, hww⟩; obtain rfl := hww.symm) | (go_at_call 54; refine (CV.out _ _ H.out).mono ?_; rintro y w1 ⟨rfl, hk, _⟩; have H := hide hk))
      have H := hide (H.out.keep (dr1 _))
      have B := hide (B.out.keep (dr1 _))
      have D := hide (D.out.keep (dr1 _))
      have S1 := And.intro (PG.out _ B.out).2.2.1 (And.intro (PI.out _ D.out).1 (HR.out _ H.out.b))
      refine wp_region_held_drew (S := fun w' => w'.cell? ⟨w.heap.size, 2, none⟩ = some (.slice (some ⟨bI, off, none⟩) items.length cI) ∧ w'.cell? ⟨w.heap.size + 1, 0, none⟩ = some (.slice aK key.length cK) ∧ w'.cell? ⟨bI, off + j * 4, none⟩ = some (.slice yaK yk.length ycK)) (by kernel_rfl) (by exact S1) (fun hHeld => ?_)
      refine wpAnyH_take (i := 0) (v := ?v56) rfl (by kernel_rfl) (by kernel_rfl) (by kernel_rfl) (fun _ _ _ h => h) (Or.inl ⟨by rfl, ?hy56⟩) (by assumption) ?rest56
      case hy56 => (intro w hSw; (try dsimp only at hSw); go_simp <;> with_reducible rfl)
      try simp only [Act.put, List.getElem_toArray, List.getElem_cons_zero, List.setIfInBounds_toArray, List.set_cons_zero, List.set_cons_succ]
      refine wpAnyH_take (i := 1) (v := ?v57) rfl (by kernel_rfl) (by kernel_rfl) (by kernel_rfl) (fun _ _ _ h => h) (Or.inl ⟨by rfl, ?hy57⟩) (by assumption) ?rest57
      case hy57 => (intro w hSw; (try dsimp only at hSw); go_simp <;> with_reducible rfl)
      try simp only [Act.put, List.getElem_toArray, List.getElem_cons_zero, List.getElem_cons_succ, List.setIfInBounds_toArray, List.set_cons_zero, List.set_cons_succ]
      refine wpAnyH_take (i := 2) (v := ?v58) rfl (by kernel_rfl) (by kernel_rfl) (by kernel_rfl) (fun _ _ _ h => h) (Or.inl ⟨by rfl, ?hy58⟩) (by assumption) ?rest58
      case hy58 => (intro w hSw; (try dsimp only at hSw); go_simp <;> with_reducible rfl)
      try simp only [Act.put, List.getElem_toArray, List.getElem_cons_zero, List.getElem_cons_succ, List.setIfInBounds_toArray, List.set_cons_zero, List.set_cons_succ]
      refine wpAnyH_take (i := 3) (v := ?v59) rfl (by kernel_rfl) (by kernel_rfl) (by kernel_rfl) (fun _ _ _ h => h) (Or.inl ⟨by rfl, ?hy59⟩) (by assumption) ?rest59
      case hy59 => (intro w hSw; (try dsimp only at hSw); go_simp <;> with_reducible rfl)
      try simp only [Act.put, List.getElem_toArray, List.getElem_cons_zero, List.getElem_cons_succ, List.setIfInBounds_toArray, List.set_cons_zero, List.set_cons_succ]
      refine wpAnyH_take (i := 4) (v := ?v60) rfl (by kernel_rfl) (by kernel_rfl) (by kernel_rfl) (fun _ _ _ h => h) (Or.inl ⟨by rfl, ?hy60⟩) (by assumption) ?rest60
      case hy60 => (intro w hSw; (try dsimp only at hSw); go_simp <;> with_reducible rfl)
      try simp only [Act.put, List.getElem_toArray, List.getElem_cons_zero, List.getElem_cons_succ, List.setIfInBounds_toArray, List.set_cons_zero, List.set_cons_succ]
      refine wpAnyH_take (i := 5) (v := ?v61) rfl (by kernel_rfl) (by kernel_rfl) (by kernel_rfl) (fun _ _ _ h => h) (Or.inl ⟨by rfl, ?hy61⟩) (by assumption) ?rest61
      case hy61 => (intro w hSw; (try dsimp only at hSw); go_simp <;> with_reducible rfl)
      try simp only [Act.put, List.getElem_toArray, List.getElem_cons_zero, List.getElem_cons_succ, List.setIfInBounds_toArray, List.set_cons_zero, List.set_cons_succ]
      refine wpAnyH_take (i := 6) (v := ?v62) rfl (by kernel_rfl) (by kernel_rfl) (by kernel_rfl) (fun _ _ _ h => h) (Or.inl ⟨by rfl, ?hy62⟩) (by assumption) ?rest62
      case hy62 => (intro w hSw; (try dsimp only at hSw); go_simp <;> with_reducible rfl)
      try simp only [Act.put, List.getElem_toArray, List.getElem_cons_zero, List.getElem_cons_succ, List.setIfInBounds_toArray, List.set_cons_zero, List.set_cons_succ]
      refine wpAnyH_take (i := 7) (v := ?v63) rfl (by kernel_rfl) (by kernel_rfl) (by kernel_rfl) (fun _ _ _ h => h) (Or.inl ⟨by rfl, ?hy63⟩) (by assumption) ?rest63
      case hy63 => (intro w hSw; (try dsimp only at hSw); go_simp <;> with_reducible rfl)
      try simp only [Act.put, List.getElem_toArray, List.getElem_cons_zero, List.getElem_cons_succ, List.setIfInBounds_toArray, List.set_cons_zero, List.set_cons_succ]
      refine wpAnyH_take (i := 8) (v := ?v64) rfl (by kernel_rfl) (by kernel_rfl) (by kernel_rfl) (fun _ _ _ h => h) (Or.inl ⟨by rfl, ?hy64⟩) (by assumption) ?rest64
      case hy64 => (intro w hSw; (try dsimp only at hSw); go_simp <;> with_reducible rfl)
      try simp only [Act.put, List.getElem_toArray, List.getElem_cons_zero, List.getElem_cons_succ, List.setIfInBounds_toArray, List.set_cons_zero, List.set_cons_succ]
      refine wpAnyH_take (i := 9) (v := ?v65) rfl (by kernel_rfl) (by kernel_rfl) (by kernel_rfl) (fun _ _ _ h => h) (Or.inl ⟨by rfl, ?hy65⟩) (by assumption) ?rest65
      case hy65 => (intro w hSw; (try dsimp only at hSw); go_simp <;> with_reducible rfl)
      try simp only [Act.put, List.getElem_toArray, List.getElem_cons_zero, List.getElem_cons_succ, List.setIfInBounds_toArray, List.set_cons_zero, List.set_cons_succ]
      refine wpAnyH_take (i := 10) (v := ?v66) rfl (by kernel_rfl) (by kernel_rfl) (by kernel_rfl) (fun _ _ _ h => h) (Or.inl ⟨by rfl, ?hy66⟩) (by assumption) ?rest66
      case hy66 => (intro w hSw; (try dsimp only at hSw); go_simp <;> with_reducible rfl)
      try simp only [Act.put, List.getElem_toArray, List.getElem_cons_zero, List.getElem_cons_succ, List.setIfInBounds_toArray, List.set_cons_zero, List.set_cons_succ]
      refine wpAnyH_take (i := 11) (v := ?v67) rfl (by kernel_rfl) (by kernel_rfl) (by kernel_rfl) (fun _ _ _ h => h) (Or.inl ⟨by rfl, ?hy67⟩) (by assumption) ?rest67
      case hy67 => (intro w hSw; (try dsimp only at hSw); go_simp <;> with_reducible rfl)
      try simp only [Act.put, List.getElem_toArray, List.getElem_cons_zero, List.getElem_cons_succ, List.setIfInBounds_toArray, List.set_cons_zero, List.set_cons_succ]
      refine wpAnyH_take (i := 12) (v := ?v68) rfl (by kernel_rfl) (by kernel_rfl) (by kernel_rfl) (fun _ _ _ h => h) (Or.inl ⟨by rfl, ?hy68⟩) (by assumption) ?rest68
      case hy68 => (intro w hSw; (try dsimp only at hSw); go_simp <;> with_reducible rfl)
      try simp only [Act.put, List.getElem_toArray, List.getElem_cons_zero, List.getElem_cons_succ, List.setIfInBounds_toArray, List.set_cons_zero, List.set_cons_succ]
      refine wpAnyH_ready (rs := [13]) (by kernel_rfl) (by simp) ?_
      refine AllReadyH.cons rfl (fun K hK => ?_) AllReadyH.nil
      go_simp
      refine (CM.out _ H.out.b).mono ?_
      rintro e w9 ⟨rfl, hw⟩
      obtain rfl := hw.symm
      clear hw
      go_wp2_with fail
      refine hK.out _ _ (by exact S1) (fun hHeld => ?_)
      clear hK K
      try simp only [Act.put, List.getElem_toArray, List.getElem_cons_zero, List.getElem_cons_succ, List.setIfInBounds_toArray, List.set_cons_zero, List.set_cons_succ]
      refine wpAnyH_take (i := 14) (v := ?v69) rfl (by kernel_rfl) (by kernel_rfl) (by kernel_rfl) (fun _ _ _ h => h) (Or.inl ⟨by rfl, ?hy69⟩) (by assumption) ?rest69
      case hy69 => (intro w hSw; (try dsimp only at hSw); go_simp <;> with_reducible rfl)
      try simp only [Act.put, List.getElem_toArray, List.getElem_cons_zero, List.getElem_cons_succ, List.setIfInBounds_toArray, List.set_cons_zero, List.set_cons_succ]
      refine wpAnyH_take (i := 15) (v := ?v70) rfl (by kernel_rfl) (by kernel_rfl) (by kernel_rfl) (fun _ _ _ h => h) (Or.inl ⟨by rfl, ?hy70⟩) (by assumption) ?rest70
      case hy70 => (intro w hSw; (try dsimp only at hSw); go_simp <;> with_reducible rfl)
      try simp only [Act.put, List.getElem_toArray, List.getElem_cons_zero, List.getElem_cons_succ, List.setIfInBounds_toArray, List.set_cons_zero, List.set_cons_succ]
      refine wpAnyH_ready (rs := [16]) (by kernel_rfl) (by simp) ?_
      refine AllReadyH.cons rfl (fun K hK => ?_) AllReadyH.nil
      go_simp
      refine (TN.out _ _ H.out B.out D.out _ _ (by decide)).mono ?_
      rintro y w1 ⟨rfl, hk, hb, hd⟩
      have H := hide hk
      have B := hide hb
      have D := hide hd
      obtain ⟨c0, c1, c2, c3, c4⟩ := PG.out _ hb
      obtain ⟨d0, d1, d2, d3⟩ := PI.out _ hd
      clear hk hb hd
      have S1 := And.intro (PG.out _ B.out).2.2.1 (And.intro (PI.out _ D.out).1 (HR.out _ H.out.b))
      go_wp2_with fail
      refine hK.out _ _ (by exact S1) (fun hHeld => ?_)
      clear hK K
      try simp only [Act.put, List.getElem_toArray, List.getElem_cons_zero, List.getElem_cons_succ, List.setIfInBounds_toArray, List.set_cons_zero, List.set_cons_succ]
      refine wpAnyH_done (by kernel_rfl) ?_ _
      clear S1
      go_wp2_with (first | (go_at_call 50; refine (TN.out _ _ H.out B.out D.out _ _ (by decide)).mono ?_; rintro y w1 ⟨rfl, hk, hb, hd⟩; have H := hide hk; have B := hide hb; have D := hide hd; obtain ⟨c0, c1, c2, c3, c4⟩ := PG.out _ hb; obtain ⟨d0, d1, d2, d3⟩ := PI.out _ hd; clear hk hb hd) | (go_at_call 25; refine (isNumber_any _ _).mono ?_; rintro y w1 ⟨rfl, hww⟩; obtain rfl := hww.symm) | (go_at_call 54; refine (CV.out _ _ H.out).mono ?_; rintro y w1 ⟨rfl, hk, _⟩; have H := hide hk))
      all_goals ((first | go_end0 | refine bodyPost_ret (results_none rfl _ _ _) rfl ?_); have HV := HVN.out; refine ⟨rfl, (congrArg (Kt w0 kb _) (idx_fin e (j + 1) (Iv.it ⟨aK, cK, key, aV, cV, val, child, size⟩) yk _ _ _ _ ?_ ?_ ?_ ?_)).mp H.out⟩ <;> clear H B D TN PG PI HI HL <;> have hkl : (0 < key.length) = ¬ key = [] := (by rw [List.length_pos_iff]))
      all_goals (have HZ := HZ.out; simp [Iv.it, HZ]; try grind)
end Go.Proofs.Ytdngdcjjhabfiaa
