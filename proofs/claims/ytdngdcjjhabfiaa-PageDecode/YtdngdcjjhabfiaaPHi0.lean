import Derived.Test.YtdngdcjjhabfiaaPHA
namespace Go.Proofs.Ytdngdcjjhabfiaa
open Go.RowKit
set_option maxRecDepth 8000 in
set_option maxHeartbeats 3200000 in
theorem checkItem_i0 (w0 w : World) (kb e i : Nat) (p : Pv) (h : Kt w0 kb w e) (hP : Pi w0 p) (hi : i < p.items.length) (hk : p.kind = 2) (h0 : i = 0) : Calls Try.prog 24 #[p.vl, .int .i64 (i : Int), tv kb] w fun x w' => x = .returned (.tuple #[]) ∧ Kt w0 kb w' (els e (p.pg.itemE i)) := by
  have hne := box_ne h
  have hlt := h.c.lt
  have hne2 : w.heap.size + 1 ≠ kb := by omega
  have hPa := Pv.at p i
  have hPb := Pv.at p (i - 1)
  obtain ⟨bI, off, hbo, hr⟩ := (hP.it.keep (bt h.b (al w (.cells p.cs 25)))).at hi
  have HI := hide (hP.it.1 _ (getD_memR hi))
  obtain ⟨k0, k1, k2, k3⟩ := range4 hr
  rw [itmE_eq, hPa, hPb]
  clear hPa hPb
  generalize hx : p.items.getD i Iv.zero = x at *
  generalize hy : p.items.getD (i - 1) Iv.zero = y at *
  have H := hide ((h.keep (al w (.cells p.cs 25))).keep (al _ (.cells x.cs 47)))
  have B := hide ((Bx.new w 25 p.cs).keep (al _ (.cells x.cs 47)))
  have D := hide (item_new w p.cs x.cs)
  have TN := hide fun (w1 : World) (e : Nat) (hk : Kt w0 kb w1 e) (hB : Bx w1 25 w.heap.size p.cs) (hD : Bx w1 47 (w.heap.size + 1) x.cs) (wrong : Bool) (xi : Int) (hx : 0 ≤ xi) => tell2 w0 w1 kb e w.heap.size (w.heap.size + 1) p.cs x.cs hk hB hD hne hne2 wrong xi hx
  have CV := hide fun (w1 : World) (e : Nat) (hk : Kt w0 kb w1 e) => checkValue_any w0 w1 kb e x hk
  have PG := hide fun (w1 : World) (hB : Bx w1 25 w.heap.size p.cs) => Bx.page hB
  have PI := hide fun (w1 : World) (hB : Bx w1 47 (w.heap.size + 1) x.cs) => Bx.item hB
  have HL := hide hP.ci
  have HLN := hide hP.it.2.1
  clear h hr hP hx hy
  obtain ⟨kind, level, aI, cI, items, aD, cD, data, next⟩ := p
  obtain ⟨aK, cK, key, aV, cV, val, child, size⟩ := x
  unfold Pv.vl tv
  simp only [Pv.cs, Iv.cs, Iv.vl, tv] at *
  subst hbo hk
  subst h0
  have hiI : (0 : Int) < (items.length : Int) := by omega
  simp only [Nat.zero_mul, Nat.add_zero] at k0 k1 k2 k3
  generalize y.key = yk at *
  clear CV
  generalize hvn : val.length = vn at *
  have HVN := hide hvn
  clear hvn
  by_cases hv0 : vn = 0
  · subst hv0
    go_enter Try.func24, Try.ntmps24
    go_wp2_with (first | (go_at_call 50; refine (TN.out _ _ H.out B.out D.out _ _ (by decide)).mono ?_; rintro y w1 ⟨rfl, hk, hb, hd⟩; have H := hide hk; have B := hide hb; have D := hide hd; obtain ⟨c0, c1, c2, c3, c4⟩ := PG.out _ hb; obtain ⟨d0, d1, d2, d3⟩ := PI.out _ hd; clear hk hb hd) | (go_at_call 25; refine (isNumber_any _ _).mono ?_; rintro y w1 ⟨rfl, hww⟩; obtain rfl := hww.symm) | (go_at_call 54; refine (CV.out _ _ H.out).mono ?_; rintro y w1 ⟨rfl, hk, _⟩; have H := hide hk))
    have H := hide (H.out.keep (dr1 _))
    have B := hide (B.out.keep (dr1 _))
    have D := hide (D.out.keep (dr1 _))
    have S1 : True := trivial
    refine wp_region_held_drew (S := fun w' => True) (by kernel_rfl) (by exact S1) (fun hHeld => ?_)
    refine wpAnyH_take (i := 0) (v := ?v1) rfl (by kernel_rfl) (by kernel_rfl) (by kernel_rfl) (fun _ _ _ h => h) (Or.inl ⟨by rfl, ?hy1⟩) (by assumption) ?rest1
    case hy1 => (intro w hSw; (try dsimp only at hSw); go_simp <;> with_reducible rfl)
    try simp only [Act.put, List.getElem_toArray, List.getElem_cons_zero, List.setIfInBounds_toArray, List.set_cons_zero, List.set_cons_succ]
    refine wpAnyH_take (i := 1) (v := ?v2) rfl (by kernel_rfl) (by kernel_rfl) (by kernel_rfl) (fun _ _ _ h => h) (Or.inl ⟨by rfl, ?hy2⟩) (by assumption) ?rest2
    case hy2 => (intro w hSw; (try dsimp only at hSw); go_simp <;> with_reducible rfl)
    try simp only [Act.put, List.getElem_toArray, List.getElem_cons_zero, List.getElem_cons_succ, List.setIfInBounds_toArray, List.set_cons_zero, List.set_cons_succ]
    refine wpAnyH_take (i := 2) (v := ?v3) rfl (by kernel_rfl) (by kernel_rfl) (by kernel_rfl) (fun _ _ _ h => h) (Or.inl ⟨by rfl, ?hy3⟩) (by assumption) ?rest3
    case hy3 => (intro w hSw; (try dsimp only at hSw); go_simp <;> with_reducible rfl)
    try simp only [Act.put, List.getElem_toArray, List.getElem_cons_zero, List.getElem_cons_succ, List.setIfInBounds_toArray, List.set_cons_zero, List.set_cons_succ]
    refine wpAnyH_take (i := 3) (v := ?v4) rfl (by kernel_rfl) (by kernel_rfl) (by kernel_rfl) (fun _ _ _ h => h) (Or.inl ⟨by rfl, ?hy4⟩) (by assumption) ?rest4
    case hy4 => (intro w hSw; (try dsimp only at hSw); go_simp <;> with_reducible rfl)
    try simp only [Act.put, List.getElem_toArray, List.getElem_cons_zero, List.getElem_cons_succ, List.setIfInBounds_toArray, List.set_cons_zero, List.set_cons_succ]
    refine wpAnyH_take (i := 4) (v := undef) rfl (by kernel_rfl) (by kernel_rfl) (by kernel_rfl) (fun _ _ _ h => h) (Or.inr ⟨by rfl, rfl⟩) (by assumption) ?_
    try simp only [Act.put, List.getElem_toArray, List.getElem_cons_zero, List.getElem_cons_succ, List.setIfInBounds_toArray, List.set_cons_zero, List.set_cons_succ]
    refine wpAnyH_take (i := 5) (v := undef) rfl (by kernel_rfl) (by kernel_rfl) (by kernel_rfl) (fun _ _ _ h => h) (Or.inr ⟨by rfl, rfl⟩) (by assumption) ?_
    try simp only [Act.put, List.getElem_toArray, List.getElem_cons_zero, List.getElem_cons_succ, List.setIfInBounds_toArray, List.set_cons_zero, List.set_cons_succ]
    refine wpAnyH_take (i := 6) (v := undef) rfl (by kernel_rfl) (by kernel_rfl) (by kernel_rfl) (fun _ _ _ h => h) (Or.inr ⟨by rfl, rfl⟩) (by assumption) ?_
    try simp only [Act.put, List.getElem_toArray, List.getElem_cons_zero, List.getElem_cons_succ, List.setIfInBounds_toArray, List.set_cons_zero, List.set_cons_succ]
    refine wpAnyH_take (i := 7) (v := undef) rfl (by kernel_rfl) (by kernel_rfl) (by kernel_rfl) (fun _ _ _ h => h) (Or.inr ⟨by rfl, rfl⟩) (by assumption) ?_
    try simp only [Act.put, List.getElem_toArray, List.getElem_cons_zero, List.getElem_cons_succ, List.setIfInBounds_toArray, List.set_cons_zero, List.set_cons_succ]
    refine wpAnyH_take (i := 8) (v := undef) rfl (by kernel_rfl) (by kernel_rfl) (by kernel_rfl) (fun _ _ _ h => h) (Or.inr ⟨by rfl, rfl⟩) (by assumption) ?_
    try simp only [Act.put, List.getElem_toArray, List.getElem_cons_zero, List.getElem_cons_succ, List.setIfInBounds_toArray, List.set_cons_zero, List.set_cons_succ]
    refine wpAnyH_take (i := 9) (v := undef) rfl (by kernel_rfl) (by kernel_rfl) (by kernel_rfl) (fun _ _ _ h => h) (Or.inr ⟨by rfl, rfl⟩) (by assumption) ?_
    try simp only [Act.put, List.getElem_toArray, List.getElem_cons_zero, List.getElem_cons_succ, List.setIfInBounds_toArray, List.set_cons_zero, List.set_cons_succ]
    refine wpAnyH_take (i := 10) (v := undef) rfl (by kernel_rfl) (by kernel_rfl) (by kernel_rfl) (fun _ _ _ h => h) (Or.inr ⟨by rfl, rfl⟩) (by assumption) ?_
    try simp only [Act.put, List.getElem_toArray, List.getElem_cons_zero, List.getElem_cons_succ, List.setIfInBounds_toArray, List.set_cons_zero, List.set_cons_succ]
    refine wpAnyH_take (i := 11) (v := undef) rfl (by kernel_rfl) (by kernel_rfl) (by kernel_rfl) (fun _ _ _ h => h) (Or.inr ⟨by rfl, rfl⟩) (by assumption) ?_
    try simp only [Act.put, List.getElem_toArray, List.getElem_cons_zero, List.getElem_cons_succ, List.setIfInBounds_toArray, List.set_cons_zero, List.set_cons_succ]
    refine wpAnyH_take (i := 12) (v := undef) rfl (by kernel_rfl) (by kernel_rfl) (by kernel_rfl) (fun _ _ _ h => h) (Or.inr ⟨by rfl, rfl⟩) (by assumption) ?_
    try simp only [Act.put, List.getElem_toArray, List.getElem_cons_zero, List.getElem_cons_succ, List.setIfInBounds_toArray, List.set_cons_zero, List.set_cons_succ]
    refine wpAnyH_take (i := 13) (v := undef) rfl (by kernel_rfl) (by kernel_rfl) (by kernel_rfl) (fun _ _ _ h => h) (Or.inr ⟨by rfl, rfl⟩) (by assumption) ?_
    try simp only [Act.put, List.getElem_toArray, List.getElem_cons_zero, List.getElem_cons_succ, List.setIfInBounds_toArray, List.set_cons_zero, List.set_cons_succ]
    refine wpAnyH_take (i := 14) (v := undef) rfl (by kernel_rfl) (by kernel_rfl) (by kernel_rfl) (fun _ _ _ h => h) (Or.inr ⟨by rfl, rfl⟩) (by assumption) ?_
    try simp only [Act.put, List.getElem_toArray, List.getElem_cons_zero, List.getElem_cons_succ, List.setIfInBounds_toArray, List.set_cons_zero, List.set_cons_succ]
    refine wpAnyH_take (i := 15) (v := ?v5) rfl (by kernel_rfl) (by kernel_rfl) (by kernel_rfl) (fun _ _ _ h => h) (Or.inl ⟨by rfl, ?hy5⟩) (by assumption) ?rest5
    case hy5 => (intro w hSw; (try dsimp only at hSw); go_simp <;> with_reducible rfl)
    try simp only [Act.put, List.getElem_toArray, List.getElem_cons_zero, List.getElem_cons_succ, List.setIfInBounds_toArray, List.set_cons_zero, List.set_cons_succ]
    refine wpAnyH_ready (rs := [16]) (by kernel_rfl) (by simp) ?_
    refine AllReadyH.cons rfl (fun K hK => ?_) AllReadyH.nil
    go_simp
    refine (TN.out _ _ H.out B.out D.out _ _ (by decide)).mono ?_
    rintro y w1 ⟨rfl, hk, hb, hd⟩
    have H := hide hk
    have B := hide hb
    have D := hide hd
    obtain ⟨c0, c1, c2, c3, c4⟩ := PG.out _ hb
    obtain ⟨d0, d1, d2, d3⟩ := PI.out _ hd
    clear hk hb hd
    go_wp2_with fail
    refine hK.out _ _ (by exact S1) (fun hHeld => ?_)
    clear hK K
    try simp only [Act.put, List.getElem_toArray, List.getElem_cons_zero, List.getElem_cons_succ, List.setIfInBounds_toArray, List.set_cons_zero, List.set_cons_succ]
    refine wpAnyH_done (by kernel_rfl) ?_ _
    clear S1
    go_wp2_with (first | (go_at_call 50; refine (TN.out _ _ H.out B.out D.out _ _ (by decide)).mono ?_; rintro y w1 ⟨rfl, hk, hb, hd⟩; have H := hide hk; have B := hide hb; have D := hide hd; obtain ⟨c0, c1, c2, c3, c4⟩ := PG.out _ hb; obtain ⟨d0, d1, d2, d3⟩ := PI.out _ hd; clear hk hb hd) | (go_at_call 25; refine (isNumber_any _ _).mono ?_; rintro y w1 ⟨rfl, hww⟩; obtain rfl := hww.symm) | (go_at_call 54; refine (CV.out _ _ H.out).mono ?_; rintro y w1 ⟨rfl, hk, _⟩; have H := hide hk))
    all_goals ((first | go_end0 | refine bodyPost_ret (results_none rfl _ _ _) rfl ?_); have HV := HVN.out; refine ⟨rfl, (congrArg (Kt w0 kb _) (idx_fin e 0 (Iv.it ⟨aK, cK, key, aV, cV, val, child, size⟩) yk _ _ _ _ ?_ ?_ ?_ ?_)).mp H.out⟩ <;> clear H B D TN PG PI HI HL <;> have hkl : (0 < key.length) = ¬ key = [] := (by rw [List.length_pos_iff]))
    all_goals (simp [Iv.it]; try grind)
  · have hvd : decide ((0 : Int) < (vn : Int)) = true := by simp; omega
    go_enter Try.func24, Try.ntmps24
    go_wp2_with (first | (go_at_call 50; refine (TN.out _ _ H.out B.out D.out _ _ (by decide)).mono ?_; rintro y w1 ⟨rfl, hk, hb, hd⟩; have H := hide hk; have B := hide hb; have D := hide hd; obtain ⟨c0, c1, c2, c3, c4⟩ := PG.out _ hb; obtain ⟨d0, d1, d2, d3⟩ := PI.out _ hd; clear hk hb hd) | (go_at_call 25; refine (isNumber_any _ _).mono ?_; rintro y w1 ⟨rfl, hww⟩; obtain rfl := hww.symm) | (go_at_call 54; refine (CV.out _ _ H.out).mono ?_; rintro y w1 ⟨rfl, hk, _⟩; have H := hide hk))
    have H := hide (H.out.keep (dr1 _))
    have B := hide (B.out.keep (dr1 _))
    have D := hide (D.out.keep (dr1 _))
    have S1 : True := trivial
    refine wp_region_held_drew (S := fun w' => True) (by kernel_rfl) (by exact S1) (fun hHeld => ?_)
    refine wpAnyH_take (i := 0) (v := ?v6) rfl (by kernel_rfl) (by kernel_rfl) (by kernel_rfl) (fun _ _ _ h => h) (Or.inl ⟨by rfl, ?hy6⟩) (by assumption) ?rest6
    case hy6 => (intro w hSw; (try dsimp only at hSw); go_simp <;> with_reducible rfl)
    try simp only [Act.put, List.getElem_toArray, List.getElem_cons_zero, List.setIfInBounds_toArray, List.set_cons_zero, List.set_cons_succ]
    refine wpAnyH_take (i := 1) (v := ?v7) rfl (by kernel_rfl) (by kernel_rfl) (by kernel_rfl) (fun _ _ _ h => h) (Or.inl ⟨by rfl, ?hy7⟩) (by assumption) ?rest7
    case hy7 => (intro w hSw; (try dsimp only at hSw); go_simp <;> with_reducible rfl)
    try simp only [Act.put, List.getElem_toArray, List.getElem_cons_zero, List.getElem_cons_succ, List.setIfInBounds_toArray, List.set_cons_zero, List.set_cons_succ]
    refine wpAnyH_take (i := 2) (v := ?v8) rfl (by kernel_rfl) (by kernel_rfl) (by kernel_rfl) (fun _ _ _ h => h) (Or.inl ⟨by rfl, ?hy8⟩) (by assumption) ?rest8
    case hy8 => (intro w hSw; (try dsimp only at hSw); go_simp <;> with_reducible rfl)
    try simp only [Act.put, List.getElem_toArray, List.getElem_cons_zero, List.getElem_cons_succ, List.setIfInBounds_toArray, List.set_cons_zero, List.set_cons_succ]
    refine wpAnyH_take (i := 3) (v := ?v9) rfl (by kernel_rfl) (by kernel_rfl) (by kernel_rfl) (fun _ _ _ h => h) (Or.inl ⟨by rfl, ?hy9⟩) (by assumption) ?rest9
    case hy9 => (intro w hSw; (try dsimp only at hSw); go_simp <;> with_reducible rfl)
    try simp only [Act.put, List.getElem_toArray, List.getElem_cons_zero, List.getElem_cons_succ, List.setIfInBounds_toArray, List.set_cons_zero, List.set_cons_succ]
    refine wpAnyH_take (i := 4) (v := undef) rfl (by kernel_rfl) (by kernel_rfl) (by kernel_rfl) (fun _ _ _ h => h) (Or.inr ⟨by rfl, rfl⟩) (by assumption) ?_
    try simp only [Act.put, List.getElem_toArray, List.getElem_cons_zero, List.getElem_cons_succ, List.setIfInBounds_toArray, List.set_cons_zero, List.set_cons_succ]
    refine wpAnyH_take (i := 5) (v := undef) rfl (by kernel_rfl) (by kernel_rfl) (by kernel_rfl) (fun _ _ _ h => h) (Or.inr ⟨by rfl, rfl⟩) (by assumption) ?_
    try simp only [Act.put, List.getElem_toArray, List.getElem_cons_zero, List.getElem_cons_succ, List.setIfInBounds_toArray, List.set_cons_zero, List.set_cons_succ]
    refine wpAnyH_take (i := 6) (v := undef) rfl (by kernel_rfl) (by kernel_rfl) (by kernel_rfl) (fun _ _ _ h => h) (Or.inr ⟨by rfl, rfl⟩) (by assumption) ?_
    try simp only [Act.put, List.getElem_toArray, List.getElem_cons_zero, List.getElem_cons_succ, List.setIfInBounds_toArray, List.set_cons_zero, List.set_cons_succ]
    refine wpAnyH_take (i := 7) (v := undef) rfl (by kernel_rfl) (by kernel_rfl) (by kernel_rfl) (fun _ _ _ h => h) (Or.inr ⟨by rfl, rfl⟩) (by assumption) ?_
    try simp only [Act.put, List.getElem_toArray, List.getElem_cons_zero, List.getElem_cons_succ, List.setIfInBounds_toArray, List.set_cons_zero, List.set_cons_succ]
    refine wpAnyH_take (i := 8) (v := undef) rfl (by kernel_rfl) (by kernel_rfl) (by kernel_rfl) (fun _ _ _ h => h) (Or.inr ⟨by rfl, rfl⟩) (by assumption) ?_
    try simp only [Act.put, List.getElem_toArray, List.getElem_cons_zero, List.getElem_cons_succ, List.setIfInBounds_toArray, List.set_cons_zero, List.set_cons_succ]
    refine wpAnyH_take (i := 9) (v := undef) rfl (by kernel_rfl) (by kernel_rfl) (by kernel_rfl) (fun _ _ _ h => h) (Or.inr ⟨by rfl, rfl⟩) (by assumption) ?_
    try simp only [Act.put, List.getElem_toArray, List.getElem_cons_zero, List.getElem_cons_succ, List.setIfInBounds_toArray, List.set_cons_zero, List.set_cons_succ]
    refine wpAnyH_take (i := 10) (v := undef) rfl (by kernel_rfl) (by kernel_rfl) (by kernel_rfl) (fun _ _ _ h => h) (Or.inr ⟨by rfl, rfl⟩) (by assumption) ?_
    try simp only [Act.put, List.getElem_toArray, List.getElem_cons_zero, List.getElem_cons_succ, List.setIfInBounds_toArray, List.set_cons_zero, List.set_cons_succ]
    refine wpAnyH_take (i := 11) (v := undef) rfl (by kernel_rfl) (by kernel_rfl) (by kernel_rfl) (fun _ _ _ h => h) (Or.inr ⟨by rfl, rfl⟩) (by assumption) ?_
    try simp only [Act.put, List.getElem_toArray, List.getElem_cons_zero, List.getElem_cons_succ, List.setIfInBounds_toArray, List.set_cons_zero, List.set_cons_succ]
    refine wpAnyH_take (i := 12) (v := undef) rfl (by kernel_rfl) (by kernel_rfl) (by kernel_rfl) (fun _ _ _ h => h) (Or.inr ⟨by rfl, rfl⟩) (by assumption) ?_
    try simp only [Act.put, List.getElem_toArray, List.getElem_cons_zero, List.getElem_cons_succ, List.setIfInBounds_toArray, List.set_cons_zero, List.set_cons_succ]
    refine wpAnyH_take (i := 13) (v := undef) rfl (by kernel_rfl) (by kernel_rfl) (by kernel_rfl) (fun _ _ _ h => h) (Or.inr ⟨by rfl, rfl⟩) (by assumption) ?_
    try simp only [Act.put, List.getElem_toArray, List.getElem_cons_zero, List.getElem_cons_succ, List.setIfInBounds_toArray, List.set_cons_zero, List.set_cons_succ]
    refine wpAnyH_take (i := 14) (v := undef) rfl (by kernel_rfl) (by kernel_rfl) (by kernel_rfl) (fun _ _ _ h => h) (Or.inr ⟨by rfl, rfl⟩) (by assumption) ?_
    try simp only [Act.put, List.getElem_toArray, List.getElem_cons_zero, List.getElem_cons_succ, List.setIfInBounds_toArray, List.set_cons_zero, List.set_cons_succ]
    refine wpAnyH_take (i := 15) (v := ?v10) rfl (by kernel_rfl) (by kernel_rfl) (by kernel_rfl) (fun _ _ _ h => h) (Or.inl ⟨by rfl, ?hy10⟩) (by assumption) ?rest10
    case hy10 => (intro w hSw; (try dsimp only at hSw); go_simp <;> with_reducible rfl)
    try simp only [Act.put, List.getElem_toArray, List.getElem_cons_zero, List.getElem_cons_succ, List.setIfInBounds_toArray, List.set_cons_zero, List.set_cons_succ]
    refine wpAnyH_ready (rs := [16]) (by kernel_rfl) (by simp) ?_
    refine AllReadyH.cons rfl (fun K hK => ?_) AllReadyH.nil
    go_simp
    refine (TN.out _ _ H.out B.out D.out _ _ (by decide)).mono ?_
    rintro y w1 ⟨rfl, hk, hb, hd⟩
    have H := hide hk
    have B := hide hb
    have D := hide hd
    obtain ⟨c0, c1, c2, c3, c4⟩ := PG.out _ hb
    obtain ⟨d0, d1, d2, d3⟩ := PI.out _ hd
    clear hk hb hd
    go_wp2_with fail
    refine hK.out _ _ (by exact S1) (fun hHeld => ?_)
    clear hK K
    try simp only [Act.put, List.getElem_toArray, List.getElem_cons_zero, List.getElem_cons_succ, List.setIfInBounds_toArray, List.set_cons_zero, List.set_cons_succ]
    refine wpAnyH_done (by kernel_rfl) ?_ _
    clear S1
    go_wp2_with (first | (go_at_call 50; refine (TN.out _ _ H.out B.out D.out _ _ (by decide)).mono ?_; rintro y w1 ⟨rfl, hk, hb, hd⟩; have H := hide hk; have B := hide hb; have D := hide hd; obtain ⟨c0, c1, c2, c3, c4⟩ := PG.out _ hb; obtain ⟨d0, d1, d2, d3⟩ := PI.out _ hd; clear hk hb hd) | (go_at_call 25; refine (isNumber_any _ _).mono ?_; rintro y w1 ⟨rfl, hww⟩; obtain rfl := hww.symm) | (go_at_call 54; refine (CV.out _ _ H.out).mono ?_; rintro y w1 ⟨rfl, hk, _⟩; have H := hide hk))
    all_goals ((first | go_end0 | refine bodyPost_ret (results_none rfl _ _ _) rfl ?_); have HV := HVN.out; refine ⟨rfl, (congrArg (Kt w0 kb _) (idx_fin e 0 (Iv.it ⟨aK, cK, key, aV, cV, val, child, size⟩) yk _ _ _ _ ?_ ?_ ?_ ?_)).mp H.out⟩ <;> clear H B D TN PG PI HI HL <;> have hkl : (0 < key.length) = ¬ key = [] := (by rw [List.length_pos_iff]))
    all_goals (simp [Iv.it]; try grind)
end Go.Proofs.Ytdngdcjjhabfiaa
