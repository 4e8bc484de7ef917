import Derived.Test.YtdngdcjjhabfiaaPHA
namespace Go.Proofs.Ytdngdcjjhabfiaa
open Go.RowKit
set_option maxRecDepth 8000 in
set_option maxHeartbeats 3200000 in
theorem checkItem_lN (w0 w : World) (kb e i : Nat) (p : Pv) (h : Kt w0 kb w e) (hP : Pi w0 p) (hi : i < p.items.length) (hk : p.kind = 1) (h0 : i ≠ 0) : Calls Try.prog 24 #[p.vl, .int .i64 (i : Int), tv kb] w fun x w' => x = .returned (.tuple #[]) ∧ Kt w0 kb w' (els e (p.pg.itemE i)) := by
  have hne := box_ne h
  have hlt := h.c.lt
  have hne2 : w.heap.size + 1 ≠ kb := by omega
  have hPa := Pv.at p i
  have hPb := Pv.at p (i - 1)
  obtain ⟨bI, off, hbo, hr⟩ := (hP.it.keep (bt h.b (al w (.cells p.cs 25)))).at hi
  have hi' : i - 1 < p.items.length := by omega
  have HJ := hide (hP.it.1 _ (getD_memR hi'))
  have HR := hide fun (w1 : World) (hb : Below w0.heap.size w0 w1) => (show w1.cell? ⟨bI, off + (i - 1) * 4, none⟩ = some (.slice (p.items.getD (i - 1) Iv.zero).aK (p.items.getD (i - 1) Iv.zero).key.length (p.items.getD (i - 1) Iv.zero).cK) from by obtain ⟨b2, o2, e2, r2⟩ := (hP.it.keep hb).at hi'; rw [hbo] at e2; simp only [Option.some.injEq, Addr.mk.injEq, and_true] at e2; obtain ⟨rfl, rfl⟩ := e2; exact (range4 r2).1)
  have HI := hide (hP.it.1 _ (getD_memR hi))
  obtain ⟨k0, k1, k2, k3⟩ := range4 hr
  rw [itmE_eq, hPa, hPb]
  clear hPa hPb
  generalize hx : p.items.getD i Iv.zero = x at *
  generalize hy : p.items.getD (i - 1) Iv.zero = y at *
  have CM := hide fun (w1 : World) (hb : Below w0.heap.size w0 w1) => bCompare_any w1 y.aK x.aK y.key.length y.cK x.key.length x.cK y.key x.key (HJ.out.bk.keep hb) (HI.out.bk.keep hb) rfl rfl
  have H := hide ((h.keep (al w (.cells p.cs 25))).keep (al _ (.cells x.cs 47)))
  have B := hide ((Bx.new w 25 p.cs).keep (al _ (.cells x.cs 47)))
  have D := hide (item_new w p.cs x.cs)
  have TN := hide fun (w1 : World) (e : Nat) (hk : Kt w0 kb w1 e) (hB : Bx w1 25 w.heap.size p.cs) (hD : Bx w1 47 (w.heap.size + 1) x.cs) (wrong : Bool) (xi : Int) (hx : 0 ≤ xi) => tell2 w0 w1 kb e w.heap.size (w.heap.size + 1) p.cs x.cs hk hB hD hne hne2 wrong xi hx
  have CV := hide fun (w1 : World) (e : Nat) (hk : Kt w0 kb w1 e) => checkValue_any w0 w1 kb e x hk
  have PG := hide fun (w1 : World) (hB : Bx w1 25 w.heap.size p.cs) => Bx.page hB
  have PI := hide fun (w1 : World) (hB : Bx w1 47 (w.heap.size + 1) x.cs) => Bx.item hB
  have HL := hide hP.ci
  have HLN := hide hP.it.2.1
  clear h hr hP hx hy
  obtain ⟨kind, level, aI, cI, items, aD, cD, data, next⟩ := p
  obtain ⟨aK, cK, key, aV, cV, val, child, size⟩ := x
  unfold Pv.vl tv
  simp only [Pv.cs, Iv.cs, Iv.vl, tv] at *
  subst hbo hk
  have hiI : (i : Int) < (items.length : Int) := by omega
  have hip : decide ((0 : Int) < (i : Int)) = true := by simp; omega
  have hi0 : ((i : Int) == 0) = false := by simpa using h0
  have hwj : IntKind.i64.wrap ((i : Int) - 1) = ((i - 1 : Nat) : Int) := by have := HLN.out; rw [wrapI (by omega) (by omega)]; omega
  obtain ⟨j, rfl⟩ : ∃ j, i = j + 1 := ⟨i - 1, by omega⟩
  rw [show j + 1 - 1 = j by omega] at HR hwj
  rw [show ((j + 1 : Nat) : Int) - 1 = (j : Int) by omega] at hwj
  have hiJ : (j : Int) < (items.length : Int) := by omega
  obtain ⟨yaK, ycK, yk, yaV, ycV, yval, ychild, ysize⟩ := y
  dsimp only at HR CM ⊢
  generalize hz : cmpB yk key = z at *
  have HZ := hide hz
  clear hz
  cases hkd : decide (((key.length : Nat) : Int) < 1)
  · skip
    go_enter Try.func24, Try.ntmps24
    go_wp2_with (first | (go_at_call 50; refine (TN.out _ _ H.out B.out D.out _ _ (by decide)).mono ?_; rintro y w1 ⟨rfl, hk, hb, hd⟩; have H := hide hk; have B := hide hb; have D := hide hd; obtain ⟨c0, c1, c2, c3, c4⟩ := PG.out _ hb; obtain ⟨d0, d1, d2, d3⟩ := PI.out _ hd; clear hk hb hd) | (go_at_call 25; refine (isNumber_any _ _).mono ?_; rintro y w1 ⟨rfl, hww⟩; obtain rfl := hww.symm) | (go_at_call 54; refine (CV.out _ _ H.out).mono ?_; rintro y w1 ⟨rfl, hk, _⟩; have H := hide hk))
    have H := hide (H.out.keep (dr1 _))
    have B := hide (B.out.keep (dr1 _))
    have D := hide (D.out.keep (dr1 _))
    have S1 := And.intro (PG.out _ B.out).2.2.1 (And.intro (PI.out _ D.out).1 (HR.out _ H.out.b))
    refine wp_region_held_drew (S := fun w' => w'.cell? ⟨w.heap.size, 2, none⟩ = some (.slice (some ⟨bI, off, none⟩) items.length cI) ∧ w'.cell? ⟨w.heap.size + 1, 0, none⟩ = some (.slice aK key.length cK) ∧ w'.cell? ⟨bI, off + j * 4, none⟩ = some (.slice yaK yk.length ycK)) (by kernel_rfl) (by exact S1) (fun hHeld => ?_)
    refine wpAnyH_take (i := 0) (v := ?v81) rfl (by kernel_rfl) (by kernel_rfl) (by kernel_rfl) (fun _ _ _ h => h) (Or.inl ⟨by rfl, ?hy81⟩) (by assumption) ?rest81
    case hy81 => (intro w hSw; (try dsimp only at hSw); go_simp <;> with_reducible rfl)
    try simp only [Act.put, List.getElem_toArray, List.getElem_cons_zero, List.setIfInBounds_toArray, List.set_cons_zero, List.set_cons_succ]
    refine wpAnyH_take (i := 1) (v := ?v82) rfl (by kernel_rfl) (by kernel_rfl) (by kernel_rfl) (fun _ _ _ h => h) (Or.inl ⟨by rfl, ?hy82⟩) (by assumption) ?rest82
    case hy82 => (intro w hSw; (try dsimp only at hSw); go_simp <;> with_reducible rfl)
    try simp only [Act.put, List.getElem_toArray, List.getElem_cons_zero, List.getElem_cons_succ, List.setIfInBounds_toArray, List.set_cons_zero, List.set_cons_succ]
    refine wpAnyH_take (i := 2) (v := ?v83) rfl (by kernel_rfl) (by kernel_rfl) (by kernel_rfl) (fun _ _ _ h => h) (Or.inl ⟨by rfl, ?hy83⟩) (by assumption) ?rest83
    case hy83 => (intro w hSw; (try dsimp only at hSw); go_simp <;> with_reducible rfl)
    try simp only [Act.put, List.getElem_toArray, List.getElem_cons_zero, List.getElem_cons_succ, List.setIfInBounds_toArray, List.set_cons_zero, List.set_cons_succ]
    refine wpAnyH_take (i := 3) (v := ?v84) rfl (by kernel_rfl) (by kernel_rfl) (by kernel_rfl) (fun _ _ _ h => h) (Or.inl ⟨by rfl, ?hy84⟩) (by assumption) ?rest84
    case hy84 => (intro w hSw; (try dsimp only at hSw); go_simp <;> with_reducible rfl)
    try simp only [Act.put, List.getElem_toArray, List.getElem_cons_zero, List.getElem_cons_succ, List.setIfInBounds_toArray, List.set_cons_zero, List.set_cons_succ]
    refine wpAnyH_take (i := 4) (v := ?v85) rfl (by kernel_rfl) (by kernel_rfl) (by kernel_rfl) (fun _ _ _ h => h) (Or.inl ⟨by rfl, ?hy85⟩) (by assumption) ?rest85
    case hy85 => (intro w hSw; (try dsimp only at hSw); go_simp <;> with_reducible rfl)
    try simp only [Act.put, List.getElem_toArray, List.getElem_cons_zero, List.getElem_cons_succ, List.setIfInBounds_toArray, List.set_cons_zero, List.set_cons_succ]
    refine wpAnyH_take (i := 5) (v := ?v86) rfl (by kernel_rfl) (by kernel_rfl) (by kernel_rfl) (fun _ _ _ h => h) (Or.inl ⟨by rfl, ?hy86⟩) (by assumption) ?rest86
    case hy86 => (intro w hSw; (try dsimp only at hSw); go_simp <;> with_reducible rfl)
    try simp only [Act.put, List.getElem_toArray, List.getElem_cons_zero, List.getElem_cons_succ, List.setIfInBounds_toArray, List.set_cons_zero, List.set_cons_succ]
    refine wpAnyH_take (i := 6) (v := ?v87) rfl (by kernel_rfl) (by kernel_rfl) (by kernel_rfl) (fun _ _ _ h => h) (Or.inl ⟨by rfl, ?hy87⟩) (by assumption) ?rest87
    case hy87 => (intro w hSw; (try dsimp only at hSw); go_simp <;> with_reducible rfl)
    try simp only [Act.put, List.getElem_toArray, List.getElem_cons_zero, List.getElem_cons_succ, List.setIfInBounds_toArray, List.set_cons_zero, List.set_cons_succ]
    refine wpAnyH_take (i := 7) (v := ?v88) rfl (by kernel_rfl) (by kernel_rfl) (by kernel_rfl) (fun _ _ _ h => h) (Or.inl ⟨by rfl, ?hy88⟩) (by assumption) ?rest88
    case hy88 => (intro w hSw; (try dsimp only at hSw); go_simp <;> with_reducible rfl)
    try simp only [Act.put, List.getElem_toArray, List.getElem_cons_zero, List.getElem_cons_succ, List.setIfInBounds_toArray, List.set_cons_zero, List.set_cons_succ]
    refine wpAnyH_take (i := 8) (v := ?v89) rfl (by kernel_rfl) (by kernel_rfl) (by kernel_rfl) (fun _ _ _ h => h) (Or.inl ⟨by rfl, ?hy89⟩) (by assumption) ?rest89
    case hy89 => (intro w hSw; (try dsimp only at hSw); go_simp <;> with_reducible rfl)
    try simp only [Act.put, List.getElem_toArray, List.getElem_cons_zero, List.getElem_cons_succ, List.setIfInBounds_toArray, List.set_cons_zero, List.set_cons_succ]
    refine wpAnyH_take (i := 9) (v := ?v90) rfl (by kernel_rfl) (by kernel_rfl) (by kernel_rfl) (fun _ _ _ h => h) (Or.inl ⟨by rfl, ?hy90⟩) (by assumption) ?rest90
    case hy90 => (intro w hSw; (try dsimp only at hSw); go_simp <;> with_reducible rfl)
    try simp only [Act.put, List.getElem_toArray, List.getElem_cons_zero, List.getElem_cons_succ, List.setIfInBounds_toArray, List.set_cons_zero, List.set_cons_succ]
    refine wpAnyH_take (i := 10) (v := ?v91) rfl (by kernel_rfl) (by kernel_rfl) (by kernel_rfl) (fun _ _ _ h => h) (Or.inl ⟨by rfl, ?hy91⟩) (by assumption) ?rest91
    case hy91 => (intro w hSw; (try dsimp only at hSw); go_simp <;> with_reducible rfl)
    try simp only [Act.put, List.getElem_toArray, List.getElem_cons_zero, List.getElem_cons_succ, List.setIfInBounds_toArray, List.set_cons_zero, List.set_cons_succ]
    refine wpAnyH_take (i := 11) (v := ?v92) rfl (by kernel_rfl) (by kernel_rfl) (by kernel_rfl) (fun _ _ _ h => h) (Or.inl ⟨by rfl, ?hy92⟩) (by assumption) ?rest92
    case hy92 => (intro w hSw; (try dsimp only at hSw); go_simp <;> with_reducible rfl)
    try simp only [Act.put, List.getElem_toArray, List.getElem_cons_zero, List.getElem_cons_succ, List.setIfInBounds_toArray, List.set_cons_zero, List.set_cons_succ]
    refine wpAnyH_take (i := 12) (v := ?v93) rfl (by kernel_rfl) (by kernel_rfl) (by kernel_rfl) (fun _ _ _ h => h) (Or.inl ⟨by rfl, ?hy93⟩) (by assumption) ?rest93
    case hy93 => (intro w hSw; (try dsimp only at hSw); go_simp <;> with_reducible rfl)
    try simp only [Act.put, List.getElem_toArray, List.getElem_cons_zero, List.getElem_cons_succ, List.setIfInBounds_toArray, List.set_cons_zero, List.set_cons_succ]
    refine wpAnyH_ready (rs := [13]) (by kernel_rfl) (by simp) ?_
    refine AllReadyH.cons rfl (fun K hK => ?_) AllReadyH.nil
    go_simp
    refine (CM.out _ H.out.b).mono ?_
    rintro e w9 ⟨rfl, hw⟩
    obtain rfl := hw.symm
    clear hw
    go_wp2_with fail
    refine hK.out _ _ (by exact S1) (fun hHeld => ?_)
    clear hK K
    try simp only [Act.put, List.getElem_toArray, List.getElem_cons_zero, List.getElem_cons_succ, List.setIfInBounds_toArray, List.set_cons_zero, List.set_cons_succ]
    refine wpAnyH_take (i := 14) (v := ?v94) rfl (by kernel_rfl) (by kernel_rfl) (by kernel_rfl) (fun _ _ _ h => h) (Or.inl ⟨by rfl, ?hy94⟩) (by assumption) ?rest94
    case hy94 => (intro w hSw; (try dsimp only at hSw); go_simp <;> with_reducible rfl)
    try simp only [Act.put, List.getElem_toArray, List.getElem_cons_zero, List.getElem_cons_succ, List.setIfInBounds_toArray, List.set_cons_zero, List.set_cons_succ]
    refine wpAnyH_take (i := 15) (v := ?v95) rfl (by kernel_rfl) (by kernel_rfl) (by kernel_rfl) (fun _ _ _ h => h) (Or.inl ⟨by rfl, ?hy95⟩) (by assumption) ?rest95
    case hy95 => (intro w hSw; (try dsimp only at hSw); go_simp <;> with_reducible rfl)
    try simp only [Act.put, List.getElem_toArray, List.getElem_cons_zero, List.getElem_cons_succ, List.setIfInBounds_toArray, List.set_cons_zero, List.set_cons_succ]
    refine wpAnyH_ready (rs := [16]) (by kernel_rfl) (by simp) ?_
    refine AllReadyH.cons rfl (fun K hK => ?_) AllReadyH.nil
    go_simp
    refine (TN.out _ _ H.out B.out D.out _ _ (by decide)).mono ?_
    rintro y w1 ⟨rfl, hk, hb, hd⟩
    have H := hide hk
    have B := hide hb
    have D := hide hd
    obtain ⟨c0, c1, c2, c3, c4⟩ := PG.out _ hb
    obtain ⟨d0, d1, d2, d3⟩ := PI.out _ hd
    clear hk hb hd
    have S1 := And.intro (PG.out _ B.out).2.2.1 (And.intro (PI.out _ D.out).1 (HR.out _ H.out.b))
    go_wp2_with fail
    refine hK.out _ _ (by exact S1) (fun hHeld => ?_)
    clear hK K
    try simp only [Act.put, List.getElem_toArray, List.getElem_cons_zero, List.getElem_cons_succ, List.setIfInBounds_toArray, List.set_cons_zero, List.set_cons_succ]
    refine wpAnyH_done (by kernel_rfl) ?_ _
    clear S1
    go_wp2_with (first | (go_at_call 50; refine (TN.out _ _ H.out B.out D.out _ _ (by decide)).mono ?_; rintro y w1 ⟨rfl, hk, hb, hd⟩; have H := hide hk; have B := hide hb; have D := hide hd; obtain ⟨c0, c1, c2, c3, c4⟩ := PG.out _ hb; obtain ⟨d0, d1, d2, d3⟩ := PI.out _ hd; clear hk hb hd) | (go_at_call 25; refine (isNumber_any _ _).mono ?_; rintro y w1 ⟨rfl, hww⟩; obtain rfl := hww.symm) | (go_at_call 54; refine (CV.out _ _ H.out).mono ?_; rintro y w1 ⟨rfl, hk, _⟩; have H := hide hk))
    all_goals ((first | go_end0 | refine bodyPost_ret (results_none rfl _ _ _) rfl ?_); refine ⟨rfl, (congrArg (Kt w0 kb _) (leaf_fin e (j + 1) (Iv.it ⟨aK, cK, key, aV, cV, val, child, size⟩) yk _ _ ?_ ?_)).mp H.out⟩ <;> clear H B D TN PG PI HI HL CV)
    all_goals (have HZ := HZ.out; simp [Iv.it, HZ]; try grind)
  · skip
    go_enter Try.func24, Try.ntmps24
    go_wp2_with (first | (go_at_call 50; refine (TN.out _ _ H.out B.out D.out _ _ (by decide)).mono ?_; rintro y w1 ⟨rfl, hk, hb, hd⟩; have H := hide hk; have B := hide hb; have D := hide hd; obtain ⟨c0, c1, c2, c3, c4⟩ := PG.out _ hb; obtain ⟨d0, d1, d2, d3⟩ := PI.out _ hd; clear hk hb hd) | (go_at_call 25; refine (isNumber_any _ _).mono ?_; rintro y w1 ⟨rfl, hww⟩; obtain rfl := hww.symm) | (go_at_call 54; refine (CV.out _ _ H.out).mono ?_; rintro y w1 ⟨rfl, hk, _⟩; have H := hide hk))
    have H := hide (H.out.keep (dr1 _))
    have B := hide (B.out.keep (dr1 _))
    have D := hide (D.out.keep (dr1 _))
    have S1 := And.intro (PG.out _ B.out).2.2.1 (And.intro (PI.out _ D.out).1 (HR.out _ H.out.b))
    refine wp_region_held_drew (S := fun w' => w'.cell? ⟨w.heap.size, 2, none⟩ = some (.slice (some ⟨bI, off, none⟩) items.length cI) ∧ w'.cell? ⟨w.heap.size + 1, 0, none⟩ = some (.slice aK key.length cK) ∧ w'.cell? ⟨bI, off + j * 4, none⟩ = some (.slice yaK yk.length ycK)) (by kernel_rfl) (by exact S1) (fun hHeld => ?_)
    refine wpAnyH_take (i := 0) (v := ?v96) rfl (by kernel_rfl) (by kernel_rfl) (by kernel_rfl) (fun _ _ _ h => h) (Or.inl ⟨by rfl, ?hy96⟩) (by assumption) ?rest96
    case hy96 => (intro w hSw; (try dsimp only at hSw); go_simp <;> with_reducible rfl)
    try simp only [Act.put, List.getElem_toArray, List.getElem_cons_zero, List.setIfInBounds_toArray, List.set_cons_zero, List.set_cons_succ]
    refine wpAnyH_take (i := 1) (v := ?v97) rfl (by kernel_rfl) (by kernel_rfl) (by kernel_rfl) (fun _ _ _ h => h) (Or.inl ⟨by rfl, ?hy97⟩) (by assumption) ?rest97
    case hy97 => (intro w hSw; (try dsimp only at hSw); go_simp <;> with_reducible rfl)
    try simp only [Act.put, List.getElem_toArray, List.getElem_cons_zero, List.getElem_cons_succ, List.setIfInBounds_toArray, List.set_cons_zero, List.set_cons_succ]
    refine wpAnyH_take (i := 2) (v := ?v98) rfl (by kernel_rfl) (by kernel_rfl) (by kernel_rfl) (fun _ _ _ h => h) (Or.inl ⟨by rfl, ?hy98⟩) (by assumption) ?rest98
    case hy98 => (intro w hSw; (try dsimp only at hSw); go_simp <;> with_reducible rfl)
    try simp only [Act.put, List.getElem_toArray, List.getElem_cons_zero, List.getElem_cons_succ, List.setIfInBounds_toArray, List.set_cons_zero, List.set_cons_succ]
    refine wpAnyH_take (i := 3) (v := ?v99) rfl (by kernel_rfl) (by kernel_rfl) (by kernel_rfl) (fun _ _ _ h => h) (Or.inl ⟨by rfl, ?hy99⟩) (by assumption) ?rest99
    case hy99 => (intro w hSw; (try dsimp only at hSw); go_simp <;> with_reducible rfl)
    try simp only [Act.put, List.getElem_toArray, List.getElem_cons_zero, List.getElem_cons_succ, List.setIfInBounds_toArray, List.set_cons_zero, List.set_cons_succ]
    refine wpAnyH_take (i := 4) (v := ?v100) rfl (by kernel_rfl) (by kernel_rfl) (by kernel_rfl) (fun _ _ _ h => h) (Or.inl ⟨by rfl, ?hy100⟩) (by assumption) ?rest100
    case hy100 => (intro w hSw; (try dsimp only at hSw); go_simp <;> with_reducible rfl)
    try simp only [Act.put, List.getElem_toArray, List.getElem_cons_zero, List.getElem_cons_succ, List.setIfInBounds_toArray, List.set_cons_zero, List.set_cons_succ]
    refine wpAnyH_take (i := 5) (v := ?v101) rfl (by kernel_rfl) (by kernel_rfl) (by kernel_rfl) (fun _ _ _ h => h) (Or.inl ⟨by rfl, ?hy101⟩) (by assumption) ?rest101
    case hy101 => (intro w hSw; (try dsimp only at hSw); go_simp <;> with_reducible rfl)
    try simp only [Act.put, List.getElem_toArray, List.getElem_cons_zero, List.getElem_cons_succ, List.setIfInBounds_toArray, List.set_cons_zero, List.set_cons_succ]
    refine wpAnyH_take (i := 6) (v := ?v102) rfl (by kernel_rfl) (by kernel_rfl) (by kernel_rfl) (fun _ _ _ h => h) (Or.inl ⟨by rfl, ?hy102⟩) (by assumption) ?rest102
    case hy102 => (intro w hSw; (try dsimp only at hSw); go_simp <;> with_reducible rfl)
    try simp only [Act.put, List.getElem_toArray, List.getElem_cons_zero, List.getElem_cons_succ, List.setIfInBounds_toArray, List.set_cons_zero, List.set_cons_succ]
    refine wpAnyH_take (i := 7) (v := ?v103) rfl (by kernel_rfl) (by kernel_rfl) (by kernel_rfl) (fun _ _ _ h => h) (Or.inl ⟨by rfl, ?hy103⟩) (by assumption) ?rest103
    case hy103 => (intro w hSw; (try dsimp only at hSw); go_simp <;> with_reducible rfl)
    try simp only [Act.put, List.getElem_toArray, List.getElem_cons_zero, List.getElem_cons_succ, List.setIfInBounds_toArray, List.set_cons_zero, List.set_cons_succ]
    refine wpAnyH_take (i := 8) (v := ?v104) rfl (by kernel_rfl) (by kernel_rfl) (by kernel_rfl) (fun _ _ _ h => h) (Or.inl ⟨by rfl, ?hy104⟩) (by assumption) ?rest104
    case hy104 => (intro w hSw; (try dsimp only at hSw); go_simp <;> with_reducible rfl)
    try simp only [Act.put, List.getElem_toArray, List.getElem_cons_zero, List.getElem_cons_succ, List.setIfInBounds_toArray, List.set_cons_zero, List.set_cons_succ]
    refine wpAnyH_take (i := 9) (v := ?v105) rfl (by kernel_rfl) (by kernel_rfl) (by kernel_rfl) (fun _ _ _ h => h) (Or.inl ⟨by rfl, ?hy105⟩) (by assumption) ?rest105
    case hy105 => (intro w hSw; (try dsimp only at hSw); go_simp <;> with_reducible rfl)
    try simp only [Act.put, List.getElem_toArray, List.getElem_cons_zero, List.getElem_cons_succ, List.setIfInBounds_toArray, List.set_cons_zero, List.set_cons_succ]
    refine wpAnyH_take (i := 10) (v := ?v106) rfl (by kernel_rfl) (by kernel_rfl) (by kernel_rfl) (fun _ _ _ h => h) (Or.inl ⟨by rfl, ?hy106⟩) (by assumption) ?rest106
    case hy106 => (intro w hSw; (try dsimp only at hSw); go_simp <;> with_reducible rfl)
    try simp only [Act.put, List.getElem_toArray, List.getElem_cons_zero, List.getElem_cons_succ, List.setIfInBounds_toArray, List.set_cons_zero, List.set_cons_succ]
    refine wpAnyH_take (i := 11) (v := ?v107) rfl (by kernel_rfl) (by kernel_rfl) (by kernel_rfl) (fun _ _ _ h => h) (Or.inl ⟨by rfl, ?hy107⟩) (by assumption) ?rest107
    case hy107 => (intro w hSw; (try dsimp only at hSw); go_simp <;> with_reducible rfl)
    try simp only [Act.put, List.getElem_toArray, List.getElem_cons_zero, List.getElem_cons_succ, List.setIfInBounds_toArray, List.set_cons_zero, List.set_cons_succ]
    refine wpAnyH_take (i := 12) (v := ?v108) rfl (by kernel_rfl) (by kernel_rfl) (by kernel_rfl) (fun _ _ _ h => h) (Or.inl ⟨by rfl, ?hy108⟩) (by assumption) ?rest108
    case hy108 => (intro w hSw; (try dsimp only at hSw); go_simp <;> with_reducible rfl)
    try simp only [Act.put, List.getElem_toArray, List.getElem_cons_zero, List.getElem_cons_succ, List.setIfInBounds_toArray, List.set_cons_zero, List.set_cons_succ]
    refine wpAnyH_ready (rs := [13]) (by kernel_rfl) (by simp) ?_
    refine AllReadyH.cons rfl (fun K hK => ?_) AllReadyH.nil
    go_simp
    refine (CM.out _ H.out.b).mono ?_
    rintro e w9 ⟨rfl, hw⟩
    obtain rfl := hw.symm
    clear hw
    go_wp2_with fail
    refine hK.out _ _ (by exact S1) (fun hHeld => ?_)
    clear hK K
    try simp only [Act.put, List.getElem_toArray, List.getElem_cons_zero, List.getElem_cons_succ, List.setIfInBounds_toArray, List.set_cons_zero, List.set_cons_succ]
    refine wpAnyH_take (i := 14) (v := ?v109) rfl (by kernel_rfl) (by kernel_rfl) (by kernel_rfl) (fun _ _ _ h => h) (Or.inl ⟨by rfl, ?hy109⟩) (by assumption) ?rest109
    case hy109 => (intro w hSw; (try dsimp only at hSw); go_simp <;> with_reducible rfl)
    try simp only [Act.put, List.getElem_toArray, List.getElem_cons_zero, List.getElem_cons_succ, List.setIfInBounds_toArray, List.set_cons_zero, List.set_cons_succ]
    refine wpAnyH_take (i := 15) (v := ?v110) rfl (by kernel_rfl) (by kernel_rfl) (by kernel_rfl) (fun _ _ _ h => h) (Or.inl ⟨by rfl, ?hy110⟩) (by assumption) ?rest110
    case hy110 => (intro w hSw; (try dsimp only at hSw); go_simp <;> with_reducible rfl)
    try simp only [Act.put, List.getElem_toArray, List.getElem_cons_zero, List.getElem_cons_succ, List.setIfInBounds_toArray, List.set_cons_zero, List.set_cons_succ]
    refine wpAnyH_ready (rs := [16]) (by kernel_rfl) (by simp) ?_
    refine AllReadyH.cons rfl (fun K hK => ?_) AllReadyH.nil
    go_simp
    refine (TN.out _ _ H.out B.out D.out _ _ (by decide)).mono ?_
    rintro y w1 ⟨rfl, hk, hb, hd⟩
    have H := hide hk
    have B := hide hb
    have D := hide hd
    obtain ⟨c0, c1, c2, c3, c4⟩ := PG.out _ hb
    obtain ⟨d0, d1, d2, d3⟩ := PI.out _ hd
    clear hk hb hd
    have S1 := And.intro (PG.out _ B.out).2.2.1 (And.intro (PI.out _ D.out).1 (HR.out _ H.out.b))
    go_wp2_with fail
    refine hK.out _ _ (by exact S1) (fun hHeld => ?_)
    clear hK K
    try simp only [Act.put, List.getElem_toArray, List.getElem_cons_zero, List.getElem_cons_succ, List.setIfInBounds_toArray, List.set_cons_zero, List.set_cons_succ]
    refine wpAnyH_done (by kernel_rfl) ?_ _
    clear S1
    go_wp2_with (first | (go_at_call 50; refine (TN.out _ _ H.out B.out D.out _ _ (by decide)).mono ?_; rintro y w1 ⟨rfl, hk, hb, hd⟩; have H := hide hk; have B := hide hb; have D := hide hd; obtain ⟨c0, c1, c2, c3, c4⟩ := PG.out _ hb; obtain ⟨d0, d1, d2, d3⟩ := PI.out _ hd; clear hk hb hd) | (go_at_call 25; refine (isNumber_any _ _).mono ?_; rintro y w1 ⟨rfl, hww⟩; obtain rfl := hww.symm) | (go_at_call 54; refine (CV.out _ _ H.out).mono ?_; rintro y w1 ⟨rfl, hk, _⟩; have H := hide hk))
    all_goals ((first | go_end0 | refine bodyPost_ret (results_none rfl _ _ _) rfl ?_); refine ⟨rfl, (congrArg (Kt w0 kb _) (leaf_fin e (j + 1) (Iv.it ⟨aK, cK, key, aV, cV, val, child, size⟩) yk _ _ ?_ ?_)).mp H.out⟩ <;> clear H B D TN PG PI HI HL CV)
    all_goals (have HZ := HZ.out; simp [Iv.it, HZ]; try grind)
end Go.Proofs.Ytdngdcjjhabfiaa
