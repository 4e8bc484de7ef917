import Derived.Test.YtbhigodjbfoeoaaGreatWqB9
namespace Go.Proofs.YtbhigodjbfoeoaaGreat
open Go.RowKit
theorem dr1 (w : World) : Below w.heap.size w w.drew := (Below.refl _ _).drew
theorem tell2 (w0 : World) (w : World) (kb e : Nat) (g g2 : Nat) (cs cs2 : Array Value) (h : Kt w0 kb w e) (hg : Bx w 93 g cs) (hg2 : Bx w 34 g2 cs2) (ne : g ≠ kb) (ne2 : g2 ≠ kb) (wrong : Bool) (xi : Int) (hx : 0 ≤ xi) :
    Calls Tryz.prog 140 #[.bool wrong, .int .i64 xi, .pointer (some ⟨kb, 0, none⟩)] w fun y w' => y = .returned (.tuple #[]) ∧ Kt w0 kb w' (tel e wrong xi.toNat) ∧ Bx w' 93 g cs ∧ Bx w' 34 g2 cs2 := by
  refine (tell_any w0 w kb e 93 g cs h hg ne wrong xi xi.toNat (by omega)).mono ?_
  rintro y w' ⟨rfl, h1, h2, h3⟩
  exact ⟨rfl, h1, h2, hg2.but h3 ne2⟩
theorem item_new (w : World) (cs cs2 : Array Value) : Bx ((w.alloc (.cells cs 93)).alloc (.cells cs2 34)) 34 (w.heap.size + 1) cs2 := by
  have := Bx.new (w.alloc (.cells cs 93)) 34 cs2
  rwa [size_alloc] at this
def itmE (kind : Int) (i : Nat) (x : It) (prev : List Nat) : Nat :=
  if (if kind = 2 ∧ i = 0 then decide (x.key.length = 0) else decide (1 ≤ x.key.length) && decide (x.key.length ≤ 24)) = false then 7
  else if (decide (i = 0) || decide (cmpB prev x.key < 0)) = false then 11 else if x.valOk kind = false then 8 else if x.kidOk kind = false then 15 else 0
theorem itmE_eq (p : Pg) (i : Nat) : p.itemE i = itmE p.kind i (p.at i) (p.at (i - 1)).key := by
  unfold Pg.itemE itmE Pg.keyOk Pg.ordOk
  have h : decide (0 < cmpB (p.at i).key (p.at (i - 1)).key) = decide (cmpB (p.at (i - 1)).key (p.at i).key < 0) := by
    rw [cmpB_flip (p.at (i - 1)).key (p.at i).key, decide_eq_decide]; omega
  rw [h]
theorem fin4 (e : Nat) (k o v c : Bool) : tel (tel (tel (tel e (!k) 7) (!o) 11) (!v) 8) (!c) 15 = els e (if k = false then 7 else if o = false then 11 else if v = false then 8 else if c = false then 15 else 0) := by
  unfold tel els
  by_cases he : e = 0 <;> cases k <;> cases o <;> cases v <;> cases c <;> simp [he]
theorem fin2 (e : Nat) (k o v c : Bool) : els (tel (tel e (!k) 7) (!o) 11) (if v = false then 8 else if c = false then 15 else 0) = els e (if k = false then 7 else if o = false then 11 else if v = false then 8 else if c = false then 15 else 0) := by
  unfold tel els
  by_cases he : e = 0 <;> cases k <;> cases o <;> cases v <;> cases c <;> simp [he]
theorem idx_fin (e i : Nat) (x : It) (prev : List Nat) (a b c d : Bool) (ha : a = !(if (2 : Int) = 2 ∧ i = 0 then decide (x.key.length = 0) else decide (1 ≤ x.key.length) && decide (x.key.length ≤ 24))) (hb : b = !(decide (i = 0) || decide (cmpB prev x.key < 0)))
    (hc : c = !(decide (x.val.length = 0) && decide (x.size = 0))) (hd : d = !isNum x.child) : tel (tel (tel (tel e a (Int.toNat 7)) b (Int.toNat 11)) c (Int.toNat 8)) d (Int.toNat 15) = els e (itmE 2 i x prev) := by
  have hv : x.valOk 2 = (decide (x.val.length = 0) && decide (x.size = 0)) := by unfold It.valOk; rw [if_pos rfl]
  have hk : x.kidOk 2 = isNum x.child := by unfold It.kidOk; rw [if_neg (by simp)]
  rw [← hv] at hc
  rw [← hk] at hd
  rw [ha, hb, hc, hd]
  unfold itmE
  exact fin4 _ _ _ _ _
theorem leaf_fin (e i : Nat) (x : It) (prev : List Nat) (a b : Bool) (ha : a = !(decide (1 ≤ x.key.length) && decide (x.key.length ≤ 24))) (hb : b = !(decide (i = 0) || decide (cmpB prev x.key < 0))) :
    els (tel (tel e a (Int.toNat 7)) b (Int.toNat 11)) x.leafE = els e (itmE 1 i x prev) := by
  rw [ha, hb]
  unfold itmE It.leafE
  rw [if_neg (show ¬ ((1 : Int) = 2 ∧ i = 0) by simp)]
  exact fin2 _ _ _ _ _
end Go.Proofs.YtbhigodjbfoeoaaGreat
namespace Go.Proofs.YtbhigodjbfoeoaaGreat
open Go.RowKit
set_option maxRecDepth 8000 in
set_option maxHeartbeats 3200000 in
theorem checkItem_l0 (w0 w : World) (kb e i : Nat) (p : Pv) (h : Kt w0 kb w e) (hP : Pi w0 p) (hi : i < p.items.length) (hk : p.kind = 1) (h0 : i = 0) : Calls Tryz.prog 120 #[p.vl, .int .i64 (i : Int), tv kb] w fun x w' => x = .returned (.tuple #[]) ∧ Kt w0 kb w' (els e (p.pg.itemE i)) := by
  have hne := box_ne h
  have hlt := h.c.lt
  have hne2 : w.heap.size + 1 ≠ kb := by omega
  have hPa := Pv.at p i
  have hPb := Pv.at p (i - 1)
  obtain ⟨bI, off, hbo, hr⟩ := (hP.it.keep (bt h.b (al w (.cells p.cs 93)))).at hi
  have HI := hide (hP.it.1 _ (getD_memR hi))
  obtain ⟨k0, k1, k2, k3⟩ := range4 hr
  rw [itmE_eq, hPa, hPb]
  clear hPa hPb
  generalize hx : p.items.getD i Iv.zero = x at *
  generalize hy : p.items.getD (i - 1) Iv.zero = y at *
  have H := hide ((h.keep (al w (.cells p.cs 93))).keep (al _ (.cells x.cs 34)))
  have B := hide ((Bx.new w 93 p.cs).keep (al _ (.cells x.cs 34)))
  have D := hide (item_new w p.cs x.cs)
  have TN := hide fun (w1 : World) (e : Nat) (hk : Kt w0 kb w1 e) (hB : Bx w1 93 w.heap.size p.cs) (hD : Bx w1 34 (w.heap.size + 1) x.cs) (wrong : Bool) (xi : Int) (hx : 0 ≤ xi) => tell2 w0 w1 kb e w.heap.size (w.heap.size + 1) p.cs x.cs hk hB hD hne hne2 wrong xi hx
  have CV := hide fun (w1 : World) (e : Nat) (hk : Kt w0 kb w1 e) => checkValue_any w0 w1 kb e x hk
  have PG := hide fun (w1 : World) (hB : Bx w1 93 w.heap.size p.cs) => Bx.page hB
  have PI := hide fun (w1 : World) (hB : Bx w1 34 (w.heap.size + 1) x.cs) => Bx.item hB
  have HL := hide hP.ci
  have HLN := hide hP.it.2.1
  clear h hr hP hx hy
  obtain ⟨kind, level, aI, cI, items, aD, cD, data, next⟩ := p
  obtain ⟨aK, cK, key, aV, cV, val, child, size⟩ := x
  unfold Pv.vl tv
  simp only [Pv.cs, Iv.cs, Iv.vl, tv] at *
  subst hbo hk
  subst h0
  have hiI : (0 : Int) < (items.length : Int) := by omega
  simp only [Nat.zero_mul, Nat.add_zero] at k0 k1 k2 k3
  generalize y.key = yk at *
  cases hkd : decide (((key.length : Nat) : Int) < 1)
  · skip
    go_enter Tryz.func120, Tryz.ntmps120
    go_wp2_with (first | (go_at_call 140; refine (TN.out _ _ H.out B.out D.out _ _ (by decide)).mono ?_; rintro y w1 ⟨rfl, hk, hb, hd⟩; have H := hide hk; have B := hide hb; have D := hide hd; obtain ⟨c0, c1, c2, c3, c4⟩ := PG.out _ hb; obtain ⟨d0, d1, d2, d3⟩ := PI.out _ hd; clear hk hb hd) | (go_at_call 121; refine (isNumber_any _ _).mono ?_; rintro y w1 ⟨rfl, hww⟩; obtain rfl := hww.symm) | (go_at_call 144; refine (CV.out _ _ H.out).mono ?_; rintro y w1 ⟨rfl, hk, _⟩; have H := hide hk))
    have H := hide (H.out.keep (dr1 _))
    have B := hide (B.out.keep (dr1 _))
    have D := hide (D.out.keep (dr1 _))
    have S1 : True := trivial
    refine wp_region_held_drew (S := fun w' => True) (by kernel_rfl) (by exact S1) (fun hHeld => ?_)
    refine wpAnyH_take (i := 0) (v := ?v71) rfl (by kernel_rfl) (by kernel_rfl) (by kernel_rfl) (fun _ _ _ h => h) (Or.inl ⟨by rfl, ?hy71⟩) (by assumption) ?rest71
    case hy71 => (intro w hSw; (try dsimp only at hSw); go_simp <;> with_reducible rfl)
    try simp only [Act.put, List.getElem_toArray, List.getElem_cons_zero, List.setIfInBounds_toArray, List.set_cons_zero, List.set_cons_succ]
    refine wpAnyH_take (i := 1) (v := ?v72) rfl (by kernel_rfl) (by kernel_rfl) (by kernel_rfl) (fun _ _ _ h => h) (Or.inl ⟨by rfl, ?hy72⟩) (by assumption) ?rest72
    case hy72 => (intro w hSw; (try dsimp only at hSw); go_simp <;> with_reducible rfl)
    try simp only [Act.put, List.getElem_toArray, List.getElem_cons_zero, List.getElem_cons_succ, List.setIfInBounds_toArray, List.set_cons_zero, List.set_cons_succ]
    refine wpAnyH_take (i := 2) (v := ?v73) rfl (by kernel_rfl) (by kernel_rfl) (by kernel_rfl) (fun _ _ _ h => h) (Or.inl ⟨by rfl, ?hy73⟩) (by assumption) ?rest73
    case hy73 => (intro w hSw; (try dsimp only at hSw); go_simp <;> with_reducible rfl)
    try simp only [Act.put, List.getElem_toArray, List.getElem_cons_zero, List.getElem_cons_succ, List.setIfInBounds_toArray, List.set_cons_zero, List.set_cons_succ]
    refine wpAnyH_take (i := 3) (v := ?v74) rfl (by kernel_rfl) (by kernel_rfl) (by kernel_rfl) (fun _ _ _ h => h) (Or.inl ⟨by rfl, ?hy74⟩) (by assumption) ?rest74
    case hy74 => (intro w hSw; (try dsimp only at hSw); go_simp <;> with_reducible rfl)
    try simp only [Act.put, List.getElem_toArray, List.getElem_cons_zero, List.getElem_cons_succ, List.setIfInBounds_toArray, List.set_cons_zero, List.set_cons_succ]
    refine wpAnyH_take (i := 4) (v := undef) rfl (by kernel_rfl) (by kernel_rfl) (by kernel_rfl) (fun _ _ _ h => h) (Or.inr ⟨by rfl, rfl⟩) (by assumption) ?_
    try simp only [Act.put, List.getElem_toArray, List.getElem_cons_zero, List.getElem_cons_succ, List.setIfInBounds_toArray, List.set_cons_zero, List.set_cons_succ]
    refine wpAnyH_take (i := 5) (v := undef) rfl (by kernel_rfl) (by kernel_rfl) (by kernel_rfl) (fun _ _ _ h => h) (Or.inr ⟨by rfl, rfl⟩) (by assumption) ?_
    try simp only [Act.put, List.getElem_toArray, List.getElem_cons_zero, List.getElem_cons_succ, List.setIfInBounds_toArray, List.set_cons_zero, List.set_cons_succ]
    refine wpAnyH_take (i := 6) (v := undef) rfl (by kernel_rfl) (by kernel_rfl) (by kernel_rfl) (fun _ _ _ h => h) (Or.inr ⟨by rfl, rfl⟩) (by assumption) ?_
    try simp only [Act.put, List.getElem_toArray, List.getElem_cons_zero, List.getElem_cons_succ, List.setIfInBounds_toArray, List.set_cons_zero, List.set_cons_succ]
    refine wpAnyH_take (i := 7) (v := undef) rfl (by kernel_rfl) (by kernel_rfl) (by kernel_rfl) (fun _ _ _ h => h) (Or.inr ⟨by rfl, rfl⟩) (by assumption) ?_
    try simp only [Act.put, List.getElem_toArray, List.getElem_cons_zero, List.getElem_cons_succ, List.setIfInBounds_toArray, List.set_cons_zero, List.set_cons_succ]
    refine wpAnyH_take (i := 8) (v := undef) rfl (by kernel_rfl) (by kernel_rfl) (by kernel_rfl) (fun _ _ _ h => h) (Or.inr ⟨by rfl, rfl⟩) (by assumption) ?_
    try simp only [Act.put, List.getElem_toArray, List.getElem_cons_zero, List.getElem_cons_succ, List.setIfInBounds_toArray, List.set_cons_zero, List.set_cons_succ]
    refine wpAnyH_take (i := 9) (v := undef) rfl (by kernel_rfl) (by kernel_rfl) (by kernel_rfl) (fun _ _ _ h => h) (Or.inr ⟨by rfl, rfl⟩) (by assumption) ?_
    try simp only [Act.put, List.getElem_toArray, List.getElem_cons_zero, List.getElem_cons_succ, List.setIfInBounds_toArray, List.set_cons_zero, List.set_cons_succ]
    refine wpAnyH_take (i := 10) (v := undef) rfl (by kernel_rfl) (by kernel_rfl) (by kernel_rfl) (fun _ _ _ h => h) (Or.inr ⟨by rfl, rfl⟩) (by assumption) ?_
    try simp only [Act.put, List.getElem_toArray, List.getElem_cons_zero, List.getElem_cons_succ, List.setIfInBounds_toArray, List.set_cons_zero, List.set_cons_succ]
    refine wpAnyH_take (i := 11) (v := undef) rfl (by kernel_rfl) (by kernel_rfl) (by kernel_rfl) (fun _ _ _ h => h) (Or.inr ⟨by rfl, rfl⟩) (by assumption) ?_
    try simp only [Act.put, List.getElem_toArray, List.getElem_cons_zero, List.getElem_cons_succ, List.setIfInBounds_toArray, List.set_cons_zero, List.set_cons_succ]
    refine wpAnyH_take (i := 12) (v := undef) rfl (by kernel_rfl) (by kernel_rfl) (by kernel_rfl) (fun _ _ _ h => h) (Or.inr ⟨by rfl, rfl⟩) (by assumption) ?_
    try simp only [Act.put, List.getElem_toArray, List.getElem_cons_zero, List.getElem_cons_succ, List.setIfInBounds_toArray, List.set_cons_zero, List.set_cons_succ]
    refine wpAnyH_take (i := 13) (v := undef) rfl (by kernel_rfl) (by kernel_rfl) (by kernel_rfl) (fun _ _ _ h => h) (Or.inr ⟨by rfl, rfl⟩) (by assumption) ?_
    try simp only [Act.put, List.getElem_toArray, List.getElem_cons_zero, List.getElem_cons_succ, List.setIfInBounds_toArray, List.set_cons_zero, List.set_cons_succ]
    refine wpAnyH_take (i := 14) (v := undef) rfl (by kernel_rfl) (by kernel_rfl) (by kernel_rfl) (fun _ _ _ h => h) (Or.inr ⟨by rfl, rfl⟩) (by assumption) ?_
    try simp only [Act.put, List.getElem_toArray, List.getElem_cons_zero, List.getElem_cons_succ, List.setIfInBounds_toArray, List.set_cons_zero, List.set_cons_succ]
    refine wpAnyH_take (i := 15) (v := ?v75) rfl (by kernel_rfl) (by kernel_rfl) (by kernel_rfl) (fun _ _ _ h => h) (Or.inl ⟨by rfl, ?hy75⟩) (by assumption) ?rest75
    case hy75 => (intro w hSw; (try dsimp only at hSw); go_simp <;> with_reducible rfl)
    try simp only [Act.put, List.getElem_toArray, List.getElem_cons_zero, List.getElem_cons_succ, List.setIfInBounds_toArray, List.set_cons_zero, List.set_cons_succ]
    refine wpAnyH_ready (rs := [16]) (by kernel_rfl) (by simp) ?_
    refine AllReadyH.cons rfl (fun K hK => ?_) AllReadyH.nil
    go_simp
    refine (TN.out _ _ H.out B.out D.out _ _ (by decide)).mono ?_
    rintro y w1 ⟨rfl, hk, hb, hd⟩
    have H := hide hk
    have B := hide hb
    have D := hide hd
    obtain ⟨c0, c1, c2, c3, c4⟩ := PG.out _ hb
    obtain ⟨d0, d1, d2, d3⟩ := PI.out _ hd
    clear hk hb hd
    go_wp2_with fail
    refine hK.out _ _ (by exact S1) (fun hHeld => ?_)
    clear hK K
    try simp only [Act.put, List.getElem_toArray, List.getElem_cons_zero, List.getElem_cons_succ, List.setIfInBounds_toArray, List.set_cons_zero, List.set_cons_succ]
    refine wpAnyH_done (by kernel_rfl) ?_ _
    clear S1
    go_wp2_with (first | (go_at_call 140; refine (TN.out _ _ H.out B.out D.out _ _ (by decide)).mono ?_; rintro y w1 ⟨rfl, hk, hb, hd⟩; have H := hide hk; have B := hide hb; have D := hide hd; obtain ⟨c0, c1, c2, c3, c4⟩ := PG.out _ hb; obtain ⟨d0, d1, d2, d3⟩ := PI.out _ hd; clear hk hb hd) | (go_at_call 121; refine (isNumber_any _ _).mono ?_; rintro y w1 ⟨rfl, hww⟩; obtain rfl := hww.symm) | (go_at_call 144; refine (CV.out _ _ H.out).mono ?_; rintro y w1 ⟨rfl, hk, _⟩; have H := hide hk))
    all_goals ((first | go_end0 | refine bodyPost_ret (results_none rfl _ _ _) rfl ?_); refine ⟨rfl, (congrArg (Kt w0 kb _) (leaf_fin e 0 (Iv.it ⟨aK, cK, key, aV, cV, val, child, size⟩) yk _ _ ?_ ?_)).mp H.out⟩ <;> clear H B D TN PG PI HI HL CV)
    all_goals (simp [Iv.it]; try grind)
  · skip
    go_enter Tryz.func120, Tryz.ntmps120
    go_wp2_with (first | (go_at_call 140; refine (TN.out _ _ H.out B.out D.out _ _ (by decide)).mono ?_; rintro y w1 ⟨rfl, hk, hb, hd⟩; have H := hide hk; have B := hide hb; have D := hide hd; obtain ⟨c0, c1, c2, c3, c4⟩ := PG.out _ hb; obtain ⟨d0, d1, d2, d3⟩ := PI.out _ hd; clear hk hb hd) | (go_at_call 121; refine (isNumber_any _ _).mono ?_; rintro y w1 ⟨rfl, hww⟩; obtain rfl := hww.symm) | (go_at_call 144; refine (CV.out _ _ H.out).mono ?_; rintro y w1 ⟨rfl, hk, _⟩; have H := hide hk))
    have H := hide (H.out.keep (dr1 _))
    have B := hide (B.out.keep (dr1 _))
    have D := hide (D.out.keep (dr1 _))
    have S1 : True := trivial
    refine wp_region_held_drew (S := fun w' => True) (by kernel_rfl) (by exact S1) (fun hHeld => ?_)
    refine wpAnyH_take (i := 0) (v := ?v76) rfl (by kernel_rfl) (by kernel_rfl) (by kernel_rfl) (fun _ _ _ h => h) (Or.inl ⟨by rfl, ?hy76⟩) (by assumption) ?rest76
    case hy76 => (intro w hSw; (try dsimp only at hSw); go_simp <;> with_reducible rfl)
    try simp only [Act.put, List.getElem_toArray, List.getElem_cons_zero, List.setIfInBounds_toArray, List.set_cons_zero, List.set_cons_succ]
    refine wpAnyH_take (i := 1) (v := ?v77) rfl (by kernel_rfl) (by kernel_rfl) (by kernel_rfl) (fun _ _ _ h => h) (Or.inl ⟨by rfl, ?hy77⟩) (by assumption) ?rest77
    case hy77 => (intro w hSw; (try dsimp only at hSw); go_simp <;> with_reducible rfl)
    try simp only [Act.put, List.getElem_toArray, List.getElem_cons_zero, List.getElem_cons_succ, List.setIfInBounds_toArray, List.set_cons_zero, List.set_cons_succ]
    refine wpAnyH_take (i := 2) (v := ?v78) rfl (by kernel_rfl) (by kernel_rfl) (by kernel_rfl) (fun _ _ _ h => h) (Or.inl ⟨by rfl, ?hy78⟩) (by assumption) ?rest78
    case hy78 => (intro w hSw; (try dsimp only at hSw); go_simp <;> with_reducible rfl)
    try simp only [Act.put, List.getElem_toArray, List.getElem_cons_zero, List.getElem_cons_succ, List.setIfInBounds_toArray, List.set_cons_zero, List.set_cons_succ]
    refine wpAnyH_take (i := 3) (v := ?v79) rfl (by kernel_rfl) (by kernel_rfl) (by kernel_rfl) (fun _ _ _ h => h) (Or.inl ⟨by rfl, ?hy79⟩) (by assumption) ?rest79
    case hy79 => (intro w hSw; (try dsimp only at hSw); go_simp <;> with_reducible rfl)
    try simp only [Act.put, List.getElem_toArray, List.getElem_cons_zero, List.getElem_cons_succ, List.setIfInBounds_toArray, List.set_cons_zero, List.set_cons_succ]
    refine wpAnyH_take (i := 4) (v := undef) rfl (by kernel_rfl) (by kernel_rfl) (by kernel_rfl) (fun _ _ _ h => h) (Or.inr ⟨by rfl, rfl⟩) (by assumption) ?_
    try simp only [Act.put, List.getElem_toArray, List.getElem_cons_zero, List.getElem_cons_succ, List.setIfInBounds_toArray, List.set_cons_zero, List.set_cons_succ]
    refine wpAnyH_take (i := 5) (v := undef) rfl (by kernel_rfl) (by kernel_rfl) (by kernel_rfl) (fun _ _ _ h => h) (Or.inr ⟨by rfl, rfl⟩) (by assumption) ?_
    try simp only [Act.put, List.getElem_toArray, List.getElem_cons_zero, List.getElem_cons_succ, List.setIfInBounds_toArray, List.set_cons_zero, List.set_cons_succ]
    refine wpAnyH_take (i := 6) (v := undef) rfl (by kernel_rfl) (by kernel_rfl) (by kernel_rfl) (fun _ _ _ h => h) (Or.inr ⟨by rfl, rfl⟩) (by assumption) ?_
    try simp only [Act.put, List.getElem_toArray, List.getElem_cons_zero, List.getElem_cons_succ, List.setIfInBounds_toArray, List.set_cons_zero, List.set_cons_succ]
    refine wpAnyH_take (i := 7) (v := undef) rfl (by kernel_rfl) (by kernel_rfl) (by kernel_rfl) (fun _ _ _ h => h) (Or.inr ⟨by rfl, rfl⟩) (by assumption) ?_
    try simp only [Act.put, List.getElem_toArray, List.getElem_cons_zero, List.getElem_cons_succ, List.setIfInBounds_toArray, List.set_cons_zero, List.set_cons_succ]
    refine wpAnyH_take (i := 8) (v := undef) rfl (by kernel_rfl) (by kernel_rfl) (by kernel_rfl) (fun _ _ _ h => h) (Or.inr ⟨by rfl, rfl⟩) (by assumption) ?_
    try simp only [Act.put, List.getElem_toArray, List.getElem_cons_zero, List.getElem_cons_succ, List.setIfInBounds_toArray, List.set_cons_zero, List.set_cons_succ]
    refine wpAnyH_take (i := 9) (v := undef) rfl (by kernel_rfl) (by kernel_rfl) (by kernel_rfl) (fun _ _ _ h => h) (Or.inr ⟨by rfl, rfl⟩) (by assumption) ?_
    try simp only [Act.put, List.getElem_toArray, List.getElem_cons_zero, List.getElem_cons_succ, List.setIfInBounds_toArray, List.set_cons_zero, List.set_cons_succ]
    refine wpAnyH_take (i := 10) (v := undef) rfl (by kernel_rfl) (by kernel_rfl) (by kernel_rfl) (fun _ _ _ h => h) (Or.inr ⟨by rfl, rfl⟩) (by assumption) ?_
    try simp only [Act.put, List.getElem_toArray, List.getElem_cons_zero, List.getElem_cons_succ, List.setIfInBounds_toArray, List.set_cons_zero, List.set_cons_succ]
    refine wpAnyH_take (i := 11) (v := undef) rfl (by kernel_rfl) (by kernel_rfl) (by kernel_rfl) (fun _ _ _ h => h) (Or.inr ⟨by rfl, rfl⟩) (by assumption) ?_
    try simp only [Act.put, List.getElem_toArray, List.getElem_cons_zero, List.getElem_cons_succ, List.setIfInBounds_toArray, List.set_cons_zero, List.set_cons_succ]
    refine wpAnyH_take (i := 12) (v := undef) rfl (by kernel_rfl) (by kernel_rfl) (by kernel_rfl) (fun _ _ _ h => h) (Or.inr ⟨by rfl, rfl⟩) (by assumption) ?_
    try simp only [Act.put, List.getElem_toArray, List.getElem_cons_zero, List.getElem_cons_succ, List.setIfInBounds_toArray, List.set_cons_zero, List.set_cons_succ]
    refine wpAnyH_take (i := 13) (v := undef) rfl (by kernel_rfl) (by kernel_rfl) (by kernel_rfl) (fun _ _ _ h => h) (Or.inr ⟨by rfl, rfl⟩) (by assumption) ?_
    try simp only [Act.put, List.getElem_toArray, List.getElem_cons_zero, List.getElem_cons_succ, List.setIfInBounds_toArray, List.set_cons_zero, List.set_cons_succ]
    refine wpAnyH_take (i := 14) (v := undef) rfl (by kernel_rfl) (by kernel_rfl) (by kernel_rfl) (fun _ _ _ h => h) (Or.inr ⟨by rfl, rfl⟩) (by assumption) ?_
    try simp only [Act.put, List.getElem_toArray, List.getElem_cons_zero, List.getElem_cons_succ, List.setIfInBounds_toArray, List.set_cons_zero, List.set_cons_succ]
    refine wpAnyH_take (i := 15) (v := ?v80) rfl (by kernel_rfl) (by kernel_rfl) (by kernel_rfl) (fun _ _ _ h => h) (Or.inl ⟨by rfl, ?hy80⟩) (by assumption) ?rest80
    case hy80 => (intro w hSw; (try dsimp only at hSw); go_simp <;> with_reducible rfl)
    try simp only [Act.put, List.getElem_toArray, List.getElem_cons_zero, List.getElem_cons_succ, List.setIfInBounds_toArray, List.set_cons_zero, List.set_cons_succ]
    refine wpAnyH_ready (rs := [16]) (by kernel_rfl) (by simp) ?_
    refine AllReadyH.cons rfl (fun K hK => ?_) AllReadyH.nil
    go_simp
    refine (TN.out _ _ H.out B.out D.out _ _ (by decide)).mono ?_
    rintro y w1 ⟨rfl, hk, hb, hd⟩
    have H := hide hk
    have B := hide hb
    have D := hide hd
    obtain ⟨c0, c1, c2, c3, c4⟩ := PG.out _ hb
    obtain ⟨d0, d1, d2, d3⟩ := PI.out _ hd
    clear hk hb hd
    go_wp2_with fail
    refine hK.out _ _ (by exact S1) (fun hHeld => ?_)
    clear hK K
    try simp only [Act.put, List.getElem_toArray, List.getElem_cons_zero, List.getElem_cons_succ, List.setIfInBounds_toArray, List.set_cons_zero, List.set_cons_succ]
    refine wpAnyH_done (by kernel_rfl) ?_ _
    clear S1
    go_wp2_with (first | (go_at_call 140; refine (TN.out _ _ H.out B.out D.out _ _ (by decide)).mono ?_; rintro y w1 ⟨rfl, hk, hb, hd⟩; have H := hide hk; have B := hide hb; have D := hide hd; obtain ⟨c0, c1, c2, c3, c4⟩ := PG.out _ hb; obtain ⟨d0, d1, d2, d3⟩ := PI.out _ hd; clear hk hb hd) | (go_at_call 121; refine (isNumber_any _ _).mono ?_; rintro y w1 ⟨rfl, hww⟩; obtain rfl := hww.symm) | (go_at_call 144; refine (CV.out _ _ H.out).mono ?_; rintro y w1 ⟨rfl, hk, _⟩; have H := hide hk))
    all_goals ((first | go_end0 | refine bodyPost_ret (results_none rfl _ _ _) rfl ?_); refine ⟨rfl, (congrArg (Kt w0 kb _) (leaf_fin e 0 (Iv.it ⟨aK, cK, key, aV, cV, val, child, size⟩) yk _ _ ?_ ?_)).mp H.out⟩ <;> clear H B D TN PG PI HI HL CV)
    all_goals (simp [Iv.it]; try grind)
end Go.Proofs.YtbhigodjbfoeoaaGreat
namespace Go.Proofs.YtbhigodjbfoeoaaGreat
open Go.RowKit
set_option maxRecDepth 8000 in
set_option maxHeartbeats 3200000 in
theorem checkItem_lN (w0 w : World) (kb e i : Nat) (p : Pv) (h : Kt w0 kb w e) (hP : Pi w0 p) (hi : i < p.items.length) (hk : p.kind = 1) (h0 : i ≠ 0) : Calls Tryz.prog 120 #[p.vl, .int .i64 (i : Int), tv kb] w fun x w' => x = .returned (.tuple #[]) ∧ Kt w0 kb w' (els e (p.pg.itemE i)) := by
  have hne := box_ne h
  have hlt := h.c.lt
  have hne2 : w.heap.size + 1 ≠ kb := by omega
  have hPa := Pv.at p i
  have hPb := Pv.at p (i - 1)
  obtain ⟨bI, off, hbo, hr⟩ := (hP.it.keep (bt h.b (al w (.cells p.cs 93)))).at hi
  have hi' : i - 1 < p.items.length := by omega
  have HJ := hide (hP.it.1 _ (getD_memR hi'))
  have HR := hide fun (w1 : World) (hb : Below w0.heap.size w0 w1) => (show w1.cell? ⟨bI, off + (i - 1) * 4, none⟩ = some (.slice (p.items.getD (i - 1) Iv.zero).aK (p.items.getD (i - 1) Iv.zero).key.length (p.items.getD (i - 1) Iv.zero).cK) from by obtain ⟨b2, o2, e2, r2⟩ := (hP.it.keep hb).at hi'; rw [hbo] at e2; simp only [Option.some.injEq, Addr.mk.injEq, and_true] at e2; obtain ⟨rfl, rfl⟩ := e2; exact (range4 r2).1)
  have HI := hide (hP.it.1 _ (getD_memR hi))
  obtain ⟨k0, k1, k2, k3⟩ := range4 hr
  rw [itmE_eq, hPa, hPb]
  clear hPa hPb
  generalize hx : p.items.getD i Iv.zero = x at *
  generalize hy : p.items.getD (i - 1) Iv.zero = y at *
  have CM := hide fun (w1 : World) (hb : Below w0.heap.size w0 w1) => bCompare_any w1 y.aK x.aK y.key.length y.cK x.key.length x.cK y.key x.key (HJ.out.bk.keep hb) (HI.out.bk.keep hb) rfl rfl
  have H := hide ((h.keep (al w (.cells p.cs 93))).keep (al _ (.cells x.cs 34)))
  have B := hide ((Bx.new w 93 p.cs).keep (al _ (.cells x.cs 34)))
  have D := hide (item_new w p.cs x.cs)
  have TN := hide fun (w1 : World) (e : Nat) (hk : Kt w0 kb w1 e) (hB : Bx w1 93 w.heap.size p.cs) (hD : Bx w1 34 (w.heap.size + 1) x.cs) (wrong : Bool) (xi : Int) (hx : 0 ≤ xi) => tell2 w0 w1 kb e w.heap.size (w.heap.size + 1) p.cs x.cs hk hB hD hne hne2 wrong xi hx
  have CV := hide fun (w1 : World) (e : Nat) (hk : Kt w0 kb w1 e) => checkValue_any w0 w1 kb e x hk
  have PG := hide fun (w1 : World) (hB : Bx w1 93 w.heap.size p.cs) => Bx.page hB
  have PI := hide fun (w1 : World) (hB : Bx w1 34 (w.heap.size + 1) x.cs) => Bx.item hB
  have HL := hide hP.ci
  have HLN := hide hP.it.2.1
  clear h hr hP hx hy
  obtain ⟨kind, level, aI, cI, items, aD, cD, data, next⟩ := p
  obtain ⟨aK, cK, key, aV, cV, val, child, size⟩ := x
  unfold Pv.vl tv
  simp only [Pv.cs, Iv.cs, Iv.vl, tv] at *
  subst hbo hk
  have hiI : (i : Int) < (items.length : Int) := by omega
  have hip : decide ((0 : Int) < (i : Int)) = true := by simp; omega
  have hi0 : ((i : Int) == 0) = false := by simpa using h0
  have hwj : IntKind.i64.wrap ((i : Int) - 1) = ((i - 1 : Nat) : Int) := by have := HLN.out; rw [wrapI (by omega) (by omega)]; omega
  obtain ⟨j, rfl⟩ : ∃ j, i = j + 1 := ⟨i - 1, by omega⟩
  rw [show j + 1 - 1 = j by omega] at HR hwj
  rw [show ((j + 1 : Nat) : Int) - 1 = (j : Int) by omega] at hwj
  have hiJ : (j : Int) < (items.length : Int) := by omega
  obtain ⟨yaK, ycK, yk, yaV, ycV, yval, ychild, ysize⟩ := y
  dsimp only at HR CM ⊢
  generalize hz : cmpB yk key = z at *
  have HZ := hide hz
  clear hz
  cases hkd : decide (((key.length : Nat) : Int) < 1)
  · skip
    go_enter Tryz.func120, Tryz.ntmps120
    go_wp2_with (first | (go_at_call 140; refine (TN.out _ _ H.out B.out D.out _ _ (by decide)).mono ?_; rintro y w1 ⟨rfl, hk, hb, hd⟩; have H := hide hk; have B := hide hb; have D := hide hd; obtain ⟨c0, c1, c2, c3, c4⟩ := PG.out _ hb; obtain ⟨d0, d1, d2, d3⟩ := PI.out _ hd; clear hk hb hd) | (go_at_call 121; refine (isNumber_any _ _).mono ?_; rintro y w1 ⟨rfl, hww⟩; obtain rfl := hww.symm) | (go_at_call 144; refine (CV.out _ _ H.out).mono ?_; rintro y w1 ⟨rfl, hk, _⟩; have H := hide hk))
    have H := hide (H.out.keep (dr1 _))
    have B := hide (B.out.keep (dr1 _))
    have D := hide (D.out.keep (dr1 _))
    have S1 := And.intro (PG.out _ B.out).2.2.1 (And.intro (PI.out _ D.out).1 (HR.out _ H.out.b))
    refine wp_region_held_drew (S := fun w' => w'.cell? ⟨w.heap.size, 2, none⟩ = some (.slice (some ⟨bI, off, none⟩) items.length cI) ∧ w'.cell? ⟨w.heap.size + 1, 0, none⟩ = some (.slice aK key.length cK) ∧ w'.cell? ⟨bI, off + j * 4, none⟩ = some (.slice yaK yk.length ycK)) (by kernel_rfl) (by exact S1) (fun hHeld => ?_)
    refine wpAnyH_take (i := 0) (v := ?v81) rfl (by kernel_rfl) (by kernel_rfl) (by kernel_rfl) (fun _ _ _ h => h) (Or.inl ⟨by rfl, ?hy81⟩) (by assumption) ?rest81
    case hy81 => (intro w hSw; (try dsimp only at hSw); go_simp <;> with_reducible rfl)
    try simp only [Act.put, List.getElem_toArray, List.getElem_cons_zero, List.setIfInBounds_toArray, List.set_cons_zero, List.set_cons_succ]
    refine wpAnyH_take (i := 1) (v := ?v82) rfl (by kernel_rfl) (by kernel_rfl) (by kernel_rfl) (fun _ _ _ h => h) (Or.inl ⟨by rfl, ?hy82⟩) (by assumption) ?rest82
    case hy82 => (intro w hSw; (try dsimp only at hSw); go_simp <;> with_reducible rfl)
    try simp only [Act.put, List.getElem_toArray, List.getElem_cons_zero, List.getElem_cons_succ, List.setIfInBounds_toArray, List.set_cons_zero, List.set_cons_succ]
    refine wpAnyH_take (i := 2) (v := ?v83) rfl (by kernel_rfl) (by kernel_rfl) (by kernel_rfl) (fun _ _ _ h => h) (Or.inl ⟨by rfl, ?hy83⟩) (by assumption) ?rest83
    case hy83 => (intro w hSw; (try dsimp only at hSw); go_simp <;> with_reducible rfl)
    try simp only [Act.put, List.getElem_toArray, List.getElem_cons_zero, List.getElem_cons_succ, List.setIfInBounds_toArray, List.set_cons_zero, List.set_cons_succ]
    refine wpAnyH_take (i := 3) (v := ?v84) rfl (by kernel_rfl) (by kernel_rfl) (by kernel_rfl) (fun _ _ _ h => h) (Or.inl ⟨by rfl, ?hy84⟩) (by assumption) ?rest84
    case hy84 => (intro w hSw; (try dsimp only at hSw); go_simp <;> with_reducible rfl)
    try simp only [Act.put, List.getElem_toArray, List.getElem_cons_zero, List.getElem_cons_succ, List.setIfInBounds_toArray, List.set_cons_zero, List.set_cons_succ]
    refine wpAnyH_take (i := 4) (v := ?v85) rfl (by kernel_rfl) (by kernel_rfl) (by kernel_rfl) (fun _ _ _ h => h) (Or.inl ⟨by rfl, ?hy85⟩) (by assumption) ?rest85
    case hy85 => (intro w hSw; (try dsimp only at hSw); go_simp <;> with_reducible rfl)
    try simp only [Act.put, List.getElem_toArray, List.getElem_cons_zero, List.getElem_cons_succ, List.setIfInBounds_toArray, List.set_cons_zero, List.set_cons_succ]
    refine wpAnyH_take (i := 5) (v := ?v86) rfl (by kernel_rfl) (by kernel_rfl) (by kernel_rfl) (fun _ _ _ h => h) (Or.inl ⟨by rfl, ?hy86⟩) (by assumption) ?rest86
    case hy86 => (intro w hSw; (try dsimp only at hSw); go_simp <;> with_reducible rfl)
    try simp only [Act.put, List.getElem_toArray, List.getElem_cons_zero, List.getElem_cons_succ, List.setIfInBounds_toArray, List.set_cons_zero, List.set_cons_succ]
    refine wpAnyH_take (i := 6) (v := ?v87) rfl (by kernel_rfl) (by kernel_rfl) (by kernel_rfl) (fun _ _ _ h => h) (Or.inl ⟨by rfl, ?hy87⟩) (by assumption) ?rest87
    case hy87 => (intro w hSw; (try dsimp only at hSw); go_simp <;> with_reducible rfl)
    try simp only [Act.put, List.getElem_toArray, List.getElem_cons_zero, List.getElem_cons_succ, List.setIfInBounds_toArray, List.set_cons_zero, List.set_cons_succ]
    refine wpAnyH_take (i := 7) (v := ?v88) rfl (by kernel_rfl) (by kernel_rfl) (by kernel_rfl) (fun _ _ _ h => h) (Or.inl ⟨by rfl, ?hy88⟩) (by assumption) ?rest88
    case hy88 => (intro w hSw; (try dsimp only at hSw); go_simp <;> with_reducible rfl)
    try simp only [Act.put, List.getElem_toArray, List.getElem_cons_zero, List.getElem_cons_succ, List.setIfInBounds_toArray, List.set_cons_zero, List.set_cons_succ]
    refine wpAnyH_take (i := 8) (v := ?v89) rfl (by kernel_rfl) (by kernel_rfl) (by kernel_rfl) (fun _ _ _ h => h) (Or.inl ⟨by rfl, ?hy89⟩) (by assumption) ?rest89
    case hy89 => (intro w hSw; (try dsimp only at hSw); go_simp <;> with_reducible rfl)
    try simp only [Act.put, List.getElem_toArray, List.getElem_cons_zero, List.getElem_cons_succ, List.setIfInBounds_toArray, List.set_cons_zero, List.set_cons_succ]
    refine wpAnyH_take (i := 9) (v := ?v90) rfl (by kernel_rfl) (by kernel_rfl) (by kernel_rfl) (fun _ _ _ h => h) (Or.inl ⟨by rfl, ?hy90⟩) (by assumption) ?rest90
    case hy90 => (intro w hSw; (try dsimp only at hSw); go_simp <;> with_reducible rfl)
    try simp only [Act.put, List.getElem_toArray, List.getElem_cons_zero, List.getElem_cons_succ, List.setIfInBounds_toArray, List.set_cons_zero, List.set_cons_succ]
    refine wpAnyH_take (i := 10) (v := ?v91) rfl (by kernel_rfl) (by kernel_rfl) (by kernel_rfl) (fun _ _ _ h => h) (Or.inl ⟨by rfl, ?hy91⟩) (by assumption) ?rest91
    case hy91 => (intro w hSw; (try dsimp only at hSw); go_simp <;> with_reducible rfl)
    try simp only [Act.put, List.getElem_toArray, List.getElem_cons_zero, List.getElem_cons_succ, List.setIfInBounds_toArray, List.set_cons_zero, List.set_cons_succ]
    refine wpAnyH_take (i := 11) (v := ?v92) rfl (by kernel_rfl) (by kernel_rfl) (by kernel_rfl) (fun _ _ _ h => h) (Or.inl ⟨by rfl, ?hy92⟩) (by assumption) ?rest92
    case hy92 => (intro w hSw; (try dsimp only at hSw); go_simp <;> with_reducible rfl)
    try simp only [Act.put, List.getElem_toArray, List.getElem_cons_zero, List.getElem_cons_succ, List.setIfInBounds_toArray, List.set_cons_zero, List.set_cons_succ]
    refine wpAnyH_take (i := 12) (v := ?v93) rfl (by kernel_rfl) (by kernel_rfl) (by kernel_rfl) (fun _ _ _ h => h) (Or.inl ⟨by rfl, ?hy93⟩) (by assumption) ?rest93
    case hy93 => (intro w hSw; (try dsimp only at hSw); go_simp <;> with_reducible rfl)
    try simp only [Act.put, List.getElem_toArray, List.getElem_cons_zero, List.getElem_cons_succ, List.setIfInBounds_toArray, List.set_cons_zero, List.set_cons_succ]
    refine wpAnyH_ready (rs := [13]) (by kernel_rfl) (by simp) ?_
    refine AllReadyH.cons rfl (fun K hK => ?_) AllReadyH.nil
    go_simp
    refine (CM.out _ H.out.b).mono ?_
    rintro e w9 ⟨rfl, hw⟩
    obtain rfl := hw.symm
    clear hw
    go_wp2_with fail
    refine hK.out _ _ (by exact S1) (fun hHeld => ?_)
    clear hK K
    try simp only [Act.put, List.getElem_toArray, List.getElem_cons_zero, List.getElem_cons_succ, List.setIfInBounds_toArray, List.set_cons_zero, List.set_cons_succ]
    refine wpAnyH_take (i := 14) (v := ?v94) rfl (by kernel_rfl) (by kernel_rfl) (by kernel_rfl) (fun _ _ _ h => h) (Or.inl ⟨by rfl, ?hy94⟩) (by assumption) ?rest94
    case hy94 => (intro w hSw; (try dsimp only at hSw); go_simp <;> with_reducible rfl)
    try simp only [Act.put, List.getElem_toArray, List.getElem_cons_zero, List.getElem_cons_succ, List.setIfInBounds_toArray, List.set_cons_zero, List.set_cons_succ]
    refine wpAnyH_take (i := 15) (v := ?v95) rfl (by kernel_rfl) (by kernel_rfl) (by kernel_rfl) (fun _ _ _ h => h) (Or.inl ⟨by rfl, ?hy95⟩) (by assumption) ?rest95
    case hy95 => (intro w hSw; (try dsimp only at hSw); go_simp <;> with_reducible rfl)
    try simp only [Act.put, List.getElem_toArray, List.getElem_cons_zero, List.getElem_cons_succ, List.setIfInBounds_toArray, List.set_cons_zero, List.set_cons_succ]
    refine wpAnyH_ready (rs := [16]) (by kernel_rfl) (by simp) ?_
    refine AllReadyH.cons rfl (fun K hK => ?_) AllReadyH.nil
    go_simp
    refine (TN.out _ _ H.out B.out D.out _ _ (by decide)).mono ?_
    rintro y w1 ⟨rfl, hk, hb, hd⟩
    have H := hide hk
    have B := hide hb
    have D := hide hd
    obtain ⟨c0, c1, c2, c3, c4⟩ := PG.out _ hb
    obtain ⟨d0, d1, d2, d3⟩ := PI.out _ hd
    clear hk hb hd
    have S1 := And.intro (PG.out _ B.out).2.2.1 (And.intro (PI.out _ D.out).1 (HR.out _ H.out.b))
    go_wp2_with fail
    refine hK.out _ _ (by exact S1) (fun hHeld => ?_)
    clear hK K
    try simp only [Act.put, List.getElem_toArray, List.getElem_cons_zero, List.getElem_cons_succ, List.setIfInBounds_toArray, List.set_cons_zero, List.set_cons_succ]
    refine wpAnyH_done (by kernel_rfl) ?_ _
    clear S1
    go_wp2_with (first | (go_at_call 140; refine (TN.out _ _ H.out B.out D.out _ _ (by decide)).mono ?_; rintro y w1 ⟨rfl, hk, hb, hd⟩; have H := hide hk; have B := hide hb; have D := hide hd; obtain ⟨c0, c1, c2, c3, c4⟩ := PG.out _ hb; obtain ⟨d0, d1, d2, d3⟩ := PI.out _ hd; clear hk hb hd) | (go_at_call 121; refine (isNumber_any _ _).mono ?_; rintro y w1 ⟨rfl, hww⟩; obtain rfl := hww.symm) | (go_at_call 144; refine (CV.out _ _ H.out).mono ?_; rintro y w1 ⟨rfl, hk, _⟩; have H := hide hk))
    all_goals ((first | go_end0 | refine bodyPost_ret (results_none rfl _ _ _) rfl ?_); refine ⟨rfl, (congrArg (Kt w0 kb _) (leaf_fin e (j + 1) (Iv.it ⟨aK, cK, key, aV, cV, val, child, size⟩) yk _ _ ?_ ?_)).mp H.out⟩ <;> clear H B D TN PG PI HI HL CV)
    all_goals (have HZ := HZ.out; simp [Iv.it, HZ]; try grind)
  · skip
    go_enter Tryz.func120, Tryz.ntmps120
    go_wp2_with (first | (go_at_call 140; refine (TN.out _ _ H.out B.out D.out _ _ (by decide)).mono ?_; rintro y w1 ⟨rfl, hk, hb, hd⟩; have H := hide hk; have B := hide hb; have D := hide hd; obtain ⟨c0, c1, c2, c3, c4⟩ := PG.out _ hb; obtain ⟨d0, d1, d2, d3⟩ := PI.out _ hd; clear hk hb hd) | (go_at_call 121; refine (isNumber_any _ _).mono ?_; rintro y w1 ⟨rfl, hww⟩; obtain rfl := hww.symm) | (go_at_call 144; refine (CV.out _ _ H.out).mono ?_; rintro y w1 ⟨rfl, hk, _⟩; have H := hide hk))
    have H := hide (H.out.keep (dr1 _))
    have B := hide (B.out.keep (dr1 _))
    have D := hide (D.out.keep (dr1 _))
    have S1 := And.intro (PG.out _ B.out).2.2.1 (And.intro (PI.out _ D.out).1 (HR.out _ H.out.b))
    refine wp_region_held_drew (S := fun w' => w'.cell? ⟨w.heap.size, 2, none⟩ = some (.slice (some ⟨bI, off, none⟩) items.length cI) ∧ w'.cell? ⟨w.heap.size + 1, 0, none⟩ = some (.slice aK key.length cK) ∧ w'.cell? ⟨bI, off + j * 4, none⟩ = some (.slice yaK yk.length ycK)) (by kernel_rfl) (by exact S1) (fun hHeld => ?_)
    refine wpAnyH_take (i := 0) (v := ?v96) rfl (by kernel_rfl) (by kernel_rfl) (by kernel_rfl) (fun _ _ _ h => h) (Or.inl ⟨by rfl, ?hy96⟩) (by assumption) ?rest96
    case hy96 => (intro w hSw; (try dsimp only at hSw); go_simp <;> with_reducible rfl)
    try simp only [Act.put, List.getElem_toArray, List.getElem_cons_zero, List.setIfInBounds_toArray, List.set_cons_zero, List.set_cons_succ]
    refine wpAnyH_take (i := 1) (v := ?v97) rfl (by kernel_rfl) (by kernel_rfl) (by kernel_rfl) (fun _ _ _ h => h) (Or.inl ⟨by rfl, ?hy97⟩) (by assumption) ?rest97
    case hy97 => (intro w hSw; (try dsimp only at hSw); go_simp <;> with_reducible rfl)
    try simp only [Act.put, List.getElem_toArray, List.getElem_cons_zero, List.getElem_cons_succ, List.setIfInBounds_toArray, List.set_cons_zero, List.set_cons_succ]
    refine wpAnyH_take (i := 2) (v := ?v98) rfl (by kernel_rfl) (by kernel_rfl) (by kernel_rfl) (fun _ _ _ h => h) (Or.inl ⟨by rfl, ?hy98⟩) (by assumption) ?rest98
    case hy98 => (intro w hSw; (try dsimp only at hSw); go_simp <;> with_reducible rfl)
    try simp only [Act.put, List.getElem_toArray, List.getElem_cons_zero, List.getElem_cons_succ, List.setIfInBounds_toArray, List.set_cons_zero, List.set_cons_succ]
    refine wpAnyH_take (i := 3) (v := ?v99) rfl (by kernel_rfl) (by kernel_rfl) (by kernel_rfl) (fun _ _ _ h => h) (Or.inl ⟨by rfl, ?hy99⟩) (by assumption) ?rest99
    case hy99 => (intro w hSw; (try dsimp only at hSw); go_simp <;> with_reducible rfl)
    try simp only [Act.put, List.getElem_toArray, List.getElem_cons_zero, List.getElem_cons_succ, List.setIfInBounds_toArray, List.set_cons_zero, List.set_cons_succ]
    refine wpAnyH_take (i := 4) (v := ?v100) rfl (by kernel_rfl) (by kernel_rfl) (by kernel_rfl) (fun _ _ _ h => h) (Or.inl ⟨by rfl, ?hy100⟩) (by assumption) ?rest100
    case hy100 => (intro w hSw; (try dsimp only at hSw); go_simp <;> with_reducible rfl)
    try simp only [Act.put, List.getElem_toArray, List.getElem_cons_zero, List.getElem_cons_succ, List.setIfInBounds_toArray, List.set_cons_zero, List.set_cons_succ]
    refine wpAnyH_take (i := 5) (v := ?v101) rfl (by kernel_rfl) (by kernel_rfl) (by kernel_rfl) (fun _ _ _ h => h) (Or.inl ⟨by rfl, ?hy101⟩) (by assumption) ?rest101
    case hy101 => (intro w hSw; (try dsimp only at hSw); go_simp <;> with_reducible rfl)
    try simp only [Act.put, List.getElem_toArray, List.getElem_cons_zero, List.getElem_cons_succ, List.setIfInBounds_toArray, List.set_cons_zero, List.set_cons_succ]
    refine wpAnyH_take (i := 6) (v := ?v102) rfl (by kernel_rfl) (by kernel_rfl) (by kernel_rfl) (fun _ _ _ h => h) (Or.inl ⟨by rfl, ?hy102⟩) (by assumption) ?rest102
    case hy102 => (intro w hSw; (try dsimp only at hSw); go_simp <;> with_reducible rfl)
    try simp only [Act.put, List.getElem_toArray, List.getElem_cons_zero, List.getElem_cons_succ, List.setIfInBounds_toArray, List.set_cons_zero, List.set_cons_succ]
    refine wpAnyH_take (i := 7) (v := ?v103) rfl (by kernel_rfl) (by kernel_rfl) (by kernel_rfl) (fun _ _ _ h => h) (Or.inl ⟨by rfl, ?hy103⟩) (by assumption) ?rest103
    case hy103 => (intro w hSw; (try dsimp only at hSw); go_simp <;> with_reducible rfl)
    try simp only [Act.put, List.getElem_toArray, List.getElem_cons_zero, List.getElem_cons_succ, List.setIfInBounds_toArray, List.set_cons_zero, List.set_cons_succ]
    refine wpAnyH_take (i := 8) (v := ?v104) rfl (by kernel_rfl) (by kernel_rfl) (by kernel_rfl) (fun _ _ _ h => h) (Or.inl ⟨by rfl, ?hy104⟩) (by assumption) ?rest104
    case hy104 => (intro w hSw; (try dsimp only at hSw); go_simp <;> with_reducible rfl)
    try simp only [Act.put, List.getElem_toArray, List.getElem_cons_zero, List.getElem_cons_succ, List.setIfInBounds_toArray, List.set_cons_zero, List.set_cons_succ]
    refine wpAnyH_take (i := 9) (v := ?v105) rfl (by kernel_rfl) (by kernel_rfl) (by kernel_rfl) (fun _ _ _ h => h) (Or.inl ⟨by rfl, ?hy105⟩) (by assumption) ?rest105
    case hy105 => (intro w hSw; (try dsimp only at hSw); go_simp <;> with_reducible rfl)
    try simp only [Act.put, List.getElem_toArray, List.getElem_cons_zero, List.getElem_cons_succ, List.setIfInBounds_toArray, List.set_cons_zero, List.set_cons_succ]
    refine wpAnyH_take (i := 10) (v := ?v106) rfl (by kernel_rfl) (by kernel_rfl) (by kernel_rfl) (fun _ _ _ h => h) (Or.inl ⟨by rfl, ?hy106⟩) (by assumption) ?rest106
    case hy106 => (intro w hSw; (try dsimp only at hSw); go_simp <;> with_reducible rfl)
    try simp only [Act.put, List.getElem_toArray, List.getElem_cons_zero, List.getElem_cons_succ, List.setIfInBounds_toArray, List.set_cons_zero, List.set_cons_succ]
    refine wpAnyH_take (i := 11) (v := ?v107) rfl (by kernel_rfl) (by kernel_rfl) (by kernel_rfl) (fun _ _ _ h => h) (Or.inl ⟨by rfl, ?hy107⟩) (by assumption) ?rest107
    case hy107 => (intro w hSw; (try dsimp only at hSw); go_simp <;> with_reducible rfl)
    try simp only [Act.put, List.getElem_toArray, List.getElem_cons_zero, List.getElem_cons_succ, List.setIfInBounds_toArray, List.set_cons_zero, List.set_cons_succ]
    refine wpAnyH_take (i := 12) (v := ?v108) rfl (by kernel_rfl) (by kernel_rfl) (by kernel_rfl) (fun _ _ _ h => h) (Or.inl ⟨by rfl, ?hy108⟩) (by assumption) ?rest108
    case hy108 => (intro w hSw; (try dsimp only at hSw); go_simp <;> with_reducible rfl)
    try simp only [Act.put, List.getElem_toArray, List.getElem_cons_zero, List.getElem_cons_succ, List.setIfInBounds_toArray, List.set_cons_zero, List.set_cons_succ]
    refine wpAnyH_ready (rs := [13]) (by kernel_rfl) (by simp) ?_
    refine AllReadyH.cons rfl (fun K hK => ?_) AllReadyH.nil
    go_simp
    refine (CM.out _ H.out.b).mono ?_
    rintro e w9 ⟨rfl, hw⟩
    obtain rfl := hw.symm
    clear hw
    go_wp2_with fail
    refine hK.out _ _ (by exact S1) (fun hHeld => ?_)
    clear hK K
    try simp only [Act.put, List.getElem_toArray, List.getElem_cons_zero, List.getElem_cons_succ, List.setIfInBounds_toArray, List.set_cons_zero, List.set_cons_succ]
    refine wpAnyH_take (i := 14) (v := ?v109) rfl (by kernel_rfl) (by kernel_rfl) (by kernel_rfl) (fun _ _ _ h => h) (Or.inl ⟨by rfl, ?hy109⟩) (by assumption) ?rest109
    case hy109 => (intro w hSw; (try dsimp only at hSw); go_simp <;> with_reducible rfl)
    try simp only [Act.put, List.getElem_toArray, List.getElem_cons_zero, List.getElem_cons_succ, List.setIfInBounds_toArray, List.set_cons_zero, List.set_cons_succ]
    refine wpAnyH_take (i := 15) (v := ?v110) rfl (by kernel_rfl) (by kernel_rfl) (by kernel_rfl) (fun _ _ _ h => h) (Or.inl ⟨by rfl, ?hy110⟩) (by assumption) ?rest110
    case hy110 => (intro w hSw; (try dsimp only at hSw); go_simp <;> with_reducible rfl)
    try simp only [Act.put, List.getElem_toArray, List.getElem_cons_zero, List.getElem_cons_succ, List.setIfInBounds_toArray, List.set_cons_zero, List.set_cons_succ]
    refine wpAnyH_ready (rs := [16]) (by kernel_rfl) (by simp) ?_
    refine AllReadyH.cons rfl (fun K hK => ?_) AllReadyH.nil
    go_simp
    refine (TN.out _ _ H.out B.out D.out _ _ (by decide)).mono ?_
    rintro y w1 ⟨rfl, hk, hb, hd⟩
    have H := hide hk
    have B := hide hb
    have D := hide hd
    obtain ⟨c0, c1, c2, c3, c4⟩ := PG.out _ hb
    obtain ⟨d0, d1, d2, d3⟩ := PI.out _ hd
    clear hk hb hd
    have S1 := And.intro (PG.out _ B.out).2.2.1 (And.intro (PI.out _ D.out).1 (HR.out _ H.out.b))
    go_wp2_with fail
    refine hK.out _ _ (by exact S1) (fun hHeld => ?_)
    clear hK K
    try simp only [Act.put, List.getElem_toArray, List.getElem_cons_zero, List.getElem_cons_succ, List.setIfInBounds_toArray, List.set_cons_zero, List.set_cons_succ]
    refine wpAnyH_done (by kernel_rfl) ?_ _
    clear S1
    go_wp2_with (first | (go_at_call 140; refine (TN.out _ _ H.out B.out D.out _ _ (by decide)).mono ?_; rintro y w1 ⟨rfl, hk, hb, hd⟩; have H := hide hk; have B := hide hb; have D := hide hd; obtain ⟨c0, c1, c2, c3, c4⟩ := PG.out _ hb; obtain ⟨d0, d1, d2, d3⟩ := PI.out _ hd; clear hk hb hd) | (go_at_call 121; refine (isNumber_any _ _).mono ?_; rintro y w1 ⟨rfl, hww⟩; obtain rfl := hww.symm) | (go_at_call 144; refine (CV.out _ _ H.out).mono ?_; rintro y w1 ⟨rfl, hk, _⟩; have H := hide hk))
    all_goals ((first | go_end0 | refine bodyPost_ret (results_none rfl _ _ _) rfl ?_); refine ⟨rfl, (congrArg (Kt w0 kb _) (leaf_fin e (j + 1) (Iv.it ⟨aK, cK, key, aV, cV, val, child, size⟩) yk _ _ ?_ ?_)).mp H.out⟩ <;> clear H B D TN PG PI HI HL CV)
    all_goals (have HZ := HZ.out; simp [Iv.it, HZ]; try grind)
end Go.Proofs.YtbhigodjbfoeoaaGreat
namespace Go.Proofs.YtbhigodjbfoeoaaGreat
open Go.RowKit
set_option maxRecDepth 8000 in
set_option maxHeartbeats 3200000 in
theorem checkItem_i0 (w0 w : World) (kb e i : Nat) (p : Pv) (h : Kt w0 kb w e) (hP : Pi w0 p) (hi : i < p.items.length) (hk : p.kind = 2) (h0 : i = 0) : Calls Tryz.prog 120 #[p.vl, .int .i64 (i : Int), tv kb] w fun x w' => x = .returned (.tuple #[]) ∧ Kt w0 kb w' (els e (p.pg.itemE i)) := by
  have hne := box_ne h
  have hlt := h.c.lt
  have hne2 : w.heap.size + 1 ≠ kb := by omega
  have hPa := Pv.at p i
  have hPb := Pv.at p (i - 1)
  obtain ⟨bI, off, hbo, hr⟩ := (hP.it.keep (bt h.b (al w (.cells p.cs 93)))).at hi
  have HI := hide (hP.it.1 _ (getD_memR hi))
  obtain ⟨k0, k1, k2, k3⟩ := range4 hr
  rw [itmE_eq, hPa, hPb]
  clear hPa hPb
  generalize hx : p.items.getD i Iv.zero = x at *
  generalize hy : p.items.getD (i - 1) Iv.zero = y at *
  have H := hide ((h.keep (al w (.cells p.cs 93))).keep (al _ (.cells x.cs 34)))
  have B := hide ((Bx.new w 93 p.cs).keep (al _ (.cells x.cs 34)))
  have D := hide (item_new w p.cs x.cs)
  have TN := hide fun (w1 : World) (e : Nat) (hk : Kt w0 kb w1 e) (hB : Bx w1 93 w.heap.size p.cs) (hD : Bx w1 34 (w.heap.size + 1) x.cs) (wrong : Bool) (xi : Int) (hx : 0 ≤ xi) => tell2 w0 w1 kb e w.heap.size (w.heap.size + 1) p.cs x.cs hk hB hD hne hne2 wrong xi hx
  have CV := hide fun (w1 : World) (e : Nat) (hk : Kt w0 kb w1 e) => checkValue_any w0 w1 kb e x hk
  have PG := hide fun (w1 : World) (hB : Bx w1 93 w.heap.size p.cs) => Bx.page hB
  have PI := hide fun (w1 : World) (hB : Bx w1 34 (w.heap.size + 1) x.cs) => Bx.item hB
  have HL := hide hP.ci
  have HLN := hide hP.it.2.1
  clear h hr hP hx hy
  obtain ⟨kind, level, aI, cI, items, aD, cD, data, next⟩ := p
  obtain ⟨aK, cK, key, aV, cV, val, child, size⟩ := x
  unfold Pv.vl tv
  simp only [Pv.cs, Iv.cs, Iv.vl, tv] at *
  subst hbo hk
  subst h0
  have hiI : (0 : Int) < (items.length : Int) := by omega
  simp only [Nat.zero_mul, Nat.add_zero] at k0 k1 k2 k3
  generalize y.key = yk at *
  clear CV
  generalize hvn : val.length = vn at *
  have HVN := hide hvn
  clear hvn
  by_cases hv0 : vn = 0
  · subst hv0
    go_enter Tryz.func120, Tryz.ntmps120
    go_wp2_with (first | (go_at_call 140; refine (TN.out _ _ H.out B.out D.out _ _ (by decide)).mono ?_; rintro y w1 ⟨rfl, hk, hb, hd⟩; have H := hide hk; have B := hide hb; have D := hide hd; obtain ⟨c0, c1, c2, c3, c4⟩ := PG.out _ hb; obtain ⟨d0, d1, d2, d3⟩ := PI.out _ hd; clear hk hb hd) | (go_at_call 121; refine (isNumber_any _ _).mono ?_; rintro y w1 ⟨rfl, hww⟩; obtain rfl := hww.symm) | (go_at_call 144; refine (CV.out _ _ H.out).mono ?_; rintro y w1 ⟨rfl, hk, _⟩; have H := hide hk))
    have H := hide (H.out.keep (dr1 _))
    have B := hide (B.out.keep (dr1 _))
    have D := hide (D.out.keep (dr1 _))
    have S1 : True := trivial
    refine wp_region_held_drew (S := fun w' => True) (by kernel_rfl) (by exact S1) (fun hHeld => ?_)
    refine wpAnyH_take (i := 0) (v := ?v1) rfl (by kernel_rfl) (by kernel_rfl) (by kernel_rfl) (fun _ _ _ h => h) (Or.inl ⟨by rfl, ?hy1⟩) (by assumption) ?rest1
    case hy1 => (intro w hSw; (try dsimp only at hSw); go_simp <;> with_reducible rfl)
    try simp only [Act.put, List.getElem_toArray, List.getElem_cons_zero, List.setIfInBounds_toArray, List.set_cons_zero, List.set_cons_succ]
    refine wpAnyH_take (i := 1) (v := ?v2) rfl (by kernel_rfl) (by kernel_rfl) (by kernel_rfl) (fun _ _ _ h => h) (Or.inl ⟨by rfl, ?hy2⟩) (by assumption) ?rest2
    case hy2 => (intro w hSw; (try dsimp only at hSw); go_simp <;> with_reducible rfl)
    try simp only [Act.put, List.getElem_toArray, List.getElem_cons_zero, List.getElem_cons_succ, List.setIfInBounds_toArray, List.set_cons_zero, List.set_cons_succ]
    refine wpAnyH_take (i := 2) (v := ?v3) rfl (by kernel_rfl) (by kernel_rfl) (by kernel_rfl) (fun _ _ _ h => h) (Or.inl ⟨by rfl, ?hy3⟩) (by assumption) ?rest3
    case hy3 => (intro w hSw; (try dsimp only at hSw); go_simp <;> with_reducible rfl)
    try simp only [Act.put, List.getElem_toArray, List.getElem_cons_zero, List.getElem_cons_succ, List.setIfInBounds_toArray, List.set_cons_zero, List.set_cons_succ]
    refine wpAnyH_take (i := 3) (v := ?v4) rfl (by kernel_rfl) (by kernel_rfl) (by kernel_rfl) (fun _ _ _ h => h) (Or.inl ⟨by rfl, ?hy4⟩) (by assumption) ?rest4
    case hy4 => (intro w hSw; (try dsimp only at hSw); go_simp <;> with_reducible rfl)
    try simp only [Act.put, List.getElem_toArray, List.getElem_cons_zero, List.getElem_cons_succ, List.setIfInBounds_toArray, List.set_cons_zero, List.set_cons_succ]
    refine wpAnyH_take (i := 4) (v := undef) rfl (by kernel_rfl) (by kernel_rfl) (by kernel_rfl) (fun _ _ _ h => h) (Or.inr ⟨by rfl, rfl⟩) (by assumption) ?_
    try simp only [Act.put, List.getElem_toArray, List.getElem_cons_zero, List.getElem_cons_succ, List.setIfInBounds_toArray, List.set_cons_zero, List.set_cons_succ]
    refine wpAnyH_take (i := 5) (v := undef) rfl (by kernel_rfl) (by kernel_rfl) (by kernel_rfl) (fun _ _ _ h => h) (Or.inr ⟨by rfl, rfl⟩) (by assumption) ?_
    try simp only [Act.put, List.getElem_toArray, List.getElem_cons_zero, List.getElem_cons_succ, List.setIfInBounds_toArray, List.set_cons_zero, List.set_cons_succ]
    refine wpAnyH_take (i := 6) (v := undef) rfl (by kernel_rfl) (by kernel_rfl) (by kernel_rfl) (fun _ _ _ h => h) (Or.inr ⟨by rfl, rfl⟩) (by assumption) ?_
    try simp only [Act.put, List.getElem_toArray, List.getElem_cons_zero, List.getElem_cons_succ, List.setIfInBounds_toArray, List.set_cons_zero, List.set_cons_succ]
    refine wpAnyH_take (i := 7) (v := undef) rfl (by kernel_rfl) (by kernel_rfl) (by kernel_rfl) (fun _ _ _ h => h) (Or.inr ⟨by rfl, rfl⟩) (by assumption) ?_
    try simp only [Act.put, List.getElem_toArray, List.getElem_cons_zero, List.getElem_cons_succ, List.setIfInBounds_toArray, List.set_cons_zero, List.set_cons_succ]
    refine wpAnyH_take (i := 8) (v := undef) rfl (by kernel_rfl) (by kernel_rfl) (by kernel_rfl) (fun _ _ _ h => h) (Or.inr ⟨by rfl, rfl⟩) (by assumption) ?_
    try simp only [Act.put, List.getElem_toArray, List.getElem_cons_zero, List.getElem_cons_succ, List.setIfInBounds_toArray, List.set_cons_zero, List.set_cons_succ]
    refine wpAnyH_take (i := 9) (v := undef) rfl (by kernel_rfl) (by kernel_rfl) (by kernel_rfl) (fun _ _ _ h => h) (Or.inr ⟨by rfl, rfl⟩) (by assumption) ?_
    try simp only [Act.put, List.getElem_toArray, List.getElem_cons_zero, List.getElem_cons_succ, List.setIfInBounds_toArray, List.set_cons_zero, List.set_cons_succ]
    refine wpAnyH_take (i := 10) (v := undef) rfl (by kernel_rfl) (by kernel_rfl) (by kernel_rfl) (fun _ _ _ h => h) (Or.inr ⟨by rfl, rfl⟩) (by assumption) ?_
    try simp only [Act.put, List.getElem_toArray, List.getElem_cons_zero, List.getElem_cons_succ, List.setIfInBounds_toArray, List.set_cons_zero, List.set_cons_succ]
    refine wpAnyH_take (i := 11) (v := undef) rfl (by kernel_rfl) (by kernel_rfl) (by kernel_rfl) (fun _ _ _ h => h) (Or.inr ⟨by rfl, rfl⟩) (by assumption) ?_
    try simp only [Act.put, List.getElem_toArray, List.getElem_cons_zero, List.getElem_cons_succ, List.setIfInBounds_toArray, List.set_cons_zero, List.set_cons_succ]
    refine wpAnyH_take (i := 12) (v := undef) rfl (by kernel_rfl) (by kernel_rfl) (by kernel_rfl) (fun _ _ _ h => h) (Or.inr ⟨by rfl, rfl⟩) (by assumption) ?_
    try simp only [Act.put, List.getElem_toArray, List.getElem_cons_zero, List.getElem_cons_succ, List.setIfInBounds_toArray, List.set_cons_zero, List.set_cons_succ]
    refine wpAnyH_take (i := 13) (v := undef) rfl (by kernel_rfl) (by kernel_rfl) (by kernel_rfl) (fun _ _ _ h => h) (Or.inr ⟨by rfl, rfl⟩) (by assumption) ?_
    try simp only [Act.put, List.getElem_toArray, List.getElem_cons_zero, List.getElem_cons_succ, List.setIfInBounds_toArray, List.set_cons_zero, List.set_cons_succ]
    refine wpAnyH_take (i := 14) (v := undef) rfl (by kernel_rfl) (by kernel_rfl) (by kernel_rfl) (fun _ _ _ h => h) (Or.inr ⟨by rfl, rfl⟩) (by assumption) ?_
    try simp only [Act.put, List.getElem_toArray, List.getElem_cons_zero, List.getElem_cons_succ, List.setIfInBounds_toArray, List.set_cons_zero, List.set_cons_succ]
    refine wpAnyH_take (i := 15) (v := ?v5) rfl (by kernel_rfl) (by kernel_rfl) (by kernel_rfl) (fun _ _ _ h => h) (Or.inl ⟨by rfl, ?hy5⟩) (by assumption) ?rest5
    case hy5 => (intro w hSw; (try dsimp only at hSw); go_simp <;> with_reducible rfl)
    try simp only [Act.put, List.getElem_toArray, List.getElem_cons_zero, List.getElem_cons_succ, List.setIfInBounds_toArray, List.set_cons_zero, List.set_cons_succ]
    refine wpAnyH_ready (rs := [16]) (by kernel_rfl) (by simp) ?_
    refine AllReadyH.cons rfl (fun K hK => ?_) AllReadyH.nil
    go_simp
    refine (TN.out _ _ H.out B.out D.out _ _ (by decide)).mono ?_
    rintro y w1 ⟨rfl, hk, hb, hd⟩
    have H := hide hk
    have B := hide hb
    have D := hide hd
    obtain ⟨c0, c1, c2, c3, c4⟩ := PG.out _ hb
    obtain ⟨d0, d1, d2, d3⟩ := PI.out _ hd
    clear hk hb hd
    go_wp2_with fail
    refine hK.out _ _ (by exact S1) (fun hHeld => ?_)
    clear hK K
    try simp only [Act.put, List.getElem_toArray, List.getElem_cons_zero, List.getElem_cons_succ, List.setIfInBounds_toArray, List.set_cons_zero, List.set_cons_succ]
    refine wpAnyH_done (by kernel_rfl) ?_ _
    clear S1
    go_wp2_with (first | (go_at_call 140; refine (TN.out _ _ H.out B.out D.out _ _ (by decide)).mono ?_; rintro y w1 ⟨rfl, hk, hb, hd⟩; have H := hide hk; have B := hide hb; have D := hide hd; obtain ⟨c0, c1, c2, c3, c4⟩ := PG.out _ hb; obtain ⟨d0, d1, d2, d3⟩ := PI.out _ hd; clear hk hb hd) | (go_at_call 121; refine (isNumber_any _ _).mono ?_; rintro y w1 ⟨rfl, hww⟩; obtain rfl := hww.symm) | (go_at_call 144; refine (CV.out _ _ H.out).mono ?_; rintro y w1 ⟨rfl, hk, _⟩; have H := hide hk))
    all_goals ((first | go_end0 | refine bodyPost_ret (results_none rfl _ _ _) rfl ?_); have HV := HVN.out; refine ⟨rfl, (congrArg (Kt w0 kb _) (idx_fin e 0 (Iv.it ⟨aK, cK, key, aV, cV, val, child, size⟩) yk _ _ _ _ ?_ ?_ ?_ ?_)).mp H.out⟩ <;> clear H B D TN PG PI HI HL <;> have hkl : (0 < key.length) = ¬ key = [] := (by rw [List.length_pos_iff]))
    all_goals (simp [Iv.it]; try grind)
  · have hvd : decide ((0 : Int) < (vn : Int)) = true := by simp; omega
    go_enter Tryz.func120, Tryz.ntmps120
    go_wp2_with (first | (go_at_call 140; refine (TN.out _ _ H.out B.out D.out _ _ (by decide)).mono ?_; rintro y w1 ⟨rfl, hk, hb, hd⟩; have H := hide hk; have B := hide hb; have D := hide hd; obtain ⟨c0, c1, c2, c3, c4⟩ := PG.out _ hb; obtain ⟨d0, d1, d2, d3⟩ := PI.out _ hd; clear hk hb hd) | (go_at_call 121; refine (isNumber_any _ _).mono ?_; rintro y w1 ⟨rfl, hww⟩; obtain rfl := hww.symm) | (go_at_call 144; refine (CV.out _ _ H.out).mono ?_; rintro y w1 ⟨rfl, hk, _⟩; have H := hide hk))
    have H := hide (H.out.keep (dr1 _))
    have B := hide (B.out.keep (dr1 _))
    have D := hide (D.out.keep (dr1 _))
    have S1 : True := trivial
    refine wp_region_held_drew (S := fun w' => True) (by kernel_rfl) (by exact S1) (fun hHeld => ?_)
    refine wpAnyH_take (i := 0) (v := ?v6) rfl (by kernel_rfl) (by kernel_rfl) (by kernel_rfl) (fun _ _ _ h => h) (Or.inl ⟨by rfl, ?hy6⟩) (by assumption) ?rest6
    case hy6 => (intro w hSw; (try dsimp only at hSw); go_simp <;> with_reducible rfl)
    try simp only [Act.put, List.getElem_toArray, List.getElem_cons_zero, List.setIfInBounds_toArray, List.set_cons_zero, List.set_cons_succ]
    refine wpAnyH_take (i := 1) (v := ?v7) rfl (by kernel_rfl) (by kernel_rfl) (by kernel_rfl) (fun _ _ _ h => h) (Or.inl ⟨by rfl, ?hy7⟩) (by assumption) ?rest7
    case hy7 => (intro w hSw; (try dsimp only at hSw); go_simp <;> with_reducible rfl)
    try simp only [Act.put, List.getElem_toArray, List.getElem_cons_zero, List.getElem_cons_succ, List.setIfInBounds_toArray, List.set_cons_zero, List.set_cons_succ]
    refine wpAnyH_take (i := 2) (v := ?v8) rfl (by kernel_rfl) (by kernel_rfl) (by kernel_rfl) (fun _ _ _ h => h) (Or.inl ⟨by rfl, ?hy8⟩) (by assumption) ?rest8
    case hy8 => (intro w hSw; (try dsimp only at hSw); go_simp <;> with_reducible rfl)
    try simp only [Act.put, List.getElem_toArray, List.getElem_cons_zero, List.getElem_cons_succ, List.setIfInBounds_toArray, List.set_cons_zero, List.set_cons_succ]
    refine wpAnyH_take (i := 3) (v := ?v9) rfl (by kernel_rfl) (by kernel_rfl) (by kernel_rfl) (fun _ _ _ h => h) (Or.inl ⟨by rfl, ?hy9⟩) (by assumption) ?rest9
    case hy9 => (intro w hSw; (try dsimp only at hSw); go_simp <;> with_reducible rfl)
    try simp only [Act.put, List.getElem_toArray, List.getElem_cons_zero, List.getElem_cons_succ, List.setIfInBounds_toArray, List.set_cons_zero, List.set_cons_succ]
    refine wpAnyH_take (i := 4) (v := undef) rfl (by kernel_rfl) (by kernel_rfl) (by kernel_rfl) (fun _ _ _ h => h) (Or.inr ⟨by rfl, rfl⟩) (by assumption) ?_
    try simp only [Act.put, List.getElem_toArray, List.getElem_cons_zero, List.getElem_cons_succ, List.setIfInBounds_toArray, List.set_cons_zero, List.set_cons_succ]
    refine wpAnyH_take (i := 5) (v := undef) rfl (by kernel_rfl) (by kernel_rfl) (by kernel_rfl) (fun _ _ _ h => h) (Or.inr ⟨by rfl, rfl⟩) (by assumption) ?_
    try simp only [Act.put, List.getElem_toArray, List.getElem_cons_zero, List.getElem_cons_succ, List.setIfInBounds_toArray, List.set_cons_zero, List.set_cons_succ]
    refine wpAnyH_take (i := 6) (v := undef) rfl (by kernel_rfl) (by kernel_rfl) (by kernel_rfl) (fun _ _ _ h => h) (Or.inr ⟨by rfl, rfl⟩) (by assumption) ?_
    try simp only [Act.put, List.getElem_toArray, List.getElem_cons_zero, List.getElem_cons_succ, List.setIfInBounds_toArray, List.set_cons_zero, List.set_cons_succ]
    refine wpAnyH_take (i := 7) (v := undef) rfl (by kernel_rfl) (by kernel_rfl) (by kernel_rfl) (fun _ _ _ h => h) (Or.inr ⟨by rfl, rfl⟩) (by assumption) ?_
    try simp only [Act.put, List.getElem_toArray, List.getElem_cons_zero, List.getElem_cons_succ, List.setIfInBounds_toArray, List.set_cons_zero, List.set_cons_succ]
    refine wpAnyH_take (i := 8) (v := undef) rfl (by kernel_rfl) (by kernel_rfl) (by kernel_rfl) (fun _ _ _ h => h) (Or.inr ⟨by rfl, rfl⟩) (by assumption) ?_
    try simp only [Act.put, List.getElem_toArray, List.getElem_cons_zero, List.getElem_cons_succ, List.setIfInBounds_toArray, List.set_cons_zero, List.set_cons_succ]
    refine wpAnyH_take (i := 9) (v := undef) rfl (by kernel_rfl) (by kernel_rfl) (by kernel_rfl) (fun _ _ _ h => h) (Or.inr ⟨by rfl, rfl⟩) (by assumption) ?_
    try simp only [Act.put, List.getElem_toArray, List.getElem_cons_zero, List.getElem_cons_succ, List.setIfInBounds_toArray, List.set_cons_zero, List.set_cons_succ]
    refine wpAnyH_take (i := 10) (v := undef) rfl (by kernel_rfl) (by kernel_rfl) (by kernel_rfl) (fun _ _ _ h => h) (Or.inr ⟨by rfl, rfl⟩) (by assumption) ?_
    try simp only [Act.put, List.getElem_toArray, List.getElem_cons_zero, List.getElem_cons_succ, List.setIfInBounds_toArray, List.set_cons_zero, List.set_cons_succ]
    refine wpAnyH_take (i := 11) (v := undef) rfl (by kernel_rfl) (by kernel_rfl) (by kernel_rfl) (fun _ _ _ h => h) (Or.inr ⟨by rfl, rfl⟩) (by assumption) ?_
    try simp only [Act.put, List.getElem_toArray, List.getElem_cons_zero, List.getElem_cons_succ, List.setIfInBounds_toArray, List.set_cons_zero, List.set_cons_succ]
    refine wpAnyH_take (i := 12) (v := undef) rfl (by kernel_rfl) (by kernel_rfl) (by kernel_rfl) (fun _ _ _ h => h) (Or.inr ⟨by rfl, rfl⟩) (by assumption) ?_
    try simp only [Act.put, List.getElem_toArray, List.getElem_cons_zero, List.getElem_cons_succ, List.setIfInBounds_toArray, List.set_cons_zero, List.set_cons_succ]
    refine wpAnyH_take (i := 13) (v := undef) rfl (by kernel_rfl) (by kernel_rfl) (by kernel_rfl) (fun _ _ _ h => h) (Or.inr ⟨by rfl, rfl⟩) (by assumption) ?_
    try simp only [Act.put, List.getElem_toArray, List.getElem_cons_zero, List.getElem_cons_succ, List.setIfInBounds_toArray, List.set_cons_zero, List.set_cons_succ]
    refine wpAnyH_take (i := 14) (v := undef) rfl (by kernel_rfl) (by kernel_rfl) (by kernel_rfl) (fun _ _ _ h => h) (Or.inr ⟨by rfl, rfl⟩) (by assumption) ?_
    try simp only [Act.put, List.getElem_toArray, List.getElem_cons_zero, List.getElem_cons_succ, List.setIfInBounds_toArray, List.set_cons_zero, List.set_cons_succ]
    refine wpAnyH_take (i := 15) (v := ?v10) rfl (by kernel_rfl) (by kernel_rfl) (by kernel_rfl) (fun _ _ _ h => h) (Or.inl ⟨by rfl, ?hy10⟩) (by assumption) ?rest10
    case hy10 => (intro w hSw; (try dsimp only at hSw); go_simp <;> with_reducible rfl)
    try simp only [Act.put, List.getElem_toArray, List.getElem_cons_zero, List.getElem_cons_succ, List.setIfInBounds_toArray, List.set_cons_zero, List.set_cons_succ]
    refine wpAnyH_ready (rs := [16]) (by kernel_rfl) (by simp) ?_
    refine AllReadyH.cons rfl (fun K hK => ?_) AllReadyH.nil
    go_simp
    refine (TN.out _ _ H.out B.out D.out _ _ (by decide)).mono ?_
    rintro y w1 ⟨rfl, hk, hb, hd⟩
    have H := hide hk
    have B := hide hb
    have D := hide hd
    obtain ⟨c0, c1, c2, c3, c4⟩ := PG.out _ hb
    obtain ⟨d0, d1, d2, d3⟩ := PI.out _ hd
    clear hk hb hd
    go_wp2_with fail
    refine hK.out _ _ (by exact S1) (fun hHeld => ?_)
    clear hK K
    try simp only [Act.put, List.getElem_toArray, List.getElem_cons_zero, List.getElem_cons_succ, List.setIfInBounds_toArray, List.set_cons_zero, List.set_cons_succ]
    refine wpAnyH_done (by kernel_rfl) ?_ _
    clear S1
    go_wp2_with (first | (go_at_call 140; refine (TN.out _ _ H.out B.out D.out _ _ (by decide)).mono ?_; rintro y w1 ⟨rfl, hk, hb, hd⟩; have H := hide hk; have B := hide hb; have D := hide hd; obtain ⟨c0, c1, c2, c3, c4⟩ := PG.out _ hb; obtain ⟨d0, d1, d2, d3⟩ := PI.out _ hd; clear hk hb hd) | (go_at_call 121; refine (isNumber_any _ _).mono ?_; rintro y w1 ⟨rfl, hww⟩; obtain rfl := hww.symm) | (go_at_call 144; refine (CV.out _ _ H.out).mono ?_; rintro y w1 ⟨rfl, hk, _⟩; have H := hide hk))
    all_goals ((first | go_end0 | refine bodyPost_ret (results_none rfl _ _ _) rfl ?_); have HV := HVN.out; refine ⟨rfl, (congrArg (Kt w0 kb _) (idx_fin e 0 (Iv.it ⟨aK, cK, key, aV, cV, val, child, size⟩) yk _ _ _ _ ?_ ?_ ?_ ?_)).mp H.out⟩ <;> clear H B D TN PG PI HI HL <;> have hkl : (0 < key.length) = ¬ key = [] := (by rw [List.length_pos_iff]))
    all_goals (simp [Iv.it]; try grind)
end Go.Proofs.YtbhigodjbfoeoaaGreat
namespace Go.Proofs.YtbhigodjbfoeoaaGreat
open Go.RowKit
set_option maxRecDepth 8000 in
set_option maxHeartbeats 3200000 in
theorem checkItem_iN (w0 w : World) (kb e i : Nat) (p : Pv) (h : Kt w0 kb w e) (hP : Pi w0 p) (hi : i < p.items.length) (hk : p.kind = 2) (h0 : i ≠ 0) : Calls Tryz.prog 120 #[p.vl, .int .i64 (i : Int), tv kb] w fun x w' => x = .returned (.tuple #[]) ∧ Kt w0 kb w' (els e (p.pg.itemE i)) := by
  have hne := box_ne h
  have hlt := h.c.lt
  have hne2 : w.heap.size + 1 ≠ kb := by omega
  have hPa := Pv.at p i
  have hPb := Pv.at p (i - 1)
  obtain ⟨bI, off, hbo, hr⟩ := (hP.it.keep (bt h.b (al w (.cells p.cs 93)))).at hi
  have hi' : i - 1 < p.items.length := by omega
  have HJ := hide (hP.it.1 _ (getD_memR hi'))
  have HR := hide fun (w1 : World) (hb : Below w0.heap.size w0 w1) => (show w1.cell? ⟨bI, off + (i - 1) * 4, none⟩ = some (.slice (p.items.getD (i - 1) Iv.zero).aK (p.items.getD (i - 1) Iv.zero).key.length (p.items.getD (i - 1) Iv.zero).cK) from by obtain ⟨b2, o2, e2, r2⟩ := (hP.it.keep hb).at hi'; rw [hbo] at e2; simp only [Option.some.injEq, Addr.mk.injEq, and_true] at e2; obtain ⟨rfl, rfl⟩ := e2; exact (range4 r2).1)
  have HI := hide (hP.it.1 _ (getD_memR hi))
  obtain ⟨k0, k1, k2, k3⟩ := range4 hr
  rw [itmE_eq, hPa, hPb]
  clear hPa hPb
  generalize hx : p.items.getD i Iv.zero = x at *
  generalize hy : p.items.getD (i - 1) Iv.zero = y at *
  have CM := hide fun (w1 : World) (hb : Below w0.heap.size w0 w1) => bCompare_any w1 y.aK x.aK y.key.length y.cK x.key.length x.cK y.key x.key (HJ.out.bk.keep hb) (HI.out.bk.keep hb) rfl rfl
  have H := hide ((h.keep (al w (.cells p.cs 93))).keep (al _ (.cells x.cs 34)))
  have B := hide ((Bx.new w 93 p.cs).keep (al _ (.cells x.cs 34)))
  have D := hide (item_new w p.cs x.cs)
  have TN := hide fun (w1 : World) (e : Nat) (hk : Kt w0 kb w1 e) (hB : Bx w1 93 w.heap.size p.cs) (hD : Bx w1 34 (w.heap.size + 1) x.cs) (wrong : Bool) (xi : Int) (hx : 0 ≤ xi) => tell2 w0 w1 kb e w.heap.size (w.heap.size + 1) p.cs x.cs hk hB hD hne hne2 wrong xi hx
  have CV := hide fun (w1 : World) (e : Nat) (hk : Kt w0 kb w1 e) => checkValue_any w0 w1 kb e x hk
  have PG := hide fun (w1 : World) (hB : Bx w1 93 w.heap.size p.cs) => Bx.page hB
  have PI := hide fun (w1 : World) (hB : Bx w1 34 (w.heap.size + 1) x.cs) => Bx.item hB
  have HL := hide hP.ci
  have HLN := hide hP.it.2.1
  clear h hr hP hx hy
  obtain ⟨kind, level, aI, cI, items, aD, cD, data, next⟩ := p
  obtain ⟨aK, cK, key, aV, cV, val, child, size⟩ := x
  unfold Pv.vl tv
  simp only [Pv.cs, Iv.cs, Iv.vl, tv] at *
  subst hbo hk
  have hiI : (i : Int) < (items.length : Int) := by omega
  have hip : decide ((0 : Int) < (i : Int)) = true := by simp; omega
  have hi0 : ((i : Int) == 0) = false := by simpa using h0
  have hwj : IntKind.i64.wrap ((i : Int) - 1) = ((i - 1 : Nat) : Int) := by have := HLN.out; rw [wrapI (by omega) (by omega)]; omega
  obtain ⟨j, rfl⟩ : ∃ j, i = j + 1 := ⟨i - 1, by omega⟩
  rw [show j + 1 - 1 = j by omega] at HR hwj
  rw [show ((j + 1 : Nat) : Int) - 1 = (j : Int) by omega] at hwj
  have hiJ : (j : Int) < (items.length : Int) := by omega
  obtain ⟨yaK, ycK, yk, yaV, ycV, yval, ychild, ysize⟩ := y
  dsimp only at HR CM ⊢
  generalize hz : cmpB yk key = z at *
  have HZ := hide hz
  clear hz
  clear CV
  generalize hvn : val.length = vn at *
  have HVN := hide hvn
  clear hvn
  cases hkd : decide (((key.length : Nat) : Int) < 1)
  · skip
    by_cases hv0 : vn = 0
    · subst hv0
      go_enter Tryz.func120, Tryz.ntmps120
      go_wp2_with (first | (go_at_call 140; refine (TN.out _ _ H.out B.out D.out _ _ (by decide)).mono ?_; rintro y w1 ⟨rfl, hk, hb, hd⟩; have H := hide hk; have B := hide hb; have D := hide hd; obtain ⟨c0, c1, c2, c3, c4⟩ := PG.out _ hb; obtain ⟨d0, d1, d2, d3⟩ := PI.out _ hd; clear hk hb hd) | (go_at_call 121; refine (isNumber_any _ _).mono ?_; rintro y w1 ⟨rfl, hww⟩; obtain rfl := hww.symm) | (go_at_call 144; refine (CV.out _ _ H.out).mono ?_; rintro y w1 ⟨rfl, hk, _⟩; have H := hide hk))
      have H := hide (H.out.keep (dr1 _))
      have B := hide (B.out.keep (dr1 _))
      have D := hide (D.out.keep (dr1 _))
      have S1 := And.intro (PG.out _ B.out).2.2.1 (And.intro (PI.out _ D.out).1 (HR.out _ H.out.b))
      refine wp_region_held_drew (S := fun w' => w'.cell? ⟨w.heap.size, 2, none⟩ = some (.slice (some ⟨bI, off, none⟩) items.length cI) ∧ w'.cell? ⟨w.heap.size + 1, 0, none⟩ = some (.slice aK key.length cK) ∧ w'.cell? ⟨bI, off + j * 4, none⟩ = some (.slice yaK yk.length ycK)) (by kernel_rfl) (by exact S1) (fun hHeld => ?_)
      refine wpAnyH_take (i := 0) (v := ?v11) rfl (by kernel_rfl) (by kernel_rfl) (by kernel_rfl) (fun _ _ _ h => h) (Or.inl ⟨by rfl, ?hy11⟩) (by assumption) ?rest11
      case hy11 => (intro w hSw; (try dsimp only at hSw); go_simp <;> with_reducible rfl)
      try simp only [Act.put, List.getElem_toArray, List.getElem_cons_zero, List.setIfInBounds_toArray, List.set_cons_zero, List.set_cons_succ]
      refine wpAnyH_take (i := 1) (v := ?v12) rfl (by kernel_rfl) (by kernel_rfl) (by kernel_rfl) (fun _ _ _ h => h) (Or.inl ⟨by rfl, ?hy12⟩) (by assumption) ?rest12
      case hy12 => (intro w hSw; (try dsimp only at hSw); go_simp <;> with_reducible rfl)
      try simp only [Act.put, List.getElem_toArray, List.getElem_cons_zero, List.getElem_cons_succ, List.setIfInBounds_toArray, List.set_cons_zero, List.set_cons_succ]
      refine wpAnyH_take (i := 2) (v := ?v13) rfl (by kernel_rfl) (by kernel_rfl) (by kernel_rfl) (fun _ _ _ h => h) (Or.inl ⟨by rfl, ?hy13⟩) (by assumption) ?rest13
      case hy13 => (intro w hSw; (try dsimp only at hSw); go_simp <;> with_reducible rfl)
      try simp only [Act.put, List.getElem_toArray, List.getElem_cons_zero, List.getElem_cons_succ, List.setIfInBounds_toArray, List.set_cons_zero, List.set_cons_succ]
      refine wpAnyH_take (i := 3) (v := ?v14) rfl (by kernel_rfl) (by kernel_rfl) (by kernel_rfl) (fun _ _ _ h => h) (Or.inl ⟨by rfl, ?hy14⟩) (by assumption) ?rest14
      case hy14 => (intro w hSw; (try dsimp only at hSw); go_simp <;> with_reducible rfl)
      try simp only [Act.put, List.getElem_toArray, List.getElem_cons_zero, List.getElem_cons_succ, List.setIfInBounds_toArray, List.set_cons_zero, List.set_cons_succ]
      refine wpAnyH_take (i := 4) (v := ?v15) rfl (by kernel_rfl) (by kernel_rfl) (by kernel_rfl) (fun _ _ _ h => h) (Or.inl ⟨by rfl, ?hy15⟩) (by assumption) ?rest15
      case hy15 => (intro w hSw; (try dsimp only at hSw); go_simp <;> with_reducible rfl)
      try simp only [Act.put, List.getElem_toArray, List.getElem_cons_zero, List.getElem_cons_succ, List.setIfInBounds_toArray, List.set_cons_zero, List.set_cons_succ]
      refine wpAnyH_take (i := 5) (v := ?v16) rfl (by kernel_rfl) (by kernel_rfl) (by kernel_rfl) (fun _ _ _ h => h) (Or.inl ⟨by rfl, ?hy16⟩) (by assumption) ?rest16
      case hy16 => (intro w hSw; (try dsimp only at hSw); go_simp <;> with_reducible rfl)
      try simp only [Act.put, List.getElem_toArray, List.getElem_cons_zero, List.getElem_cons_succ, List.setIfInBounds_toArray, List.set_cons_zero, List.set_cons_succ]
      refine wpAnyH_take (i := 6) (v := ?v17) rfl (by kernel_rfl) (by kernel_rfl) (by kernel_rfl) (fun _ _ _ h => h) (Or.inl ⟨by rfl, ?hy17⟩) (by assumption) ?rest17
      case hy17 => (intro w hSw; (try dsimp only at hSw); go_simp <;> with_reducible rfl)
      try simp only [Act.put, List.getElem_toArray, List.getElem_cons_zero, List.getElem_cons_succ, List.setIfInBounds_toArray, List.set_cons_zero, List.set_cons_succ]
      refine wpAnyH_take (i := 7) (v := ?v18) rfl (by kernel_rfl) (by kernel_rfl) (by kernel_rfl) (fun _ _ _ h => h) (Or.inl ⟨by rfl, ?hy18⟩) (by assumption) ?rest18
      case hy18 => (intro w hSw; (try dsimp only at hSw); go_simp <;> with_reducible rfl)
      try simp only [Act.put, List.getElem_toArray, List.getElem_cons_zero, List.getElem_cons_succ, List.setIfInBounds_toArray, List.set_cons_zero, List.set_cons_succ]
      refine wpAnyH_take (i := 8) (v := ?v19) rfl (by kernel_rfl) (by kernel_rfl) (by kernel_rfl) (fun _ _ _ h => h) (Or.inl ⟨by rfl, ?hy19⟩) (by assumption) ?rest19
      case hy19 => (intro w hSw; (try dsimp only at hSw); go_simp <;> with_reducible rfl)
      try simp only [Act.put, List.getElem_toArray, List.getElem_cons_zero, List.getElem_cons_succ, List.setIfInBounds_toArray, List.set_cons_zero, List.set_cons_succ]
      refine wpAnyH_take (i := 9) (v := ?v20) rfl (by kernel_rfl) (by kernel_rfl) (by kernel_rfl) (fun _ _ _ h => h) (Or.inl ⟨by rfl, ?hy20⟩) (by assumption) ?rest20
      case hy20 => (intro w hSw; (try dsimp only at hSw); go_simp <;> with_reducible rfl)
      try simp only [Act.put, List.getElem_toArray, List.getElem_cons_zero, List.getElem_cons_succ, List.setIfInBounds_toArray, List.set_cons_zero, List.set_cons_succ]
      refine wpAnyH_take (i := 10) (v := ?v21) rfl (by kernel_rfl) (by kernel_rfl) (by kernel_rfl) (fun _ _ _ h => h) (Or.inl ⟨by rfl, ?hy21⟩) (by assumption) ?rest21
      case hy21 => (intro w hSw; (try dsimp only at hSw); go_simp <;> with_reducible rfl)
      try simp only [Act.put, List.getElem_toArray, List.getElem_cons_zero, List.getElem_cons_succ, List.setIfInBounds_toArray, List.set_cons_zero, List.set_cons_succ]
      refine wpAnyH_take (i := 11) (v := ?v22) rfl (by kernel_rfl) (by kernel_rfl) (by kernel_rfl) (fun _ _ _ h => h) (Or.inl ⟨by rfl, ?hy22⟩) (by assumption) ?rest22
      case hy22 => (intro w hSw; (try dsimp only at hSw); go_simp <;> with_reducible rfl)
      try simp only [Act.put, List.getElem_toArray, List.getElem_cons_zero, List.getElem_cons_succ, List.setIfInBounds_toArray, List.set_cons_zero, List.set_cons_succ]
      refine wpAnyH_take (i := 12) (v := ?v23) rfl (by kernel_rfl) (by kernel_rfl) (by kernel_rfl) (fun _ _ _ h => h) (Or.inl ⟨by rfl, ?hy23⟩) (by assumption) ?rest23
      case hy23 => (intro w hSw; (try dsimp only at hSw); go_simp <;> with_reducible rfl)
      try simp only [Act.put, List.getElem_toArray, List.getElem_cons_zero, List.getElem_cons_succ, List.setIfInBounds_toArray, List.set_cons_zero, List.set_cons_succ]
      refine wpAnyH_ready (rs := [13]) (by kernel_rfl) (by simp) ?_
      refine AllReadyH.cons rfl (fun K hK => ?_) AllReadyH.nil
      go_simp
      refine (CM.out _ H.out.b).mono ?_
      rintro e w9 ⟨rfl, hw⟩
      obtain rfl := hw.symm
      clear hw
      go_wp2_with fail
      refine hK.out _ _ (by exact S1) (fun hHeld => ?_)
      clear hK K
      try simp only [Act.put, List.getElem_toArray, List.getElem_cons_zero, List.getElem_cons_succ, List.setIfInBounds_toArray, List.set_cons_zero, List.set_cons_succ]
      refine wpAnyH_take (i := 14) (v := ?v24) rfl (by kernel_rfl) (by kernel_rfl) (by kernel_rfl) (fun _ _ _ h => h) (Or.inl ⟨by rfl, ?hy24⟩) (by assumption) ?rest24
      case hy24 => (intro w hSw; (try dsimp only at hSw); go_simp <;> with_reducible rfl)
      try simp only [Act.put, List.getElem_toArray, List.getElem_cons_zero, List.getElem_cons_succ, List.setIfInBounds_toArray, List.set_cons_zero, List.set_cons_succ]
      refine wpAnyH_take (i := 15) (v := ?v25) rfl (by kernel_rfl) (by kernel_rfl) (by kernel_rfl) (fun _ _ _ h => h) (Or.inl ⟨by rfl, ?hy25⟩) (by assumption) ?rest25
      case hy25 => (intro w hSw; (try dsimp only at hSw); go_simp <;> with_reducible rfl)
      try simp only [Act.put, List.getElem_toArray, List.getElem_cons_zero, List.getElem_cons_succ, List.setIfInBounds_toArray, List.set_cons_zero, List.set_cons_succ]
      refine wpAnyH_ready (rs := [16]) (by kernel_rfl) (by simp) ?_
      refine AllReadyH.cons rfl (fun K hK => ?_) AllReadyH.nil
      go_simp
      refine (TN.out _ _ H.out B.out D.out _ _ (by decide)).mono ?_
      rintro y w1 ⟨rfl, hk, hb, hd⟩
      have H := hide hk
      have B := hide hb
      have D := hide hd
      obtain ⟨c0, c1, c2, c3, c4⟩ := PG.out _ hb
      obtain ⟨d0, d1, d2, d3⟩ := PI.out _ hd
      clear hk hb hd
      have S1 := And.intro (PG.out _ B.out).2.2.1 (And.intro (PI.out _ D.out).1 (HR.out _ H.out.b))
      go_wp2_with fail
      refine hK.out _ _ (by exact S1) (fun hHeld => ?_)
      clear hK K
      try simp only [Act.put, List.getElem_toArray, List.getElem_cons_zero, List.getElem_cons_succ, List.setIfInBounds_toArray, List.set_cons_zero, List.set_cons_succ]
      refine wpAnyH_done (by kernel_rfl) ?_ _
      clear S1
      go_wp2_with (first | (go_at_call 140; refine (TN.out _ _ H.out B.out D.out _ _ (by decide)).mono ?_; rintro y w1 ⟨rfl, hk, hb, hd⟩; have H := hide hk; have B := hide hb; have D := hide hd; obtain ⟨c0, c1, c2, c3, c4⟩ := PG.out _ hb; obtain ⟨d0, d1, d2, d3⟩ := PI.out _ hd; clear hk hb hd) | (go_at_call 121; refine (isNumber_any _ _).mono ?_; rintro y w1 ⟨rfl, hww⟩; obtain rfl := hww.symm) | (go_at_call 144; refine (CV.out _ _ H.out).mono ?_; rintro y w1 ⟨rfl, hk, _⟩; have H := hide hk))
      all_goals ((first | go_end0 | refine bodyPost_ret (results_none rfl _ _ _) rfl ?_); have HV := HVN.out; refine ⟨rfl, (congrArg (Kt w0 kb _) (idx_fin e (j + 1) (Iv.it ⟨aK, cK, key, aV, cV, val, child, size⟩) yk _ _ _ _ ?_ ?_ ?_ ?_)).mp H.out⟩ <;> clear H B D TN PG PI HI HL <;> have hkl : (0 < key.length) = ¬ key = [] := (by rw [List.length_pos_iff]))
      all_goals (have HZ := HZ.out; simp [Iv.it, HZ]; try grind)
    · have hvd : decide ((0 : Int) < (vn : Int)) = true := by simp; omega
      go_enter Tryz.func120, Tryz.ntmps120
      go_wp2_with (first | (go_at_call 140; refine (TN.out _ _ H.out B.out D.out _ _ (by decide)).mono ?_; rintro y w1 ⟨rfl, hk, hb, hd⟩; have H := hide hk; have B := hide hb; have D := hide hd; obtain ⟨c0, c1, c2, c3, c4⟩ := PG.out _ hb; obtain ⟨d0, d1, d2, d3⟩ := PI.out _ hd; clear hk hb hd) | (go_at_call 121; refine (isNumber_any _ _).mono ?_; rintro y w1 ⟨rfl, hww⟩; obtain rfl := hww.symm) | (go_at_call 144; refine (CV.out _ _ H.out).mono ?_; rintro y w1 ⟨rfl, hk, _⟩; have H := hide hk))
      have H := hide (H.out.keep (dr1 _))
      have B := hide (B.out.keep (dr1 _))
      have D := hide (D.out.keep (dr1 _))
      have S1 := And.intro (PG.out _ B.out).2.2.1 (And.intro (PI.out _ D.out).1 (HR.out _ H.out.b))
      refine wp_region_held_drew (S := fun w' => w'.cell? ⟨w.heap.size, 2, none⟩ = some (.slice (some ⟨bI, off, none⟩) items.length cI) ∧ w'.cell? ⟨w.heap.size + 1, 0, none⟩ = some (.slice aK key.length cK) ∧ w'.cell? ⟨bI, off + j * 4, none⟩ = some (.slice yaK yk.length ycK)) (by kernel_rfl) (by exact S1) (fun hHeld => ?_)
      refine wpAnyH_take (i := 0) (v := ?v26) rfl (by kernel_rfl) (by kernel_rfl) (by kernel_rfl) (fun _ _ _ h => h) (Or.inl ⟨by rfl, ?hy26⟩) (by assumption) ?rest26
      case hy26 => (intro w hSw; (try dsimp only at hSw); go_simp <;> with_reducible rfl)
      try simp only [Act.put, List.getElem_toArray, List.getElem_cons_zero, List.setIfInBounds_toArray, List.set_cons_zero, List.set_cons_succ]
      refine wpAnyH_take (i := 1) (v := ?v27) rfl (by kernel_rfl) (by kernel_rfl) (by kernel_rfl) (fun _ _ _ h => h) (Or.inl ⟨by rfl, ?hy27⟩) (by assumption) ?rest27
      case hy27 => (intro w hSw; (try dsimp only at hSw); go_simp <;> with_reducible rfl)
      try simp only [Act.put, List.getElem_toArray, List.getElem_cons_zero, List.getElem_cons_succ, List.setIfInBounds_toArray, List.set_cons_zero, List.set_cons_succ]
      refine wpAnyH_take (i := 2) (v := ?v28) rfl (by kernel_rfl) (by kernel_rfl) (by kernel_rfl) (fun _ _ _ h => h) (Or.inl ⟨by rfl, ?hy28⟩) (by assumption) ?rest28
      case hy28 => (intro w hSw; (try dsimp only at hSw); go_simp <;> with_reducible rfl)
      try simp only [Act.put, List.getElem_toArray, List.getElem_cons_zero, List.getElem_cons_succ, List.setIfInBounds_toArray, List.set_cons_zero, List.set_cons_succ]
      refine wpAnyH_take (i := 3) (v := ?v29) rfl (by kernel_rfl) (by kernel_rfl) (by kernel_rfl) (fun _ _ _ h => h) (Or.inl ⟨by rfl, ?hy29⟩) (by assumption) ?rest29
      case hy29 => (intro w hSw; (try dsimp only at hSw); go_simp <;> with_reducible rfl)
      try simp only [Act.put, List.getElem_toArray, List.getElem_cons_zero, List.getElem_cons_succ, List.setIfInBounds_toArray, List.set_cons_zero, List.set_cons_succ]
      refine wpAnyH_take (i := 4) (v := ?v30) rfl (by kernel_rfl) (by kernel_rfl) (by kernel_rfl) (fun _ _ _ h => h) (Or.inl ⟨by rfl, ?hy30⟩) (by assumption) ?rest30
      case hy30 => (intro w hSw; (try dsimp only at hSw); go_simp <;> with_reducible rfl)
      try simp only [Act.put, List.getElem_toArray, List.getElem_cons_zero, List.getElem_cons_succ, List.setIfInBounds_toArray, List.set_cons_zero, List.set_cons_succ]
      refine wpAnyH_take (i := 5) (v := ?v31) rfl (by kernel_rfl) (by kernel_rfl) (by kernel_rfl) (fun _ _ _ h => h) (Or.inl ⟨by rfl, ?hy31⟩) (by assumption) ?rest31
      case hy31 => (intro w hSw; (try dsimp only at hSw); go_simp <;> with_reducible rfl)
      try simp only [Act.put, List.getElem_toArray, List.getElem_cons_zero, List.getElem_cons_succ, List.setIfInBounds_toArray, List.set_cons_zero, List.set_cons_succ]
      refine wpAnyH_take (i := 6) (v := ?v32) rfl (by kernel_rfl) (by kernel_rfl) (by kernel_rfl) (fun _ _ _ h => h) (Or.inl ⟨by rfl, ?hy32⟩) (by assumption) ?rest32
      case hy32 => (intro w hSw; (try dsimp only at hSw); go_simp <;> with_reducible rfl)
      try simp only [Act.put, List.getElem_toArray, List.getElem_cons_zero, List.getElem_cons_succ, List.setIfInBounds_toArray, List.set_cons_zero, List.set_cons_succ]
      refine wpAnyH_take (i := 7) (v := ?v33) rfl (by kernel_rfl) (by kernel_rfl) (by kernel_rfl) (fun _ _ _ h => h) (Or.inl ⟨by rfl, ?hy33⟩) (by assumption) ?rest33
      case hy33 => (intro w hSw; (try dsimp only at hSw); go_simp <;> with_reducible rfl)
      try simp only [Act.put, List.getElem_toArray, List.getElem_cons_zero, List.getElem_cons_succ, List.setIfInBounds_toArray, List.set_cons_zero, List.set_cons_succ]
      refine wpAnyH_take (i := 8) (v := ?v34) rfl (by kernel_rfl) (by kernel_rfl) (by kernel_rfl) (fun _ _ _ h => h) (Or.inl ⟨by rfl, ?hy34⟩) (by assumption) ?rest34
      case hy34 => (intro w hSw; (try dsimp only at hSw); go_simp <;> with_reducible rfl)
      try simp only [Act.put, List.getElem_toArray, List.getElem_cons_zero, List.getElem_cons_succ, List.setIfInBounds_toArray, List.set_cons_zero, List.set_cons_succ]
      refine wpAnyH_take (i := 9) (v := ?v35) rfl (by kernel_rfl) (by kernel_rfl) (by kernel_rfl) (fun _ _ _ h => h) (Or.inl ⟨by rfl, ?hy35⟩) (by assumption) ?rest35
      case hy35 => (intro w hSw; (try dsimp only at hSw); go_simp <;> with_reducible rfl)
      try simp only [Act.put, List.getElem_toArray, List.getElem_cons_zero, List.getElem_cons_succ, List.setIfInBounds_toArray, List.set_cons_zero, List.set_cons_succ]
      refine wpAnyH_take (i := 10) (v := ?v36) rfl (by kernel_rfl) (by kernel_rfl) (by kernel_rfl) (fun _ _ _ h => h) (Or.inl ⟨by rfl, ?hy36⟩) (by assumption) ?rest36
      case hy36 => (intro w hSw; (try dsimp only at hSw); go_simp <;> with_reducible rfl)
      try simp only [Act.put, List.getElem_toArray, List.getElem_cons_zero, List.getElem_cons_succ, List.setIfInBounds_toArray, List.set_cons_zero, List.set_cons_succ]
      refine wpAnyH_take (i := 11) (v := ?v37) rfl (by kernel_rfl) (by kernel_rfl) (by kernel_rfl) (fun _ _ _ h => h) (Or.inl ⟨by rfl, ?hy37⟩) (by assumption) ?rest37
      case hy37 => (intro w hSw; (try dsimp only at hSw); go_simp <;> with_reducible rfl)
      try simp only [Act.put, List.getElem_toArray, List.getElem_cons_zero, List.getElem_cons_succ, List.setIfInBounds_toArray, List.set_cons_zero, List.set_cons_succ]
      refine wpAnyH_take (i := 12) (v := ?v38) rfl (by kernel_rfl) (by kernel_rfl) (by kernel_rfl) (fun _ _ _ h => h) (Or.inl ⟨by rfl, ?hy38⟩) (by assumption) ?rest38
      case hy38 => (intro w hSw; (try dsimp only at hSw); go_simp <;> with_reducible rfl)
      try simp only [Act.put, List.getElem_toArray, List.getElem_cons_zero, List.getElem_cons_succ, List.setIfInBounds_toArray, List.set_cons_zero, List.set_cons_succ]
      refine wpAnyH_ready (rs := [13]) (by kernel_rfl) (by simp) ?_
      refine AllReadyH.cons rfl (fun K hK => ?_) AllReadyH.nil
      go_simp
      refine (CM.out _ H.out.b).mono ?_
      rintro e w9 ⟨rfl, hw⟩
      obtain rfl := hw.symm
      clear hw
      go_wp2_with fail
      refine hK.out _ _ (by exact S1) (fun hHeld => ?_)
      clear hK K
      try simp only [Act.put, List.getElem_toArray, List.getElem_cons_zero, List.getElem_cons_succ, List.setIfInBounds_toArray, List.set_cons_zero, List.set_cons_succ]
      refine wpAnyH_take (i := 14) (v := ?v39) rfl (by kernel_rfl) (by kernel_rfl) (by kernel_rfl) (fun _ _ _ h => h) (Or.inl ⟨by rfl, ?hy39⟩) (by assumption) ?rest39
      case hy39 => (intro w hSw; (try dsimp only at hSw); go_simp <;> with_reducible rfl)
      try simp only [Act.put, List.getElem_toArray, List.getElem_cons_zero, List.getElem_cons_succ, List.setIfInBounds_toArray, List.set_cons_zero, List.set_cons_succ]
      refine wpAnyH_take (i := 15) (v := ?v40) rfl (by kernel_rfl) (by kernel_rfl) (by kernel_rfl) (fun _ _ _ h => h) (Or.inl ⟨by rfl, ?hy40⟩) (by assumption) ?rest40
      case hy40 => (intro w hSw; (try dsimp only at hSw); go_simp <;> with_reducible rfl)
      try simp only [Act.put, List.getElem_toArray, List.getElem_cons_zero, List.getElem_cons_succ, List.setIfInBounds_toArray, List.set_cons_zero, List.set_cons_succ]
      refine wpAnyH_ready (rs := [16]) (by kernel_rfl) (by simp) ?_
      refine AllReadyH.cons rfl (fun K hK => ?_) AllReadyH.nil
      go_simp
      refine (TN.out _ _ H.out B.out D.out _ _ (by decide)).mono ?_
      rintro y w1 ⟨rfl, hk, hb, hd⟩
      have H := hide hk
      have B := hide hb
      have D := hide hd
      obtain ⟨c0, c1, c2, c3, c4⟩ := PG.out _ hb
      obtain ⟨d0, d1, d2, d3⟩ := PI.out _ hd
      clear hk hb hd
      have S1 := And.intro (PG.out _ B.out).2.2.1 (And.intro (PI.out _ D.out).1 (HR.out _ H.out.b))
      go_wp2_with fail
      refine hK.out _ _ (by exact S1) (fun hHeld => ?_)
      clear hK K
      try simp only [Act.put, List.getElem_toArray, List.getElem_cons_zero, List.getElem_cons_succ, List.setIfInBounds_toArray, List.set_cons_zero, List.set_cons_succ]
      refine wpAnyH_done (by kernel_rfl) ?_ _
      clear S1
      go_wp2_with (first | (go_at_call 140; refine (TN.out _ _ H.out B.out D.out _ _ (by decide)).mono ?_; rintro y w1 ⟨rfl, hk, hb, hd⟩; have H := hide hk; have B := hide hb; have D := hide hd; obtain ⟨c0, c1, c2, c3, c4⟩ := PG.out _ hb; obtain ⟨d0, d1, d2, d3⟩ := PI.out _ hd; clear hk hb hd) | (go_at_call 121; refine (isNumber_any _ _).mono ?_; rintro y w1 ⟨rfl, hww⟩; obtain rfl := hww.symm) | (go_at_call 144; refine (CV.out _ _ H.out).mono ?_; rintro y w1 ⟨rfl, hk, _⟩; have H := hide hk))
      all_goals ((first | go_end0 | refine bodyPost_ret (results_none rfl _ _ _) rfl ?_); have HV := HVN.out; refine ⟨rfl, (congrArg (Kt w0 kb _) (idx_fin e (j + 1) (Iv.it ⟨aK, cK, key, aV, cV, val, child, size⟩) yk _ _ _ _ ?_ ?_ ?_ ?_)).mp H.out⟩ <;> clear H B D TN PG PI HI HL <;> have hkl : (0 < key.length) = ¬ key = [] := (by rw [List.length_pos_iff]))
      all_goals (have HZ := HZ.out; simp [Iv.it, HZ]; try grind)
  · skip
    by_cases hv0 : vn = 0
    · subst hv0
      go_enter Tryz.func120, Tryz.ntmps120
      go_wp2_with (first | (go_at_call 140; refine (TN.out _ _ H.out B.out D.out _ _ (by decide)).mono ?_; rintro y w1 ⟨rfl, hk, hb, hd⟩; have H := hide hk; have B := hide hb; have D := hide hd; obtain ⟨c0, c1, c2, c3, c4⟩ := PG.out _ hb; obtain ⟨d0, d1, d2, d3⟩ := PI.out _ hd; clear hk hb hd) | (go_at_call 121; refine (isNumber_any _ _).mono ?_; rintro y w1 ⟨rfl, hww⟩; obtain rfl := hww.symm) | (go_at_call 144; refine (CV.out _ _ H.out).mono ?_; rintro y w1 ⟨rfl, hk, _⟩; have H := hide hk))
      have H := hide (H.out.keep (dr1 _))
      have B := hide (B.out.keep (dr1 _))
      have D := hide (D.out.keep (dr1 _))
      have S1 := And.intro (PG.out _ B.out).2.2.1 (And.intro (PI.out _ D.out).1 (HR.out _ H.out.b))
      refine wp_region_held_drew (S := fun w' => w'.cell? ⟨w.heap.size, 2, none⟩ = some (.slice (some ⟨bI, off, none⟩) items.length cI) ∧ w'.cell? ⟨w.heap.size + 1, 0, none⟩ = some (.slice aK key.length cK) ∧ w'.cell? ⟨bI, off + j * 4, none⟩ = some (.slice yaK yk.length ycK)) (by kernel_rfl) (by exact S1) (fun hHeld => ?_)
      refine wpAnyH_take (i := 0) (v := ?v41) rfl (by kernel_rfl) (by kernel_rfl) (by kernel_rfl) (fun _ _ _ h => h) (Or.inl ⟨by rfl, ?hy41⟩) (by assumption) ?rest41
      case hy41 => (intro w hSw; (try dsimp only at hSw); go_simp <;> with_reducible rfl)
      try simp only [Act.put, List.getElem_toArray, List.getElem_cons_zero, List.setIfInBounds_toArray, List.set_cons_zero, List.set_cons_succ]
      refine wpAnyH_take (i := 1) (v := ?v42) rfl (by kernel_rfl) (by kernel_rfl) (by kernel_rfl) (fun _ _ _ h => h) (Or.inl ⟨by rfl, ?hy42⟩) (by assumption) ?rest42
      case hy42 => (intro w hSw; (try dsimp only at hSw); go_simp <;> with_reducible rfl)
      try simp only [Act.put, List.getElem_toArray, List.getElem_cons_zero, List.getElem_cons_succ, List.setIfInBounds_toArray, List.set_cons_zero, List.set_cons_succ]
      refine wpAnyH_take (i := 2) (v := ?v43) rfl (by kernel_rfl) (by kernel_rfl) (by kernel_rfl) (fun _ _ _ h => h) (Or.inl ⟨by rfl, ?hy43⟩) (by assumption) ?rest43
      case hy43 => (intro w hSw; (try dsimp only at hSw); go_simp <;> with_reducible rfl)
      try simp only [Act.put, List.getElem_toArray, List.getElem_cons_zero, List.getElem_cons_succ, List.setIfInBounds_toArray, List.set_cons_zero, List.set_cons_succ]
      refine wpAnyH_take (i := 3) (v := ?v44) rfl (by kernel_rfl) (by kernel_rfl) (by kernel_rfl) (fun _ _ _ h => h) (Or.inl ⟨by rfl, ?hy44⟩) (by assumption) ?rest44
      case hy44 => (intro w hSw; (try dsimp only at hSw); go_simp <;> with_reducible rfl)
      try simp only [Act.put, List.getElem_toArray, List.getElem_cons_zero, List.getElem_cons_succ, List.setIfInBounds_toArray, List.set_cons_zero, List.set_cons_succ]
      refine wpAnyH_take (i := 4) (v := ?v45) rfl (by kernel_rfl) (by kernel_rfl) (by kernel_rfl) (fun _ _ _ h => h) (Or.inl ⟨by rfl, ?hy45⟩) (by assumption) ?rest45
      case hy45 => (intro w hSw; (try dsimp only at hSw); go_simp <;> with_reducible rfl)
      try simp only [Act.put, List.getElem_toArray, List.getElem_cons_zero, List.getElem_cons_succ, List.setIfInBounds_toArray, List.set_cons_zero, List.set_cons_succ]
      refine wpAnyH_take (i := 5) (v := ?v46) rfl (by kernel_rfl) (by kernel_rfl) (by kernel_rfl) (fun _ _ _ h => h) (Or.inl ⟨by rfl, ?hy46⟩) (by assumption) ?rest46
      case hy46 => (intro w hSw; (try dsimp only at hSw); go_simp <;> with_reducible rfl)
      try simp only [Act.put, List.getElem_toArray, List.getElem_cons_zero, List.getElem_cons_succ, List.setIfInBounds_toArray, List.set_cons_zero, List.set_cons_succ]
      refine wpAnyH_take (i := 6) (v := ?v47) rfl (by kernel_rfl) (by kernel_rfl) (by kernel_rfl) (fun _ _ _ h => h) (Or.inl ⟨by rfl, ?hy47⟩) (by assumption) ?rest47
      case hy47 => (intro w hSw; (try dsimp only at hSw); go_simp <;> with_reducible rfl)
      try simp only [Act.put, List.getElem_toArray, List.getElem_cons_zero, List.getElem_cons_succ, List.setIfInBounds_toArray, List.set_cons_zero, List.set_cons_succ]
      refine wpAnyH_take (i := 7) (v := ?v48) rfl (by kernel_rfl) (by kernel_rfl) (by kernel_rfl) (fun _ _ _ h => h) (Or.inl ⟨by rfl, ?hy48⟩) (by assumption) ?rest48
      case hy48 => (intro w hSw; (try dsimp only at hSw); go_simp <;> with_reducible rfl)
      try simp only [Act.put, List.getElem_toArray, List.getElem_cons_zero, List.getElem_cons_succ, List.setIfInBounds_toArray, List.set_cons_zero, List.set_cons_succ]
      refine wpAnyH_take (i := 8) (v := ?v49) rfl (by kernel_rfl) (by kernel_rfl) (by kernel_rfl) (fun _ _ _ h => h) (Or.inl ⟨by rfl, ?hy49⟩) (by assumption) ?rest49
      case hy49 => (intro w hSw; (try dsimp only at hSw); go_simp <;> with_reducible rfl)
      try simp only [Act.put, List.getElem_toArray, List.getElem_cons_zero, List.getElem_cons_succ, List.setIfInBounds_toArray, List.set_cons_zero, List.set_cons_succ]
      refine wpAnyH_take (i := 9) (v := ?v50) rfl (by kernel_rfl) (by kernel_rfl) (by kernel_rfl) (fun _ _ _ h => h) (Or.inl ⟨by rfl, ?hy50⟩) (by assumption) ?rest50
      case hy50 => (intro w hSw; (try dsimp only at hSw); go_simp <;> with_reducible rfl)
      try simp only [Act.put, List.getElem_toArray, List.getElem_cons_zero, List.getElem_cons_succ, List.setIfInBounds_toArray, List.set_cons_zero, List.set_cons_succ]
      refine wpAnyH_take (i := 10) (v := ?v51) rfl (by kernel_rfl) (by kernel_rfl) (by kernel_rfl) (fun _ _ _ h => h) (Or.inl ⟨by rfl, ?hy51⟩) (by assumption) ?rest51
      case hy51 => (intro w hSw; (try dsimp only at hSw); go_simp <;> with_reducible rfl)
      try simp only [Act.put, List.getElem_toArray, List.getElem_cons_zero, List.getElem_cons_succ, List.setIfInBounds_toArray, List.set_cons_zero, List.set_cons_succ]
      refine wpAnyH_take (i := 11) (v := ?v52) rfl (by kernel_rfl) (by kernel_rfl) (by kernel_rfl) (fun _ _ _ h => h) (Or.inl ⟨by rfl, ?hy52⟩) (by assumption) ?rest52
      case hy52 => (intro w hSw; (try dsimp only at hSw); go_simp <;> with_reducible rfl)
      try simp only [Act.put, List.getElem_toArray, List.getElem_cons_zero, List.getElem_cons_succ, List.setIfInBounds_toArray, List.set_cons_zero, List.set_cons_succ]
      refine wpAnyH_take (i := 12) (v := ?v53) rfl (by kernel_rfl) (by kernel_rfl) (by kernel_rfl) (fun _ _ _ h => h) (Or.inl ⟨by rfl, ?hy53⟩) (by assumption) ?rest53
      case hy53 => (intro w hSw; (try dsimp only at hSw); go_simp <;> with_reducible rfl)
      try simp only [Act.put, List.getElem_toArray, List.getElem_cons_zero, List.getElem_cons_succ, List.setIfInBounds_toArray, List.set_cons_zero, List.set_cons_succ]
      refine wpAnyH_ready (rs := [13]) (by kernel_rfl) (by simp) ?_
      refine AllReadyH.cons rfl (fun K hK => ?_) AllReadyH.nil
      go_simp
      refine (CM.out _ H.out.b).mono ?_
      rintro e w9 ⟨rfl, hw⟩
      obtain rfl := hw.symm
      clear hw
      go_wp2_with fail
      refine hK.out _ _ (by exact S1) (fun hHeld => ?_)
      clear hK K
      try simp only [Act.put, List.getElem_toArray, List.getElem_cons_zero, List.getElem_cons_succ, List.setIfInBounds_toArray, List.set_cons_zero, List.set_cons_succ]
      refine wpAnyH_take (i := 14) (v := ?v54) rfl (by kernel_rfl) (by kernel_rfl) (by kernel_rfl) (fun _ _ _ h => h) (Or.inl ⟨by rfl, ?hy54⟩) (by assumption) ?rest54
      case hy54 => (intro w hSw; (try dsimp only at hSw); go_simp <;> with_reducible rfl)
      try simp only [Act.put, List.getElem_toArray, List.getElem_cons_zero, List.getElem_cons_succ, List.setIfInBounds_toArray, List.set_cons_zero, List.set_cons_succ]
      refine wpAnyH_take (i := 15) (v := ?v55) rfl (by kernel_rfl) (by kernel_rfl) (by kernel_rfl) (fun _ _ _ h => h) (Or.inl ⟨by rfl, ?hy55⟩) (by assumption) ?rest55
      case hy55 => (intro w hSw; (try dsimp only at hSw); go_simp <;> with_reducible rfl)
      try simp only [Act.put, List.getElem_toArray, List.getElem_cons_zero, List.getElem_cons_succ, List.setIfInBounds_toArray, List.set_cons_zero, List.set_cons_succ]
      refine wpAnyH_ready (rs := [16]) (by kernel_rfl) (by simp) ?_
      refine AllReadyH.cons rfl (fun K hK => ?_) AllReadyH.nil
      go_simp
      refine (TN.out _ _ H.out B.out D.out _ _ (by decide)).mono ?_
      rintro y w1 ⟨rfl, hk, hb, hd⟩
      have H := hide hk
      have B := hide hb
      have D := hide hd
      obtain ⟨c0, c1, c2, c3, c4⟩ := PG.out _ hb
      obtain ⟨d0, d1, d2, d3⟩ := PI.out _ hd
      clear hk hb hd
      have S1 := And.intro (PG.out _ B.out).2.2.1 (And.intro (PI.out _ D.out).1 (HR.out _ H.out.b))
      go_wp2_with fail
      refine hK.out _ _ (by exact S1) (fun hHeld => ?_)
      clear hK K
      try simp only [Act.put, List.getElem_toArray, List.getElem_cons_zero, List.getElem_cons_succ, List.setIfInBounds_toArray, List.set_cons_zero, List.set_cons_succ]
      refine wpAnyH_done (by kernel_rfl) ?_ _
      clear S1
      go_wp2_with (first | (go_at_call 140; refine (TN.out _ _ H.out B.out D.out _ _ (by decide)).mono ?_; rintro y w1 ⟨rfl, hk, hb, hd⟩; have H := hide hk; have B := hide hb; have D := hide hd; obtain ⟨c0, c1, c2, c3, c4⟩ := PG.out _ hb; obtain ⟨d0, d1, d2, d3⟩ := PI.out _ hd; clear hk hb hd) | (go_at_call 121; refine (isNumber_any _ _).mono ?_; rintro y w1 ⟨rfl, hww⟩; obtain rfl := hww.symm) | (go_at_call 144; refine (CV.out _ _ H.out).mono ?_; rintro y w1 ⟨rfl, hk, _⟩; have H := hide hk))
      all_goals ((first | go_end0 | refine bodyPost_ret (results_none rfl _ _ _) rfl ?_); have HV := HVN.out; refine ⟨rfl, (congrArg (Kt w0 kb _) (idx_fin e (j + 1) (Iv.it ⟨aK, cK, key, aV, cV, val, child, size⟩) yk _ _ _ _ ?_ ?_ ?_ ?_)).mp H.out⟩ <;> clear H B D TN PG PI HI HL <;> have hkl : (0 < key.length) = ¬ key = [] := (by rw [List.length_pos_iff]))
      all_goals (have HZ := HZ.out; simp [Iv.it, HZ]; try grind)
    · have hvd : decide ((0 : Int) < (vn : Int)) = true := by simp; omega
      go_enter Tryz.func120, Tryz.ntmps120
      go_wp2_with (first | (go_at_call 140; refine (TN.out _ _ H.out B.out D.out _ _ (by decide)).mono ?_; rintro y w1 ⟨rfl, hk, hb, hd⟩; have H := hide hk; have B := hide hb; have D := hide hd; obtain ⟨c0, c1, c2, c3, c4⟩ := PG.out _ hb; obtain ⟨d0, d1, d2, d3⟩ := PI.out _ hd; clear hk hb hd) | (go_at_call 121; refine (isNumber_any _ _).mono ?_; rintro y w1 ⟨rfl, hww⟩; obtain rfl := hww.symm) | (go_at_call 144; refine (CV.out _ _ H.out).mono ?_; rintro y w1 ⟨rfl, hk, _⟩; have H := hide hk))
      have H := hide (H.out.keep (dr1 _))
      have B := hide (B.out.keep (dr1 _))
      have D := hide (D.out.keep (dr1 _))
      have S1 := And.intro (PG.out _ B.out).2.2.1 (And.intro (PI.out _ D.out).1 (HR.out _ H.out.b))
      refine wp_region_held_drew (S := fun w' => w'.cell? ⟨w.heap.size, 2, none⟩ = some (.slice (some ⟨bI, off, none⟩) items.length cI) ∧ w'.cell? ⟨w.heap.size + 1, 0, none⟩ = some (.slice aK key.length cK) ∧ w'.cell? ⟨bI, off + j * 4, none⟩ = some (.slice yaK yk.length ycK)) (by kernel_rfl) (by exact S1) (fun hHeld => ?_)
      refine wpAnyH_take (i := 0) (v := ?v56) rfl (by kernel_rfl) (by kernel_rfl) (by kernel_rfl) (fun _ _ _ h => h) (Or.inl ⟨by rfl, ?hy56⟩) (by assumption) ?rest56
      case hy56 => (intro w hSw; (try dsimp only at hSw); go_simp <;> with_reducible rfl)
      try simp only [Act.put, List.getElem_toArray, List.getElem_cons_zero, List.setIfInBounds_toArray, List.set_cons_zero, List.set_cons_succ]
      refine wpAnyH_take (i := 1) (v := ?v57) rfl (by kernel_rfl) (by kernel_rfl) (by kernel_rfl) (fun _ _ _ h => h) (Or.inl ⟨by rfl, ?hy57⟩) (by assumption) ?rest57
      case hy57 => (intro w hSw; (try dsimp only at hSw); go_simp <;> with_reducible rfl)
      try simp only [Act.put, List.getElem_toArray, List.getElem_cons_zero, List.getElem_cons_succ, List.setIfInBounds_toArray, List.set_cons_zero, List.set_cons_succ]
      refine wpAnyH_take (i := 2) (v := ?v58) rfl (by kernel_rfl) (by kernel_rfl) (by kernel_rfl) (fun _ _ _ h => h) (Or.inl ⟨by rfl, ?hy58⟩) (by assumption) ?rest58
      case hy58 => (intro w hSw; (try dsimp only at hSw); go_simp <;> with_reducible rfl)
      try simp only [Act.put, List.getElem_toArray, List.getElem_cons_zero, List.getElem_cons_succ, List.setIfInBounds_toArray, List.set_cons_zero, List.set_cons_succ]
      refine wpAnyH_take (i := 3) (v := ?v59) rfl (by kernel_rfl) (by kernel_rfl) (by kernel_rfl) (fun _ _ _ h => h) (Or.inl ⟨by rfl, ?hy59⟩) (by assumption) ?rest59
      case hy59 => (intro w hSw; (try dsimp only at hSw); go_simp <;> with_reducible rfl)
      try simp only [Act.put, List.getElem_toArray, List.getElem_cons_zero, List.getElem_cons_succ, List.setIfInBounds_toArray, List.set_cons_zero, List.set_cons_succ]
      refine wpAnyH_take (i := 4) (v := ?v60) rfl (by kernel_rfl) (by kernel_rfl) (by kernel_rfl) (fun _ _ _ h => h) (Or.inl ⟨by rfl, ?hy60⟩) (by assumption) ?rest60
      case hy60 => (intro w hSw; (try dsimp only at hSw); go_simp <;> with_reducible rfl)
      try simp only [Act.put, List.getElem_toArray, List.getElem_cons_zero, List.getElem_cons_succ, List.setIfInBounds_toArray, List.set_cons_zero, List.set_cons_succ]
      refine wpAnyH_take (i := 5) (v := ?v61) rfl (by kernel_rfl) (by kernel_rfl) (by kernel_rfl) (fun _ _ _ h => h) (Or.inl ⟨by rfl, ?hy61⟩) (by assumption) ?rest61
      case hy61 => (intro w hSw; (try dsimp only at hSw); go_simp <;> with_reducible rfl)
      try simp only [Act.put, List.getElem_toArray, List.getElem_cons_zero, List.getElem_cons_succ, List.setIfInBounds_toArray, List.set_cons_zero, List.set_cons_succ]
      refine wpAnyH_take (i := 6) (v := ?v62) rfl (by kernel_rfl) (by kernel_rfl) (by kernel_rfl) (fun _ _ _ h => h) (Or.inl ⟨by rfl, ?hy62⟩) (by assumption) ?rest62
      case hy62 => (intro w hSw; (try dsimp only at hSw); go_simp <;> with_reducible rfl)
      try simp only [Act.put, List.getElem_toArray, List.getElem_cons_zero, List.getElem_cons_succ, List.setIfInBounds_toArray, List.set_cons_zero, List.set_cons_succ]
      refine wpAnyH_take (i := 7) (v := ?v63) rfl (by kernel_rfl) (by kernel_rfl) (by kernel_rfl) (fun _ _ _ h => h) (Or.inl ⟨by rfl, ?hy63⟩) (by assumption) ?rest63
      case hy63 => (intro w hSw; (try dsimp only at hSw); go_simp <;> with_reducible rfl)
      try simp only [Act.put, List.getElem_toArray, List.getElem_cons_zero, List.getElem_cons_succ, List.setIfInBounds_toArray, List.set_cons_zero, List.set_cons_succ]
      refine wpAnyH_take (i := 8) (v := ?v64) rfl (by kernel_rfl) (by kernel_rfl) (by kernel_rfl) (fun _ _ _ h => h) (Or.inl ⟨by rfl, ?hy64⟩) (by assumption) ?rest64
      case hy64 => (intro w hSw; (try dsimp only at hSw); go_simp <;> with_reducible rfl)
      try simp only [Act.put, List.getElem_toArray, List.getElem_cons_zero, List.getElem_cons_succ, List.setIfInBounds_toArray, List.set_cons_zero, List.set_cons_succ]
      refine wpAnyH_take (i := 9) (v := ?v65) rfl (by kernel_rfl) (by kernel_rfl) (by kernel_rfl) (fun _ _ _ h => h) (Or.inl ⟨by rfl, ?hy65⟩) (by assumption) ?rest65
      case hy65 => (intro w hSw; (try dsimp only at hSw); go_simp <;> with_reducible rfl)
      try simp only [Act.put, List.getElem_toArray, List.getElem_cons_zero, List.getElem_cons_succ, List.setIfInBounds_toArray, List.set_cons_zero, List.set_cons_succ]
      refine wpAnyH_take (i := 10) (v := ?v66) rfl (by kernel_rfl) (by kernel_rfl) (by kernel_rfl) (fun _ _ _ h => h) (Or.inl ⟨by rfl, ?hy66⟩) (by assumption) ?rest66
      case hy66 => (intro w hSw; (try dsimp only at hSw); go_simp <;> with_reducible rfl)
      try simp only [Act.put, List.getElem_toArray, List.getElem_cons_zero, List.getElem_cons_succ, List.setIfInBounds_toArray, List.set_cons_zero, List.set_cons_succ]
      refine wpAnyH_take (i := 11) (v := ?v67) rfl (by kernel_rfl) (by kernel_rfl) (by kernel_rfl) (fun _ _ _ h => h) (Or.inl ⟨by rfl, ?hy67⟩) (by assumption) ?rest67
      case hy67 => (intro w hSw; (try dsimp only at hSw); go_simp <;> with_reducible rfl)
      try simp only [Act.put, List.getElem_toArray, List.getElem_cons_zero, List.getElem_cons_succ, List.setIfInBounds_toArray, List.set_cons_zero, List.set_cons_succ]
      refine wpAnyH_take (i := 12) (v := ?v68) rfl (by kernel_rfl) (by kernel_rfl) (by kernel_rfl) (fun _ _ _ h => h) (Or.inl ⟨by rfl, ?hy68⟩) (by assumption) ?rest68
      case hy68 => (intro w hSw; (try dsimp only at hSw); go_simp <;> with_reducible rfl)
      try simp only [Act.put, List.getElem_toArray, List.getElem_cons_zero, List.getElem_cons_succ, List.setIfInBounds_toArray, List.set_cons_zero, List.set_cons_succ]
      refine wpAnyH_ready (rs := [13]) (by kernel_rfl) (by simp) ?_
      refine AllReadyH.cons rfl (fun K hK => ?_) AllReadyH.nil
      go_simp
      refine (CM.out _ H.out.b).mono ?_
      rintro e w9 ⟨rfl, hw⟩
      obtain rfl := hw.symm
      clear hw
      go_wp2_with fail
      refine hK.out _ _ (by exact S1) (fun hHeld => ?_)
      clear hK K
      try simp only [Act.put, List.getElem_toArray, List.getElem_cons_zero, List.getElem_cons_succ, List.setIfInBounds_toArray, List.set_cons_zero, List.set_cons_succ]
      refine wpAnyH_take (i := 14) (v := ?v69) rfl (by kernel_rfl) (by kernel_rfl) (by kernel_rfl) (fun _ _ _ h => h) (Or.inl ⟨by rfl, ?hy69⟩) (by assumption) ?rest69
      case hy69 => (intro w hSw; (try dsimp only at hSw); go_simp <;> with_reducible rfl)
      try simp only [Act.put, List.getElem_toArray, List.getElem_cons_zero, List.getElem_cons_succ, List.setIfInBounds_toArray, List.set_cons_zero, List.set_cons_succ]
      refine wpAnyH_take (i := 15) (v := ?v70) rfl (by kernel_rfl) (by kernel_rfl) (by kernel_rfl) (fun _ _ _ h => h) (Or.inl ⟨by rfl, ?hy70⟩) (by assumption) ?rest70
      case hy70 => (intro w hSw; (try dsimp only at hSw); go_simp <;> with_reducible rfl)
      try simp only [Act.put, List.getElem_toArray, List.getElem_cons_zero, List.getElem_cons_succ, List.setIfInBounds_toArray, List.set_cons_zero, List.set_cons_succ]
      refine wpAnyH_ready (rs := [16]) (by kernel_rfl) (by simp) ?_
      refine AllReadyH.cons rfl (fun K hK => ?_) AllReadyH.nil
      go_simp
      refine (TN.out _ _ H.out B.out D.out _ _ (by decide)).mono ?_
      rintro y w1 ⟨rfl, hk, hb, hd⟩
      have H := hide hk
      have B := hide hb
      have D := hide hd
      obtain ⟨c0, c1, c2, c3, c4⟩ := PG.out _ hb
      obtain ⟨d0, d1, d2, d3⟩ := PI.out _ hd
      clear hk hb hd
      have S1 := And.intro (PG.out _ B.out).2.2.1 (And.intro (PI.out _ D.out).1 (HR.out _ H.out.b))
      go_wp2_with fail
      refine hK.out _ _ (by exact S1) (fun hHeld => ?_)
      clear hK K
      try simp only [Act.put, List.getElem_toArray, List.getElem_cons_zero, List.getElem_cons_succ, List.setIfInBounds_toArray, List.set_cons_zero, List.set_cons_succ]
      refine wpAnyH_done (by kernel_rfl) ?_ _
      clear S1
      go_wp2_with (first | (go_at_call 140; refine (TN.out _ _ H.out B.out D.out _ _ (by decide)).mono ?_; rintro y w1 ⟨rfl, hk, hb, hd⟩; have H := hide hk; have B := hide hb; have D := hide hd; obtain ⟨c0, c1, c2, c3, c4⟩ := PG.out _ hb; obtain ⟨d0, d1, d2, d3⟩ := PI.out _ hd; clear hk hb hd) | (go_at_call 121; refine (isNumber_any _ _).mono ?_; rintro y w1 ⟨rfl, hww⟩; obtain rfl := hww.symm) | (go_at_call 144; refine (CV.out _ _ H.out).mono ?_; rintro y w1 ⟨rfl, hk, _⟩; have H := hide hk))
      all_goals ((first | go_end0 | refine bodyPost_ret (results_none rfl _ _ _) rfl ?_); have HV := HVN.out; refine ⟨rfl, (congrArg (Kt w0 kb _) (idx_fin e (j + 1) (Iv.it ⟨aK, cK, key, aV, cV, val, child, size⟩) yk _ _ _ _ ?_ ?_ ?_ ?_)).mp H.out⟩ <;> clear H B D TN PG PI HI HL <;> have hkl : (0 < key.length) = ¬ key = [] := (by rw [List.length_pos_iff]))
      all_goals (have HZ := HZ.out; simp [Iv.it, HZ]; try grind)
end Go.Proofs.YtbhigodjbfoeoaaGreat
namespace Go.Proofs.YtbhigodjbfoeoaaGreat
theorem checkItem_any (w0 w : World) (kb e i : Nat) (p : Pv) (h : Kt w0 kb w e) (hP : Pi w0 p) (hi : i < p.items.length) (hk : p.kind = 1 ∨ p.kind = 2) : Calls Tryz.prog 120 #[p.vl, .int .i64 (i : Int), tv kb] w fun x w' => x = .returned (.tuple #[]) ∧ Kt w0 kb w' (els e (p.pg.itemE i)) := by
  by_cases h0 : i = 0
  · rcases hk with hk | hk
    · exact checkItem_l0 w0 w kb e i p h hP hi hk h0
    · exact checkItem_i0 w0 w kb e i p h hP hi hk h0
  · rcases hk with hk | hk
    · exact checkItem_lN w0 w kb e i p h hP hi hk h0
    · exact checkItem_iN w0 w kb e i p h hP hi hk h0
end Go.Proofs.YtbhigodjbfoeoaaGreat
