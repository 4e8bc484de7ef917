import Derived.Test.YtceeeofkigkpkaaGreatEE
namespace Go.Proofs.YtceeeofkigkpkaaGreat
set_option linter.unusedVariables false
open Go.RowKit

/-! ### a page is set -/
theorem two_cells (w : World) (c : Int) (l : Bool) : (w.alloc (.cells #[.int .i64 c, .bool l] 74)).cell? ⟨w.heap.size, 0, none⟩ = some (.int .i64 c) ∧ (w.alloc (.cells #[.int .i64 c, .bool l] 74)).cell? ⟨w.heap.size, 1, none⟩ = some (.bool l) := by
  rw [cell_of_row _ _ _ _ _ _ (World.alloc_heap_new w _), cell_of_row _ _ _ _ _ _ (World.alloc_heap_new w _)]
  exact ⟨rfl, rfl⟩
theorem two_keep' {W W' : World} {g : Nat} {c : Int} {l : Bool} (h : W.cell? ⟨g, 0, none⟩ = some (.int .i64 c) ∧ W.cell? ⟨g, 1, none⟩ = some (.bool l)) (hb : Below W.heap.size W W') : W'.cell? ⟨g, 0, none⟩ = some (.int .i64 c) ∧ W'.cell? ⟨g, 1, none⟩ = some (.bool l) :=
  ⟨(hb.cell (p := ⟨g, 0, none⟩) (block_lt_of_cell h.1)).trans h.1, (hb.cell (p := ⟨g, 1, none⟩) (block_lt_of_cell h.2)).trans h.2⟩
theorem set_page {w : World} {g : Nat} {L : List Pg} (h : w.heap[g]? = some (.cells (pgc L).toArray 74 (0, 0))) (i : Nat) (x : Pg) : ((w.setCell ⟨g, i * 2, none⟩ (.int .i64 x.1)).setCell ⟨g, i * 2 + 1, none⟩ (.bool x.2)).drew.heap[g]? = some (.cells (pgc (L.set i x)).toArray 74 (0, 0)) := by
  have h1 := heap_setCell_same w g (i * 2) _ _ (.int .i64 x.1) h
  have h2 := heap_setCell_same _ g (i * 2 + 1) _ _ (.bool x.2) h1
  have e : (((pgc L).toArray.setIfInBounds (i * 2) (.int .i64 x.1)).setIfInBounds (i * 2 + 1) (.bool x.2)) = (pgc (L.set i x)).toArray := by
    rw [pgc_set]; simp
  rw [e] at h2
  exact h2
theorem inS_at {P : List Pg} {n s : Nat} (h1 : 1 ≤ n) (h2 : n ≤ P.length) : inS P s (n : Int) = decide (stt (P.getD (n - 1) Pg.zero) = s) := by
  unfold inS
  rw [decide_eq_true (show (1 : Int) ≤ n by omega), decide_eq_true (show (n : Int) ≤ P.length by omega), show ((n : Int) - 1).toNat = n - 1 by omega]
  simp
theorem inS_same {P : List Pg} {n s : Nat} {x : Pg} (h1 : 1 ≤ n) (h2 : n ≤ P.length) (h : stt (P.getD (n - 1) Pg.zero) = stt x) (z : Int) : inS (P.set (n - 1) x) s z = inS P s z := by
  rw [inS_set h1 h2]
  split
  · rename_i e; rw [e, inS_at h1 h2, h]
  · rfl
set_option maxHeartbeats 4000000 in
set_option maxRecDepth 8000 in
theorem set_any (w : World) (b : Nat) (P : Po) (D : Pd) (col : Nat → Nat) (h : Pm w b P col D) (n : Nat) (h1 : 1 ≤ n) (h2 : n ≤ P.pg.length) (x : Pg) (hx : 0 ≤ x.1 ∧ x.1 ≤ P.rf) :
    Calls Tryz.prog 59 #[.pointer (some ⟨b, 0, none⟩), .int .i64 ((n : Nat) : Int), .agg #[.int .i64 x.1, .bool x.2]] w fun e w' => e = .returned (.tuple #[]) ∧ ∃ col', Pl w' b (P.put n x) col' ∧ Fr w col w' col' := by
  obtain ⟨i, rfl⟩ : ∃ i : Nat, n = i + 1 := ⟨n - 1, by omega⟩
  have hi : i < P.pg.length := by omega
  have es : P.state (((i + 1 : Nat)) : Int) = stt (P.pg.getD i Pg.zero) := by
    unfold Po.state
    rw [if_pos (Po.has_iff.2 ⟨by omega, by omega⟩), show (((i + 1 : Nat) : Int) - 1).toNat = i by omega]
  have aw := al w (.cells #[.int .i64 x.1, .bool x.2] 74)
  have X0 := two_cells w x.1 x.2
  have SA := hide fun (W1 : World) (hb : Below w.heap.size w W1) => State_any W1 b P D col (h.q.keep hb) h.ok.l2 (((i + 1 : Nat)) : Int)
  rw [es] at SA
  have HM := hide h
  have X := hide fun (W1 : World) (hb : Below (w.alloc (.cells #[.int .i64 x.1, .bool x.2] 74)).heap.size (w.alloc (.cells #[.int .i64 x.1, .bool x.2] 74)) W1) => two_keep' X0 hb
  have ST := hide fun (W1 : World) => stt_any W1 x
  have AW := hide aw
  obtain ⟨y0, y1⟩ := X.out _ (drw _)
  have HB := hide (drw (w.alloc (.cells #[.int .i64 x.1, .bool x.2] 74)))
  have HP2 := hide h.ok.l2
  clear h aw X0 es
  obtain ⟨f, hf⟩ : ∃ f, stt (P.pg.getD i Pg.zero) = f := ⟨_, rfl⟩
  obtain ⟨t, ht⟩ : ∃ t, stt x = t := ⟨_, rfl⟩
  have f1 := stt_pos (P.pg.getD i Pg.zero)
  have t1 := stt_pos x
  have HF := hide hf
  have HT := hide ht
  have HX := hide hx
  rw [hf] at SA f1
  rw [ht] at ST t1
  obtain ⟨c, l⟩ := x
  clear hf ht hx
  simp only at *
  go_enter Tryz.func59, Tryz.ntmps59
  go_wp2
  go_region_with (first
    | (go_at_call 14; refine (SA.out _ (bt AW.out HB.out)).mono ?_; rintro _ wz ⟨rfl, hb⟩; have HB := hide (bt HB.out hb); obtain ⟨z0, z1⟩ := X.out _ HB.out; clear hb)
    | (go_at_call 50; refine (ST.out _).mono ?_; rintro _ wz ⟨rfl, hb⟩; have HB := hide (bt HB.out hb); obtain ⟨z0, z1⟩ := X.out _ HB.out; clear hb))
  all_goals
    have QZ := hide (HM.out.q.keep (bt AW.out HB.out))
    have BZ := hide (bt AW.out HB.out)
    have c1 := (QZ.out.keep (drw _)).c1
    have z0 : wz.drew.cell? ⟨w.heap.size, 0, none⟩ = some (.int .i64 c) := z0
    have z1 : wz.drew.cell? ⟨w.heap.size, 1, none⟩ = some (.bool l) := z1
    have g1 := QZ.out.pgf (i * 2)
    have g2 := QZ.out.pgf (i * 2 + 1)
    obtain ⟨d1, d2⟩ := QZ.out.pgAt hi
    have d3 : wz.drew.cell? ⟨D.g, i * 2, none⟩ = _ := d1
    have d4 : wz.drew.cell? ⟨D.g, i * 2 + 1, none⟩ = _ := d2
    have g3 : wz.drew.frozen? ⟨D.g, i * 2, none⟩ = false := g1
    have g4 : wz.drew.frozen? ⟨D.g, i * 2 + 1, none⟩ = false := g2
    have s1 : IntKind.i64.wrap (i : Int) = (i : Int) := wrapI (by have := HP2.out; omega) (by have := HP2.out; omega)
    have s2 : wrap64 (i : Int) = (i : Int) := by unfold wrap64; have := HP2.out; omega
    have hiI : (i : Int) < (P.pg.length : Int) := by omega
    clear HB
    go_wp2
    go_region
  all_goals
    have hh := set_page QZ.out.pgs i (c, l)
    have hbu : But (fun k => k = D.g) wz ((wz.setCell ⟨D.g, i * 2, none⟩ (.int .i64 c)).setCell ⟨D.g, i * 2 + 1, none⟩ (.bool l)).drew := (((But.refl (fun k => k = D.g) wz).setCell (p := ⟨D.g, i * 2, none⟩) (fun _ => rfl) _).setCell (p := ⟨D.g, i * 2 + 1, none⟩) (fun _ => rfl) _).drew
    have Q2 := hide (QZ.out.page (i + 1) (c, l) hh hbu)
    have B2 := hide hbu
    clear hh hbu z0 z1 d1 d2 d3 d4 g1 g2 g3 g4 c1
    generalize ((wz.setCell ⟨D.g, i * 2, none⟩ (.int .i64 c)).setCell ⟨D.g, i * 2 + 1, none⟩ (.bool l)).drew = W2 at *
    have cf := Q2.out.cin (s := f) (by omega)
    by_cases hft : f = t
    · subst hft
      have eft : (f == f) = true := by simp
      go_wp2
      go_end0
      refine ⟨rfl, col, ⟨D, Q2.out, HM.out.ok.put _ _ HX.out, fun s hs z => ?_⟩, (Fr.keep BZ.out).trans ⟨B2.out.mono fun k _ hk => by rw [hk, HM.out.q.cg]; decide, fun _ _ => rfl⟩⟩
      rw [HM.out.mem s hs z]
      exact (inS_same (by omega) h2 (by rw [show i + 1 - 1 = i from rfl, HF.out, HT.out]) z).symm
    · have eft : ((f : Int) == (t : Int)) = false := by simp; omega
      have ct := Q2.out.cin (s := t) (by omega)
      have RM := hide (Remove_any W2 (D.s f) (D.a f) (D.c f) (D.L f) ((i : Int) + 1) ((i : Int) + 1) (Q2.out.set f (by omega)) (by have := HP2.out; unfold Nm; omega) (by have := HP2.out; unfold Nm; omega) (by have := HM.out.few (s := f) (by omega); omega))
      go_wp2_with fail
      refine RM.out.mono ?_
      rintro _ w3 ⟨rfl, a3, k3, L3, hS3, hH3, -, hN3, hB3⟩
      have Q3 := hide (Q2.out.oneSet (s := f) (by omega) hS3 hN3 hB3)
      have F3 := hide (show Fr W2 col w3 (recol col W2 w3 (3 + f)) from ⟨hB3.mono fun k _ hk => by
        rcases hk with rfl | ⟨y, hy, rfl⟩
        · rw [HM.out.q.cs f (by omega)]; omega
        · rw [HM.out.q.ca f (by omega) y hy]; omega, fun k hk => recol_old hk⟩)
      have H3 := hide hH3
      clear hS3 hN3 hB3 hH3 RM cf ct
      have ct := Q3.out.cin (s := t) (by omega)
      have AD := hide (Add_any w3 (D.s t) (upd D.a f a3 t) (upd D.c f k3 t) (upd D.L f L3 t) ((i : Int) + 1) ((i : Int) + 1) (Q3.out.set t (by omega)) (by have := HP2.out; unfold Nm; omega) (by have := HP2.out; unfold Nm; omega) (by rw [upd_ne _ _ (fun e => hft e.symm)]; have := HM.out.few (s := t) (by omega); omega))
      rw [upd_ne D.L _ (fun e => hft e.symm)] at AD
      go_wp2_with fail
      refine AD.out.mono ?_
      rintro _ w4 ⟨rfl, a4, k4, L4, hS4, hH4, -, hN4, hB4⟩
      have Q4 := hide (Q3.out.oneSet (s := t) (by omega) hS4 hN4 hB4)
      have F4 := hide (show Fr w3 (recol col W2 w3 (3 + f)) w4 (recol (recol col W2 w3 (3 + f)) w3 w4 (3 + t)) from ⟨hB4.mono fun k _ hk => by
        rcases hk with rfl | ⟨y, hy, rfl⟩
        · rw [Q3.out.cs t (by omega)]; omega
        · rw [Q3.out.ca t (by omega) y hy]; omega, fun k hk => recol_old hk⟩)
      have H4 := hide hH4
      clear hS4 hN4 hB4 hH4 AD ct
      go_wp2
      go_end0
      refine ⟨rfl, _, ⟨_, Q4.out, HM.out.ok.put _ _ HX.out, fun s hs z => ?_⟩, (Fr.keep BZ.out).trans ((Fr.trans ⟨B2.out.mono fun k _ hk => by rw [hk, HM.out.q.cg]; decide, fun _ _ => rfl⟩ F3.out).trans F4.out)⟩
      show has (upd (upd D.L f L3) t L4 s) z = inS (P.pg.set (i + 1 - 1) (c, l)) s z
      rw [inS_set (by omega) h2]
      have ez : (decide ((i : Int) + 1 ≤ z) && decide (z ≤ (i : Int) + 1)) = decide (z = ((i + 1 : Nat) : Int)) := by
        by_cases hz : z = ((i + 1 : Nat) : Int)
        · rw [decide_eq_true hz, decide_eq_true (by omega), decide_eq_true (by omega)]; rfl
        · rw [decide_eq_false hz]
          by_cases h3 : (i : Int) + 1 ≤ z
          · rw [decide_eq_false (show ¬ z ≤ (i : Int) + 1 by omega), Bool.and_false]
          · rw [decide_eq_false h3, Bool.false_and]
      have e0 : inS P.pg s (((i + 1 : Nat)) : Int) = decide (f = s) := by rw [inS_at (by omega) h2, show i + 1 - 1 = i from rfl, HF.out]
      by_cases hst : s = t
      · subst hst
        rw [upd_same, H4.out, ez, HM.out.mem s hs]
        by_cases hz : z = ((i + 1 : Nat) : Int)
        · rw [if_pos hz, decide_eq_true hz, Bool.or_true, HT.out]; simp
        · rw [if_neg hz, decide_eq_false hz, Bool.or_false]
      · rw [upd_ne _ _ hst]
        by_cases hsf : s = f
        · subst hsf
          rw [upd_same, H3.out, ez, HM.out.mem s hs]
          by_cases hz : z = ((i + 1 : Nat) : Int)
          · rw [if_pos hz, decide_eq_true hz, HT.out, decide_eq_false (fun e => hst e.symm)]; simp
          · rw [if_neg hz, decide_eq_false hz]; simp
        · rw [upd_ne _ _ hsf, HM.out.mem s hs]
          by_cases hz : z = ((i + 1 : Nat) : Int)
          · rw [if_pos hz, hz, e0, HT.out, decide_eq_false (fun e => hsf e.symm), decide_eq_false (fun e => hst e.symm)]
          · rw [if_neg hz]
end Go.Proofs.YtceeeofkigkpkaaGreat
