import Derived.Test.YtbobnfjbbablkabZV
import Derived.Test.YtbobnfjbbablkabZT
namespace Go.Proofs.Ytbobnfjbbablkab
open Go.RowKit

set_option maxHeartbeats 800000 in
theorem eKey_any (w : World) (a : Option Addr) (n c : Nat) (l : List Nat) (hn : n = l.length) :
    Calls Try.prog 42 #[.slice a n c] w fun e w' => e = .returned (.bool (isK l)) ∧ w' = w := by
  subst hn
  unfold isK
  by_cases h1 : 0 < l.length
  · have q1 : (1 : Int) ≤ (l.length : Int) := by omega
    by_cases h2 : l.length ≤ 24
    · have q2 : (l.length : Int) ≤ 24 := by omega
      rw [decide_eq_true h1, decide_eq_true h2]
      go_enter Try.func42, Try.ntmps42
      go_wp2
      go_ret
      exact ⟨by simp, rfl⟩
    · have q2 : ¬ (l.length : Int) ≤ 24 := by omega
      rw [decide_eq_true h1, decide_eq_false h2]
      go_enter Try.func42, Try.ntmps42
      go_wp2
      go_ret
      exact ⟨by simp, rfl⟩
  · have q1 : ¬ (1 : Int) ≤ (l.length : Int) := by omega
    rw [decide_eq_false h1]
    go_enter Try.func42, Try.ntmps42
    go_wp2
    go_ret
    exact ⟨by simp, rfl⟩
set_option maxHeartbeats 1600000 in
theorem eFrom_own (w : World) (a : Option Addr) (n c : Nat) (l : List Nat) (hB : Bs w a l) (hn : n = l.length) (hcap : l.length ≤ c) :
    Calls Try.prog 37 #[.slice a n c] w fun e w' => ∃ a' c', e = .returned (.slice a' (least l).length c') ∧ Bs w' a' (least l) ∧ (least l).length ≤ c' ∧ Below w.heap.size w w' ∧ New w none a' := by
  subst hn
  have K := hide (eKey_any w a l.length c l rfl)
  cases h : isK l with
  | true =>
    rw [h] at K
    have R := hide (CopyBytes_any w a l.length c l hB rfl (by have := isK_iff.1 h; omega))
    have HN := hide (least_yes h)
    have H8 := hide (B8_of hB)
    clear hB h
    go_enter Try.func37, Try.ntmps37
    go_wp2_with fail
    refine K.out.mono ?_
    rintro e w1 ⟨rfl, hw⟩
    obtain rfl := hw.symm
    go_wp2_with fail
    refine R.out.mono ?_
    rintro e w1 ⟨a1, c1, rfl, r1, n1, b1⟩
    have R1 := hide r1
    have B1 := hide b1
    have N1 := hide n1
    clear r1 n1 b1
    go_wp2
    go_ret
    exact ⟨a1, c1, by rw [HN.out]; rfl, by rw [HN.out]; exact R1.out.bs H8.out R1.out.len_le, by rw [HN.out]; exact R1.out.cap, B1.out, N1.out⟩
  | false =>
    rw [h] at K
    have R := hide (eNext_own w a l.length c l hB rfl hcap)
    have HN := hide (least_no h)
    clear hB h
    go_enter Try.func37, Try.ntmps37
    go_wp2_with fail
    refine K.out.mono ?_
    rintro e w1 ⟨rfl, hw⟩
    obtain rfl := hw.symm
    go_wp2_with fail
    refine R.out.mono ?_
    rintro e w1 ⟨a', c', rfl, h1, h2, h3, h4⟩
    have H1 := hide h1
    have H2 := hide h2
    have H3 := hide h3
    have H4 := hide h4
    clear h1 h2 h3 h4
    go_wp2
    go_ret
    exact ⟨a', c', by rw [HN.out]; first | rfl | simp, by rw [HN.out]; exact H1.out, by rw [HN.out]; exact H2.out, H3.out, H4.out⟩
theorem eFrom_any (w : World) (a : Option Addr) (n c : Nat) (l : List Nat) (hB : Bs w a l) (hn : n = l.length) (hcap : l.length ≤ c) :
    Calls Try.prog 37 #[.slice a n c] w fun e w' => ∃ a' c', e = .returned (.slice a' (least l).length c') ∧ Bs w' a' (least l) ∧ (least l).length ≤ c' ∧ Below w.heap.size w w' :=
  (eFrom_own w a n c l hB hn hcap).mono fun _ _ ⟨a', c', h1, h2, h3, h4, _⟩ => ⟨a', c', h1, h2, h3, h4⟩
set_option maxHeartbeats 1600000 in
theorem eHas_any (w : World) (r : Rv) (a : Option Addr) (n c : Nat) (k : List Nat) (hR : Ri w r) (hK : Bs w a k) (hn : n = k.length) :
    Calls Try.prog 38 #[r.val, .slice a n c] w fun e w' => e = .returned (.bool (has r.rg k)) ∧ Below w.heap.size w w' := by
  subst hn
  obtain ⟨aL, cL, lo, aH, cH, hi, op⟩ := r
  have KE := hide fun w1 => eKey_any w1 a k.length c k rfl
  have C1 := hide fun w1 (hb : Below w.heap.size w w1) => Compare_any w1 a aL k.length lo.length c cL k lo (hK.keep hb) (hR.bl.keep hb) rfl rfl
  have C2 := hide fun w1 (hb : Below w.heap.size w w1) => Compare_any w1 a aH k.length hi.length c cH k hi (hK.keep hb) (hR.bh.keep hb) rfl rfl
  clear hR hK
  unfold Rv.val Rv.cs has Rv.rg
  dsimp only
  generalize cmpB k lo = z1 at *
  generalize cmpB k hi = z2 at *
  cases hk : isK k with
  | false =>
    rw [hk] at KE
    clear hk
    go_enter Try.func38, Try.ntmps38
    go_wp2_with fail
    refine (KE.out _).mono ?_
    rintro e w1 ⟨rfl, hw⟩
    obtain rfl := hw.symm
    go_wp2
    go_ret
    exact ⟨by simp, al _ _⟩
  | true =>
    rw [hk] at KE
    clear hk
    by_cases h1 : 0 ≤ z1
    · cases op with
      | true =>
        go_enter Try.func38, Try.ntmps38
        go_wp2_with fail
        refine (KE.out _).mono ?_
        rintro e w1 ⟨rfl, hw⟩
        obtain rfl := hw.symm
        go_wp2_with fail
        refine (C1.out _ (al _ _)).mono ?_
        rintro e w2 ⟨rfl, hb⟩
        have mm := (hb.block w.heap.size (by rw [size_alloc]; omega)).trans (heap_alloc_new _ _)
        obtain ⟨m0, m1, m2⟩ := row3_cells mm
        have HB2 := hide (bt (al _ _) hb)
        clear hb mm
        go_wp2
        go_ret
        exact ⟨by simp [h1], HB2.out⟩
      | false =>
        go_enter Try.func38, Try.ntmps38
        go_wp2_with fail
        refine (KE.out _).mono ?_
        rintro e w1 ⟨rfl, hw⟩
        obtain rfl := hw.symm
        go_wp2_with fail
        refine (C1.out _ (al _ _)).mono ?_
        rintro e w2 ⟨rfl, hb⟩
        have mm := (hb.block w.heap.size (by rw [size_alloc]; omega)).trans (heap_alloc_new _ _)
        obtain ⟨m0, m1, m2⟩ := row3_cells mm
        have HB2 := hide (bt (al _ _) hb)
        clear hb mm
        go_wp2_with fail
        refine (C2.out _ HB2.out).mono ?_
        rintro e w3 ⟨rfl, hb⟩
        have HB3 := hide (bt HB2.out hb)
        clear hb
        go_wp2
        go_ret
        exact ⟨by simp [h1], HB3.out⟩
    · go_enter Try.func38, Try.ntmps38
      go_wp2_with fail
      refine (KE.out _).mono ?_
      rintro e w1 ⟨rfl, hw⟩
      obtain rfl := hw.symm
      go_wp2_with fail
      refine (C1.out _ (al _ _)).mono ?_
      rintro e w2 ⟨rfl, hb⟩
      have HB2 := hide (bt (al _ _) hb)
      clear hb
      go_wp2
      go_ret
      exact ⟨by simp; omega, HB2.out⟩
/-- the ends as they are told -/
def endL (f : Option Fm) : List Nat := match f with | none => [] | some f => f.1
def endH (f : Option Fm) : List Nat := match f with | none => [] | some f => f.2
theorem least_nil {r : Rg} (h : least r.lo = []) : has r (least r.lo) = false := by rw [h]; unfold has; simp [isK]
set_option maxHeartbeats 3200000 in
theorem eends_own (w : World) (r : Rv) (hR : Ri w r) :
    Calls Try.prog 23 #[r.val] w fun e w' => ∃ a1 c1 a2 c2, e = .returned (.tuple #[.slice a1 (endL (form r.rg)).length c1, .slice a2 (endH (form r.rg)).length c2, .bool (form r.rg).isSome]) ∧ Bs w' a1 (endL (form r.rg)) ∧ Bs w' a2 (endH (form r.rg)) ∧ (endL (form r.rg)).length ≤ c1 ∧ (endH (form r.rg)).length ≤ c2 ∧ Below w.heap.size w w' ∧ New w none a1 ∧ New w none a2 := by
  have L8 := hide (least_b8 hR.bl.1)
  have F1 := hide (@form_no r.rg)
  have F2 := hide (@form_open r.rg)
  have F3 := hide (@form_to r.rg)
  have NL := hide (@least_nil r.rg)
  have LE := hide fun w1 (hb : Below w.heap.size w w1) => eFrom_own w1 r.aL r.lo.length r.cL r.lo (hR.bl.keep hb) rfl hR.cl
  have LH := hide fun w1 (hb : Below w.heap.size w w1) => eFrom_own w1 r.aH r.hi.length r.cH r.hi (hR.bh.keep hb) rfl hR.ch
  have HH := hide fun w1 (hb : Below w.heap.size w w1) a c k (hK : Bs w1 a k) => eHas_any w1 r a k.length c k (hR.keep hb) hK rfl
  clear hR
  unfold Rv.val Rv.cs at HH ⊢
  obtain ⟨aL, cL, lo, aH, cH, hi, op⟩ := r
  dsimp only [Rv.rg] at *
  by_cases h0 : least lo = []
  · have HF := hide (F1.out (NL.out h0))
    have hz : ((((least lo).length : Nat) : Int) == 0) = true := by rw [h0]; rfl
    go_enter Try.func23, Try.ntmps23
    go_wp2_with fail
    refine (LE.out _ (al _ _)).mono ?_
    rintro e w1 ⟨a1, c1, rfl, b1, _, hb, _⟩
    have HB1 := hide (bt (al _ _) hb)
    clear hb b1
    go_wp2
    refine bodyPost_ret (results_tmp3 Try.results23 _ _ _) rfl ?_
    rw [HF.out]
    exact ⟨none, 0, none, 0, rfl, Bs.nil _, Bs.nil _, Nat.le_refl _, Nat.le_refl _, HB1.out, New.none _ _, New.none _ _⟩
  · have hz : ((((least lo).length : Nat) : Int) == 0) = false := by rw [len0]; simp [h0]
    cases hh : has ⟨lo, hi, op⟩ (least lo) with
    | false =>
      have HF := hide (F1.out hh)
      have HH' := hide fun w1 hb a c hK => HH.out w1 hb a c (least lo) hK
      rw [hh] at HH'
      clear hh HH h0
      generalize least lo = t at *
      go_enter Try.func23, Try.ntmps23
      go_wp2_with fail
      refine (LE.out _ (al _ _)).mono ?_
      rintro e w1 ⟨a1, c1, rfl, b1, _, hb, _⟩
      have mm := (hb.block w.heap.size (by rw [size_alloc]; omega)).trans (heap_alloc_new _ _)
      obtain ⟨m0, m1, m2⟩ := row3_cells mm
      have HB1 := hide (bt (al _ _) hb)
      have B1 := hide b1
      clear hb b1 mm
      go_wp2_with fail
      refine (HH'.out _ HB1.out a1 c1 B1.out).mono ?_
      rintro e w2 ⟨rfl, hb⟩
      have HB2 := hide (bt HB1.out hb)
      clear hb
      go_wp2
      refine bodyPost_ret (results_tmp3 Try.results23 _ _ _) rfl ?_
      rw [HF.out]
      exact ⟨none, 0, none, 0, rfl, Bs.nil _, Bs.nil _, Nat.le_refl _, Nat.le_refl _, HB2.out, New.none _ _, New.none _ _⟩
    | true =>
      have HH' := hide fun w1 hb a c hK => HH.out w1 hb a c (least lo) hK
      rw [hh] at HH'
      cases op with
      | true =>
        have HF := hide (F2.out hh rfl)
        clear hh HH h0
        generalize least lo = t at *
        go_enter Try.func23, Try.ntmps23
        go_wp2_with fail
        refine (LE.out _ (al _ _)).mono ?_
        rintro e w1 ⟨a1, c1, rfl, b1, q1, hb, n1⟩
        have mm := (hb.block w.heap.size (by rw [size_alloc]; omega)).trans (heap_alloc_new _ _)
        obtain ⟨m0, m1, m2⟩ := row3_cells mm
        have MM := hide mm
        have HB1 := hide (bt (al _ _) hb)
        have B1 := hide b1
        have N1 := hide (n1.mono (al w _).size)
        clear n1
        have HS : Hid (w.heap.size < w1.heap.size) := by have := hb.size; rw [size_alloc] at this; show _ < _; omega
        clear hb b1 mm
        go_wp2_with fail
        refine (HH'.out _ HB1.out a1 c1 B1.out).mono ?_
        rintro e w2 ⟨rfl, hb⟩
        clear m0 m1 m2
        obtain ⟨m0, m1, m2⟩ := row3_cells ((hb.block w.heap.size HS.out).trans MM.out)
        have HB2 := hide (bt HB1.out hb)
        have B2 := hide (B1.out.keep hb)
        clear hb
        go_wp2
        refine bodyPost_ret (results_tmp3 Try.results23 _ _ _) rfl ?_
        rw [HF.out]
        exact ⟨a1, c1, none, 0, rfl, B2.out, Bs.nil _, q1, Nat.le_refl _, HB2.out, N1.out, New.none _ _⟩
      | false =>
        have HF := hide (F3.out hh rfl)
        clear hh HH h0
        generalize least lo = t at *
        generalize least hi = u at *
        go_enter Try.func23, Try.ntmps23
        go_wp2_with fail
        refine (LE.out _ (al _ _)).mono ?_
        rintro e w1 ⟨a1, c1, rfl, b1, q1, hb, n1⟩
        have mm := (hb.block w.heap.size (by rw [size_alloc]; omega)).trans (heap_alloc_new _ _)
        obtain ⟨m0, m1, m2⟩ := row3_cells mm
        have MM := hide mm
        have HB1 := hide (bt (al _ _) hb)
        have B1 := hide b1
        have N1 := hide (n1.mono (al w _).size)
        clear n1
        have HS : Hid (w.heap.size < w1.heap.size) := by have := hb.size; rw [size_alloc] at this; show _ < _; omega
        clear hb b1 mm
        go_wp2_with fail
        refine (HH'.out _ HB1.out a1 c1 B1.out).mono ?_
        rintro e w2 ⟨rfl, hb⟩
        clear m0 m1 m2
        obtain ⟨m0, m1, m2⟩ := row3_cells ((hb.block w.heap.size HS.out).trans MM.out)
        have HB2 := hide (bt HB1.out hb)
        have B2 := hide (B1.out.keep hb)
        clear hb
        go_wp2_with fail
        refine (LH.out _ HB2.out).mono ?_
        rintro e w3 ⟨a3, c3, rfl, b3, q3, hb, n3⟩
        have N3 := hide (n3.mono HB2.out.size)
        clear n3
        have HB3 := hide (bt HB2.out hb)
        have B23 := hide (B2.out.keep hb)
        have B3 := hide b3
        clear hb b3
        go_wp2
        refine bodyPost_ret (results_tmp3 Try.results23 _ _ _) rfl ?_
        rw [HF.out]
        exact ⟨a1, c1, a3, c3, rfl, B23.out, B3.out, q1, q3, HB3.out, N1.out, N3.out⟩
theorem eends_any (w : World) (r : Rv) (hR : Ri w r) :
    Calls Try.prog 23 #[r.val] w fun e w' => ∃ a1 c1 a2 c2, e = .returned (.tuple #[.slice a1 (endL (form r.rg)).length c1, .slice a2 (endH (form r.rg)).length c2, .bool (form r.rg).isSome]) ∧ Bs w' a1 (endL (form r.rg)) ∧ Bs w' a2 (endH (form r.rg)) ∧ (endL (form r.rg)).length ≤ c1 ∧ (endH (form r.rg)).length ≤ c2 ∧ Below w.heap.size w w' :=
  (eends_own w r hR).mono fun _ _ ⟨a1, c1, a2, c2, h1, h2, h3, h4, h5, h6, _⟩ => ⟨a1, c1, a2, c2, h1, h2, h3, h4, h5, h6⟩
end Go.Proofs.Ytbobnfjbbablkab
