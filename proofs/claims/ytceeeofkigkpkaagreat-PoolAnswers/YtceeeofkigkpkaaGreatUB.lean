import Derived.Test.YtceeeofkigkpkaaGreatUA
namespace Go.Proofs.YtceeeofkigkpkaaGreat

/-! ### what Add, Remove, parts and gaps make: plain mathematics -/
theorem mem_split {A M B : List Rn} {r : Rn} : r ∈ A ++ M ++ B ↔ r ∈ A ∨ r ∈ M ∨ r ∈ B := by simp
theorem pw_split {R : Rn → Rn → Prop} {A M B : List Rn} : (A ++ M ++ B).Pairwise R ↔ A.Pairwise R ∧ M.Pairwise R ∧ B.Pairwise R ∧ (∀ a ∈ A, ∀ m ∈ M, R a m) ∧ (∀ a ∈ A, ∀ b ∈ B, R a b) ∧ (∀ m ∈ M, ∀ b ∈ B, R m b) := by
  rw [List.pairwise_append, List.pairwise_append]
  constructor
  · rintro ⟨⟨h1, h2, h3⟩, h4, h5⟩
    exact ⟨h1, h2, h4, h3, fun a ha b hb => h5 a (by simp [ha]) b hb, fun m hm b hb => h5 m (by simp [hm]) b hb⟩
  · rintro ⟨h1, h2, h4, h3, h5, h6⟩
    exact ⟨⟨h1, h2, h3⟩, h4, fun a ha b hb => (List.mem_append.1 ha).elim (fun h => h5 a h b hb) (fun h => h6 a h b hb)⟩
/-- the first and the last of runs that rise -/
theorem ends {M : List Rn} (hM : Ris M) (h0 : M ≠ []) : ∀ m ∈ M, (M.head h0).1 ≤ m.1 ∧ m.2 ≤ (M.getLast h0).2 := by
  intro m hm
  constructor
  · cases M with
    | nil => exact absurd rfl h0
    | cons r M =>
      rcases List.mem_cons.1 hm with rfl | hm
      · exact Int.le_refl _
      · have h1 := (List.pairwise_cons.1 hM.2).1 m hm
        have h2 := hM.1 r (by simp)
        show r.1 ≤ m.1
        omega
  · have e := List.dropLast_concat_getLast h0
    rw [← e] at hm
    rcases List.mem_append.1 hm with hm | hm
    · have hp := hM.2
      rw [← e, List.pairwise_append] at hp
      have h1 := hp.2.2 m hm _ (List.mem_singleton.2 rfl)
      have h2 := hM.1 _ (List.getLast_mem h0)
      omega
    · rw [List.mem_singleton] at hm
      rw [hm]
      exact Int.le_refl _

/-- Add's run -/
def joinLo (M : List Rn) (lo : Int) : Int := match M with | [] => lo | r :: _ => min lo r.1
def joinHi (M : List Rn) (hi : Int) : Int := match M.getLast? with | none => hi | some r => max hi r.2
theorem joinLo_ne {M : List Rn} (h0 : M ≠ []) (lo : Int) : joinLo M lo = min lo (M.head h0).1 := by
  cases M with
  | nil => exact absurd rfl h0
  | cons r M => rfl
theorem joinHi_ne {M : List Rn} (h0 : M ≠ []) (hi : Int) : joinHi M hi = max hi (M.getLast h0).2 := by
  unfold joinHi
  rw [List.getLast?_eq_some_getLast h0]
theorem add_can {L A M B : List Rn} {lo hi x y mn mx : Int} (hL : Can L) (hb : ∀ r ∈ L, mn ≤ r.1 ∧ r.2 ≤ mx) (hle : lo ≤ hi) (h1 : mn ≤ lo) (h2 : hi ≤ mx) (hx : x = max mn (lo - 1)) (hy : y = min mx (hi + 1)) (S : Spl L x y A M B) :
    Can (A ++ [(joinLo M lo, joinHi M hi)] ++ B) ∧ (∀ z, has (A ++ [(joinLo M lo, joinHi M hi)] ++ B) z = (has L z || (decide (lo ≤ z) && decide (z ≤ hi)))) ∧
      mn ≤ joinLo M lo ∧ joinHi M hi ≤ mx ∧ joinLo M lo ≤ lo ∧ hi ≤ joinHi M hi ∧ (∀ r ∈ A, r.2 + 1 < joinLo M lo) := by
  have e := S.eq
  have hp := hL.2
  rw [e, pw_split] at hp
  obtain ⟨p1, p2, p3, p4, p5, p6⟩ := hp
  have inL : ∀ r, r ∈ A ∨ r ∈ M ∨ r ∈ B → r ∈ L := fun r hr => by rw [e]; exact mem_split.2 hr
  have hM : Ris M := ⟨fun r hr => hL.1 r (inL r (.inr (.inl hr))), p2.imp (fun h => by omega)⟩
  have hA : ∀ r ∈ A, r.2 + 1 < lo := fun r hr => by
    have a1 := S.a r hr
    have a2 := hb r (inL r (.inl hr))
    have a3 := hL.1 r (inL r (.inl hr))
    omega
  have hB : ∀ r ∈ B, hi + 1 < r.1 := fun r hr => by
    have a1 := S.b r hr
    have a2 := hb r (inL r (.inr (.inr hr)))
    have a3 := hL.1 r (inL r (.inr (.inr hr)))
    omega
  by_cases h0 : M = []
  · subst h0
    have e1 : joinLo [] lo = lo := rfl
    have e2 : joinHi [] hi = hi := rfl
    rw [e1, e2]
    refine ⟨⟨?_, ?_⟩, ?_, h1, h2, Int.le_refl _, Int.le_refl _, hA⟩
    · intro r hr
      rcases mem_split.1 hr with hr | hr | hr
      · exact hL.1 r (inL r (.inl hr))
      · rw [List.mem_singleton] at hr
        rw [hr]
        exact hle
      · exact hL.1 r (inL r (.inr (.inr hr)))
    · rw [pw_split]
      refine ⟨p1, by simp, p3, ?_, p5, ?_⟩
      · intro a ha m hm
        rw [List.mem_singleton] at hm
        rw [hm]
        exact hA a ha
      · intro m hm b hb'
        rw [List.mem_singleton] at hm
        rw [hm]
        exact hB b hb'
    · intro z
      rw [e, has_append, has_append, has_append, has_append, has_cons]
      show (has A z || (_ && _ || has [] z) || has B z) = _
      rw [has_nil]
      cases has A z <;> cases has B z <;> simp
  · have E := ends hM h0
    rw [joinLo_ne h0, joinHi_ne h0]
    have hh := List.head_mem h0
    have hl := List.getLast_mem h0
    obtain ⟨m1, m2⟩ := S.m _ hh
    obtain ⟨m3, m4⟩ := S.m _ hl
    have b1 := hb _ (inL _ (.inr (.inl hh)))
    have b2 := hb _ (inL _ (.inr (.inl hl)))
    have c1 := hM.1 _ hh
    have c2 := hM.1 _ hl
    have E1 := (E _ hl).1
    generalize hf : M.head h0 = f at *
    generalize hg : M.getLast h0 = g at *
    refine ⟨⟨?_, ?_⟩, ?_, by omega, by omega, by omega, by omega, ?_⟩
    · intro r hr
      rcases mem_split.1 hr with hr | hr | hr
      · exact hL.1 r (inL r (.inl hr))
      · rw [List.mem_singleton] at hr
        rw [hr]
        show min lo f.1 ≤ max hi g.2
        omega
      · exact hL.1 r (inL r (.inr (.inr hr)))
    · rw [pw_split]
      refine ⟨p1, by simp, p3, ?_, p5, ?_⟩
      · intro a ha m hm
        rw [List.mem_singleton] at hm
        rw [hm]
        have a1 := hA a ha
        have a2 := p4 a ha f hh
        show a.2 + 1 < min lo f.1
        omega
      · intro m hm b hb'
        rw [List.mem_singleton] at hm
        rw [hm]
        have a1 := hB b hb'
        have a2 := p6 g hl b hb'
        show max hi g.2 + 1 < b.1
        omega
    · intro z
      rw [e, has_append, has_append, has_append, has_append, has_cons]
      show (has A z || (decide (min lo f.1 ≤ z) && decide (z ≤ max hi g.2) || has [] z) || has B z) = _
      rw [has_nil, Bool.or_false]
      have key : (decide (min lo f.1 ≤ z) && decide (z ≤ max hi g.2)) = (has M z || (decide (lo ≤ z) && decide (z ≤ hi))) := by
        rw [Bool.eq_iff_iff]
        simp only [Bool.and_eq_true, Bool.or_eq_true, decide_eq_true_eq, has_iff]
        constructor
        · rintro ⟨z1, z2⟩
          by_cases d1 : lo ≤ z
          · by_cases d2 : z ≤ hi
            · exact .inr ⟨d1, d2⟩
            · exact .inl ⟨g, hl, by omega, by omega⟩
          · exact .inl ⟨f, hh, by omega, by omega⟩
        · rintro (⟨r, hr, z1, z2⟩ | ⟨z1, z2⟩)
          · have := E r hr
            omega
          · omega
      rw [key]
      cases has A z <;> cases has B z <;> cases has M z <;> simp
    · intro r hr
      have a1 := hA r hr
      have a2 := p4 r hr f hh
      omega

/-- what Remove leaves of the runs that meet -/
def left (M : List Rn) (lo hi : Int) : List Rn :=
  (match M with | [] => [] | r :: _ => if r.1 < lo then [(r.1, lo - 1)] else []) ++ (match M.getLast? with | none => [] | some r => if hi < r.2 then [(hi + 1, r.2)] else [])
theorem left_nil (lo hi : Int) : left [] lo hi = [] := rfl
theorem left_ne {M : List Rn} (h0 : M ≠ []) (lo hi : Int) : left M lo hi = (if (M.head h0).1 < lo then [((M.head h0).1, lo - 1)] else []) ++ (if hi < (M.getLast h0).2 then [(hi + 1, (M.getLast h0).2)] else []) := by
  unfold left
  rw [List.getLast?_eq_some_getLast h0]
  cases M with
  | nil => exact absurd rfl h0
  | cons r M => rfl
theorem left_mem {M : List Rn} {lo hi : Int} (h0 : M ≠ []) {r : Rn} (hr : r ∈ left M lo hi) : (r = ((M.head h0).1, lo - 1) ∧ (M.head h0).1 < lo) ∨ (r = (hi + 1, (M.getLast h0).2) ∧ hi < (M.getLast h0).2) := by
  rw [left_ne h0, List.mem_append] at hr
  rcases hr with hr | hr
  · by_cases c : (M.head h0).1 < lo
    · rw [if_pos c, List.mem_singleton] at hr
      exact .inl ⟨hr, c⟩
    · rw [if_neg c] at hr
      cases hr
  · by_cases c : hi < (M.getLast h0).2
    · rw [if_pos c, List.mem_singleton] at hr
      exact .inr ⟨hr, c⟩
    · rw [if_neg c] at hr
      cases hr
theorem remove_can {L A M B : List Rn} {lo hi mn mx : Int} (hL : Can L) (hb : ∀ r ∈ L, mn ≤ r.1 ∧ r.2 ≤ mx) (hle : lo ≤ hi) (S : Spl L lo hi A M B) :
    Can (A ++ left M lo hi ++ B) ∧ (∀ z, has (A ++ left M lo hi ++ B) z = (has L z && !(decide (lo ≤ z) && decide (z ≤ hi)))) ∧ (∀ r ∈ A ++ left M lo hi ++ B, mn ≤ r.1 ∧ r.2 ≤ mx) := by
  have e := S.eq
  have hp := hL.2
  rw [e, pw_split] at hp
  obtain ⟨p1, p2, p3, p4, p5, p6⟩ := hp
  have inL : ∀ r, r ∈ A ∨ r ∈ M ∨ r ∈ B → r ∈ L := fun r hr => by rw [e]; exact mem_split.2 hr
  have hM : Ris M := ⟨fun r hr => hL.1 r (inL r (.inr (.inl hr))), p2.imp (fun h => by omega)⟩
  have outA : ∀ z, lo ≤ z → has A z = false := fun z hz => (has_false _ _).2 fun r hr _ => by have := S.a r hr; omega
  have outB : ∀ z, z ≤ hi → has B z = false := fun z hz => (has_false _ _).2 fun r hr h1 => by have := S.b r hr; omega
  by_cases h0 : M = []
  · subst h0
    rw [left_nil, ← e]
    refine ⟨hL, fun z => ?_, hb⟩
    by_cases c : lo ≤ z ∧ z ≤ hi
    · rw [e, has_append, has_append, has_nil, outA z c.1, outB z c.2]
      simp
    · have : (decide (lo ≤ z) && decide (z ≤ hi)) = false := by
        rw [Bool.and_eq_false_iff, decide_eq_false_iff_not, decide_eq_false_iff_not]
        omega
      rw [this]
      simp
  · have E := ends hM h0
    have hh := List.head_mem h0
    have hl := List.getLast_mem h0
    obtain ⟨m1, m2⟩ := S.m _ hh
    obtain ⟨m3, m4⟩ := S.m _ hl
    have LM := @left_mem M lo hi h0
    have b1 := hb _ (inL _ (.inr (.inl hh)))
    have b2 := hb _ (inL _ (.inr (.inl hl)))
    refine ⟨⟨?_, ?_⟩, ?_, ?_⟩
    · intro r hr
      rcases mem_split.1 hr with hr | hr | hr
      · exact hL.1 r (inL r (.inl hr))
      · rcases LM hr with ⟨rfl, c⟩ | ⟨rfl, c⟩
        · show (M.head h0).1 ≤ lo - 1
          omega
        · show hi + 1 ≤ (M.getLast h0).2
          omega
      · exact hL.1 r (inL r (.inr (.inr hr)))
    · rw [pw_split]
      refine ⟨p1, ?_, p3, ?_, p5, ?_⟩
      · rw [left_ne h0, List.pairwise_append]
        refine ⟨by split <;> simp, by split <;> simp, ?_⟩
        intro a ha b hb'
        by_cases c1 : (M.head h0).1 < lo
        · rw [if_pos c1, List.mem_singleton] at ha
          by_cases c2 : hi < (M.getLast h0).2
          · rw [if_pos c2, List.mem_singleton] at hb'
            rw [ha, hb']
            show lo - 1 + 1 < hi + 1
            omega
          · rw [if_neg c2] at hb'
            cases hb'
        · rw [if_neg c1] at ha
          cases ha
      · intro a ha m hm
        rcases LM hm with ⟨rfl, c⟩ | ⟨rfl, c⟩
        · exact (p4 a ha (M.head h0) hh : a.2 + 1 < (M.head h0).1)
        · have := S.a a ha
          show a.2 + 1 < hi + 1
          omega
      · intro m hm b hb'
        rcases LM hm with ⟨rfl, c⟩ | ⟨rfl, c⟩
        · have := S.b b hb'
          show lo - 1 + 1 < b.1
          omega
        · exact (p6 (M.getLast h0) hl b hb' : (M.getLast h0).2 + 1 < b.1)
    · intro z
      rw [e, has_append, has_append, has_append, has_append]
      have key : has (left M lo hi) z = (has M z && !(decide (lo ≤ z) && decide (z ≤ hi))) := by
        rw [Bool.eq_iff_iff]
        simp only [Bool.and_eq_true, Bool.not_eq_true', Bool.and_eq_false_iff, decide_eq_false_iff_not, has_iff]
        constructor
        · rintro ⟨r, hr, z1, z2⟩
          rcases LM hr with ⟨rfl, c⟩ | ⟨rfl, c⟩
          · have z1' : (M.head h0).1 ≤ z := z1
            have z2' : z ≤ lo - 1 := z2
            exact ⟨⟨_, hh, z1', by omega⟩, by omega⟩
          · have z1' : hi + 1 ≤ z := z1
            have z2' : z ≤ (M.getLast h0).2 := z2
            exact ⟨⟨_, hl, by omega, z2'⟩, by omega⟩
        · rintro ⟨⟨r, hr, z1, z2⟩, c⟩
          have Er := E r hr
          have nz : (lo ≤ z → hi < z) := by omega
          rw [left_ne h0]
          by_cases c1 : z < lo
          · exact ⟨((M.head h0).1, lo - 1), by simp [show (M.head h0).1 < lo by omega], by show _ ≤ z; omega, by show z ≤ lo - 1; omega⟩
          · exact ⟨(hi + 1, (M.getLast h0).2), by simp [show hi < (M.getLast h0).2 by omega], by show hi + 1 ≤ z; omega, by show z ≤ _; omega⟩
      rw [key]
      by_cases c1 : lo ≤ z
      · rw [outA z c1]
        by_cases c2 : z ≤ hi
        · rw [outB z c2]
          simp [c1, c2]
        · simp [c1, c2]
      · simp [c1]
    · intro r hr
      rcases mem_split.1 hr with hr | hr | hr
      · exact hb r (inL r (.inl hr))
      · have e1 := E _ hh
        have e2 := E _ hl
        rcases LM hr with ⟨rfl, c⟩ | ⟨rfl, c⟩
        · show mn ≤ (M.head h0).1 ∧ lo - 1 ≤ mx
          omega
        · show mn ≤ hi + 1 ∧ (M.getLast h0).2 ≤ mx
          omega
      · exact hb r (inL r (.inr (.inr hr)))

/-- the runs that meet, as far as they lie from lo to hi -/
def clip (M : List Rn) (lo hi : Int) : List Rn := M.map fun r => (max lo r.1, min hi r.2)
theorem clip_ris {M : List Rn} {lo hi : Int} (hle : lo ≤ hi) (hM : Ris M) (hm : ∀ r ∈ M, lo ≤ r.2 ∧ r.1 ≤ hi) : Ris (clip M lo hi) ∧ (∀ r ∈ clip M lo hi, lo ≤ r.1 ∧ r.2 ≤ hi) := by
  refine ⟨⟨?_, ?_⟩, ?_⟩
  · intro r hr
    obtain ⟨s, hs, rfl⟩ := List.mem_map.1 hr
    have h1 := hm s hs
    have h2 := hM.1 s hs
    show max lo s.1 ≤ min hi s.2
    omega
  · unfold clip
    rw [List.pairwise_map]
    exact hM.2.imp (fun {a b} h => by show min hi a.2 < max lo b.1; omega)
  · intro r hr
    obtain ⟨s, hs, rfl⟩ := List.mem_map.1 hr
    show lo ≤ max lo s.1 ∧ min hi s.2 ≤ hi
    omega
theorem has_clip {L A M B : List Rn} {lo hi : Int} (S : Spl L lo hi A M B) (z : Int) : has (clip M lo hi) z = (has L z && (decide (lo ≤ z) && decide (z ≤ hi))) := by
  rw [Bool.eq_iff_iff]
  simp only [Bool.and_eq_true, decide_eq_true_eq, has_iff]
  constructor
  · rintro ⟨r, hr, h1, h2⟩
    obtain ⟨s, hs, rfl⟩ := List.mem_map.1 hr
    have h1' : max lo s.1 ≤ z := h1
    have h2' : z ≤ min hi s.2 := h2
    exact ⟨⟨s, by rw [S.eq]; exact mem_split.2 (.inr (.inl hs)), by omega, by omega⟩, by omega, by omega⟩
  · rintro ⟨⟨r, hr, h1, h2⟩, h3, h4⟩
    rw [S.eq] at hr
    rcases mem_split.1 hr with hr | hr | hr
    · have := S.a r hr
      omega
    · exact ⟨_, List.mem_map.2 ⟨r, hr, rfl⟩, by show max lo r.1 ≤ z; omega, by show z ≤ min hi r.2; omega⟩
    · have := S.b r hr
      omega

/-- what lies between -/
def gap (f : Int) (hi : Int) : List Rn → List Rn
  | [] => [(f, hi)]
  | p :: P => (if f < p.1 then [(f, p.1 - 1)] else []) ++ (if p.2 = hi then [] else gap (p.2 + 1) hi P)
theorem gap_spec : ∀ {P : List Rn} {f hi : Int}, f ≤ hi → Ris P → (∀ r ∈ P, f ≤ r.1 ∧ r.2 ≤ hi) →
    Ris (gap f hi P) ∧ (∀ r ∈ gap f hi P, f ≤ r.1 ∧ r.2 ≤ hi) ∧ (∀ z, has (gap f hi P) z = ((decide (f ≤ z) && decide (z ≤ hi)) && !has P z))
  | [], f, hi, hle, _, _ => by
    refine ⟨⟨?_, by simp [gap]⟩, ?_, fun z => ?_⟩
    · intro r hr
      rw [gap, List.mem_singleton] at hr
      rw [hr]
      exact hle
    · intro r hr
      rw [gap, List.mem_singleton] at hr
      rw [hr]
      exact ⟨Int.le_refl _, Int.le_refl _⟩
    · rw [gap, has_cons, has_nil]
      simp
  | p :: P, f, hi, hle, hP, hb => by
    have hp := hP.1 p (by simp)
    have bp := hb p (by simp)
    have pP := (List.pairwise_cons.1 hP.2).1
    have F1 : ∀ r ∈ (if f < p.1 then [(f, p.1 - 1)] else []), f < p.1 ∧ r = (f, p.1 - 1) := fun r hr => by
      by_cases c : f < p.1
      · rw [if_pos c, List.mem_singleton] at hr
        exact ⟨c, hr⟩
      · rw [if_neg c] at hr
        cases hr
    have H1 : ∀ z, has (if f < p.1 then [(f, p.1 - 1)] else []) z = (decide (f ≤ z) && decide (z < p.1)) := fun z => by
      by_cases c : f < p.1
      · rw [if_pos c, has_cons, has_nil, Bool.or_false]
        show (decide (f ≤ z) && decide (z ≤ p.1 - 1)) = _
        rw [decide_eq_decide.2 (show z ≤ p.1 - 1 ↔ z < p.1 by omega)]
      · rw [if_neg c, has_nil, Bool.eq_iff_iff]
        simp only [Bool.and_eq_true, decide_eq_true_eq]
        constructor
        · intro h
          cases h
        · omega
    by_cases c : p.2 = hi
    · have eP : P = [] := List.eq_nil_iff_forall_not_mem.2 fun z hz => by
        have h1 := pP z hz
        have h2 := hb z (by simp [hz])
        have h3 := hP.1 z (by simp [hz])
        omega
      subst eP
      rw [gap, if_pos c, List.append_nil]
      refine ⟨⟨?_, by split <;> simp⟩, ?_, fun z => ?_⟩
      · intro r hr
        obtain ⟨c1, rfl⟩ := F1 r hr
        show f ≤ p.1 - 1
        omega
      · intro r hr
        obtain ⟨c1, rfl⟩ := F1 r hr
        show f ≤ f ∧ p.1 - 1 ≤ hi
        omega
      · rw [H1, has_cons, has_nil, Bool.or_false, Bool.eq_iff_iff]
        simp only [Bool.and_eq_true, Bool.not_eq_true', Bool.and_eq_false_iff, decide_eq_true_eq, decide_eq_false_iff_not]
        omega
    · obtain ⟨i1, i2, i3⟩ := gap_spec (P := P) (f := p.2 + 1) (hi := hi) (by omega) hP.tail (fun r hr => by
        have h1 := pP r hr
        have h2 := hb r (by simp [hr])
        omega)
      rw [gap, if_neg c]
      refine ⟨⟨?_, ?_⟩, ?_, fun z => ?_⟩
      · intro r hr
        rcases List.mem_append.1 hr with hr | hr
        · obtain ⟨c1, rfl⟩ := F1 r hr
          show f ≤ p.1 - 1
          omega
        · exact i1.1 r hr
      · rw [List.pairwise_append]
        refine ⟨by split <;> simp, i1.2, ?_⟩
        intro a ha b hb'
        obtain ⟨c1, rfl⟩ := F1 a ha
        have := i2 b hb'
        show p.1 - 1 < b.1
        omega
      · intro r hr
        rcases List.mem_append.1 hr with hr | hr
        · obtain ⟨c1, rfl⟩ := F1 r hr
          show f ≤ f ∧ p.1 - 1 ≤ hi
          omega
        · have := i2 r hr
          omega
      · rw [has_append, H1, i3, has_cons]
        have hPz : z ≤ p.2 → has P z = false := fun h => (has_false _ _).2 fun r hr h1 => by have := pP r hr; omega
        by_cases c1 : z ≤ p.2
        · rw [hPz c1, Bool.eq_iff_iff]
          simp only [Bool.or_false, Bool.not_false, Bool.and_true, Bool.or_eq_true, Bool.and_eq_true, Bool.not_eq_true', Bool.and_eq_false_iff, decide_eq_true_eq, decide_eq_false_iff_not]
          omega
        · have d1 : decide (z ≤ p.2) = false := decide_eq_false c1
          rw [d1, show decide (z < p.1) = false from decide_eq_false (by omega), show decide (p.2 + 1 ≤ z) = true from decide_eq_true (by omega), show decide (f ≤ z) = true from decide_eq_true (by omega)]
          simp
end Go.Proofs.YtceeeofkigkpkaaGreat
