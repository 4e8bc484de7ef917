import Derived.Test.YtbobnfjbbablkabZA
namespace Go.Proofs.Ytbobnfjbbablkab

/-! ### ranges -/
structure Rg where
  lo : List Nat
  hi : List Nat
  op : Bool
def Rg.b8 (r : Rg) : Prop := B8 r.lo ∧ B8 r.hi
def has (r : Rg) (k : List Nat) : Bool := isK k && (decide (0 ≤ cmpB k r.lo) && (r.op || decide (cmpB k r.hi < 0)))
theorem has_iff {r : Rg} {k : List Nat} : has r k = true ↔ isK k = true ∧ r.lo ≤ k ∧ (r.op = true ∨ k < r.hi) := by
  unfold has
  rw [Bool.and_eq_true, Bool.and_eq_true, Bool.or_eq_true, decide_eq_true_iff, decide_eq_true_iff, cmpB_ge, cmpB_neg]
abbrev Fm := List Nat × List Nat
def form (r : Rg) : Option Fm := if has r (least r.lo) then some (least r.lo, if r.op then [] else least r.hi) else none
def Okf (f : Fm) : Prop := KK f.1 ∧ (f.2 = [] ∨ KK f.2 ∧ f.1 < f.2)
def inF (f : Fm) (x : List Nat) : Prop := f.1 ≤ x ∧ (f.2 = [] ∨ x < f.2)
theorem KK.ne {k : List Nat} (h : KK k) : k ≠ [] := by rintro rfl; have := h.1; simp [isK] at this
theorem has_key {r : Rg} {k : List Nat} (h : has r k = true) : isK k = true := (has_iff.1 h).1
theorem le_least {b : List Nat} (hb : B8 b) (h : least b ≠ []) : b ≤ least b := (least_spec hb (least_key hb h)).2 ⟨h, by grind⟩
theorem form_none {r : Rg} (hr : r.b8) (h : form r = none) {x : List Nat} (hx : KK x) : has r x = false := by
  unfold form at h
  split at h
  · cases h
  · rename_i h1
    cases hh : has r x with
    | false => rfl
    | true =>
      exfalso; apply h1
      obtain ⟨_, h2, h3⟩ := has_iff.1 hh
      obtain ⟨h4, h5⟩ := (least_spec hr.1 hx).1 h2
      refine has_iff.2 ⟨(least_key hr.1 h4).1, le_least hr.1 h4, ?_⟩
      rcases h3 with h3 | h3
      · exact .inl h3
      · exact .inr (by grind)
theorem form_some {r : Rg} (hr : r.b8) {f : Fm} (h : form r = some f) : Okf f ∧ ∀ x, KK x → (has r x = true ↔ inF f x) := by
  unfold form at h
  split at h
  · rename_i h1
    simp only [Option.some.injEq] at h
    subst h
    obtain ⟨h2, h3, h4⟩ := has_iff.1 h1
    have hne : least r.lo ≠ [] := by intro e; rw [e] at h2; simp [isK] at h2
    have hK := least_key hr.1 hne
    cases ho : r.op with
    | true =>
      simp only [if_true]
      refine ⟨⟨hK, .inl rfl⟩, fun x hx => ?_⟩
      rw [has_iff, ho]
      unfold inF
      simp only [true_or, and_true]
      rw [least_spec hr.1 hx]
      exact ⟨fun h => h.2.2, fun h => ⟨hx.1, hne, h⟩⟩
    | false =>
      rw [ho] at h4
      simp only [Bool.false_eq_true, false_or, if_false] at h4 ⊢
      refine ⟨⟨hK, ?_⟩, fun x hx => ?_⟩
      · by_cases e : least r.hi = []
        · exact .inl e
        · have := le_least hr.2 e
          exact .inr ⟨least_key hr.2 e, by show least r.lo < least r.hi; grind⟩
      · rw [has_iff, ho]
        unfold inF
        have e1 := least_spec hr.1 hx
        have e2 := least_spec hr.2 hx
        have e3 : x < r.hi ↔ ¬ r.hi ≤ x := by grind
        simp only [Bool.false_eq_true, false_or]
        rw [e1, e3, e2]
        constructor
        · rintro ⟨_, ⟨_, h5⟩, h6⟩
          refine ⟨h5, ?_⟩
          by_cases e : least r.hi = []
          · exact .inl e
          · refine .inr ?_
            have : ¬ least r.hi ≤ x := fun h7 => h6 ⟨e, h7⟩
            show x < least r.hi
            grind
        · rintro ⟨h5, h6⟩
          refine ⟨hx.1, ⟨hne, h5⟩, ?_⟩
          rintro ⟨h7, h8⟩
          rcases h6 with h6 | h6
          · exact h7 h6
          · have h9 : x < least r.hi := h6
            grind
  · cases h
def forms (l : List Rg) : List Fm := l.filterMap form
def inL (l : List Rg) (x : List Nat) : Bool := l.any fun r => has r x
def inC (c : List Fm) (x : List Nat) : Prop := ∃ f ∈ c, inF f x
theorem inL_forms {l : List Rg} (hl : ∀ r ∈ l, r.b8) {x : List Nat} (hx : KK x) : inL l x = true ↔ inC (forms l) x := by
  unfold inL inC forms
  rw [List.any_eq_true]
  constructor
  · rintro ⟨r, hr, hh⟩
    cases hf : form r with
    | none => rw [form_none (hl r hr) hf hx] at hh; cases hh
    | some f => exact ⟨f, List.mem_filterMap.2 ⟨r, hr, hf⟩, ((form_some (hl r hr) hf).2 x hx).1 hh⟩
  · rintro ⟨f, hf, hi⟩
    obtain ⟨r, hr, e⟩ := List.mem_filterMap.1 hf
    exact ⟨r, hr, ((form_some (hl r hr) e).2 x hx).2 hi⟩
theorem forms_ok {l : List Rg} (hl : ∀ r ∈ l, r.b8) : ∀ f ∈ forms l, Okf f := by
  intro f hf
  obtain ⟨r, hr, e⟩ := List.mem_filterMap.1 hf
  exact (form_some (hl r hr) e).1

/-! ### one form -/
def canon (c : List Fm) : Prop := (∀ f ∈ c, Okf f) ∧ c.Pairwise fun a b => a.2 ≠ [] ∧ a.2 < b.1
theorem inC_cons {f : Fm} {c : List Fm} {x : List Nat} : inC (f :: c) x ↔ inF f x ∨ inC c x := by simp [inC]
theorem canon_cons {f : Fm} {c : List Fm} : canon (f :: c) ↔ Okf f ∧ (∀ g ∈ c, f.2 ≠ [] ∧ f.2 < g.1) ∧ canon c := by
  unfold canon
  rw [List.pairwise_cons, List.forall_mem_cons]
  constructor
  · rintro ⟨⟨h1, h2⟩, h3, h4⟩; exact ⟨h1, h3, h2, h4⟩
  · rintro ⟨h1, h3, h2, h4⟩; exact ⟨⟨h1, h2⟩, h3, h4⟩
theorem inF_lo {f : Fm} (h : Okf f) : inF f f.1 := by
  refine ⟨by grind, ?_⟩
  rcases h.2 with h2 | ⟨_, h2⟩
  · exact .inl h2
  · exact .inr h2
theorem canon_ge {f : Fm} {c : List Fm} (h : canon (f :: c)) {x : List Nat} (hx : inC (f :: c) x) : f.1 ≤ x := by
  rw [canon_cons] at h
  rcases inC_cons.1 hx with h1 | ⟨g, hg, h1⟩
  · exact h1.1
  · obtain ⟨h2, h3⟩ := h.2.1 g hg
    rcases h.1.2 with h4 | ⟨_, h4⟩
    · exact absurd h4 h2
    · have := h1.1; grind
theorem canon_hi {f : Fm} {c : List Fm} (h : canon (f :: c)) (h2 : f.2 ≠ []) : ¬ inC (f :: c) f.2 := by
  rw [canon_cons] at h
  intro hx
  rcases inC_cons.1 hx with h1 | ⟨g, hg, h1⟩
  · rcases h1.2 with h3 | h3
    · exact h2 h3
    · grind
  · have h3 := h.2.1 g hg
    have h4 := h1.1
    have h5 := h3.2
    grind
theorem canon_uniq : ∀ {c d : List Fm}, canon c → canon d → (∀ x, KK x → (inC c x ↔ inC d x)) → c = d
  | [], [], _, _, _ => rfl
  | [], g :: d, _, hd, h => by
    have hg := (canon_cons.1 hd).1
    have := (h g.1 hg.1).2 (inC_cons.2 (.inl (inF_lo hg)))
    simp [inC] at this
  | f :: c, [], hc, _, h => by
    have hf := (canon_cons.1 hc).1
    have := (h f.1 hf.1).1 (inC_cons.2 (.inl (inF_lo hf)))
    simp [inC] at this
  | f :: c, g :: d, hc, hd, h => by
    have hf := (canon_cons.1 hc).1
    have hg := (canon_cons.1 hd).1
    have mf : inC (f :: c) f.1 := inC_cons.2 (.inl (inF_lo hf))
    have mg : inC (g :: d) g.1 := inC_cons.2 (.inl (inF_lo hg))
    have e1 : f.1 = g.1 := by
      have h1 := canon_ge hd ((h f.1 hf.1).1 mf)
      have h2 := canon_ge hc ((h g.1 hg.1).2 mg)
      grind
    have key : ∀ {a b : Fm} {p q : List Fm}, canon (a :: p) → canon (b :: q) → (∀ x, KK x → (inC (a :: p) x ↔ inC (b :: q) x)) → a.1 = b.1 → b.2 ≠ [] → a.2 ≠ [] ∧ a.2 ≤ b.2 := by
      intro a b p q ha hb hh e hn
      have hbo := (canon_cons.1 hb).1
      have hao := (canon_cons.1 ha).1
      obtain ⟨hbk, hbl⟩ : KK b.2 ∧ b.1 < b.2 := by
        rcases hbo.2 with h1 | h1
        · exact absurd h1 hn
        · exact h1
      have hno := canon_hi hb hn
      have hna : ¬ inF a b.2 := fun h1 => hno ((hh _ hbk).1 (inC_cons.2 (.inl h1)))
      have h3 : ¬ (a.2 = [] ∨ b.2 < a.2) := fun h4 => hna ⟨by rw [e]; grind, h4⟩
      exact ⟨fun h4 => h3 (.inl h4), by grind⟩
    have e2 : f.2 = g.2 := by
      by_cases hgn : g.2 = []
      · by_cases hfn : f.2 = []
        · rw [hfn, hgn]
        · exact absurd hgn (key hd hc (fun x hx => (h x hx).symm) e1.symm hfn).1
      · obtain ⟨h1, h2⟩ := key hc hd h e1 hgn
        obtain ⟨h3, h4⟩ := key hd hc (fun x hx => (h x hx).symm) e1.symm h1
        grind
    have e : f = g := Prod.ext e1 e2
    subst e
    have hcc := (canon_cons.1 hc)
    have hdd := (canon_cons.1 hd)
    congr 1
    refine canon_uniq hcc.2.2 hdd.2.2 fun x hx => ?_
    have hx' := h x hx
    rw [inC_cons, inC_cons] at hx'
    constructor
    · intro h1
      rcases hx'.1 (.inr h1) with h2 | h2
      · obtain ⟨k, hk, h3⟩ := h1
        obtain ⟨h4, h5⟩ := hcc.2.1 k hk
        have h6 := h3.1
        rcases h2.2 with h7 | h7
        · exact absurd h7 h4
        · exfalso; grind
      · exact h2
    · intro h1
      rcases hx'.2 (.inr h1) with h2 | h2
      · obtain ⟨k, hk, h3⟩ := h1
        obtain ⟨h4, h5⟩ := hdd.2.1 k hk
        have h6 := h3.1
        rcases h2.2 with h7 | h7
        · exact absurd h7 h4
        · exfalso; grind
      · exact h2

/-! ### the program's Cover: forms by rising Lo, one after another -/
def reach (l : Fm) (k : List Nat) : Bool := decide (l.2 = []) || decide (cmpB k l.2 ≤ 0)
def prol (l f : Fm) : Fm := if l.2 ≠ [] ∧ (f.2 = [] ∨ cmpB l.2 f.2 < 0) then (l.1, f.2) else l
def stp (c : List Fm) (f : Fm) : List Fm :=
  match c.getLast? with
  | none => [f]
  | some l => if reach l f.1 then c.dropLast ++ [prol l f] else c ++ [f]
theorem stp_nil (f : Fm) : stp [] f = [f] := rfl
theorem stp_snoc (c : List Fm) (l f : Fm) : stp (c ++ [l]) f = if reach l f.1 then c ++ [prol l f] else c ++ [l] ++ [f] := by simp [stp]
def cov (fs : List Fm) : List Fm := fs.foldl stp []
def Low (c : List Fm) (k : List Nat) : Prop := ∀ f ∈ c, f.1 ≤ k
theorem inC_app {c d : List Fm} {x : List Nat} : inC (c ++ d) x ↔ inC c x ∨ inC d x := by
  unfold inC; constructor
  · rintro ⟨f, hf, h⟩; rcases List.mem_append.1 hf with h1 | h1; exact .inl ⟨f, h1, h⟩; exact .inr ⟨f, h1, h⟩
  · rintro (⟨f, hf, h⟩ | ⟨f, hf, h⟩); exact ⟨f, List.mem_append_left _ hf, h⟩; exact ⟨f, List.mem_append_right _ hf, h⟩
theorem inC_one {f : Fm} {x : List Nat} : inC [f] x ↔ inF f x := by simp [inC]
theorem canon_app {c d : List Fm} : canon (c ++ d) ↔ canon c ∧ canon d ∧ ∀ a ∈ c, ∀ b ∈ d, a.2 ≠ [] ∧ a.2 < b.1 := by
  unfold canon
  rw [List.pairwise_append]
  constructor
  · rintro ⟨h1, h2, h3, h4⟩
    exact ⟨⟨fun f hf => h1 f (List.mem_append_left _ hf), h2⟩, ⟨fun f hf => h1 f (List.mem_append_right _ hf), h3⟩, h4⟩
  · rintro ⟨⟨h1, h2⟩, ⟨h3, h4⟩, h5⟩
    exact ⟨fun f hf => (List.mem_append.1 hf).elim (h1 f) (h3 f), h2, h4, h5⟩
theorem canon_one {f : Fm} : canon [f] ↔ Okf f := by simp [canon]
theorem reach_iff {l : Fm} {k : List Nat} : reach l k = true ↔ l.2 = [] ∨ k ≤ l.2 := by
  unfold reach; rw [Bool.or_eq_true, decide_eq_true_iff, decide_eq_true_iff, cmpB_le]
theorem prol_fst (l f : Fm) : (prol l f).1 = l.1 := by unfold prol; split <;> rfl
theorem prol_ok {l f : Fm} (hl : Okf l) (hf : Okf f) (h : l.1 ≤ f.1) : Okf (prol l f) := by
  unfold prol
  split
  · refine ⟨hl.1, ?_⟩
    rcases hf.2 with h2 | ⟨h2, h3⟩
    · exact .inl h2
    · exact .inr ⟨h2, by show l.1 < f.2; grind⟩
  · exact hl
theorem prol_in {l f : Fm} (h : l.1 ≤ f.1) (hr : reach l f.1 = true) (x : List Nat) : inF (prol l f) x ↔ inF l x ∨ inF f x := by
  rw [reach_iff] at hr
  unfold prol
  simp only [cmpB_neg]
  unfold inF
  by_cases h1 : l.2 = []
  · simp only [h1, ne_eq, not_true_eq_false, false_and, if_false, true_or, and_true]
    exact ⟨.inl, fun h2 => h2.elim id fun h3 => by have := h3.1; grind⟩
  · by_cases h2 : f.2 = []
    · simp only [h1, h2, ne_eq, not_false_eq_true, true_or, and_self, if_true, and_true, false_or]
      have hr' : f.1 ≤ l.2 := hr.resolve_left h1
      grind
    · have hr' : f.1 ≤ l.2 := hr.resolve_left h1
      by_cases h3 : l.2 < f.2
      · simp only [h1, h2, h3, ne_eq, not_false_eq_true, or_true, and_self, if_true, false_or]
        grind
      · simp only [h1, h2, h3, ne_eq, not_false_eq_true, or_self, and_false, if_false, false_or]
        grind
theorem stp_ok {c : List Fm} {f : Fm} (hc : canon c) (hf : Okf f) (hlo : Low c f.1) : canon (stp c f) ∧ Low (stp c f) f.1 ∧ ∀ x, inC (stp c f) x ↔ inC c x ∨ inF f x := by
  rcases List.eq_nil_or_concat c with rfl | ⟨c, l, rfl⟩
  · rw [stp_nil]
    exact ⟨canon_one.2 hf, fun g hg => by rw [List.mem_singleton] at hg; rw [hg]; grind, fun x => by rw [inC_one]; simp [inC]⟩
  · rw [List.concat_eq_append] at *
    rw [stp_snoc]
    obtain ⟨h1, h2, h3⟩ := canon_app.1 hc
    have hl := canon_one.1 h2
    have hle : l.1 ≤ f.1 := hlo l (by simp)
    split
    · rename_i hr
      refine ⟨canon_app.2 ⟨h1, canon_one.2 (prol_ok hl hf hle), fun a ha b hb => ?_⟩, fun g hg => ?_, fun x => ?_⟩
      · rw [List.mem_singleton] at hb
        rw [hb, prol_fst]
        exact h3 a ha l (by simp)
      · rcases List.mem_append.1 hg with h4 | h4
        · exact hlo g (List.mem_append_left _ h4)
        · rw [List.mem_singleton] at h4
          rw [h4, prol_fst]; exact hle
      · rw [inC_app, inC_app, inC_one, inC_one, prol_in hle hr x, or_assoc]
    · rename_i hr
      rw [reach_iff] at hr
      have hl2 : l.2 ≠ [] ∧ l.2 < f.1 := ⟨fun h => hr (.inl h), by have : ¬ f.1 ≤ l.2 := fun h => hr (.inr h); grind⟩
      refine ⟨canon_app.2 ⟨hc, canon_one.2 hf, fun a ha b hb => ?_⟩, fun g hg => ?_, fun x => by rw [inC_app, inC_one]⟩
      · rw [List.mem_singleton] at hb
        rw [hb]
        rcases List.mem_append.1 ha with h4 | h4
        · obtain ⟨h5, h6⟩ := h3 a h4 l (by simp)
          refine ⟨h5, ?_⟩
          grind
        · rw [List.mem_singleton] at h4; rw [h4]; exact hl2
      · rcases List.mem_append.1 hg with h4 | h4
        · exact hlo g h4
        · rw [List.mem_singleton] at h4; rw [h4]; grind
theorem cov_from : ∀ (fs c : List Fm), canon c → (∀ f ∈ fs, Okf f) → (∀ f ∈ fs, Low c f.1) → fs.Pairwise (fun a b => a.1 ≤ b.1) → canon (fs.foldl stp c) ∧ ∀ x, inC (fs.foldl stp c) x ↔ inC c x ∨ inC fs x
  | [], c, hc, _, _, _ => ⟨hc, fun x => by simp [inC]⟩
  | f :: fs, c, hc, hf, hlo, hs => by
    rw [List.pairwise_cons] at hs
    obtain ⟨h1, h2, h3⟩ := stp_ok hc (hf f (by simp)) (hlo f (by simp))
    obtain ⟨h4, h5⟩ := cov_from fs (stp c f) h1 (fun g hg => hf g (by simp [hg])) (fun g hg k hk => by
      have h6 := h2 k hk
      have h7 := hs.1 g hg
      grind) hs.2
    refine ⟨h4, fun x => ?_⟩
    rw [List.foldl_cons, h5, h3, inC_cons, or_assoc]
theorem cov_ok {fs : List Fm} (hf : ∀ f ∈ fs, Okf f) (hs : fs.Pairwise (fun a b => a.1 ≤ b.1)) : canon (cov fs) ∧ ∀ x, inC (cov fs) x ↔ inC fs x := by
  obtain ⟨h1, h2⟩ := cov_from fs [] ⟨by simp, by simp⟩ hf (fun f _ k hk => by cases hk) hs
  exact ⟨h1, fun x => by unfold cov; rw [h2]; simp [inC]⟩
/-- the answer -/
def cover (l : List Rg) : List Fm := cov ((forms l).mergeSort fun a b => decide (cmpB a.1 b.1 ≤ 0))
theorem cover_ok {l : List Rg} (hl : ∀ r ∈ l, r.b8) : canon (cover l) ∧ ∀ x, KK x → (inC (cover l) x ↔ inL l x = true) := by
  have hs : ((forms l).mergeSort fun a b => decide (cmpB a.1 b.1 ≤ 0)).Pairwise (fun a b => a.1 ≤ b.1) := by
    have := List.pairwise_mergeSort (le := fun a b : Fm => decide (cmpB a.1 b.1 ≤ 0)) (fun a b c h1 h2 => by
      rw [decide_eq_true_iff, cmpB_le] at *; grind) (fun a b => by
      rw [Bool.or_eq_true, decide_eq_true_iff, decide_eq_true_iff, cmpB_le, cmpB_le]; grind) (forms l)
    exact this.imp fun h => by rw [decide_eq_true_iff, cmpB_le] at h; exact h
  have hm : ∀ f, f ∈ (forms l).mergeSort (fun a b => decide (cmpB a.1 b.1 ≤ 0)) ↔ f ∈ forms l := fun f => (List.mergeSort_perm _ _).mem_iff
  obtain ⟨h1, h2⟩ := cov_ok (fun f hf => forms_ok hl f ((hm f).1 hf)) hs
  refine ⟨h1, fun x hx => ?_⟩
  rw [inL_forms hl hx]
  unfold cover
  rw [h2]
  unfold inC
  exact ⟨fun ⟨f, hf, h⟩ => ⟨f, (hm f).1 hf, h⟩, fun ⟨f, hf, h⟩ => ⟨f, (hm f).2 hf, h⟩⟩
/-- any sorted row of the forms gives it -/
theorem cov_cover {l : List Rg} (hl : ∀ r ∈ l, r.b8) {fs : List Fm} (hm : ∀ f, f ∈ fs ↔ f ∈ forms l) (hs : fs.Pairwise (fun a b => a.1 ≤ b.1)) : cov fs = cover l := by
  obtain ⟨h1, h2⟩ := cov_ok (fun f hf => forms_ok hl f ((hm f).1 hf)) hs
  obtain ⟨h3, h4⟩ := cover_ok hl
  refine canon_uniq h1 h3 fun x hx => ?_
  rw [h4 x hx, inL_forms hl hx, h2]
  unfold inC
  exact ⟨fun ⟨f, hf, h⟩ => ⟨f, (hm f).1 hf, h⟩, fun ⟨f, hf, h⟩ => ⟨f, (hm f).2 hf, h⟩⟩

/-! ### what follows -/
def rgOf (f : Fm) : Rg := ⟨f.1, f.2, decide (f.2 = [])⟩
theorem rgOf_has {f : Fm} {x : List Nat} (hx : KK x) : has (rgOf f) x = true ↔ inF f x := by
  rw [has_iff]; unfold rgOf inF; simp only [decide_eq_true_iff]
  exact ⟨fun h => h.2, fun h => ⟨hx.1, h⟩⟩
theorem Okf.b8 {f : Fm} (h : Okf f) : (rgOf f).b8 := by
  refine ⟨h.1.2, ?_⟩
  rcases h.2 with h2 | h2
  · show B8 f.2; rw [h2]; exact B8.nil
  · exact h2.1.2
theorem cover_same {l m : List Rg} (hl : ∀ r ∈ l, r.b8) (hm : ∀ r ∈ m, r.b8) (h : ∀ x, KK x → inL l x = inL m x) : cover l = cover m :=
  canon_uniq (cover_ok hl).1 (cover_ok hm).1 fun x hx => by rw [(cover_ok hl).2 x hx, (cover_ok hm).2 x hx, h x hx]
theorem cover_b8 {l : List Rg} (hl : ∀ r ∈ l, r.b8) : ∀ r ∈ (cover l).map rgOf, r.b8 := by
  intro r hr
  obtain ⟨f, hf, rfl⟩ := List.mem_map.1 hr
  exact ((cover_ok hl).1.1 f hf).b8
theorem cover_cover {l : List Rg} (hl : ∀ r ∈ l, r.b8) : cover ((cover l).map rgOf) = cover l := by
  refine cover_same (cover_b8 hl) hl fun x hx => ?_
  rw [Bool.eq_iff_iff, ← (cover_ok hl).2 x hx]
  unfold inL inC
  rw [List.any_eq_true]
  constructor
  · rintro ⟨r, hr, h⟩
    obtain ⟨f, hf, rfl⟩ := List.mem_map.1 hr
    exact ⟨f, hf, (rgOf_has hx).1 h⟩
  · rintro ⟨f, hf, h⟩
    exact ⟨_, List.mem_map.2 ⟨f, hf, rfl⟩, (rgOf_has hx).2 h⟩
theorem cover_reverse {l : List Rg} (hl : ∀ r ∈ l, r.b8) : cover l.reverse = cover l :=
  cover_same (fun r hr => hl r (List.mem_reverse.1 hr)) hl fun x _ => by unfold inL; rw [List.any_reverse]
theorem cover_one (r : Rg) : cover [r] = (match form r with | none => [] | some f => [f]) := by
  unfold cover forms
  cases h : form r <;> simp [h, cov, stp]
/-- how many of Cover have a key -/
theorem cover_count {l : List Rg} (hl : ∀ r ∈ l, r.b8) (x : List Nat) (hx8 : B8 x) : ((cover l).filter fun f => has (rgOf f) x).length = if inL l x then 1 else 0 := by
  by_cases hk : isK x = true
  · have hx : KK x := ⟨hk, hx8⟩
    obtain ⟨h1, h2⟩ := cover_ok hl
    have hc := h2 x hx
    generalize cover l = c at *
    have aux : ∀ c : List Fm, canon c → (c.filter fun f => has (rgOf f) x).length ≤ 1 ∧ ((c.filter fun f => has (rgOf f) x).length = 0 ↔ ¬ inC c x) := by
      intro c
      induction c with
      | nil => intro _; simp [inC]
      | cons f c ih =>
        intro hcc
        obtain ⟨a1, a2, a3⟩ := canon_cons.1 hcc
        obtain ⟨i1, i2⟩ := ih a3
        rw [List.filter_cons, inC_cons]
        by_cases hf : has (rgOf f) x = true
        · have hi := (rgOf_has hx).1 hf
          have hno : ¬ inC c x := by
            rintro ⟨g, hg, hgx⟩
            obtain ⟨b1, b2⟩ := a2 g hg
            have := hgx.1
            rcases hi.2 with h | h
            · exact b1 h
            · grind
          rw [if_pos hf]
          have := i2.2 hno
          simp [this, hi]
        · have hi : ¬ inF f x := fun h => hf ((rgOf_has hx).2 h)
          rw [if_neg hf]
          exact ⟨i1, by rw [i2]; simp [hi]⟩
    obtain ⟨a1, a2⟩ := aux c h1
    by_cases h : inL l x = true
    · have : ¬ ¬ inC c x := fun h3 => h3 (hc.2 h)
      rw [if_pos (by simpa using h)]
      rw [← a2] at this
      omega
    · rw [if_neg (by simpa using h)]
      exact a2.2 fun h3 => h (hc.1 h3)
  · have e1 : ∀ r : Rg, has r x = false := fun r => by
      cases h : has r x with
      | false => rfl
      | true => exact absurd (has_key h) hk
    have e2 : inL l x = false := by unfold inL; simp [e1]
    rw [e2]
    simp [e1]
end Go.Proofs.Ytbobnfjbbablkab
