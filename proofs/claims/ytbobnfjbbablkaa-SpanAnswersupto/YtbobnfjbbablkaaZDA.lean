import Derived.Test.YtbobnfjbbablkaaZB
namespace Go.Proofs.Ytbobnfjbbablkaa

/-! ### the document's Cover: edge after edge -/
def atE (held : Bool) (f : Fm) : List Nat := if held then f.1 else f.2
def goodE (L : List Rg) (k : List Nat) (held : Bool) (t out : List Nat) : Bool := decide (0 < t.length) && (decide (0 ≤ cmpB t k) && ((inL L t == held) && (decide (out.length = 0) || decide (cmpB t out < 0))))
def stepE (L : List Rg) (k : List Nat) (held : Bool) (out : List Nat) (f : Fm) : List Nat := if goodE L k held (atE held f) out then atE held f else out
def stepR (L : List Rg) (k : List Nat) (held : Bool) (out : List Nat) (r : Rg) : List Nat := match form r with | none => out | some f => stepE L k held out f
def edg (L : List Rg) (k : List Nat) (held : Bool) : List Nat := if inL L k = held then k else L.foldl (stepR L k held) []
theorem foldR (L M : List Rg) (k : List Nat) (held : Bool) (out : List Nat) : M.foldl (stepR L k held) out = (forms M).foldl (stepE L k held) out := by
  induction M generalizing out with
  | nil => rfl
  | cons r M ih =>
    rw [List.foldl_cons, ih]
    unfold forms
    rw [List.filterMap_cons]
    unfold stepR
    cases form r <;> rfl
theorem len_pos {l : List Nat} : 0 < l.length ↔ l ≠ [] := List.length_pos_iff
def candE (L : List Rg) (k : List Nat) (held : Bool) (t : List Nat) : Prop := t ≠ [] ∧ k ≤ t ∧ inL L t = held
theorem good_iff {L : List Rg} {k : List Nat} {held : Bool} {t out : List Nat} : goodE L k held t out = true ↔ candE L k held t ∧ (out = [] ∨ t < out) := by
  unfold goodE candE
  rw [Bool.and_eq_true, Bool.and_eq_true, Bool.and_eq_true, Bool.or_eq_true, decide_eq_true_iff, decide_eq_true_iff, decide_eq_true_iff, decide_eq_true_iff, cmpB_ge, cmpB_neg, len_pos, beq_iff_eq, List.length_eq_zero_iff]
  constructor
  · rintro ⟨h1, h2, h3, h4⟩; exact ⟨⟨h1, h2, h3⟩, h4⟩
  · rintro ⟨⟨h1, h2, h3⟩, h4⟩; exact ⟨h1, h2, h3, h4⟩
theorem fold_min {L : List Rg} {k : List Nat} {held : Bool} : ∀ (fs : List Fm) (out : List Nat), (out = [] ∨ candE L k held out) →
    ((fs.foldl (stepE L k held) out = [] ∨ candE L k held (fs.foldl (stepE L k held) out)) ∧ (fs.foldl (stepE L k held) out = [] → out = [] ∧ ∀ f ∈ fs, ¬ candE L k held (atE held f)) ∧ (fs.foldl (stepE L k held) out ≠ [] → (out ≠ [] → fs.foldl (stepE L k held) out ≤ out) ∧ ∀ f ∈ fs, candE L k held (atE held f) → fs.foldl (stepE L k held) out ≤ atE held f))
  | [], out, h => ⟨h, fun h1 => ⟨h1, fun f hf => by cases hf⟩, fun _ => ⟨fun _ => by show out ≤ out; grind, fun f hf => by cases hf⟩⟩
  | f :: fs, out, h => by
    rw [List.foldl_cons]
    have hst : (stepE L k held out f = [] ∨ candE L k held (stepE L k held out f)) := by
      unfold stepE
      split
      · rename_i hg; exact .inr (good_iff.1 hg).1
      · exact h
    obtain ⟨i1, i2, i3⟩ := fold_min fs (stepE L k held out f) hst
    generalize hE : fs.foldl (stepE L k held) (stepE L k held out f) = e at *
    refine ⟨i1, fun h0 => ?_, fun h0 => ?_⟩
    · obtain ⟨j1, j2⟩ := i2 h0
      unfold stepE at j1
      split at j1
      · rename_i hg; exact absurd j1 (good_iff.1 hg).1.1
      · rename_i hg
        refine ⟨j1, fun g hg' => ?_⟩
        rcases List.mem_cons.1 hg' with rfl | hg'
        · intro hc; exact hg (good_iff.2 ⟨hc, .inl j1⟩)
        · exact j2 g hg'
    · obtain ⟨j1, j2⟩ := i3 h0
      refine ⟨fun ho => ?_, fun g hg' hc => ?_⟩
      · unfold stepE at j1
        split at j1
        · rename_i hg
          obtain ⟨hc, h5⟩ := good_iff.1 hg
          have h6 := j1 hc.1
          rcases h5 with h5 | h5
          · exact absurd h5 ho
          · grind
        · exact j1 ho
      · rcases List.mem_cons.1 hg' with rfl | hg'
        · unfold stepE at j1
          split at j1
          · exact j1 hc.1
          · rename_i hg
            have h5 : ¬ (out = [] ∨ atE held g < out) := fun h6 => hg (good_iff.2 ⟨hc, h6⟩)
            have h6 : out ≠ [] := fun h7 => h5 (.inl h7)
            have h7 := j1 h6
            have h8 : ¬ atE held g < out := fun h9 => h5 (.inr h9)
            grind
        · exact j2 g hg' hc
theorem fold_mem {L : List Rg} {k : List Nat} {held : Bool} : ∀ (fs : List Fm) (out : List Nat), fs.foldl (stepE L k held) out = out ∨ ∃ f ∈ fs, fs.foldl (stepE L k held) out = atE held f
  | [], out => .inl rfl
  | f :: fs, out => by
    rw [List.foldl_cons]
    rcases fold_mem fs (stepE L k held out f) with h | ⟨g, hg, h⟩
    · rw [h]
      unfold stepE
      split
      · exact .inr ⟨f, by simp, rfl⟩
      · exact .inl rfl
    · exact .inr ⟨g, List.mem_cons_of_mem _ hg, h⟩
theorem atE_key {f : Fm} (h : Okf f) {held : Bool} (hn : atE held f ≠ []) : KK (atE held f) := by
  cases held with
  | true => exact h.1
  | false =>
    rcases h.2 with h1 | h1
    · exact absurd h1 hn
    · exact h1.1
theorem fold_key {L : List Rg} (hL : ∀ r ∈ L, r.b8) {k : List Nat} {held : Bool} (h : (forms L).foldl (stepE L k held) [] ≠ []) : KK ((forms L).foldl (stepE L k held) []) := by
  rcases fold_mem (L := L) (k := k) (held := held) (forms L) [] with h1 | ⟨f, hf, h1⟩
  · exact absurd h1 h
  · rw [h1] at h ⊢
    exact atE_key (forms_ok hL f hf) h
theorem has_max : ∀ (l : List (List Nat)), l ≠ [] → ∃ m ∈ l, ∀ y ∈ l, y ≤ m
  | [], h => absurd rfl h
  | [a], _ => ⟨a, by simp, fun y hy => by rw [List.mem_singleton.1 hy]; grind⟩
  | a :: b :: l, _ => by
    obtain ⟨m, hm, h⟩ := has_max (b :: l) (by simp)
    by_cases h1 : a ≤ m
    · refine ⟨m, List.mem_cons_of_mem _ hm, fun y hy => ?_⟩
      rcases List.mem_cons.1 hy with rfl | hy
      · exact h1
      · exact h y hy
    · refine ⟨a, by simp, fun y hy => ?_⟩
      rcases List.mem_cons.1 hy with rfl | hy
      · grind
      · have := h y hy
        grind
theorem cand_from {L : List Rg} (hL : ∀ r ∈ L, r.b8) {k x : List Nat} {held : Bool} (hk : KK k) (hx : KK x) (hkx : k ≤ x) (h1 : inL L k ≠ held) (h2 : inL L x = held) : ∃ f ∈ forms L, candE L k held (atE held f) ∧ atE held f ≤ x := by
  have ok := forms_ok hL
  cases held with
  | true =>
    obtain ⟨f, hf, hi⟩ := (inL_forms hL hx).1 h2
    have hlo : k ≤ f.1 := by
      by_cases h : k ≤ f.1
      · exact h
      · exfalso
        apply h1
        refine (inL_forms hL hk).2 ⟨f, hf, by grind, ?_⟩
        rcases hi.2 with h3 | h3
        · exact .inl h3
        · exact .inr (by grind)
    exact ⟨f, hf, ⟨(ok f hf).1.ne, hlo, (inL_forms hL (ok f hf).1).2 ⟨f, hf, inF_lo (ok f hf)⟩⟩, hi.1⟩
  | false =>
    have hk1 : inL L k = true := by cases h : inL L k <;> simp_all
    obtain ⟨f0, hf0, hi0⟩ := (inL_forms hL hk).1 hk1
    have hno : ∀ f ∈ forms L, ¬ inF f x := fun f hf hi => by
      have := (inL_forms hL hx).2 ⟨f, hf, hi⟩
      rw [this] at h2
      cases h2
    have up : ∀ f ∈ forms L, ∀ t, f.1 ≤ t → t ≤ x → f.2 ≠ [] ∧ f.2 ≤ x := fun f hf t h3 h4 => by
      have h5 := hno f hf
      have h6 : ¬ (f.2 = [] ∨ x < f.2) := fun h7 => h5 ⟨by grind, h7⟩
      exact ⟨fun h7 => h6 (.inl h7), by have : ¬ x < f.2 := fun h7 => h6 (.inr h7); grind⟩
    have hne : ((forms L).map (·.2)).filter (fun t => decide (t ≠ []) && (decide (0 ≤ cmpB t k) && decide (cmpB t x ≤ 0))) ≠ [] := by
      obtain ⟨h3, h4⟩ := up f0 hf0 k hi0.1 hkx
      have h5 : k < f0.2 := hi0.2.resolve_left h3
      intro h6
      have h7 : f0.2 ∈ ((forms L).map (·.2)).filter (fun t => decide (t ≠ []) && (decide (0 ≤ cmpB t k) && decide (cmpB t x ≤ 0))) := by
        rw [List.mem_filter]
        refine ⟨List.mem_map.2 ⟨f0, hf0, rfl⟩, ?_⟩
        rw [Bool.and_eq_true, Bool.and_eq_true, decide_eq_true_iff, decide_eq_true_iff, decide_eq_true_iff, cmpB_ge, cmpB_le]
        exact ⟨h3, by grind, h4⟩
      rw [h6] at h7
      cases h7
    obtain ⟨m, hm, hmax⟩ := has_max _ hne
    rw [List.mem_filter] at hm
    obtain ⟨hm1, hm2⟩ := hm
    obtain ⟨f, hf, rfl⟩ := List.mem_map.1 hm1
    rw [Bool.and_eq_true, Bool.and_eq_true, decide_eq_true_iff, decide_eq_true_iff, decide_eq_true_iff, cmpB_ge, cmpB_le] at hm2
    have hK : KK f.2 := by
      rcases (ok f hf).2 with h | h
      · exact absurd h hm2.1
      · exact h.1
    refine ⟨f, hf, ⟨hm2.1, hm2.2.1, ?_⟩, hm2.2.2⟩
    cases hin : inL L (atE false f) with
    | false => rfl
    | true =>
      exfalso
      obtain ⟨g, hg, hgi⟩ := (inL_forms hL hK).1 hin
      obtain ⟨h3, h4⟩ := up g hg f.2 hgi.1 hm2.2.2
      have h5 : f.2 < g.2 := hgi.2.resolve_left h3
      have h6 := hmax g.2 (by
        rw [List.mem_filter]
        refine ⟨List.mem_map.2 ⟨g, hg, rfl⟩, ?_⟩
        rw [Bool.and_eq_true, Bool.and_eq_true, decide_eq_true_iff, decide_eq_true_iff, decide_eq_true_iff, cmpB_ge, cmpB_le]
        exact ⟨h3, by have := hm2.2.1; grind, h4⟩)
      grind
/-- the least key at or above k that is held so: there is one -/
theorem edg_is {L : List Rg} (hL : ∀ r ∈ L, r.b8) {k t : List Nat} {held : Bool} (hk : KK k) (ht : KK t) (hkt : k ≤ t) (hin : inL L t = held) (hno : ∀ x, KK x → k ≤ x → x < t → inL L x ≠ held) : edg L k held = t := by
  unfold edg
  by_cases h : inL L k = held
  · rw [if_pos h]
    by_cases h1 : k = t
    · exact h1
    · exact absurd h (hno k hk (by grind) (by grind))
  · rw [if_neg h, foldR]
    obtain ⟨i1, i2, i3⟩ := fold_min (L := L) (k := k) (held := held) (forms L) [] (.inl rfl)
    obtain ⟨f, hf, hc, hle⟩ := cand_from hL hk ht hkt h hin
    have hkey := fold_key hL (k := k) (held := held)
    generalize (forms L).foldl (stepE L k held) [] = e at *
    by_cases h0 : e = []
    · exact absurd hc ((i2 h0).2 f hf)
    · have h2 := (i3 h0).2 f hf hc
      have h3 : candE L k held e := i1.resolve_left h0
      have h4 : e ≤ t := by grind
      by_cases h5 : e = t
      · exact h5
      · exfalso
        have h6 : e < t := by grind
        exact hno e (hkey h0) h3.2.1 h6 h3.2.2
/-- there is none -/
theorem edg_none {L : List Rg} (hL : ∀ r ∈ L, r.b8) {k : List Nat} {held : Bool} (hk : KK k) (hno : ∀ x, KK x → k ≤ x → inL L x ≠ held) : edg L k held = [] := by
  unfold edg
  rw [if_neg (hno k hk (by grind)), foldR]
  obtain ⟨i1, _, _⟩ := fold_min (L := L) (k := k) (held := held) (forms L) [] (.inl rfl)
  have hkey := fold_key hL (k := k) (held := held)
  generalize (forms L).foldl (stepE L k held) [] = e at *
  by_cases h0 : e = []
  · exact h0
  · have h3 : candE L k held e := i1.resolve_left h0
    exact absurd h3.2.2 (hno e (hkey h0) h3.2.1)
/-- where the loop stands before its round j -/
def kAt (c : List Fm) (j : Nat) : List Nat := if j = 0 then [0] else (c.getD (j - 1) ([], [])).2
theorem le0 {x : List Nat} (hx : KK x) : [0] ≤ x := by
  have := isK_iff.1 hx.1
  match x, this with
  | y :: x, _ => exact snoc0_le [] (y :: x) (by simp)
theorem KK0 : KK [0] := ⟨by decide, by simp [B8]⟩
theorem getD_memF {c : List Fm} {j : Nat} (h : j < c.length) : c.getD j ([], []) ∈ c := by simp [h]
theorem pair_at {c : List Fm} (h : canon c) {i j : Nat} (hij : i < j) (hj : j < c.length) : (c.getD i ([], [])).2 ≠ [] ∧ (c.getD i ([], [])).2 < (c.getD j ([], [])).1 := by
  have := List.pairwise_iff_getElem.1 h.2 i j (by omega) hj hij
  simpa [show i < c.length by omega, hj] using this
theorem kAt_key {c : List Fm} (h : canon c) {j : Nat} (hj : j < c.length) : KK (kAt c j) ∧ kAt c j ≤ (c.getD j ([], [])).1 := by
  have hok := h.1 _ (getD_memF hj)
  unfold kAt
  by_cases h0 : j = 0
  · rw [if_pos h0]; exact ⟨KK0, le0 hok.1⟩
  · rw [if_neg h0]
    have hp := pair_at h (show j - 1 < j by omega) hj
    have hok1 := h.1 _ (getD_memF (show j - 1 < c.length by omega))
    refine ⟨?_, by have := hp.2; grind⟩
    rcases hok1.2 with h1 | h1
    · exact absurd h1 hp.1
    · exact h1.1
theorem inC_at {c : List Fm} {x : List Nat} (h : inC c x) : ∃ i, i < c.length ∧ inF (c.getD i ([], [])) x := by
  obtain ⟨f, hf, hi⟩ := h
  obtain ⟨i, hlt, he⟩ := List.getElem_of_mem hf
  exact ⟨i, hlt, by rw [show c.getD i ([], []) = f by simp [hlt, he]]; exact hi⟩
theorem edg_lo {L : List Rg} (hL : ∀ r ∈ L, r.b8) {j : Nat} (hj : j < (cover L).length) : edg L (kAt (cover L) j) true = ((cover L).getD j ([], [])).1 := by
  obtain ⟨hc, hin⟩ := cover_ok hL
  generalize hcc : cover L = c at *
  obtain ⟨hk, hle⟩ := kAt_key hc hj
  have hok := hc.1 _ (getD_memF hj)
  refine edg_is hL hk hok.1 hle ((hin _ hok.1).1 ⟨_, getD_memF hj, inF_lo hok⟩) fun x hx h1 h2 h3 => ?_
  obtain ⟨i, hi, hf⟩ := inC_at ((hin x hx).2 h3)
  by_cases hij : i < j
  · obtain ⟨h4, h5⟩ := pair_at hc hij hj
    have h6 : x < (c.getD i ([], [])).2 := hf.2.resolve_left h4
    have h7 : (c.getD i ([], [])).2 ≤ kAt c j := by
      unfold kAt
      rw [if_neg (by omega)]
      by_cases e : i = j - 1
      · rw [e]; grind
      · obtain ⟨h8, h9⟩ := pair_at hc (show i < j - 1 by omega) (show j - 1 < c.length by omega)
        have h10 := inF_lo (hc.1 _ (getD_memF (show j - 1 < c.length by omega)))
        obtain ⟨h11, h12⟩ := pair_at hc (show j - 1 < j by omega) hj
        have h13 := h10.2.resolve_left h11
        grind
    grind
  · by_cases e : i = j
    · subst e
      have := hf.1
      grind
    · obtain ⟨h4, h5⟩ := pair_at hc (show j < i by omega) hi
      have h6 := (inF_lo hok).2.resolve_left h4
      have h7 := hf.1
      grind
theorem edg_end {L : List Rg} (hL : ∀ r ∈ L, r.b8) {j : Nat} (hj : j = (cover L).length) (hk : KK (kAt (cover L) j)) : edg L (kAt (cover L) j) true = [] := by
  obtain ⟨hc, hin⟩ := cover_ok hL
  generalize hcc : cover L = c at *
  refine edg_none hL hk fun x hx h1 h3 => ?_
  obtain ⟨i, hi, hf⟩ := inC_at ((hin x hx).2 h3)
  unfold kAt at h1 hk
  by_cases h0 : j = 0
  · omega
  · rw [if_neg h0] at h1 hk
    by_cases e : i = j - 1
    · rw [e] at hf
      have h4 := hf.2.resolve_left hk.ne
      grind
    · obtain ⟨h8, h9⟩ := pair_at hc (show i < j - 1 by omega) (show j - 1 < c.length by omega)
      have h4 := hf.2.resolve_left h8
      have h10 := (inF_lo (hc.1 _ (getD_memF (show j - 1 < c.length by omega)))).2.resolve_left hk.ne
      grind
theorem edg_hi {L : List Rg} (hL : ∀ r ∈ L, r.b8) {j : Nat} (hj : j < (cover L).length) : edg L ((cover L).getD j ([], [])).1 false = ((cover L).getD j ([], [])).2 := by
  obtain ⟨hc, hin⟩ := cover_ok hL
  generalize hcc : cover L = c at *
  have hok := hc.1 _ (getD_memF hj)
  have inn : ∀ x, KK x → (c.getD j ([], [])).1 ≤ x → ((c.getD j ([], [])).2 = [] ∨ x < (c.getD j ([], [])).2) → inL L x ≠ false := fun x hx h1 h2 h3 => by
    have := (hin x hx).1 ⟨_, getD_memF hj, h1, h2⟩
    rw [this] at h3
    cases h3
  rcases hok.2 with h0 | ⟨h0, h00⟩
  · rw [h0]
    exact edg_none hL hok.1 fun x hx h1 => inn x hx h1 (.inl h0)
  · refine edg_is hL hok.1 h0 (by grind) ?_ fun x hx h1 h2 => inn x hx h1 (.inr h2)
    cases h3 : inL L (c.getD j ([], [])).2 with
    | false => rfl
    | true =>
      exfalso
      obtain ⟨i, hi, hf⟩ := inC_at ((hin _ h0).2 h3)
      by_cases hij : i < j
      · obtain ⟨h4, h5⟩ := pair_at hc hij hj
        have h6 := hf.2.resolve_left h4
        grind
      · by_cases e : i = j
        · subst e
          have h6 := hf.2.resolve_left h0.ne
          grind
        · obtain ⟨h4, h5⟩ := pair_at hc (show j < i by omega) hi
          have h7 := hf.1
          grind
end Go.Proofs.Ytbobnfjbbablkaa
