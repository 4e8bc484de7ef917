import Derived.Test.YtdinhfogclmaaaaUYA
namespace Go.Proofs.Ytdinhfogclmaaaa

/-! ### Norm: plain mathematics -/
def outK (I : List Rn) (k : Nat) : List Rn := (I.set k (I.getD (I.length - 1) Rn.zero)).dropLast
theorem last_split {I : List Rn} (h0 : 0 < I.length) : ∃ A, I = A ++ [I.getD (I.length - 1) Rn.zero] ∧ A.length + 1 = I.length := by
  have hne : I ≠ [] := by intro e; rw [e] at h0; simp at h0
  refine ⟨I.dropLast, ?_, by rw [List.length_dropLast]; omega⟩
  have e := List.dropLast_concat_getLast hne
  rw [List.getLast_eq_getElem] at e
  rw [List.getD_eq_getElem?_getD, List.getElem?_eq_getElem (by omega)]
  exact e.symm
theorem outK_perm {I : List Rn} {k : Nat} (hk : k < I.length) : I.Perm (I.getD k Rn.zero :: outK I k) ∧ (outK I k).length + 1 = I.length := by
  obtain ⟨A, hA, lA⟩ := last_split (I := I) (by omega)
  refine ⟨?_, by unfold outK; rw [List.length_dropLast, List.length_set]; omega⟩
  unfold outK
  generalize I.getD (I.length - 1) Rn.zero = l at *
  subst hA
  by_cases h : k < A.length
  · rw [List.set_append_left _ _ h, List.dropLast_concat, List.getD_eq_getElem?_getD, List.getElem?_append_left h, List.getElem?_eq_getElem h, List.set_eq_take_append_cons_drop, if_pos h]
    have e : A = A.take k ++ A[k] :: A.drop (k + 1) := by simp
    have p1 : (A ++ [l]).Perm (l :: A) := List.perm_append_singleton l A
    refine p1.trans ?_
    have p2 : (l :: A).Perm (l :: (A[k] :: (A.take k ++ A.drop (k + 1)))) := List.Perm.cons _ (by
      conv => lhs; rw [e]
      exact List.perm_middle)
    refine p2.trans ((List.Perm.swap _ _ _).trans (List.Perm.cons _ ?_))
    exact List.perm_middle.symm
  · obtain rfl : k = A.length := by rw [List.length_append] at hk; simp at hk; omega
    rw [List.set_append_right _ _ (Nat.le_refl _), Nat.sub_self, List.set_cons_zero, List.dropLast_concat, List.getD_eq_getElem?_getD, List.getElem?_append_right (Nat.le_refl _), Nat.sub_self]
    exact List.perm_append_singleton l A
theorem has_permN {L M : List Rn} (h : L.Perm M) (z : Int) : has L z = has M z := by
  rw [Bool.eq_iff_iff, has_iff, has_iff]
  exact ⟨fun ⟨r, hr, h1⟩ => ⟨r, h.mem_iff.1 hr, h1⟩, fun ⟨r, hr, h1⟩ => ⟨r, h.mem_iff.2 hr, h1⟩⟩
def fit (r : Rn) : Bool := decide (r.1 ≤ r.2)
theorem has_fit (L : List Rn) (z : Int) : has (L.filter fit) z = has L z := by
  rw [Bool.eq_iff_iff, has_iff, has_iff]
  constructor
  · rintro ⟨r, hr, h1⟩
    exact ⟨r, (List.mem_filter.1 hr).1, h1⟩
  · rintro ⟨r, hr, h1, h2⟩
    exact ⟨r, List.mem_filter.2 ⟨hr, decide_eq_true (by omega)⟩, h1, h2⟩
/-- Norm, under way: I are to come, O are out -/
structure Nst (L I O : List Rn) : Prop where
  ne : ∀ r ∈ I, r.1 ≤ r.2 ∧ N64 r.1 ∧ N64 r.2
  can : Can O
  bnd : ∀ r ∈ O, N64 r.1 ∧ N64 r.2
  low : ∀ o ∈ O, ∀ r ∈ I, o.1 ≤ r.1
  has : ∀ z, (has O z || has I z) = has L z
  len : O.length + I.length ≤ L.length
theorem Nst.start {L : List Rn} (hb : ∀ r ∈ L, N64 r.1 ∧ N64 r.2) : Nst L (L.filter fit) [] :=
  ⟨fun r hr => ⟨of_decide_eq_true (List.mem_filter.1 hr).2, hb r (List.mem_filter.1 hr).1⟩, Can.nil, by simp, by simp, fun z => by rw [has_nil, has_fit]; rfl, by simp; exact List.length_filter_le _ _⟩
theorem Nst.take {L I O : List Rn} (h : Nst L I O) {k : Nat} (hk : k < I.length) (hm : ∀ r ∈ I, (I.getD k Rn.zero).1 ≤ r.1) :
    (I.getD k Rn.zero).1 ≤ (I.getD k Rn.zero).2 ∧ N64 (I.getD k Rn.zero).1 ∧ N64 (I.getD k Rn.zero).2 ∧ (∀ o ∈ O, o.1 ≤ (I.getD k Rn.zero).1) ∧ (∀ r ∈ outK I k, r ∈ I ∧ (I.getD k Rn.zero).1 ≤ r.1) ∧ (∀ z, Go.Proofs.Ytdinhfogclmaaaa.has I z = Go.Proofs.Ytdinhfogclmaaaa.has (I.getD k Rn.zero :: outK I k) z) ∧ (outK I k).length + 1 = I.length := by
  obtain ⟨p, l⟩ := outK_perm hk
  have m : I.getD k Rn.zero ∈ I := p.mem_iff.2 (by simp)
  have n := h.ne _ m
  exact ⟨n.1, n.2.1, n.2.2, fun o ho => h.low o ho _ m, fun r hr => by have := p.mem_iff.2 (show r ∈ _ from List.mem_cons_of_mem _ hr); exact ⟨this, hm r this⟩, fun z => has_permN p z, l⟩
theorem Nst.app {L I O : List Rn} (h : Nst L I O) {k : Nat} (hk : k < I.length) (hm : ∀ r ∈ I, (I.getD k Rn.zero).1 ≤ r.1) (hO : ∀ o ∈ O, o.2 + 1 < (I.getD k Rn.zero).1) : Nst L (outK I k) (O ++ [I.getD k Rn.zero]) := by
  obtain ⟨t1, t2, t3, t4, t5, t6, t7⟩ := h.take hk hm
  generalize I.getD k Rn.zero = x at *
  refine ⟨fun r hr => h.ne r (t5 r hr).1, ⟨?_, ?_⟩, ?_, ?_, ?_, ?_⟩
  · intro r hr
    rcases List.mem_append.1 hr with hr | hr
    · exact h.can.1 r hr
    · rw [List.mem_singleton.1 hr]; exact t1
  · rw [List.pairwise_append]
    exact ⟨h.can.2, by simp, fun a ha b hb => by rw [List.mem_singleton.1 hb]; exact hO a ha⟩
  · intro r hr
    rcases List.mem_append.1 hr with hr | hr
    · exact h.bnd r hr
    · rw [List.mem_singleton.1 hr]; exact ⟨t2, t3⟩
  · intro o ho r hr
    rcases List.mem_append.1 ho with ho | ho
    · exact h.low o ho r (t5 r hr).1
    · rw [List.mem_singleton.1 ho]; exact (t5 r hr).2
  · intro z
    rw [← h.has z, t6 z, has_cons, has_append, has_cons, has_nil]
    cases Go.Proofs.Ytdinhfogclmaaaa.has O z <;> simp
  · have := h.len
    rw [List.length_append, List.length_singleton]
    omega
theorem Nst.mrg {L I P : List Rn} {l : Rn} (h : Nst L I (P ++ [l])) {k : Nat} (hk : k < I.length) (hm : ∀ r ∈ I, (I.getD k Rn.zero).1 ≤ r.1) (hx : (I.getD k Rn.zero).1 ≤ l.2 + 1) : Nst L (outK I k) (P ++ [(l.1, max l.2 (I.getD k Rn.zero).2)]) := by
  obtain ⟨t1, t2, t3, t4, t5, t6, t7⟩ := h.take hk hm
  generalize I.getD k Rn.zero = x at *
  have lm : l ∈ P ++ [l] := by simp
  have l1 := h.can.1 l lm
  have l2 := h.bnd l lm
  have l3 := t4 l lm
  have pw := h.can.2
  rw [List.pairwise_append] at pw
  refine ⟨fun r hr => h.ne r (t5 r hr).1, ⟨?_, ?_⟩, ?_, ?_, ?_, ?_⟩
  · intro r hr
    rcases List.mem_append.1 hr with hr | hr
    · exact h.can.1 r (by simp [hr])
    · rw [List.mem_singleton.1 hr]
      show l.1 ≤ max l.2 x.2
      omega
  · rw [List.pairwise_append]
    exact ⟨pw.1, by simp, fun a ha b hb => by rw [List.mem_singleton.1 hb]; exact pw.2.2 a ha l (by simp)⟩
  · intro r hr
    rcases List.mem_append.1 hr with hr | hr
    · exact h.bnd r (by simp [hr])
    · rw [List.mem_singleton.1 hr]
      unfold N64 at *
      show (_ ≤ l.1 ∧ l.1 ≤ _) ∧ _ ≤ max l.2 x.2 ∧ max l.2 x.2 ≤ _
      omega
  · intro o ho r hr
    rcases List.mem_append.1 ho with ho | ho
    · exact h.low o (by simp [ho]) r (t5 r hr).1
    · rw [List.mem_singleton.1 ho]
      exact h.low l lm r (t5 r hr).1
  · intro z
    rw [← h.has z, t6 z, has_cons, has_append, has_cons, has_nil, has_append, has_cons, has_nil]
    have key : (decide (l.1 ≤ z) && decide (z ≤ max l.2 x.2)) = (decide (l.1 ≤ z) && decide (z ≤ l.2) || decide (x.1 ≤ z) && decide (z ≤ x.2)) := by
      rw [Bool.eq_iff_iff]
      simp only [Bool.and_eq_true, Bool.or_eq_true, decide_eq_true_eq]
      omega
    rw [show (decide ((l.1, max l.2 x.2).1 ≤ z) && decide (z ≤ (l.1, max l.2 x.2).2)) = _ from key]
    cases Go.Proofs.Ytdinhfogclmaaaa.has P z <;> cases Go.Proofs.Ytdinhfogclmaaaa.has (outK I k) z <;> simp
  · have := h.len
    rw [List.length_append, List.length_singleton] at *
    omega
end Go.Proofs.Ytdinhfogclmaaaa
