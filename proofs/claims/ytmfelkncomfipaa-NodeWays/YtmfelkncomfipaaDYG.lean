import Derived.Test.YtmfelkncomfipaaDYF
namespace Go.Proofs.Ytmfelkncomfipaa
set_option linter.unusedVariables false
set_option linter.unusedSimpArgs false
theorem srch_left {k : List Nat} {B : List It} (h : ∀ y ∈ B, ¬ y.key < k) : ∀ A : List It, srch k (A ++ B) = srch k A
  | [] => by
    cases B with
    | nil => rfl
    | cons y T => simp [srch, h y (by simp)]
  | x :: A => by
    simp only [List.cons_append, srch, srch_left h A]
theorem srch_right {k : List Nat} {B : List It} : ∀ A : List It, (∀ x ∈ A, x.key < k) → srch k (A ++ B) = A.length + srch k B
  | [], _ => by simp
  | x :: A, h => by
    simp only [List.cons_append, srch, h x (by simp), if_true, srch_right A (fun y hy => h y (List.mem_cons_of_mem _ hy)), List.length_cons]
    omega
theorem upto_left {k : List Nat} {B : List It} (h : ∀ y ∈ B, ¬ y.key ≤ k) : ∀ A : List It, upto k (A ++ B) = upto k A
  | [] => by
    cases B with
    | nil => rfl
    | cons y T => simp only [List.nil_append, upto, if_neg (h y (by simp))]
  | x :: A => by
    simp only [List.cons_append, upto, upto_left h A]
theorem upto_right {k : List Nat} {B : List It} : ∀ A : List It, (∀ x ∈ A, x.key ≤ k) → upto k (A ++ B) = A.length + upto k B
  | [], _ => by simp
  | x :: A, h => by
    simp only [List.cons_append, upto, if_pos (h x (by simp)), upto_right A (fun y hy => h y (List.mem_cons_of_mem _ hy)), List.length_cons]
    omega
theorem getD_left {A B : List It} {i : Nat} (h : i < A.length) : (A ++ B).getD i It.zero = A.getD i It.zero := by
  simp [List.getD_eq_getElem?_getD, List.getElem?_append_left h]
theorem getD_right {A B : List It} {i : Nat} : (A ++ B).getD (A.length + i) It.zero = B.getD i It.zero := by
  simp [List.getD_eq_getElem?_getD, List.getElem?_append_right]
theorem leadI1 (A : List It) (key : List Nat) : leadI 1 A key = if hasK key A = true then (A.getD (srch key A) It.zero, true) else (It.zero, false) := by
  unfold leadI
  rw [if_neg (by decide)]
theorem lead_left {A B : List It} {key : List Nat} (h : ∀ y ∈ B, key < y.key) : leadI 1 A key = leadI 1 (A ++ B) key := by
  have e := srch_left (k := key) (B := B) (fun y hy => by have := h y hy; grind) A
  have hl := srch_le key A
  have hk : hasK key (A ++ B) = hasK key A := by
    unfold hasK
    rw [e]
    by_cases h1 : srch key A < A.length
    · rw [getD_left h1, List.length_append]
      simp [h1, show srch key A < A.length + B.length by omega]
    · have h2 : srch key A = A.length + 0 := by omega
      rw [show decide (srch key A < A.length) = false from decide_eq_false h1, Bool.false_and]
      rw [h2, getD_right]
      cases B with
      | nil => simp
      | cons y T =>
        have := h y (by simp)
        have hne : ¬ y.key = key := fun e => by rw [e] at this; exact absurd this (List.lt_irrefl _)
        simp [hne]
  rw [leadI1, leadI1, hk]
  by_cases hb : hasK key A = true
  · have h1 : srch key A < A.length := by
      unfold hasK at hb
      simp only [Bool.and_eq_true, decide_eq_true_eq] at hb
      exact hb.1
    rw [if_pos hb, if_pos hb, e, getD_left h1]
  · rw [if_neg hb, if_neg hb]
theorem lead_right {A B : List It} {key : List Nat} (h : ∀ x ∈ A, x.key < key) : leadI 1 B key = leadI 1 (A ++ B) key := by
  have e := srch_right (k := key) (B := B) A h
  have hk : hasK key (A ++ B) = hasK key B := by
    unfold hasK
    rw [e, getD_right, List.length_append]
    congr 1
    by_cases h1 : srch key B < B.length
    · rw [decide_eq_true h1, decide_eq_true (by omega)]
    · rw [decide_eq_false h1, decide_eq_false (by omega)]
  rw [leadI1, leadI1, hk, e, getD_right]
theorem Pr.key {k lv : Int} {A B : List It} (h : Pr k lv (A ++ B)) (hA : 1 ≤ A.length) : ∀ y ∈ B, ∀ x ∈ A, x.key < y.key := fun y hy x hx => by
  obtain ⟨j, hj, ej⟩ := List.mem_iff_getElem.1 hy
  obtain ⟨i, hi, ei⟩ := List.mem_iff_getElem.1 hx
  have := h.at (i := i) (j := A.length + j) (by omega) (by rw [List.length_append]; omega)
  rw [getD_right, getD_left hi] at this
  simpa [hi, hj, ei, ej] using this
/-- a key is found on the same way, in two neighbours or in one page -/
theorem found_eq {k lv : Int} {a b : Pg} {s key : List Nat} (h : Pr k lv (jnd a b s)) (ka : a.kind = k) (kb : b.kind = k) (ha : 1 ≤ a.items.length) (hb : 1 ≤ b.items.length) (hs : k = 1 → (∀ x ∈ a.items, x.key < s) ∧ ∀ y ∈ b.items, s ≤ y.key) : foundI a b s key = leadI k (jnd a b s) key := by
  obtain ⟨ak, al, A, ad, an⟩ := a
  obtain ⟨bk, bl, B, bd, bn⟩ := b
  simp only at ka kb ha hb hs
  subst ka
  subst kb
  unfold foundI
  simp only
  rcases h.k with rfl | rfl
  · rw [jnd1 hb]
    obtain ⟨s1, s2⟩ := hs rfl
    by_cases hlt : key < s
    · rw [if_pos hlt]
      exact lead_left (fun y hy => by have := s2 y hy; grind)
    · rw [if_neg hlt]
      exact lead_right (fun x hx => by have := s1 x hx; grind)
  · cases B with
    | nil => simp at hb
    | cons y T =>
    rw [jnd2] at h ⊢
    have kk := h.key ha
    cases A with
    | nil => simp at ha
    | cons x A' =>
    have pT : ∀ z ∈ T, s < z.key := fun z hz => by
      obtain ⟨i, hi, e⟩ := List.mem_iff_getElem.1 hz
      have := h.at (i := (x :: A').length + 0) (j := (x :: A').length + (i + 1)) (by omega) (by simp; omega)
      rw [getD_right, getD_right, List.getD_cons_zero, List.getD_cons_succ] at this
      simpa [hi, e, It.keyed] using this
    have pA : ∀ z ∈ A', z.key < s := fun z hz => kk (y.keyed s) (by simp) z (List.mem_cons_of_mem _ hz)
    unfold leadI
    rw [if_pos rfl, if_pos rfl, if_pos rfl]
    have ej : rout key ((x :: A') ++ y.keyed s :: T) = upto key (A' ++ y.keyed s :: T) := rfl
    by_cases hlt : key < s
    · rw [if_pos hlt]
      have e : upto key (A' ++ y.keyed s :: T) = upto key A' := upto_left (fun z hz => by
        rcases List.mem_cons.1 hz with rfl | hz
        · show ¬ s ≤ key
          grind
        · have := pT z hz
          grind) A'
      have e2 : rout key (x :: A') = upto key A' := rfl
      have hl := upto_le key A'
      rw [ej, e, e2, getD_left (by simp; omega)]
    · rw [if_neg hlt]
      have e : upto key (A' ++ y.keyed s :: T) = A'.length + upto key (y.keyed s :: T) := upto_right A' (fun z hz => by have := pA z hz; grind)
      have e2 : upto key (y.keyed s :: T) = upto key T + 1 := by
        simp only [upto]
        rw [if_pos (show (y.keyed s).key ≤ key from by show s ≤ key; grind)]
      have e3 : rout key (y :: T) = upto key T := rfl
      rw [ej, e, e2, e3, show A'.length + (upto key T + 1) = (x :: A').length + upto key T by simp; omega, getD_right]
      cases hu : upto key T with
      | zero => rfl
      | succ u => rfl
/-- what fits lies on the right sides -/
theorem Fit.sides {l r : Pg} {s : List Nat} (h : Fit l r s) : l.kind = 1 → (∀ x ∈ l.items, x.key < s) ∧ ∀ y ∈ r.items, s ≤ y.key := fun h1 => by
  obtain ⟨c1, c2, ek, el, n3, s1, s2, hlt, hge⟩ := h
  have o1 := okp_of n3 c1
  have o2 := okp_of (by rw [← ek]; exact n3) c2
  have kx1 := o1.kx
  have kx2 := o2.kx
  unfold Kx at kx1 kx2
  rw [if_pos h1] at kx1 hge
  rw [if_pos (by rw [← ek]; exact h1)] at kx2
  refine ⟨fun x hx => ?_, fun y hy => ?_⟩
  · have := kr_hi kx1 hx
    have h2 : (l.items.getD (l.items.length - 1) It.zero).key < s := hlt
    grind
  · have := kr_lo kx2 hy
    have h2 : s ≤ (r.items.getD 0 It.zero).key := hge
    grind
theorem Ptd.sides {k lv : Int} {J : List It} {n : Nat} {Z : Hv} (h : Ptd k lv J n Z) (p : Pr k lv J) (h1 : 1 ≤ n) (hn : n < J.length) : k = 1 → (∀ x ∈ Z.l.items, x.key < Z.s) ∧ ∀ y ∈ Z.r.items, Z.s ≤ y.key := fun hk => by
  obtain ⟨s1, s2⟩ := h.s1 hk
  subst hk
  refine ⟨fun x hx => ?_, fun y hy => ?_⟩
  · rw [h.l] at hx
    obtain ⟨i, hi, e⟩ := List.mem_iff_getElem.1 hx
    simp only [List.length_take] at hi
    have e2 : J.getD i It.zero = x := by
      rw [List.getElem_take] at e
      simp [show i < J.length by omega, e]
    by_cases h0 : i = n - 1
    · rw [← e2, h0]; exact s1
    · have := p.at (i := i) (j := n - 1) (by omega) (by omega)
      rw [e2] at this
      grind
  · rw [h.r] at hy
    rw [if_neg (show ¬ (1 : Int) = 2 by decide)] at hy
    obtain ⟨i, hi, e⟩ := List.mem_iff_getElem.1 hy
    simp only [List.length_drop] at hi
    have e2 : J.getD (n + i) It.zero = y := by
      rw [List.getElem_drop] at e
      simp [show n + i < J.length by omega, e]
    by_cases h0 : i = 0
    · subst h0
      rw [← e2]; exact s2
    · have := p.at (i := n) (j := n + i) (by omega) (by omega)
      rw [e2] at this
      grind
end Go.Proofs.Ytmfelkncomfipaa
