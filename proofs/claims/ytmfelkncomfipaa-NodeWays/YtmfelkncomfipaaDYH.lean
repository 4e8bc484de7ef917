import Derived.Test.YtmfelkncomfipaaDYB
namespace Go.Proofs.Ytmfelkncomfipaa
set_option linter.unusedVariables false
set_option linter.unusedSimpArgs false
/-- how many the giver and the taker have -/
def gvn (l r : Pg) (t : Bool) : Nat := if t then l.items.length else r.items.length
def tkn (l r : Pg) (t : Bool) : Nat := if t then r.items.length else l.items.length
def ptn (n : Nat) (t : Bool) : Nat := if t then n - 1 else n + 1
theorem fit_alk {l r : Pg} {s : List Nat} (h : Fit l r s) : alk l r = true ∧ 1 ≤ l.items.length ∧ 1 ≤ r.items.length ∧ l.items.length ≤ 8 ∧ r.items.length ≤ 8 := by
  obtain ⟨c1, c2, ek, el, n3, -⟩ := h
  have o1 := okp_of n3 c1
  have o2 := okp_of (by rw [← ek]; exact n3) c2
  refine ⟨?_, o1.l1, o2.l1, o1.ln, o2.ln⟩
  unfold alk mnt
  rcases o1.k with k | k <;> simp [k, ← ek, ← el]
theorem lend_as {l r : Pg} {s : List Nat} (t : Bool) (h : Fit l r s) : lend l r s t = if 2 ≤ gvn l r t ∧ tkn l r t < 8 then prt (l.wi ((jnd l r s).take (ptn l.items.length t))) (r.wi ((jnd l r s).drop (ptn l.items.length t))) else Hv.none := by
  obtain ⟨a1, a2, a3, a4, a5⟩ := fit_alk h
  unfold lend
  cases t
  · simp only [gvn, tkn, ptn, a1, mayL, Bool.false_eq_true, if_false, true_and]
    by_cases h1 : 2 ≤ r.items.length ∧ l.items.length < 8
    · rw [if_pos h1, if_pos (by simp [h1, a2])]
    · rw [if_neg h1, if_neg (by simp [a2]; intro h2; omega)]
  · simp only [gvn, tkn, ptn, a1, mayL, if_true, true_and]
    by_cases h1 : 2 ≤ l.items.length ∧ r.items.length < 8
    · rw [if_pos h1, if_pos (by simp [h1, a3])]
    · rw [if_neg h1, if_neg (by simp [a3]; intro h2; omega)]
theorem lend_ptd {l r : Pg} {s : List Nat} (t : Bool) (h : Fit l r s) (hp : Pr l.kind l.level (jnd l r s)) (h1 : 2 ≤ gvn l r t) (h2 : tkn l r t < 8) : Ptd l.kind l.level (jnd l r s) (ptn l.items.length t) (lend l r s t) ∧ 1 ≤ ptn l.items.length t ∧ ptn l.items.length t < (jnd l r s).length := by
  obtain ⟨a1, a2, a3, a4, a5⟩ := fit_alk h
  have hj := (fit_back h).2.2.2
  have n1 : 1 ≤ ptn l.items.length t ∧ ptn l.items.length t < (jnd l r s).length := by
    rw [hj]
    cases t
    · simp only [gvn, tkn, ptn, Bool.false_eq_true, if_false] at h1 h2 ⊢; omega
    · simp only [gvn, tkn, ptn, if_true] at h1 h2 ⊢; omega
  rw [lend_as t h, if_pos ⟨h1, h2⟩]
  obtain ⟨c1, c2, ek, el, n3, -⟩ := h
  have o1 := okp_of n3 c1
  have o2 := okp_of (by rw [← ek]; exact n3) c2
  exact ⟨hp.ptd rfl rfl o1.d o1.n ek.symm el.symm o2.d o2.n n1.1 n1.2, n1⟩
theorem lend_ok {l r : Pg} {s : List Nat} (t : Bool) (h : Fit l r s) (hp : Pr l.kind l.level (jnd l r s)) : (lend l r s t).ok = (decide (2 ≤ gvn l r t) && decide (tkn l r t < 8)) := by
  by_cases h1 : 2 ≤ gvn l r t ∧ tkn l r t < 8
  · rw [(lend_ptd t h hp h1.1 h1.2).1.ok]
    simp [h1]
  · rw [lend_as t h, if_neg h1]
    show false = _
    by_cases h2 : 2 ≤ gvn l r t
    · have : ¬ tkn l r t < 8 := fun e => h1 ⟨h2, e⟩
      simp [this]
    · simp [h2]
theorem Ptd.len {k lv : Int} {J : List It} {n : Nat} {Z : Hv} (h : Ptd k lv J n Z) (hn : n < J.length) : Z.l.items.length = n ∧ Z.r.items.length = J.length - n := by
  rw [h.l, h.r]
  refine ⟨by show (J.take n).length = n; rw [List.length_take]; omega, ?_⟩
  show (if k = 2 then _ else _ : List It).length = _
  split
  · rw [List.length_cons, List.length_drop]; omega
  · rw [List.length_drop]
theorem Ptd.same {k lv : Int} {J : List It} {n : Nat} {Z Z' : Hv} (h : Ptd k lv J n Z) (h' : Ptd k lv J n Z') : Z.l = Z'.l ∧ Z.r = Z'.r ∧ (k = 2 → Z.s = Z'.s) := ⟨by rw [h.l, h'.l], by rw [h.r, h'.r], fun e => by rw [h.s2 e, h'.s2 e]⟩
theorem fit_sml0 {l r : Pg} {s : List Nat} (h : Fit l r s) : (∀ x ∈ l.items, x.val.length ≤ 3840) ∧ (∀ x ∈ r.items, x.val.length ≤ 3840) := by
  have h3 : l.kind ≠ 3 := h.2.2.2.2.1
  have h3r : r.kind ≠ 3 := by rw [← h.2.2.1]; exact h3
  have v : ∀ p : Pg, p.check = 0 → p.kind ≠ 3 → ∀ x ∈ p.items, x.val.length ≤ 3840 := fun p hc hk x hx => by
    have f := (Pg.check_zero.1 hc).fits hx
    have hq := okp_of hk hc
    rcases hq.k with k1 | k1
    · have a := f.leaf k1
      by_cases hz : x.size ≤ 32
      · have := (a.2.2.1 hz).1; omega
      · rw [(a.2.2.2 (by omega)).1]; simp
    · rw [(f.index k1).1]; simp
  exact ⟨v l h.1 h3, v r h.2.1 h3r⟩
theorem jnd_val {l r : Pg} {s : List Nat} (h1 : ∀ x ∈ l.items, x.val.length ≤ 3840) (h2 : ∀ x ∈ r.items, x.val.length ≤ 3840) {x : It} (hx : x ∈ jnd l r s) : x.val.length ≤ 3840 := by
  have g0 : (r.at 0).val.length ≤ 3840 := by
    unfold Pg.at
    cases hr : r.items with
    | nil => simp [It.zero]
    | cons y T => exact h2 y (by rw [hr]; simp)
  unfold jnd at hx
  rcases List.mem_append.1 hx with hx | hx
  · exact h1 x hx
  · rcases List.mem_cons.1 hx with rfl | hx
    · split
      · exact g0
      · exact g0
    · exact h2 x (List.mem_of_mem_drop hx)
/-- what is lent fits, loses nothing, and can be lent back -/
theorem lend_back {l r : Pg} {s : List Nat} (t : Bool) (h : Fit l r s) (hl : ∀ x ∈ l.items, B8 x.key) (hr : ∀ x ∈ r.items, B8 x.key) (hs : B8 s) (h1 : 2 ≤ gvn l r t) (h2 : tkn l r t < 8) :
    jnd (lend l r s t).l (lend l r s t).r (lend l r s t).s = jnd l r s ∧ tkn (lend l r s t).l (lend l r s t).r t = tkn l r t + 1 ∧ 1 ≤ (lend l r s t).r.items.length ∧ (lend l r s t).l.items.length ≤ 8 ∧ (lend l r s t).r.items.length ≤ 8 ∧
    (∀ x ∈ (lend l r s t).l.items, x.key.length ≤ 24 ∧ x.val.length ≤ 3840) ∧ (∀ x ∈ (lend l r s t).r.items, x.key.length ≤ 24 ∧ x.val.length ≤ 3840) ∧ (lend l r s t).l.data = [] ∧ (lend l r s t).r.data = [] ∧ (lend l r s t).s.length ≤ 24 ∧
    ((l.kind = 2 → 3 ≤ gvn l r t) → Fit (lend l r s t).l (lend l r s t).r (lend l r s t).s ∧ (lend (lend l r s t).l (lend l r s t).r (lend l r s t).s (!t)).ok = true ∧ (lend (lend l r s t).l (lend l r s t).r (lend l r s t).s (!t)).l = l ∧ (lend (lend l r s t).l (lend l r s t).r (lend l r s t).s (!t)).r = r ∧ (l.kind = 2 → (lend (lend l r s t).l (lend l r s t).r (lend l r s t).s (!t)).s = s) ∧ Fit l r (lend (lend l r s t).l (lend l r s t).r (lend l r s t).s (!t)).s) := by
  have hp := fit_pr h hl hr hs
  obtain ⟨a1, a2, a3, a4, a5⟩ := fit_alk h
  obtain ⟨pt, n1, n2⟩ := lend_ptd t h hp h1 h2
  have fb := fit_back h
  have hj := fb.2.2.2
  obtain ⟨ll, lr⟩ := pt.len n2
  have sm := fit_sml0 h
  have vJ : ∀ x ∈ jnd l r s, x.val.length ≤ 3840 := fun x hx => jnd_val sm.1 sm.2 hx
  have kJ : ∀ x ∈ jnd l r s, x.key.length ≤ 24 := fun x hx => by
    obtain ⟨i, hi, e⟩ := List.mem_iff_getElem.1 hx
    have := hp.le24 hi
    rw [show (jnd l r s).getD i It.zero = x by simp [hi, e]] at this
    exact this
  refine ⟨pt.j, ?_, by rw [lr]; omega, ?_, ?_, fun x hx => ?_, fun x hx => ?_, by rw [pt.l], by rw [pt.r], pt.ln.2, fun h3 => ?_⟩
  · unfold tkn
    rw [ll, lr, hj]
    cases t
    · simp only [gvn, tkn, ptn, Bool.false_eq_true, if_false] at h1 h2 ⊢
    · simp only [gvn, tkn, ptn, if_true] at h1 h2 ⊢; omega
  · rw [ll]
    cases t
    · simp only [gvn, tkn, ptn, Bool.false_eq_true, if_false] at h1 h2 ⊢; omega
    · simp only [gvn, tkn, ptn, if_true] at h1 h2 ⊢; omega
  · rw [lr, hj]
    cases t
    · simp only [gvn, tkn, ptn, Bool.false_eq_true, if_false] at h1 h2 ⊢; omega
    · simp only [gvn, tkn, ptn, if_true] at h1 h2 ⊢; omega
  · rw [pt.l] at hx
    have := List.mem_of_mem_take hx
    exact ⟨kJ x this, vJ x this⟩
  · rw [pt.r] at hx
    by_cases hk : l.kind = 2
    · rw [if_pos hk] at hx
      rcases List.mem_cons.1 hx with rfl | hx
      · exact ⟨by show ([] : List Nat).length ≤ 24; simp, vJ ((jnd l r s).getD (ptn l.items.length t) It.zero) (by simp [n2])⟩
      · have := List.mem_of_mem_drop hx
        exact ⟨kJ x this, vJ x this⟩
    · rw [if_neg hk] at hx
      have := List.mem_of_mem_drop hx
      exact ⟨kJ x this, vJ x this⟩
  · have fz : Fit (lend l r s t).l (lend l r s t).r (lend l r s t).s := by
      refine pt.fit hp n1 n2 ?_ ?_ (fun hk => ?_)
      · cases t
        · simp only [gvn, tkn, ptn, Bool.false_eq_true, if_false] at h1 h2 ⊢; omega
        · simp only [gvn, tkn, ptn, if_true] at h1 h2 ⊢; omega
      · rw [hj]
        cases t
        · simp only [gvn, tkn, ptn, Bool.false_eq_true, if_false] at h1 h2 ⊢; omega
        · simp only [gvn, tkn, ptn, if_true] at h1 h2 ⊢; omega
      · have h4 := h3 hk
        have k1 := (okp_of h.2.2.2.2.1 h.1).l2 hk
        have k2 := (okp_of (by rw [← h.2.2.1]; exact h.2.2.2.2.1) h.2.1).l2 (by rw [← h.2.2.1]; exact hk)
        rw [hj]
        cases t
        · simp only [gvn, tkn, ptn, Bool.false_eq_true, if_false] at h1 h2 h4 ⊢; omega
        · simp only [gvn, tkn, ptn, if_true] at h1 h2 h4 ⊢; omega
    have ek : (lend l r s t).l.kind = l.kind := by rw [pt.l]
    have el : (lend l r s t).l.level = l.level := by rw [pt.l]
    have hp2 : Pr (lend l r s t).l.kind (lend l r s t).l.level (jnd (lend l r s t).l (lend l r s t).r (lend l r s t).s) := by rw [ek, el, pt.j]; exact hp
    have g2 : 2 ≤ gvn (lend l r s t).l (lend l r s t).r (!t) := by
      unfold gvn
      rw [ll, lr, hj]
      cases t
      · simp only [gvn, tkn, ptn, Bool.false_eq_true, if_false, Bool.not_false, if_true] at h1 h2 ⊢; omega
      · simp only [gvn, tkn, ptn, if_true, Bool.not_true, Bool.false_eq_true, if_false] at h1 h2 ⊢; omega
    have t2 : tkn (lend l r s t).l (lend l r s t).r (!t) < 8 := by
      unfold tkn
      rw [ll, lr, hj]
      cases t
      · simp only [gvn, tkn, ptn, Bool.false_eq_true, if_false, Bool.not_false, if_true] at h1 h2 ⊢; omega
      · simp only [gvn, tkn, ptn, if_true, Bool.not_true, Bool.false_eq_true, if_false] at h1 h2 ⊢; omega
    have pp : ptn (lend l r s t).l.items.length (!t) = l.items.length := by
      rw [ll]
      cases t
      · simp [ptn]
      · simp only [gvn, tkn, if_true] at h1 h2
        simp only [ptn, if_true, Bool.not_true, Bool.false_eq_true, if_false]; omega
    obtain ⟨p2, m1, m2⟩ := lend_ptd (!t) fz hp2 g2 t2
    rw [ek, el, pt.j, pp] at p2
    rw [pt.j, pp] at m2
    rw [pp] at m1
    have eL : (lend (lend l r s t).l (lend l r s t).r (lend l r s t).s (!t)).l = l := p2.l.trans fb.1.symm
    have eR : (lend (lend l r s t).l (lend l r s t).r (lend l r s t).s (!t)).r = r := p2.r.trans fb.2.1.symm
    refine ⟨fz, p2.ok, eL, eR, fun hk => (p2.s2 hk).trans (fb.2.2.1 hk).symm, ?_⟩
    have f2 := p2.fit hp m1 m2 a4 (by rw [hj]; omega) (fun hk => ⟨(okp_of h.2.2.2.2.1 h.1).l2 hk, by rw [hj]; have := (okp_of (by rw [← h.2.2.1]; exact h.2.2.2.2.1) h.2.1).l2 (by rw [← h.2.2.1]; exact hk); omega⟩)
    rw [eL, eR] at f2
    exact f2
end Go.Proofs.Ytmfelkncomfipaa
