import Derived.Test.YtmfelkncomfipaaDX
namespace Go.Proofs.Ytmfelkncomfipaa
set_option linter.unusedVariables false
set_option linter.unusedSimpArgs false

/-! ### what a sound page of items is -/
def Kr (L : List It) : Prop := (∀ x ∈ L, 1 ≤ x.key.length ∧ x.key.length ≤ 24) ∧ L.Pairwise (fun x y => x.key < y.key)
def Kx (k : Int) (L : List It) : Prop := if k = 1 then Kr L else ∃ x T, L = x :: T ∧ x.key = [] ∧ Kr T
def Bo (k : Int) (L : List It) : Prop := ∀ x ∈ L, x.valOk k = true ∧ x.kidOk k = true
structure Okp (p : Pg) : Prop where
  k : p.kind = 1 ∨ p.kind = 2
  d : p.data = []
  n : p.next = 0
  v1 : p.kind = 1 → p.level = 0
  v2 : p.kind = 2 → 1 ≤ p.level ∧ p.level ≤ 11
  ln : p.items.length ≤ 8
  l1 : 1 ≤ p.items.length
  l2 : p.kind = 2 → 2 ≤ p.items.length
  b : Bo p.kind p.items
  kx : Kx p.kind p.items
theorem pw_adj : ∀ L : List It, (∀ i, i + 1 < L.length → (L.getD i It.zero).key < (L.getD (i + 1) It.zero).key) → L.Pairwise (fun x y => x.key < y.key)
  | [], _ => List.Pairwise.nil
  | [x], _ => List.pairwise_singleton _ _
  | x :: y :: L, h => by
    have ih := pw_adj (y :: L) (fun i hi => by simpa using h (i + 1) (by simpa using hi))
    have h0 : x.key < y.key := by simpa using h 0 (by simp)
    refine List.pairwise_cons.2 ⟨fun z hz => ?_, ih⟩
    rcases List.mem_cons.1 hz with rfl | hz
    · exact h0
    · have := (List.pairwise_cons.1 ih).1 z hz
      exact List.lt_trans h0 this
theorem adj_pw {L : List It} (h : L.Pairwise (fun x y => x.key < y.key)) {i j : Nat} (hij : i < j) (hj : j < L.length) : (L.getD i It.zero).key < (L.getD j It.zero).key := by
  have := List.pairwise_iff_getElem.1 h i j (by omega) hj hij
  simpa [hj, show i < L.length by omega] using this
theorem nil_lt {k : List Nat} (h : 1 ≤ k.length) : [] < k := by
  cases k with
  | nil => simp at h
  | cons a b => simp
theorem okp_of {p : Pg} (h3 : p.kind ≠ 3) (h : p.check = 0) : Okp p := by
  have hs := Pg.check_zero.1 h
  have k0 := Pg.kindOk_iff.1 hs.k
  have k : p.kind = 1 ∨ p.kind = 2 := by omega
  have f := hs.f
  unfold Pg.form at f
  rw [if_neg h3] at f
  have it : ∀ i, i < p.items.length → p.keyOk i = true ∧ p.ordOk i = true ∧ (p.at i).valOk p.kind = true ∧ (p.at i).kidOk p.kind = true := fun i hi => itemE_zero.1 (hs.i i hi)
  have hb : Bo p.kind p.items := fun x hx => by
    obtain ⟨i, hi, rfl⟩ := mem_at hx
    exact (it i hi).2.2
  have adj : ∀ i, i + 1 < p.items.length → (p.items.getD i It.zero).key < (p.items.getD (i + 1) It.zero).key := fun i hi => by
    have := (it (i + 1) hi).2.1
    unfold Pg.ordOk at this
    simp only [Nat.add_sub_cancel, Bool.or_eq_true, decide_eq_true_eq] at this
    rcases this with h | h
    · omega
    · exact cmpB_pos.1 h
  have pw := pw_adj p.items adj
  rcases k with k1 | k1
  · rw [if_pos k1] at f
    simp at f
    refine ⟨.inl k1, f.1.1.1, f.1.1.2, fun _ => f.2.1, fun h => by omega, f.1.2, f.2.2, fun h => by omega, hb, ?_⟩
    unfold Kx
    rw [if_pos k1]
    refine ⟨fun x hx => ?_, pw⟩
    obtain ⟨i, hi, rfl⟩ := mem_at hx
    have := (it i hi).1
    unfold Pg.keyOk at this
    rw [if_neg (by omega)] at this
    simpa using this
  · rw [if_neg (by omega)] at f
    simp at f
    refine ⟨.inr k1, f.1.1.1, f.1.1.2, fun h => by omega, fun _ => f.2.1, f.1.2, by omega, fun _ => f.2.2, hb, ?_⟩
    unfold Kx
    rw [if_neg (by omega)]
    have h2 := f.2.2
    cases hL : p.items with
    | nil => rw [hL] at h2; simp at h2
    | cons x T =>
      refine ⟨x, T, rfl, ?_, fun y hy => ?_, ?_⟩
      · have := (it 0 (by omega)).1
        unfold Pg.keyOk at this
        rw [if_pos ⟨k1, rfl⟩] at this
        have e : p.at 0 = x := by unfold Pg.at; rw [hL]; rfl
        rw [e] at this
        simpa using this
      · obtain ⟨i, hi, e⟩ := List.mem_iff_getElem.1 hy
        have := (it (i + 1) (by rw [hL]; simpa using hi)).1
        unfold Pg.keyOk at this
        rw [if_neg (by omega)] at this
        have e2 : p.at (i + 1) = y := by unfold Pg.at; rw [hL]; simp [hi, e]
        rw [e2] at this
        simpa using this
      · rw [hL] at pw
        exact (List.pairwise_cons.1 pw).2
theorem of_okp {p : Pg} (h : Okp p) : p.check = 0 := by
  refine Pg.check_zero.2 ⟨Pg.kindOk_iff.2 (by have := h.k; omega), ?_, fun i hi => itemE_zero.2 ?_, ?_⟩
  · unfold Pg.form
    rw [if_neg (by have := h.k; omega), h.d, h.n]
    rcases h.k with k1 | k1
    · rw [if_pos k1]; simp [h.v1 k1, h.ln, h.l1]
    · rw [if_neg (by omega)]; simp [h.v2 k1, h.ln, h.l2 k1]
  · have hb := h.b _ (at_mem hi)
    refine ⟨?_, ?_, hb⟩
    · unfold Pg.keyOk
      have kx := h.kx
      unfold Kx at kx
      rcases h.k with k1 | k1
      · rw [if_pos k1] at kx
        rw [if_neg (by omega)]
        simpa using kx.1 _ (at_mem hi)
      · rw [if_neg (by omega)] at kx
        obtain ⟨x, T, e, hx, hT⟩ := kx
        by_cases h0 : i = 0
        · subst h0
          rw [if_pos ⟨k1, rfl⟩]
          have : p.at 0 = x := by unfold Pg.at; rw [e]; rfl
          rw [this, hx]; rfl
        · rw [if_neg (by omega)]
          obtain ⟨j, rfl⟩ : ∃ j, i = j + 1 := ⟨i - 1, by omega⟩
          have hj : j < T.length := by rw [e] at hi; simpa using hi
          have : p.at (j + 1) = T[j] := by unfold Pg.at; rw [e]; simp [hj]
          rw [this]
          simpa using hT.1 _ (List.getElem_mem hj)
    · unfold Pg.ordOk
      by_cases h0 : i = 0
      · simp [h0]
      · have : 0 < cmpB (p.at i).key (p.at (i - 1)).key := by
          rw [cmpB_pos]
          have kx := h.kx
          unfold Kx at kx
          rcases h.k with k1 | k1
          · rw [if_pos k1] at kx
            exact adj_pw kx.2 (by omega) hi
          · rw [if_neg (by omega)] at kx
            obtain ⟨x, T, e, hx, hT⟩ := kx
            obtain ⟨j, rfl⟩ : ∃ j, i = j + 1 := ⟨i - 1, by omega⟩
            have hj : j < T.length := by rw [e] at hi; simpa using hi
            unfold Pg.at
            rw [e, Nat.add_sub_cancel, List.getD_cons_succ]
            cases j with
            | zero =>
              rw [List.getD_cons_zero, hx]
              have := hT.1 (T.getD 0 It.zero) (by simp [hj])
              exact nil_lt this.1
            | succ j =>
              rw [List.getD_cons_succ]
              exact adj_pw hT.2 (by omega) hj
        simp [this]
  · unfold Pg.nextOk
    have := h.k
    simp [show ¬ p.kind = 3 by omega]
theorem Kr.app {A B : List It} : Kr (A ++ B) ↔ Kr A ∧ Kr B ∧ ∀ x ∈ A, ∀ y ∈ B, x.key < y.key := by
  unfold Kr
  rw [List.pairwise_append]
  constructor
  · rintro ⟨h1, h2, h3, h4⟩
    exact ⟨⟨fun x hx => h1 x (List.mem_append_left _ hx), h2⟩, ⟨fun x hx => h1 x (List.mem_append_right _ hx), h3⟩, h4⟩
  · rintro ⟨⟨h1, h2⟩, ⟨h3, h4⟩, h5⟩
    exact ⟨fun x hx => by rcases List.mem_append.1 hx with h | h; exact h1 x h; exact h3 x h, h2, h4, h5⟩
theorem Bo.app {k : Int} {A B : List It} : Bo k (A ++ B) ↔ Bo k A ∧ Bo k B := by
  unfold Bo
  constructor
  · intro h; exact ⟨fun x hx => h x (List.mem_append_left _ hx), fun x hx => h x (List.mem_append_right _ hx)⟩
  · rintro ⟨h1, h2⟩ x hx; rcases List.mem_append.1 hx with h | h; exact h1 x h; exact h2 x h
/-- a key between two keys -/
theorem btw_yes {a b : List Nat} (h : a < b) (ha : a.length ≤ 24) (hb : b.length ≤ 24) (h8 : B8 b) : (between a b).2 = true ∧ a < (between a b).1 ∧ (between a b).1 ≤ b ∧ 1 ≤ (between a b).1.length ∧ (between a b).1.length ≤ 24 := by
  have hc : common a b < 24 := by
    have := common_le a b
    by_cases e : common a b < 24
    · exact e
    · have ha2 : common a b = a.length := by omega
      obtain ⟨r, rfl⟩ := (common_prefix a b).1 ha2
      rw [List.length_append] at hb
      have : r = [] := List.length_eq_zero_iff.1 (by omega)
      rw [this, List.append_nil] at h
      exact absurd h (List.lt_irrefl _)
  obtain ⟨s1, s2, s3, _, _⟩ := btw_spec a b h h8
  unfold between
  rw [if_pos ⟨h, hc⟩]
  exact ⟨rfl, s1, s2, by rw [s3]; omega, by rw [s3]; omega⟩
theorem eight {L : List It} (h : L.length = 8) : ∃ x0 x1 x2 x3 x4 x5 x6 x7, L = [x0, x1, x2, x3, x4, x5, x6, x7] := by
  match L, h with
  | [x0, x1, x2, x3, x4, x5, x6, x7], _ => exact ⟨x0, x1, x2, x3, x4, x5, x6, x7, rfl⟩
/-- the halves of a page fit, and joined they are the page -/
theorem halves {p : Pg} (h : Okp p) (h8 : p.items.length = 8) (hb : ∀ x ∈ p.items, B8 x.key) :
    (spl p).ok = true ∧ Fit (spl p).l (spl p).r (spl p).s ∧ (spl p).l.items.length = 4 ∧ joi (spl p).l (spl p).r (spl p).s = (p, true) := by
  obtain ⟨kind, level, items, data, next⟩ := p
  obtain ⟨x0, x1, x2, x3, x4, x5, x6, x7, e⟩ := eight h8
  simp only at e
  subst e
  have hk := h.k
  have kx := h.kx
  have hbo := h.b
  unfold Kx at kx
  simp only at hk kx hbo
  have hbs : Bo kind ([x0, x1, x2, x3] ++ [x4, x5, x6, x7]) := hbo
  obtain ⟨b1, b2⟩ := Bo.app.1 hbs
  rcases hk with rfl | rfl
  · rw [if_pos rfl] at kx
    have kxs : Kr ([x0, x1, x2, x3] ++ [x4, x5, x6, x7]) := kx
    obtain ⟨k1, k2, k3⟩ := Kr.app.1 kxs
    have h34 : x3.key < x4.key := k3 x3 (by simp) x4 (by simp)
    have l3 := k1.1 x3 (by simp)
    have l4 := k2.1 x4 (by simp)
    obtain ⟨y1, y2, y3, y4, y5⟩ := btw_yes h34 l3.2 l4.2 (hb x4 (by simp))
    have hs : spl ⟨1, level, [x0, x1, x2, x3, x4, x5, x6, x7], data, next⟩ = ⟨⟨1, level, [x0, x1, x2, x3], data, next⟩, ⟨1, level, [x4, x5, x6, x7], data, next⟩, (between x3.key x4.key).1, true⟩ := by
      unfold spl
      rw [if_pos ⟨rfl, rfl⟩]
      unfold prt
      rw [if_neg (by show ¬ (1 : Int) = 2; decide)]
      show (if (between x3.key x4.key).2 = true then _ else _) = _
      rw [y1]
      rfl
    rw [hs]
    have o1 : Okp ⟨1, level, [x0, x1, x2, x3], data, next⟩ := ⟨.inl rfl, h.d, h.n, h.v1, h.v2, by simp, by simp, (fun h => by cases h), b1, by unfold Kx; rw [if_pos rfl]; exact k1⟩
    have o2 : Okp ⟨1, level, [x4, x5, x6, x7], data, next⟩ := ⟨.inl rfl, h.d, h.n, h.v1, h.v2, by simp, by simp, (fun h => by cases h), b2, by unfold Kx; rw [if_pos rfl]; exact k2⟩
    refine ⟨rfl, ⟨of_okp o1, of_okp o2, rfl, rfl, (by show ¬ (1 : Int) = 3; decide), y4, y5, y2, ?_⟩, rfl, ?_⟩
    · rw [if_pos rfl]; exact y3
    · unfold joi
      rw [if_pos ⟨by simp [alk, mnt], by simp, by simp, by simp⟩]
      rfl
  · rw [if_neg (by decide)] at kx
    obtain ⟨x, T, e, hx, hT⟩ := kx
    simp only [List.cons.injEq] at e
    obtain ⟨rfl, rfl⟩ := e
    have kxs : Kr ([x1, x2, x3] ++ [x4, x5, x6, x7]) := hT
    obtain ⟨k1, k2, k3⟩ := Kr.app.1 kxs
    have kys : Kr ([x4] ++ [x5, x6, x7]) := k2
    obtain ⟨k4, k5, k6⟩ := Kr.app.1 kys
    have h34 : x3.key < x4.key := k3 x3 (by simp) x4 (by simp)
    have h45 : x4.key < x5.key := k6 x4 (by simp) x5 (by simp)
    have l4 := k2.1 x4 (by simp)
    have hs : spl ⟨2, level, [x0, x1, x2, x3, x4, x5, x6, x7], data, next⟩ = ⟨⟨2, level, [x0, x1, x2, x3], data, next⟩, ⟨2, level, [x4.keyed [], x5, x6, x7], data, next⟩, x4.key, true⟩ := rfl
    rw [hs]
    have o1 : Okp ⟨2, level, [x0, x1, x2, x3], data, next⟩ := ⟨.inr rfl, h.d, h.n, h.v1, h.v2, by simp, by simp, fun _ => by simp, b1, by unfold Kx; rw [if_neg (show ¬ (2 : Int) = 1 by decide)]; exact ⟨x0, [x1, x2, x3], rfl, hx, k1⟩⟩
    have b3 : Bo 2 [x4.keyed [], x5, x6, x7] := fun y hy => by
      rcases List.mem_cons.1 hy with rfl | hy
      · exact b2 x4 (by simp)
      · exact b2 y (List.mem_cons_of_mem _ hy)
    have o2 : Okp ⟨2, level, [x4.keyed [], x5, x6, x7], data, next⟩ := ⟨.inr rfl, h.d, h.n, h.v1, h.v2, by simp, by simp, fun _ => by simp, b3, by unfold Kx; rw [if_neg (show ¬ (2 : Int) = 1 by decide)]; exact ⟨x4.keyed [], [x5, x6, x7], rfl, rfl, k5⟩⟩
    refine ⟨rfl, ⟨of_okp o1, of_okp o2, rfl, rfl, (by show ¬ (2 : Int) = 3; decide), l4.1, l4.2, h34, ?_⟩, rfl, ?_⟩
    · rw [if_neg (show ¬ (2 : Int) = 1 by decide)]; exact h45
    · unfold joi
      rw [if_pos ⟨by simp [alk, mnt], by simp, by simp, by simp⟩]
      rfl
end Go.Proofs.Ytmfelkncomfipaa
