import Derived.Test.YtoachodngjlpaaaVM
namespace Go.Proofs.Ytoachodngjlpaaa

/-! ### the order of rows -/
theorem cmpB_ord : ∀ a b : List Nat, cmpB a b = if a < b then -1 else if b < a then 1 else 0
  | [], [] => by simp [cmpB]
  | [], _ :: _ => by simp [cmpB]
  | _ :: _, [] => by simp [cmpB]
  | x :: xs, y :: ys => by
    simp only [cmpB, List.cons_lt_cons_iff, cmpB_ord xs ys]
    by_cases h : x < y
    · simp [h]
    · by_cases h2 : y < x
      · have h3 : ¬ x = y := by omega
        simp [h, h2, h3]
      · have h3 : x = y := by omega
        simp [h3]
theorem cmpB_neg {a b : List Nat} : cmpB a b < 0 ↔ a < b := by
  rw [cmpB_ord]; split
  · simp_all
  · split <;> simp_all
theorem cmpB_m1 {a b : List Nat} : cmpB a b = -1 ↔ a < b := by
  rw [cmpB_ord]; split
  · simp_all
  · split <;> simp_all
theorem cmpB_pos {a b : List Nat} : 0 < cmpB a b ↔ b < a := by
  rw [cmpB_ord]; split
  · rename_i h; have : ¬ b < a := by grind
    simp [this]
  · split <;> simp_all
theorem cmpB_p1 {a b : List Nat} : cmpB a b = 1 ↔ b < a := by
  rw [cmpB_ord]; split
  · rename_i h; have : ¬ b < a := by grind
    simp [this]
  · split <;> simp_all
theorem cmpB_le {a b : List Nat} : cmpB a b ≤ 0 ↔ a ≤ b := by
  have := @cmpB_pos a b
  have h : a ≤ b ↔ ¬ b < a := by grind
  rw [h, ← this]; omega
theorem cmpB_ge {a b : List Nat} : 0 ≤ cmpB a b ↔ b ≤ a := by
  have := @cmpB_neg a b
  have h : b ≤ a ↔ ¬ a < b := by grind
  rw [h, ← this]; omega

/-! ### keys -/
def B8 (l : List Nat) : Prop := ∀ x ∈ l, x < 256
theorem B8.nil : B8 [] := fun x h => by cases h
theorem B8.cons {x : Nat} {l : List Nat} : B8 (x :: l) ↔ x < 256 ∧ B8 l := by simp [B8]
theorem B8.app {k l : List Nat} : B8 (k ++ l) ↔ B8 k ∧ B8 l := by
  unfold B8; constructor
  · intro h; exact ⟨fun x hx => h x (List.mem_append_left _ hx), fun x hx => h x (List.mem_append_right _ hx)⟩
  · rintro ⟨h1, h2⟩ x hx; rcases List.mem_append.1 hx with h | h; exact h1 x h; exact h2 x h
theorem B8.take {l : List Nat} (h : B8 l) (n : Nat) : B8 (l.take n) := fun x hx => h x (List.mem_of_mem_take hx)
def isK (k : List Nat) : Bool := decide (0 < k.length) && decide (k.length ≤ 24)
theorem isK_iff {k : List Nat} : isK k = true ↔ 0 < k.length ∧ k.length ≤ 24 := by simp [isK]
def KK (k : List Nat) : Prop := isK k = true ∧ B8 k

/-! ### the row behind all that begin with p -/
def beh : List Nat → List Nat
  | [] => []
  | x :: p => if beh p = [] then (if x = 255 then [] else [x + 1]) else x :: beh p
theorem beh_above : ∀ p y : List Nat, B8 p → B8 y → ((p ≤ y ∧ (beh p = [] ∨ y < beh p)) ↔ ∃ r, y = p ++ r)
  | [], y, _, _ => by simp [beh]
  | x :: p, [], _, _ => by simp
  | x :: p, z :: y, hp, hy => by
    have ih := beh_above p y (B8.cons.1 hp).2 (B8.cons.1 hy).2
    have hx := (B8.cons.1 hp).1
    have hz := (B8.cons.1 hy).1
    simp only [beh, List.cons_le_cons_iff, List.cons_append, List.cons.injEq]
    by_cases hb : beh p = []
    · simp only [hb, if_true, true_or, and_true] at ih ⊢
      by_cases h255 : x = 255
      · simp only [h255, if_true, true_or, and_true]
        constructor
        · rintro (h | ⟨rfl, h⟩)
          · omega
          · obtain ⟨r, rfl⟩ := ih.1 h; exact ⟨r, rfl, rfl⟩
        · rintro ⟨r, rfl, rfl⟩
          exact .inr ⟨rfl, ih.2 ⟨r, rfl⟩⟩
      · simp only [h255, if_false, List.cons_ne_nil, false_or, List.cons_lt_cons_iff]
        constructor
        · rintro ⟨h1, h2⟩
          have h3 : ¬ y < [] := by simp
          have h4 : z < x + 1 := by
            rcases h2 with h2 | ⟨_, h2⟩
            · exact h2
            · exact absurd h2 h3
          rcases h1 with h1 | ⟨rfl, h1⟩
          · omega
          · obtain ⟨r, rfl⟩ := ih.1 h1; exact ⟨r, rfl, rfl⟩
        · rintro ⟨r, rfl, rfl⟩
          exact ⟨.inr ⟨rfl, ih.2 ⟨r, rfl⟩⟩, .inl (by omega)⟩
    · simp only [hb, if_false, List.cons_ne_nil, false_or, List.cons_lt_cons_iff] at ih ⊢
      constructor
      · rintro ⟨h1, h2⟩
        have hxz : x = z := by omega
        subst hxz
        simp only [Nat.lt_irrefl, true_and, false_or] at h1 h2
        obtain ⟨r, rfl⟩ := ih.1 ⟨h1, h2⟩
        exact ⟨r, rfl, rfl⟩
      · rintro ⟨r, rfl, rfl⟩
        have := ih.2 ⟨r, rfl⟩
        exact ⟨.inr ⟨rfl, this.1⟩, .inr ⟨rfl, this.2⟩⟩
theorem beh_b8 : ∀ p : List Nat, B8 p → B8 (beh p)
  | [], _ => B8.nil
  | x :: p, h => by
    have ih := beh_b8 p (B8.cons.1 h).2
    have hx := (B8.cons.1 h).1
    simp only [beh]
    split
    · split
      · exact B8.nil
      · rw [B8.cons]; exact ⟨by omega, B8.nil⟩
    · rw [B8.cons]; exact ⟨hx, ih⟩
theorem beh_len : ∀ p : List Nat, (beh p).length ≤ p.length
  | [] => Nat.le_refl _
  | x :: p => by
    have ih := beh_len p
    simp only [beh]
    split
    · split <;> simp
    · simp; exact ih
theorem beh_lt : ∀ p : List Nat, beh p ≠ [] → p < beh p
  | [], h => absurd rfl h
  | x :: p, h => by
    have ih := beh_lt p
    simp only [beh] at h ⊢
    by_cases hb : beh p = []
    · rw [if_pos hb] at h ⊢
      by_cases h2 : x = 255
      · rw [if_pos h2] at h; exact absurd rfl h
      · rw [if_neg h2, List.cons_lt_cons_iff]; exact .inl (by omega)
    · rw [if_neg hb, List.cons_lt_cons_iff]; exact .inr ⟨rfl, ih hb⟩

/-! ### Next -/
def next (k : List Nat) : List Nat := if k.length < 24 then k ++ [0] else beh (k.take 24)
theorem lt_snoc0 (k : List Nat) : k < k ++ [0] := by
  induction k with
  | nil => simp
  | cons x k ih => rw [List.cons_append, List.cons_lt_cons_iff]; exact .inr ⟨rfl, ih⟩
theorem snoc0_le : ∀ k x : List Nat, k < x → k ++ [0] ≤ x
  | [], [], h => absurd h (by simp)
  | [], y :: x, _ => by
    rw [List.nil_append, List.cons_le_cons_iff]
    by_cases h : y = 0
    · exact .inr ⟨h.symm, by simp⟩
    · exact .inl (by omega)
  | z :: k, [], h => absurd h (by simp)
  | z :: k, y :: x, h => by
    rw [List.cons_append, List.cons_le_cons_iff]
    rw [List.cons_lt_cons_iff] at h
    rcases h with h | ⟨rfl, h⟩
    · exact .inl h
    · exact .inr ⟨rfl, snoc0_le k x h⟩
theorem le_append (k r : List Nat) : k ≤ k ++ r := by
  induction k with
  | nil => simp
  | cons x k ih => rw [List.cons_append, List.cons_le_cons_iff]; exact .inr ⟨rfl, ih⟩
theorem cut_lt : ∀ (n : Nat) (k x : List Nat), x.length ≤ n → n ≤ k.length → (k < x ↔ (k.take n ≤ x ∧ ¬ ∃ r, x = k.take n ++ r))
  | 0, k, x, h, _ => by
    obtain rfl : x = [] := List.length_eq_zero_iff.1 (by omega)
    simp
  | n + 1, [], x, _, h2 => absurd h2 (by simp)
  | n + 1, y :: k, [], _, _ => by simp
  | n + 1, y :: k, z :: x, h1, h2 => by
    have ih := cut_lt n k x (by simpa using h1) (by simpa using h2)
    simp only [List.take_succ_cons, List.cons_append, List.cons.injEq, List.cons_lt_cons_iff, List.cons_le_cons_iff]
    constructor
    · rintro (h | ⟨rfl, h⟩)
      · exact ⟨.inl h, by rintro ⟨r, rfl, _⟩; omega⟩
      · have := ih.1 h
        exact ⟨.inr ⟨rfl, this.1⟩, by rintro ⟨r, _, rfl⟩; exact this.2 ⟨r, rfl⟩⟩
    · rintro ⟨h | ⟨rfl, h⟩, h3⟩
      · exact .inl h
      · exact .inr ⟨rfl, ih.2 ⟨h, fun ⟨r, e⟩ => h3 ⟨r, rfl, e⟩⟩⟩
theorem next_spec {k x : List Nat} (hk : B8 k) (hx : KK x) : k < x ↔ (next k ≠ [] ∧ next k ≤ x) := by
  unfold next
  by_cases h : k.length < 24
  · rw [if_pos h]
    have := lt_snoc0 k
    constructor
    · intro h1; exact ⟨by simp, snoc0_le k x h1⟩
    · rintro ⟨_, h1⟩; grind
  · rw [if_neg h, cut_lt 24 k x (isK_iff.1 hx.1).2 (by omega)]
    have hp := beh_above (k.take 24) x (hk.take 24) hx.2
    have hl := beh_lt (k.take 24)
    constructor
    · rintro ⟨h1, h2⟩
      have h3 : ¬ (beh (k.take 24) = [] ∨ x < beh (k.take 24)) := fun h4 => h2 (hp.1 ⟨h1, h4⟩)
      exact ⟨fun h4 => h3 (.inl h4), by grind⟩
    · rintro ⟨h1, h2⟩
      have h3 := hl h1
      refine ⟨by grind, fun h4 => ?_⟩
      rcases (hp.2 h4).2 with h5 | h5
      · exact h1 h5
      · grind
theorem next_key {k : List Nat} (hk : B8 k) (h : next k ≠ []) : KK (next k) := by
  unfold next at h ⊢
  by_cases h1 : k.length < 24
  · rw [if_pos h1]
    exact ⟨isK_iff.2 (by simp; omega), B8.app.2 ⟨hk, by simp [B8]⟩⟩
  · rw [if_neg h1] at h ⊢
    have := beh_len (k.take 24)
    rw [List.length_take] at this
    refine ⟨isK_iff.2 ⟨?_, by omega⟩, beh_b8 _ (hk.take 24)⟩
    cases e : beh (k.take 24) with
    | nil => exact absurd e h
    | cons a b => simp
theorem next_b8 {k : List Nat} (hk : B8 k) : B8 (next k) := by
  by_cases h : next k = []
  · rw [h]; exact B8.nil
  · exact (next_key hk h).2
theorem lt_next {k : List Nat} (hk : B8 k) (h : next k ≠ []) : k < next k := (next_spec hk (next_key hk h)).2 ⟨h, by grind⟩

/-! ### the least key that is not below -/
def least (b : List Nat) : List Nat := if isK b then b else next b
theorem least_b8 {b : List Nat} (hb : B8 b) : B8 (least b) := by unfold least; split; exact hb; exact next_b8 hb
theorem least_key {b : List Nat} (hb : B8 b) (h : least b ≠ []) : KK (least b) := by
  unfold least at h ⊢
  split
  · rename_i h1; exact ⟨h1, hb⟩
  · rename_i h1; rw [if_neg h1] at h; exact next_key hb h
theorem least_spec {b x : List Nat} (hb : B8 b) (hx : KK x) : b ≤ x ↔ (least b ≠ [] ∧ least b ≤ x) := by
  unfold least
  by_cases h : isK b = true
  · rw [if_pos h]
    have : b ≠ [] := by rintro rfl; simp [isK] at h
    exact ⟨fun h => ⟨this, h⟩, fun h => h.2⟩
  · rw [if_neg h, ← next_spec hb hx]
    have : b ≠ x := by rintro rfl; exact h hx.1
    grind
theorem least_of_key {b : List Nat} (h : isK b = true) : least b = b := by unfold least; rw [if_pos h]

/-! ### Common and Between -/
def common : List Nat → List Nat → Nat
  | x :: a, y :: b => if x = y then common a b + 1 else 0
  | _, _ => 0
theorem common_prefix : ∀ a b : List Nat, common a b = a.length ↔ ∃ r, b = a ++ r
  | [], b => by simp [common]
  | x :: a, [] => by simp [common]
  | x :: a, y :: b => by
    have ih := common_prefix a b
    simp only [common, List.length_cons, List.cons_append, List.cons.injEq]
    by_cases h : x = y
    · rw [if_pos h]
      constructor
      · intro h1; obtain ⟨r, rfl⟩ := ih.1 (by omega); exact ⟨r, h.symm, rfl⟩
      · rintro ⟨r, _, e⟩; have := ih.2 ⟨r, e⟩; omega
    · rw [if_neg h]
      constructor
      · intro h1; omega
      · rintro ⟨r, e, _⟩; exact absurd e.symm h
theorem common_le : ∀ a b : List Nat, common a b ≤ a.length ∧ common a b ≤ b.length
  | [], b => by simp [common]
  | x :: a, [] => by simp [common]
  | x :: a, y :: b => by
    have ih := common_le a b
    simp only [common, List.length_cons]
    split <;> omega
/-- how the loop finds it -/
theorem common_at : ∀ (a b : List Nat) (n : Nat), n ≤ a.length → n ≤ b.length → (∀ i, i < n → a.getD i 0 = b.getD i 0) → (n = a.length ∨ n = b.length ∨ a.getD n 0 ≠ b.getD n 0) → common a b = n
  | [], b, n, h1, _, _, _ => by simp at h1; subst h1; simp [common]
  | x :: a, [], n, _, h2, _, _ => by simp at h2; subst h2; simp [common]
  | x :: a, y :: b, n, h1, h2, h3, h4 => by
    cases n with
    | zero =>
      have : x ≠ y := by
        rcases h4 with h | h | h
        · simp at h
        · simp at h
        · simpa using h
      simp [common, this]
    | succ n =>
      have h0 := h3 0 (by omega)
      simp at h0
      simp only [common, h0, if_true]
      rw [common_at a b n (by simpa using h1) (by simpa using h2) (fun i hi => by simpa using h3 (i + 1) (by omega)) (by simpa using h4)]
theorem common_eqs : ∀ (a b : List Nat) (i : Nat), i < common a b → a.getD i 0 = b.getD i 0
  | [], b, i, h => by simp [common] at h
  | x :: a, [], i, h => by simp [common] at h
  | x :: a, y :: b, i, h => by
    simp only [common] at h
    split at h
    · rename_i e
      cases i with
      | zero => simpa using e
      | succ i => simpa using common_eqs a b i (by omega)
    · omega

def btw : List Nat → List Nat → List Nat
  | x :: a, y :: b => if x < y then [x + 1] else x :: btw a b
  | _, _ => [0]
theorem btw_spec : ∀ a b : List Nat, a < b → B8 b → a < btw a b ∧ btw a b ≤ b ∧ (btw a b).length = common a b + 1 ∧ (B8 a → B8 (btw a b)) ∧ ∀ x, a < x → x ≤ b → (btw a b).length < x.length ∨ (btw a b).length = x.length ∧ btw a b ≤ x
  | [], [], h, _ => absurd h (by simp)
  | [], y :: b, _, _ => by
    refine ⟨by simp [btw], ?_, by simp [btw, common], fun _ => by simp [btw, B8], fun x h1 h2 => ?_⟩
    · simp only [btw]; exact snoc0_le [] (y :: b) (by simp)
    · simp only [btw, List.length_cons, List.length_nil]
      cases x with
      | nil => exact absurd h1 (by simp)
      | cons z x =>
        cases x with
        | nil => exact .inr ⟨rfl, snoc0_le [] [z] (by simp)⟩
        | cons u x => exact .inl (by simp)
  | x :: a, [], h, _ => absurd h (by simp)
  | x :: a, y :: b, h, hb => by
    rw [List.cons_lt_cons_iff] at h
    have hy := (B8.cons.1 hb).1
    by_cases hxy : x < y
    · simp only [btw, if_pos hxy, common, if_neg (show ¬ x = y by omega)]
      refine ⟨by rw [List.cons_lt_cons_iff]; exact .inl (by omega), ?_, rfl, fun _ => B8.cons.2 ⟨by omega, B8.nil⟩, fun z h1 h2 => ?_⟩
      · rw [List.cons_le_cons_iff]
        by_cases e : x + 1 = y
        · exact .inr ⟨e, by simp⟩
        · exact .inl (by omega)
      · cases z with
        | nil => exact absurd h1 (by simp)
        | cons u z =>
          cases z with
          | nil =>
            refine .inr ⟨rfl, ?_⟩
            rw [List.cons_lt_cons_iff] at h1
            rw [List.cons_le_cons_iff]
            rcases h1 with h1 | ⟨_, h1⟩
            · by_cases e : x + 1 = u
              · exact .inr ⟨e, by simp⟩
              · exact .inl (by omega)
            · exact absurd h1 (by simp)
          | cons v z => exact .inl (by simp)
    · obtain ⟨rfl, h1⟩ : x = y ∧ a < b := by
        rcases h with h | h
        · exact absurd h hxy
        · exact h
      obtain ⟨i1, i2, i3, i4, i5⟩ := btw_spec a b h1 (B8.cons.1 hb).2
      simp only [btw, Nat.lt_irrefl, if_false, common, if_true, List.length_cons, i3]
      refine ⟨by rw [List.cons_lt_cons_iff]; exact .inr ⟨rfl, i1⟩, by rw [List.cons_le_cons_iff]; exact .inr ⟨rfl, i2⟩, by first | trivial | rfl, fun ha => B8.cons.2 ⟨hy, i4 (B8.cons.1 ha).2⟩, fun z h2 h3 => ?_⟩
      cases z with
      | nil => exact absurd h2 (by simp)
      | cons u z =>
        rw [List.cons_lt_cons_iff] at h2
        rw [List.cons_le_cons_iff] at h3
        have hu : x = u := by omega
        subst hu
        simp only [Nat.lt_irrefl, true_and, false_or] at h2 h3
        rw [List.cons_le_cons_iff]
        rcases i5 z h2 h3 with h4 | ⟨h4, h5⟩
        · exact .inl (by simp; omega)
        · refine .inr ⟨?_, .inr ⟨rfl, h5⟩⟩
          simp only [List.length_cons]; omega
/-- a row with a greater last byte -/
def inc (p : List Nat) : List Nat := p.set (p.length - 1) (p.getD (p.length - 1) 0 + 1)
theorem inc_snoc (q : List Nat) (x : Nat) : inc (q ++ [x]) = q ++ [x + 1] := by simp [inc]
theorem inc_cons (y : Nat) (p : List Nat) (h : p ≠ []) : inc (y :: p) = y :: inc p := by
  obtain ⟨q, x, rfl⟩ : ∃ q x, p = q ++ [x] := ⟨p.dropLast, p.getLast h, (List.dropLast_concat_getLast h).symm⟩
  rw [← List.cons_append, inc_snoc, inc_snoc]; rfl
theorem inc_len (p : List Nat) : (inc p).length = p.length := by simp [inc]
theorem btw_code : ∀ a b : List Nat, a < b → btw a b = if common a b = a.length then a ++ [0] else inc (a.take (common a b + 1))
  | [], [], h => absurd h (by simp)
  | [], y :: b, _ => by simp [btw, common]
  | x :: a, [], h => absurd h (by simp)
  | x :: a, y :: b, h => by
    rw [List.cons_lt_cons_iff] at h
    by_cases hxy : x < y
    · have e : ¬ x = y := by omega
      simp [btw, hxy, common, e, inc]
    · obtain ⟨rfl, h1⟩ : x = y ∧ a < b := by
        rcases h with h | h
        · exact absurd h hxy
        · exact h
      have ih := btw_code a b h1
      simp only [btw, Nat.lt_irrefl, if_false, common, if_true, List.length_cons, Nat.add_right_cancel_iff, ih]
      split
      · rfl
      · rename_i h2
        have := (common_le a b).1
        rw [List.take_succ_cons, inc_cons]
        intro e
        rw [List.take_eq_nil_iff] at e
        rcases e with e | rfl
        · omega
        · simp [common] at h2
theorem btw_last : ∀ a b : List Nat, a < b → common a b ≠ a.length → a.getD (common a b) 0 < b.getD (common a b) 0 ∧ common a b < b.length
  | [], b, _, h => by simp [common] at h
  | x :: a, [], h, _ => absurd h (by simp)
  | x :: a, y :: b, h, hc => by
    rw [List.cons_lt_cons_iff] at h
    by_cases e : x = y
    · subst e
      simp only [common, if_true, List.length_cons, List.getD_cons_succ] at hc ⊢
      have := btw_last a b (by simpa using h) (by omega)
      exact ⟨this.1, by omega⟩
    · simp only [common, if_neg e, List.getD_cons_zero, List.length_cons]
      exact ⟨by omega, by omega⟩
/-- the answer -/
def between (a b : List Nat) : List Nat × Bool := if a < b ∧ common a b < 24 then (btw a b, true) else ([], false)

/-! ### the document's Between: the least of n bytes above a -/
def incC : List Nat → List Nat
  | [] => []
  | x :: p => if incC p = [] then (if x = 255 then [] else (x + 1) :: List.replicate p.length 0) else x :: incC p
def abv (a : List Nat) (n : Nat) : List Nat := if a.length < n then a ++ List.replicate (n - a.length) 0 else incC (a.take n)
theorem incC_above : ∀ (p r : List Nat), incC p ≠ [] → p ++ r < incC p
  | [], r, h => absurd rfl h
  | x :: p, r, h => by
    have ih := incC_above p r
    simp only [incC] at h ⊢
    by_cases hb : incC p = []
    · rw [if_pos hb] at h ⊢
      by_cases h2 : x = 255
      · rw [if_pos h2] at h; exact absurd rfl h
      · rw [if_neg h2, List.cons_append, List.cons_lt_cons_iff]; exact .inl (by omega)
    · rw [if_neg hb, List.cons_append, List.cons_lt_cons_iff]; exact .inr ⟨rfl, ih hb⟩
theorem replicate_above (a : List Nat) (m : Nat) (h : 0 < m) : a < a ++ List.replicate m 0 := by
  induction a with
  | nil => cases m with
    | zero => omega
    | succ m => simp [List.replicate_succ]
  | cons x a ih => rw [List.cons_append, List.cons_lt_cons_iff]; exact .inr ⟨rfl, ih⟩
theorem abv_gt (a : List Nat) (n : Nat) (h : abv a n ≠ []) : a < abv a n := by
  unfold abv at h ⊢
  by_cases h1 : a.length < n
  · rw [if_pos h1]; exact replicate_above a _ (by omega)
  · rw [if_neg h1] at h ⊢
    have := incC_above (a.take n) (a.drop n) h
    rwa [List.take_append_drop] at this
theorem take_common : ∀ (a b : List Nat) (n : Nat), n ≤ common a b → a.take n = b.take n
  | [], b, n, h => by simp [common] at h; subst h; simp
  | x :: a, [], n, h => by simp [common] at h; subst h; simp
  | x :: a, y :: b, n, h => by
    simp only [common] at h
    cases n with
    | zero => simp
    | succ n =>
      split at h
      · rename_i e; subst e; rw [List.take_succ_cons, List.take_succ_cons, take_common a b n (by omega)]
      · omega
/-- too short -/
theorem abv_short {a b : List Nat} {n : Nat} (hn : n ≤ common a b) (h : abv a n ≠ []) : ¬ abv a n ≤ b := by
  have h1 := (common_le a b).1
  unfold abv at h ⊢
  rw [if_neg (by omega)] at h ⊢
  have := incC_above (a.take n) (b.drop n) h
  rw [take_common a b n hn, List.take_append_drop, ← take_common a b n hn] at this
  grind
theorem incC_inc : ∀ (p : List Nat) (x : Nat), x < 255 → incC (p ++ [x]) = p ++ [x + 1]
  | [], x, h => by simp [incC]; omega
  | y :: p, x, h => by simp [incC, incC_inc p x h]
/-- just long enough -/
theorem abv_fit {a b : List Nat} (hab : a < b) (hb : B8 b) : abv a (common a b + 1) = btw a b := by
  rw [btw_code a b hab]
  have h1 := common_le a b
  unfold abv
  by_cases h : common a b = a.length
  · rw [if_pos (by omega), if_pos h, h]; simp
  · rw [if_neg (by omega), if_neg h]
    obtain ⟨h2, h3⟩ := btw_last a b hab h
    have hlt : common a b < a.length := by omega
    rw [List.take_succ_eq_append_getElem hlt, inc_snoc]
    have hb8 : b.getD (common a b) 0 < 256 := by
      rw [List.getD_eq_getElem?_getD, List.getElem?_eq_getElem h3]; exact hb _ (List.getElem_mem _)
    rw [List.getD_eq_getElem?_getD, List.getElem?_eq_getElem hlt] at h2
    simp only [Option.getD_some] at h2
    exact incC_inc _ _ (by omega)

/-! ### behind, as the loop finds it -/
def sn (p : List Nat) : Nat → Nat
  | 0 => 0
  | n + 1 => if p.getD n 0 = 255 then sn p n else n + 1
theorem sn_le (p : List Nat) : ∀ n, sn p n ≤ n
  | 0 => Nat.le_refl _
  | n + 1 => by
    have := sn_le p n
    simp only [sn]
    split <;> omega
theorem sn_last (p : List Nat) : ∀ n, 0 < sn p n → p.getD (sn p n - 1) 0 ≠ 255
  | 0, h => by simp [sn] at h
  | n + 1, h => by
    simp only [sn] at h ⊢
    split
    · rename_i e; rw [if_pos e] at h; exact sn_last p n h
    · rename_i e; simpa using e
theorem beh_snoc255 : ∀ p : List Nat, beh (p ++ [255]) = beh p
  | [] => by simp [beh]
  | x :: p => by simp [beh, beh_snoc255 p]
theorem beh_snoc : ∀ (p : List Nat) (x : Nat), x ≠ 255 → beh (p ++ [x]) = p ++ [x + 1]
  | [], x, h => by simp [beh, h]
  | y :: p, x, h => by simp [beh, beh_snoc p x h]
theorem beh_sn : ∀ (p : List Nat) (n : Nat), n ≤ p.length → beh (p.take n) = if sn p n = 0 then [] else inc (p.take (sn p n))
  | p, 0, _ => by simp [sn, beh]
  | p, n + 1, h => by
    have ih := beh_sn p n (by omega)
    have hn : n < p.length := h
    have e : p.getD n 0 = p[n] := by simp [hn]
    rw [List.take_succ_eq_append_getElem hn]
    simp only [sn, e]
    by_cases h1 : p[n] = 255
    · rw [if_pos h1, h1, beh_snoc255, ih]
    · rw [if_neg h1, beh_snoc _ _ h1, if_neg (by omega), List.take_succ_eq_append_getElem hn, inc_snoc]
theorem beh_code (p : List Nat) : beh p = if sn p p.length = 0 then [] else inc (p.take (sn p p.length)) := by
  have := beh_sn p p.length (Nat.le_refl _)
  rwa [List.take_length] at this
end Go.Proofs.Ytoachodngjlpaaa
