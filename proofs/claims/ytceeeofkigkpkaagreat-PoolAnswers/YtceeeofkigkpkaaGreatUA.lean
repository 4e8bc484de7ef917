import Derived.WalkKit
namespace Go.Proofs.YtceeeofkigkpkaaGreat

/-! ### sets of numbers as runs: plain mathematics -/
abbrev Rn := Int × Int
def has (L : List Rn) (x : Int) : Bool := L.any fun r => decide (r.1 ≤ x) && decide (x ≤ r.2)
theorem has_iff (L : List Rn) (x : Int) : has L x = true ↔ ∃ r ∈ L, r.1 ≤ x ∧ x ≤ r.2 := by
  unfold has
  rw [List.any_eq_true]
  simp
theorem has_false (L : List Rn) (x : Int) : has L x = false ↔ ∀ r ∈ L, r.1 ≤ x → r.2 < x := by
  rw [← Bool.not_eq_true, has_iff]
  constructor
  · intro h r hr h1
    by_cases h2 : x ≤ r.2
    · exact (h ⟨r, hr, h1, h2⟩).elim
    · omega
  · rintro h ⟨r, hr, h1, h2⟩
    have := h r hr h1
    omega
theorem has_nil (x : Int) : has [] x = false := rfl
theorem has_cons (r : Rn) (L : List Rn) (x : Int) : has (r :: L) x = ((decide (r.1 ≤ x) && decide (x ≤ r.2)) || has L x) := rfl
theorem has_append (L M : List Rn) (x : Int) : has (L ++ M) x = (has L x || has M x) := by
  unfold has
  rw [List.any_append]

/-- rising, none without a number -/
def Ris (L : List Rn) : Prop := (∀ r ∈ L, r.1 ≤ r.2) ∧ L.Pairwise fun a b => a.2 < b.1
/-- the fewest, rising -/
def Can (L : List Rn) : Prop := (∀ r ∈ L, r.1 ≤ r.2) ∧ L.Pairwise fun a b => a.2 + 1 < b.1
theorem Can.ris {L : List Rn} (h : Can L) : Ris L := ⟨h.1, h.2.imp (fun h => by omega)⟩
theorem Can.nil : Can [] := ⟨by simp, by simp⟩
theorem Can.tail {r : Rn} {L : List Rn} (h : Can (r :: L)) : Can L := ⟨fun x hx => h.1 x (by simp [hx]), (List.pairwise_cons.1 h.2).2⟩
theorem Ris.tail {r : Rn} {L : List Rn} (h : Ris (r :: L)) : Ris L := ⟨fun x hx => h.1 x (by simp [hx]), (List.pairwise_cons.1 h.2).2⟩

theorem can_unique : ∀ {L M : List Rn}, Can L → Can M → (∀ x, has L x = has M x) → L = M
  | [], [], _, _, _ => rfl
  | [], s :: M, _, hM, h => by
    have h1 := h s.1
    have h2 : has (s :: M) s.1 = true := (has_iff _ _).2 ⟨s, by simp, Int.le_refl _, hM.1 s (by simp)⟩
    rw [h2] at h1
    exact absurd h1 (by simp [has_nil])
  | r :: L, [], hL, _, h => by
    have h1 := h r.1
    have h2 : has (r :: L) r.1 = true := (has_iff _ _).2 ⟨r, by simp, Int.le_refl _, hL.1 r (by simp)⟩
    rw [h2] at h1
    exact absurd h1 (by simp [has_nil])
  | r :: L, s :: M, hL, hM, h => by
    have hr := hL.1 r (by simp)
    have hs := hM.1 s (by simp)
    have pL := (List.pairwise_cons.1 hL.2).1
    have pM := (List.pairwise_cons.1 hM.2).1
    have loL : ∀ x, has (r :: L) x = true → r.1 ≤ x := fun x hx => by
      obtain ⟨a, ha, h1, h2⟩ := (has_iff _ _).1 hx
      rcases List.mem_cons.1 ha with rfl | ha
      · exact h1
      · have := pL a ha
        omega
    have loM : ∀ x, has (s :: M) x = true → s.1 ≤ x := fun x hx => by
      obtain ⟨a, ha, h1, h2⟩ := (has_iff _ _).1 hx
      rcases List.mem_cons.1 ha with rfl | ha
      · exact h1
      · have := pM a ha
        omega
    have e1 : r.1 = s.1 := by
      have a1 := loM r.1 ((h r.1).symm.trans ((has_iff _ _).2 ⟨r, by simp, Int.le_refl _, hr⟩))
      have a2 := loL s.1 ((h s.1).trans ((has_iff _ _).2 ⟨s, by simp, Int.le_refl _, hs⟩))
      omega
    have outL : has (r :: L) (r.2 + 1) = false := (has_false _ _).2 fun a ha h1 => by
      rcases List.mem_cons.1 ha with rfl | ha
      · omega
      · have := pL a ha
        omega
    have outM : has (s :: M) (s.2 + 1) = false := (has_false _ _).2 fun a ha h1 => by
      rcases List.mem_cons.1 ha with rfl | ha
      · omega
      · have := pM a ha
        omega
    have e2 : r.2 = s.2 := by
      by_cases c1 : r.2 < s.2
      · have := h (r.2 + 1)
        rw [outL, (has_iff (s :: M) _).2 ⟨s, by simp, by omega, by omega⟩] at this
        cases this
      · by_cases c2 : s.2 < r.2
        · have := h (s.2 + 1)
          rw [outM, (has_iff (r :: L) _).2 ⟨r, by simp, by omega, by omega⟩] at this
          cases this
        · omega
    obtain rfl : r = s := Prod.ext e1 e2
    rw [can_unique hL.tail hM.tail]
    intro x
    have hx := h x
    rw [has_cons, has_cons] at hx
    by_cases c : x ≤ r.2
    · rw [(has_false L x).2 (fun a ha h1 => by have := pL a ha; omega), (has_false M x).2 (fun a ha h1 => by have := pM a ha; omega)]
    · rw [decide_eq_false c] at hx
      simpa using hx

/-! ### how many -/
def nb (p : Int → Bool) (a : Int) : Nat → Nat
  | 0 => 0
  | k + 1 => nb p a k + (if p (a + k) then 1 else 0)
theorem nb_succ (p : Int → Bool) (a : Int) (k : Nat) : nb p a (k + 1) = nb p a k + (if p (a + k) then 1 else 0) := rfl
theorem nb_add (p : Int → Bool) (a : Int) (j : Nat) : ∀ k, nb p a (j + k) = nb p a j + nb p (a + j) k
  | 0 => rfl
  | k + 1 => by
    rw [← Nat.add_assoc, nb_succ, nb_succ, nb_add p a j k, show a + ((j + k : Nat) : Int) = a + j + k by omega]
    omega
theorem nb_congr {p q : Int → Bool} {a : Int} : ∀ {k : Nat}, (∀ x, a ≤ x → x < a + k → p x = q x) → nb p a k = nb q a k
  | 0, _ => rfl
  | k + 1, h => by
    show nb p a k + _ = nb q a k + _
    rw [nb_congr (k := k) (fun x h1 h2 => h x h1 (by omega)), h (a + k) (by omega) (by omega)]
theorem nb_none {p : Int → Bool} {a : Int} : ∀ {k : Nat}, (∀ x, a ≤ x → x < a + k → p x = false) → nb p a k = 0
  | 0, _ => rfl
  | k + 1, h => by
    show nb p a k + _ = 0
    rw [nb_none (k := k) (fun x h1 h2 => h x h1 (by omega)), h (a + k) (by omega) (by omega)]
    rfl
theorem nb_all {p : Int → Bool} {a : Int} : ∀ {k : Nat}, (∀ x, a ≤ x → x < a + k → p x = true) → nb p a k = k
  | 0, _ => rfl
  | k + 1, h => by
    show nb p a k + _ = k + 1
    rw [nb_all (k := k) (fun x h1 h2 => h x h1 (by omega)), h (a + k) (by omega) (by omega)]
    rfl
theorem nb_not (p : Int → Bool) (a : Int) : ∀ k : Nat, nb p a k + nb (fun x => !p x) a k = k
  | 0 => rfl
  | k + 1 => by
    have := nb_not p a k
    rw [nb_succ, nb_succ]
    cases p (a + k) <;> simp <;> omega
theorem nb_le (p : Int → Bool) (a : Int) (k : Nat) : nb p a k ≤ k := by
  have := nb_not p a k
  omega
def sz : List Rn → Nat
  | [] => 0
  | r :: L => (r.2 - r.1 + 1).toNat + sz L
theorem sz_append : ∀ (L M : List Rn), sz (L ++ M) = sz L + sz M
  | [], M => by simp [sz]
  | r :: L, M => by
    show (r.2 - r.1 + 1).toNat + sz (L ++ M) = (r.2 - r.1 + 1).toNat + sz L + sz M
    rw [sz_append L M]
    omega
/-- the numbers of rising runs, counted one by one -/
theorem sz_nb : ∀ {L : List Rn} {a : Int} {k : Nat}, Ris L → (∀ r ∈ L, a ≤ r.1 ∧ r.2 < a + k) → sz L = nb (has L) a k
  | [], a, k, _, _ => (nb_none (fun x _ _ => rfl)).symm
  | r :: L, a, k, hL, hb => by
    have hr := hL.1 r (by simp)
    obtain ⟨b1, b2⟩ := hb r (by simp)
    have pL := (List.pairwise_cons.1 hL.2).1
    obtain ⟨i, hi⟩ : ∃ i : Nat, (i : Int) = r.1 - a := ⟨(r.1 - a).toNat, by omega⟩
    obtain ⟨j, hj⟩ : ∃ j : Nat, (j : Int) = r.2 - r.1 + 1 := ⟨(r.2 - r.1 + 1).toNat, by omega⟩
    obtain ⟨m, hm⟩ : ∃ m : Nat, (m : Int) = a + k - r.2 - 1 := ⟨(a + k - r.2 - 1).toNat, by omega⟩
    rw [show k = i + j + m by omega, nb_add, nb_add]
    rw [nb_none (p := has (r :: L)) (a := a) (k := i) (fun x h1 h2 => (has_false _ _).2 fun y hy h3 => by
      rcases List.mem_cons.1 hy with rfl | hy
      · omega
      · have := pL y hy
        omega)]
    rw [nb_all (p := has (r :: L)) (k := j) (fun x h1 h2 => (has_iff _ _).2 ⟨r, by simp, by omega, by omega⟩)]
    rw [nb_congr (p := has (r :: L)) (q := has L) (k := m) (fun x h1 h2 => by
      rw [has_cons, decide_eq_false (show ¬ x ≤ r.2 by omega)]
      simp)]
    rw [← sz_nb (L := L) hL.tail (fun y hy => by
      have h1 := pL y hy
      have h2 := hb y (by simp [hy])
      omega)]
    show (r.2 - r.1 + 1).toNat + sz L = _
    omega

/-! ### which runs meet -/
/-- the runs ahead of x, those that meet x to y, those behind y -/
structure Spl (L : List Rn) (x y : Int) (A M B : List Rn) : Prop where
  eq : L = A ++ M ++ B
  a : ∀ r ∈ A, r.2 < x
  m : ∀ r ∈ M, x ≤ r.2 ∧ r.1 ≤ y
  b : ∀ r ∈ B, y < r.1
theorem spl : ∀ {L : List Rn} (x y : Int), Ris L → x ≤ y → ∃ A M B, Spl L x y A M B
  | [], x, y, _, _ => ⟨[], [], [], rfl, by simp, by simp, by simp⟩
  | r :: L, x, y, hL, hxy => by
    obtain ⟨A, M, B, h⟩ := spl (L := L) x y hL.tail hxy
    have hr := hL.1 r (by simp)
    have pL := (List.pairwise_cons.1 hL.2).1
    have hin : ∀ z ∈ L, z.1 ≤ z.2 := fun z hz => hL.1 z (by simp [hz])
    have eL := h.eq
    by_cases c1 : r.2 < x
    · exact ⟨r :: A, M, B, by rw [eL]; rfl, fun z hz => by
        rcases List.mem_cons.1 hz with rfl | hz
        · exact c1
        · exact h.a z hz, h.m, h.b⟩
    · have eA : A = [] := List.eq_nil_iff_forall_not_mem.2 fun z hz => by
        have hzL : z ∈ L := by rw [eL]; simp [hz]
        have h1 := h.a z hz
        have h2 := pL z hzL
        have h3 := hin z hzL
        omega
      subst eA
      by_cases c2 : r.1 ≤ y
      · exact ⟨[], r :: M, B, by rw [eL]; rfl, by simp, fun z hz => by
          rcases List.mem_cons.1 hz with rfl | hz
          · exact ⟨by omega, c2⟩
          · exact h.m z hz, h.b⟩
      · have eM : M = [] := List.eq_nil_iff_forall_not_mem.2 fun z hz => by
          have hzL : z ∈ L := by rw [eL]; simp [hz]
          have h1 := h.m z hz
          have h2 := pL z hzL
          have h3 := hin z hzL
          omega
        subst eM
        exact ⟨[], [], r :: B, by rw [eL]; rfl, by simp, by simp, fun z hz => by
          rcases List.mem_cons.1 hz with rfl | hz
          · omega
          · exact h.b z hz⟩
end Go.Proofs.YtceeeofkigkpkaaGreat
