import Derived.Test.YticcpkdhfdefpaaNZ
import Derived.Test.YticcpkdhfdefpaaPT
namespace Go.Proofs.Yticcpkdhfdefpaa

/-! ### the counts of all pages as blocks -/
def isPg (p : Int) : Bool := decide (0 ≤ p) && decide (p ≤ 65536)
theorem isPg_iff {p : Int} : isPg p = true ↔ 0 ≤ p ∧ p ≤ 65536 := by unfold isPg; simp
def nbl (p : Nat) : Nat := (p + 239) / 240
def cin (p i : Nat) : Nat := min (p - 240 * i) 240
theorem cin_le (p i : Nat) : cin p i ≤ 240 := Nat.min_le_right _ _
theorem cin_pos {p i : Nat} (h : i < nbl p) : 0 < cin p i := by unfold nbl at h; unfold cin; omega
def cB (cs : List Nat) : List Nat := cs.flatMap fun x => numB x 2
theorem cB_append (a b : List Nat) : cB (a ++ b) = cB a ++ cB b := by unfold cB; rw [List.flatMap_append]
theorem cB_cons (x : Nat) (r : List Nat) : cB (x :: r) = numB x 2 ++ cB r := by unfold cB; rw [List.flatMap_cons]
theorem cB_one (x : Nat) : cB [x] = numB x 2 := by rw [cB_cons]; simp [cB]
theorem cB_length (cs : List Nat) : (cB cs).length = 2 * cs.length := by
  induction cs with
  | nil => rfl
  | cons x r ih => rw [cB_cons, List.length_append, numB_length, ih, List.length_cons]; omega
theorem cB_b8 (cs : List Nat) : B8 (cB cs) := by
  induction cs with
  | nil => exact B8.nil
  | cons x r ih => rw [cB_cons]; exact B8.app.2 ⟨numB_b8 _ _, ih⟩
def hdr (gen i p : Nat) : List Nat := numB 66 1 ++ (numB gen 8 ++ (numB i 4 ++ numB p 4))
theorem hdr_length (gen i p : Nat) : (hdr gen i p).length = 17 := by unfold hdr; simp [numB_length]
theorem hdr_b8 (gen i p : Nat) : B8 (hdr gen i p) := B8.app.2 ⟨numB_b8 _ _, B8.app.2 ⟨numB_b8 _ _, B8.app.2 ⟨numB_b8 _ _, numB_b8 _ _⟩⟩⟩
def bod (gen i p : Nat) (cs : List Nat) : List Nat := hdr gen i p ++ cB cs
theorem bod_length (gen i p : Nat) (cs : List Nat) : (bod gen i p cs).length = 17 + 2 * cs.length := by unfold bod; rw [List.length_append, hdr_length, cB_length]
theorem bod_b8 (gen i p : Nat) (cs : List Nat) : B8 (bod gen i p cs) := B8.app.2 ⟨hdr_b8 _ _ _, cB_b8 _⟩
def bbk (gen i p : Nat) (cs : List Nat) : List Nat := summed (bod gen i p cs)
theorem bbk_length {gen i p : Nat} {cs : List Nat} (h : cs.length ≤ 240) : (bbk gen i p cs).length = 512 := summed_length (by rw [bod_length]; omega)
theorem bbk_b8 (gen i p : Nat) (cs : List Nat) : B8 (bbk gen i p cs) := summed_b8 (bod_b8 _ _ _ _)

/-! ### what a block says -/
def cnt (D : List Nat) (n : Nat) : List Nat := (List.range n).map fun j => numV ((D.drop (17 + 2 * j)).take 2)
theorem cnt_length (D : List Nat) (n : Nat) : (cnt D n).length = n := by simp [cnt]
theorem cnt_succ (D : List Nat) (n : Nat) : cnt D (n + 1) = cnt D n ++ [numV ((D.drop (17 + 2 * n)).take 2)] := by simp [cnt, List.range_succ]
theorem cnt_lt {D : List Nat} (h8 : B8 D) (n : Nat) : ∀ x ∈ cnt D n, x < 65536 := by
  intro x hx
  obtain ⟨j, _, rfl⟩ := List.mem_map.1 hx
  have h1 := numV_lt ((D.drop (17 + 2 * j)).take 2) ((drop_b8 h8 _).take 2)
  have h2 : ((D.drop (17 + 2 * j)).take 2).length ≤ 2 := by rw [List.length_take]; omega
  have h3 : 256 ^ ((D.drop (17 + 2 * j)).take 2).length ≤ 256 ^ 2 := Nat.pow_le_pow_right (by decide) h2
  omega
def argsOk (gen pages i : Int) : Bool := isGen gen && isPg pages && decide (0 ≤ i) && decide (i < (nbl pages.toNat : Nat))
theorem argsOk_iff {gen pages i : Int} : argsOk gen pages i = true ↔ (0 ≤ gen ∧ gen ≤ 1099511627776) ∧ (0 ≤ pages ∧ pages ≤ 65536) ∧ 0 ≤ i ∧ i < (nbl pages.toNat : Nat) := by
  unfold argsOk
  simp only [Bool.and_eq_true, isGen_iff, isPg_iff, decide_eq_true_eq]
  constructor
  · rintro ⟨⟨⟨h1, h2⟩, h3⟩, h4⟩; exact ⟨h1, h2, h3, h4⟩
  · rintro ⟨h1, h2, h3, h4⟩; exact ⟨⟨⟨h1, h2⟩, h3⟩, h4⟩
def headIs (gen pages i : Int) (D : List Nat) : Prop := numV ((D.drop 1).take 8) = gen.toNat ∧ numV ((D.drop 9).take 4) = i.toNat ∧ numV ((D.drop 13).take 4) = pages.toNat
def headDec (gen pages i : Int) (D : List Nat) : Decidable (headIs gen pages i D) := by unfold headIs; infer_instance
def inE (gen pages i : Int) (D : List Nat) : Nat :=
  if numV (D.take 1) ≠ 66 then 5 else @ite Nat (¬ headIs gen pages i D) (@instDecidableNot _ (headDec gen pages i D)) 25 (if (D.drop (17 + 2 * cin pages.toNat i.toNat)).all (· == 0) = false then 5 else 0)
def bkE (gen pages i : Int) (b : List Nat) : Nat :=
  if argsOk gen pages i = false then 1 else if b.length ≠ 512 then 16 else if numV (b.drop 508) ≠ M.of (b.take 508) then 6 else inE gen pages i (b.take 508)
def bkC (gen pages i : Int) (b : List Nat) : List Int := if bkE gen pages i b = 0 then (cnt (b.take 508) (cin pages.toNat i.toNat)).map (fun x : Nat => (x : Int)) else []
theorem bkE_zero {gen pages i : Int} {b : List Nat} (h : bkE gen pages i b = 0) : argsOk gen pages i = true ∧ b.length = 512 ∧ numV (b.drop 508) = M.of (b.take 508) ∧ numV ((b.take 508).take 1) = 66 ∧ headIs gen pages i (b.take 508) ∧ ((b.take 508).drop (17 + 2 * cin pages.toNat i.toNat)).all (· == 0) = true := by
  unfold bkE at h
  split at h
  · cases h
  · rename_i h1
    split at h
    · cases h
    · rename_i h2
      split at h
      · cases h
      · rename_i h3
        unfold inE at h
        split at h
        · cases h
        · rename_i h4
          split at h
          · cases h
          · rename_i h5
            split at h
            · cases h
            · rename_i h6
              exact ⟨by simpa using h1, by simpa using h2, by simpa using h3, by simpa using h4, by simpa using h5, by simpa using h6⟩
theorem dt (l : List Nat) (a k : Nat) : l.drop a = (l.drop a).take k ++ l.drop (a + k) := by rw [← List.drop_drop]; exact (List.take_append_drop k _).symm
theorem num_piece {D : List Nat} (h8 : B8 D) {a k x : Nat} (hl : a + k ≤ D.length) (h : numV ((D.drop a).take k) = x) : (D.drop a).take k = numB x k := by
  have h1 := numB_numV ((D.drop a).take k) ((drop_b8 h8 a).take k)
  have h2 : ((D.drop a).take k).length = k := by rw [List.length_take, List.length_drop]; omega
  rw [h2, h] at h1
  exact h1.symm
theorem cB_cnt {D : List Nat} (h8 : B8 D) : ∀ n, 17 + 2 * n ≤ D.length → cB (cnt D n) = (D.drop 17).take (2 * n)
  | 0, _ => by simp [cnt, cB]
  | n + 1, h => by
    rw [cnt_succ, cB_append, cB_cnt h8 n (by omega), cB_one, ← num_piece h8 (a := 17 + 2 * n) (k := 2) (by omega) rfl, show 2 * (n + 1) = 2 * n + 2 by omega, List.take_add, List.drop_drop]
theorem allZ {l : List Nat} (h : l.all (· == 0) = true) : l = List.replicate l.length 0 := by
  refine List.eq_replicate_iff.2 ⟨rfl, fun x hx => ?_⟩
  have := List.all_eq_true.1 h x hx
  simpa using this
/-- a block that is taken is the one that these counts make -/
theorem bk_form {gen pages i : Int} {b : List Nat} (h8 : B8 b) (h : bkE gen pages i b = 0) : b = bbk gen.toNat i.toNat pages.toNat (cnt (b.take 508) (cin pages.toNat i.toNat)) := by
  obtain ⟨_, hl, hs, h1, ⟨h2, h3, h4⟩, h5⟩ := bkE_zero h
  have hD : (b.take 508).length = 508 := by rw [List.length_take]; omega
  have hD8 : B8 (b.take 508) := h8.take 508
  have hsum : b.drop 508 = numB (M.of (b.take 508)) 4 := by
    have e := numB_numV (b.drop 508) (drop_b8 h8 508)
    rw [show (b.drop 508).length = 4 by rw [List.length_drop]; omega, hs] at e
    exact e.symm
  have hn := cin_le pages.toNat i.toNat
  generalize cin pages.toNat i.toNat = n at *
  have hz := allZ h5
  rw [List.length_drop, hD] at hz
  have e0 : b.take 508 = padded (bod gen.toNat i.toNat pages.toNat (cnt (b.take 508) n)) := by
    unfold padded
    rw [bod_length, cnt_length]
    generalize b.take 508 = D at *
    unfold bod hdr
    rw [cB_cnt hD8 n (by omega), ← hz]
    have p1 : D.take 1 = numB 66 1 := by simpa using num_piece hD8 (a := 0) (k := 1) (by omega) (by simpa using h1)
    rw [← p1, ← num_piece hD8 (a := 1) (k := 8) (by omega) h2, ← num_piece hD8 (a := 9) (k := 4) (by omega) h3, ← num_piece hD8 (a := 13) (k := 4) (by omega) h4]
    simp only [List.append_assoc]
    rw [← dt D 17 (2 * n), ← dt D 13 4, ← dt D 9 4, ← dt D 1 8, List.take_append_drop]
  show b = summed _
  unfold summed
  rw [← e0, ← hsum, List.take_append_drop]
theorem tk (x k : Nat) (r : List Nat) : (numB x k ++ r).take k = numB x k := by rw [List.take_append_of_le_length (by rw [numB_length]; omega), List.take_of_length_le (by rw [numB_length]; omega)]
theorem dk (x k : Nat) (r : List Nat) : (numB x k ++ r).drop k = r := by rw [List.drop_append_of_le_length (by rw [numB_length]; omega), List.drop_of_length_le (by rw [numB_length]; omega), List.nil_append]
theorem cnt_of (Z : List Nat) : ∀ cs : List Nat, (∀ x ∈ cs, x < 65536) → ((List.range cs.length).map fun j => numV (((cB cs ++ Z).drop (2 * j)).take 2)) = cs
  | [], _ => rfl
  | x :: r, h => by
    have ih := cnt_of Z r fun y hy => h y (by simp [hy])
    rw [List.length_cons, List.range_succ_eq_map, List.map_cons, cB_cons, List.append_assoc, List.map_map]
    have h0 : numV (((numB x 2 ++ (cB r ++ Z)).drop (2 * 0)).take 2) = x := by rw [Nat.mul_zero, List.drop_zero, tk]; exact numV_numB 2 x (by have := h x (by simp); omega)
    rw [h0]
    refine congrArg (x :: ·) (Eq.trans (List.map_congr_left fun j _ => ?_) ih)
    show numV (((numB x 2 ++ (cB r ++ Z)).drop (2 * (j + 1))).take 2) = _
    rw [show 2 * (j + 1) = 2 + 2 * j by omega, ← List.drop_drop, dk]
theorem bbk_take (gen i p : Nat) {cs : List Nat} (h : cs.length ≤ 240) : (bbk gen i p cs).take 508 = padded (bod gen i p cs) := by
  have hl : (padded (bod gen i p cs)).length = 508 := padded_length (by rw [bod_length]; omega)
  unfold bbk summed
  rw [List.take_append_of_le_length (by omega), List.take_of_length_le (by omega)]
theorem bbk_drop (gen i p : Nat) {cs : List Nat} (h : cs.length ≤ 240) : (bbk gen i p cs).drop 508 = numB (M.of (padded (bod gen i p cs))) 4 := by
  have hl : (padded (bod gen i p cs)).length = 508 := padded_length (by rw [bod_length]; omega)
  unfold bbk summed
  rw [List.drop_append_of_le_length (by omega), List.drop_of_length_le (by omega), List.nil_append]
theorem pad_parts (gen i p : Nat) (cs : List Nat) : padded (bod gen i p cs) = numB 66 1 ++ (numB gen 8 ++ (numB i 4 ++ (numB p 4 ++ (cB cs ++ List.replicate (508 - (17 + 2 * cs.length)) 0)))) := by
  unfold padded
  rw [bod_length]
  unfold bod hdr
  simp only [List.append_assoc]
/-- what was made is taken, with its counts -/
theorem bk_back {gen pages i : Int} {cs : List Nat} (ha : argsOk gen pages i = true) (hl : cs.length = cin pages.toNat i.toNat) (hc : ∀ x ∈ cs, x < 65536) :
    bkE gen pages i (bbk gen.toNat i.toNat pages.toNat cs) = 0 ∧ cnt ((bbk gen.toNat i.toNat pages.toNat cs).take 508) (cin pages.toNat i.toNat) = cs := by
  have hn := cin_le pages.toNat i.toNat
  obtain ⟨hg, hp, hi0, hi1⟩ := argsOk_iff.1 ha
  have hi2 : i.toNat < 4294967296 := by unfold nbl at hi1; omega
  have h240 : cs.length ≤ 240 := by omega
  have hM := M.of_lt (padded_b8 (bod_b8 gen.toNat i.toNat pages.toNat cs))
  unfold bkE
  rw [if_neg (by rw [ha]; simp), if_neg (by rw [bbk_length h240]; simp), bbk_take _ _ _ h240, bbk_drop _ _ _ h240, numV_numB 4 _ (by omega), if_neg (by simp)]
  unfold inE headIs
  rw [← hl, pad_parts]
  generalize hZ : List.replicate (508 - (17 + 2 * cs.length)) 0 = Z
  have hz : Z.all (· == 0) = true := by rw [← hZ]; simp
  have d1 : ∀ r : List Nat, (numB 66 1 ++ r).drop 1 = r := fun r => dk 66 1 r
  have e1 : (numB 66 1 ++ (numB gen.toNat 8 ++ (numB i.toNat 4 ++ (numB pages.toNat 4 ++ (cB cs ++ Z))))).drop 1 = numB gen.toNat 8 ++ (numB i.toNat 4 ++ (numB pages.toNat 4 ++ (cB cs ++ Z))) := d1 _
  have e9 : (numB 66 1 ++ (numB gen.toNat 8 ++ (numB i.toNat 4 ++ (numB pages.toNat 4 ++ (cB cs ++ Z))))).drop 9 = numB i.toNat 4 ++ (numB pages.toNat 4 ++ (cB cs ++ Z)) := by
    rw [show (9 : Nat) = 1 + 8 from rfl, ← List.drop_drop, d1, dk]
  have e13 : (numB 66 1 ++ (numB gen.toNat 8 ++ (numB i.toNat 4 ++ (numB pages.toNat 4 ++ (cB cs ++ Z))))).drop 13 = numB pages.toNat 4 ++ (cB cs ++ Z) := by
    rw [show (13 : Nat) = 9 + 4 from rfl, ← List.drop_drop, e9, dk]
  have e17 : ∀ j, (numB 66 1 ++ (numB gen.toNat 8 ++ (numB i.toNat 4 ++ (numB pages.toNat 4 ++ (cB cs ++ Z))))).drop (17 + j) = (cB cs ++ Z).drop j := fun j => by
    rw [← List.drop_drop, show (17 : Nat) = 13 + 4 from rfl, ← List.drop_drop, e13, dk]
  have eZ : (cB cs ++ Z).drop (2 * cs.length) = Z := by rw [List.drop_append_of_le_length (by rw [cB_length]; omega), List.drop_of_length_le (by rw [cB_length]; omega), List.nil_append]
  constructor
  · rw [if_neg (by rw [tk, numV_numB 1 66 (by decide)]; simp), if_neg (by
      rw [e1, e9, e13, tk, tk, tk, numV_numB 8 _ (by omega), numV_numB 4 _ (by omega), numV_numB 4 _ (by omega)]; simp), e17, eZ, if_neg (by rw [hz]; simp)]
  · unfold cnt
    simp only [e17]
    exact cnt_of Z cs hc
theorem bk_same {g g' p p' i i' : Int} {b : List Nat} (h : bkE g p i b = 0) (h' : bkE g' p' i' b = 0) : g = g' ∧ p = p' ∧ i = i' := by
  obtain ⟨a, _, _, _, ⟨h2, h3, h4⟩, _⟩ := bkE_zero h
  obtain ⟨a', _, _, _, ⟨k2, k3, k4⟩, _⟩ := bkE_zero h'
  obtain ⟨hg, hp, hi, _⟩ := argsOk_iff.1 a
  obtain ⟨kg, kp, ki, _⟩ := argsOk_iff.1 a'
  exact ⟨by omega, by omega, by omega⟩
theorem xor_self_eq {a b : Nat} (h : a ^^^ b = 0) : a = b := by
  have := congrArg (fun z => z ^^^ b) h
  simp only [Nat.zero_xor] at this
  rw [Nat.xor_assoc, Nat.xor_self, Nat.xor_zero] at this
  exact this
/-- one byte that is another one is told -/
theorem bk_spoil {g p i : Int} {b : List Nat} (h8 : B8 b) (h : bkE g p i b = 0) {j x : Nat} (hj : j < 512) (hx : x < 256) : bkE g p i (b.set j x) = 0 ↔ x = b.getD j 0 := by
  have hl := (bkE_zero h).2.1
  have hjl : j < b.length := by omega
  have hbj : b.getD j 0 < 256 := by rw [show b.getD j 0 = b[j] by simp [hjl]]; exact h8 _ (List.getElem_mem _)
  constructor
  · intro h'
    refine Classical.byContradiction fun hne => ?_
    have hs' : B8 (b.set j x) := fun y hy => by
      rcases List.mem_or_eq_of_mem_set hy with h1 | h1
      · exact h8 y h1
      · rw [h1]; exact hx
    have m1 := own_of h8 hl (bkE_zero h).2.2.1
    have m2 := own_of hs' (by rw [List.length_set]; exact hl) (bkE_zero h').2.2.1
    have hd : x = b.getD j 0 ^^^ (b.getD j 0 ^^^ x) := by rw [← Nat.xor_assoc, Nat.xor_self, Nat.zero_xor]
    have hd0 : b.getD j 0 ^^^ x ≠ 0 := fun e => hne (xor_self_eq e).symm
    have hdl : b.getD j 0 ^^^ x < 2 ^ 32 := Nat.xor_lt_two_pow (by omega) (by omega)
    have ho := M.on_set (b.getD j 0 ^^^ x) b j M.F hjl
    rw [← hd] at ho
    exact M.tells b (b.set j x) _ _ hdl hd0 ho (by rw [m1, m2])
  · rintro rfl
    rw [show b.set j (b.getD j 0) = b by simp [hjl]]
    exact h

/-! ### all of a bank -/
def chunk (cs : List Nat) (i : Nat) : List Nat := (cs.drop (240 * i)).take 240
theorem chunk_length (cs : List Nat) (i : Nat) : (chunk cs i).length = cin cs.length i := by unfold chunk cin; rw [List.length_take, List.length_drop]; omega
theorem chunk_mem {cs : List Nat} {i x : Nat} (h : x ∈ chunk cs i) : x ∈ cs := List.mem_of_mem_drop (List.mem_of_mem_take h)
def bank (gen : Nat) (cs : List Nat) : List (List Nat) := (List.range (nbl cs.length)).map fun i => bbk gen i cs.length (chunk cs i)
theorem bank_length (gen : Nat) (cs : List Nat) : (bank gen cs).length = nbl cs.length := by simp [bank]
def badC (c : Int) : Bool := decide (c < 0) || decide (65536 ≤ c)
def enE (gen : Int) (C : List Int) : Nat := if isGen gen = false then 1 else if 65536 < C.length then 4 else if C.any badC = true then 13 else 0
def nats (C : List Int) : List Nat := C.map Int.toNat
def enL (gen : Int) (C : List Int) : List (List Nat) := if enE gen C = 0 then bank gen.toNat (nats C) else []
theorem enE_zero {gen : Int} {C : List Int} : enE gen C = 0 ↔ isGen gen = true ∧ C.length ≤ 65536 ∧ ∀ c ∈ C, 0 ≤ c ∧ c < 65536 := by
  unfold enE
  have key : C.any badC = false ↔ ∀ c ∈ C, 0 ≤ c ∧ c < 65536 := by
    rw [List.any_eq_false]
    constructor
    · intro h c hc
      have := h c hc
      unfold badC at this
      simp at this
      omega
    · intro h c hc
      have := h c hc
      unfold badC
      simp
      omega
  cases hg : isGen gen with
  | false => simp
  | true =>
    by_cases hl : 65536 < C.length
    · simp only [Bool.true_eq_false, ↓reduceIte, hl, true_and]
      constructor
      · intro h; cases h
      · rintro ⟨h, _⟩; omega
    · cases ha : C.any badC with
      | true =>
        simp only [Bool.true_eq_false, ↓reduceIte, hl, Nat.succ_ne_zero, true_and, false_iff, not_and]
        intro _ hall
        rw [key.2 hall] at ha
        cases ha
      | false => simpa [hl] using ⟨by omega, key.1 ha⟩
/-- the first error -/
def firstE (f : Nat → Nat) : Nat → Nat
  | 0 => 0
  | n + 1 => if firstE f n ≠ 0 then firstE f n else f n
theorem firstE_of {f : Nat → Nat} : ∀ {n}, (∀ i, i < n → f i = 0) → firstE f n = 0
  | 0, _ => rfl
  | n + 1, h => by
    have ih := firstE_of (f := f) (n := n) fun i hi => h i (by omega)
    unfold firstE
    rw [if_neg (by rw [ih]; simp), h n (by omega)]
theorem firstE_zero {f : Nat → Nat} : ∀ {n}, firstE f n = 0 → ∀ i, i < n → f i = 0
  | 0, _, i, hi => by omega
  | n + 1, h, i, hi => by
    unfold firstE at h
    split at h
    · rename_i h1; exact absurd h h1
    · rename_i h1
      by_cases hin : i < n
      · exact firstE_zero (by simpa using h1) i hin
      · rw [show i = n by omega]; exact h
theorem firstE_stop {f : Nat → Nat} {k : Nat} (h : firstE f k = 0) (hk : f k ≠ 0) : ∀ n, k < n → firstE f n = f k
  | 0, hn => by omega
  | n + 1, hn => by
    unfold firstE
    by_cases e : k = n
    · subst e; rw [if_neg (by rw [h]; simp)]
    · rw [firstE_stop h hk n (by omega), if_pos hk]
def deA (gen pages : Int) (n : Nat) : Bool := isGen gen && isPg pages && decide (n = nbl pages.toNat)
def deE (gen pages : Int) (B : List (List Nat)) : Nat := if deA gen pages B.length = false then 1 else firstE (fun j => bkE gen pages (j : Int) (B.getD j [])) B.length
def deTo (gen pages : Int) (B : List (List Nat)) (n : Nat) : List Int := ((List.range n).map fun j : Nat => bkC gen pages (j : Int) (B.getD j [])).flatten
theorem deTo_succ (gen pages : Int) (B : List (List Nat)) (n : Nat) : deTo gen pages B (n + 1) = deTo gen pages B n ++ bkC gen pages (n : Int) (B.getD n []) := by simp [deTo, List.range_succ]
def deC (gen pages : Int) (B : List (List Nat)) : List Int := if deE gen pages B = 0 then deTo gen pages B B.length else []
theorem bkC_length {gen pages i : Int} {b : List Nat} : (bkC gen pages i b).length ≤ 240 := by
  unfold bkC
  split
  · rw [List.length_map, cnt_length]; exact cin_le _ _
  · simp
theorem deTo_length (gen pages : Int) (B : List (List Nat)) : ∀ n, (deTo gen pages B n).length ≤ 240 * n
  | 0 => by simp [deTo]
  | n + 1 => by
    rw [deTo_succ, List.length_append]
    have := deTo_length gen pages B n
    have := @bkC_length gen pages (n : Int) (B.getD n [])
    omega
theorem bank_get (gen : Nat) (cs : List Nat) {i : Nat} (h : i < nbl cs.length) : (bank gen cs).getD i [] = bbk gen i cs.length (chunk cs i) := by simp [bank, h]
theorem nats_length (C : List Int) : (nats C).length = C.length := by simp [nats]
theorem nats_cast {C : List Int} (h : ∀ c ∈ C, 0 ≤ c) : (nats C).map (fun x : Nat => (x : Int)) = C := by
  unfold nats
  rw [List.map_map]
  conv => rhs; rw [← List.map_id C]
  refine List.map_congr_left fun c hc => ?_
  have := h c hc
  show ((c.toNat : Nat) : Int) = c
  omega
theorem nats_lt {C : List Int} (h : ∀ c ∈ C, 0 ≤ c ∧ c < 65536) : ∀ x ∈ nats C, x < 65536 := by
  intro x hx
  obtain ⟨c, hc, rfl⟩ := List.mem_map.1 hx
  have := h c hc
  omega
/-- each block of a bank is taken -/
theorem bank_taken {gen : Int} {C : List Int} (h : enE gen C = 0) {i : Nat} (hi : i < nbl C.length) :
    bkE gen (C.length : Int) (i : Int) (bbk gen.toNat i C.length (chunk (nats C) i)) = 0 ∧ bkC gen (C.length : Int) (i : Int) (bbk gen.toNat i C.length (chunk (nats C) i)) = (chunk (nats C) i).map (fun x : Nat => (x : Int)) := by
  obtain ⟨hg, hl, hc⟩ := enE_zero.1 h
  have ha : argsOk gen (C.length : Int) (i : Int) = true := argsOk_iff.2 ⟨isGen_iff.1 hg, by omega, by omega, by simp only [Int.toNat_natCast]; omega⟩
  have hk := bk_back (cs := chunk (nats C) i) ha (by rw [chunk_length, nats_length]; rfl) fun x hx => nats_lt hc x (chunk_mem hx)
  simp only [Int.toNat_natCast] at hk
  refine ⟨hk.1, ?_⟩
  unfold bkC
  simp only [Int.toNat_natCast]
  rw [if_pos hk.1, hk.2]
theorem chunks_to (cs : List Nat) : ∀ n, (((List.range n).map (chunk cs)).flatten) = cs.take (240 * n)
  | 0 => by simp
  | n + 1 => by
    rw [List.range_succ, List.map_append, List.flatten_append, chunks_to cs n]
    simp only [List.map_cons, List.map_nil, List.flatten_cons, List.flatten_nil, List.append_nil]
    unfold chunk
    rw [show 240 * (n + 1) = 240 * n + 240 by omega, List.take_add]
/-- there and back -/
theorem there_back {gen : Int} {C : List Int} (h : enE gen C = 0) : deE gen (C.length : Int) (bank gen.toNat (nats C)) = 0 ∧ deC gen (C.length : Int) (bank gen.toNat (nats C)) = C := by
  obtain ⟨hg, hl, hc⟩ := enE_zero.1 h
  have hlen : (bank gen.toNat (nats C)).length = nbl C.length := by rw [bank_length, nats_length]
  have hget : ∀ i, i < nbl C.length → (bank gen.toNat (nats C)).getD i [] = bbk gen.toNat i C.length (chunk (nats C) i) := fun i hi => by
    rw [bank_get _ _ (by rw [nats_length]; exact hi), nats_length]
  have h1 : deE gen (C.length : Int) (bank gen.toNat (nats C)) = 0 := by
    unfold deE
    rw [if_neg (by unfold deA; rw [hg, isPg_iff.2 ⟨by omega, by omega⟩, hlen]; simp)]
    refine firstE_of fun i hi => ?_
    rw [hlen] at hi
    rw [hget i hi]
    exact (bank_taken h hi).1
  refine ⟨h1, ?_⟩
  unfold deC
  rw [if_pos h1]
  unfold deTo
  rw [hlen]
  have e : ((List.range (nbl C.length)).map fun j : Nat => bkC gen (C.length : Int) (j : Int) ((bank gen.toNat (nats C)).getD j [])) = (List.range (nbl C.length)).map fun j => (chunk (nats C) j).map (fun x : Nat => (x : Int)) := by
    refine List.map_congr_left fun i hi => ?_
    rw [hget i (List.mem_range.1 hi)]
    exact (bank_taken h (List.mem_range.1 hi)).2
  rw [e]
  have e2 : ((List.range (nbl C.length)).map fun j => (chunk (nats C) j).map (fun x : Nat => (x : Int))) = ((List.range (nbl C.length)).map (chunk (nats C))).map (List.map fun x : Nat => (x : Int)) := by rw [List.map_map]; rfl
  rw [e2, ← List.map_flatten, chunks_to, List.take_of_length_le (by rw [nats_length]; unfold nbl; omega)]
  exact nats_cast fun c hc' => (hc c hc').1
end Go.Proofs.Yticcpkdhfdefpaa
