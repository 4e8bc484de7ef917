import Derived.Test.YtceeeofkigkpkaaGreatEB
namespace Go.Proofs.YtceeeofkigkpkaaGreat
set_option linter.unusedVariables false
open Go.RowKit

/-! ### rising rows of numbers -/
theorem rise_ext : ∀ {A B : List Int}, A.Pairwise (· < ·) → B.Pairwise (· < ·) → (∀ x, x ∈ A ↔ x ∈ B) → A = B
  | [], [], _, _, _ => rfl
  | [], b :: B, _, _, h => absurd ((h b).2 (by simp)) (by simp)
  | a :: A, [], _, _, h => absurd ((h a).1 (by simp)) (by simp)
  | a :: A, b :: B, hA, hB, h => by
    have h1 := List.pairwise_cons.1 hA
    have h2 := List.pairwise_cons.1 hB
    have e : a = b := by
      rcases List.mem_cons.1 ((h a).1 (by simp)) with e | m
      · exact e
      · rcases List.mem_cons.1 ((h b).2 (by simp)) with e' | m'
        · exact e'.symm
        · have := h2.1 a m
          have := h1.1 b m'
          omega
    subst e
    rw [rise_ext h1.2 h2.2 fun x => ?_]
    constructor
    · intro hx
      rcases List.mem_cons.1 ((h x).1 (List.mem_cons_of_mem _ hx)) with e | m
      · subst e; have := h1.1 x hx; omega
      · exact m
    · intro hx
      rcases List.mem_cons.1 ((h x).2 (List.mem_cons_of_mem _ hx)) with e | m
      · subst e; have := h2.1 x hx; omega
      · exact m
theorem mem_rnum (a x : Int) (c : Nat) : x ∈ rnum a c ↔ a ≤ x ∧ x < a + c := by
  unfold rnum
  constructor
  · intro h
    obtain ⟨i, hi, rfl⟩ := List.mem_map.1 h
    have := List.mem_range.1 hi
    omega
  · intro h
    exact List.mem_map.2 ⟨(x - a).toNat, List.mem_range.2 (by omega), by omega⟩
theorem rnum_rise (a : Int) (c : Nat) : (rnum a c).Pairwise (· < ·) := by
  unfold rnum
  rw [List.pairwise_map]
  exact List.pairwise_lt_range.imp fun h => by omega
theorem nums_cons (r : Rn) (L : List Rn) : nums (r :: L) = rnum r.1 (cnt r) ++ nums L := by simp [nums]
theorem mem_nums : ∀ (L : List Rn) (x : Int), x ∈ nums L ↔ has L x = true
  | [], x => by simp [nums, has]
  | r :: L, x => by
    rw [nums_cons, List.mem_append, mem_nums L x, has_cons, mem_rnum]
    unfold cnt
    simp only [Bool.or_eq_true, Bool.and_eq_true, decide_eq_true_eq]
    constructor
    · rintro (h | h)
      · exact .inl (by omega)
      · exact .inr h
    · rintro (h | h)
      · exact .inl (by omega)
      · exact .inr h
theorem nums_rise : ∀ {L : List Rn}, Ris L → (nums L).Pairwise (· < ·)
  | [], _ => by simp [nums]
  | r :: L, h => by
    rw [nums_cons, List.pairwise_append]
    refine ⟨rnum_rise _ _, nums_rise h.tail, fun a ha b hb => ?_⟩
    have h1 := (mem_rnum _ _ _).1 ha
    obtain ⟨q, hq, h2, h3⟩ := (has_iff L b).1 ((mem_nums L b).1 hb)
    have h4 := (List.pairwise_cons.1 h.2).1 q hq
    unfold cnt at h1
    have := h.1 r (by simp)
    omega
theorem nums_len : ∀ (L : List Rn), (nums L).length = sz L
  | [] => rfl
  | r :: L => by rw [nums_cons, List.length_append, nums_len L, rnum_length]; rfl
theorem nums_low {L : List Rn} (h : ∀ r ∈ L, r.1 ≤ r.2) (h0 : L ≠ []) : nums L = low L :: (nums L).tail := by
  cases L with
  | nil => exact absurd rfl h0
  | cons r L =>
    have h1 := h r (by simp)
    obtain ⟨c, hc⟩ : ∃ c, cnt r = c + 1 := ⟨cnt r - 1, by unfold cnt; omega⟩
    rw [nums_cons, hc]
    unfold rnum
    rw [List.range_succ_eq_map]
    simp [low]
theorem nums_empty {L : List Rn} (h : ∀ r ∈ L, r.1 ≤ r.2) : nums L = [] ↔ L = [] := by
  constructor
  · intro e
    cases L with
    | nil => rfl
    | cons r L => rw [nums_low h (by simp)] at e; cases e
  · rintro rfl; rfl

/-! ### pages and their states -/
abbrev Pg := Int × Bool
def Pg.zero : Pg := (0, false)
def stt (x : Pg) : Nat := if x.1 = 0 then (if x.2 then 2 else 1) else (if x.2 then 4 else 3)
theorem stt_pos (x : Pg) : 1 ≤ stt x ∧ stt x ≤ 4 := by unfold stt; split <;> split <;> omega
def pagesOf (P : List Pg) (s : Nat) : List Int := ((List.range P.length).filter fun i => decide (stt (P.getD i Pg.zero) = s)).map fun i => ((i : Nat) : Int) + 1
def inS (P : List Pg) (s : Nat) (z : Int) : Bool := decide (1 ≤ z) && decide (z ≤ P.length) && decide (stt (P.getD (z - 1).toNat Pg.zero) = s)
theorem inS_iff {P : List Pg} {s : Nat} {z : Int} : inS P s z = true ↔ 1 ≤ z ∧ z ≤ P.length ∧ stt (P.getD (z - 1).toNat Pg.zero) = s := by
  unfold inS; simp only [Bool.and_eq_true, decide_eq_true_eq, and_assoc]
theorem mem_pagesOf (P : List Pg) (s : Nat) (z : Int) : z ∈ pagesOf P s ↔ inS P s z = true := by
  rw [inS_iff]
  unfold pagesOf
  constructor
  · intro h
    obtain ⟨i, hi, rfl⟩ := List.mem_map.1 h
    obtain ⟨h1, h2⟩ := List.mem_filter.1 hi
    have h3 := List.mem_range.1 h1
    refine ⟨by omega, by omega, ?_⟩
    rw [show ((i : Int) + 1 - 1).toNat = i by omega]
    simpa using h2
  · rintro ⟨h1, h2, h3⟩
    exact List.mem_map.2 ⟨(z - 1).toNat, List.mem_filter.2 ⟨List.mem_range.2 (by omega), by simpa using h3⟩, by omega⟩
theorem pagesOf_rise (P : List Pg) (s : Nat) : (pagesOf P s).Pairwise (· < ·) := by
  unfold pagesOf
  rw [List.pairwise_map]
  exact (List.pairwise_lt_range.filter _).imp fun h => by omega
theorem nums_pages {L : List Rn} {P : List Pg} {s : Nat} (hL : Can L) (h : ∀ z, has L z = inS P s z) : nums L = pagesOf P s :=
  rise_ext (nums_rise hL.ris) (pagesOf_rise P s) fun x => by rw [mem_nums, mem_pagesOf, h]
theorem pagesOf_len (P : List Pg) (s : Nat) : (pagesOf P s).length ≤ P.length := by
  unfold pagesOf
  rw [List.length_map]
  exact Nat.le_trans (List.length_filter_le _ _) (by simp)
theorem inS_set {P : List Pg} {n : Nat} {x : Pg} {s : Nat} (h1 : 1 ≤ n) (h2 : n ≤ P.length) (z : Int) : inS (P.set (n - 1) x) s z = if z = n then decide (stt x = s) else inS P s z := by
  by_cases hz : z = n
  · subst hz
    rw [if_pos rfl]
    unfold inS
    rw [List.length_set, show ((n : Int) - 1).toNat = n - 1 by omega]
    have e : (P.set (n - 1) x).getD (n - 1) Pg.zero = x := by
      rw [List.getD_eq_getElem?_getD, List.getElem?_set_self (by omega)]; rfl
    rw [e, decide_eq_true (show (1 : Int) ≤ n by omega), decide_eq_true (show (n : Int) ≤ P.length by omega)]
    simp
  · rw [if_neg hz]
    unfold inS
    rw [List.length_set]
    by_cases h : 1 ≤ z
    · have e : (P.set (n - 1) x).getD (z - 1).toNat Pg.zero = P.getD (z - 1).toNat Pg.zero := by
        rw [List.getD_eq_getElem?_getD, List.getElem?_set_ne (by omega), ← List.getD_eq_getElem?_getD]
      rw [e]
    · rw [decide_eq_false h]; simp
theorem inS_not_two {P : List Pg} {s t : Nat} {z : Int} (h : inS P s z = true) (k : inS P t z = true) : s = t := (inS_iff.1 h).2.2.symm.trans (inS_iff.1 k).2.2

/-! ### a pool -/
structure Po where
  rf : Int
  pg : List Pg
  ac : List (Nat × Pg)
  fl : Nat
def Po.at (P : Po) (n : Nat) : Pg := P.pg.getD (n - 1) Pg.zero
def Po.put (P : Po) (n : Nat) (x : Pg) : Po := { P with pg := P.pg.set (n - 1) x }
def Po.act (P : Po) (n : Nat) (c : Int) : Po := { P with pg := P.pg.set (n - 1) (c, (P.at n).2), ac := P.ac ++ [(n, P.at n)] }
def Po.has (P : Po) (z : Int) : Bool := decide (1 ≤ z) && decide (z ≤ P.pg.length)
def Po.count (P : Po) (z : Int) : Int := if P.has z then (P.pg.getD (z - 1).toNat Pg.zero).1 else 0
def Po.state (P : Po) (z : Int) : Nat := if P.has z then stt (P.pg.getD (z - 1).toNat Pg.zero) else 0
def Po.mark (P : Po) : Nat := P.fl + P.ac.length
def Po.back : Nat → Po → Po
  | 0, P => P
  | j + 1, P => match P.ac.getLast? with
    | none => P
    | some a => Po.back j { P with pg := P.pg.set (a.1 - 1) a.2, ac := P.ac.dropLast }
def Po.settle (P : Po) : Po := { P with pg := P.pg.map (fun x => (x.1, decide (0 < x.1))), ac := [], fl := P.mark }
structure Po.Ok (P : Po) : Prop where
  l1 : 1 ≤ P.pg.length
  l2 : P.pg.length ≤ 65536
  r1 : 2 ≤ P.rf
  r2 : P.rf < 65536
  cs : ∀ x ∈ P.pg, 0 ≤ x.1 ∧ x.1 ≤ P.rf
  acs : ∀ a ∈ P.ac, (1 ≤ a.1 ∧ a.1 ≤ P.pg.length) ∧ 0 ≤ a.2.1 ∧ a.2.1 ≤ P.rf
theorem getD_memP {L : List Pg} {i : Nat} (h : i < L.length) : L.getD i Pg.zero ∈ L := by simp [h]
theorem Po.Ok.put {P : Po} (h : P.Ok) (n : Nat) (x : Pg) (hx : 0 ≤ x.1 ∧ x.1 ≤ P.rf) : (P.put n x).Ok :=
  ⟨by show 1 ≤ (P.pg.set _ _).length; rw [List.length_set]; exact h.l1, by show (P.pg.set _ _).length ≤ _; rw [List.length_set]; exact h.l2, h.r1, h.r2,
   fun y hy => (List.mem_or_eq_of_mem_set hy).elim (h.cs y) (fun e => by rw [e]; exact hx),
   fun a ha => ⟨⟨(h.acs a ha).1.1, by show a.1 ≤ (P.pg.set _ _).length; rw [List.length_set]; exact (h.acs a ha).1.2⟩, (h.acs a ha).2⟩⟩
theorem Po.Ok.at {P : Po} (h : P.Ok) {n : Nat} (h1 : 1 ≤ n) (h2 : n ≤ P.pg.length) : 0 ≤ (P.at n).1 ∧ (P.at n).1 ≤ P.rf := h.cs _ (getD_memP (by omega))
theorem Po.Ok.act {P : Po} (h : P.Ok) {n : Nat} {c : Int} (h1 : 1 ≤ n) (h2 : n ≤ P.pg.length) (hc : 0 ≤ c ∧ c ≤ P.rf) : (P.act n c).Ok := by
  have k := h.put n (c, (P.at n).2) hc
  refine ⟨k.l1, k.l2, k.r1, k.r2, k.cs, fun a ha => ?_⟩
  rcases List.mem_append.1 ha with ha | ha
  · exact k.acs a ha
  · obtain rfl := List.mem_singleton.1 ha
    exact ⟨⟨h1, by show n ≤ (P.pg.set _ _).length; rw [List.length_set]; exact h2⟩, h.at h1 h2⟩
theorem Po.Ok.settle {P : Po} (h : P.Ok) : P.settle.Ok :=
  ⟨by show 1 ≤ (P.pg.map _).length; rw [List.length_map]; exact h.l1, by show (P.pg.map _).length ≤ _; rw [List.length_map]; exact h.l2, h.r1, h.r2,
   fun y hy => by obtain ⟨x, hx, rfl⟩ := List.mem_map.1 hy; exact h.cs x hx, fun a ha => by cases ha⟩
theorem Po.Ok.drop {P : Po} (h : P.Ok) {A : List (Nat × Pg)} {n : Nat} {x : Pg} (e : P.ac = A ++ [(n, x)]) : (⟨P.rf, P.pg.set (n - 1) x, A, P.fl⟩ : Po).Ok := by
  have hx := h.acs (n, x) (by rw [e]; simp)
  have k := h.put n x hx.2
  exact ⟨k.l1, k.l2, k.r1, k.r2, k.cs, fun a ha => k.acs a (by show a ∈ P.ac; rw [e]; simp [ha])⟩
theorem Po.back_succ {P : Po} {A : List (Nat × Pg)} {n : Nat} {x : Pg} (e : P.ac = A ++ [(n, x)]) (j : Nat) : Po.back (j + 1) P = Po.back j ⟨P.rf, P.pg.set (n - 1) x, A, P.fl⟩ := by
  show (match P.ac.getLast? with | none => P | some a => Po.back j { P with pg := P.pg.set (a.1 - 1) a.2, ac := P.ac.dropLast }) = _
  rw [e]
  simp
theorem set_at {P : Po} {n : Nat} (h1 : 1 ≤ n) (h2 : n ≤ P.pg.length) (y : Pg) : (P.pg.set (n - 1) y).set (n - 1) (P.at n) = P.pg := by
  rw [List.set_set]
  refine List.ext_getElem? fun i => ?_
  by_cases hi : n - 1 = i
  · subst hi
    rw [List.getElem?_set_self (by omega)]
    unfold Po.at
    rw [List.getD_eq_getElem?_getD, List.getElem?_eq_getElem (by omega)]
    rfl
  · rw [List.getElem?_set_ne hi]
/-- what an act does is undone -/
theorem Po.back_act {P : Po} {n : Nat} (h1 : 1 ≤ n) (h2 : n ≤ P.pg.length) (c : Int) (j : Nat) : Po.back (j + 1) (P.act n c) = Po.back j P := by
  rw [Po.back_succ (A := P.ac) (n := n) (x := P.at n) rfl]
  show Po.back j ⟨P.rf, (P.pg.set (n - 1) (c, (P.at n).2)).set (n - 1) (P.at n), P.ac, P.fl⟩ = _
  rw [set_at h1 h2]
theorem Po.back_len : ∀ (j : Nat) (P : Po), (Po.back j P).ac.length = P.ac.length - j ∧ (Po.back j P).pg.length = P.pg.length ∧ (Po.back j P).fl = P.fl ∧ (Po.back j P).rf = P.rf
  | 0, P => ⟨rfl, rfl, rfl, rfl⟩
  | j + 1, P => by
    rcases List.eq_nil_or_concat P.ac with h | ⟨A, a, h⟩
    · have e : Po.back (j + 1) P = P := by
        show (match P.ac.getLast? with | none => P | some a => _) = _
        rw [h]; rfl
      rw [e, h]; exact ⟨by simp, rfl, rfl, rfl⟩
    · rw [List.concat_eq_append] at h
      obtain ⟨n, x⟩ := a
      rw [Po.back_succ h]
      obtain ⟨e1, e2, e3, e4⟩ := Po.back_len j ⟨P.rf, P.pg.set (n - 1) x, A, P.fl⟩
      refine ⟨?_, ?_, e3, e4⟩
      · rw [e1, h, List.length_append]; simp
      · rw [e2]; exact List.length_set
end Go.Proofs.YtceeeofkigkpkaaGreat
