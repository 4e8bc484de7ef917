import Derived.Test.YtoachodngjlpaaaVM
namespace Go.Proofs.Ytoachodngjlpaaa

/-- a value, its real and its point as bits -/
structure VV where
  kind : Int
  bool : Bool
  int : Int
  real : Nat
  re : Nat
  im : Nat
  text : ByteArray
/-- a text's bytes -/
def tl (s : ByteArray) : List Nat := s.data.toList.map UInt8.toNat
theorem tl_length (s : ByteArray) : (tl s).length = s.size := by simp [tl]
theorem tl_lt (s : ByteArray) : ∀ x ∈ tl s, x < 256 := by
  intro x hx
  obtain ⟨u, _, rfl⟩ := List.mem_map.1 hx
  exact u.toNat_lt
theorem tl_inj {s t : ByteArray} (h : tl s = tl t) : s = t := by
  have : s.data.toList = t.data.toList := (List.map_inj_right (fun a b => UInt8.toNat.inj)).1 h
  cases s; cases t
  simp only [ByteArray.mk.injEq]
  exact Array.toList_inj.1 this
def lt (l : List Nat) : ByteArray := ⟨(l.map UInt8.ofNat).toArray⟩
theorem tl_lt_ (l : List Nat) (h : ∀ x ∈ l, x < 256) : tl (lt l) = l := by
  unfold tl lt
  simp only [List.map_map]
  conv => rhs; rw [← List.map_id l]
  apply List.map_congr_left
  intro x hx
  have := h x hx
  simp [UInt8.toNat_ofNat']
  omega
theorem lt_tl (s : ByteArray) : lt (tl s) = s := tl_inj (tl_lt_ _ (tl_lt s))

structure VV.ok (v : VV) : Prop where
  k0 : -9223372036854775808 ≤ v.kind
  k1 : v.kind ≤ 9223372036854775807
  i0 : -9223372036854775808 ≤ v.int
  i1 : v.int ≤ 9223372036854775807
  r : v.real < 18446744073709551616
  re : v.re < 18446744073709551616
  im : v.im < 18446744073709551616
  t : v.text.size ≤ 140737488355328
def VV.zero : VV := ⟨0, false, 0, 0, 0, 0, ByteArray.empty⟩
theorem VV.zero_ok : VV.zero.ok := ⟨by decide, by decide, by decide, by decide, by decide, by decide, by decide, by decide⟩
def VV.valid (v : VV) : Bool :=
  decide (0 ≤ v.kind) && decide (v.kind ≤ 5) && (decide (v.kind = 1) || !v.bool) && (decide (v.kind = 2) || decide (v.int = 0)) && (decide (v.kind = 3) || decide (v.real = 0)) &&
    (decide (v.kind = 4) || decide (v.re = 0) && decide (v.im = 0)) && (decide (v.kind = 5) || decide (v.text.size = 0))
def VV.same (v : VV) : VV := if v.valid then { v with real := one v.real, re := one v.re, im := one v.im } else VV.zero
theorem VV.same_ok {v : VV} (h : v.ok) : v.same.ok := by
  unfold VV.same
  split
  · exact ⟨h.k0, h.k1, h.i0, h.i1, one_lt h.r, one_lt h.re, one_lt h.im, h.t⟩
  · exact VV.zero_ok
def cmpBool (a b : Bool) : Int := if a = b then 0 else if b then -1 else 1
/-- the order of values -/
def VV.cmp (a b : VV) : Int :=
  if cmpZ a.kind b.kind ≠ 0 then cmpZ a.kind b.kind
  else if a.kind = 1 then cmpBool a.bool b.bool
  else if a.kind = 2 then cmpZ a.int b.int
  else if a.kind = 3 then cmpZ (rank a.real) (rank b.real)
  else if a.kind = 4 then (if cmpZ (rank a.re) (rank b.re) ≠ 0 then cmpZ (rank a.re) (rank b.re) else cmpZ (rank a.im) (rank b.im))
  else if a.kind = 5 then cmpB (tl a.text) (tl b.text)
  else 0
/-- the order of lists -/
def cmpL : List VV → List VV → Int
  | [], [] => 0
  | [], _ :: _ => -1
  | _ :: _, [] => 1
  | x :: xs, y :: ys => if VV.cmp x y ≠ 0 then VV.cmp x y else cmpL xs ys
theorem cmpL_drop (a b : List VV) (j : Nat) (ha : j < a.length) (hb : j < b.length) : cmpL (a.drop j) (b.drop j) = if VV.cmp (a.getD j VV.zero) (b.getD j VV.zero) ≠ 0 then VV.cmp (a.getD j VV.zero) (b.getD j VV.zero) else cmpL (a.drop (j + 1)) (b.drop (j + 1)) := by
  rw [List.drop_eq_getElem_cons ha, List.drop_eq_getElem_cons hb]
  simp [cmpL, ha, hb]
theorem cmpL_end (a b : List VV) (j : Nat) (h : a.length ≤ j ∨ b.length ≤ j) (hj : j ≤ a.length) (hj2 : j ≤ b.length) : cmpL (a.drop j) (b.drop j) = cmpZ a.length b.length := by
  unfold cmpZ
  by_cases h1 : a.length < b.length
  · have : j = a.length := by omega
    subst this
    rw [if_pos (by omega), List.drop_length]
    obtain ⟨x, xs, e⟩ : ∃ x xs, b.drop a.length = x :: xs := ⟨_, _, List.drop_eq_getElem_cons h1⟩
    rw [e]; rfl
  · by_cases h2 : b.length < a.length
    · have : j = b.length := by omega
      subst this
      rw [if_neg (by omega), if_pos (by omega), List.drop_length]
      obtain ⟨x, xs, e⟩ : ∃ x xs, a.drop b.length = x :: xs := ⟨_, _, List.drop_eq_getElem_cons h2⟩
      rw [e]; rfl
    · rw [if_neg (by omega), if_neg (by omega), show a.drop j = [] by simp; omega, show b.drop j = [] by simp; omega]; rfl
theorem cmp_refl (v : VV) : VV.cmp v v = 0 := by
  unfold VV.cmp
  simp only [cmpZ_refl, cmpB_refl, cmpBool]
  simp
theorem cmpL_refl : ∀ l, cmpL l l = 0
  | [] => rfl
  | x :: l => by simp [cmpL, cmp_refl, cmpL_refl l]

/-- a text's bytes as they are laid -/
def esc : List Nat → List Nat
  | [] => []
  | x :: l => if x = 0 then 0 :: 255 :: esc l else x :: esc l
theorem esc_append (a b : List Nat) : esc (a ++ b) = esc a ++ esc b := by
  induction a with
  | nil => rfl
  | cons x a ih => by_cases h : x = 0 <;> simp [esc, h, ih]
theorem esc_lt (l : List Nat) (h : ∀ x ∈ l, x < 256) : ∀ x ∈ esc l, x < 256 := by
  induction l with
  | nil => intro x hx; cases hx
  | cons y l ih =>
    have hy := h y (List.mem_cons_self ..)
    have hi := ih fun z hz => h z (List.mem_cons_of_mem _ hz)
    intro x hx
    unfold esc at hx
    split at hx
    · simp only [List.mem_cons] at hx
      rcases hx with rfl | rfl | hx
      · decide
      · decide
      · exact hi x hx
    · simp only [List.mem_cons] at hx
      rcases hx with rfl | hx
      · exact hy
      · exact hi x hx
theorem esc_le (l : List Nat) : l.length ≤ (esc l).length ∧ (esc l).length ≤ 2 * l.length := by
  induction l with
  | nil => exact ⟨Nat.le_refl _, Nat.le_refl _⟩
  | cons x l ih => by_cases h : x = 0 <;> simp [esc, h] <;> omega
/-- how many bytes an int has -/
def iw (x : Int) : Nat := if 0 ≤ x then wd x.toNat else wd (-1 - x).toNat
/-- an int as bits -/
def ub (x : Int) : Nat := (x % 18446744073709551616).toNat
/-- the bytes of a value -/
def VV.bytes (v : VV) : List Nat :=
  if v.kind = 0 then [1]
  else if v.kind = 1 then [if v.bool then 3 else 2]
  else if v.kind = 2 then (if 0 ≤ v.int then 32 + iw v.int else 31 - iw v.int) :: hb (ub v.int) (iw v.int)
  else if v.kind = 3 then 48 :: hb (rank v.real) 8
  else if v.kind = 4 then 56 :: (hb (rank v.re) 8 ++ hb (rank v.im) 8)
  else if v.kind = 5 then 64 :: (esc (tl v.text) ++ [0])
  else []
theorem iw_le {x : Int} (h0 : -9223372036854775808 ≤ x) (h1 : x ≤ 9223372036854775807) : iw x ≤ 8 := by
  unfold iw
  split
  · exact wd_le (by omega)
  · exact wd_le (by omega)
theorem bytes_lt {v : VV} (h : v.ok) : ∀ x ∈ v.bytes, x < 256 := by
  have hi := iw_le h.i0 h.i1
  intro x hx
  unfold VV.bytes at hx
  split at hx
  · simp at hx; omega
  split at hx
  · simp at hx; subst hx; split <;> decide
  split at hx
  · simp only [List.mem_cons] at hx
    rcases hx with rfl | hx
    · split <;> omega
    · exact hb_lt _ _ x hx
  split at hx
  · simp only [List.mem_cons] at hx
    rcases hx with rfl | hx
    · decide
    · exact hb_lt _ _ x hx
  split at hx
  · simp only [List.mem_cons, List.mem_append] at hx
    rcases hx with rfl | hx | hx
    · decide
    · exact hb_lt _ _ x hx
    · exact hb_lt _ _ x hx
  split at hx
  · simp only [List.mem_cons, List.mem_append] at hx
    rcases hx with rfl | hx | hx
    · decide
    · exact esc_lt _ (tl_lt _) x hx
    · rcases hx with rfl | hx
      · decide
      · cases hx
  · cases hx
theorem bytes_le {v : VV} (h : v.ok) : v.bytes.length ≤ 17 + 2 * v.text.size := by
  have hi := iw_le h.i0 h.i1
  have he := (esc_le (tl v.text)).2
  rw [tl_length] at he
  unfold VV.bytes
  repeat' split
  all_goals simp [hb_length] <;> omega
/-- the bytes of values -/
def enc (l : List VV) : List Nat := (l.map VV.bytes).flatten
theorem enc_nil : enc [] = [] := rfl
theorem enc_cons (v : VV) (l : List VV) : enc (v :: l) = v.bytes ++ enc l := rfl
theorem enc_append (a b : List VV) : enc (a ++ b) = enc a ++ enc b := by simp [enc]
theorem enc_snoc (a : List VV) (v : VV) : enc (a ++ [v]) = enc a ++ v.bytes := by simp [enc]
/-- what Encode answers -/
def encR (l : List VV) : List Nat × Int := if l.all VV.valid then (if (enc l).length ≤ 4096 then (enc l, 0) else ([], 4)) else ([], 22)

/-- what comes of a text's bytes -/
def unesc : List Nat → List Nat
  | [] => []
  | x :: l => if x = 0 then (match l with | [] => [0] | _ :: m => 0 :: unesc m) else x :: unesc l
theorem unesc_esc (l : List Nat) : unesc (esc l) = l := by
  induction l with
  | nil => rfl
  | cons x l ih =>
    by_cases h : x = 0
    · simp only [esc, h, if_true]
      rw [unesc]
      simp [ih]
    · simp only [esc, h, if_false]
      rw [unesc.eq_def]
      simp [h, ih]
theorem unesc_lt : ∀ (l : List Nat), (∀ x ∈ l, x < 256) → ∀ x ∈ unesc l, x < 256
  | [], _, x, hx => by cases hx
  | y :: l, h, x, hx => by
    unfold unesc at hx
    split at hx
    · split at hx
      · simp at hx; omega
      · rename_i z m
        simp only [List.mem_cons] at hx
        rcases hx with rfl | hx
        · decide
        · exact unesc_lt m (fun u hu => h u (by simp [hu])) x hx
    · simp only [List.mem_cons] at hx
      rcases hx with rfl | hx
      · exact h x (List.mem_cons_self ..)
      · exact unesc_lt l (fun u hu => h u (List.mem_cons_of_mem _ hu)) x hx
theorem unesc_le : ∀ (l : List Nat), (unesc l).length ≤ l.length
  | [] => Nat.le_refl _
  | y :: l => by
    unfold unesc
    split
    · split
      · simp
      · rename_i z m
        have := unesc_le m
        simp; omega
    · have := unesc_le l
      simp; omega
/-- how many bytes a text has, with its end -/
def tlen : List Nat → Nat
  | [] => 1
  | x :: l => if x = 0 then (match l with | [] => 1 | y :: m => if y = 255 then tlen m + 2 else 1) else tlen l + 1
/-- how many bytes the first value has -/
def vlen (b : List Nat) : Nat :=
  let c := b.headD 0
  if 1 ≤ c ∧ c ≤ 3 then 1 else if 23 ≤ c ∧ c ≤ 31 then 32 - c else if 32 ≤ c ∧ c ≤ 40 then c - 31 else if c = 48 then 9 else if c = 56 then 17 else if c = 64 then 1 + tlen b.tail else 0
/-- an int of its bits -/
def sint (x : Nat) : Int := if x < 9223372036854775808 then (x : Int) else (x : Int) - 18446744073709551616
/-- the value of whole bytes -/
def vget (b : List Nat) : VV :=
  let c := b.headD 0
  if c = 1 then VV.zero
  else if c ≤ 3 then { VV.zero with kind := 1, bool := decide (c = 3) }
  else if c ≤ 40 then { VV.zero with kind := 2, int := sint (if c < 32 then 18446744073709551616 - 256 ^ b.tail.length + be b.tail else be b.tail) }
  else if c = 48 then { VV.zero with kind := 3, real := unrank (be b.tail) }
  else if c = 56 then { VV.zero with kind := 4, re := unrank (be (b.tail.take 8)), im := unrank (be (b.tail.drop 8)) }
  else { VV.zero with kind := 5, text := lt (unesc b.tail.dropLast) }
/-- what Decode answers of what is left -/
def decF : Nat → List Nat → List VV × Int
  | 0, _ => ([], 0)
  | f + 1, b =>
    if b = [] then ([], 0)
    else if vlen b = 0 then ([], 5)
    else if b.length < vlen b then ([], 2)
    else if (vget (b.take (vlen b))).bytes ≠ b.take (vlen b) then ([], 5)
    else if (decF f (b.drop (vlen b))).2 ≠ 0 then ([], (decF f (b.drop (vlen b))).2)
    else (vget (b.take (vlen b)) :: (decF f (b.drop (vlen b))).1, 0)
def decR (b : List Nat) : List VV × Int := if 4096 < b.length then ([], 4) else decF b.length b
end Go.Proofs.Ytoachodngjlpaaa
