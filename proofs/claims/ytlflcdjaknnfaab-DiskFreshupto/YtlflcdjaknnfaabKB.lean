import Derived.Test.YtlflcdjaknnfaabKA
namespace Go.Proofs.Ytlflcdjaknnfaab
open Go.RowKit

/-- a block of zeros -/
def zb : List Nat := List.replicate 512 0
theorem zb_len : zb.length = 512 := by unfold zb; rw [List.length_replicate]
theorem zb_lt : ∀ x ∈ zb, x < 256 := by intro x hx; rw [(List.mem_replicate.1 hx).2]; decide
/-- a block's bytes -/
def Blk (b : List Nat) : Prop := b.length = 512 ∧ ∀ x ∈ b, x < 256
theorem Blk.zero : Blk zb := ⟨zb_len, zb_lt⟩
/-- the writes that were not synced -/
abbrev Uns := List (Nat × List Nat)
/-- what a block shows, l being what lasts there -/
def shows (U : Uns) (l : List Nat) (i : Nat) : List Nat := U.foldl (fun acc u => if u.1 = i then u.2 else acc) l
theorem shows_nil (l : List Nat) (i : Nat) : shows [] l i = l := rfl
theorem shows_snoc (U : Uns) (u : Nat × List Nat) (l : List Nat) (i : Nat) : shows (U ++ [u]) l i = if u.1 = i then u.2 else shows U l i := by
  unfold shows
  rw [List.foldl_append]
  rfl
theorem shows_append (U V : Uns) (l : List Nat) (i : Nat) : shows (U ++ V) l i = shows V (shows U l i) i := by
  unfold shows
  rw [List.foldl_append]
theorem shows_none (U : Uns) (l : List Nat) (i : Nat) (h : ∀ u ∈ U, u.1 ≠ i) : shows U l i = l := by
  induction U generalizing l with
  | nil => rfl
  | cons u U ih =>
    show shows U (if u.1 = i then u.2 else l) i = l
    rw [if_neg (h u (by simp))]
    exact ih l fun u hu => h u (by simp [hu])
theorem shows_at (U : Uns) (l : List Nat) (i j : Nat) (u : Nat × List Nat) (hj : U[j]? = some u) (hu : u.1 = i) (h : ∀ j' u', j < j' → U[j']? = some u' → u'.1 ≠ i) : shows U l i = u.2 := by
  have e : U = U.take j ++ ([u] ++ U.drop (j + 1)) := by
    obtain ⟨h1, h2⟩ := List.getElem?_eq_some_iff.1 hj
    rw [← h2, List.singleton_append, List.getElem_cons_drop, List.take_append_drop]
  rw [e, shows_append, shows_append]
  have : shows [u] (shows (U.take j) l i) i = u.2 := by
    show (if u.1 = i then u.2 else _) = _
    rw [if_pos hu]
  rw [this]
  refine shows_none _ _ _ fun v hv => ?_
  obtain ⟨m, hm⟩ := List.getElem?_of_mem hv
  rw [List.getElem?_drop] at hm
  exact h (j + 1 + m) v (by omega) hm
theorem shows_blk {U : Uns} {l : List Nat} {i : Nat} (hl : Blk l) (hU : ∀ u ∈ U, Blk u.2) : Blk (shows U l i) := by
  induction U generalizing l with
  | nil => exact hl
  | cons u U ih =>
    show Blk (shows U (if u.1 = i then u.2 else l) i)
    refine ih ?_ fun v hv => hU v (by simp [hv])
    split
    · exact hU u (by simp)
    · exact hl
/-- the writes that are kept -/
def kept : Uns → List Bool → Uns
  | u :: U, b :: B => if b then u :: kept U B else kept U B
  | _, _ => []
theorem kept_nil (U : Uns) : kept U [] = [] := by cases U <;> rfl
theorem kept_mem {U : Uns} {K : List Bool} : ∀ u ∈ kept U K, u ∈ U := by
  induction U generalizing K with
  | nil => intro u hu; cases K <;> simp [kept] at hu
  | cons v U ih =>
    intro u hu
    cases K with
    | nil => simp [kept] at hu
    | cons b B =>
      cases b with
      | true =>
        simp only [kept, if_true, List.mem_cons] at hu ⊢
        rcases hu with h | h
        · exact .inl h
        · exact .inr (ih u h)
      | false =>
        simp only [kept, Bool.false_eq_true, if_false] at hu
        exact List.mem_cons_of_mem _ (ih u hu)
theorem kept_take (U : Uns) (K : List Bool) (j : Nat) (u : Nat × List Nat) (hj : U[j]? = some u) : kept (U.take (j + 1)) K = kept (U.take j) K ++ (if K.getD j false then [u] else []) := by
  induction U generalizing K j with
  | nil => simp at hj
  | cons v U ih =>
    cases K with
    | nil => simp [kept_nil]
    | cons b B =>
      cases j with
      | zero =>
        simp only [List.getElem?_cons_zero, Option.some.injEq] at hj
        subst hj
        cases b <;> simp [kept]
      | succ j =>
        simp only [List.getElem?_cons_succ] at hj
        have := ih B j hj
        simp only [List.take_succ_cons, kept, List.getD_cons_succ]
        cases b
        · simpa using this
        · simp [this]
theorem kept_over (U : Uns) (K : List Bool) (j : Nat) (hj : K.length ≤ j) : kept (U.take j) K = kept U K := by
  induction U generalizing K j with
  | nil => simp
  | cons v U ih =>
    cases K with
    | nil => simp [kept_nil]
    | cons b B =>
      cases j with
      | zero => simp at hj
      | succ j =>
        simp only [List.length_cons, Nat.add_le_add_iff_right] at hj
        simp only [List.take_succ_cons, kept, ih B j hj]

/-- a disk -/
structure Sd where
  n : Nat
  last : Nat → List Nat
  uns : Uns
  pow : Bool
  alm : Int
  wr : Nat
  sy : Nat
structure Sd.ok (S : Sd) : Prop where
  n0 : 8 ≤ S.n
  n1 : S.n ≤ 65536
  last : ∀ i, Blk (S.last i)
  uns : ∀ u ∈ S.uns, u.1 < S.n ∧ Blk u.2
  a0 : -1 ≤ S.alm
  a1 : S.alm ≤ 9223372036854775807
  w1 : S.wr ≤ 4611686018427387904
  s1 : S.sy ≤ 4611686018427387904
  u1 : S.uns.length ≤ 268435456
/-- the bytes that last -/
def imgF (n : Nat) (f : Nat → List Nat) : List Nat := (List.range n).flatMap f
def Sd.img (S : Sd) : List Nat := imgF S.n S.last
theorem imgF_succ (n : Nat) (f : Nat → List Nat) : imgF (n + 1) f = imgF n f ++ f n := by
  unfold imgF
  rw [List.range_succ, List.flatMap_append]
  simp
theorem imgF_len {n : Nat} {f : Nat → List Nat} (h : ∀ i, i < n → (f i).length = 512) : (imgF n f).length = n * 512 := by
  induction n with
  | zero => rfl
  | succ n ih =>
    rw [imgF_succ, List.length_append, ih fun i hi => h i (by omega), h n (by omega)]
    omega
theorem imgF_get {n : Nat} {f : Nat → List Nat} (h : ∀ i, i < n → (f i).length = 512) {i k : Nat} (hi : i < n) (hk : k < 512) : (imgF n f).getD (i * 512 + k) 0 = (f i).getD k 0 := by
  induction n with
  | zero => omega
  | succ n ih =>
    have hl := imgF_len (n := n) (f := f) fun i hi => h i (by omega)
    rw [imgF_succ]
    simp only [List.getD_eq_getElem?_getD]
    by_cases e : i = n
    · subst e
      rw [List.getElem?_append_right (by omega), hl]
      congr 2
      omega
    · rw [List.getElem?_append_left (by omega)]
      simpa only [List.getD_eq_getElem?_getD] using ih (fun i hi => h i (by omega)) (by omega)
theorem imgF_congr {n : Nat} {f g : Nat → List Nat} (h : ∀ i, i < n → f i = g i) : imgF n f = imgF n g := by
  induction n with
  | zero => rfl
  | succ n ih => rw [imgF_succ, imgF_succ, ih fun i hi => h i (by omega), h n (by omega)]
theorem imgF_mem {n : Nat} {f : Nat → List Nat} (h : ∀ i, i < n → ∀ x ∈ f i, x < 256) : ∀ x ∈ imgF n f, x < 256 := by
  intro x hx
  unfold imgF at hx
  obtain ⟨i, hi, hx⟩ := List.mem_flatMap.1 hx
  exact h i (List.mem_range.1 hi) x hx
/-- a list is that of its blocks -/
theorem imgF_cut {l : List Nat} {n : Nat} (h : l.length = n * 512) : imgF n (fun i => (l.drop (i * 512)).take 512) = l := by
  have hb : ∀ m, m ≤ n → imgF m (fun i => (l.drop (i * 512)).take 512) = l.take (m * 512) := by
    intro m hm
    induction m with
    | zero => simp [imgF]
    | succ m ih =>
      rw [imgF_succ, ih (by omega)]
      show l.take (m * 512) ++ (l.drop (m * 512)).take 512 = _
      rw [← List.take_add, Nat.succ_mul]
  rw [hb n (Nat.le_refl _), ← h, List.take_length]
theorem ext_get {a b : List Nat} (hl : a.length = b.length) (h : ∀ i, i < a.length → a.getD i 0 = b.getD i 0) : a = b := by
  apply List.ext_getElem hl
  intro i h1 h2
  have := h i h1
  simpa [List.getD_eq_getElem?_getD, h1, h2] using this
/-- a list of whole blocks is told by what is where -/
theorem img_ext {n : Nat} {f : Nat → List Nat} (hf : ∀ i, i < n → (f i).length = 512) {l : List Nat} (hl : l.length = n * 512) (h : ∀ i k, i < n → k < 512 → l.getD (i * 512 + k) 0 = (f i).getD k 0) : l = imgF n f := by
  refine ext_get (by rw [hl, imgF_len hf]) fun m hm => ?_
  have e : m = m / 512 * 512 + m % 512 := by omega
  rw [e, h _ _ (by omega) (by omega), imgF_get hf (by omega) (by omega)]

def Sd.lay (S : Sd) (i : Nat) (b : List Nat) : Sd := { S with last := fun x => if x = i then b else S.last x }
/-- all of these writes last -/
def Sd.lays (S : Sd) (U : Uns) : Sd := { S with last := fun i => shows U (S.last i) i }
theorem Sd.lays_nil (S : Sd) : S.lays [] = S := rfl
theorem Sd.lays_snoc (S : Sd) (U : Uns) (u : Nat × List Nat) : S.lays (U ++ [u]) = (S.lays U).lay u.1 u.2 := by
  unfold Sd.lays Sd.lay
  congr 1
  funext i
  simp only [shows_snoc]
  by_cases h : u.1 = i
  · rw [if_pos h, if_pos h.symm]
  · rw [if_neg h, if_neg (fun e => h e.symm)]
theorem Sd.ok.lay {S : Sd} (h : S.ok) {i : Nat} {b : List Nat} (hb : Blk b) : (S.lay i b).ok := by
  refine { h with last := fun x => ?_, uns := h.uns }
  show Blk (if x = i then b else S.last x)
  split
  · exact hb
  · exact h.last x
theorem Sd.ok.lays {S : Sd} (h : S.ok) {U : Uns} (hU : ∀ u ∈ U, Blk u.2) : (S.lays U).ok :=
  { h with last := fun x => shows_blk (h.last x) hU, uns := h.uns }
/-- without power, without an alarm -/
def Sd.off (S : Sd) : Sd := { S with pow := false, alm := -1 }
theorem Sd.ok.off {S : Sd} (h : S.ok) : S.off.ok := { h with a0 := by show (-1 : Int) ≤ -1; decide, a1 := by show (-1 : Int) ≤ 9223372036854775807; decide, uns := h.uns }
/-- is an act done? and what it leaves of the disk -/
def Sd.acts (S : Sd) : Bool := decide (S.alm ≠ 0)
def Sd.act (S : Sd) : Sd := if S.alm = 0 then S.off else if S.alm = -1 then S else { S with alm := S.alm - 1 }
theorem Sd.ok.act {S : Sd} (h : S.ok) : S.act.ok := by
  unfold Sd.act
  split
  · exact h.off
  · split
    · exact h
    · refine { h with a0 := ?_, a1 := ?_, uns := h.uns }
      · show -1 ≤ S.alm - 1
        have := h.a0; omega
      · show S.alm - 1 ≤ _
        have := h.a1; omega
def Sd.forget (S : Sd) : Sd := { S with uns := [] }
theorem Sd.ok.forget {S : Sd} (h : S.ok) : S.forget.ok := { h with uns := by simp [Sd.forget], u1 := by simp [Sd.forget] }
def Sd.has (S : Sd) (i : Int) : Bool := decide (0 ≤ i) && decide (i < S.n)
/-- what Write answers -/
def Sd.writeE (S : Sd) (i : Int) (b : List Nat) : Nat := if S.pow = false then 17 else if S.has i = false then 16 else if b.length ≠ 512 then 1 else if S.acts = false then 17 else 0
def Sd.wrote (S : Sd) (i : Nat) (b : List Nat) : Sd := { S with uns := S.uns ++ [(i, b)], wr := S.wr + 1 }
def Sd.write (S : Sd) (i : Int) (b : List Nat) : Sd := if S.pow = false then S else if S.has i = false then S else if b.length ≠ 512 then S else if S.acts = false then S.act else S.act.wrote i.toNat b
def Sd.syncE (S : Sd) : Nat := if S.pow = false then 17 else if S.acts = false then 17 else 0
def Sd.synced (S : Sd) : Sd := { (S.lays S.uns).forget with sy := S.sy + 1 }
def Sd.sync (S : Sd) : Sd := if S.pow = false then S else if S.acts = false then S.act else S.act.synced
def Sd.arm (S : Sd) (a : Int) : Sd := if S.pow = false then S else { S with alm := max a (-1) }
def Sd.on (S : Sd) (K : List Bool) : Sd := if S.pow then S else { (S.lays (kept S.uns K)).forget with pow := true }
/-- what Read answers -/
def Sd.readE (S : Sd) (i : Int) : Nat := if S.pow = false then 17 else if S.has i = false then 16 else 0
def Sd.show (S : Sd) (i : Nat) : List Nat := shows S.uns (S.last i) i
def Sd.read (S : Sd) (i : Int) : List Nat := if S.pow = false then [] else if S.has i = false then [] else S.show i.toNat
theorem Sd.ok.show {S : Sd} (h : S.ok) (i : Nat) : Blk (S.show i) := shows_blk (h.last i) fun u hu => (h.uns u hu).2
def Sd.layE (S : Sd) (i : Int) (b : List Nat) : Bool := !S.pow && S.has i && decide (b.length = 512)
def Sd.layd (S : Sd) (i : Int) (b : List Nat) : Sd := if S.layE i b then S.lay i.toNat b else S
theorem Sd.has_iff {S : Sd} {i : Int} : S.has i = true ↔ 0 ≤ i ∧ i < S.n := by unfold Sd.has; simp
theorem Sd.act_n (S : Sd) : S.act.n = S.n := by
  unfold Sd.act
  split
  · rfl
  · split <;> rfl
theorem Sd.act_uns (S : Sd) : S.act.uns = S.uns := by
  unfold Sd.act
  split
  · rfl
  · split <;> rfl
theorem Sd.act_last (S : Sd) : S.act.last = S.last := by
  unfold Sd.act
  split
  · rfl
  · split <;> rfl
theorem Sd.act_wr (S : Sd) : S.act.wr = S.wr := by
  unfold Sd.act
  split
  · rfl
  · split <;> rfl
theorem Sd.act_sy (S : Sd) : S.act.sy = S.sy := by
  unfold Sd.act
  split
  · rfl
  · split <;> rfl
theorem Sd.act_pow (S : Sd) (h : S.acts = true) : S.act.pow = S.pow := by
  unfold Sd.acts at h
  unfold Sd.act
  rw [if_neg (by simpa using h)]
  split <;> rfl
/-- so much room is left for counts -/
def Sd.room (S : Sd) (m : Nat) : Prop := S.wr ≤ m ∧ S.sy ≤ m ∧ S.uns.length ≤ m
theorem Sd.ok.wrote {S : Sd} (h : S.ok) {i : Nat} {b : List Nat} (hi : i < S.n) (hb : Blk b) (hw : S.wr + 1 ≤ 4611686018427387904) (hu : S.uns.length + 1 ≤ 268435456) : (S.wrote i b).ok := by
  refine { h with uns := fun u hu => ?_, w1 := hw, u1 := ?_ }
  · rcases List.mem_append.1 hu with h1 | h1
    · exact h.uns u h1
    · simp only [List.mem_singleton] at h1
      subst h1
      exact ⟨hi, hb⟩
  · show (S.uns ++ [(i, b)]).length ≤ _
    simpa using hu
theorem Sd.ok.synced {S : Sd} (h : S.ok) (hs : S.sy + 1 ≤ 4611686018427387904) : S.synced.ok :=
  { (h.lays fun u hu => (h.uns u hu).2).forget with s1 := hs, uns := by intro u hu; cases hu }
theorem Sd.ok.arm {S : Sd} (h : S.ok) {a : Int} (ha : a ≤ 9223372036854775807) : (S.arm a).ok := by
  unfold Sd.arm
  split
  · exact h
  · refine { h with a0 := ?_, a1 := ?_, uns := h.uns }
    · show -1 ≤ max a (-1); omega
    · show max a (-1) ≤ _; omega
theorem Sd.ok.on {S : Sd} (h : S.ok) {K : List Bool} : (S.on K).ok := by
  unfold Sd.on
  split
  · exact h
  · exact { (h.lays (U := kept S.uns K) fun u hu => (h.uns u (kept_mem u hu)).2).forget with uns := by intro u hu; cases hu }
theorem Sd.ok.layd {S : Sd} (h : S.ok) {i : Int} {b : List Nat} (hb : ∀ x ∈ b, x < 256) : (S.layd i b).ok := by
  unfold Sd.layd
  split
  · rename_i hl
    unfold Sd.layE at hl
    simp only [Bool.and_eq_true, decide_eq_true_eq] at hl
    exact h.lay ⟨hl.2, hb⟩
  · exact h
end Go.Proofs.Ytlflcdjaknnfaab
