import Derived.Test.YtoachodngjlpaaaZA
import Derived.Test.YtoachodngjlpaaaPN
import Derived.Test.YtoachodngjlpaaaPSX
namespace Go.Proofs.Ytoachodngjlpaaa

/-- an item of a page -/
structure It where
  key : List Nat
  val : List Nat
  child : Int
  size : Int
/-- a page -/
structure Pg where
  kind : Int
  level : Int
  items : List It
  data : List Nat
  next : Int
def It.zero : It := ⟨[], [], 0, 0⟩
def Pg.zero : Pg := ⟨0, 0, [], [], 0⟩
def isNum (n : Int) : Bool := decide (1 ≤ n) && decide (n ≤ 65536)
def isGen (g : Int) : Bool := decide (0 ≤ g) && decide (g ≤ 1099511627776)
theorem isNum_iff {n : Int} : isNum n = true ↔ 1 ≤ n ∧ n ≤ 65536 := by unfold isNum; simp
theorem isGen_iff {n : Int} : isGen n = true ↔ 0 ≤ n ∧ n ≤ 1099511627776 := by unfold isGen; simp

/-- what a page of its kind has at all -/
def Pg.form (p : Pg) : Bool :=
  if p.kind = 3 then decide (p.level = 0) && decide (p.items.length = 0) && decide (1 ≤ p.data.length) && decide (p.data.length ≤ 480)
  else decide (p.data.length = 0) && decide (p.next = 0) && decide (p.items.length ≤ 8) && (if p.kind = 1 then decide (p.level = 0) && decide (1 ≤ p.items.length) else decide (1 ≤ p.level) && decide (p.level ≤ 11) && decide (2 ≤ p.items.length))
def Pg.at (p : Pg) (i : Nat) : It := p.items.getD i It.zero
def Pg.keyOk (p : Pg) (i : Nat) : Bool := if p.kind = 2 ∧ i = 0 then decide ((p.at i).key.length = 0) else decide (1 ≤ (p.at i).key.length) && decide ((p.at i).key.length ≤ 24)
def It.valOk (kind : Int) (x : It) : Bool := if kind = 2 then decide (x.val.length = 0) && decide (x.size = 0) else if x.size < 0 ∨ 3840 < x.size then false else if x.size ≤ 32 then decide ((x.val.length : Int) = x.size) else decide (x.val.length = 0)
def It.kidOk (kind : Int) (x : It) : Bool := if kind = 1 ∧ x.size ≤ 32 then decide (x.child = 0) else isNum x.child
def Pg.ordOk (p : Pg) (i : Nat) : Bool := decide (i = 0) || decide (0 < cmpB (p.at i).key (p.at (i - 1)).key)
/-- what is wrong with an item -/
def Pg.itemE (p : Pg) (i : Nat) : Nat := if p.keyOk i = false then 7 else if p.ordOk i = false then 11 else if (p.at i).valOk p.kind = false then 8 else if (p.at i).kidOk p.kind = false then 15 else 0
/-- the first that is wrong -/
def firstE (f : Nat → Nat) : Nat → Nat
  | 0 => 0
  | n + 1 => if firstE f n ≠ 0 then firstE f n else f n
theorem firstE_zero {f : Nat → Nat} : ∀ {n}, firstE f n = 0 → ∀ i, i < n → f i = 0
  | 0, _, i, hi => absurd hi (Nat.not_lt_zero _)
  | n + 1, h, i, hi => by
    unfold firstE at h
    split at h
    · exact absurd h ‹_›
    · rename_i h0
      by_cases e : i = n
      · rw [e]; exact h
      · exact firstE_zero (n := n) (by simpa using h0) i (by omega)
theorem firstE_of {f : Nat → Nat} : ∀ {n}, (∀ i, i < n → f i = 0) → firstE f n = 0
  | 0, _ => rfl
  | n + 1, h => by
    have := firstE_of (n := n) fun i hi => h i (by omega)
    unfold firstE
    rw [this]
    exact h n (by omega)
theorem firstE_stop {f : Nat → Nat} {k : Nat} (h : firstE f k = 0) (hk : f k ≠ 0) : ∀ n, k < n → firstE f n = f k
  | 0, hn => absurd hn (Nat.not_lt_zero _)
  | n + 1, hn => by
    unfold firstE
    by_cases e : k = n
    · subst e; rw [h]; rfl
    · rw [firstE_stop h hk n (by omega), if_pos hk]
def Pg.kindOk (p : Pg) : Bool := decide (p.kind = 1) || decide (p.kind = 2) || decide (p.kind = 3)
theorem Pg.kindOk_iff {p : Pg} : p.kindOk = true ↔ p.kind = 1 ∨ p.kind = 2 ∨ p.kind = 3 := by unfold Pg.kindOk; simp [or_assoc]
def Pg.nextOk (p : Pg) : Bool := !(decide (p.kind = 3) && decide (p.next ≠ 0) && !isNum p.next)
/-- what is wrong with a page -/
def Pg.check (p : Pg) : Nat := if p.kindOk = false then 22 else if p.form = false then 5 else if firstE p.itemE p.items.length ≠ 0 then firstE p.itemE p.items.length else if p.nextOk = false then 15 else 0

structure Sound (p : Pg) : Prop where
  k : p.kindOk = true
  f : p.form = true
  i : ∀ i, i < p.items.length → p.itemE i = 0
  n : p.nextOk = true
theorem Pg.check_zero {p : Pg} : p.check = 0 ↔ Sound p := by
  unfold Pg.check
  constructor
  · intro h
    split at h
    · cases h
    split at h
    · cases h
    split at h
    · rename_i h1; exact absurd h h1
    split at h
    · cases h
    · rename_i h1 h2 h3 h4
      exact ⟨by simpa using h1, by simpa using h2, firstE_zero (by simpa using h3), by simpa using h4⟩
  · intro h
    rw [if_neg (by rw [h.k]; simp), if_neg (by rw [h.f]; simp), firstE_of h.i, if_neg (by simp), if_neg (by rw [h.n]; simp)]
theorem itemE_zero {p : Pg} {i : Nat} : p.itemE i = 0 ↔ p.keyOk i = true ∧ p.ordOk i = true ∧ (p.at i).valOk p.kind = true ∧ (p.at i).kidOk p.kind = true := by
  unfold Pg.itemE
  cases p.keyOk i <;> cases p.ordOk i <;> cases (p.at i).valOk p.kind <;> cases (p.at i).kidOk p.kind <;> simp
theorem at_mem {p : Pg} {i : Nat} (h : i < p.items.length) : p.at i ∈ p.items := by
  unfold Pg.at; simp [h]
theorem mem_at {p : Pg} {x : It} (h : x ∈ p.items) : ∃ i, i < p.items.length ∧ p.at i = x := by
  obtain ⟨i, hi, e⟩ := List.mem_iff_getElem.1 h
  exact ⟨i, hi, by unfold Pg.at; simp [hi, e]⟩

/-- what a sound page's item has -/
structure Fits (kind : Int) (x : It) : Prop where
  key : x.key.length ≤ 24
  leaf : kind = 1 → 0 ≤ x.size ∧ x.size ≤ 3840 ∧ (x.size ≤ 32 → (x.val.length : Int) = x.size ∧ x.child = 0) ∧ (32 < x.size → x.val = [] ∧ 1 ≤ x.child ∧ x.child ≤ 65536)
  index : kind = 2 → x.val = [] ∧ x.size = 0 ∧ 1 ≤ x.child ∧ x.child ≤ 65536
theorem Sound.fits {p : Pg} (h : Sound p) {x : It} (hx : x ∈ p.items) : Fits p.kind x := by
  obtain ⟨i, hi, rfl⟩ := mem_at hx
  obtain ⟨h1, _, h3, h4⟩ := itemE_zero.1 (h.i i hi)
  refine ⟨?_, ?_, ?_⟩
  · unfold Pg.keyOk at h1
    split at h1
    · simp at h1
      rw [h1]; simp
    · simp at h1
      exact h1.2
  · intro hk1
    unfold It.valOk at h3
    unfold It.kidOk at h4
    rw [if_neg (by omega)] at h3
    split at h3
    · cases h3
    · rename_i hs
      refine ⟨by omega, by omega, fun h32 => ?_, fun h32 => ?_⟩
      · rw [if_pos h32] at h3
        rw [if_pos ⟨hk1, h32⟩] at h4
        simp at h3 h4
        exact ⟨h3, h4⟩
      · rw [if_neg (by omega)] at h3
        rw [if_neg (by omega)] at h4
        simp at h3
        have := isNum_iff.1 h4
        exact ⟨h3, this⟩
  · intro hk2
    unfold It.valOk at h3
    unfold It.kidOk at h4
    rw [if_pos hk2] at h3
    rw [if_neg (by omega)] at h4
    simp at h3
    exact ⟨h3.1, h3.2, isNum_iff.1 h4⟩
theorem Sound.blob {p : Pg} (h : Sound p) (hk : p.kind = 3) : p.level = 0 ∧ p.items = [] ∧ 1 ≤ p.data.length ∧ p.data.length ≤ 480 ∧ 0 ≤ p.next ∧ p.next ≤ 65536 := by
  have hf := h.f
  have hn := h.n
  unfold Pg.form at hf
  unfold Pg.nextOk at hn
  rw [if_pos hk] at hf
  simp at hf
  simp [hk] at hn
  obtain ⟨⟨⟨h1, h2⟩, h3⟩, h4⟩ := hf
  refine ⟨h1, h2, h3, h4, ?_⟩
  by_cases h0 : p.next = 0
  · omega
  · have := isNum_iff.1 (hn.resolve_left h0); omega
theorem Sound.node {p : Pg} (h : Sound p) (hk : p.kind = 1 ∨ p.kind = 2) : p.data = [] ∧ p.next = 0 ∧ p.items.length ≤ 8 ∧ 0 ≤ p.level ∧ p.level ≤ 11 := by
  have hf := h.f
  unfold Pg.form at hf
  rw [if_neg (by omega)] at hf
  simp at hf
  obtain ⟨⟨⟨h1, h2⟩, h3⟩, h4⟩ := hf
  refine ⟨h1, h2, h3, ?_⟩
  split at h4
  · have : p.level = 0 := by grind
    omega
  · have : 1 ≤ p.level ∧ p.level ≤ 11 := by grind
    omega

/-- the bytes of an item -/
def It.bytes (kind : Int) (x : It) : List Nat := numB x.key.length 1 ++ x.key ++ (if kind = 1 then numB x.size.toNat 2 ++ (if x.size ≤ 32 then x.val else numB x.child.toNat 4) else numB x.child.toNat 4)
def Pg.tail (p : Pg) : List Nat := if p.kind = 3 then numB p.data.length 2 ++ numB p.next.toNat 4 ++ p.data else numB p.items.length 1 ++ p.items.flatMap (It.bytes p.kind)
def body (no gen : Int) (p : Pg) : List Nat := numB p.kind.toNat 1 ++ numB p.level.toNat 1 ++ numB no.toNat 4 ++ numB gen.toNat 8 ++ p.tail
def padded (b : List Nat) : List Nat := b ++ List.replicate (508 - b.length) 0
def summed (b : List Nat) : List Nat := padded b ++ numB (M.of (padded b)) 4
def blk (no gen : Int) (p : Pg) : List Nat := summed (body no gen p)

theorem It.bytes_le {kind : Int} {x : It} (h : Fits kind x) (hk : kind = 1 ∨ kind = 2) : (It.bytes kind x).length ≤ 59 := by
  have hl := h.key
  unfold It.bytes
  rcases hk with hk | hk
  · obtain ⟨h1, h2, h3, h4⟩ := h.leaf hk
    rw [if_pos hk]
    by_cases h32 : x.size ≤ 32
    · have := h3 h32
      simp only [List.length_append, numB_length, if_pos h32]; omega
    · simp only [List.length_append, numB_length, if_neg h32]; omega
  · rw [if_neg (by omega)]
    simp only [List.length_append, numB_length]; omega
theorem flat_le {kind : Int} (hk : kind = 1 ∨ kind = 2) : ∀ (L : List It), (∀ x ∈ L, Fits kind x) → (L.flatMap (It.bytes kind)).length ≤ 59 * L.length
  | [], _ => by simp
  | x :: r, h => by
    have h1 := It.bytes_le (h x (by simp)) hk
    have h2 := flat_le hk r fun y hy => h y (by simp [hy])
    rw [List.flatMap_cons, List.length_append, List.length_cons]
    omega
theorem Sound.tail_le {p : Pg} (h : Sound p) : p.tail.length ≤ 486 := by
  unfold Pg.tail
  rcases Pg.kindOk_iff.1 h.k with hk | hk | hk
  · rw [if_neg (by omega), List.length_append, numB_length]
    have := flat_le (.inl hk) p.items fun x hx => h.fits hx
    have := (h.node (.inl hk)).2.2.1
    omega
  · rw [if_neg (by omega), List.length_append, numB_length]
    have := flat_le (.inr hk) p.items fun x hx => h.fits hx
    have := (h.node (.inr hk)).2.2.1
    omega
  · rw [if_pos hk, List.length_append, List.length_append, numB_length, numB_length]
    have := (h.blob hk).2.2.2.1
    omega
theorem body_length (no gen : Int) (p : Pg) : (body no gen p).length = 14 + p.tail.length := by
  unfold body; simp only [List.length_append, numB_length]
theorem Sound.body_le {p : Pg} (h : Sound p) (no gen : Int) : (body no gen p).length ≤ 500 := by
  rw [body_length]; have := h.tail_le; omega
theorem padded_length {b : List Nat} (h : b.length ≤ 508) : (padded b).length = 508 := by
  unfold padded; rw [List.length_append, List.length_replicate]; omega
theorem summed_length {b : List Nat} (h : b.length ≤ 508) : (summed b).length = 512 := by
  unfold summed; rw [List.length_append, padded_length h, numB_length]
theorem Sound.blk_length {p : Pg} (h : Sound p) (no gen : Int) : (blk no gen p).length = 512 := summed_length (by have := h.body_le no gen; omega)

/-! bytes -/
def It.b8 (x : It) : Prop := B8 x.key ∧ B8 x.val
def Pg.b8 (p : Pg) : Prop := (∀ x ∈ p.items, x.b8) ∧ B8 p.data
theorem numB_b8 (x k : Nat) : B8 (numB x k) := numB_lt x k
theorem It.bytes_b8 {kind : Int} {x : It} (h : x.b8) : B8 (It.bytes kind x) := by
  unfold It.bytes
  refine B8.app.2 ⟨B8.app.2 ⟨numB_b8 _ _, h.1⟩, ?_⟩
  split
  · refine B8.app.2 ⟨numB_b8 _ _, ?_⟩
    split
    · exact h.2
    · exact numB_b8 _ _
  · exact numB_b8 _ _
theorem Pg.tail_b8 {p : Pg} (h : p.b8) : B8 p.tail := by
  unfold Pg.tail
  split
  · exact B8.app.2 ⟨B8.app.2 ⟨numB_b8 _ _, numB_b8 _ _⟩, h.2⟩
  · refine B8.app.2 ⟨numB_b8 _ _, fun y hy => ?_⟩
    obtain ⟨x, hx, hy⟩ := List.mem_flatMap.1 hy
    exact It.bytes_b8 (h.1 x hx) y hy
theorem body_b8 {p : Pg} (h : p.b8) (no gen : Int) : B8 (body no gen p) := by
  unfold body
  exact B8.app.2 ⟨B8.app.2 ⟨B8.app.2 ⟨B8.app.2 ⟨numB_b8 _ _, numB_b8 _ _⟩, numB_b8 _ _⟩, numB_b8 _ _⟩, Pg.tail_b8 h⟩
theorem padded_b8 {b : List Nat} (h : B8 b) : B8 (padded b) := B8.app.2 ⟨h, fun x hx => by rw [(List.mem_replicate.1 hx).2]; decide⟩
theorem summed_b8 {b : List Nat} (h : B8 b) : B8 (summed b) := B8.app.2 ⟨padded_b8 h, numB_b8 _ _⟩

/-! what a page leads to -/
def Pg.kids (p : Pg) : List Int := if p.kind = 2 then p.items.map It.child else if p.kind = 1 then (p.items.map It.child).filter (fun c => decide (c ≠ 0)) else if p.kind = 3 ∧ p.next ≠ 0 then [p.next] else []
end Go.Proofs.Ytoachodngjlpaaa

namespace Go.Proofs.Ytoachodngjlpaaa

/-! ### numbers there and back -/
theorem numV_numB : ∀ (k x : Nat), x < 256 ^ k → numV (numB x k) = x
  | 0, x, h => by simp at h; subst h; rfl
  | k + 1, x, h => by
    have h1 : x / 256 < 256 ^ k := by rw [Nat.pow_succ] at h; exact Nat.div_lt_of_lt_mul (by omega)
    simp only [numB, numV, numV_numB k (x / 256) h1]
    omega
theorem numB_numV : ∀ (l : List Nat), B8 l → numB (numV l) l.length = l
  | [], _ => rfl
  | x :: r, h => by
    have h1 := (B8.cons.1 h).1
    have ih := numB_numV r (B8.cons.1 h).2
    simp only [numV, List.length_cons, numB]
    rw [show (x + 256 * numV r) % 256 = x by omega, show (x + 256 * numV r) / 256 = numV r by omega, ih]

/-! ### a reader -/
def RS.get (s : RS) (k : Nat) : Nat × RS := if s.fail k ≠ 0 then (0, ⟨s.l, s.fail k⟩) else (numV (s.l.take k), ⟨s.l.drop k, 0⟩)
theorem RS.get_ok {s : RS} {k : Nat} (hb : B8 s.l) (h : (s.get k).2.e = 0) : s.e = 0 ∧ s.l = numB (s.get k).1 k ++ (s.get k).2.l := by
  unfold RS.get at *
  split at h
  · rename_i h0; exact absurd h h0
  · rename_i h0
    rw [if_neg h0]
    obtain ⟨h1, _, h3⟩ := RS.fail_zero (by simpa using h0)
    refine ⟨h1, ?_⟩
    have hl : (s.l.take k).length = k := by rw [List.length_take]; omega
    have := numB_numV (s.l.take k) (hb.take k)
    rw [hl] at this
    show s.l = numB (numV (s.l.take k)) k ++ s.l.drop k
    rw [this, List.take_append_drop]
theorem RS.get_lt {s : RS} {k : Nat} (hb : B8 s.l) : (s.get k).1 < 256 ^ k := by
  unfold RS.get
  split
  · exact Nat.pow_pos (by decide)
  · have h1 := numV_lt (s.l.take k) (hb.take k)
    refine Nat.lt_of_lt_of_le h1 (Nat.pow_le_pow_right (by decide) ?_)
    rw [List.length_take]; omega
theorem RS.get_b8 {s : RS} {k : Nat} (hb : B8 s.l) : B8 (s.get k).2.l := by
  unfold RS.get
  split
  · exact hb
  · exact fun x hx => hb x (List.mem_of_mem_drop hx)
theorem RS.get_of (r : List Nat) (v k : Nat) (hv : v < 256 ^ k) : (⟨numB v k ++ r, 0⟩ : RS).get k = (v, ⟨r, 0⟩) := by
  unfold RS.get
  have hf : (⟨numB v k ++ r, 0⟩ : RS).fail k = 0 := RS.fail_ok rfl (by omega) (by simp [numB_length]; omega)
  rw [if_neg (by rw [hf]; simp)]
  have h1 : (numB v k ++ r).take k = numB v k := by rw [List.take_append_of_le_length (by rw [numB_length]; omega), List.take_of_length_le (by rw [numB_length]; omega)]
  have h2 : (numB v k ++ r).drop k = r := by rw [List.drop_append_of_le_length (by rw [numB_length]; omega), List.drop_of_length_le (by rw [numB_length]; omega), List.nil_append]
  show (numV ((numB v k ++ r).take k), (⟨(numB v k ++ r).drop k, 0⟩ : RS)) = _
  rw [h1, h2, numV_numB k v hv]
theorem RS.raw_ok {s : RS} {n : Int} (h : (s.raw n).2.e = 0) : s.e = 0 ∧ 0 ≤ n ∧ ((s.raw n).1.length : Int) = n ∧ s.l = (s.raw n).1 ++ (s.raw n).2.l := by
  unfold RS.raw at *
  split at h
  · rename_i h0; exact absurd h h0
  · rename_i h0
    rw [if_neg h0]
    obtain ⟨h1, h2, h3⟩ := RS.fail_zero (by simpa using h0)
    refine ⟨h1, h2, ?_, ?_⟩
    · show ((s.l.take n.toNat).length : Int) = n
      rw [List.length_take]; omega
    · show s.l = s.l.take n.toNat ++ s.l.drop n.toNat
      rw [List.take_append_drop]
theorem RS.raw_b8 {s : RS} {n : Int} (hb : B8 s.l) : B8 (s.raw n).1 ∧ B8 (s.raw n).2.l := by
  unfold RS.raw
  split
  · exact ⟨B8.nil, hb⟩
  · exact ⟨hb.take _, fun x hx => hb x (List.mem_of_mem_drop hx)⟩
theorem RS.raw_of (v r : List Nat) (n : Int) (hn : n = v.length) : (⟨v ++ r, 0⟩ : RS).raw n = (v, ⟨r, 0⟩) := by
  subst hn
  unfold RS.raw
  have hf : (⟨v ++ r, 0⟩ : RS).fail (v.length : Int) = 0 := RS.fail_ok rfl (by omega) (by simp; omega)
  rw [if_neg (by rw [hf]; simp)]
  simp
theorem RS.short_ok {s : RS} {m : Int} (hb : B8 s.l) (h : (s.short m).2.e = 0) : s.e = 0 ∧ ((s.short m).1.length : Int) ≤ m ∧ s.l = numB (s.short m).1.length 1 ++ (s.short m).1 ++ (s.short m).2.l := by
  unfold RS.short at *
  split at h
  · rename_i h0; exact absurd h h0
  · rename_i h0
    rw [if_neg h0]
    have h0' : s.shortE m = 0 := by simpa using h0
    unfold RS.shortE at h0'
    split at h0'
    · rename_i h1; exact absurd h0' h1
    · split at h0'
      · cases h0'
      · rename_i h2 h3
        obtain ⟨h4, _, h5⟩ := RS.fail_zero h0'
        obtain ⟨l, e⟩ := s
        cases l with
        | nil => simp at h5
        | cons x r =>
          simp only [List.headD_cons, List.length_cons, List.drop_succ_cons, List.drop_zero] at *
          have hx := (B8.cons.1 hb).1
          have hl : (r.take x).length = x := by rw [List.length_take]; omega
          refine ⟨h4, by rw [hl]; omega, ?_⟩
          rw [hl, show 1 + x = x + 1 by omega, List.drop_succ_cons]
          simp only [numB, List.cons_append, List.nil_append, List.take_append_drop]
          rw [Nat.mod_eq_of_lt hx]
theorem RS.short_b8 {s : RS} {m : Int} (hb : B8 s.l) : B8 (s.short m).1 ∧ B8 (s.short m).2.l := by
  unfold RS.short
  split
  · exact ⟨B8.nil, hb⟩
  · exact ⟨fun x hx => hb x (List.mem_of_mem_drop (List.mem_of_mem_take hx)), fun x hx => hb x (List.mem_of_mem_drop hx)⟩
theorem RS.short_of (v r : List Nat) (m : Int) (hm : (v.length : Int) ≤ m) (hv : v.length < 256) : (⟨numB v.length 1 ++ v ++ r, 0⟩ : RS).short m = (v, ⟨r, 0⟩) := by
  have e : numB v.length 1 ++ v ++ r = v.length :: (v ++ r) := by simp [numB, Nat.mod_eq_of_lt hv]
  rw [e]
  have h1 : (⟨v.length :: (v ++ r), 0⟩ : RS).fail 1 = 0 := RS.fail_ok rfl (by omega) (by simp; omega)
  have h2 : (⟨v.length :: (v ++ r), 0⟩ : RS).fail (1 + (v.length : Int)) = 0 := RS.fail_ok rfl (by omega) (by simp; omega)
  unfold RS.short RS.shortE
  simp only [List.headD_cons, h1, h2]
  rw [if_neg (by rw [if_neg (by simp), if_neg (by omega)]; simp)]
  simp [Nat.add_comm 1]

/-! ### items, as the program reads them -/
def rdItem (kind : Int) (s : RS) : It × RS :=
  if kind = 2 then (⟨(s.short 24).1, [], (((s.short 24).2.get 4).1 : Nat), 0⟩, ((s.short 24).2.get 4).2)
  else if ((s.short 24).2.get 2).1 ≤ 32 then (⟨(s.short 24).1, (((s.short 24).2.get 2).2.raw ((s.short 24).2.get 2).1).1, 0, (((s.short 24).2.get 2).1 : Nat)⟩, (((s.short 24).2.get 2).2.raw ((s.short 24).2.get 2).1).2)
  else (⟨(s.short 24).1, [], ((((s.short 24).2.get 2).2.get 4).1 : Nat), (((s.short 24).2.get 2).1 : Nat)⟩, (((s.short 24).2.get 2).2.get 4).2)
theorem rdItem_b8 {kind : Int} {s : RS} (hb : B8 s.l) : (rdItem kind s).1.b8 ∧ B8 (rdItem kind s).2.l := by
  have h1 := RS.short_b8 (m := 24) hb
  unfold rdItem
  split
  · exact ⟨⟨h1.1, B8.nil⟩, RS.get_b8 h1.2⟩
  · split
    · have h2 := RS.raw_b8 (n := ((s.short 24).2.get 2).1) (RS.get_b8 (k := 2) h1.2)
      exact ⟨⟨h1.1, h2.1⟩, h2.2⟩
    · exact ⟨⟨h1.1, B8.nil⟩, RS.get_b8 (RS.get_b8 h1.2)⟩
theorem rdItem_ok {kind : Int} (hk : kind = 1 ∨ kind = 2) {s : RS} (hb : B8 s.l) (h : (rdItem kind s).2.e = 0) : s.e = 0 ∧ s.l = It.bytes kind (rdItem kind s).1 ++ (rdItem kind s).2.l := by
  have b1 := RS.short_b8 (m := 24) hb
  unfold rdItem at *
  unfold It.bytes
  rcases hk with hk | hk
  · rw [if_neg (show ¬ kind = 2 by omega)] at *
    rw [if_pos hk]
    split at h
    · rename_i hz
      rw [if_pos hz]
      obtain ⟨e3, _, l3, r3⟩ := RS.raw_ok h
      obtain ⟨e2, r2⟩ := RS.get_ok b1.2 e3
      obtain ⟨e1, _, r1⟩ := RS.short_ok hb e2
      refine ⟨e1, ?_⟩
      simp only []
      rw [if_pos (by omega), Int.toNat_natCast]
      conv => lhs; rw [r1, r2, r3]
      simp only [List.append_assoc]
    · rename_i hz
      rw [if_neg hz]
      obtain ⟨e3, r3⟩ := RS.get_ok (RS.get_b8 b1.2) h
      obtain ⟨e2, r2⟩ := RS.get_ok b1.2 e3
      obtain ⟨e1, _, r1⟩ := RS.short_ok hb e2
      refine ⟨e1, ?_⟩
      simp only []
      rw [if_neg (by omega), Int.toNat_natCast, Int.toNat_natCast]
      conv => lhs; rw [r1, r2, r3]
      simp only [List.append_assoc]
  · rw [if_pos hk] at *
    rw [if_neg (show ¬ kind = 1 by omega)]
    obtain ⟨e2, r2⟩ := RS.get_ok b1.2 h
    obtain ⟨e1, _, r1⟩ := RS.short_ok hb e2
    refine ⟨e1, ?_⟩
    simp only []
    rw [Int.toNat_natCast]
    conv => lhs; rw [r1, r2]
    simp only [List.append_assoc]
theorem rdItem_of {kind : Int} (hk : kind = 1 ∨ kind = 2) {x : It} (h : Fits kind x) (r : List Nat) : rdItem kind ⟨It.bytes kind x ++ r, 0⟩ = (x, ⟨r, 0⟩) := by
  have hkey := h.key
  unfold It.bytes
  rcases hk with hk | hk
  · obtain ⟨h1, h2, h3, h4⟩ := h.leaf hk
    rw [if_pos hk]
    have e1 := RS.short_of x.key (numB x.size.toNat 2 ++ (if x.size ≤ 32 then x.val else numB x.child.toNat 4) ++ r) 24 (by omega) (by omega)
    have e2 := RS.get_of ((if x.size ≤ 32 then x.val else numB x.child.toNat 4) ++ r) x.size.toNat 2 (by omega)
    simp only [List.append_assoc] at e1 e2 ⊢
    unfold rdItem
    rw [if_neg (by omega), e1]
    simp only [e2]
    by_cases hz : x.size ≤ 32
    · rw [if_pos (by omega)]
      simp only [if_pos hz]
      obtain ⟨h5, h6⟩ := h3 hz
      rw [RS.raw_of x.val r _ (by omega)]
      obtain ⟨k, v, c, z⟩ := x
      simp only [Prod.mk.injEq, It.mk.injEq, and_true, true_and]
      simp only at h1 h6
      exact ⟨h6.symm, by omega⟩
    · rw [if_neg (by omega)]
      simp only [if_neg hz]
      obtain ⟨h5, h6, h7⟩ := h4 (by omega)
      rw [RS.get_of r x.child.toNat 4 (by omega)]
      obtain ⟨k, v, c, z⟩ := x
      simp only [Prod.mk.injEq, It.mk.injEq, and_true, true_and]
      simp only at h1 h5 h6
      exact ⟨h5.symm, by omega, by omega⟩
  · obtain ⟨h1, h2, h3, h4⟩ := h.index hk
    rw [if_neg (show ¬ kind = 1 by omega)]
    have e1 := RS.short_of x.key (numB x.child.toNat 4 ++ r) 24 (by omega) (by omega)
    simp only [List.append_assoc] at e1 ⊢
    unfold rdItem
    rw [if_pos hk, e1]
    simp only []
    rw [RS.get_of r x.child.toNat 4 (by omega)]
    obtain ⟨k, v, c, z⟩ := x
    simp only [Prod.mk.injEq, It.mk.injEq, and_true, true_and]
    simp only at h1 h2 h3
    exact ⟨h1.symm, by omega, h2.symm⟩
def rdItems (kind : Int) : Nat → RS → List It × RS
  | 0, s => ([], s)
  | n + 1, s => ((rdItems kind n s).1 ++ [(rdItem kind (rdItems kind n s).2).1], (rdItem kind (rdItems kind n s).2).2)
theorem rdItems_length (kind : Int) (s : RS) : ∀ n, (rdItems kind n s).1.length = n
  | 0 => rfl
  | n + 1 => by simp only [rdItems, List.length_append, rdItems_length kind s n, List.length_cons, List.length_nil]
theorem rdItems_b8 {kind : Int} {s : RS} (hb : B8 s.l) : ∀ n, (∀ x ∈ (rdItems kind n s).1, x.b8) ∧ B8 (rdItems kind n s).2.l
  | 0 => ⟨fun _ h => (List.not_mem_nil h).elim, hb⟩
  | n + 1 => by
    have h1 := rdItems_b8 (kind := kind) hb n
    have h2 := rdItem_b8 (kind := kind) h1.2
    refine ⟨fun x hx => ?_, h2.2⟩
    rcases List.mem_append.1 hx with hx | hx
    · exact h1.1 x hx
    · simp at hx; subst hx; exact h2.1
theorem rdItems_ok {kind : Int} (hk : kind = 1 ∨ kind = 2) {s : RS} (hb : B8 s.l) : ∀ n, (rdItems kind n s).2.e = 0 → s.e = 0 ∧ s.l = (rdItems kind n s).1.flatMap (It.bytes kind) ++ (rdItems kind n s).2.l
  | 0, h => ⟨h, rfl⟩
  | n + 1, h => by
    obtain ⟨h1, h2⟩ := rdItem_ok hk (rdItems_b8 hb n).2 h
    obtain ⟨h3, h4⟩ := rdItems_ok hk hb n h1
    refine ⟨h3, ?_⟩
    show s.l = ((rdItems kind n s).1 ++ [(rdItem kind (rdItems kind n s).2).1]).flatMap (It.bytes kind) ++ (rdItem kind (rdItems kind n s).2).2.l
    rw [List.flatMap_append, List.flatMap_cons, List.flatMap_nil, List.append_nil, List.append_assoc, ← h2]
    exact h4
theorem rdItems_of {kind : Int} (hk : kind = 1 ∨ kind = 2) {L : List It} (h : ∀ x ∈ L, Fits kind x) (r : List Nat) : ∀ n, n ≤ L.length → rdItems kind n ⟨L.flatMap (It.bytes kind) ++ r, 0⟩ = (L.take n, ⟨(L.drop n).flatMap (It.bytes kind) ++ r, 0⟩)
  | 0, _ => rfl
  | n + 1, hn => by
    have ih := rdItems_of hk h r n (by omega)
    have hd : L.drop n = L[n] :: L.drop (n + 1) := List.drop_eq_getElem_cons (by omega)
    have e := rdItem_of hk (h L[n] (List.getElem_mem _)) ((L.drop (n + 1)).flatMap (It.bytes kind) ++ r)
    simp only [rdItems, ih]
    rw [hd, List.flatMap_cons, List.append_assoc, e, List.take_succ_eq_append_getElem (by omega)]

/-! ### what a block tells, as the program reads it -/
structure Ct where
  no : Int
  gen : Int
  page : Pg
def Ct.zero : Ct := ⟨0, 0, Pg.zero⟩
/-- a number of 64 bits as an int -/
def iwr (x : Nat) : Int := if x < 9223372036854775808 then x else (x : Int) - 18446744073709551616
def rdPart (tag : Nat) (c : Ct) (s : RS) : Ct × RS :=
  if tag = 0 then (⟨c.no, c.gen, { c.page with kind := ((s.get 1).1 : Nat) }⟩, (s.get 1).2)
  else if tag = 1 then (⟨c.no, c.gen, { c.page with level := ((s.get 1).1 : Nat) }⟩, (s.get 1).2)
  else if tag = 2 then (⟨((s.get 4).1 : Nat), c.gen, c.page⟩, (s.get 4).2)
  else if tag = 3 then (⟨c.no, iwr (s.get 8).1, c.page⟩, (s.get 8).2)
  else if tag = 4 then (⟨c.no, c.gen, { c.page with items := (rdItems c.page.kind (s.get 1).1 (s.get 1).2).1 }⟩, (rdItems c.page.kind (s.get 1).1 (s.get 1).2).2)
  else (⟨c.no, c.gen, { c.page with next := (((s.get 2).2.get 4).1 : Nat), data := (((s.get 2).2.get 4).2.raw (s.get 2).1).1 }⟩, (((s.get 2).2.get 4).2.raw (s.get 2).1).2)
def rdN : Nat → Ct → RS → Ct × RS
  | 0, c, s => (c, s)
  | n + 1, c, s => rdPart n (rdN n c s).1 (rdN n c s).2
def rdBody (c : Ct) (s : RS) : Ct × RS := if c.page.kind = 1 ∨ c.page.kind = 2 then rdPart 4 c s else if c.page.kind = 3 then rdPart 9 c s else (c, s)
def rdAll (s : RS) : Ct × RS := rdBody (rdN 4 Ct.zero s).1 (rdN 4 Ct.zero s).2
/-- a list of fourteen bytes and more -/
theorem head14 {l : List Nat} (h : 14 ≤ l.length) : ∃ x0 x1 x2 x3 x4 x5 x6 x7 x8 x9 x10 x11 x12 x13 r, l = x0 :: x1 :: x2 :: x3 :: x4 :: x5 :: x6 :: x7 :: x8 :: x9 :: x10 :: x11 :: x12 :: x13 :: r := by
  match l, h with
  | x0 :: x1 :: x2 :: x3 :: x4 :: x5 :: x6 :: x7 :: x8 :: x9 :: x10 :: x11 :: x12 :: x13 :: r, _ => exact ⟨x0, x1, x2, x3, x4, x5, x6, x7, x8, x9, x10, x11, x12, x13, r, rfl⟩
theorem get_cut {l : List Nat} {k : Nat} (h : k ≤ l.length) : (⟨l, 0⟩ : RS).get k = (numV (l.take k), ⟨l.drop k, 0⟩) := by
  unfold RS.get
  rw [if_neg (by rw [RS.fail_ok rfl (by omega) (by simpa using h)]; simp)]
theorem rd_head {l : List Nat} (h : 14 ≤ l.length) : rdN 4 Ct.zero ⟨l, 0⟩ = (⟨(numV ((l.drop 2).take 4) : Nat), iwr (numV ((l.drop 6).take 8)), ⟨(numV (l.take 1) : Nat), (numV ((l.drop 1).take 1) : Nat), [], [], 0⟩⟩, ⟨l.drop 14, 0⟩) := by
  have d : ∀ i, (l.drop i).length = l.length - i := fun i => List.length_drop
  have g0 := get_cut (l := l) (k := 1) (by omega)
  have g1 := get_cut (l := l.drop 1) (k := 1) (by rw [d]; omega)
  have g2 := get_cut (l := l.drop 2) (k := 4) (by rw [d]; omega)
  have g3 := get_cut (l := l.drop 6) (k := 8) (by rw [d]; omega)
  rw [List.drop_drop] at g1 g2 g3
  simp only [rdN, rdPart, Ct.zero, Pg.zero, g0, g1, g2, g3, Nat.reduceEqDiff, ↓reduceIte, Nat.reduceAdd]
end Go.Proofs.Ytoachodngjlpaaa

namespace Go.Proofs.Ytoachodngjlpaaa

/-! ### what a block tells, as the document guesses it -/
def gItem (kind : Int) (l : List Nat) : It × List Nat :=
  if kind = 1 then
    if numV ((l.drop (1 + numV (l.take 1))).take 2) ≤ 32 then (⟨(l.drop 1).take (numV (l.take 1)), (l.drop (1 + numV (l.take 1) + 2)).take (numV ((l.drop (1 + numV (l.take 1))).take 2)), 0, (numV ((l.drop (1 + numV (l.take 1))).take 2) : Nat)⟩, l.drop (1 + numV (l.take 1) + 2 + numV ((l.drop (1 + numV (l.take 1))).take 2)))
    else (⟨(l.drop 1).take (numV (l.take 1)), [], (numV ((l.drop (1 + numV (l.take 1) + 2)).take 4) : Nat), (numV ((l.drop (1 + numV (l.take 1))).take 2) : Nat)⟩, l.drop (1 + numV (l.take 1) + 2 + 4))
  else (⟨(l.drop 1).take (numV (l.take 1)), [], (numV ((l.drop (1 + numV (l.take 1))).take 4) : Nat), 0⟩, l.drop (1 + numV (l.take 1) + 4))
def gItems (kind : Int) (l : List Nat) : Nat → List It × List Nat
  | 0 => ([], l)
  | n + 1 => ((gItems kind l n).1 ++ [(gItem kind (gItems kind l n).2).1], (gItem kind (gItems kind l n).2).2)
theorem gItems_length (kind : Int) (l : List Nat) : ∀ n, (gItems kind l n).1.length = n
  | 0 => rfl
  | n + 1 => by simp only [gItems, List.length_append, gItems_length kind l n, List.length_cons, List.length_nil]
def guess (b : List Nat) : Pg :=
  if b.getD 0 0 = 3 then ⟨3, (b.getD 1 0 : Nat), [], (b.drop 20).take (numV ((b.drop 14).take 2)), (numV ((b.drop 16).take 4) : Nat)⟩
  else ⟨(b.getD 0 0 : Nat), (b.getD 1 0 : Nat), (gItems (b.getD 0 0 : Nat) (b.drop 15) (min (b.getD 14 0) 9)).1, [], 0⟩
def gn (b : List Nat) : Nat := numV ((b.drop 6).take 8)
theorem gItem_b8 {kind : Int} {l : List Nat} (hb : B8 l) : (gItem kind l).1.b8 ∧ B8 (gItem kind l).2 := by
  have d : ∀ n, B8 (l.drop n) := fun n x hx => hb x (List.mem_of_mem_drop hx)
  unfold gItem
  split
  · split
    · exact ⟨⟨(d 1).take _, (d _).take _⟩, d _⟩
    · exact ⟨⟨(d 1).take _, B8.nil⟩, d _⟩
  · exact ⟨⟨(d 1).take _, B8.nil⟩, d _⟩
theorem gItems_b8 {kind : Int} {l : List Nat} (hb : B8 l) : ∀ n, (∀ x ∈ (gItems kind l n).1, x.b8) ∧ B8 (gItems kind l n).2
  | 0 => ⟨fun _ h => (List.not_mem_nil h).elim, hb⟩
  | n + 1 => by
    have h1 := gItems_b8 (kind := kind) hb n
    have h2 := gItem_b8 (kind := kind) h1.2
    refine ⟨fun x hx => ?_, h2.2⟩
    rcases List.mem_append.1 hx with hx | hx
    · exact h1.1 x hx
    · simp at hx; subst hx; exact h2.1
theorem guess_b8 {b : List Nat} (hb : B8 b) : (guess b).b8 := by
  have d : ∀ n, B8 (b.drop n) := fun n x hx => hb x (List.mem_of_mem_drop hx)
  unfold guess
  split
  · exact ⟨fun _ h => (List.not_mem_nil h).elim, (d _).take _⟩
  · exact ⟨(gItems_b8 (d 15) _).1, B8.nil⟩
theorem take_app {l r : List Nat} {n : Nat} (h : n = l.length) : (l ++ r).take n = l := by subst h; simp
theorem drop_app {l r : List Nat} {n : Nat} (h : n = l.length) : (l ++ r).drop n = r := by subst h; simp
theorem drop_app2 {l m r : List Nat} {n : Nat} (h : n = l.length + m.length) : (l ++ (m ++ r)).drop n = r := by subst h; rw [← List.append_assoc]; exact drop_app (by simp)
theorem drop_app3 {l m k r : List Nat} {n : Nat} (h : n = l.length + m.length + k.length) : (l ++ (m ++ (k ++ r))).drop n = r := by
  subst h
  rw [← List.append_assoc, ← List.append_assoc]
  exact drop_app (by simp; omega)
theorem drop_app4 {l m k q r : List Nat} {n : Nat} (h : n = l.length + m.length + k.length + q.length) : (l ++ (m ++ (k ++ (q ++ r)))).drop n = r := by
  subst h
  rw [← List.append_assoc, ← List.append_assoc, ← List.append_assoc]
  exact drop_app (by simp; omega)
theorem gItem_of {kind : Int} (hk : kind = 1 ∨ kind = 2) {x : It} (h : Fits kind x) (r : List Nat) : gItem kind (It.bytes kind x ++ r) = (x, r) := by
  have hkey := h.key
  have hn : numV (numB x.key.length 1) = x.key.length := numV_numB 1 _ (by omega)
  have n1 : (numB x.key.length 1).length = 1 := numB_length _ _
  unfold It.bytes
  rcases hk with hk | hk
  · obtain ⟨h1, h2, h3, h4⟩ := h.leaf hk
    have hz : numV (numB x.size.toNat 2) = x.size.toNat := numV_numB 2 _ (by omega)
    have n2 : (numB x.size.toNat 2).length = 2 := numB_length _ _
    rw [if_pos hk]
    simp only [List.append_assoc]
    unfold gItem
    rw [if_pos hk]
    obtain ⟨y, hy⟩ : ∃ y, (if x.size ≤ 32 then x.val else numB x.child.toNat 4) = y := ⟨_, rfl⟩
    rw [hy]
    have t1 : (numB x.key.length 1 ++ (x.key ++ (numB x.size.toNat 2 ++ (y ++ r)))).take 1 = numB x.key.length 1 := take_app n1.symm
    have d1 : (numB x.key.length 1 ++ (x.key ++ (numB x.size.toNat 2 ++ (y ++ r)))).drop 1 = x.key ++ (numB x.size.toNat 2 ++ (y ++ r)) := drop_app n1.symm
    have d2 : (numB x.key.length 1 ++ (x.key ++ (numB x.size.toNat 2 ++ (y ++ r)))).drop (1 + x.key.length) = numB x.size.toNat 2 ++ (y ++ r) := drop_app2 (by omega)
    have d3 : (numB x.key.length 1 ++ (x.key ++ (numB x.size.toNat 2 ++ (y ++ r)))).drop (1 + x.key.length + 2) = y ++ r := drop_app3 (by omega)
    have d4 : ∀ n, n = y.length → (numB x.key.length 1 ++ (x.key ++ (numB x.size.toNat 2 ++ (y ++ r)))).drop (1 + x.key.length + 2 + n) = r := fun n hn => drop_app4 (by omega)
    rw [t1, hn, d1, d2, d3, take_app (r := numB x.size.toNat 2 ++ (y ++ r)) rfl, take_app (r := y ++ r) n2.symm, hz]
    by_cases hz : x.size ≤ 32
    · rw [if_pos (by omega)]
      rw [if_pos hz] at hy
      subst hy
      obtain ⟨h5, h6⟩ := h3 hz
      rw [d4 _ (by omega), take_app (by omega)]
      obtain ⟨k, v, c, z⟩ := x
      simp only [Prod.mk.injEq, It.mk.injEq, and_true, true_and]
      simp only at h1 h6
      exact ⟨h6.symm, by omega⟩
    · rw [if_neg (by omega)]
      rw [if_neg hz] at hy
      subst hy
      obtain ⟨h5, h6, h7⟩ := h4 (by omega)
      rw [d4 4 (numB_length _ _).symm, take_app (numB_length _ _).symm, numV_numB 4 _ (by omega)]
      obtain ⟨k, v, c, z⟩ := x
      simp only [Prod.mk.injEq, It.mk.injEq, and_true, true_and]
      simp only at h1 h5 h6
      exact ⟨h5.symm, by omega, by omega⟩
  · obtain ⟨h1, h2, h3, h4⟩ := h.index hk
    rw [if_neg (show ¬ kind = 1 by omega)]
    simp only [List.append_assoc]
    unfold gItem
    rw [if_neg (show ¬ kind = 1 by omega)]
    have t1 : (numB x.key.length 1 ++ (x.key ++ (numB x.child.toNat 4 ++ r))).take 1 = numB x.key.length 1 := take_app n1.symm
    have d1 : (numB x.key.length 1 ++ (x.key ++ (numB x.child.toNat 4 ++ r))).drop 1 = x.key ++ (numB x.child.toNat 4 ++ r) := drop_app n1.symm
    have d2 : (numB x.key.length 1 ++ (x.key ++ (numB x.child.toNat 4 ++ r))).drop (1 + x.key.length) = numB x.child.toNat 4 ++ r := drop_app2 (by omega)
    have d3 : (numB x.key.length 1 ++ (x.key ++ (numB x.child.toNat 4 ++ r))).drop (1 + x.key.length + 4) = r := drop_app3 (by rw [numB_length _ 4]; omega)
    rw [t1, hn, d1, d2, d3, take_app (r := numB x.child.toNat 4 ++ r) rfl, take_app (numB_length _ _).symm, numV_numB 4 _ (by omega)]
    obtain ⟨k, v, c, z⟩ := x
    simp only [Prod.mk.injEq, It.mk.injEq, and_true, true_and]
    simp only at h1 h2 h3
    exact ⟨h1.symm, by omega, h2.symm⟩
theorem gItems_of {kind : Int} (hk : kind = 1 ∨ kind = 2) {L : List It} (h : ∀ x ∈ L, Fits kind x) (r : List Nat) : ∀ n, n ≤ L.length → gItems kind (L.flatMap (It.bytes kind) ++ r) n = (L.take n, (L.drop n).flatMap (It.bytes kind) ++ r)
  | 0, _ => rfl
  | n + 1, hn => by
    have ih := gItems_of hk h r n (by omega)
    have hd : L.drop n = L[n] :: L.drop (n + 1) := List.drop_eq_getElem_cons (by omega)
    have e := gItem_of hk (h L[n] (List.getElem_mem _)) ((L.drop (n + 1)).flatMap (It.bytes kind) ++ r)
    simp only [gItems, ih]
    rw [hd, List.flatMap_cons, List.append_assoc, e, List.take_succ_eq_append_getElem (by omega)]

/-! ### the head of a block -/
def rest (p : Pg) (no gen : Int) : List Nat := p.tail ++ (List.replicate (508 - (body no gen p).length) 0 ++ numB (M.of (padded (body no gen p))) 4)
theorem blk_eq (no gen : Int) (p : Pg) : blk no gen p = numB p.kind.toNat 1 ++ (numB p.level.toNat 1 ++ (numB no.toNat 4 ++ (numB gen.toNat 8 ++ rest p no gen))) := by
  unfold blk summed rest
  obtain ⟨q, hq⟩ : ∃ q, numB (M.of (padded (body no gen p))) 4 = q := ⟨_, rfl⟩
  rw [hq]
  unfold padded
  obtain ⟨n, hn⟩ : ∃ n, 508 - (body no gen p).length = n := ⟨_, rfl⟩
  rw [hn]
  unfold body
  simp only [List.append_assoc]
theorem body_eq (no gen : Int) (p : Pg) : padded (body no gen p) = numB p.kind.toNat 1 ++ (numB p.level.toNat 1 ++ (numB no.toNat 4 ++ (numB gen.toNat 8 ++ (p.tail ++ List.replicate (508 - (body no gen p).length) 0)))) := by
  unfold padded
  obtain ⟨n, hn⟩ : ∃ n, 508 - (body no gen p).length = n := ⟨_, rfl⟩
  rw [hn]
  unfold body
  simp only [List.append_assoc]
theorem getD_app (x : Nat) (r : List Nat) : (numB x 1 ++ r).getD 0 0 = x % 256 := by simp [numB]
theorem getD_drop' (l : List Nat) (i : Nat) : l.getD i 0 = (l.drop i).getD 0 0 := by simp
structure Hd (p : Pg) (no gen : Int) (b : List Nat) (r : List Nat) : Prop where
  k : b.getD 0 0 = p.kind.toNat % 256
  l : b.getD 1 0 = p.level.toNat % 256
  n : (b.drop 2).take 4 = numB no.toNat 4
  g : (b.drop 6).take 8 = numB gen.toNat 8
  t : b.drop 14 = r
theorem Hd.of (p : Pg) (no gen : Int) (r : List Nat) : Hd p no gen (numB p.kind.toNat 1 ++ (numB p.level.toNat 1 ++ (numB no.toNat 4 ++ (numB gen.toNat 8 ++ r)))) r := by
  have l1 := numB_length p.kind.toNat 1
  have l2 := numB_length p.level.toNat 1
  have l3 := numB_length no.toNat 4
  have l4 := numB_length gen.toNat 8
  refine ⟨getD_app _ _, ?_, ?_, ?_, drop_app4 (by omega)⟩
  · rw [getD_drop', drop_app l1.symm, getD_app]
  · rw [drop_app2 (by omega), take_app l3.symm]
  · rw [drop_app3 (by omega), take_app l4.symm]
theorem Sound.nums {p : Pg} (h : Sound p) : p.kind.toNat % 256 = p.kind.toNat ∧ p.level.toNat % 256 = p.level.toNat ∧ (p.kind.toNat : Int) = p.kind ∧ (p.level.toNat : Int) = p.level := by
  have hk := Pg.kindOk_iff.1 h.k
  have hl : 0 ≤ p.level ∧ p.level ≤ 11 := by
    rcases hk with hk | hk | hk
    · have := h.node (.inl hk); omega
    · have := h.node (.inr hk); omega
    · have := h.blob hk; omega
  omega
theorem guess_of {p : Pg} (h : Sound p) (no gen : Int) {b : List Nat} {z : List Nat} (hd : Hd p no gen b (p.tail ++ z)) : guess b = p := by
  obtain ⟨n1, n2, n3, n4⟩ := h.nums
  have h0 := hd.k
  have h1 := hd.l
  rw [n1] at h0
  rw [n2] at h1
  have ht := hd.t
  unfold guess
  rw [h0, h1, n3, n4]
  rcases Pg.kindOk_iff.1 h.k with hk | hk | hk
  · rw [if_neg (by omega)]
    unfold Pg.tail at ht
    rw [if_neg (by omega), List.append_assoc] at ht
    have hl := h.node (.inl hk)
    have e14 : b.getD 14 0 = p.items.length := by rw [getD_drop', ht, getD_app]; omega
    have e15 : b.drop 15 = p.items.flatMap (It.bytes p.kind) ++ z := by
      have : b.drop 15 = (b.drop 14).drop 1 := by rw [List.drop_drop]
      rw [this, ht, drop_app (numB_length _ _).symm]
    rw [e14, e15, show min p.items.length 9 = p.items.length by omega, gItems_of (.inl hk) (fun x hx => h.fits hx) z _ (Nat.le_refl _), List.take_length]
    obtain ⟨k, l, it, d, n⟩ := p
    simp only at hl
    simp [hl.1, hl.2.1]
  · rw [if_neg (by omega)]
    unfold Pg.tail at ht
    rw [if_neg (by omega), List.append_assoc] at ht
    have hl := h.node (.inr hk)
    have e14 : b.getD 14 0 = p.items.length := by rw [getD_drop', ht, getD_app]; omega
    have e15 : b.drop 15 = p.items.flatMap (It.bytes p.kind) ++ z := by
      have : b.drop 15 = (b.drop 14).drop 1 := by rw [List.drop_drop]
      rw [this, ht, drop_app (numB_length _ _).symm]
    rw [e14, e15, show min p.items.length 9 = p.items.length by omega, gItems_of (.inr hk) (fun x hx => h.fits hx) z _ (Nat.le_refl _), List.take_length]
    obtain ⟨k, l, it, d, n⟩ := p
    simp only at hl
    simp [hl.1, hl.2.1]
  · rw [if_pos (by omega)]
    obtain ⟨l0, i0, d0, d1, x0, x1⟩ := h.blob hk
    unfold Pg.tail at ht
    rw [if_pos hk] at ht
    simp only [List.append_assoc] at ht
    have e16 : b.drop 16 = numB p.next.toNat 4 ++ (p.data ++ z) := by
      have : b.drop 16 = (b.drop 14).drop 2 := by rw [List.drop_drop]
      rw [this, ht, drop_app (numB_length _ _).symm]
    have e20 : b.drop 20 = p.data ++ z := by
      have : b.drop 20 = (b.drop 16).drop 4 := by rw [List.drop_drop]
      rw [this, e16, drop_app (numB_length _ _).symm]
    rw [ht, e16, e20, take_app (numB_length _ _).symm, take_app (numB_length _ _).symm, numV_numB 2 _ (by omega), numV_numB 4 _ (by omega), take_app rfl]
    obtain ⟨k, l, it, d, n⟩ := p
    simp only at l0 i0 x0 x1 hk
    rw [Pg.mk.injEq]
    exact ⟨hk.symm, rfl, i0.symm, rfl, by show ((n.toNat : Nat) : Int) = n; omega⟩
theorem guess_blk {p : Pg} (h : Sound p) (no gen : Int) : guess (blk no gen p) = p := by
  have := Hd.of p no gen (rest p no gen)
  rw [← blk_eq] at this
  exact guess_of h no gen this
theorem gn_blk {p : Pg} {gen : Int} (hg : isGen gen = true) (no : Int) : (gn (blk no gen p) : Int) = gen := by
  have := Hd.of p no gen (rest p no gen)
  rw [← blk_eq] at this
  unfold gn
  have hg := isGen_iff.1 hg
  rw [this.g, numV_numB 8 _ (by omega)]
  omega
theorem no_blk {p : Pg} {no : Int} (hn : isNum no = true) (gen : Int) : (numV (((blk no gen p).drop 2).take 4) : Int) = no := by
  have := Hd.of p no gen (rest p no gen)
  rw [← blk_eq] at this
  have hn := isNum_iff.1 hn
  rw [this.n, numV_numB 4 _ (by omega)]
  omega
end Go.Proofs.Ytoachodngjlpaaa

namespace Go.Proofs.Ytoachodngjlpaaa

/-! ### what Decode answers -/
def goodB (no : Int) (b : List Nat) : Bool := decide (b.getD 13 0 = 0) && isGen (gn b) && decide ((guess b).check = 0) && decide (blk no (gn b) (guess b) = b)
def decE (no : Int) (b : List Nat) : Nat := if isNum no = false then 15 else if b.length ≠ 512 then 16 else if numV (b.drop 508) ≠ M.of (b.take 508) then 6 else if ((numV ((b.drop 2).take 4) : Nat) : Int) ≠ no then 25 else if goodB no b = true then 0 else 5
def decP (no : Int) (b : List Nat) : Pg := if decE no b = 0 then guess b else Pg.zero
def decG (no : Int) (b : List Nat) : Nat := if decE no b = 0 then gn b else 0
theorem goodB_iff {no : Int} {b : List Nat} : goodB no b = true ↔ b.getD 13 0 = 0 ∧ isGen (gn b) = true ∧ Sound (guess b) ∧ blk no (gn b) (guess b) = b := by
  unfold goodB
  simp [← Pg.check_zero, and_assoc]
theorem decE_zero {no : Int} {b : List Nat} (h : decE no b = 0) : isNum no = true ∧ b.length = 512 ∧ numV (b.drop 508) = M.of (b.take 508) ∧ ((numV ((b.drop 2).take 4) : Nat) : Int) = no ∧ goodB no b = true := by
  unfold decE at h
  split at h
  · cases h
  split at h
  · cases h
  split at h
  · cases h
  split at h
  · cases h
  split at h
  · rename_i h1 h2 h3 h4 h5
    exact ⟨by simpa using h1, by simpa using h2, by simpa using h3, by simpa using h4, h5⟩
  · cases h

theorem zeros_ok {s : RS} (h : s.zeros.fin = 0) : s.e = 0 ∧ s.l.all (· == 0) = true := by
  unfold RS.zeros RS.fin RS.zerosE at h
  by_cases he : s.e = 0
  · cases hz : s.l.all (· == 0) with
    | true => exact ⟨he, rfl⟩
    | false => simp [he, hz] at h
  · simp [he] at h
theorem zeros_of {s : RS} (he : s.e = 0) (hz : s.l.all (· == 0) = true) : s.zeros.fin = 0 := by
  unfold RS.zeros RS.fin RS.zerosE
  simp [he, hz]
theorem zeros_rep {l : List Nat} (h : l.all (· == 0) = true) : l = List.replicate l.length 0 := by
  apply List.eq_replicate_iff.2
  refine ⟨rfl, fun x hx => ?_⟩
  simpa using List.all_eq_true.1 h x hx
theorem drop_b8 {l : List Nat} (h : B8 l) (n : Nat) : B8 (l.drop n) := fun x hx => h x (List.mem_of_mem_drop hx)
theorem cut_num {l : List Nat} (h : B8 l) (i k : Nat) (hl : i + k ≤ l.length) : (l.drop i).take k = numB (numV ((l.drop i).take k)) k := by
  have h1 : ((l.drop i).take k).length = k := by rw [List.length_take, List.length_drop]; omega
  have := numB_numV ((l.drop i).take k) ((drop_b8 h i).take k)
  rw [h1] at this
  exact this.symm
theorem head_split {l : List Nat} (h : B8 l) (hl : 14 ≤ l.length) : l = numB (numV (l.take 1)) 1 ++ (numB (numV ((l.drop 1).take 1)) 1 ++ (numB (numV ((l.drop 2).take 4)) 4 ++ (numB (numV ((l.drop 6).take 8)) 8 ++ l.drop 14))) := by
  have e0 := cut_num h 0 1 (by omega)
  have e1 := cut_num h 1 1 (by omega)
  have e2 := cut_num h 2 4 (by omega)
  have e3 := cut_num h 6 8 (by omega)
  rw [List.drop_zero] at e0
  rw [← e0, ← e1, ← e2, ← e3]
  have d3 : l.drop 6 = (l.drop 6).take 8 ++ l.drop 14 := by
    conv => lhs; rw [← List.take_append_drop 8 (l.drop 6)]
    rw [List.drop_drop]
  have d2 : l.drop 2 = (l.drop 2).take 4 ++ l.drop 6 := by
    conv => lhs; rw [← List.take_append_drop 4 (l.drop 2)]
    rw [List.drop_drop]
  have d1 : l.drop 1 = (l.drop 1).take 1 ++ l.drop 2 := by
    conv => lhs; rw [← List.take_append_drop 1 (l.drop 1)]
    rw [List.drop_drop]
  rw [← d3, ← d2, ← d1, List.take_append_drop]
theorem rd_no {l : List Nat} (h : 14 ≤ l.length) : (rdAll ⟨l, 0⟩).1.no = ((numV ((l.drop 2).take 4) : Nat) : Int) := by
  unfold rdAll
  rw [rd_head h]
  unfold rdBody rdPart
  simp only [Nat.reduceEqDiff, ↓reduceIte]
  split
  · rfl
  · split <;> rfl
theorem iwr_small {x : Nat} (h : isGen (iwr x) = true) (hx : x < 18446744073709551616) : iwr x = (x : Int) ∧ x ≤ 1099511627776 := by
  have := isGen_iff.1 h
  unfold iwr at this ⊢
  split at this
  · rename_i h1
    rw [if_pos h1]; omega
  · omega
/-- what is left behind the head, if all is well -/
theorem rd_tail {l : List Nat} (hb : B8 l) (hl : 14 ≤ l.length) (he : (rdAll ⟨l, 0⟩).2.e = 0) (hs : Sound (rdAll ⟨l, 0⟩).1.page) : l.drop 14 = (rdAll ⟨l, 0⟩).1.page.tail ++ (rdAll ⟨l, 0⟩).2.l ∧ (rdAll ⟨l, 0⟩).1.page.kind = ((numV (l.take 1) : Nat) : Int) ∧ (rdAll ⟨l, 0⟩).1.page.level = ((numV ((l.drop 1).take 1) : Nat) : Int) ∧ (rdAll ⟨l, 0⟩).1.gen = iwr (numV ((l.drop 6).take 8)) := by
  have hb14 := drop_b8 hb 14
  unfold rdAll at *
  rw [rd_head hl] at *
  dsimp only at *
  unfold rdBody at *
  dsimp only at *
  by_cases h12 : ((numV (l.take 1) : Nat) : Int) = 1 ∨ ((numV (l.take 1) : Nat) : Int) = 2
  · rw [if_pos h12] at *
    unfold rdPart at *
    simp only [Nat.reduceEqDiff, ↓reduceIte] at *
    refine ⟨?_, by first | rfl | trivial, by first | rfl | trivial, by first | rfl | trivial⟩
    obtain ⟨h1, h2⟩ := rdItems_ok h12 (RS.get_b8 hb14) _ he
    obtain ⟨_, h3⟩ := RS.get_ok (s := ⟨l.drop 14, 0⟩) hb14 h1
    unfold Pg.tail
    dsimp only
    rw [if_neg (by omega), rdItems_length, List.append_assoc, ← h2]
    exact h3
  · rw [if_neg h12] at *
    by_cases h3 : ((numV (l.take 1) : Nat) : Int) = 3
    · rw [if_pos h3] at *
      unfold rdPart at *
      simp only [Nat.reduceEqDiff, ↓reduceIte] at *
      refine ⟨?_, by first | rfl | trivial, by first | rfl | trivial, by first | rfl | trivial⟩
      obtain ⟨h4, _, h5, h6⟩ := RS.raw_ok he
      obtain ⟨h7, h8⟩ := RS.get_ok (RS.get_b8 hb14) h4
      obtain ⟨_, h9⟩ := RS.get_ok (s := ⟨l.drop 14, 0⟩) hb14 h7
      unfold Pg.tail
      dsimp only
      rw [if_pos h3, Int.toNat_natCast]
      have h5' : ((((⟨l.drop 14, 0⟩ : RS).get 2).2.get 4).2.raw ((⟨l.drop 14, 0⟩ : RS).get 2).1).1.length = ((⟨l.drop 14, 0⟩ : RS).get 2).1 := by omega
      rw [h5', List.append_assoc, List.append_assoc, ← h6, ← h8]
      exact h9
    · rw [if_neg h3] at *
      rcases Pg.kindOk_iff.1 hs.k with h | h | h
      · exact absurd (Or.inl h) h12
      · exact absurd (Or.inr h) h12
      · exact absurd h h3
/-- a block that is read well is the block of what is read -/
theorem rd_good {b : List Nat} (hb : B8 b) (hl : b.length = 512) (hsum : numV (b.drop 508) = M.of (b.take 508)) (hf : (rdAll ⟨b.take 508, 0⟩).2.zeros.fin = 0) (hg : isGen (rdAll ⟨b.take 508, 0⟩).1.gen = true) (hs : Sound (rdAll ⟨b.take 508, 0⟩).1.page) :
    b = blk (rdAll ⟨b.take 508, 0⟩).1.no (rdAll ⟨b.take 508, 0⟩).1.gen (rdAll ⟨b.take 508, 0⟩).1.page := by
  have hlt : (b.take 508).length = 508 := by rw [List.length_take]; omega
  have hbt : B8 (b.take 508) := hb.take 508
  obtain ⟨he, hz⟩ := zeros_ok hf
  obtain ⟨h1, h2, h3, h4⟩ := rd_tail hbt (by omega) he hs
  have hno := rd_no (l := b.take 508) (by omega)
  have hsp := head_split hbt (by omega)
  have hg8 := numV_lt (((b.take 508).drop 6).take 8) ((drop_b8 hbt 6).take 8)
  have hl8 : (((b.take 508).drop 6).take 8).length = 8 := by rw [List.length_take, List.length_drop]; omega
  rw [hl8] at hg8
  rw [h4] at hg
  obtain ⟨h5, h6⟩ := iwr_small hg (by omega)
  rw [h5] at h4
  have hd : b.drop 508 = numB (M.of (b.take 508)) 4 := by
    have h7 : (b.drop 508).length = 4 := by rw [List.length_drop]; omega
    have := numB_numV (b.drop 508) (drop_b8 hb 508)
    rw [h7, hsum] at this
    exact this.symm
  generalize (rdAll ⟨b.take 508, 0⟩) = R at *
  have hzl := zeros_rep hz
  have hbody : b.take 508 = body R.1.no R.1.gen R.1.page ++ R.2.l := by
    unfold body
    rw [hno, h4, h2, h3]
    simp only [Int.toNat_natCast, List.append_assoc]
    rw [← h1]
    exact hsp
  have hpad : b.take 508 = padded (body R.1.no R.1.gen R.1.page) := by
    unfold padded
    have h8 : R.2.l.length = 508 - (body R.1.no R.1.gen R.1.page).length := by
      have := congrArg List.length hbody
      rw [hlt, List.length_append] at this
      omega
    rw [← h8, ← hzl]
    exact hbody
  unfold blk summed
  rw [← hpad, ← hd, List.take_append_drop]
/-- a block is read as what it is the block of -/
theorem rd_blk {no gen : Int} {p : Pg} (hs : Sound p) (hn : isNum no = true) (hg : isGen gen = true) : (rdAll ⟨padded (body no gen p), 0⟩).1 = ⟨no, gen, p⟩ ∧ (rdAll ⟨padded (body no gen p), 0⟩).2.zeros.fin = 0 := by
  have hd := Hd.of p no gen (p.tail ++ List.replicate (508 - (body no gen p).length) 0)
  rw [← body_eq] at hd
  have hlen := padded_length (b := body no gen p) (by have := hs.body_le no gen; omega)
  obtain ⟨n1, n2, n3, n4⟩ := hs.nums
  have hn' := isNum_iff.1 hn
  have hg' := isGen_iff.1 hg
  have k0 : (numV ((padded (body no gen p)).take 1)) = p.kind.toNat := by
    rw [body_eq, take_app (numB_length _ _).symm, numV_numB 1 _ (by omega)]
  have k1 : (numV (((padded (body no gen p)).drop 1).take 1)) = p.level.toNat := by
    rw [body_eq, drop_app (numB_length _ _).symm, take_app (numB_length _ _).symm, numV_numB 1 _ (by omega)]
  have k2 : numV (((padded (body no gen p)).drop 2).take 4) = no.toNat := by rw [hd.n, numV_numB 4 _ (by omega)]
  have k3 : numV (((padded (body no gen p)).drop 6).take 8) = gen.toNat := by rw [hd.g, numV_numB 8 _ (by omega)]
  have kg : iwr gen.toNat = gen := by unfold iwr; rw [if_pos (by omega)]; omega
  have kn : ((no.toNat : Nat) : Int) = no := by omega
  have hz : (List.replicate (508 - (body no gen p).length) 0).all (· == 0) = true := by simp
  generalize List.replicate (508 - (body no gen p).length) 0 = Z at *
  unfold rdAll
  rw [rd_head (by omega), k0, k1, k2, k3, kg, kn, n3, n4, hd.t]
  generalize padded (body no gen p) = D at *
  unfold rdBody
  dsimp only
  rcases Pg.kindOk_iff.1 hs.k with hk | hk | hk
  · rw [if_pos (.inl hk)]
    have hnd := hs.node (.inl hk)
    have ht : p.tail = numB p.items.length 1 ++ p.items.flatMap (It.bytes p.kind) := by unfold Pg.tail; rw [if_neg (by omega)]
    have hget := RS.get_of (p.items.flatMap (It.bytes p.kind) ++ Z) p.items.length 1 (by omega)
    have hit := rdItems_of (.inl hk) (fun x hx => hs.fits hx) Z p.items.length (Nat.le_refl _)
    rw [List.take_length, List.drop_length, List.flatMap_nil, List.nil_append] at hit
    unfold rdPart
    simp only [Nat.reduceEqDiff, ↓reduceIte]
    rw [ht, List.append_assoc, hget]
    dsimp only
    rw [hit]
    refine ⟨?_, zeros_of rfl hz⟩
    obtain ⟨k, l, it, d, n⟩ := p
    simp only at hnd
    simp [hnd.1, hnd.2.1]
  · rw [if_pos (.inr hk)]
    have hnd := hs.node (.inr hk)
    have ht : p.tail = numB p.items.length 1 ++ p.items.flatMap (It.bytes p.kind) := by unfold Pg.tail; rw [if_neg (by omega)]
    have hget := RS.get_of (p.items.flatMap (It.bytes p.kind) ++ Z) p.items.length 1 (by omega)
    have hit := rdItems_of (.inr hk) (fun x hx => hs.fits hx) Z p.items.length (Nat.le_refl _)
    rw [List.take_length, List.drop_length, List.flatMap_nil, List.nil_append] at hit
    unfold rdPart
    simp only [Nat.reduceEqDiff, ↓reduceIte]
    rw [ht, List.append_assoc, hget]
    dsimp only
    rw [hit]
    refine ⟨?_, zeros_of rfl hz⟩
    obtain ⟨k, l, it, d, n⟩ := p
    simp only at hnd
    simp [hnd.1, hnd.2.1]
  · rw [if_neg (by omega), if_pos hk]
    obtain ⟨l0, i0, d0, d1, x0, x1⟩ := hs.blob hk
    have ht : p.tail = numB p.data.length 2 ++ (numB p.next.toNat 4 ++ p.data) := by unfold Pg.tail; rw [if_pos hk, List.append_assoc]
    have g1 := RS.get_of (numB p.next.toNat 4 ++ (p.data ++ Z)) p.data.length 2 (by omega)
    have g2 := RS.get_of (p.data ++ Z) p.next.toNat 4 (by omega)
    have g3 := RS.raw_of p.data Z (p.data.length : Nat) rfl
    unfold rdPart
    simp only [Nat.reduceEqDiff, ↓reduceIte]
    rw [ht, List.append_assoc, List.append_assoc, g1]
    dsimp only
    rw [g2]
    dsimp only
    rw [g3]
    refine ⟨?_, zeros_of rfl hz⟩
    obtain ⟨k, l, it, d, n⟩ := p
    simp only at i0 x0 x1
    rw [Ct.mk.injEq, Pg.mk.injEq]
    exact ⟨rfl, rfl, rfl, rfl, i0.symm, rfl, by show ((n.toNat : Nat) : Int) = n; omega⟩
/-- the program's answer is the document's -/
theorem rd_iff {no : Int} {b : List Nat} (hb : B8 b) (hl : b.length = 512) (hn : isNum no = true) (hsum : numV (b.drop 508) = M.of (b.take 508)) (hno : (rdAll ⟨b.take 508, 0⟩).1.no = no) :
    ((rdAll ⟨b.take 508, 0⟩).2.zeros.fin = 0 ∧ isGen (rdAll ⟨b.take 508, 0⟩).1.gen = true ∧ (rdAll ⟨b.take 508, 0⟩).1.page.check = 0) ↔ goodB no b = true := by
  rw [goodB_iff]
  constructor
  · rintro ⟨h1, h2, h3⟩
    have hs := Pg.check_zero.1 h3
    have e := rd_good hb hl hsum h1 h2 hs
    rw [hno] at e
    have e1 : guess b = (rdAll ⟨b.take 508, 0⟩).1.page := by
      conv => lhs; rw [e]
      exact guess_blk hs _ _
    have e2 : (gn b : Int) = (rdAll ⟨b.take 508, 0⟩).1.gen := by
      conv => lhs; rw [e]
      exact gn_blk h2 _
    refine ⟨?_, by rw [e2]; exact h2, by rw [e1]; exact hs, by rw [e1, e2]; exact e.symm⟩
    have hd := Hd.of (rdAll ⟨b.take 508, 0⟩).1.page no (rdAll ⟨b.take 508, 0⟩).1.gen (rest (rdAll ⟨b.take 508, 0⟩).1.page no (rdAll ⟨b.take 508, 0⟩).1.gen)
    rw [← blk_eq, ← e] at hd
    have h13 : b.getD 13 0 = ((b.drop 6).take 8).getD 7 0 := by
      simp [List.getD_eq_getElem?_getD, List.getElem?_drop]
    have := isGen_iff.1 h2
    rw [h13, hd.g, numB_get _ _ _ (by decide)]
    have h7 : (rdAll ⟨b.take 508, 0⟩).1.gen.toNat < 256 ^ 7 := by omega
    rw [Nat.div_eq_of_lt h7]
  · rintro ⟨_, h2, h3, h4⟩
    have e : b.take 508 = padded (body no (gn b) (guess b)) := by
      have h5 := padded_length (b := body no (gn b) (guess b)) (by have := h3.body_le no (gn b); omega)
      conv => lhs; rw [← h4]
      unfold blk summed
      exact take_app h5.symm
    obtain ⟨r1, r2⟩ := rd_blk h3 hn h2
    rw [← e] at r1 r2
    rw [r1]
    exact ⟨r2, h2, Pg.check_zero.2 h3⟩
theorem rd_same {no : Int} {b : List Nat} (hn : isNum no = true) (hgd : goodB no b = true) : (rdAll ⟨b.take 508, 0⟩).1.page = guess b ∧ (rdAll ⟨b.take 508, 0⟩).1.gen = (gn b : Int) := by
  obtain ⟨_, h2, h3, h4⟩ := goodB_iff.1 hgd
  have e : b.take 508 = padded (body no (gn b) (guess b)) := by
    have h5 := padded_length (b := body no (gn b) (guess b)) (by have := h3.body_le no (gn b); omega)
    conv => lhs; rw [← h4]
    unfold blk summed
    exact take_app h5.symm
  obtain ⟨r1, _⟩ := rd_blk h3 hn h2
  rw [← e] at r1
  rw [r1]
  exact ⟨rfl, rfl⟩
end Go.Proofs.Ytoachodngjlpaaa

namespace Go.Proofs.Ytoachodngjlpaaa

theorem blk_take {no gen : Int} {p : Pg} (hs : Sound p) : (blk no gen p).take 508 = padded (body no gen p) := by
  unfold blk summed
  exact take_app (padded_length (by have := hs.body_le no gen; omega)).symm
theorem blk_drop {no gen : Int} {p : Pg} (hs : Sound p) : (blk no gen p).drop 508 = numB (M.of (padded (body no gen p))) 4 := by
  unfold blk summed
  exact drop_app (padded_length (by have := hs.body_le no gen; omega)).symm
theorem blk_sum {no gen : Int} {p : Pg} (hs : Sound p) (h8 : p.b8) : numV ((blk no gen p).drop 508) = M.of ((blk no gen p).take 508) := by
  rw [blk_take hs, blk_drop hs, numV_numB 4 _ (M.of_lt (padded_b8 (body_b8 h8 no gen)))]
theorem blk_13 {no gen : Int} {p : Pg} (hg : isGen gen = true) : (blk no gen p).getD 13 0 = 0 := by
  have hd := Hd.of p no gen (rest p no gen)
  rw [← blk_eq] at hd
  have h13 : (blk no gen p).getD 13 0 = (((blk no gen p).drop 6).take 8).getD 7 0 := by
    simp [List.getD_eq_getElem?_getD, List.getElem?_drop]
  have := isGen_iff.1 hg
  rw [h13, hd.g, numB_get _ _ _ (by decide)]
  have h7 : gen.toNat < 256 ^ 7 := by omega
  rw [Nat.div_eq_of_lt h7]
theorem dec_blk {no gen : Int} {p : Pg} (hs : Sound p) (h8 : p.b8) (hn : isNum no = true) (hg : isGen gen = true) : decE no (blk no gen p) = 0 ∧ decP no (blk no gen p) = p ∧ (decG no (blk no gen p) : Int) = gen := by
  have e1 := guess_blk hs no gen
  have e2 := gn_blk (p := p) hg no
  have h0 : decE no (blk no gen p) = 0 := by
    unfold decE
    rw [if_neg (by rw [hn]; simp), if_neg (by rw [hs.blk_length]; simp), if_neg (by rw [blk_sum hs h8]; simp), if_neg (by rw [no_blk hn]; simp), if_pos]
    rw [goodB_iff]
    refine ⟨blk_13 hg, by rw [e2]; exact hg, by rw [e1]; exact hs, by rw [e1, e2]⟩
  refine ⟨h0, ?_, ?_⟩
  · unfold decP; rw [if_pos h0]; exact e1
  · unfold decG; rw [if_pos h0]; exact e2
theorem dec_other {no no' gen : Int} {p : Pg} (hs : Sound p) (h8 : p.b8) (hn : isNum no = true) (hn' : isNum no' = true) (hne : no' ≠ no) : decE no' (blk no gen p) = 25 := by
  unfold decE
  rw [if_neg (by rw [hn']; simp), if_neg (by rw [hs.blk_length]; simp), if_neg (by rw [blk_sum hs h8]; simp), if_pos (by rw [no_blk hn]; exact fun h => hne h.symm)]
/-- what is read is written again -/
theorem dec_enc {no : Int} {b : List Nat} (h : decE no b = 0) : isNum no = true ∧ isGen (decG no b) = true ∧ Sound (decP no b) ∧ blk no (decG no b) (decP no b) = b := by
  obtain ⟨h1, h2, h3, h4, h5⟩ := decE_zero h
  obtain ⟨_, g2, g3, g4⟩ := goodB_iff.1 h5
  unfold decG decP
  rw [if_pos h, if_pos h]
  exact ⟨h1, g2, g3, g4⟩

/-! the first page of the examples -/
def leafP : Pg := ⟨1, 0, [⟨[97], [120], 0, 1⟩], [], 0⟩
theorem leaf_sound : Sound leafP := Pg.check_zero.1 (by decide +kernel)
theorem leaf_b8 : leafP.b8 := by
  refine ⟨fun x hx => ?_, B8.nil⟩
  simp only [leafP, List.mem_singleton] at hx
  subst hx
  exact ⟨by intro y hy; simp at hy; omega, by intro y hy; simp at hy; omega⟩
set_option maxRecDepth 1000000 in
theorem leaf_at : (blk 5 258 leafP).getD 0 0 = 1 ∧ (blk 5 258 leafP).getD 2 0 = 5 ∧ (blk 5 258 leafP).getD 6 0 = 2 ∧ (blk 5 258 leafP).getD 7 0 = 1 ∧ (blk 5 258 leafP).getD 14 0 = 1 ∧ (blk 5 258 leafP).getD 19 0 = 120 ∧ (blk 5 258 leafP).getD 508 0 = 170 ∧ (blk 5 258 leafP).getD 511 0 = 161 := by decide +kernel
def idxP : Pg := ⟨2, 1, [⟨[], [], 2, 0⟩, ⟨[109], [], 3, 0⟩], [], 0⟩
theorem idx_kids : idxP.kids = [2, 3] := by decide +kernel
theorem zero_check : Pg.zero.check = 22 := by decide +kernel
end Go.Proofs.Ytoachodngjlpaaa
