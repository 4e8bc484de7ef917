import Derived.Test.YtbhigodjbfoeoaaGreatWpZA
import Derived.Test.YtbhigodjbfoeoaaGreatWpPN
import Derived.Test.YtbhigodjbfoeoaaGreatWpPSX
namespace Go.Proofs.YtbhigodjbfoeoaaGreat
/-- an item of a page -/
structure It where
  key : List Nat
  val : List Nat
  child : Int
  size : Int
/-- a page -/
structure Pg where
  kind : Int
  level : Int
  items : List It
  data : List Nat
  next : Int
def It.zero : It := ⟨[], [], 0, 0⟩
def Pg.zero : Pg := ⟨0, 0, [], [], 0⟩
def isNum (n : Int) : Bool := decide (1 ≤ n) && decide (n ≤ 65536)
theorem isNum_iff {n : Int} : isNum n = true ↔ 1 ≤ n ∧ n ≤ 65536 := by unfold isNum; simp
/-- what a page of its kind has at all -/
def Pg.form (p : Pg) : Bool :=
  if p.kind = 3 then decide (p.level = 0) && decide (p.items.length = 0) && decide (1 ≤ p.data.length) && decide (p.data.length ≤ 480)
  else decide (p.data.length = 0) && decide (p.next = 0) && decide (p.items.length ≤ 8) && (if p.kind = 1 then decide (p.level = 0) && decide (1 ≤ p.items.length) else decide (1 ≤ p.level) && decide (p.level ≤ 11) && decide (2 ≤ p.items.length))
def Pg.at (p : Pg) (i : Nat) : It := p.items.getD i It.zero
def Pg.keyOk (p : Pg) (i : Nat) : Bool := if p.kind = 2 ∧ i = 0 then decide ((p.at i).key.length = 0) else decide (1 ≤ (p.at i).key.length) && decide ((p.at i).key.length ≤ 24)
def It.valOk (kind : Int) (x : It) : Bool := if kind = 2 then decide (x.val.length = 0) && decide (x.size = 0) else if x.size < 0 ∨ 3840 < x.size then false else if x.size ≤ 32 then decide ((x.val.length : Int) = x.size) else decide (x.val.length = 0)
def It.kidOk (kind : Int) (x : It) : Bool := if kind = 1 ∧ x.size ≤ 32 then decide (x.child = 0) else isNum x.child
def Pg.ordOk (p : Pg) (i : Nat) : Bool := decide (i = 0) || decide (0 < cmpB (p.at i).key (p.at (i - 1)).key)
/-- what is wrong with an item -/
def Pg.itemE (p : Pg) (i : Nat) : Nat := if p.keyOk i = false then 7 else if p.ordOk i = false then 11 else if (p.at i).valOk p.kind = false then 8 else if (p.at i).kidOk p.kind = false then 15 else 0
/-- the first that is wrong -/
def firstE (f : Nat → Nat) : Nat → Nat
  | 0 => 0
  | n + 1 => if firstE f n ≠ 0 then firstE f n else f n
theorem firstE_zero {f : Nat → Nat} : ∀ {n}, firstE f n = 0 → ∀ i, i < n → f i = 0
  | 0, _, i, hi => absurd hi (Nat.not_lt_zero _)
  | n + 1, h, i, hi => by
    unfold firstE at h
    split at h
    · exact absurd h ‹_›
    · rename_i h0
      by_cases e : i = n
      · rw [e]; exact h
      · exact firstE_zero (n := n) (by simpa using h0) i (by omega)
theorem firstE_of {f : Nat → Nat} : ∀ {n}, (∀ i, i < n → f i = 0) → firstE f n = 0
  | 0, _ => rfl
  | n + 1, h => by
    have := firstE_of (n := n) fun i hi => h i (by omega)
    unfold firstE
    rw [this]
    exact h n (by omega)
def Pg.kindOk (p : Pg) : Bool := decide (p.kind = 1) || decide (p.kind = 2) || decide (p.kind = 3)
theorem Pg.kindOk_iff {p : Pg} : p.kindOk = true ↔ p.kind = 1 ∨ p.kind = 2 ∨ p.kind = 3 := by unfold Pg.kindOk; simp [or_assoc]
def Pg.nextOk (p : Pg) : Bool := !(decide (p.kind = 3) && decide (p.next ≠ 0) && !isNum p.next)
/-- what is wrong with a page -/
def Pg.check (p : Pg) : Nat := if p.kindOk = false then 22 else if p.form = false then 5 else if firstE p.itemE p.items.length ≠ 0 then firstE p.itemE p.items.length else if p.nextOk = false then 15 else 0
structure Sound (p : Pg) : Prop where
  k : p.kindOk = true
  f : p.form = true
  i : ∀ i, i < p.items.length → p.itemE i = 0
  n : p.nextOk = true
theorem Pg.check_zero {p : Pg} : p.check = 0 ↔ Sound p := by
  unfold Pg.check
  constructor
  · intro h
    split at h
    · cases h
    split at h
    · cases h
    split at h
    · rename_i h1; exact absurd h h1
    split at h
    · cases h
    · rename_i h1 h2 h3 h4
      exact ⟨by simpa using h1, by simpa using h2, firstE_zero (by simpa using h3), by simpa using h4⟩
  · intro h
    rw [if_neg (by rw [h.k]; simp), if_neg (by rw [h.f]; simp), firstE_of h.i, if_neg (by simp), if_neg (by rw [h.n]; simp)]
theorem itemE_zero {p : Pg} {i : Nat} : p.itemE i = 0 ↔ p.keyOk i = true ∧ p.ordOk i = true ∧ (p.at i).valOk p.kind = true ∧ (p.at i).kidOk p.kind = true := by
  unfold Pg.itemE
  cases p.keyOk i <;> cases p.ordOk i <;> cases (p.at i).valOk p.kind <;> cases (p.at i).kidOk p.kind <;> simp
theorem mem_at {p : Pg} {x : It} (h : x ∈ p.items) : ∃ i, i < p.items.length ∧ p.at i = x := by
  obtain ⟨i, hi, e⟩ := List.mem_iff_getElem.1 h
  exact ⟨i, hi, by unfold Pg.at; simp [hi, e]⟩
/-- what a sound page's item has -/
structure Fits (kind : Int) (x : It) : Prop where
  key : x.key.length ≤ 24
  leaf : kind = 1 → 0 ≤ x.size ∧ x.size ≤ 3840 ∧ (x.size ≤ 32 → (x.val.length : Int) = x.size ∧ x.child = 0) ∧ (32 < x.size → x.val = [] ∧ 1 ≤ x.child ∧ x.child ≤ 65536)
  index : kind = 2 → x.val = [] ∧ x.size = 0 ∧ 1 ≤ x.child ∧ x.child ≤ 65536
theorem Sound.fits {p : Pg} (h : Sound p) {x : It} (hx : x ∈ p.items) : Fits p.kind x := by
  obtain ⟨i, hi, rfl⟩ := mem_at hx
  obtain ⟨h1, _, h3, h4⟩ := itemE_zero.1 (h.i i hi)
  refine ⟨?_, ?_, ?_⟩
  · unfold Pg.keyOk at h1
    split at h1
    · simp at h1
      rw [h1]; simp
    · simp at h1
      exact h1.2
  · intro hk1
    unfold It.valOk at h3
    unfold It.kidOk at h4
    rw [if_neg (by omega)] at h3
    split at h3
    · cases h3
    · rename_i hs
      refine ⟨by omega, by omega, fun h32 => ?_, fun h32 => ?_⟩
      · rw [if_pos h32] at h3
        rw [if_pos ⟨hk1, h32⟩] at h4
        simp at h3 h4
        exact ⟨h3, h4⟩
      · rw [if_neg (by omega)] at h3
        rw [if_neg (by omega)] at h4
        simp at h3
        have := isNum_iff.1 h4
        exact ⟨h3, this⟩
  · intro hk2
    unfold It.valOk at h3
    unfold It.kidOk at h4
    rw [if_pos hk2] at h3
    rw [if_neg (by omega)] at h4
    simp at h3
    exact ⟨h3.1, h3.2, isNum_iff.1 h4⟩
theorem Sound.blob {p : Pg} (h : Sound p) (hk : p.kind = 3) : p.level = 0 ∧ p.items = [] ∧ 1 ≤ p.data.length ∧ p.data.length ≤ 480 ∧ 0 ≤ p.next ∧ p.next ≤ 65536 := by
  have hf := h.f
  have hn := h.n
  unfold Pg.form at hf
  unfold Pg.nextOk at hn
  rw [if_pos hk] at hf
  simp at hf
  simp [hk] at hn
  obtain ⟨⟨⟨h1, h2⟩, h3⟩, h4⟩ := hf
  refine ⟨h1, h2, h3, h4, ?_⟩
  by_cases h0 : p.next = 0
  · omega
  · have := isNum_iff.1 (hn.resolve_left h0); omega
theorem Sound.node {p : Pg} (h : Sound p) (hk : p.kind = 1 ∨ p.kind = 2) : p.data = [] ∧ p.next = 0 ∧ p.items.length ≤ 8 ∧ 0 ≤ p.level ∧ p.level ≤ 11 := by
  have hf := h.f
  unfold Pg.form at hf
  rw [if_neg (by omega)] at hf
  simp at hf
  obtain ⟨⟨⟨h1, h2⟩, h3⟩, h4⟩ := hf
  refine ⟨h1, h2, h3, ?_⟩
  split at h4
  · have : p.level = 0 := by grind
    omega
  · have : 1 ≤ p.level ∧ p.level ≤ 11 := by grind
    omega
/-- the bytes of an item -/
def It.bytes (kind : Int) (x : It) : List Nat := numB x.key.length 1 ++ x.key ++ (if kind = 1 then numB x.size.toNat 2 ++ (if x.size ≤ 32 then x.val else numB x.child.toNat 4) else numB x.child.toNat 4)
def Pg.tail (p : Pg) : List Nat := if p.kind = 3 then numB p.data.length 2 ++ numB p.next.toNat 4 ++ p.data else numB p.items.length 1 ++ p.items.flatMap (It.bytes p.kind)
def body (no gen : Int) (p : Pg) : List Nat := numB p.kind.toNat 1 ++ numB p.level.toNat 1 ++ numB no.toNat 4 ++ numB gen.toNat 8 ++ p.tail
def padded (b : List Nat) : List Nat := b ++ List.replicate (508 - b.length) 0
def summed (b : List Nat) : List Nat := padded b ++ numB (M.of (padded b)) 4
def blk (no gen : Int) (p : Pg) : List Nat := summed (body no gen p)
/-! bytes -/
def It.b8 (x : It) : Prop := B8 x.key ∧ B8 x.val
def Pg.b8 (p : Pg) : Prop := (∀ x ∈ p.items, x.b8) ∧ B8 p.data
/-! what a page leads to -/
def Pg.kids (p : Pg) : List Int := if p.kind = 2 then p.items.map It.child else if p.kind = 1 then (p.items.map It.child).filter (fun c => decide (c ≠ 0)) else if p.kind = 3 ∧ p.next ≠ 0 then [p.next] else []
end Go.Proofs.YtbhigodjbfoeoaaGreat
namespace Go.Proofs.YtbhigodjbfoeoaaGreat
/-! ### numbers there and back -/
/-! ### a reader -/
/-! ### items, as the program reads them -/
/-! ### what a block tells, as the program reads it -/
structure Ct where
  no : Int
  gen : Int
  page : Pg
def Ct.zero : Ct := ⟨0, 0, Pg.zero⟩
end Go.Proofs.YtbhigodjbfoeoaaGreat
namespace Go.Proofs.YtbhigodjbfoeoaaGreat
/-! ### what a block tells, as the document guesses it -/
def gn (b : List Nat) : Nat := numV ((b.drop 6).take 8)
theorem take_app {l r : List Nat} {n : Nat} (h : n = l.length) : (l ++ r).take n = l := by subst h; simp
theorem drop_app {l r : List Nat} {n : Nat} (h : n = l.length) : (l ++ r).drop n = r := by subst h; simp
theorem drop_app2 {l m r : List Nat} {n : Nat} (h : n = l.length + m.length) : (l ++ (m ++ r)).drop n = r := by subst h; rw [← List.append_assoc]; exact drop_app (by simp)
theorem drop_app3 {l m k r : List Nat} {n : Nat} (h : n = l.length + m.length + k.length) : (l ++ (m ++ (k ++ r))).drop n = r := by
  subst h
  rw [← List.append_assoc, ← List.append_assoc]
  exact drop_app (by simp; omega)
theorem drop_app4 {l m k q r : List Nat} {n : Nat} (h : n = l.length + m.length + k.length + q.length) : (l ++ (m ++ (k ++ (q ++ r)))).drop n = r := by
  subst h
  rw [← List.append_assoc, ← List.append_assoc, ← List.append_assoc]
  exact drop_app (by simp; omega)
/-! ### the head of a block -/
def rest (p : Pg) (no gen : Int) : List Nat := p.tail ++ (List.replicate (508 - (body no gen p).length) 0 ++ numB (M.of (padded (body no gen p))) 4)
theorem getD_app (x : Nat) (r : List Nat) : (numB x 1 ++ r).getD 0 0 = x % 256 := by simp [numB]
theorem getD_drop' (l : List Nat) (i : Nat) : l.getD i 0 = (l.drop i).getD 0 0 := by simp
structure Hd (p : Pg) (no gen : Int) (b : List Nat) (r : List Nat) : Prop where
  k : b.getD 0 0 = p.kind.toNat % 256
  l : b.getD 1 0 = p.level.toNat % 256
  n : (b.drop 2).take 4 = numB no.toNat 4
  g : (b.drop 6).take 8 = numB gen.toNat 8
  t : b.drop 14 = r
theorem Hd.of (p : Pg) (no gen : Int) (r : List Nat) : Hd p no gen (numB p.kind.toNat 1 ++ (numB p.level.toNat 1 ++ (numB no.toNat 4 ++ (numB gen.toNat 8 ++ r)))) r := by
  have l1 := numB_length p.kind.toNat 1
  have l2 := numB_length p.level.toNat 1
  have l3 := numB_length no.toNat 4
  have l4 := numB_length gen.toNat 8
  refine ⟨getD_app _ _, ?_, ?_, ?_, drop_app4 (by omega)⟩
  · rw [getD_drop', drop_app l1.symm, getD_app]
  · rw [drop_app2 (by omega), take_app l3.symm]
  · rw [drop_app3 (by omega), take_app l4.symm]
theorem Sound.nums {p : Pg} (h : Sound p) : p.kind.toNat % 256 = p.kind.toNat ∧ p.level.toNat % 256 = p.level.toNat ∧ (p.kind.toNat : Int) = p.kind ∧ (p.level.toNat : Int) = p.level := by
  have hk := Pg.kindOk_iff.1 h.k
  have hl : 0 ≤ p.level ∧ p.level ≤ 11 := by
    rcases hk with hk | hk | hk
    · have := h.node (.inl hk); omega
    · have := h.node (.inr hk); omega
    · have := h.blob hk; omega
  omega
end Go.Proofs.YtbhigodjbfoeoaaGreat
namespace Go.Proofs.YtbhigodjbfoeoaaGreat
/-! ### what Decode answers -/
end Go.Proofs.YtbhigodjbfoeoaaGreat
namespace Go.Proofs.YtbhigodjbfoeoaaGreat
/-! the first page of the examples -/
end Go.Proofs.YtbhigodjbfoeoaaGreat
