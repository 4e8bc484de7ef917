import Derived.Test.YtifhkfghjifecaaZA
import Derived.Test.YtifhkfghjifecaaPN
import Derived.Test.YtifhkfghjifecaaPSX
namespace Go.Proofs.Ytifhkfghjifecaa

def isGen (g : Int) : Bool := decide (0 ≤ g) && decide (g ≤ 1099511627776)
theorem isGen_iff {n : Int} : isGen n = true ↔ 0 ≤ n ∧ n ≤ 1099511627776 := by unfold isGen; simp
def padded (b : List Nat) : List Nat := b ++ List.replicate (508 - b.length) 0
def summed (b : List Nat) : List Nat := padded b ++ numB (M.of (padded b)) 4
theorem padded_length {b : List Nat} (h : b.length ≤ 508) : (padded b).length = 508 := by
  unfold padded; rw [List.length_append, List.length_replicate]; omega
theorem summed_length {b : List Nat} (h : b.length ≤ 508) : (summed b).length = 512 := by
  unfold summed; rw [List.length_append, padded_length h, numB_length]
theorem numB_b8 (x k : Nat) : B8 (numB x k) := numB_lt x k
theorem padded_b8 {b : List Nat} (h : B8 b) : B8 (padded b) := B8.app.2 ⟨h, fun x hx => by rw [(List.mem_replicate.1 hx).2]; decide⟩
theorem summed_b8 {b : List Nat} (h : B8 b) : B8 (summed b) := B8.app.2 ⟨padded_b8 h, numB_b8 _ _⟩
theorem numV_numB : ∀ (k x : Nat), x < 256 ^ k → numV (numB x k) = x
  | 0, x, h => by simp at h; subst h; rfl
  | k + 1, x, h => by
    have h1 : x / 256 < 256 ^ k := by rw [Nat.pow_succ] at h; exact Nat.div_lt_of_lt_mul (by omega)
    simp only [numB, numV, numV_numB k (x / 256) h1]
    omega
theorem numB_numV : ∀ (l : List Nat), B8 l → numB (numV l) l.length = l
  | [], _ => rfl
  | x :: r, h => by
    have h1 := (B8.cons.1 h).1
    have ih := numB_numV r (B8.cons.1 h).2
    simp only [numV, List.length_cons, numB]
    rw [show (x + 256 * numV r) % 256 = x by omega, show (x + 256 * numV r) / 256 = numV r by omega, ih]
def RS.get (s : RS) (k : Nat) : Nat × RS := if s.fail k ≠ 0 then (0, ⟨s.l, s.fail k⟩) else (numV (s.l.take k), ⟨s.l.drop k, 0⟩)
theorem RS.get_ok {s : RS} {k : Nat} (hb : B8 s.l) (h : (s.get k).2.e = 0) : s.e = 0 ∧ s.l = numB (s.get k).1 k ++ (s.get k).2.l := by
  unfold RS.get at *
  split at h
  · rename_i h0; exact absurd h h0
  · rename_i h0
    rw [if_neg h0]
    obtain ⟨h1, _, h3⟩ := RS.fail_zero (by simpa using h0)
    refine ⟨h1, ?_⟩
    have hl : (s.l.take k).length = k := by rw [List.length_take]; omega
    have := numB_numV (s.l.take k) (hb.take k)
    rw [hl] at this
    show s.l = numB (numV (s.l.take k)) k ++ s.l.drop k
    rw [this, List.take_append_drop]
theorem RS.get_lt {s : RS} {k : Nat} (hb : B8 s.l) : (s.get k).1 < 256 ^ k := by
  unfold RS.get
  split
  · exact Nat.pow_pos (by decide)
  · have h1 := numV_lt (s.l.take k) (hb.take k)
    refine Nat.lt_of_lt_of_le h1 (Nat.pow_le_pow_right (by decide) ?_)
    rw [List.length_take]; omega
theorem RS.get_b8 {s : RS} {k : Nat} (hb : B8 s.l) : B8 (s.get k).2.l := by
  unfold RS.get
  split
  · exact hb
  · exact fun x hx => hb x (List.mem_of_mem_drop hx)
theorem RS.get_of (r : List Nat) (v k : Nat) (hv : v < 256 ^ k) : (⟨numB v k ++ r, 0⟩ : RS).get k = (v, ⟨r, 0⟩) := by
  unfold RS.get
  have hf : (⟨numB v k ++ r, 0⟩ : RS).fail k = 0 := RS.fail_ok rfl (by omega) (by simp [numB_length]; omega)
  rw [if_neg (by rw [hf]; simp)]
  have h1 : (numB v k ++ r).take k = numB v k := by rw [List.take_append_of_le_length (by rw [numB_length]; omega), List.take_of_length_le (by rw [numB_length]; omega)]
  have h2 : (numB v k ++ r).drop k = r := by rw [List.drop_append_of_le_length (by rw [numB_length]; omega), List.drop_of_length_le (by rw [numB_length]; omega), List.nil_append]
  show (numV ((numB v k ++ r).take k), (⟨(numB v k ++ r).drop k, 0⟩ : RS)) = _
  rw [h1, h2, numV_numB k v hv]
theorem get_cut {l : List Nat} {k : Nat} (h : k ≤ l.length) : (⟨l, 0⟩ : RS).get k = (numV (l.take k), ⟨l.drop k, 0⟩) := by
  unfold RS.get
  rw [if_neg (by rw [RS.fail_ok rfl (by omega) (by simpa using h)]; simp)]
theorem drop_b8 {l : List Nat} (h : B8 l) (n : Nat) : B8 (l.drop n) := fun x hx => h x (List.mem_of_mem_drop hx)
end Go.Proofs.Ytifhkfghjifecaa
