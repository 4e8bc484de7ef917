import Derived.Test.YtoachodngjlpaaaDF
import Derived.Test.YtoachodngjlpaaaDE
namespace Go.Proofs.Ytoachodngjlpaaa
set_option linter.unusedVariables false

/-! ### where a key stands -/
def srch (k : List Nat) : List It → Nat
  | [] => 0
  | x :: L => if x.key < k then srch k L + 1 else 0
def hasK (k : List Nat) (L : List It) : Bool := decide (srch k L < L.length) && decide ((L.getD (srch k L) It.zero).key = k)
def upto (k : List Nat) : List It → Nat
  | [] => 0
  | x :: L => if x.key ≤ k then upto k L + 1 else 0
def rout (k : List Nat) (L : List It) : Nat := upto k (L.drop 1)
theorem srch_le (k : List Nat) : ∀ L : List It, srch k L ≤ L.length
  | [] => Nat.le_refl _
  | x :: L => by
    have := srch_le k L
    simp only [srch, List.length_cons]
    split <;> omega
theorem srch_at (k : List Nat) : ∀ (L : List It) (j : Nat), j ≤ L.length → (∀ i, i < j → (L.getD i It.zero).key < k) → (j = L.length ∨ ¬ (L.getD j It.zero).key < k) → srch k L = j
  | [], j, h, _, _ => by simp at h; subst h; rfl
  | x :: L, 0, _, _, h => by
    rcases h with h | h
    · simp at h
    · simp only [List.getD_cons_zero] at h
      simp [srch, h]
  | x :: L, j + 1, h1, h2, h3 => by
    have h0 := h2 0 (by omega)
    simp only [List.getD_cons_zero] at h0
    simp only [srch, h0, if_true]
    rw [srch_at k L j (by simpa using h1) (fun i hi => by simpa using h2 (i + 1) (by omega)) (by simpa using h3)]
theorem srch_lt (k : List Nat) : ∀ (L : List It) (i : Nat), i < srch k L → (L.getD i It.zero).key < k
  | [], i, h => by simp [srch] at h
  | x :: L, i, h => by
    simp only [srch] at h
    split at h
    · cases i with
      | zero => simpa using ‹x.key < k›
      | succ i => simpa using srch_lt k L i (by omega)
    · omega
theorem srch_end (k : List Nat) : ∀ (L : List It), srch k L < L.length → ¬ (L.getD (srch k L) It.zero).key < k
  | [], h => by simp [srch] at h
  | x :: L, h => by
    simp only [srch] at h ⊢
    split
    · rename_i h0
      rw [if_pos h0] at h
      simpa using srch_end k L (by simpa using h)
    · simpa using ‹¬ x.key < k›
theorem upto_le (k : List Nat) : ∀ L : List It, upto k L ≤ L.length
  | [] => Nat.le_refl _
  | x :: L => by
    have := upto_le k L
    simp only [upto, List.length_cons]
    split <;> omega
theorem upto_at (k : List Nat) : ∀ (L : List It) (j : Nat), j ≤ L.length → (∀ i, i < j → (L.getD i It.zero).key ≤ k) → (j = L.length ∨ ¬ (L.getD j It.zero).key ≤ k) → upto k L = j
  | [], j, h, _, _ => by simp at h; subst h; rfl
  | x :: L, 0, _, _, h => by
    rcases h with h | h
    · simp at h
    · simp only [List.getD_cons_zero] at h
      simp [upto, h]
  | x :: L, j + 1, h1, h2, h3 => by
    have h0 := h2 0 (by omega)
    simp only [List.getD_cons_zero] at h0
    simp only [upto, h0, if_true]
    rw [upto_at k L j (by simpa using h1) (fun i hi => by simpa using h2 (i + 1) (by omega)) (by simpa using h3)]
theorem upto_lt (k : List Nat) : ∀ (L : List It) (i : Nat), i < upto k L → (L.getD i It.zero).key ≤ k
  | [], i, h => by simp [upto] at h
  | x :: L, i, h => by
    simp only [upto] at h
    split at h
    · cases i with
      | zero => simpa using ‹x.key ≤ k›
      | succ i => simpa using upto_lt k L i (by omega)
    · omega
theorem upto_end (k : List Nat) : ∀ (L : List It), upto k L < L.length → ¬ (L.getD (upto k L) It.zero).key ≤ k
  | [], h => by simp [upto] at h
  | x :: L, h => by
    simp only [upto] at h ⊢
    split
    · rename_i h0
      rw [if_pos h0] at h
      simpa using upto_end k L (by simpa using h)
    · simpa using ‹¬ x.key ≤ k›
theorem it_getD (L : List Iv) (i : Nat) : (L.map Iv.it).getD i It.zero = (L.getD i Iv.zero).it := by
  have : It.zero = Iv.zero.it := rfl
  rw [this]
  simp [List.getD_eq_getElem?_getD, List.getElem?_map]

/-! ### what is done with items -/
def Pg.wi (p : Pg) (L : List It) : Pg := { p with items := L }
def Pg.ins (p : Pg) (i : Int) (x : It) : Pg × Bool := if i < 0 ∨ (p.items.length : Int) < i ∨ 8 ≤ p.items.length then (Pg.zero, false) else (p.wi (p.items.take i.toNat ++ x :: p.items.drop i.toNat), true)
def Pg.rep (p : Pg) (i : Int) (x : It) : Pg × Bool := if i < 0 ∨ (p.items.length : Int) ≤ i then (Pg.zero, false) else (p.wi (p.items.take i.toNat ++ x :: p.items.drop (i.toNat + 1)), true)
def Pg.rem (p : Pg) (i : Int) : Pg × Bool := if i < 0 ∨ (p.items.length : Int) ≤ i then (Pg.zero, false) else (p.wi (p.items.take i.toNat ++ p.items.drop (i.toNat + 1)), true)
def mnt (k : Int) : Bool := decide (k = 1) || decide (k = 2)
def alk (l r : Pg) : Bool := mnt l.kind && decide (l.kind = r.kind) && decide (l.level = r.level)
def It.keyed (x : It) (k : List Nat) : It := { x with key := k }
def jnd (l r : Pg) (s : List Nat) : List It := l.items ++ (if r.kind = 2 then (r.at 0).keyed s else r.at 0) :: r.items.drop 1
/-- two halves of a page, and what lies between -/
structure Hv where
  l : Pg
  r : Pg
  s : List Nat
  ok : Bool
def Hv.none : Hv := ⟨Pg.zero, Pg.zero, [], false⟩
def prt (l r : Pg) : Hv :=
  if r.kind = 2 then ⟨l, r.wi ((r.at 0).keyed [] :: r.items.drop 1), (r.at 0).key, true⟩
  else if (between (l.at (l.items.length - 1)).key (r.at 0).key).2 then ⟨l, r, (between (l.at (l.items.length - 1)).key (r.at 0).key).1, true⟩ else Hv.none
def spl (p : Pg) : Hv := if mnt p.kind = true ∧ p.items.length = 8 then prt (p.wi (p.items.take 4)) (p.wi (p.items.drop 4)) else Hv.none
def joi (l r : Pg) (s : List Nat) : Pg × Bool := if alk l r = true ∧ 1 ≤ l.items.length ∧ 1 ≤ r.items.length ∧ l.items.length + r.items.length ≤ 8 then (l.wi (jnd l r s), true) else (Pg.zero, false)
def mayL (n m : Nat) : Bool := decide (2 ≤ n) && decide (1 ≤ m) && decide (m < 8)
def lend (l r : Pg) (s : List Nat) (t : Bool) : Hv :=
  if alk l r = true ∧ (if t then mayL l.items.length r.items.length else mayL r.items.length l.items.length) = true then
    (if t then prt (l.wi ((jnd l r s).take (l.items.length - 1))) (r.wi ((jnd l r s).drop (l.items.length - 1)))
     else prt (l.wi ((jnd l r s).take (l.items.length + 1))) (r.wi ((jnd l r s).drop (l.items.length + 1))))
  else Hv.none
end Go.Proofs.Ytoachodngjlpaaa
