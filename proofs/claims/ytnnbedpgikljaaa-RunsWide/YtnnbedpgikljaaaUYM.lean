import Derived.Test.YtnnbedpgikljaaaUYL
import Derived.Test.YtnnbedpgikljaaaUYG
import Derived.Test.YtnnbedpgikljaaaUQ
namespace Go.Proofs.Ytnnbedpgikljaaa
set_option linter.unusedVariables false
open Go.RowKit

/-! ### how many are new, how many were there -/
theorem nb_or {p q r : Int → Bool} (h : ∀ z, r z = (p z || q z)) (hd : ∀ z, p z = true → q z = false) (a : Int) : ∀ k : Nat, nb r a k = nb p a k + nb q a k
  | 0 => rfl
  | k + 1 => by
    rw [nb_succ, nb_succ, nb_succ, nb_or h hd a k, h]
    have := hd (a + k)
    cases hp : p (a + k)
    · cases q (a + k) <;> simp <;> omega
    · rw [this hp]
      simp
      omega
theorem nb_sub {q : Int → Bool} {lo hi : Int} (h1 : N64 lo) (h2 : N64 hi) (hq : ∀ z, q z = true → lo ≤ z ∧ z ≤ hi) : nb q (-9223372036854775808) 18446744073709551616 = nb q lo (hi - lo + 1).toNat := by
  obtain ⟨a1, a2⟩ := h1
  obtain ⟨b1, b2⟩ := h2
  have hf : ∀ z, ¬ (lo ≤ z ∧ z ≤ hi) → q z = false := fun z hz => by
    cases e : q z
    · rfl
    · exact absurd (hq z e) hz
  by_cases hle : lo ≤ hi
  · obtain ⟨i, hi'⟩ : ∃ i : Nat, (i : Int) = lo - (-9223372036854775808) := ⟨(lo - (-9223372036854775808)).toNat, by omega⟩
    obtain ⟨j, hj⟩ : ∃ j : Nat, j = (hi - lo + 1).toNat := ⟨_, rfl⟩
    obtain ⟨m, hm⟩ : ∃ m : Nat, (m : Int) = 9223372036854775807 - hi := ⟨(9223372036854775807 - hi).toNat, by omega⟩
    rw [show (18446744073709551616 : Nat) = i + j + m by omega, nb_add, nb_add, ← hj]
    rw [nb_none (p := q) (k := i) (fun x _ h => hf x (by omega)), nb_none (p := q) (k := m) (fun x h _ => hf x (by omega))]
    rw [show (-9223372036854775808 : Int) + (i : Int) = lo by omega]
    omega
  · rw [show (hi - lo + 1).toNat = 0 by omega, nb_none (p := q) (fun x _ _ => hf x (by omega))]
    rfl
theorem add_count {L R : List Rn} {lo hi : Int} (hL : Can L) (hR : Can R) (bL : ∀ r ∈ L, N64 r.1 ∧ N64 r.2) (bR : ∀ r ∈ R, N64 r.1 ∧ N64 r.2) (h1 : N64 lo) (h2 : N64 hi) (h : ∀ z, has R z = (has L z || (decide (lo ≤ z) && decide (z ≤ hi)))) :
    nb (fun z => !has L z) lo (hi - lo + 1).toNat = sz R - sz L := by
  have e := nb_or (p := has L) (q := fun z => (decide (lo ≤ z) && decide (z ≤ hi)) && !has L z) (r := has R) (fun z => by rw [h z]; cases has L z <;> simp) (fun z hz => by simp [hz]) (-9223372036854775808) 18446744073709551616
  rw [← sz_64 hL.ris bL, ← sz_64 hR.ris bR, nb_sub h1 h2 (fun z hz => by simp at hz; exact hz.1)] at e
  rw [e, Nat.add_sub_cancel_left]
  exact nb_congr fun x g1 g2 => by
    have : decide (lo ≤ x) = true := decide_eq_true g1
    have : decide (x ≤ hi) = true := decide_eq_true (by omega)
    simp [*]
theorem rem_count {L R : List Rn} {lo hi : Int} (hL : Can L) (hR : Can R) (bL : ∀ r ∈ L, N64 r.1 ∧ N64 r.2) (bR : ∀ r ∈ R, N64 r.1 ∧ N64 r.2) (h1 : N64 lo) (h2 : N64 hi) (h : ∀ z, has R z = (has L z && !(decide (lo ≤ z) && decide (z ≤ hi)))) :
    nb (has L) lo (hi - lo + 1).toNat = sz L - sz R := by
  have e := nb_or (p := has R) (q := fun z => (decide (lo ≤ z) && decide (z ≤ hi)) && has L z) (r := has L) (fun z => by rw [h z]; cases has L z <;> cases (decide (lo ≤ z) && decide (z ≤ hi)) <;> rfl) (fun z hz => by rw [h z] at hz; cases hq : (decide (lo ≤ z) && decide (z ≤ hi)) <;> simp_all) (-9223372036854775808) 18446744073709551616
  rw [← sz_64 hL.ris bL, ← sz_64 hR.ris bR, nb_sub h1 h2 (fun z hz => by simp at hz; exact hz.1)] at e
  rw [e, Nat.add_sub_cancel_left]
  exact nb_congr fun x g1 g2 => by
    have : decide (lo ≤ x) = true := decide_eq_true g1
    have : decide (x ≤ hi) = true := decide_eq_true (by omega)
    simp [*]
theorem Nm.n64 {x : Int} (h : Nm x) : N64 x := by unfold Nm at h; unfold N64; omega
theorem nm_wrap (x : Int) : Nm (IntKind.u32.wrap x) := by
  unfold Nm
  simp [IntKind.wrap, IntKind.bits, IntKind.signed]
  first
    | omega
    | (split <;> omega)
/-- an Op -/
structure Opv where
  k : Int
  who : Int
  tt : Int
  lo : Int
  hi : Int
  n : Int
  aL : Option Addr
  L : List Rn
  cL : Nat
def Opv.cs (o : Opv) : List Value := [.int .i64 o.k, .int .i64 o.who, .int .i64 o.tt, .int .i64 o.lo, .int .i64 o.hi, .int .i64 o.n, .slice o.aL o.L.length o.cL]
structure Opv.ok (o : Opv) (w : World) (Z : Nat → Prop) : Prop where
  k : N64 o.k
  who : N64 o.who
  tt : N64 o.tt
  lo : N64 o.lo
  hi : N64 o.hi
  n : N64 o.n
  ir : Rf.Vs w o.aL o.L
  bnd : ∀ r ∈ o.L, N64 r.1 ∧ N64 r.2
  len : o.L.length ≤ 8796093021952
  z : ∀ x, o.aL = some x → o.L ≠ [] → Z x.block
/-- what a call does -/
def Did (Z : Nat → Prop) (w : World) (X m : Nat) (e : Ending) (w' : World) : Prop := e = .returned (.bool true) ∧ ∃ D', Wk Z w' X (m + 1) D' ∧ But (fun k => ¬ Z k) w w'
theorem Wk.same {Z : Nat → Prop} {w w1 : World} {X m : Nat} {D : Dat} (h : Wk Z w X m D) (hb : Below w.heap.size w w1) : ∃ D', Wk Z w1 X (m + 1) D' ∧ But (fun k => ¬ Z k) w w1 := ⟨D, (h.keep hb).mono (by omega), But.ofBelow hb⟩
/-- one set of each has turned, in the same way -/
theorem Wk.turn {Z : Nat → Prop} {w w1 w2 : World} {X m : Nat} {D : Dat} (h : Wk Z w X m D) {i : Nat} (hi : i < 3) {a a' : Option Addr} {cap cap' : Nat} {L R : List Rn} (hS : St w1 (D.P i) a cap L) (hN : New w (D.pa i) a) (hB : But (fun k => k = D.P i ∨ InA (D.pa i) k) w w1) (hR : Rt w2 (D.R i) a' cap' R) (hN' : New w1 (D.ra i) a') (hB' : But (fun k => k = D.R i) w1 w2) (he : ∀ z, has L z = has R z) (hl : L.length ≤ 9000000000000) :
    ∃ D', Wk Z w2 X (m + 1) D' ∧ But (fun k => ¬ Z k) w w2 := by
  obtain ⟨c, hc⟩ := h.wc
  obtain ⟨c1, h1, z1⟩ := hc.putP hi hS (.inl rfl) hN hB
  obtain ⟨c2, h2, z2⟩ := h1.putR hi hR (.inl rfl) hN' hB'
  refine ⟨(D.setP i (D.P i) a cap L).setR i (D.R i) a' cap' R, ⟨⟨c2, ?_⟩, fun j hj => ?_, fun j hj => ?_, Nat.le_succ_of_le h.nw, Nat.le_succ_of_le h.nt, h.nv, h.tl⟩, z1.trans z2 (fun _ _ h => h)⟩
  · have e1 : ((D.setP i (D.P i) a cap L).setR i (D.R i) a' cap' R).cells = D.cells := (setR_cells (D.setP i (D.P i) a cap L) i a' cap' R).trans (setP_cells D i a cap L)
    rw [e1]
    exact h2
  · show upd D.S i L j = upd D.Q i R j
    by_cases e : j = i
    · subst e
      rw [upd_same, upd_same]
      exact can_unique hS.can hR.can he
    · rw [upd_ne _ _ e, upd_ne _ _ e]
      exact h.eq j hj
  · show (upd D.S i L j).length ≤ _
    by_cases e : j = i
    · subst e
      rw [upd_same]
      exact hS.nat
    · rw [upd_ne _ _ e]
      have := h.len j hj
      omega
end Go.Proofs.Ytnnbedpgikljaaa
