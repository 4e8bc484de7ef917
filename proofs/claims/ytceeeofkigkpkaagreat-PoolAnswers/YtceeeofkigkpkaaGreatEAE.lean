import Derived.Test.YtceeeofkigkpkaaGreatEABX
namespace Go.Proofs.YtceeeofkigkpkaaGreat
set_option linter.unusedVariables false
open Go.RowKit

/-! ### PoolLeavesWhatLasts -/
theorem pcounts_len (P : Po) : P.counts.length = P.pg.length := by unfold Po.counts; rw [List.length_map]
theorem Np.away {w w1 : World} {b : Nat} {P : Po} {col : Nat → Nat} (h : Np w w1 b P col) {k : Nat} (hk : w1.heap.size ≤ k) : col k = 0 := by
  by_cases e : col k = 0
  · exact e
  · have := h.p.lt k e; omega
/-- a page that does not last had the count 0 when it was last settled -/
def Lt (P : Po) (K : List Int) : Prop := K.length = P.pg.length ∧ ∀ i, i < P.pg.length → (P.pg.getD i Pg.zero).2 = false → K.getD i 0 = 0
theorem act_two (P : Po) (n : Nat) (c : Int) (i : Nat) : ((P.act n c).pg.getD i Pg.zero).2 = (P.pg.getD i Pg.zero).2 := by
  show ((P.pg.set (n - 1) (c, (P.pg.getD (n - 1) Pg.zero).2)).getD i Pg.zero).2 = _
  simp only [List.getD_eq_getElem?_getD, List.getElem?_set]
  by_cases e : n - 1 = i
  · subst e
    by_cases h : n - 1 < P.pg.length
    · simp [h]
    · simp [h]
  · simp [e]
theorem Lt.act {P : Po} {K : List Int} (h : Lt P K) (n : Nat) (c : Int) : Lt (P.act n c) K := by
  have e : (P.act n c).pg.length = P.pg.length := List.length_set
  exact ⟨by rw [e]; exact h.1, fun i hi h2 => h.2 i (by rw [e] at hi; exact hi) (by rw [act_two] at h2; exact h2)⟩
theorem Lt.alloc {P : Po} {K : List Int} (h : Lt P K) : Lt P.alloc.2 K := by
  unfold Po.alloc
  split
  · exact h
  · exact h.act _ _
theorem Lt.step {P : Po} {K : List Int} (h : Lt P K) (o : Ov) (h10 : o.1 ≠ 10) : Lt (P.step o) K := by
  unfold Po.step
  by_cases h0 : o.1 = 0
  · rw [if_pos h0]; exact h.alloc
  rw [if_neg h0]
  by_cases h1 : o.1 = 1
  · rw [if_pos h1]
    unfold Po.inc
    split
    · exact h
    · split
      · exact h
      · exact h.act _ _
  rw [if_neg h1]
  by_cases h2 : o.1 = 2
  · rw [if_pos h2]
    unfold Po.dec
    split
    · exact h
    · exact h.act _ _
  rw [if_neg h2, if_neg h10]
  exact h
theorem Lt.counts {P : Po} (h : P.Ok) (hs : ∀ x ∈ P.pg, x.2 = decide (0 < x.1)) : Lt P P.counts := by
  refine ⟨pcounts_len P, fun i hi h2 => ?_⟩
  have m := getD_memP hi
  have e : P.counts.getD i 0 = (P.pg.getD i Pg.zero).1 := by unfold Po.counts; simp [hi]
  rw [e]
  have a := hs _ m
  rw [h2] at a
  have b := (h.cs _ m).1
  have := of_decide_eq_false a.symm
  omega
theorem Lt.start {r : Int} {C : List Int} (h : (Po.start r C).Ok) : Lt (Po.start r C) (Po.start r C).counts := Lt.counts h fun x hx => by
  obtain ⟨c, _, rfl⟩ := List.mem_map.1 (show x ∈ C.map _ from hx)
  rfl
theorem Lt.settle {P : Po} (h : P.Ok) : Lt P.settle P.settle.counts := Lt.counts h.settle fun x hx => by
  obtain ⟨c, _, rfl⟩ := List.mem_map.1 (show x ∈ P.pg.map _ from hx)
  rfl
theorem pages_one (P : Po) : P.pages 1 = pagesOf P.pg 1 := by unfold Po.pages; rw [if_pos (by decide)]; rfl
theorem alloc_none {P : Po} (h : P.pages 1 = []) : P.alloc = ((0, 12), P) := by
  rw [pages_one] at h; unfold Po.alloc; rw [h]
theorem alloc_some {P : Po} {K : List Int} (hL : Lt P K) {x : Int} {t : List Int} (h : P.pages 1 = x :: t) : P.alloc.1.1 = x ∧ P.alloc.1.2 = 0 ∧ 1 ≤ x ∧ x ≤ P.pg.length ∧ K.getD (x - 1).toNat 0 = 0 ∧ P.alloc.2.count x = 1 ∧ P.alloc.2.state x = 3 := by
  rw [pages_one] at h
  have e : P.alloc = ((x, 0), P.act x.toNat 1) := by unfold Po.alloc; rw [h]
  obtain ⟨z1, z2, z3⟩ := inS_iff.1 ((mem_pagesOf P.pg 1 x).1 (by rw [h]; exact List.mem_cons_self))
  obtain ⟨n, rfl⟩ : ∃ n : Nat, x = (n : Int) := ⟨x.toNat, by omega⟩
  rw [Int.toNat_natCast] at e
  have hn : n - 1 < P.pg.length := by omega
  have ez : ((n : Int) - 1).toNat = n - 1 := by omega
  rw [ez] at z3
  have two : (P.pg.getD (n - 1) Pg.zero).2 = false := by
    unfold stt at z3
    cases hb : (P.pg.getD (n - 1) Pg.zero).2 with
    | false => rfl
    | true => rw [hb] at z3; split at z3 <;> simp at z3
  have ha : (P.act n 1).pg.getD (n - 1) Pg.zero = (1, false) := by
    show (P.pg.set (n - 1) (1, (P.pg.getD (n - 1) Pg.zero).2)).getD (n - 1) Pg.zero = _
    rw [two, List.getD_eq_getElem?_getD, List.getElem?_set_self hn]; rfl
  have hl : (P.act n 1).pg.length = P.pg.length := List.length_set
  have hh : (P.act n 1).has n = true := Po.has_iff.2 ⟨by omega, by rw [hl]; omega⟩
  rw [e, ez]
  refine ⟨rfl, rfl, z1, z2, hL.2 _ hn two, ?_, ?_⟩
  · show (P.act n 1).count n = 1
    unfold Po.count
    rw [if_pos hh, ez, ha]
  · show (P.act n 1).state n = 3
    unfold Po.state
    rw [if_pos hh, ez, ha]; rfl
/-- a row of numbers apart from a pool -/
structure Lk (W : World) (c : Nat → Nat) (a : Option Addr) (d : Nat) (K : List Int) : Prop where
  r : Ig W a d K
  o : ∀ x, a = some x → c x.block = 0
theorem Lk.step {W W' : World} {c c' : Nat → Nat} {a : Option Addr} {d : Nat} {K : List Int} (h : Lk W c a d K) (f : Fr W c W' c') : Lk W' c' a d K := ⟨h.r.but f.b (fun x hx hc => hc (h.o x hx)), fun x hx => (f.c _ (h.r.lt hx)).trans (h.o x hx)⟩
theorem Lk.keep {W W' : World} {c : Nat → Nat} {a : Option Addr} {d : Nat} {K : List Int} (h : Lk W c a d K) (hb : Below W.heap.size W W') : Lk W' c a d K := ⟨h.r.keep hb, h.o⟩
theorem Lk.of {w W W' : World} {b : Nat} {P : Po} {c : Nat → Nat} {a : Option Addr} {d : Nat} {K : List Int} (h : Np w W b P c) (hI : IOwn W W' a d K) : Lk W' c a d K := ⟨hI.r, fun x hx => h.away (by
  rcases hI.n x hx with ⟨y, hy, _⟩ | h2
  · cases hy
  · exact h2)⟩
end Go.Proofs.YtceeeofkigkpkaaGreat
