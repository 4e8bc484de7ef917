import Derived.Test.YtbhigodjbfoeoaaGreatWpHO
import Derived.Test.YtbhigodjbfoeoaaGreatWpHZR
import Derived.Test.YtbhigodjbfoeoaaGreatWpHF
namespace Go.Proofs.YtbhigodjbfoeoaaGreat
set_option linter.unusedVariables false
set_option linter.unusedSimpArgs false
open Go.RowKit
/-! ### BlobApart: items and texts in memory beside a vault -/
structure Ap (w : World) (b pb mb pages : Nat) (wx : World) (j : Nat) (S : Vs) (pc col : Nat → Nat) (aI : Option Addr) (cI : Nat) (L : List Iv) (N : List (List Nat)) (aT : Option Addr) (cT : Nat) (M : List Br) (tk : Nat) : Prop where
  v : Vw wx b S pb mb pc col
  old : ∀ k, k < w.heap.size → col k = 0
  bel : Below w.heap.size w wx
  it : Jw wx aI cI L
  ic : ∀ y, aI = some y → col y.block = 0 ∧ w.heap.size ≤ y.block
  tx : Ar wx aT cT (M.map bv)
  tc : ∀ y, aT = some y → col y.block = 0 ∧ w.heap.size ≤ y.block
  len : L.length = N.length
  sto : ∀ i, i < L.length → Sto wx col S (L.getD i Iv.zero) (N.getD i [])
  fr : (S.X.P.pages 1).length + tk = pages
  fl : S.fl = 0
  la : S.al.length ≤ 8 * j
  lm : S.X.P.mark ≤ 8 * j
  lc : S.X.ch.length ≤ 8 * j
  fine : Fine S.X.f
theorem Ap.keep {w : World} {b pb mb pages : Nat} {wx wy : World} {j : Nat} {S : Vs} {pc col : Nat → Nat} {aI : Option Addr} {cI : Nat} {L : List Iv} {N : List (List Nat)} {aT : Option Addr} {cT : Nat} {M : List Br} {tk : Nat} (h : Ap w b pb mb pages wx j S pc col aI cI L N aT cT M tk) (hb : Below wx.heap.size wx wy) : Ap w b pb mb pages wy j S pc col aI cI L N aT cT M tk :=
  ⟨h.v.keep hb, h.old, bt h.bel hb, h.it.keep hb, h.ic, h.tx.keep hb, h.tc, h.len, fun i hi => (h.sto i hi).keep hb, h.fr, h.fl, h.la, h.lm, h.lc, h.fine⟩
theorem Ap.more {w : World} {b pb mb pages : Nat} {wx : World} {j : Nat} {S : Vs} {pc col : Nat → Nat} {aI : Option Addr} {cI : Nat} {L : List Iv} {N : List (List Nat)} {aT : Option Addr} {cT : Nat} {M : List Br} {tk : Nat} (h : Ap w b pb mb pages wx j S pc col aI cI L N aT cT M tk) : Ap w b pb mb pages wx (j + 1) S pc col aI cI L N aT cT M tk :=
  ⟨h.v, h.old, h.bel, h.it, h.ic, h.tx, h.tc, h.len, h.sto, h.fr, h.fl, by have := h.la; omega, by have := h.lm; omega, by have := h.lc; omega, h.fine⟩
theorem Jw.nty13 {w : World} {a : Option Addr} {c : Nat} {L : List Iv} (h : Jw w a c L) {t : TypeId} {g : Nat} {cs : Array Value} (hg : w.heap[g]? = some (.cells cs t (0, 0))) (ht : t ≠ 34) {x : Addr} (hx : a = some x) : x.block ≠ g := by
  rcases h.cases with ⟨rfl, _⟩ | ⟨g', cur, rfl, hg', _⟩
  · cases hx
  · cases hx
    intro e
    have e : g' = g := e
    subst e
    rw [hg'] at hg
    simp only [Option.some.injEq, Obj.cells.injEq] at hg
    exact ht hg.2.1.symm
theorem Ar.nty13 {w : World} {a : Option Addr} {c : Nat} {vs : List Value} (h : Ar w a c vs) {t : TypeId} {g : Nat} {cs : Array Value} (hg : w.heap[g]? = some (.cells cs t (0, 0))) (ht : t ≠ 32) {x : Addr} (hx : a = some x) : x.block ≠ g := by
  rcases h.cases with ⟨rfl, _⟩ | ⟨g', cur, rfl, hg', _⟩
  · cases hx
  · cases hx
    intro e
    have e : g' = g := e
    subst e
    rw [hg'] at hg
    simp only [Option.some.injEq, Obj.cells.injEq] at hg
    exact ht hg.2.1.symm
theorem Ap.item {w : World} {b pb mb pages : Nat} {wx wy : World} {j : Nat} {S : Vs} {pc col : Nat → Nat} {aI : Option Addr} {cI : Nat} {L : List Iv} {N : List (List Nat)} {aT : Option Addr} {cT : Nat} {M : List Br} {tk : Nat} (h : Ap w b pb mb pages wx j S pc col aI cI L N aT cT M tk) {g c' : Nat} {x : Iv} {l : List Nat} (hx : Sto wx col S x l) (hJ : Jw wy (some ⟨g, 0, none⟩) c' (L ++ [x])) (hN : New wx aI (some ⟨g, 0, none⟩)) (hg : But (Q.InA aI) wx wy) : Ap w b pb mb pages wy j S pc col (some ⟨g, 0, none⟩) c' (L ++ [x]) (N ++ [l]) aT cT M tk := by
  have sz := h.bel.size
  have nI : ∀ {t : TypeId} {k : Nat} {cs : Array Value}, wx.heap[k]? = some (.cells cs t (0, 0)) → t ≠ 34 → ¬ Q.InA aI k := fun hk ht ⟨y, hy, e⟩ => h.it.nty13 hk ht hy e
  have nR : ∀ (y : Addr) (c : Nat) (l : List Nat), Rw wx (some y) c l → ¬ Q.InA aI y.block := fun y c l hr => by
    rintro ⟨z, hz, e⟩
    rcases h.it.cases with ⟨h0, _⟩ | ⟨g', cur, h0, hg', _⟩
    · rw [h0] at hz; cases hz
    · rw [h0] at hz
      cases hz
      exact hr.nty13 hg' (by decide) rfl e.symm
  refine ⟨h.v.but13 hg (fun k hk ⟨y, hy, e⟩ => hk (by rw [← e]; exact (h.ic y hy).1)), h.old, ?_, hJ, ?_, h.tx.but hg (fun y hy => ?_), h.tc, by rw [List.length_append, List.length_append, h.len]; rfl, fun i hi => ?_, h.fr, h.fl, h.la, h.lm, h.lc, h.fine⟩
  · exact ((But.ofBelow (S := Q.InA aI) h.bel).trans hg (fun _ _ e => e)).below (fun k hk ⟨y, hy, e⟩ => by have := (h.ic y hy).2; omega)
  · intro y hy
    cases hy
    rcases hN ⟨g, 0, none⟩ rfl with ⟨z, hz, e⟩ | e
    · have e : z.block = g := e
      show col g = 0 ∧ w.heap.size ≤ g
      rw [← e]; exact h.ic z hz
    · have e : wx.heap.size ≤ g := e
      exact ⟨h.v.z e, Nat.le_trans sz e⟩
  · rcases h.tx.cases with ⟨h0, _⟩ | ⟨g', cur, h0, hg', _⟩
    · rw [h0] at hy; cases hy
    · rw [h0] at hy
      cases hy
      exact nI hg' (by decide)
  · rw [List.length_append] at hi
    by_cases hl : i < L.length
    · have e1 : (L ++ [x]).getD i Iv.zero = L.getD i Iv.zero := by simp [List.getD_eq_getElem?_getD, List.getElem?_append_left hl]
      have e2 : (N ++ [l]).getD i [] = N.getD i [] := by simp [List.getD_eq_getElem?_getD, List.getElem?_append_left (show i < N.length by rw [← h.len]; exact hl)]
      rw [e1, e2]
      exact (h.sto i hl).but hg nR
    · obtain rfl : i = L.length := by simp at hi; omega
      have e1 : (L ++ [x]).getD L.length Iv.zero = x := by simp [List.getD_eq_getElem?_getD]
      have e2 : (N ++ [l]).getD L.length [] = l := by rw [h.len]; simp [List.getD_eq_getElem?_getD]
      rw [e1, e2]
      exact hx.but hg nR
theorem Ap.text {w : World} {b pb mb pages : Nat} {wx wy : World} {j : Nat} {S : Vs} {pc col : Nat → Nat} {aI : Option Addr} {cI : Nat} {L : List Iv} {N : List (List Nat)} {aT : Option Addr} {cT : Nat} {M : List Br} {tk : Nat} (h : Ap w b pb mb pages wx j S pc col aI cI L N aT cT M tk) {g c' : Nat} {x : Br} (hJ : Ar wy (some ⟨g, 0, none⟩) c' (M.map bv ++ [bv x])) (hN : New wx aT (some ⟨g, 0, none⟩)) (hg : But (Q.InA aT) wx wy) : Ap w b pb mb pages wy j S pc col aI cI L N (some ⟨g, 0, none⟩) c' (M ++ [x]) tk := by
  have sz := h.bel.size
  have nR : ∀ (y : Addr) (c : Nat) (l : List Nat), Rw wx (some y) c l → ¬ Q.InA aT y.block := fun y c l hr => by
    rintro ⟨z, hz, e⟩
    rcases h.tx.cases with ⟨h0, _⟩ | ⟨g', cur, h0, hg', _⟩
    · rw [h0] at hz; cases hz
    · rw [h0] at hz
      cases hz
      exact hr.nty13 hg' (by decide) rfl e.symm
  refine ⟨h.v.but13 hg (fun k hk ⟨y, hy, e⟩ => hk (by rw [← e]; exact (h.tc y hy).1)), h.old, ?_, h.it.but hg (fun y hy => ?_), h.ic, by rw [List.map_append]; exact hJ, ?_, h.len, fun i hi => (h.sto i hi).but hg nR, h.fr, h.fl, h.la, h.lm, h.lc, h.fine⟩
  · exact ((But.ofBelow (S := Q.InA aT) h.bel).trans hg (fun _ _ e => e)).below (fun k hk ⟨y, hy, e⟩ => by have := (h.tc y hy).2; omega)
  · rintro ⟨z, hz, e⟩
    rcases h.it.cases with ⟨h0, _⟩ | ⟨g', cur, h0, hg', _⟩
    · rw [h0] at hy; cases hy
    · rw [h0] at hy
      cases hy
      exact h.tx.nty13 hg' (by decide) hz e
  · intro y hy
    cases hy
    rcases hN ⟨g, 0, none⟩ rfl with ⟨z, hz, e⟩ | e
    · have e : z.block = g := e
      show col g = 0 ∧ w.heap.size ≤ g
      rw [← e]; exact h.tc z hz
    · have e : wx.heap.size ≤ g := e
      exact ⟨h.v.z e, Nat.le_trans sz e⟩
end Go.Proofs.YtbhigodjbfoeoaaGreat
