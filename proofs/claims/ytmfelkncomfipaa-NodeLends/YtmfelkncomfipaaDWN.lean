import Derived.Test.YtmfelkncomfipaaDWE
import Derived.Test.YtmfelkncomfipaaDMB
namespace Go.Proofs.Ytmfelkncomfipaa
set_option linter.unusedVariables false
set_option linter.unusedSimpArgs false
open Go.RowKit
theorem lends_any (w : World) (n m : Nat) : Calls Try.prog 42 #[.int .i64 (n : Int), .int .i64 (m : Int)] w fun e w' => e = .returned (.bool (mayL n m)) ∧ Below w.heap.size w w' := by
  have HE : Hid (mayL n m = (decide (2 ≤ n) && decide (1 ≤ m) && decide (m < 8))) := rfl
  by_cases h1 : 2 ≤ n
  · have d1 : decide ((2 : Int) ≤ (n : Int)) = true := decide_eq_true (by omega)
    by_cases h2 : 1 ≤ m
    · have d2 : decide ((1 : Int) ≤ (m : Int)) = true := decide_eq_true (by omega)
      by_cases h3 : m < 8
      · have d3 : decide ((m : Int) < 8) = true := decide_eq_true (by omega)
        have e : mayL n m = true := by rw [HE.out]; simp [h1, h2, h3]
        rw [e]
        clear HE e
        go_enter Try.func42, Try.ntmps42
        go_wp2
        go_ret
        exact ⟨by first | rfl | simp_all, Below.refl _ _⟩
      · have d3 : decide ((m : Int) < 8) = false := decide_eq_false (by omega)
        have e : mayL n m = false := by rw [HE.out]; simp [h3]
        rw [e]
        clear HE e
        go_enter Try.func42, Try.ntmps42
        go_wp2
        go_ret
        exact ⟨by first | rfl | (simp; omega), Below.refl _ _⟩
    · have d2 : decide ((1 : Int) ≤ (m : Int)) = false := decide_eq_false (by omega)
      have e : mayL n m = false := by rw [HE.out]; simp [h2]
      rw [e]
      clear HE e
      go_enter Try.func42, Try.ntmps42
      go_wp2
      go_ret
      exact ⟨by first | rfl | (simp; omega), Below.refl _ _⟩
  · have d1 : decide ((2 : Int) ≤ (n : Int)) = false := decide_eq_false (by omega)
    have e : mayL n m = false := by rw [HE.out]; simp [h1]
    rw [e]
    clear HE e
    go_enter Try.func42, Try.ntmps42
    go_wp2
    go_ret
    exact ⟨by first | rfl | (simp; omega), Below.refl _ _⟩
/-- an item with another key -/
def Iv.rk (x : Iv) (a : Option Addr) (c : Nat) (k : List Nat) : Iv := ⟨a, c, k, x.aV, x.cV, x.val, x.child, x.size⟩
theorem Iv.rk_it (x : Iv) (a : Option Addr) (c : Nat) (k : List Nat) : (x.rk a c k).it = x.it.keyed k := rfl
theorem Jc_setK : ∀ (L : List Iv) (k : Nat) (a : Option Addr) (c : Nat) (key : List Nat), k < L.length → (Jc L).set (k * 4) (.slice a key.length c) = Jc (L.set k ((L.getD k Iv.zero).rk a c key))
  | [], k, _, _, _, h => by simp at h
  | v :: L, 0, a, c, key, _ => by
    have e : ∀ (x : Iv) (T : List Iv), Jc (x :: T) = .slice x.aK x.key.length x.cK :: .slice x.aV x.val.length x.cV :: .int .i64 x.child :: .int .i64 x.size :: Jc T := fun x T => by simp [Jc, Iv.cs]
    rw [e, Nat.zero_mul, List.set_cons_zero, List.set_cons_zero, e]
    rfl
  | v :: L, k + 1, a, c, key, h => by
    have e : ∀ (x : Iv) (T : List Iv), Jc (x :: T) = .slice x.aK x.key.length x.cK :: .slice x.aV x.val.length x.cV :: .int .i64 x.child :: .int .i64 x.size :: Jc T := fun x T => by simp [Jc, Iv.cs]
    rw [e, show (k + 1) * 4 = k * 4 + 1 + 1 + 1 + 1 by omega, List.set_cons_succ, List.set_cons_succ, List.set_cons_succ, List.set_cons_succ, Jc_setK L k a c key (by simpa using h), List.set_cons_succ, e, List.getD_cons_succ]
theorem Jw.setK {w : World} {g cap : Nat} {L : List Iv} (h : Jw w (some ⟨g, 0, none⟩) cap L) {k : Nat} (hk : k < L.length) (a : Option Addr) (c : Nat) (key : List Nat) : Jw (w.setCell ⟨g, k * 4, none⟩ (.slice a key.length c)) (some ⟨g, 0, none⟩) cap (L.set k ((L.getD k Iv.zero).rk a c key)) := by
  rcases h.cases with ⟨h0, _⟩ | ⟨g', cur, ha, hg, h1, h2, h3, h4⟩
  · cases h0
  · cases ha
    refine Jw.mk (heap_setCell_same _ _ _ _ _ _ hg) (by rw [List.length_set]; exact h1) h2 (by simpa using h3) ?_
    rw [Array.toList_setIfInBounds, List.length_set, List.take_set, h4]
    exact Jc_setK L k a c key hk
/-- a list of items in rows of bytes -/
structure Al (v W : World) (g c : Nat) (M : List Iv) : Prop where
  j : Jw W (some ⟨g, 0, none⟩) c M
  y : ∀ x ∈ M, Yo W x
  b : Below v.heap.size v W
  lg : v.heap.size ≤ g
theorem Al.keep {v W W' : World} {g c : Nat} {M : List Iv} (h : Al v W g c M) (hb : Below W.heap.size W W') : Al v W' g c M := ⟨h.j.keep hb, fun x hx => (h.y x hx).keep hb, bt h.b hb, h.lg⟩
theorem Ck.al {v W : World} {a : Option Addr} {c : Nat} {M L : List Iv} (h : Ck v W a c M L) (hp : 0 < M.length) : ∃ g, a = some ⟨g, 0, none⟩ ∧ Al v W g c M := by
  obtain ⟨g, ea, -, -⟩ := h.j.r.addr hp
  subst ea
  refine ⟨g, rfl, h.j.r, fun x hx => ?_, h.j.b, new_at h.j.n rfl⟩
  have io := Fam.io (h.f.sub (rows_sub hx))
  exact ⟨io.k.r, io.v.r, io.k8, io.v8, (h.n x hx).1, (h.n x hx).2⟩
theorem Yo.cell {W : World} {y : Iv} (h : Yo W y) {g c : Nat} {M : List Iv} (hJ : Jw W (some ⟨g, 0, none⟩) c M) (o : Nat) (u : Value) : Yo (W.setCell ⟨g, o, none⟩ u) y :=
  ⟨h.k.but (But.cell1 W g o u) (fun _ hx e => hJ.ne h.k rfl hx e.symm), h.v.but (But.cell1 W g o u) (fun _ hx e => hJ.ne h.v rfl hx e.symm), h.k8, h.v8, h.nc, h.ns⟩
theorem Al.setK {v W : World} {g c : Nat} {M : List Iv} (h : Al v W g c M) {k : Nat} (hk : k < M.length) {a : Option Addr} {ck : Nat} {key : List Nat} (hr : Rw W a ck key) (h8 : B8 key) : Al v (W.setCell ⟨g, k * 4, none⟩ (.slice a key.length ck)) g c (M.set k ((M.getD k Iv.zero).rk a ck key)) := by
  have hB := But.cell1 W g (k * 4) (.slice a key.length ck)
  have hlg := h.lg
  refine ⟨h.j.setK hk a ck key, fun x hx => ?_, ((But.ofBelow (S := fun k => k = g) h.b).trans hB (fun _ _ e => e)).below (fun k hk e => by omega), h.lg⟩
  rcases List.mem_or_eq_of_mem_set hx with hx | rfl
  · exact (h.y x hx).cell h.j _ _
  · have y0 := (h.y _ (getD_memR hk)).cell h.j (k * 4) (.slice a key.length ck)
    exact ⟨hr.but hB (fun _ hx e => h.j.ne hr rfl hx e.symm), y0.v, h8, y0.v8, y0.nc, y0.ns⟩
theorem Al.js {v W : World} {g c : Nat} {M : List Iv} (h : Al v W g c M) (hl : M.length ≤ 2199023255520) : Js W (some ⟨g, 0, none⟩) M := h.j.qs (fun r hr => (h.y r hr).ii) hl
theorem Al.but {S : Nat → Prop} {v W W' : World} {g c : Nat} {M : List Iv} (h : Al v W g c M) (hb : But S W W') (hS : ∀ k, S k → ∃ t cs, Bx W t k cs ∧ t ≠ 5 ∧ t ≠ 40) (hw : Below v.heap.size v W') : Al v W' g c M := by
  refine ⟨h.j.but hb (fun x hx hs => ?_), fun y hy => ?_, hw, h.lg⟩
  · obtain ⟨t', cs, h1, h2, h3⟩ := hS _ hs
    exact h.j.nty h1 h3 hx rfl
  · have y0 := h.y y hy
    refine ⟨y0.k.but hb (fun x hx hs => ?_), y0.v.but hb (fun x hx hs => ?_), y0.k8, y0.v8, y0.nc, y0.ns⟩
    · obtain ⟨t', cs, h1, h2, h3⟩ := hS _ hs
      exact y0.k.nty h1 h2 hx rfl
    · obtain ⟨t', cs, h1, h2, h3⟩ := hS _ hs
      exact y0.v.nty h1 h2 hx rfl
/-! ### what the lists say -/
theorem jnd_items {l r : Pv} {s : List Nat} (h1 : 1 ≤ r.items.length) : jnd l.pg r.pg s = if r.kind = 2 then (l.items.map Iv.it ++ r.items.map Iv.it).set l.items.length ((r.items.getD 0 Iv.zero).it.keyed s) else l.items.map Iv.it ++ r.items.map Iv.it := by
  unfold jnd
  show l.items.map Iv.it ++ (if r.kind = 2 then (r.pg.at 0).keyed s else r.pg.at 0) :: (r.items.map Iv.it).drop 1 = _
  rw [Pv.at]
  cases hR : r.items with
  | nil => rw [hR] at h1; simp at h1
  | cons x T =>
    by_cases h : r.kind = 2
    · rw [if_pos h, if_pos h]
      simp [List.set_append]
    · rw [if_neg h, if_neg h]
      simp
theorem it_getD0 {L R : List Iv} {n : Nat} (h : L.length = n) : (L.map Iv.it ++ R.map Iv.it).getD n It.zero = (R.getD 0 Iv.zero).it := by
  subst h
  rw [← it_getD R 0]
  simp [List.getD_eq_getElem?_getD, List.getElem?_append_right]
theorem set_it {M : List Iv} {k : Nat} (hk : k < M.length) (a : Option Addr) (c : Nat) (key : List Nat) : (M.set k ((M.getD k Iv.zero).rk a c key)).map Iv.it = (M.map Iv.it).set k (((M.map Iv.it).getD k It.zero).keyed key) := by
  rw [List.map_set, Iv.rk_it, it_getD]
theorem set_take {α : Type} (M : List α) (k : Nat) (x : α) : (M.set k x).take k = M.take k := by
  rw [List.take_set, List.set_eq_of_length_le (by rw [List.length_take]; omega)]
theorem set_drop {α : Type} {M : List α} {k : Nat} (hk : k < M.length) (x : α) : (M.set k x).drop k = x :: M.drop (k + 1) := by
  rw [List.drop_set, if_neg (by omega), Nat.sub_self, List.drop_eq_getElem_cons hk, List.set_cons_zero]
end Go.Proofs.Ytmfelkncomfipaa
