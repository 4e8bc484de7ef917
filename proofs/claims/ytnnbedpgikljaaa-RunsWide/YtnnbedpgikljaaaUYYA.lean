import Derived.Test.YtnnbedpgikljaaaUYM
import Derived.Test.YtnnbedpgikljaaaUT
import Derived.Test.YtnnbedpgikljaaaUYO
namespace Go.Proofs.Ytnnbedpgikljaaa
set_option linter.unusedVariables false
open Go.RowKit

/-! ### the work, while its three sets are being made -/
def born (P R : Nat → Nat) (pa : Nat → Option Addr) (pc : Nat → Nat) : Dat := ⟨P, pa, pc, fun _ => [], R, fun _ => none, fun _ => 0, fun _ => [], none, 0, 0, [], none, 0, 0, [], none, 0, [], 0, fun _ => [], fun _ => []⟩
def bornC (n : Nat) (P R : Nat → Nat) : List Value := [if 0 < n then pt (P 0) else .pointer none, if 1 < n then pt (P 1) else .pointer none, if 2 < n then pt (P 2) else .pointer none, if 0 < n then pt (R 0) else .pointer none, if 1 < n then pt (R 1) else .pointer none, if 2 < n then pt (R 2) else .pointer none, .slice none 0 0, .slice none 0 0, .slice none 0 0]
theorem bornC_set {n : Nat} (hn : n < 3) (P R : Nat → Nat) (b r : Nat) : ((bornC n P R).set n (pt b)).set (3 + n) (pt r) = bornC (n + 1) (upd P n b) (upd R n r) := by
  match n, hn with
  | 0, _ => rfl
  | 1, _ => rfl
  | 2, _ => rfl
theorem bornC_set2 {n : Nat} (hn : n < 3) (P R : Nat → Nat) (b r : Nat) : ((bornC n P R).set (3 + n) (pt r)).set n (pt b) = bornC (n + 1) (upd P n b) (upd R n r) := by
  match n, hn with
  | 0, _ => rfl
  | 1, _ => rfl
  | 2, _ => rfl
structure Pre (B : Nat) (w : World) (X n : Nat) (P R : Nat → Nat) (pa : Nat → Option Addr) (pc : Nat → Nat) : Prop where
  blk : w.heap[X]? = some (.cells (bornC n P R).toArray 35 (0, 0))
  col : ∃ c : Nat → Nat, c X = 7 ∧ (∀ i, i < n → c (P i) = i + 1 ∧ ∀ x, pa i = some x → c x.block = i + 1) ∧ (∀ i, i < n → c (R i) = i + 4) ∧ ∀ k, k < B → c k = 11
  st : ∀ i, i < n → St w (P i) (pa i) (pc i) []
  rt : ∀ i, i < n → Rt w (R i) none 0 []
  hB : B ≤ w.heap.size
theorem Pre.lt {B : Nat} {w : World} {X n : Nat} {P R : Nat → Nat} {pa : Nat → Option Addr} {pc : Nat → Nat} (h : Pre B w X n P R pa pc) : X < w.heap.size := (Array.getElem?_eq_some_iff.1 h.blk).1
theorem Pre.start (w : World) (P R : Nat → Nat) (pa : Nat → Option Addr) (pc : Nat → Nat) (B : Nat) (hB : B ≤ w.heap.size) : Pre B (w.alloc (.cells (bornC 0 P R).toArray 35)) w.heap.size 0 P R pa pc where
  blk := World.alloc_heap_new w _
  col := ⟨fun k => if k = w.heap.size then 7 else 11, if_pos rfl, fun i hi => absurd hi (Nat.not_lt_zero i), fun i hi => absurd hi (Nat.not_lt_zero i), fun k hk => if_neg (by omega)⟩
  st := fun i hi => absurd hi (Nat.not_lt_zero i)
  rt := fun i hi => absurd hi (Nat.not_lt_zero i)
  hB := by rw [size_alloc]; omega
theorem Pre.keep {B : Nat} {w w1 : World} {X n : Nat} {P R : Nat → Nat} {pa : Nat → Option Addr} {pc : Nat → Nat} (h : Pre B w X n P R pa pc) (hb : Below w.heap.size w w1) : Pre B w1 X n P R pa pc :=
  ⟨(But.ofBelow (S := fun _ => False) hb).same h.blk (fun e => e), h.col, fun i hi => (h.st i hi).keep hb, fun i hi => (h.rt i hi).keep hb, Nat.le_trans h.hB hb.size⟩
/-- one more set of each -/
theorem Pre.next {B : Nat} {w : World} {X n : Nat} {P R : Nat → Nat} {pa : Nat → Option Addr} {pc : Nat → Nat} (h : Pre B w X n P R pa pc) (hn : n < 3) {w3 : World} {b r : Nat} {a : Option Addr} {cap : Nat} (hs : But (fun k => k = X) w w3) (hS : St w3 b a cap []) (hR : Rt w3 r none 0 []) (hb : w.heap.size ≤ b) (ha : ∀ x, a = some x → w.heap.size ≤ x.block) (hr : w.heap.size ≤ r) (hbr : b ≠ r) (har : ∀ x, a = some x → x.block ≠ r)
    (e3 : w3.heap[X]? = some (.cells (((bornC n P R).set n (pt b)).set (3 + n) (pt r)).toArray 35 (0, 0))) :
    w3.cell? ⟨X, n, none⟩ = some (.pointer (some ⟨b, 0, none⟩)) ∧ Hid (∃ P' R' pa' pc', Pre B w3 X (n + 1) P' R' pa' pc') := by
  obtain ⟨c, c1, c2, c3, c4⟩ := h.col
  have xlt := h.lt
  rw [bornC_set hn] at e3
  have old : ∀ k, k < w.heap.size → (if k = r then n + 4 else recol c w.heap.size (n + 1) k) = c k := fun k hk => by rw [if_neg (by omega), recol_old hk]
  refine ⟨?_, hide ⟨_, _, upd pa n a, upd pc n cap, e3, ⟨fun k => if k = r then n + 4 else recol c w.heap.size (n + 1) k, (old X xlt).trans c1, fun i hi => ?_, fun i hi => ?_, fun k hk => (old k (Nat.lt_of_lt_of_le hk h.hB)).trans (c4 k hk)⟩, fun i hi => ?_, fun i hi => ?_, Nat.le_trans h.hB hs.size⟩⟩
  · rw [cell_of_row _ _ _ _ _ _ e3]
    match n, hn with
    | 0, _ => rfl
    | 1, _ => rfl
    | 2, _ => rfl
  · by_cases e : i = n
    · subst e
      rw [upd_same, upd_same]
      refine ⟨?_, fun x hx => ?_⟩
      · show (if b = r then _ else _) = _
        rw [if_neg hbr, recol_new hb]
      · show (if x.block = r then _ else _) = _
        rw [if_neg (har x hx), recol_new (ha x hx)]
    · rw [upd_ne _ _ e, upd_ne _ _ e]
      have hi' : i < n := by omega
      exact ⟨(old _ (h.st i hi').lt).trans (c2 i hi').1, fun x hx => (old _ ((h.st i hi').row.lt hx)).trans ((c2 i hi').2 x hx)⟩
  · by_cases e : i = n
    · subst e
      rw [upd_same]
      exact if_pos rfl
    · rw [upd_ne _ _ e]
      have hi' : i < n := by omega
      exact (old _ (h.rt i hi').lt).trans (c3 i hi')
  · by_cases e : i = n
    · subst e
      rw [upd_same, upd_same, upd_same]
      exact hS
    · rw [upd_ne _ _ e, upd_ne _ _ e, upd_ne _ _ e]
      have hi' : i < n := by omega
      refine (h.st i hi').but hs (fun e => ?_) (fun x hx e => ?_)
      · have := (c2 i hi').1; rw [e, c1] at this; omega
      · have := (c2 i hi').2 x hx; rw [e, c1] at this; omega
  · by_cases e : i = n
    · subst e
      rw [upd_same]
      exact hR
    · rw [upd_ne _ _ e]
      have hi' : i < n := by omega
      refine (h.rt i hi').but hs (fun e => ?_) (fun x hx => by cases hx)
      have := c3 i hi'; rw [e, c1] at this; omega
theorem Pre.cellsN {B : Nat} {w : World} {X n : Nat} {P R : Nat → Nat} {pa : Nat → Option Addr} {pc : Nat → Nat} (h : Pre B w X n P R pa pc) (hn : n < 3) : w.cell? ⟨X, n, none⟩ = some (.pointer none) ∧ w.cell? ⟨X, 3 + n, none⟩ = some (.pointer none) := by
  rw [cell_of_row _ _ _ _ _ _ h.blk, cell_of_row _ _ _ _ _ _ h.blk]
  match n, hn with
  | 0, _ => exact ⟨rfl, rfl⟩
  | 1, _ => exact ⟨rfl, rfl⟩
  | 2, _ => exact ⟨rfl, rfl⟩
theorem Pre.free {B : Nat} {w : World} {X n : Nat} {P R : Nat → Nat} {pa : Nat → Option Addr} {pc : Nat → Nat} (h : Pre B w X n P R pa pc) (k : Nat) : w.frozen? ⟨X, k, none⟩ = false := frozen_of_row _ _ _ _ _ h.blk
theorem born_at {w : World} {X n : Nat} {P R : Nat → Nat} (hn : n < 3) {v : Value} (e1 : w.heap[X]? = some (.cells ((bornC n P R).set n v).toArray 35 (0, 0))) : w.cell? ⟨X, 3 + n, none⟩ = some (.pointer none) ∧ w.frozen? ⟨X, 3 + n, none⟩ = false := by
  refine ⟨?_, frozen_of_row _ _ _ _ _ e1⟩
  rw [cell_of_row _ _ _ _ _ _ e1]
  match n, hn with
  | 0, _ => rfl
  | 1, _ => rfl
  | 2, _ => rfl
/-- a new set of the document's -/
theorem rset_new (w : World) : Rt (w.alloc (.cells #[.slice none 0 0] 39)) w.heap.size none 0 [] := ⟨World.alloc_heap_new w _, Rf.Vw.nil _, Can.nil, by simp, by simp⟩
/-- the program's set first -/
theorem Pre.callA {B : Nat} {w : World} {X n : Nat} {P R : Nat → Nat} {pa : Nat → Option Addr} {pc : Nat → Nat} (h : Pre B w X n P R pa pc) (hn : n < 3) {w8 : World} {b : Nat} {a : Option Addr} {cap : Nat} {L : List Rn} (z : Nw w w8 b a cap L) (hL : L.length ≤ 0) :
    w8.cell? ⟨X, n, none⟩ = some (.pointer none) ∧ w8.frozen? ⟨X, n, none⟩ = false ∧ (w8.alloc (.cells #[.slice none 0 0] 39)).cell? ⟨X, n, none⟩ = some (.pointer none) ∧ (w8.alloc (.cells #[.slice none 0 0] 39)).frozen? ⟨X, n, none⟩ = false ∧
    ((w8.alloc (.cells #[.slice none 0 0] 39)).setCell ⟨X, n, none⟩ (.pointer (some ⟨b, 0, none⟩))).cell? ⟨X, 3 + n, none⟩ = some (.pointer none) ∧ ((w8.alloc (.cells #[.slice none 0 0] 39)).setCell ⟨X, n, none⟩ (.pointer (some ⟨b, 0, none⟩))).frozen? ⟨X, 3 + n, none⟩ = false ∧
    ((w8.setCell ⟨X, n, none⟩ (.pointer (some ⟨b, 0, none⟩))).alloc (.cells #[.slice none 0 0] 39)).cell? ⟨X, 3 + n, none⟩ = some (.pointer none) ∧ ((w8.setCell ⟨X, n, none⟩ (.pointer (some ⟨b, 0, none⟩))).alloc (.cells #[.slice none 0 0] 39)).frozen? ⟨X, 3 + n, none⟩ = false ∧
    (((w8.alloc (.cells #[.slice none 0 0] 39)).setCell ⟨X, n, none⟩ (.pointer (some ⟨b, 0, none⟩))).setCell ⟨X, 3 + n, none⟩ (.pointer (some ⟨w8.heap.size, 0, none⟩))).cell? ⟨X, n, none⟩ = some (.pointer (some ⟨b, 0, none⟩)) ∧
    Hid (∃ P' R' pa' pc', Pre B (((w8.alloc (.cells #[.slice none 0 0] 39)).setCell ⟨X, n, none⟩ (.pointer (some ⟨b, 0, none⟩))).setCell ⟨X, 3 + n, none⟩ (.pointer (some ⟨w8.heap.size, 0, none⟩))) X (n + 1) P' R' pa' pc') ∧
    Hid (But (fun k => k = X) w (((w8.alloc (.cells #[.slice none 0 0] 39)).setCell ⟨X, n, none⟩ (.pointer (some ⟨b, 0, none⟩))).setCell ⟨X, 3 + n, none⟩ (.pointer (some ⟨w8.heap.size, 0, none⟩)))) ∧
    (((w8.setCell ⟨X, n, none⟩ (.pointer (some ⟨b, 0, none⟩))).alloc (.cells #[.slice none 0 0] 39)).setCell ⟨X, 3 + n, none⟩ (.pointer (some ⟨w8.heap.size, 0, none⟩))).cell? ⟨X, n, none⟩ = some (.pointer (some ⟨b, 0, none⟩)) ∧
    Hid (∃ P' R' pa' pc', Pre B (((w8.setCell ⟨X, n, none⟩ (.pointer (some ⟨b, 0, none⟩))).alloc (.cells #[.slice none 0 0] 39)).setCell ⟨X, 3 + n, none⟩ (.pointer (some ⟨w8.heap.size, 0, none⟩))) X (n + 1) P' R' pa' pc') ∧
    Hid (But (fun k => k = X) w (((w8.setCell ⟨X, n, none⟩ (.pointer (some ⟨b, 0, none⟩))).alloc (.cells #[.slice none 0 0] 39)).setCell ⟨X, 3 + n, none⟩ (.pointer (some ⟨w8.heap.size, 0, none⟩)))) := by
  obtain rfl : L = [] := List.eq_nil_of_length_eq_zero (by omega)
  have xlt := h.lt
  have h8 := h.keep z.w
  have ob := al w8 (.cells #[.slice none 0 0] 39)
  have h9 := h8.keep ob
  have blt := z.st.lt
  have zb := z.b
  have zs := z.w.size
  -- the box, then the store
  have e1 := set_blk (n := n) (v := pt b) h9.blk
  have e2 := set_blk (n := 3 + n) (v := pt w8.heap.size) e1
  have s1 := set_but (w8.alloc (.cells #[.slice none 0 0] 39)) X n (pt b)
  have s2 := set_but ((w8.alloc (.cells #[.slice none 0 0] 39)).setCell ⟨X, n, none⟩ (pt b)) X (3 + n) (pt w8.heap.size)
  have s12 := s1.trans s2 (fun _ _ h => h)
  have sA := (But.ofBelow (S := fun k => k = X) (bt z.w ob)).trans s12 (fun _ _ h => h)
  have stA := (z.st.keep ob).but s12 (fun e => by omega) (fun x hx e => by have := z.a x hx; omega)
  have rtA := (rset_new w8).but s12 (fun e => by omega) (fun x hx => by cases hx)
  have fA := h.next hn sA stA rtA zb z.a zs (by omega) (fun x hx => by have := z.st.row.lt hx; omega) e2
  -- the store, then the box
  have e3 := set_blk (n := n) (v := pt b) h8.blk
  have t1 := set_but w8 X n (pt b)
  have oc := al (w8.setCell ⟨X, n, none⟩ (pt b)) (.cells #[.slice none 0 0] 39)
  have zz : (w8.setCell ⟨X, n, none⟩ (pt b)).heap.size = w8.heap.size := by simp
  have e4 := (But.ofBelow (S := fun _ => False) oc).same e3 (fun e => e)
  have e5 := set_blk (n := 3 + n) (v := pt w8.heap.size) e4
  have t2 := set_but ((w8.setCell ⟨X, n, none⟩ (pt b)).alloc (.cells #[.slice none 0 0] 39)) X (3 + n) (pt w8.heap.size)
  have sC := (((But.ofBelow (S := fun k => k = X) z.w).trans t1 (fun _ _ h => h)).andBelow oc).trans t2 (fun _ _ h => h)
  have stC := ((z.st.but t1 (fun e => by omega) (fun x hx e => by have := z.a x hx; omega)).keep oc).but t2 (fun e => by omega) (fun x hx e => by have := z.a x hx; omega)
  have rt0 := rset_new (w8.setCell ⟨X, n, none⟩ (pt b))
  rw [zz] at rt0
  have rtC := rt0.but t2 (fun e => by omega) (fun x hx => by cases hx)
  have fC := h.next hn sC stC rtC zb z.a zs (by omega) (fun x hx => by have := z.st.row.lt hx; omega) e5
  have b1 := born_at hn e1
  have b4 := born_at hn e4
  exact ⟨(h8.cellsN hn).1, h8.free n, (h9.cellsN hn).1, h9.free n, b1.1, b1.2, b4.1, b4.2, fA.1, fA.2, hide sA, fC.1, fC.2, hide sC⟩
/-- the document's set first -/
theorem Pre.callB {B : Nat} {w : World} {X n : Nat} {P R : Nat → Nat} {pa : Nat → Option Addr} {pc : Nat → Nat} (h : Pre B w X n P R pa pc) (hn : n < 3) {w8 : World} {b : Nat} {a : Option Addr} {cap : Nat} {L : List Rn} (z : Nw (w.alloc (.cells #[.slice none 0 0] 39)) w8 b a cap L) (hL : L.length ≤ 0) :
    w8.cell? ⟨X, n, none⟩ = some (.pointer none) ∧ w8.frozen? ⟨X, n, none⟩ = false ∧
    (w8.setCell ⟨X, n, none⟩ (.pointer (some ⟨b, 0, none⟩))).cell? ⟨X, 3 + n, none⟩ = some (.pointer none) ∧ (w8.setCell ⟨X, n, none⟩ (.pointer (some ⟨b, 0, none⟩))).frozen? ⟨X, 3 + n, none⟩ = false ∧
    ((w8.setCell ⟨X, n, none⟩ (.pointer (some ⟨b, 0, none⟩))).setCell ⟨X, 3 + n, none⟩ (.pointer (some ⟨w.heap.size, 0, none⟩))).cell? ⟨X, n, none⟩ = some (.pointer (some ⟨b, 0, none⟩)) ∧
    Hid (∃ P' R' pa' pc', Pre B ((w8.setCell ⟨X, n, none⟩ (.pointer (some ⟨b, 0, none⟩))).setCell ⟨X, 3 + n, none⟩ (.pointer (some ⟨w.heap.size, 0, none⟩))) X (n + 1) P' R' pa' pc') ∧
    Hid (But (fun k => k = X) w ((w8.setCell ⟨X, n, none⟩ (.pointer (some ⟨b, 0, none⟩))).setCell ⟨X, 3 + n, none⟩ (.pointer (some ⟨w.heap.size, 0, none⟩)))) := by
  obtain rfl : L = [] := List.eq_nil_of_length_eq_zero (by omega)
  have xlt := h.lt
  have ob := al w (.cells #[.slice none 0 0] 39)
  have sz := size_alloc w (.cells #[.slice none 0 0] 39)
  have h8 := (h.keep ob).keep z.w
  have zb := z.b
  have e1 := set_blk (n := n) (v := pt b) h8.blk
  have e2 := set_blk (n := 3 + n) (v := pt w.heap.size) e1
  have s1 := set_but w8 X n (pt b)
  have s2 := set_but (w8.setCell ⟨X, n, none⟩ (pt b)) X (3 + n) (pt w.heap.size)
  have s12 := s1.trans s2 (fun _ _ h => h)
  have sA := (But.ofBelow (S := fun k => k = X) (bt ob z.w)).trans s12 (fun _ _ h => h)
  have stA := z.st.but s12 (fun e => by omega) (fun x hx e => by have := z.a x hx; omega)
  have rtA := ((rset_new w).keep z.w).but s12 (fun e => by omega) (fun x hx => by cases hx)
  have fA := h.next hn sA stA rtA (by omega) (fun x hx => by have := z.a x hx; omega) (Nat.le_refl _) (by omega) (fun x hx => by have := z.a x hx; omega) e2
  have b1 := born_at hn e1
  exact ⟨(h8.cellsN hn).1, h8.free n, b1.1, b1.2, fA.1, fA.2, hide sA⟩
/-- three sets of each: the work -/
theorem Pre.work {B : Nat} {w w1 : World} {X F : Nat} {P R : Nat → Nat} {pa : Nat → Option Addr} {pc : Nat → Nat} (h : Pre B w X 3 P R pa pc) (hb : Below w.heap.size w w1) (hF : w.heap.size ≤ F) (hF2 : F < w1.heap.size) :
    Wk (fun k => k < B ∨ k = F) w1 X 0 (born P R pa pc) := by
  have h1 := h.keep hb
  obtain ⟨c, c1, c2, c3, c4⟩ := h.col
  have xlt := h.lt
  refine ⟨⟨recol c w.heap.size 11, ?_⟩, fun i hi => rfl, fun i hi => Nat.zero_le _, Nat.le_refl _, Nat.le_refl _, rfl, fun j hj => rfl⟩
  exact { blk := h1.blk
          cX := by rw [recol_old xlt]; exact c1
          st := fun i hi => h1.st i hi
          rt := fun i hi => h1.rt i hi
          cP := fun i hi => ⟨by show recol c w.heap.size 11 (P i) = _; rw [recol_old (h.st i hi).lt]; exact (c2 i hi).1, fun x hx => by rw [recol_old ((h.st i hi).row.lt hx)]; exact (c2 i hi).2 x hx⟩
          cR := fun i hi => ⟨by show recol c w.heap.size 11 (R i) = _; rw [recol_old (h.rt i hi).lt]; exact c3 i hi, fun x hx => by cases hx⟩
          ww := Gw.nil _ _ _
          cw := fun x hx => by cases hx
          wk := fun j hj => absurd hj (Nat.not_lt_zero j)
          tw := Gw.nil _ _ _
          ctt := fun x hx => by cases hx
          nn := Gw.nil _ _ _
          cnn := fun x hx => by cases hx
          td := fun j hj => absurd hj (Nat.not_lt_zero j)
          wd := fun j hj => absurd hj (Nat.not_lt_zero j)
          cz := fun k hk => by
            have := h.hB
            have := hb.size
            rcases hk with hk | rfl
            · exact ⟨by omega, by rw [recol_old (by omega)]; exact c4 k hk⟩
            · exact ⟨hF2, recol_new hF⟩ }
end Go.Proofs.Ytnnbedpgikljaaa
