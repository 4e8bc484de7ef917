import Derived.Test.YtceeeofkigkpkaaGreatEAF
namespace Go.Proofs.YtceeeofkigkpkaaGreat
set_option linter.unusedVariables false
open Go.RowKit

/-! ### two pools; same -/
structure Pair (w W : World) (b d : Nat) (P Q : Po) (c e : Nat → Nat) : Prop where
  p : Np w W b P c
  q : Np w W d Q e
  d : ∀ k, c k ≠ 0 → e k = 0
theorem Pair.swap {w W : World} {b d : Nat} {P Q : Po} {c e : Nat → Nat} (h : Pair w W b d P Q c e) : Pair w W d b Q P e c :=
  ⟨h.q, h.p, fun k hk => by
    by_cases z : c k = 0
    · exact z
    · exact absurd (h.d k z) hk⟩
theorem Pair.keep {w W W' : World} {b d : Nat} {P Q : Po} {c e : Nat → Nat} (h : Pair w W b d P Q c e) (hb : Below W.heap.size W W') : Pair w W' b d P Q c e := ⟨h.p.keep hb, h.q.keep hb, h.d⟩
theorem Pair.left {w W W' : World} {b d : Nat} {P Q P' : Po} {c e c' : Nat → Nat} (h : Pair w W b d P Q c e) (hp : Pl W' b P' c') (f : Fr W c W' c') : Pair w W' b d P' Q c' e :=
  ⟨h.p.step hp f, ⟨h.q.p.but f.b (fun k hk z => hk (h.d k z)), (h.p.step hp f).b, h.q.n⟩, fun k hk => by
    by_cases z : k < W.heap.size
    · rw [f.c k z] at hk; exact h.d k hk
    · exact h.q.away (by omega)⟩
theorem Pair.right {w W W' : World} {b d : Nat} {P Q Q' : Po} {c e e' : Nat → Nat} (h : Pair w W b d P Q c e) (hp : Pl W' d Q' e') (f : Fr W e W' e') : Pair w W' b d P Q' c e' := (h.swap.left hp f).swap
set_option maxHeartbeats 4000000 in
theorem same_any (w : World) (A : An) (a d : Option Addr) (ca cd : Nat) (ha : Ir w a A.l) (hd : Ir w d A.l) (hl : A.l.length ≤ 17592186044415) :
    Calls Tryz.prog 8 #[.agg #[.int .i64 A.n, .int .i64 A.m, .bool A.is, .slice a A.l.length ca, .int .i64 A.e], .agg #[.int .i64 A.n, .int .i64 A.m, .bool A.is, .slice d A.l.length cd, .int .i64 A.e]] w fun e w' => e = .returned (.bool true) ∧ Below w.heap.size w w' := by
  obtain ⟨n, m, is, l, er⟩ := A
  simp only at ha hd hl ⊢
  have V := hide (bt (al w (.cells #[.int .i64 n, .int .i64 m, .bool is, .slice a l.length ca, .int .i64 er] 34)) (al _ (.cells #[.int .i64 n, .int .i64 m, .bool is, .slice d l.length cd, .int .i64 er] 34)))
  have EQ := hide (EqInts_same _ a d l.length l.length ca cd l (ha.keep V.out) (hd.keep V.out) rfl rfl hl)
  have e1 : (n == n) = true := by simp
  have e2 : (m == m) = true := by simp
  have e3 : (is == is) = true := by simp
  have e4 : (er == er) = true := by simp
  generalize l.length = ln at *
  clear ha hd hl
  go_enter Tryz.func8, Tryz.ntmps8
  go_wp2_with fail
  refine EQ.out.mono ?_
  rintro _ w2 ⟨rfl, hb⟩
  have B2 := hide (bt V.out hb)
  clear hb EQ
  go_wp2
  go_ret
  exact ⟨rfl, B2.out⟩
theorem ask_mark (P : Po) (o : Ov) : (P.ask o).2.mark ≤ P.mark + 1 := by
  have st := P.step_mark o
  have un : ∀ z, (P.undo z).mark ≤ P.mark := fun z => by
    unfold Po.undo
    split
    · obtain ⟨b1, _, b3, _⟩ := Po.back_len ((P.mark : Int) - z).toNat P
      show (Po.back _ P).fl + (Po.back _ P).ac.length ≤ P.fl + P.ac.length
      rw [b1, b3]; omega
    · exact Nat.le_refl _
  unfold Po.step at st
  unfold Po.ask
  by_cases h0 : o.1 = 0
  · rw [if_pos h0] at st ⊢; exact st
  rw [if_neg h0] at st ⊢
  by_cases h1 : o.1 = 1
  · rw [if_pos h1] at st ⊢; exact st
  rw [if_neg h1] at st ⊢
  by_cases h2 : o.1 = 2
  · rw [if_pos h2] at st ⊢; exact st
  rw [if_neg h2] at st ⊢
  by_cases h10 : o.1 = 10
  · rw [if_pos h10] at st
    rw [if_neg (by omega), if_neg (by omega), if_neg (by omega), if_neg (by omega), if_neg (by omega), if_neg (by omega), if_neg (by omega), if_pos h10]
    exact st
  · have u1 := un o.2.1
    have u2 := un (-1)
    rw [if_neg h10]
    repeat' split
    all_goals first | exact Nat.le_succ _ | exact Nat.le_succ_of_le u1 | exact Nat.le_succ_of_le u2
/-- the same pages and the same greatest count -/
def Eqv (P Q : Po) : Prop := P.pg = Q.pg ∧ P.rf = Q.rf
theorem Eqv.act {P Q : Po} (h : Eqv P Q) (n : Nat) (c : Int) : Eqv (P.act n c) (Q.act n c) := by
  refine ⟨?_, h.2⟩
  show P.pg.set (n - 1) (c, (P.pg.getD (n - 1) Pg.zero).2) = Q.pg.set (n - 1) (c, (Q.pg.getD (n - 1) Pg.zero).2)
  rw [h.1]
theorem Eqv.count {P Q : Po} (h : Eqv P Q) (z : Int) : P.count z = Q.count z := by unfold Po.count Po.has; rw [h.1]
theorem Eqv.state {P Q : Po} (h : Eqv P Q) (z : Int) : P.state z = Q.state z := by unfold Po.state Po.has; rw [h.1]
theorem Eqv.pages {P Q : Po} (h : Eqv P Q) (z : Int) : P.pages z = Q.pages z := by unfold Po.pages; rw [h.1]
theorem Eqv.counts {P Q : Po} (h : Eqv P Q) : P.counts = Q.counts := by unfold Po.counts; rw [h.1]
theorem Eqv.alloc {P Q : Po} (h : Eqv P Q) : P.alloc.1 = Q.alloc.1 ∧ Eqv P.alloc.2 Q.alloc.2 := by
  unfold Po.alloc
  rw [h.1]
  cases pagesOf Q.pg 1 with
  | nil => exact ⟨rfl, h⟩
  | cons x t => exact ⟨rfl, h.act _ _⟩
theorem Eqv.inc {P Q : Po} (h : Eqv P Q) (z : Int) : (P.inc z).1 = (Q.inc z).1 ∧ Eqv (P.inc z).2 (Q.inc z).2 := by
  unfold Po.inc
  rw [h.count, h.2]
  split
  · exact ⟨rfl, h⟩
  · split
    · exact ⟨rfl, h⟩
    · exact ⟨rfl, h.act _ _⟩
theorem Eqv.dec {P Q : Po} (h : Eqv P Q) (z : Int) : (P.dec z).1 = (Q.dec z).1 ∧ Eqv (P.dec z).2 (Q.dec z).2 := by
  unfold Po.dec
  rw [h.count]
  split
  · exact ⟨rfl, h⟩
  · exact ⟨rfl, h.act _ _⟩
theorem Eqv.ask {P Q : Po} (h : Eqv P Q) (o : Ov) (h0 : 0 ≤ o.1) (h8 : o.1 ≠ 8) (h9 : o.1 ≠ 9) (h12 : o.1 < 12) : (P.ask o).1 = (Q.ask o).1 ∧ Eqv (P.ask o).2 (Q.ask o).2 := by
  obtain ⟨a1, a2⟩ := h.alloc
  obtain ⟨i1, i2⟩ := h.inc o.2.1
  obtain ⟨d1, d2⟩ := h.dec o.2.1
  have hp := h.pages o.2.1
  unfold Po.ask
  by_cases k0 : o.1 = 0
  · rw [if_pos k0, if_pos k0]; exact ⟨by rw [a1], a2⟩
  rw [if_neg k0, if_neg k0]
  by_cases k1 : o.1 = 1
  · rw [if_pos k1, if_pos k1]; exact ⟨by rw [i1], i2⟩
  rw [if_neg k1, if_neg k1]
  by_cases k2 : o.1 = 2
  · rw [if_pos k2, if_pos k2]; exact ⟨by rw [d1], d2⟩
  rw [if_neg k2, if_neg k2]
  by_cases k3 : o.1 = 3
  · rw [if_pos k3, if_pos k3]; exact ⟨by rw [h.count], h⟩
  rw [if_neg k3, if_neg k3]
  by_cases k4 : o.1 = 4
  · rw [if_pos k4, if_pos k4]; exact ⟨by rw [h.state], h⟩
  rw [if_neg k4, if_neg k4]
  by_cases k5 : o.1 = 5
  · rw [if_pos k5, if_pos k5]; exact ⟨by rw [hp], h⟩
  rw [if_neg k5, if_neg k5]
  by_cases k6 : o.1 = 6
  · rw [if_pos k6, if_pos k6]; exact ⟨by rw [hp], h⟩
  rw [if_neg k6, if_neg k6]
  by_cases k7 : o.1 = 7
  · rw [if_pos k7, if_pos k7]; exact ⟨by rw [h.counts], h⟩
  rw [if_neg k7, if_neg k7, if_neg h8, if_neg h8, if_neg h9, if_neg h9]
  by_cases k10 : o.1 = 10
  · rw [if_pos k10, if_pos k10]
    refine ⟨rfl, ?_, h.2⟩
    show P.pg.map _ = Q.pg.map _
    rw [h.1]
  rw [if_neg k10, if_neg k10, if_pos (by omega), if_pos (by omega)]
  exact ⟨by rw [h.1, h.2], h⟩
theorem Eqv.load {P : Po} : Eqv P.settle (Po.start P.rf P.settle.counts) := by
  refine ⟨?_, rfl⟩
  show P.pg.map (fun x => (x.1, decide (0 < x.1))) = ((P.pg.map (fun x => (x.1, decide (0 < x.1)))).map Prod.fst).map _
  rw [List.map_map, List.map_map]
  rfl
theorem ask_len {P : Po} (h : P.Ok) (o : Ov) : (P.ask o).1.l.length ≤ 65536 := by
  have p1 := Po.pages_len h o.2.1
  have p2 := pcounts_len P
  have p3 := h.l2
  have p4 : (wl (P.pages o.2.1) o.2.2).length ≤ 65536 := by
    unfold wl
    split
    · exact p1
    · rw [List.length_take]; omega
  unfold Po.ask
  by_cases k0 : o.1 = 0
  · rw [if_pos k0]; exact Nat.zero_le _
  rw [if_neg k0]
  by_cases k1 : o.1 = 1
  · rw [if_pos k1]; exact Nat.zero_le _
  rw [if_neg k1]
  by_cases k2 : o.1 = 2
  · rw [if_pos k2]; exact Nat.zero_le _
  rw [if_neg k2]
  by_cases k3 : o.1 = 3
  · rw [if_pos k3]; exact Nat.zero_le _
  rw [if_neg k3]
  by_cases k4 : o.1 = 4
  · rw [if_pos k4]; exact Nat.zero_le _
  rw [if_neg k4]
  by_cases k5 : o.1 = 5
  · rw [if_pos k5]; exact Nat.zero_le _
  rw [if_neg k5]
  by_cases k6 : o.1 = 6
  · rw [if_pos k6]; exact p4
  rw [if_neg k6]
  by_cases k7 : o.1 = 7
  · rw [if_pos k7]; show P.counts.length ≤ _; omega
  rw [if_neg k7]
  by_cases k8 : o.1 = 8
  · rw [if_pos k8]; exact Nat.zero_le _
  rw [if_neg k8]
  by_cases k9 : o.1 = 9
  · rw [if_pos k9]; exact Nat.zero_le _
  rw [if_neg k9]
  by_cases k10 : o.1 = 10
  · rw [if_pos k10]; exact Nat.zero_le _
  rw [if_neg k10]
  by_cases k11 : o.1 = 11
  · rw [if_pos k11]; exact Nat.zero_le _
  rw [if_neg k11]
  exact Nat.zero_le _
theorem load_fits {P : Po} (h : P.Ok) : fits P.counts.length P.rf = true ∧ badC P.rf P.counts = false := by
  constructor
  · have := h.l1; have := h.l2; have := h.r1; have := h.r2
    rw [pcounts_len]
    unfold fits
    simp
    omega
  · unfold badC
    rw [List.any_eq_false]
    intro x hx
    obtain ⟨y, hy, rfl⟩ := List.mem_map.1 (show x ∈ P.pg.map Prod.fst from hx)
    have := h.cs y hy
    simp
    omega
end Go.Proofs.YtceeeofkigkpkaaGreat
