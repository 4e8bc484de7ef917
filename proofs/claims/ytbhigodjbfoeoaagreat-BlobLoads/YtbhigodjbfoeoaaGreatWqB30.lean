import Derived.Test.YtbhigodjbfoeoaaGreatWqB7
import Derived.Test.YtbhigodjbfoeoaaGreatWqB18
import Derived.Test.YtbhigodjbfoeoaaGreatWqB29
import Derived.Lib.SlBytesConst
section
namespace Go.Proofs.YtbhigodjbfoeoaaGreat
set_option linter.unusedVariables false
set_option linter.unusedSimpArgs false
open Go.RowKit
def PV (r : Int) (C : List Int) (g : Int → Option Pg) (S : Vs) : Prop := ∃ f : Int → Option Pv, S = ldS r C f ∧ (∀ k, (f k).map Pv.pg = g k) ∧ ∀ k q, f k = some q → q.pg.check = 0
def PR (C : List Int) (g : Int → Option Pg) (D : Rd) : Prop := D.C = C ∧ (D.L = C.map fun c => decide (0 < c)) ∧ D.P.length = C.length ∧ ∀ i, i < C.length → (D.P.getD i Pv.zero).pg = (g ((i : Int) + 1)).getD Pv.zero.pg
theorem PR.count {C : List Int} {g : Int → Option Pg} {D : Rd} (h : PR C g D) (z : Int) : D.count z = cntOf C z := by
  obtain ⟨hC, _⟩ := h
  unfold Rd.count cntOf
  rw [hC]
  by_cases hz : 1 ≤ z ∧ z ≤ C.length
  · rw [if_pos hz, if_pos (Rd.has_iff.2 (by rw [hC]; exact hz))]
  · rw [if_neg hz, if_neg (fun e => hz (by have := Rd.has_iff.1 e; rw [hC] at this; exact this))]
theorem pair_reads {r : Int} {C : List Int} {g : Int → Option Pg} {S : Vs} {D : Rd} (hS : PV r C g S) (hD : PR C g D) : rdV S = rdR D := by
  funext z
  unfold rdV rdR
  rw [hD.count z]
  obtain ⟨f, rfl, hf, _⟩ := hS
  rw [show (ldS r C f).X.P.count z = cntOf C z from start_count r C z]
  by_cases h : 0 < cntOf C z
  · rw [if_pos h, if_pos h]
    have hz : 1 ≤ z ∧ z ≤ C.length := by
      unfold cntOf at h
      split at h
      · assumption
      · omega
    have hi : (z - 1).toNat < C.length := by omega
    have e := hD.2.2.2 _ hi
    have ez : (((z - 1).toNat : Nat) : Int) + 1 = z := by omega
    rw [ez, ← hf z] at e
    have e2 : ((ldS r C f).X.on z).pg = ((f z).map Pv.pg).getD Pv.zero.pg := by
      show ((f z).getD Pv.zero).pg = _
      cases f z <;> rfl
    rw [e2, ← e]
    rfl
  · rw [if_neg h, if_neg h]
theorem pair_counts {r : Int} {C : List Int} {g : Int → Option Pg} {S : Vs} {D : Rd} (hS : PV r C g S) (hD : PR C g D) : S.X.P.counts = D.C := by
  obtain ⟨f, rfl, _⟩ := hS
  rw [hD.1]
  show (C.map fun c => (c, decide (0 < c))).map Prod.fst = C
  rw [List.map_map]
  exact (List.map_congr_left (fun _ _ => rfl)).trans (List.map_id C)
theorem pair_states {r : Int} {C : List Int} {g : Int → Option Pg} {S : Vs} {D : Rd} (hS : PV r C g S) (hD : PR C g D) (z : Int) : S.X.P.state z = D.state z := by
  obtain ⟨f, rfl, _⟩ := hS
  obtain ⟨hC, hL, _⟩ := hD
  have hl : (Q.Po.start r C).pg.length = C.length := by unfold Q.Po.start; exact List.length_map _
  show (Q.Po.start r C).state z = _
  unfold Q.Po.state Rd.state
  have eh : (Q.Po.start r C).has z = D.has z := by
    unfold Q.Po.has Rd.has
    rw [hl, hC]
  rw [eh]
  by_cases h : D.has z = true
  · rw [if_pos h, if_pos h]
    have hz := Rd.has_iff.1 h
    rw [hC] at hz
    have hi : (z - 1).toNat < C.length := by omega
    unfold Rd.lasts
    rw [hC, hL]
    congr 1
    unfold Q.Po.start
    have hi2 : z.toNat - 1 < C.length := by omega
    simp [hi2]
  · rw [if_neg h, if_neg h]
theorem pair_sml {r : Int} {C : List Int} {g : Int → Option Pg} {S : Vs} (hS : PV r C g S) (z : Int) : Sml (S.X.on z) := by
  obtain ⟨f, rfl, _, hc⟩ := hS
  show Sml ((f z).getD Pv.zero)
  cases e : f z with
  | none => exact (sml_ps (.inr rfl)).1
  | some q => exact (sml_ps (.inl (hc z q e))).1
theorem PR.same {C : List Int} {g : Int → Option Pg} {D D' : Rd} (h : PR C g D) (hs : D.Same D') : PR C g D' := by
  obtain ⟨h1, h2, h3, h4⟩ := h
  exact ⟨hs.C.trans h1, hs.L.trans h2, by rw [hs.P]; exact h3, by rw [hs.P]; exact h4⟩
theorem PR.fresh {r : Int} {n : Nat} {D : Rd} (h : D.Fresh r n) : PR (List.replicate n 0) (fun _ => none) D := by
  obtain ⟨q1, q2, q3, q4, _⟩ := h
  refine ⟨q2, by rw [q3]; simp, by rw [q4]; simp, fun i hi => ?_⟩
  have hi : i < n := by simpa using hi
  rw [q4]
  simp [hi]
theorem PV.fresh {r : Int} {n : Nat} : PV r (List.replicate n 0) (fun _ => none) (Vs.start (Q.Po.start r (List.replicate n 0))) := ⟨fun _ => none, rfl, fun _ => rfl, fun k q e => by cases e⟩
structure Jb (w W : World) (x y : Nat) (cs : Array Value) (v q : Value) : Prop where
  bx : W.heap[x]? = some (.cells cs 25 (0, 0))
  by' : W.heap[y]? = some (.cells #[v, q, .slice none 0 0, .slice none 0 0, .slice none 0 0, .slice none 0 0] 43 (0, 0))
  b : Below w.heap.size w W
  ly : w.heap.size ≤ y
theorem Jb.keep {w W W' : World} {x y : Nat} {cs : Array Value} {v q : Value} (h : Jb w W x y cs v q) (hb : Below W.heap.size W W') : Jb w W' x y cs v q := ⟨blk13 h.bx hb, blk13 h.by' hb, bt h.b hb, h.ly⟩
theorem Jb.ne {w W : World} {x y : Nat} {cs : Array Value} {v q : Value} (h : Jb w W x y cs v q) : x ≠ y := blk_ty h.bx h.by' (by decide)
theorem Jb.lt {w W : World} {x y : Nat} {cs : Array Value} {v q : Value} (h : Jb w W x y cs v q) : y < W.heap.size := (Array.getElem?_eq_some_iff.1 h.by').1
theorem Jb.but {W : World} (y i : Nat) (u : Value) : But (fun k => k = y) W (W.setCell ⟨y, i, none⟩ u) := (But.refl (fun k => k = y) W).setCell (p := ⟨y, i, none⟩) (fun _ => rfl) _
theorem Jb.set0 {w W : World} {x y : Nat} {cs : Array Value} {v q : Value} (h : Jb w W x y cs v q) (u : Value) : Jb w (W.setCell ⟨y, 0, none⟩ u) x y cs u q :=
  ⟨(Jb.but y 0 u).same h.bx h.ne, by rw [heap_setCell_same _ _ _ _ _ _ h.by']; rfl, ((But.ofBelow (S := fun k => k = y) h.b).trans (Jb.but y 0 u) (fun _ _ e => e)).below (fun k hk e => by have := h.ly; omega), h.ly⟩
theorem Jb.set1 {w W : World} {x y : Nat} {cs : Array Value} {v q : Value} (h : Jb w W x y cs v q) (u : Value) : Jb w (W.setCell ⟨y, 1, none⟩ u) x y cs v u :=
  ⟨(Jb.but y 1 u).same h.bx h.ne, by rw [heap_setCell_same _ _ _ _ _ _ h.by']; rfl, ((But.ofBelow (S := fun k => k = y) h.b).trans (Jb.but y 1 u) (fun _ _ e => e)).below (fun k hk e => by have := h.ly; omega), h.ly⟩
theorem Jb.cells {w W : World} {x y : Nat} {cs : Array Value} {v q : Value} (h : Jb w W x y cs v q) : W.cell? ⟨y, 0, none⟩ = some v ∧ W.cell? ⟨y, 1, none⟩ = some q ∧ W.frozen? ⟨y, 0, none⟩ = false ∧ W.frozen? ⟨y, 1, none⟩ = false := by
  obtain ⟨x0, x1, _⟩ := six_cells h.by'
  exact ⟨x0, x1, by simp [World.frozen?, h.by'], by simp [World.frozen?, h.by']⟩
theorem Jb.start (w : World) (cs : Array Value) : Jb w ((w.alloc (.cells cs 25)).alloc (.cells #[.pointer none, .pointer none, .slice none 0 0, .slice none 0 0, .slice none 0 0, .slice none 0 0] 43)) w.heap.size (w.heap.size + 1) cs (.pointer none) (.pointer none) := by
  obtain ⟨h1, h2, h3⟩ := two_blk w (.cells cs 25) (.cells #[.pointer none, .pointer none, .slice none 0 0, .slice none 0 0, .slice none 0 0, .slice none 0 0] 43)
  exact ⟨h1, h2, h3, by omega⟩
structure Bg (w W : World) (wb b rb : Nat) (S : Vs) (pb mb : Nat) (pc col : Nat → Nat) (D : Rd) (colR : Nat → Nat) : Prop where
  box : W.heap[wb]? = some (.cells #[.pointer (some ⟨b, 0, none⟩), .pointer (some ⟨rb, 0, none⟩), .slice none 0 0, .slice none 0 0, .slice none 0 0, .slice none 0 0] 43 (0, 0))
  lw : w.heap.size ≤ wb
  bl : Below w.heap.size w W
  v : Vw W b S pb mb pc col
  r : Rq W rb D colR
  s : ∀ z, Sml (S.X.on z)
  rd : rdV S = rdR D
  c : S.X.P.counts = D.C
  st : ∀ z, S.X.P.state z = D.state z
  nv : ∀ k, col k ≠ 0 → k ≠ wb
  nr : ∀ k, colR k ≠ 0 → k ≠ wb
def Begun (w w' : World) (e : Ending) : Prop := (e = .returned (.tuple #[.pointer none, .bool true]) ∧ Below w.heap.size w w') ∨
  ∃ (wb b rb : Nat) (S : Vs) (pb mb : Nat) (pc col : Nat → Nat) (D : Rd) (colR : Nat → Nat), e = .returned (.tuple #[.pointer (some ⟨wb, 0, none⟩), .bool true]) ∧ Bg w w' wb b rb S pb mb pc col D colR
end Go.Proofs.YtbhigodjbfoeoaaGreat
end
section
namespace Go.Proofs.YtbhigodjbfoeoaaGreat
set_option linter.unusedVariables false
set_option linter.unusedSimpArgs false
open Go.RowKit
set_option maxHeartbeats 16000000 in
set_option maxRecDepth 16000 in
theorem begunLe (w : World) (p r : Int) (aC : Option Addr) (nC cC : Nat) (aN : Option Addr) (m cN : Nat) (hC3 : nC ≤ 300) (hp3 : p ≤ 300) (hm4 : m ≤ 400) (hn0 : 0 < nC) (er : Nat) (VC : Hid (∀ W : World, Below w.heap.size w W → Calls Tryz.prog 26 #[.int .i64 r, .slice aC nC cC, .slice aN m cN] W fun e w' => e = .returned (.tuple #[.pointer none, .int .i64 ((er : Nat) : Int)]) ∧ Below W.heap.size W w')) (RC : Hid (∀ W : World, Below w.heap.size w W → Calls Tryz.prog 27 #[.int .i64 r, .slice aC nC cC, .slice aN m cN] W fun e w' => e = .returned (.tuple #[.pointer none, .int .i64 ((er : Nat) : Int)]) ∧ Below W.heap.size W w')) :
    Calls Tryz.prog 9 #[.agg #[.int .i64 p, .int .i64 r, .slice aC nC cC, .slice aN m cN]] w fun e w' => Begun w w' e := by
  have J0 := hide (Jb.start w #[.int .i64 p, .int .i64 r, .slice aC nC cC, .slice aN m cN])
  have k1 : ¬ ((300 : Int) < (nC : Int)) := by omega
  have k2 : ¬ ((300 : Int) < p) := by omega
  have k3 : ¬ ((400 : Int) < (m : Int)) := by omega
  have k4 : (0 : Int) < (nC : Int) := by omega
  clear hC3 hp3 hm4 hn0
  go_enter Tryz.func9, Tryz.ntmps9
  go_wp2_with fail
  refine (VC.out _ J0.out.b).mono ?_
  rintro _ w3 ⟨rfl, hb3⟩
  have J1 := hide (J0.out.keep hb3)
  have J2 := hide (J1.out.set0 (.pointer none))
  clear hb3 J0
  generalize w.heap.size + 1 = y at *
  obtain ⟨c0, c1, z0, z1⟩ := J1.out.cells
  go_upto_region 7 with fail
  generalize w3.setCell ⟨y, 0, none⟩ (.pointer none) = w4 at *
  clear c0 c1 z0 z1 J1
  obtain ⟨x0, x1, x2, x3⟩ := four13 J2.out.bx
  go_wp2_with fail
  refine (RC.out _ J2.out.b).mono ?_
  clear x0 x1 x2 x3
  rintro _ w5 ⟨rfl, hb5⟩
  have J3 := hide (J2.out.keep hb5)
  have J4 := hide (J3.out.set1 (.pointer none))
  clear hb5 J2
  obtain ⟨c0, c1, z0, z1⟩ := J3.out.cells
  go_upto_region 10 with fail
  generalize w5.setCell ⟨y, 1, none⟩ (.pointer none) = w6 at *
  clear c0 c1 z0 z1 J3
  obtain ⟨c0, c1, z0, z1⟩ := J4.out.cells
  have e1 : ((er : Int) == (er : Int)) = true := by simp
  go_wp2_with fail
  go_quiet (fail)
  go_wp2_with fail
  go_ret2
  exact .inl ⟨rfl, bt J4.out.b (drN _ _)⟩
set_option maxHeartbeats 16000000 in
set_option maxRecDepth 16000 in
theorem begunLm (w : World) (p r : Int) (aC : Option Addr) (nC cC : Nat) (aN : Option Addr) (m cN : Nat) (hC3 : nC ≤ 300) (hp3 : p ≤ 300) (hm4 : m ≤ 400) (hn0 : 0 < nC) (C : List Int) (h6 : C.length ≤ 65536) (g : Int → Option Pg) (VC : Hid (∀ W : World, Below w.heap.size w W → Calls Tryz.prog 26 #[.int .i64 r, .slice aC nC cC, .slice aN m cN] W fun e w' => ∃ (b : Nat) (S : Vs), e = .returned (.tuple #[.pointer (some ⟨b, 0, none⟩), .int .i64 0]) ∧ VMade W w' b S ∧ PV r C g S)) (RC : Hid (∀ W : World, Below w.heap.size w W → Calls Tryz.prog 27 #[.int .i64 r, .slice aC nC cC, .slice aN m cN] W fun e w' => ∃ (rb : Nat) (D : Rd), e = .returned (.tuple #[.pointer (some ⟨rb, 0, none⟩), .int .i64 0]) ∧ Rn W w' rb D ∧ PR C g D)) :
    Calls Tryz.prog 9 #[.agg #[.int .i64 p, .int .i64 r, .slice aC nC cC, .slice aN m cN]] w fun e w' => Begun w w' e := by
  have J0 := hide (Jb.start w #[.int .i64 p, .int .i64 r, .slice aC nC cC, .slice aN m cN])
  have k1 : ¬ ((300 : Int) < (nC : Int)) := by omega
  have k2 : ¬ ((300 : Int) < p) := by omega
  have k3 : ¬ ((400 : Int) < (m : Int)) := by omega
  have k4 : (0 : Int) < (nC : Int) := by omega
  clear hC3 hp3 hm4 hn0
  go_enter Tryz.func9, Tryz.ntmps9
  go_wp2_with fail
  refine (VC.out _ J0.out.b).mono ?_
  rintro _ w3 ⟨b, S, rfl, hM, hPV⟩
  obtain ⟨pb, mb, pc, col, hV, hbV, hcV⟩ := hM
  have J1 := hide (J0.out.keep hbV)
  have J2 := hide (J1.out.set0 (.pointer (some ⟨b, 0, none⟩)))
  have NV : Hid (∀ k, col k ≠ 0 → k ≠ w.heap.size + 1) := fun k hk e => by
    have h1 := hcV k hk
    have h2 := J0.out.lt
    omega
  have V2 := hide (hV.but13 (Jb.but (w.heap.size + 1) 0 (.pointer (some ⟨b, 0, none⟩))) NV.out)
  have SV := hide hPV
  clear hV hbV hcV hPV J0
  generalize w.heap.size + 1 = y at *
  obtain ⟨c0, c1, z0, z1⟩ := J1.out.cells
  go_upto_region 7 with fail
  generalize w3.setCell ⟨y, 0, none⟩ (.pointer (some ⟨b, 0, none⟩)) = w4 at *
  clear c0 c1 z0 z1 J1
  obtain ⟨x0, x1, x2, x3⟩ := four13 J2.out.bx
  go_wp2_with fail
  refine (RC.out _ J2.out.b).mono ?_
  clear x0 x1 x2 x3
  rintro _ w5 ⟨rb, D, rfl, hM, hPR⟩
  have J3 := hide (J2.out.keep hM.b)
  have J4 := hide (J3.out.set1 (.pointer (some ⟨rb, 0, none⟩)))
  obtain ⟨hR, hcR⟩ := hM.rq (by rw [hPR.2.1, hPR.1]; simp) (by rw [hPR.2.2.1, hPR.1]) (by rw [hPR.1]; exact h6)
  have NR : Hid (∀ k, rcol w4 w5 rb D k ≠ 0 → k ≠ y) := fun k hk e => by
    have h1 := hcR k hk
    have h2 := J2.out.lt
    omega
  have R4 := hide (hR.but (Jb.but y 1 (.pointer (some ⟨rb, 0, none⟩))) NR.out)
  have V4 := hide ((V2.out.keep hM.b).but13 (Jb.but y 1 (.pointer (some ⟨rb, 0, none⟩))) NV.out)
  have SR := hide hPR
  generalize rcol w4 w5 rb D = colR at *
  clear hR hcR hM hPR V2 J2
  obtain ⟨c0, c1, z0, z1⟩ := J3.out.cells
  go_upto_region 10 with fail
  generalize w5.setCell ⟨y, 1, none⟩ (.pointer (some ⟨rb, 0, none⟩)) = w6 at *
  clear c0 c1 z0 z1 J3
  obtain ⟨c0, c1, z0, z1⟩ := J4.out.cells
  go_wp2_with fail
  refine (rCopy_any w6 rb D colR R4.out).mono ?_
  rintro _ w7 ⟨rb2, D2, colR2, rfl, hR2, hSame, hb7, hc7⟩
  have J5 := hide (J4.out.keep hb7)
  have NR2 : Hid (∀ k, colR2 k ≠ 0 → k ≠ y) := fun k hk e => by
    rcases hc7 k hk with h | h
    · exact NR.out k (by rw [h]; decide) e
    · have h2 := J4.out.lt
      omega
  have J6 := hide (J5.out.set1 (.pointer (some ⟨rb2, 0, none⟩)))
  have R6 := hide (hR2.but (Jb.but y 1 (.pointer (some ⟨rb2, 0, none⟩))) NR2.out)
  have V6 := hide ((V4.out.keep hb7).but13 (Jb.but y 1 (.pointer (some ⟨rb2, 0, none⟩))) NV.out)
  have SR2 := hide (SR.out.same hSame)
  clear c0 c1 z0 z1 hR2 hSame hb7 hc7 R4 V4 J4 SR
  obtain ⟨c0, c1, z0, z1⟩ := J5.out.cells
  go_upto_region 13 with fail
  generalize w7.setCell ⟨y, 1, none⟩ (.pointer (some ⟨rb2, 0, none⟩)) = w8 at *
  clear c0 c1 z0 z1 J5
  go_wp2_with fail
  go_ret2
  exact .inr ⟨y, b, rb2, S, pb, mb, pc, col, D2, colR2, rfl, ⟨J6.out.by', J6.out.ly, J6.out.b, V6.out, R6.out, pair_sml SV.out, pair_reads SV.out SR2.out, pair_counts SV.out SR2.out, pair_states SV.out SR2.out, NV.out, NR2.out⟩⟩
set_option maxHeartbeats 16000000 in
set_option maxRecDepth 16000 in
theorem begunNe (w : World) (p r : Int) (aC : Option Addr) (nC cC : Nat) (aN : Option Addr) (m cN : Nat) (hC3 : nC ≤ 300) (hp3 : p ≤ 300) (hm4 : m ≤ 400) (hn0 : nC = 0) (er : Nat) (VC : Hid (∀ W : World, Below w.heap.size w W → Calls Tryz.prog 21 #[.int .i64 p, .int .i64 r] W fun e w' => e = .returned (.tuple #[.pointer none, .int .i64 ((er : Nat) : Int)]) ∧ Below W.heap.size W w')) (RC : Hid (∀ W : World, Below w.heap.size w W → Calls Tryz.prog 28 #[.int .i64 p, .int .i64 r] W fun e w' => e = .returned (.tuple #[.pointer none, .int .i64 ((er : Nat) : Int)]) ∧ Below W.heap.size W w')) :
    Calls Tryz.prog 9 #[.agg #[.int .i64 p, .int .i64 r, .slice aC nC cC, .slice aN m cN]] w fun e w' => Begun w w' e := by
  have J0 := hide (Jb.start w #[.int .i64 p, .int .i64 r, .slice aC nC cC, .slice aN m cN])
  have k1 : ¬ ((300 : Int) < (nC : Int)) := by omega
  have k2 : ¬ ((300 : Int) < p) := by omega
  have k3 : ¬ ((400 : Int) < (m : Int)) := by omega
  have k4 : ¬ ((0 : Int) < (nC : Int)) := by omega
  clear hC3 hp3 hm4 hn0
  go_enter Tryz.func9, Tryz.ntmps9
  go_wp2_with fail
  refine (VC.out _ J0.out.b).mono ?_
  rintro _ w3 ⟨rfl, hb3⟩
  have J1 := hide (J0.out.keep hb3)
  have J2 := hide (J1.out.set0 (.pointer none))
  clear hb3 J0
  generalize w.heap.size + 1 = y at *
  obtain ⟨c0, c1, z0, z1⟩ := J1.out.cells
  go_upto_region 9 with fail
  generalize w3.setCell ⟨y, 0, none⟩ (.pointer none) = w4 at *
  clear c0 c1 z0 z1 J1
  obtain ⟨x0, x1, x2, x3⟩ := four13 J2.out.bx
  go_wp2_with fail
  refine (RC.out _ J2.out.b).mono ?_
  clear x0 x1 x2 x3
  rintro _ w5 ⟨rfl, hb5⟩
  have J3 := hide (J2.out.keep hb5)
  have J4 := hide (J3.out.set1 (.pointer none))
  clear hb5 J2
  obtain ⟨c0, c1, z0, z1⟩ := J3.out.cells
  go_upto_region 10 with fail
  generalize w5.setCell ⟨y, 1, none⟩ (.pointer none) = w6 at *
  clear c0 c1 z0 z1 J3
  obtain ⟨c0, c1, z0, z1⟩ := J4.out.cells
  have e1 : ((er : Int) == (er : Int)) = true := by simp
  go_wp2_with fail
  go_quiet (fail)
  go_wp2_with fail
  go_ret2
  exact .inl ⟨rfl, bt J4.out.b (drN _ _)⟩
set_option maxHeartbeats 16000000 in
set_option maxRecDepth 16000 in
theorem begunNm (w : World) (p r : Int) (aC : Option Addr) (nC cC : Nat) (aN : Option Addr) (m cN : Nat) (hC3 : nC ≤ 300) (hp3 : p ≤ 300) (hm4 : m ≤ 400) (hn0 : nC = 0) (C : List Int) (h6 : C.length ≤ 65536) (g : Int → Option Pg) (VC : Hid (∀ W : World, Below w.heap.size w W → Calls Tryz.prog 21 #[.int .i64 p, .int .i64 r] W fun e w' => ∃ (b : Nat) (S : Vs), e = .returned (.tuple #[.pointer (some ⟨b, 0, none⟩), .int .i64 0]) ∧ VMade W w' b S ∧ PV r C g S)) (RC : Hid (∀ W : World, Below w.heap.size w W → Calls Tryz.prog 28 #[.int .i64 p, .int .i64 r] W fun e w' => ∃ (rb : Nat) (D : Rd), e = .returned (.tuple #[.pointer (some ⟨rb, 0, none⟩), .int .i64 0]) ∧ Rn W w' rb D ∧ PR C g D)) :
    Calls Tryz.prog 9 #[.agg #[.int .i64 p, .int .i64 r, .slice aC nC cC, .slice aN m cN]] w fun e w' => Begun w w' e := by
  have J0 := hide (Jb.start w #[.int .i64 p, .int .i64 r, .slice aC nC cC, .slice aN m cN])
  have k1 : ¬ ((300 : Int) < (nC : Int)) := by omega
  have k2 : ¬ ((300 : Int) < p) := by omega
  have k3 : ¬ ((400 : Int) < (m : Int)) := by omega
  have k4 : ¬ ((0 : Int) < (nC : Int)) := by omega
  clear hC3 hp3 hm4 hn0
  go_enter Tryz.func9, Tryz.ntmps9
  go_wp2_with fail
  refine (VC.out _ J0.out.b).mono ?_
  rintro _ w3 ⟨b, S, rfl, hM, hPV⟩
  obtain ⟨pb, mb, pc, col, hV, hbV, hcV⟩ := hM
  have J1 := hide (J0.out.keep hbV)
  have J2 := hide (J1.out.set0 (.pointer (some ⟨b, 0, none⟩)))
  have NV : Hid (∀ k, col k ≠ 0 → k ≠ w.heap.size + 1) := fun k hk e => by
    have h1 := hcV k hk
    have h2 := J0.out.lt
    omega
  have V2 := hide (hV.but13 (Jb.but (w.heap.size + 1) 0 (.pointer (some ⟨b, 0, none⟩))) NV.out)
  have SV := hide hPV
  clear hV hbV hcV hPV J0
  generalize w.heap.size + 1 = y at *
  obtain ⟨c0, c1, z0, z1⟩ := J1.out.cells
  go_upto_region 9 with fail
  generalize w3.setCell ⟨y, 0, none⟩ (.pointer (some ⟨b, 0, none⟩)) = w4 at *
  clear c0 c1 z0 z1 J1
  obtain ⟨x0, x1, x2, x3⟩ := four13 J2.out.bx
  go_wp2_with fail
  refine (RC.out _ J2.out.b).mono ?_
  clear x0 x1 x2 x3
  rintro _ w5 ⟨rb, D, rfl, hM, hPR⟩
  have J3 := hide (J2.out.keep hM.b)
  have J4 := hide (J3.out.set1 (.pointer (some ⟨rb, 0, none⟩)))
  obtain ⟨hR, hcR⟩ := hM.rq (by rw [hPR.2.1, hPR.1]; simp) (by rw [hPR.2.2.1, hPR.1]) (by rw [hPR.1]; exact h6)
  have NR : Hid (∀ k, rcol w4 w5 rb D k ≠ 0 → k ≠ y) := fun k hk e => by
    have h1 := hcR k hk
    have h2 := J2.out.lt
    omega
  have R4 := hide (hR.but (Jb.but y 1 (.pointer (some ⟨rb, 0, none⟩))) NR.out)
  have V4 := hide ((V2.out.keep hM.b).but13 (Jb.but y 1 (.pointer (some ⟨rb, 0, none⟩))) NV.out)
  have SR := hide hPR
  generalize rcol w4 w5 rb D = colR at *
  clear hR hcR hM hPR V2 J2
  obtain ⟨c0, c1, z0, z1⟩ := J3.out.cells
  go_upto_region 10 with fail
  generalize w5.setCell ⟨y, 1, none⟩ (.pointer (some ⟨rb, 0, none⟩)) = w6 at *
  clear c0 c1 z0 z1 J3
  obtain ⟨c0, c1, z0, z1⟩ := J4.out.cells
  go_wp2_with fail
  refine (rCopy_any w6 rb D colR R4.out).mono ?_
  rintro _ w7 ⟨rb2, D2, colR2, rfl, hR2, hSame, hb7, hc7⟩
  have J5 := hide (J4.out.keep hb7)
  have NR2 : Hid (∀ k, colR2 k ≠ 0 → k ≠ y) := fun k hk e => by
    rcases hc7 k hk with h | h
    · exact NR.out k (by rw [h]; decide) e
    · have h2 := J4.out.lt
      omega
  have J6 := hide (J5.out.set1 (.pointer (some ⟨rb2, 0, none⟩)))
  have R6 := hide (hR2.but (Jb.but y 1 (.pointer (some ⟨rb2, 0, none⟩))) NR2.out)
  have V6 := hide ((V4.out.keep hb7).but13 (Jb.but y 1 (.pointer (some ⟨rb2, 0, none⟩))) NV.out)
  have SR2 := hide (SR.out.same hSame)
  clear c0 c1 z0 z1 hR2 hSame hb7 hc7 R4 V4 J4 SR
  obtain ⟨c0, c1, z0, z1⟩ := J5.out.cells
  go_upto_region 13 with fail
  generalize w7.setCell ⟨y, 1, none⟩ (.pointer (some ⟨rb2, 0, none⟩)) = w8 at *
  clear c0 c1 z0 z1 J5
  go_wp2_with fail
  go_ret2
  exact .inr ⟨y, b, rb2, S, pb, mb, pc, col, D2, colR2, rfl, ⟨J6.out.by', J6.out.ly, J6.out.b, V6.out, R6.out, pair_sml SV.out, pair_reads SV.out SR2.out, pair_counts SV.out SR2.out, pair_states SV.out SR2.out, NV.out, NR2.out⟩⟩
end Go.Proofs.YtbhigodjbfoeoaaGreat
end
section
namespace Go.Proofs.YtbhigodjbfoeoaaGreat
set_option linter.unusedVariables false
set_option linter.unusedSimpArgs false
open Go.RowKit
def P3 : Q.Po := Q.Po.start 2 [0, 0, 0]
def S3 : Vs := Vs.start P3
theorem p3a : P3.alloc.1 = (1, 0) := by decide
theorem p3b : P3.alloc.2.alloc.1 = (2, 0) := by decide
theorem make_s {S : Vs} {p : Pg} {q : Pv} {n : Int} (hc : p.check = 0) (ha : S.X.P.alloc.1 = (n, 0)) : S.makeR p = (n, 0) ∧ S.makeS p q = ⟨S.X.allocd.lay n q, S.al ++ [(S.X.P.mark, S.X.ch.length)], S.fl⟩ := by
  constructor
  · unfold Vs.makeR
    rw [if_pos hc, ha]
  · unfold Vs.makeS
    rw [if_pos hc, ha]
    unfold Vs.done
    simp
theorem spr_two {l : List Nat} (h1 : 480 < l.length) (h2 : l.length ≤ 960) {S' : Vs} {nx : Int} (h : Spr l 2 S3 2 S' nx) : nx = 2 ∧ Chn S' l 2 2 2 ∧ S'.X.P = P3.alloc.2.alloc.2 := by
  obtain ⟨S1, n1, q1, ⟨S0, n0, q0, ⟨rfl, rfl⟩, g0, e0, rfl⟩, g1, e1, rfl⟩ := h
  obtain ⟨r0, s0⟩ := make_s (S := S3) (q := q0) (mkp_check (l := l) (i := 1) (nx := 0) (by omega) (by omega) (by omega)) p3a
  rw [show 2 - 1 - 0 = 1 from rfl] at e0 g0 ⊢
  rw [r0] at e0
  subst e0
  rw [show 2 - 1 - 1 = 0 from rfl] at e1 g1 ⊢
  have hp1 : (S3.makeS (mkp l 1 0) q0).X.P = P3.alloc.2 := by rw [s0]; rfl
  obtain ⟨r1, s1⟩ := make_s (S := S3.makeS (mkp l 1 0) q0) (q := q1) (mkp_check (l := l) (i := 0) (nx := 1) (by omega) (by omega) (by omega)) (by rw [hp1]; exact p3b)
  rw [r1] at e1
  subst e1
  have k0 : q0.kind = 3 := congrArg Pg.kind g0
  have k1 : q1.kind = 3 := congrArg Pg.kind g1
  have hP : ((S3.makeS (mkp l 1 0) q0).makeS (mkp l 0 1) q1).X.P = P3.alloc.2.alloc.2 := by
    rw [s1]
    show (S3.makeS (mkp l 1 0) q0).X.P.alloc.2 = _
    rw [hp1]
  have hF : ((S3.makeS (mkp l 1 0) q0).makeS (mkp l 0 1) q1).X.f = fput (fput (fun _ => none) 1 q0) 2 q1 := by
    rw [s1, s0]
    rfl
  have o2 : ((S3.makeS (mkp l 1 0) q0).makeS (mkp l 0 1) q1).X.on 2 = q1 := by
    unfold Vm.on
    rw [hF]
    simp [fput, k1]
  have o1 : ((S3.makeS (mkp l 1 0) q0).makeS (mkp l 0 1) q1).X.on 1 = q0 := by
    unfold Vm.on
    rw [hF]
    simp [fput, k0]
  have c2 : 0 < P3.alloc.2.alloc.2.count 2 := by decide
  have c1 : 0 < P3.alloc.2.alloc.2.count 1 := by decide
  refine ⟨rfl, ⟨by rw [hP]; exact c2, 1, by rw [o2]; exact g1, by simp, ⟨by rw [hP]; exact c1, 0, by rw [o1]; exact g0, by simp, rfl⟩⟩, hP⟩
theorem ok_two {l : List Nat} (h1 : 480 < l.length) (h2 : l.length ≤ 960) : ∀ m S1 n1, m < 2 → Spr l 2 S3 m S1 n1 → (S1.makeR (mkp l (2 - 1 - m) n1)).2 = 0 ∧ N64 n1 ∧ S1.X.P.mark + 1 ≤ 17592186044416 ∧ S1.X.ch.length + 1 ≤ 1759218604441 ∧ S1.al.length + 1 ≤ 8796093022208 := by
  intro m S1 n1 hm h
  cases m with
  | zero =>
    obtain ⟨rfl, rfl⟩ := h
    rw [show 2 - 1 - 0 = 1 from rfl, (make_s (S := S3) (q := Pv.zero) (mkp_check (l := l) (i := 1) (nx := 0) (by omega) (by omega) (by omega)) p3a).1]
    exact ⟨rfl, by simp [N64], by decide, by decide, by decide⟩
  | succ m =>
    cases m with
    | zero =>
      obtain ⟨S0, n0, q0, ⟨rfl, rfl⟩, g0, e0, rfl⟩ := h
      obtain ⟨r0, s0⟩ := make_s (S := S3) (q := q0) (mkp_check (l := l) (i := 1) (nx := 0) (by omega) (by omega) (by omega)) p3a
      rw [show 2 - 1 - 0 = 1 from rfl] at e0 ⊢
      rw [r0] at e0
      subst e0
      have hp1 : (S3.makeS (mkp l 1 0) q0).X.P = P3.alloc.2 := by rw [s0]; rfl
      rw [show 2 - 1 - (0 + 1) = 0 from rfl, (make_s (S := S3.makeS (mkp l 1 0) q0) (q := Pv.zero) (mkp_check (l := l) (i := 0) (nx := 1) (by omega) (by omega) (by omega)) (by rw [hp1]; exact p3b)).1]
      rw [hp1]
      refine ⟨rfl, by simp [N64], by decide, ?_, ?_⟩
      · rw [s0]; show (([] : List (Int × Pv)) ++ [_]).length + 1 ≤ _; simp
      · rw [s0]; show (([] : List (Nat × Nat)) ++ [_]).length + 1 ≤ _; simp
    | succ m => omega
def l500 : List Nat := List.replicate 499 0 ++ [7]
theorem l500_len : l500.length = 500 := by rw [l500, List.length_append, List.length_replicate]; rfl
theorem l500_b8 : B8 l500 := fun x hx => by
  unfold l500 at hx
  rcases List.mem_append.1 hx with h | h
  · have := List.eq_of_mem_replicate h; omega
  · have := List.mem_singleton.1 h; omega
theorem made_at : (madeCells #[.int .u8 0] 500)[499]? = some (.int .u8 0) := by kernel_rfl
theorem l500_at : l500.getD 499 0 = 7 := by kernel_rfl
theorem l500_vb : ((madeCells #[.int .u8 0] 500).setIfInBounds 499 (.int .u8 7)).toList.take 500 = vb l500 := by kernel_rfl
theorem l500_row {w : World} {g : Nat} (h : w.heap[g]? = some (.cells ((madeCells #[.int .u8 0] 500).setIfInBounds 499 (.int .u8 7)) 5 (0, 0))) : Rw w (some ⟨g, 0, none⟩) 500 l500 := by
  refine Rw.mk h (by rw [l500_len]; omega) (by decide) (by rw [Array.size_setIfInBounds, size_madeCells]) ?_
  rw [l500_len]
  exact l500_vb
end Go.Proofs.YtbhigodjbfoeoaaGreat
end
section
namespace Go.Proofs.YtbhigodjbfoeoaaGreat
set_option linter.unusedVariables false
set_option linter.unusedSimpArgs false
open Go.RowKit
set_option maxHeartbeats 16000000 in
set_option maxRecDepth 16000 in
theorem fixed13_any (w : World) : Calls Tryz.prog 8 #[] w fun e w' => e = .returned (.bool true) ∧ Below w.heap.size w w' := by
  have NW := hide (vNew_yes w 3 2 (by decide))
  have PG := hide fun (W : World) => bPages_any W 481 (by unfold N64; omega)
  obtain ⟨mc, hmc⟩ : ∃ mc, madeCells #[.int .u8 0] 500 = mc := ⟨_, rfl⟩
  have hmk : ∀ w : World, (Instr.makeSlice 32 (.int .i64 500) (.int .i64 500)).run Tryz.prog w = .ok (.slice (some ⟨w.heap.size, 0, none⟩) 500 500) (w.alloc (.cells mc 5)) := by
    rw [← hmc]
    exact make_u8 500 500 (Nat.le_refl _) (by decide)
  have M0 : Hid (mc[499]? = some (.int .u8 0)) := by show _ = _; rw [← hmc]; exact made_at
  have MR := hide fun (w : World) (g : Nat) (h : w.heap[g]? = some (.cells (mc.setIfInBounds 499 (.int .u8 7)) 5 (0, 0))) => l500_row (w := w) (g := g) (by rw [hmc]; exact h)
  obtain ⟨ms, hms⟩ : ∃ ms, mc.setIfInBounds 499 (.int .u8 7) = ms := ⟨_, rfl⟩
  rw [hms] at MR
  have HMS := hide hms
  clear hms
  clear hmc
  have hcv : ∀ (W : World) (C : Array Value) (n c g : Nat), W.heap.size = g → (convert 32 32 (.slice (some ⟨g, 0, none⟩) n c)).run Tryz.prog (W.alloc (.cells C 5)) = .ok (.slice (some ⟨g, 0, none⟩) n c) (W.alloc (.cells C 5 (C.size, C.size + 1))) := by
    intro W C n c g hg
    subst hg
    exact Lib.run_convert_bytes_const W 32 5 C n c Tryz.underlying32 Tryz.underlying5
  go_enter Tryz.func8, Tryz.ntmps8
  go_wp2_with fail
  refine NW.out.mono ?_
  rintro _ w1 ⟨b, rfl, pb, mb, pc, col, hV, hb1, hcol⟩
  have V1 : Hid (Vw w1 b S3 pb mb pc col) := hV
  have B1 := hide hb1
  have CN := hide hcol
  clear hV hb1 hcol NW
  go_upto_region 5 with fail
  have X1 := hide (heap_alloc_new w1 (.cells mc 5))
  have A1 := hide (al w1 (.cells mc 5))
  have c0 : (w1.alloc (.cells mc 5)).cell? ⟨w1.heap.size, 499, none⟩ = some (.int .u8 0) := by rw [cell_of_row _ _ _ _ _ _ X1.out]; exact M0.out
  have f0 : (w1.alloc (.cells mc 5)).frozen? ⟨w1.heap.size, 499, none⟩ = false := frozen_of_row _ _ _ _ _ X1.out
  go_upto_region 6 with fail
  clear c0 f0
  try rw [HMS.out]
  have X2 := hide (heap_alloc_new w1 (.cells ms 5))
  have B2 := hide (al w1 (.cells ms 5))
  have R2 := hide (MR.out _ _ X2.out)
  have hz2 : w1.heap.size < (w1.alloc (.cells ms 5)).heap.size := (Array.getElem?_eq_some_iff.1 X2.out).1
  generalize w1.alloc (.cells ms 5) = w2 at *
  have A3 := hide (al w2 (.cells #[.int .u8 107] 5 (1, 2)))
  have X3 := hide (heap_alloc_new w2 (.cells #[.int .u8 107] 5 (1, 2)))
  have V3 := hide (V1.out.keep (bt B2.out A3.out))
  have ZC : Hid (∀ k, w1.heap.size ≤ k → col k = 0) := fun k hk => V1.out.z hk
  have KB : Hid (Bs (w2.alloc (.cells #[.int .u8 107] 5 (1, 2))) (some ⟨w2.heap.size, 0, none⟩) [107]) := ⟨fun x hx => by have := List.mem_singleton.1 hx; omega, by decide, .inr ⟨_, _, rfl, fun i hi => by
    have : i = 0 := by simpa using hi
    subst this
    rw [cell_of_row _ _ _ _ _ _ X3.out]; rfl⟩⟩
  have ST := hide (Store_ok (w2.alloc (.cells #[.int .u8 107] 5 (1, 2))) b S3 pb mb pc col V3.out (some ⟨w2.heap.size, 0, none⟩) 1 [107] KB.out (fun x hx => by cases hx; exact ZC.out _ (Nat.le_of_lt hz2)) (by decide) (by decide) w1.heap.size 0 500 l500 ((R2.out.bs l500_b8 R2.out.len_le).keep A3.out) (ZC.out _ (Nat.le_refl _)) (Nat.lt_of_lt_of_le hz2 A3.out.size) (by rw [l500_len]; exact Nat.le_refl _) (by rw [l500_len]; decide) (by rw [l500_len]; decide) 2 (by rw [l500_len]) (by decide) (ok_two (by rw [l500_len]; decide) (by rw [l500_len]; decide)))
  rw [l500_len] at ST
  simp only [List.length_cons, List.length_nil, Nat.zero_add] at ST
  go_wp2_with fail
  refine ST.out.mono ?_
  rintro _ w4 ⟨S', x, rfl, xk, xv, xs, hSp, pc', col', hV4, hF4⟩
  obtain ⟨n2, hCh, hP⟩ := spr_two (by rw [l500_len]; decide) (by rw [l500_len]; decide) hSp
  have V4 := hide hV4
  have PP := hide hP
  have CH := hide hCh
  have B4 : Hid (Below w.heap.size w w4) := by
    have f1 := hF4.b
    refine (But.below (S := fun k => k < w4.heap.size ∧ w.heap.size ≤ k) ?_ (fun k hk e => by omega))
    have g1 : But (fun k => 1 ≤ col k ∧ col k ≤ 5) w w4 := (But.ofBelow (S := fun k => 1 ≤ col k ∧ col k ≤ 5) (bt B1.out (bt B2.out A3.out))).trans f1 (fun _ _ e => e)
    exact g1.mono (fun k hk e => by
      have := CN.out k (by show col k ≠ 0; omega)
      omega)
  have A5 := hide (al w4 (.cells x.cs 34))
  have X5 := hide (heap_alloc_new w4 (.cells x.cs 34))
  have LD := hide (Load_ok (w4.alloc (.cells x.cs 34)) b S' pb mb pc' col' (hV4.keep A5.out) l500 (by rw [l500_len]; decide) (by rw [l500_len]; decide) l500_b8 2 (by rw [l500_len]) x (by rw [l500_len]; exact xs) (by rw [n2]; exact hCh))
  rw [l500_len] at LD
  clear hSp hV4 hF4 hCh hP ST KB
  obtain ⟨xK, xcK, xkey, xV, xcV, xval, xch, xsz⟩ := x
  simp only at xk xv xs n2
  subst xs
  subst n2
  subst xv
  subst xk
  unfold Iv.vl at LD ⊢
  simp only [Iv.cs, List.length_nil, List.length_cons, Nat.zero_add] at LD A5 X5 ⊢
  obtain ⟨x0, x1, x2, x3⟩ := four13 X5.out
  go_wp2_with fail
  refine LD.out.mono ?_
  rintro _ w6 ⟨a, c, rfl, hO⟩
  have R6 := hide hO.r
  have B6 := hide (bt B4.out (bt A5.out hO.b))
  have V6 := hide (V4.out.keep (bt A5.out hO.b))
  have X6 := hide (blk13 X5.out hO.b)
  clear hO LD x0 x1 x2 x3
  obtain ⟨ga, oa, ea, hcell⟩ : ∃ g o, a = some ⟨g, o, none⟩ ∧ w6.cell? ⟨g, o + 499, none⟩ = some (.int .u8 7) := by
    have hb := R6.out.bs l500_b8 R6.out.len_le
    rcases hb.2.2 with h0 | ⟨g, o, e, hc⟩
    · have := congrArg List.length h0
      rw [l500_len] at this
      cases this
    · refine ⟨g, o, e, ?_⟩
      have := hc 499 (by rw [l500_len]; decide)
      rw [l500_at] at this
      exact this
  subst ea
  have hcap : Hid (500 ≤ c) := by have := R6.out.cap; rw [l500_len] at this; exact this
  obtain ⟨x0, x1, x2, x3⟩ := four13 X6.out
  have c0 := V6.out.c0
  have TA := hide (show ∀ W : World, Below w6.heap.size w6 W → Calls Tryz.prog 23 #[.pointer (some ⟨pb, 0, none⟩), .int .i64 1] W fun e w' => e = .returned (.int .i64 1) ∧ Below W.heap.size W w' from fun W hb => by
    obtain ⟨ac, cc, aa, ca, hq⟩ := V6.out.keep hb
    have := Q.Tally_any W pb _ _ hq.pool 1
    rw [PP.out] at this
    have e1 : ((P3.alloc.2.alloc.2).pages 1).length = 1 := by decide
    rw [e1] at this
    exact this)
  have hb6 : b < w6.heap.size := by obtain ⟨aa, ca, hx⟩ := V6.out.vx; exact hx.lb
  have p481 : bpn 481 = 2 := by decide
  go_wp2_with fail
  refine (TA.out _ (Below.refl _ _)).mono ?_
  rintro _ w7 ⟨rfl, hb7⟩
  have B7 := hide (bt B6.out hb7)
  clear hb7 TA x0 x1 x2 x3 c0 hcell
  go_wp2_with fail
  refine (PG.out _).mono ?_
  rintro _ w8 ⟨rfl, hw8⟩
  rw [hw8]
  clear hw8
  go_wp2_with fail
  go_ret
  exact ⟨by first | rfl | simp [p481], B7.out⟩
end Go.Proofs.YtbhigodjbfoeoaaGreat
end
section
namespace Go.Proofs.YtbhigodjbfoeoaaGreat
set_option linter.unusedVariables false
set_option linter.unusedSimpArgs false
open Go.RowKit
set_option maxHeartbeats 16000000 in
set_option maxRecDepth 16000 in
theorem begun_any (w : World) (p r : Int) (aC : Option Addr) (nC cC : Nat) (C : List Int) (hC : Q.Ir w aC C) (hn : nC = C.length) (aN : Option Addr) (m cN : Nat) (NL : List (Int × Pv)) (hN : Nm w aN NL) (hm : m = NL.length) :
    Calls Tryz.prog 9 #[.agg #[.int .i64 p, .int .i64 r, .slice aC nC cC, .slice aN m cN]] w fun e w' => Begun w w' e := by
  by_cases h1 : 300 < nC
  · have e1 : decide ((300 : Int) < (nC : Int)) = true := decide_eq_true (by omega)
    have B := hide (al w (.cells #[.int .i64 p, .int .i64 r, .slice aC nC cC, .slice aN m cN] 25))
    clear hC hn hN hm h1
    go_enter Tryz.func9, Tryz.ntmps9
    go_wp2_with fail
    go_ret2
    exact .inl ⟨rfl, B.out⟩
  have e1 : decide ((300 : Int) < (nC : Int)) = false := decide_eq_false (by omega)
  by_cases h2 : 300 < p
  · have e2 : decide ((300 : Int) < p) = true := decide_eq_true (by omega)
    have B := hide (al w (.cells #[.int .i64 p, .int .i64 r, .slice aC nC cC, .slice aN m cN] 25))
    clear hC hn hN hm h1 h2
    go_enter Tryz.func9, Tryz.ntmps9
    go_wp2_with fail
    go_ret2
    exact .inl ⟨rfl, B.out⟩
  have e2 : decide ((300 : Int) < p) = false := decide_eq_false (by omega)
  by_cases h3 : 400 < m
  · have e3 : decide ((400 : Int) < (m : Int)) = true := decide_eq_true (by omega)
    have B := hide (al w (.cells #[.int .i64 p, .int .i64 r, .slice aC nC cC, .slice aN m cN] 25))
    clear hC hn hN hm h1 h2 h3
    go_enter Tryz.func9, Tryz.ntmps9
    go_wp2_with fail
    go_ret2
    exact .inl ⟨rfl, B.out⟩
  by_cases h0 : 0 < nC
  · by_cases hl : (ldAll r C (nmg NL)).1 = 0
    · refine begunLm w p r aC nC cC aN m cN (by omega) (by omega) (by omega) h0 C (by omega) (ldAll r C (nmg NL)).2 (hide fun W hb => ?_) (hide fun W hb => ?_)
      · refine (vLoad_any W r aC nC cC C (hC.keep hb) hn aN m cN NL (hN.keep hb) hm (by omega)).mono ?_
        rintro e w' (⟨er, hne, he, _⟩ | ⟨_, b, f, he, hM, hf, hc, _⟩)
        · exact absurd (he.symm.trans hl) hne
        · exact ⟨b, _, he, hM, f, rfl, hf, hc⟩
      · refine (rLoad_any W r aC nC cC C (hC.keep hb) hn aN m cN NL (hN.keep hb) hm (by omega)).mono ?_
        rintro e w' (⟨er, hne, he, _⟩ | ⟨_, rb, D, he, hM, _, hDC, hDL, hDP, hDp, _⟩)
        · exact absurd (he.symm.trans hl) hne
        · exact ⟨rb, D, he, hM, hDC, hDL, hDP, hDp⟩
    · refine begunLe w p r aC nC cC aN m cN (by omega) (by omega) (by omega) h0 (ldAll r C (nmg NL)).1 (hide fun W hb => ?_) (hide fun W hb => ?_)
      · refine (vLoad_any W r aC nC cC C (hC.keep hb) hn aN m cN NL (hN.keep hb) hm (by omega)).mono ?_
        rintro e w' (⟨er, hne, he, hr, hb2⟩ | ⟨h, _⟩)
        · exact ⟨by rw [he]; exact hr, hb2⟩
        · exact absurd h hl
      · refine (rLoad_any W r aC nC cC C (hC.keep hb) hn aN m cN NL (hN.keep hb) hm (by omega)).mono ?_
        rintro e w' (⟨er, hne, he, hr, hb2⟩ | ⟨h, _⟩)
        · exact ⟨by rw [he]; exact hr, hb2⟩
        · exact absurd h hl
  · by_cases hf : Q.fits p r = true
    · have hp1 : 1 ≤ p := by
        unfold Q.fits at hf
        simp only [Bool.and_eq_true, decide_eq_true_eq] at hf
        omega
      obtain ⟨n, rfl⟩ : ∃ n : Nat, p = (n : Int) := ⟨p.toNat, by omega⟩
      refine begunNm w _ r aC nC cC aN m cN (by omega) (by omega) (by omega) (by omega) (List.replicate n 0) (by rw [List.length_replicate]; omega) (fun _ => none) (hide fun W hb => ?_) (hide fun W hb => ?_)
      · refine (vNew_yes W _ r hf).mono ?_
        rintro e w' ⟨b, he, hM⟩
        exact ⟨b, _, he, hM, PV.fresh⟩
      · refine (rNew_yes W n r hf).mono ?_
        rintro e w' ⟨rb, D, he, hM, hF⟩
        exact ⟨rb, D, he, hM, PR.fresh hF⟩
    · have hf2 : Q.fits p r = false := by simpa using hf
      refine begunNe w p r aC nC cC aN m cN (by omega) (by omega) (by omega) (by omega) 1 (hide fun W hb => ?_) (hide fun W hb => ?_)
      · refine (vNew_no W p r hf2).mono ?_
        rintro e w' ⟨he, rfl⟩
        exact ⟨he, Below.refl _ _⟩
      · refine (rNew_no W p r hf2).mono ?_
        rintro e w' ⟨he, rfl⟩
        exact ⟨he, Below.refl _ _⟩
def ownW (wb n : Nat) (k : Nat) : Prop := k = wb ∨ n ≤ k
theorem Bg.wk {w W : World} {wb b rb : Nat} {S : Vs} {pb mb : Nat} {pc col : Nat → Nat} {D : Rd} {colR : Nat → Nat} (h : Bg w W wb b rb S pb mb pc col D colR) : Wk W wb b rb (ownW wb W.heap.size) none 0 [] none 0 [] :=
  ⟨h.box, Ar.nil _, Ar.nil _, .inl rfl, (fun y hy => by cases hy), (fun y hy => by cases hy), (fun y z hy => by cases hy)⟩
theorem Bg.later {w W W2 : World} {wb b rb : Nat} {S : Vs} {pb mb : Nat} {pc col : Nat → Nat} {D : Rd} {colR : Nat → Nat} (h : Bg w W wb b rb S pb mb pc col D colR) (hB : But (ownW wb W.heap.size) W W2) : Vw W2 b S pb mb pc col ∧ Rq W2 rb D colR ∧ Below w.heap.size w W2 ∧ W.heap.size ≤ W2.heap.size := by
  refine ⟨h.v.but13 hB (fun k hk e => ?_), h.r.but hB (fun k hk e => ?_), ?_, hB.size⟩
  · rcases e with e | e
    · exact h.nv k hk e
    · exact hk (h.v.z e)
  · rcases e with e | e
    · exact h.nr k hk e
    · have := h.r.lt k hk
      omega
  · refine ((But.ofBelow (S := ownW wb W.heap.size) h.bl).trans hB (fun _ _ e => e)).below (fun k hk e => ?_)
    have := h.lw
    have := h.bl.size
    rcases e with e | e <;> omega
set_option maxHeartbeats 16000000 in
set_option maxRecDepth 16000 in
theorem blobLoads_any (w : World) (p r : Int) (aC : Option Addr) (nC cC : Nat) (C : List Int) (hC : Q.Ir w aC C) (hn : nC = C.length) (aN : Option Addr) (m cN : Nat) (NL : List (Int × Pv)) (hN : Nm w aN NL) (hm : m = NL.length) (i : Iv) (hi : Ii w i) (hk : i.key.length + 64 ≤ 140737488355328) (hv : i.val.length + 64 ≤ 140737488355328) :
    Calls Tryz.prog 5 #[.agg #[.int .i64 p, .int .i64 r, .slice aC nC cC, .slice aN m cN], i.vl] w fun e w' => e = .returned (.bool true) ∧ Below w.heap.size w w' := by
  have FX := hide fixed13_any
  have BG := hide fun (W : World) (hb : Below w.heap.size w W) => begun_any W p r aC nC cC C (hC.keep hb) hn aN m cN NL (hN.keep hb) hm
  have LD := hide fun (W : World) (hb : Below w.heap.size w W) (wb b rb : Nat) (own : Nat → Prop) (aT : Option Addr) (cT : Nat) (vs : List Value) (aX : Option Addr) (cX : Nat) (us : List Value) (hW : Wk W wb b rb own aT cT vs aX cX us) (hw : ∀ k, W.heap.size ≤ k → own k) (rd : Int → Option Pg) (hV : ReadsAs 43 (.pointer (some ⟨b, 0, none⟩)) rd W) (hR : ReadsAs 44 (.pointer (some ⟨rb, 0, none⟩)) rd W) (hvs : vs.length ≤ 1000) (hus : us.length = vs.length) => lload_any W wb b rb own aT cT vs aX cX us hW hw rd hV hR i (hi.keep hb) hk hv hvs hus
  have U := hide (two_blk w (.cells #[.int .i64 p, .int .i64 r, .slice aC nC cC, .slice aN m cN] 25) (.cells i.cs 34))
  clear hC hn hN hm hi hk hv
  obtain ⟨xK, xcK, xkey, xV, xcV, xval, xch, xsz⟩ := i
  unfold Iv.vl at LD ⊢
  simp only [Iv.cs] at LD U ⊢
  go_enter Tryz.func5, Tryz.ntmps5
  go_wp2_with fail
  refine (FX.out _).mono ?_
  rintro _ w2 ⟨rfl, hb2⟩
  have B2 := hide (bt U.out.2.2 hb2)
  have M0 := hide (blk13 U.out.1 hb2)
  have M1 := hide (blk13 U.out.2.1 hb2)
  clear hb2 U
  obtain ⟨x0, x1, x2, x3⟩ := four13 M0.out
  go_wp2_with fail
  refine (BG.out _ B2.out).mono ?_
  rintro _ w3 (⟨rfl, hb3⟩ | ⟨wb, b, rb, S, pb, mb, pc, col, D, colR, rfl, hG⟩)
  · have B3 := hide (bt B2.out hb3)
    clear hb3 x0 x1 x2 x3
    go_wp2_with fail
    go_ret
    exact ⟨rfl, B3.out⟩
  clear x0 x1 x2 x3
  have G := hide hG
  have B3 := hide (bt B2.out hG.bl)
  have M3 := hide (blk13 M1.out hG.bl)
  have R3 := hide hG.rd
  clear hG
  obtain ⟨y0, y1, y2, y3⟩ := four13 M3.out
  go_wp2_with fail
  refine (LD.out _ B3.out wb b rb _ none 0 [] none 0 [] G.out.wk (fun k hk => .inr hk) (rdV S) (G.out.v.reads G.out.s) (by rw [R3.out]; exact G.out.r.reads) (by simp) rfl).mono ?_
  rintro _ w4 ⟨rfl, aT, cT, vs, aX, cX, us, hW4, hB4, hl4, hu4⟩
  clear y0 y1 y2 y3
  obtain ⟨hV4, hR4, hb4, hs4⟩ := G.out.later hB4
  have B4 := hide (bt B2.out hb4)
  have M4 := hide (blk13 M1.out hb4)
  have V4 := hide hV4
  have Q4 := hide hR4
  have W4 := hide hW4
  have T4 := hide hB4
  have S4 := hide hs4
  have L4 := hide hl4
  have U4 := hide hu4
  clear hV4 hR4 hb4 hW4 hB4 hs4 hl4 hu4
  obtain ⟨y0, y1, y2, y3⟩ := four13 M4.out
  go_wp2_with fail
  refine (LD.out _ B4.out wb b rb _ aT cT vs aX cX us W4.out (fun k hk => .inr (Nat.le_trans S4.out hk)) (rdV S) (V4.out.reads G.out.s) (by rw [R3.out]; exact Q4.out.reads) (by have := L4.out; simp at this; omega) U4.out).mono ?_
  rintro _ w5 ⟨rfl, aT5, cT5, vs5, aX5, cX5, us5, hW5, hB5, hl5, hu5⟩
  clear y0 y1 y2 y3
  obtain ⟨hV5, hR5, hb5, hs5⟩ := G.out.later (T4.out.trans hB5 (fun _ _ e => e))
  have B5 := hide (bt B2.out hb5)
  have V5 := hide hV5
  have Q5 := hide hR5
  have W5 := hide hW5
  clear hV5 hR5 hb5 hW5 hB5 hs5 hl5 hu5
  go_wp2_with fail
  refine (alike_any w5 wb b rb _ aT5 cT5 vs5 aX5 cX5 us5 W5.out S pb mb pc col V5.out G.out.s D colR Q5.out G.out.c G.out.st (rdV S) rfl R3.out.symm).mono ?_
  rintro _ w6 ⟨rfl, hb6⟩
  have B6 := hide (bt B5.out hb6)
  clear hb6
  go_wp2_with fail
  go_ret
  exact ⟨rfl, B6.out⟩
end Go.Proofs.YtbhigodjbfoeoaaGreat
end
