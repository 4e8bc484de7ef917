import Derived.Test.YtceeeofkigkpkaaGreatEU
import Derived.Test.YtceeeofkigkpkaaGreatEN
namespace Go.Proofs.YtceeeofkigkpkaaGreat
set_option linter.unusedVariables false
open Go.RowKit

/-! ### the document's pool, as it is made -/
def vbl (L : List Bool) : List Value := L.map Value.bool
theorem vbl_get (L : List Bool) {i : Nat} (h : i < L.length) : (vbl L)[i]? = some (.bool (L.getD i false)) := by simp [vbl, h]
/-- counts C, what lasts B; no act was done -/
structure Rp (w : World) (q : Nat) (r : Int) (C : List Int) (B : List Bool) (cb lb : Nat) : Prop where
  box : w.heap[q]? = some (.cells #[.int .i64 r, .slice (some ⟨cb, 0, none⟩) C.length C.length, .slice (some ⟨lb, 0, none⟩) C.length C.length, .slice none 0 0, .int .i64 0] 80 (0, 0))
  cnt : w.heap[cb]? = some (.cells (vi C).toArray 3 (0, 0))
  las : w.heap[lb]? = some (.cells (vbl B).toArray 4 (0, 0))
  len : B.length = C.length
  d1 : q ≠ cb
  d2 : q ≠ lb
  d3 : cb ≠ lb
theorem Rp.keep {w w' : World} {q : Nat} {r : Int} {C : List Int} {B : List Bool} {cb lb : Nat} (h : Rp w q r C B cb lb) (hb : Below w.heap.size w w') : Rp w' q r C B cb lb :=
  ⟨(hb.block _ (Array.getElem?_eq_some_iff.1 h.box).1).trans h.box, (hb.block _ (Array.getElem?_eq_some_iff.1 h.cnt).1).trans h.cnt, (hb.block _ (Array.getElem?_eq_some_iff.1 h.las).1).trans h.las, h.len, h.d1, h.d2, h.d3⟩
theorem Rp.cell {w : World} {q : Nat} {r : Int} {C : List Int} {B : List Bool} {cb lb : Nat} (h : Rp w q r C B cb lb) : w.cell? ⟨q, 0, none⟩ = some (.int .i64 r) ∧ w.cell? ⟨q, 1, none⟩ = some (.slice (some ⟨cb, 0, none⟩) C.length C.length) ∧ w.cell? ⟨q, 2, none⟩ = some (.slice (some ⟨lb, 0, none⟩) C.length C.length) ∧ w.cell? ⟨q, 3, none⟩ = some (.slice none 0 0) ∧ w.cell? ⟨q, 4, none⟩ = some (.int .i64 0) := by
  rw [cell_of_row _ _ _ _ _ _ h.box, cell_of_row _ _ _ _ _ _ h.box, cell_of_row _ _ _ _ _ _ h.box, cell_of_row _ _ _ _ _ _ h.box, cell_of_row _ _ _ _ _ _ h.box]
  exact ⟨rfl, rfl, rfl, rfl, rfl⟩
theorem Rp.cAt {w : World} {q : Nat} {r : Int} {C : List Int} {B : List Bool} {cb lb : Nat} (h : Rp w q r C B cb lb) {i : Nat} (hi : i < C.length) : w.cell? ⟨cb, i, none⟩ = some (.int .i64 (C.getD i 0)) ∧ w.frozen? ⟨cb, i, none⟩ = false := by
  refine ⟨?_, by simp [World.frozen?, h.cnt]⟩
  rw [cell_of_row _ _ _ _ _ _ h.cnt, List.getElem?_toArray]
  exact vi_get C i hi
theorem Rp.lAt {w : World} {q : Nat} {r : Int} {C : List Int} {B : List Bool} {cb lb : Nat} (h : Rp w q r C B cb lb) {i : Nat} (hi : i < C.length) : w.cell? ⟨lb, i, none⟩ = some (.bool (B.getD i false)) ∧ w.frozen? ⟨lb, i, none⟩ = false := by
  refine ⟨?_, by simp [World.frozen?, h.las]⟩
  rw [cell_of_row _ _ _ _ _ _ h.las, List.getElem?_toArray]
  exact vbl_get B (by rw [h.len]; exact hi)
theorem Rp.setC {w : World} {q : Nat} {r : Int} {C : List Int} {B : List Bool} {cb lb : Nat} (h : Rp w q r C B cb lb) (i : Nat) (x : Int) : Rp (w.setCell ⟨cb, i, none⟩ (.int .i64 x)) q r (C.set i x) B cb lb := by
  refine ⟨?_, ?_, (Below.heap_setCell _ _ _ _ (fun e => h.d3 e.symm)).trans h.las, by rw [List.length_set]; exact h.len, h.d1, h.d2, h.d3⟩
  · rw [List.length_set]; exact (Below.heap_setCell _ _ _ _ h.d1).trans h.box
  · rw [heap_setCell_same _ _ _ _ _ _ h.cnt]
    simp [vi, List.map_set]
theorem Rp.setL {w : World} {q : Nat} {r : Int} {C : List Int} {B : List Bool} {cb lb : Nat} (h : Rp w q r C B cb lb) (i : Nat) (x : Bool) : Rp (w.setCell ⟨lb, i, none⟩ (.bool x)) q r C (B.set i x) cb lb := by
  refine ⟨(Below.heap_setCell _ _ _ _ h.d2).trans h.box, (Below.heap_setCell _ _ _ _ h.d3).trans h.cnt, ?_, by rw [List.length_set]; exact h.len, h.d1, h.d2, h.d3⟩
  rw [heap_setCell_same _ _ _ _ _ _ h.las]
  simp [vbl, List.map_set]
theorem infoBool : (Tryz.prog.info? 4).map (fun i => (i.zero, i.size, i.bytes)) = some (some (.bool false), 1, 1) := by kernel_rfl
theorem make_bool (n : Nat) (hc : n ≤ 65536) (w : World) : (Instr.makeSlice 77 (.int .i64 (n : Int)) (.int .i64 (n : Int))).run Tryz.prog w = .ok (.slice (some ⟨w.heap.size, 0, none⟩) n n) (w.alloc (.cells (vbl (List.replicate n false)).toArray 4)) := by
  obtain ⟨i0, hi, hz0, hz1, hz2⟩ := info_parts infoBool
  have hr := run_make (P := Tryz.prog) w 77 4 i0 (.bool false) Tryz.underlying77 hi hz0 .i64 .i64 n n (by omega) (by omega) (by rw [hz2]; omega) (by omega)
  simp only [Int.toNat_natCast, hz1, Nat.mul_one] at hr
  rw [hr]
  have e : madeCells (Value.bool false).cells n = (vbl (List.replicate n false)).toArray := by
    unfold madeCells vbl
    apply Array.ext
    · simp
    · intro i h1 h2
      simp [Value.cells, Nat.mod_one]
  rw [e]
set_option maxHeartbeats 2000000 in
theorem yNew_no (w : World) (n r : Int) (h : fits n r = false) : Calls Tryz.prog 21 #[.int .i64 n, .int .i64 r] w fun e w' => e = .returned (.tuple #[.pointer none, .int .i64 1]) ∧ w' = w := by
  unfold fits at h
  by_cases h1 : n < 1
  · have d1 : decide (n < 1) = true := decide_eq_true h1
    clear h
    go_enter Tryz.func21, Tryz.ntmps21
    go_wp2
    go_ret2
    exact ⟨rfl, rfl⟩
  · have d1 : decide (n < 1) = false := decide_eq_false h1
    by_cases h2 : 65536 < n
    · have d2 : decide (65536 < n) = true := decide_eq_true h2
      clear h
      go_enter Tryz.func21, Tryz.ntmps21
      go_wp2
      go_ret2
      exact ⟨rfl, rfl⟩
    · have d2 : decide (65536 < n) = false := decide_eq_false h2
      by_cases h3 : r < 2
      · have d3 : decide (r < 2) = true := decide_eq_true h3
        clear h
        go_enter Tryz.func21, Tryz.ntmps21
        go_wp2
        go_ret2
        exact ⟨rfl, rfl⟩
      · have d3 : decide (r < 2) = false := decide_eq_false h3
        have h4 : 65536 ≤ r := by
          rw [decide_eq_true (show 1 ≤ n by omega), decide_eq_true (show n ≤ 65536 by omega), decide_eq_true (show 2 ≤ r by omega)] at h
          simpa using h
        have d4 : decide (65536 ≤ r) = true := decide_eq_true h4
        clear h
        go_enter Tryz.func21, Tryz.ntmps21
        go_wp2
        go_ret2
        exact ⟨rfl, rfl⟩
theorem Rp.made (w : World) (n : Nat) (r : Int) : Rp (((w.alloc (.cells (vi (List.replicate n 0)).toArray 3)).alloc (.cells (vbl (List.replicate n false)).toArray 4)).alloc (.cells #[.int .i64 r, .slice (some ⟨w.heap.size, 0, none⟩) n n, .slice (some ⟨w.heap.size + 1, 0, none⟩) n n, .slice none 0 0, .int .i64 0] 80)) (w.heap.size + 1 + 1) r (List.replicate n 0) (List.replicate n false) w.heap.size (w.heap.size + 1) := by
  refine ⟨?_, ?_, ?_, by simp, by omega, by omega, by omega⟩
  · have c := World.alloc_heap_new ((w.alloc (.cells (vi (List.replicate n 0)).toArray 3)).alloc (.cells (vbl (List.replicate n false)).toArray 4)) (.cells #[.int .i64 r, .slice (some ⟨w.heap.size, 0, none⟩) n n, .slice (some ⟨w.heap.size + 1, 0, none⟩) n n, .slice none 0 0, .int .i64 0] 80)
    rw [size_alloc, size_alloc] at c
    rw [List.length_replicate]
    exact c
  · have c := World.alloc_heap_new w (.cells (vi (List.replicate n 0)).toArray 3)
    exact ((bt (al _ _) (al _ _)).block _ (Array.getElem?_eq_some_iff.1 c).1).trans c
  · have c := World.alloc_heap_new (w.alloc (.cells (vi (List.replicate n 0)).toArray 3)) (.cells (vbl (List.replicate n false)).toArray 4)
    rw [size_alloc] at c
    exact ((al _ _).block _ (Array.getElem?_eq_some_iff.1 c).1).trans c
theorem Rp.made2 (w : World) (n : Nat) (r : Int) : Rp (((w.alloc (.cells (vbl (List.replicate n false)).toArray 4)).alloc (.cells (vi (List.replicate n 0)).toArray 3)).alloc (.cells #[.int .i64 r, .slice (some ⟨w.heap.size + 1, 0, none⟩) n n, .slice (some ⟨w.heap.size, 0, none⟩) n n, .slice none 0 0, .int .i64 0] 80)) (w.heap.size + 1 + 1) r (List.replicate n 0) (List.replicate n false) (w.heap.size + 1) w.heap.size := by
  refine ⟨?_, ?_, ?_, by simp, by omega, by omega, by omega⟩
  · have c := World.alloc_heap_new ((w.alloc (.cells (vbl (List.replicate n false)).toArray 4)).alloc (.cells (vi (List.replicate n 0)).toArray 3)) (.cells #[.int .i64 r, .slice (some ⟨w.heap.size + 1, 0, none⟩) n n, .slice (some ⟨w.heap.size, 0, none⟩) n n, .slice none 0 0, .int .i64 0] 80)
    rw [size_alloc, size_alloc] at c
    rw [List.length_replicate]
    exact c
  · have c := World.alloc_heap_new (w.alloc (.cells (vbl (List.replicate n false)).toArray 4)) (.cells (vi (List.replicate n 0)).toArray 3)
    rw [size_alloc] at c
    exact ((al _ _).block _ (Array.getElem?_eq_some_iff.1 c).1).trans c
  · have c := World.alloc_heap_new w (.cells (vbl (List.replicate n false)).toArray 4)
    exact ((bt (al _ _) (al _ _)).block _ (Array.getElem?_eq_some_iff.1 c).1).trans c
/-- the document's pool, new since w -/
def RMade (w w' : World) (q : Nat) (r : Int) (C : List Int) (B : List Bool) : Prop := ∃ cb lb, Rp w' q r C B cb lb ∧ Below w.heap.size w w' ∧ w.heap.size ≤ q ∧ w.heap.size ≤ cb ∧ w.heap.size ≤ lb
set_option maxHeartbeats 4000000 in
theorem yNew_yes (w : World) (n : Nat) (r : Int) (h : fits n r = true) : Calls Tryz.prog 21 #[.int .i64 (n : Int), .int .i64 r] w fun e w' => ∃ q, e = .returned (.tuple #[.pointer (some ⟨q, 0, none⟩), .int .i64 0]) ∧ RMade w w' q r (List.replicate n 0) (List.replicate n false) := by
  obtain ⟨⟨h1, h2⟩, h3, h4⟩ := fits_iff.1 h
  have d1 : decide ((n : Int) < 1) = false := decide_eq_false (by omega)
  have d2 : decide (65536 < (n : Int)) = false := decide_eq_false (by omega)
  have d3 : decide (r < 2) = false := decide_eq_false (by omega)
  have d4 : decide (65536 ≤ r) = false := decide_eq_false (by omega)
  have mi := fun W => make_int n (by omega) W
  have mb := fun W => make_bool n (by omega) W
  simp only [made_ints] at mi
  clear h
  go_enter Tryz.func21, Tryz.ntmps21
  go_wp2_with fail
  go_region
  all_goals
    go_wp2
    go_ret2
    first
      | exact ⟨_, rfl, _, _, (Rp.made w n r).keep (drw _), bt (bt (bt (al _ _) (al _ _)) (al _ _)) (drw _), by omega, by omega, by omega⟩
      | exact ⟨_, rfl, _, _, (Rp.made2 w n r).keep (drw _), bt (bt (bt (al _ _) (al _ _)) (al _ _)) (drw _), by omega, by omega, by omega⟩
set_option maxHeartbeats 1000000 in
theorem yLoad_no (w : World) (r : Int) (a : Option Addr) (n cap : Nat) (h : fits n r = false) : Calls Tryz.prog 19 #[.int .i64 r, .slice a n cap] w fun e w' => e = .returned (.tuple #[.pointer none, .int .i64 1]) ∧ w' = w := by
  have C := hide (yNew_no w n r h)
  clear h
  go_enter Tryz.func19, Tryz.ntmps19
  go_wp2_with fail
  refine C.out.mono ?_
  rintro _ wq ⟨rfl, hwq⟩
  obtain rfl := hwq.symm
  go_wp2
  go_ret2
  exact ⟨rfl, rfl⟩
def filB (L : List Bool) (n : Nat) : List Bool := L ++ List.replicate (n - L.length) false
theorem filB_set {L : List Bool} {n : Nat} (h : L.length < n) (x : Bool) : (filB L n).set L.length x = filB (L ++ [x]) n := by
  unfold filB
  rw [List.set_append_right _ _ (Nat.le_refl _), Nat.sub_self]
  obtain ⟨m, hm⟩ : ∃ m, n - L.length = m + 1 := ⟨n - L.length - 1, by omega⟩
  rw [hm, List.replicate_succ, List.set_cons_zero, List.length_append, List.length_singleton, show n - (L.length + 1) = m by omega, List.append_assoc]
  rfl
def lasOf (C : List Int) : List Bool := C.map fun c => decide (0 < c)
theorem lasOf_length (C : List Int) : (lasOf C).length = C.length := by simp [lasOf]
theorem lasOf_snoc {C : List Int} {i : Nat} (h : i < C.length) : lasOf (C.take (i + 1)) = lasOf (C.take i) ++ [decide (0 < C.getD i 0)] := by
  unfold lasOf
  rw [take_next C 0 h, List.map_append]; rfl
set_option maxHeartbeats 4000000 in
set_option maxRecDepth 8000 in
theorem yLoad_any (w : World) (r : Int) (a : Option Addr) (n cap : Nat) (C : List Int) (hC : Ir w a C) (hn : n = C.length) (h : fits n r = true) : Calls Tryz.prog 19 #[.int .i64 r, .slice a n cap] w fun e w' =>
    (badC r C = true ∧ e = .returned (.tuple #[.pointer none, .int .i64 13]) ∧ Below w.heap.size w w') ∨ (badC r C = false ∧ ∃ q, e = .returned (.tuple #[.pointer (some ⟨q, 0, none⟩), .int .i64 0]) ∧ RMade w w' q r C (lasOf C)) := by
  have CN := hide (yNew_yes w n r h)
  obtain ⟨⟨h1, h2⟩, h3⟩ := fits_iff.1 h
  have HN := hide hn
  have HC := hide hC
  have HR := hide h3
  clear h hn hC h3
  go_enter Tryz.func19, Tryz.ntmps19
  go_wp2_with fail
  refine CN.out.mono ?_
  rintro _ w1 ⟨q, rfl, cb, lb, hR, hB, g1, g2, g3⟩
  have R0 := hide (show Rp w1 q r (fil (C.take 0) n) (filB (lasOf (C.take 0)) n) cb lb by
    have e1 : fil (C.take 0) n = List.replicate n 0 := by unfold fil; simp
    have e2 : filB (lasOf (C.take 0)) n = List.replicate n false := by unfold filB lasOf; simp
    rw [e1, e2]; exact hR)
  have HB := hide hB
  clear hR hB CN
  go_wp2_with fail
  go_loopw [8] (fun i wr => ∃ k : Nat, k ≤ n ∧ i = .int .i64 (k : Int) ∧ (∀ c ∈ C.take k, 0 ≤ c ∧ c ≤ r) ∧ Rp wr q r (fil (C.take k) n) (filB (lasOf (C.take k)) n) cb lb ∧ Below w.heap.size w wr) (fun i _ => n - (intOf i).toNat)
  case atStart => exact ⟨0, Nat.zero_le _, rfl, by simp, R0.out, HB.out⟩
  case round =>
    obtain ⟨i, hi, rfl, hg, hR, hB⟩ := hrel
    have HG := hide hg
    have HR1 := hide hR
    have HB1 := hide hB
    clear hg hR hB R0 HB
    by_cases hlt : i < n
    · have hil : i < C.length := by rw [← HN.out]; exact hlt
      obtain ⟨b1, o1, rfl, cA⟩ := (HC.out.keep HB1.out).at hil
      have BA := hide (bad_at (r := r) hil)
      have SN := hide (take_next C 0 hil)
      have SL := hide (lasOf_snoc hil)
      obtain ⟨c, hc⟩ : ∃ c, C.getD i 0 = c := ⟨_, rfl⟩
      rw [hc] at cA BA SN SL
      have hiI : (i : Int) < (n : Int) := by omega
      clear hc
      by_cases h0 : c < 0
      · have d0 : decide (c < 0) = true := decide_eq_true h0
        go_wp2
        go_ret2
        exact .inl ⟨BA.out (.inl h0), rfl, HB1.out⟩
      · have d0 : decide (c < 0) = false := decide_eq_false h0
        by_cases hr : r < c
        · have d1 : decide (r < c) = true := decide_eq_true hr
          go_wp2
          go_ret2
          exact .inl ⟨BA.out (.inr hr), rfl, HB1.out⟩
        · have d1 : decide (r < c) = false := decide_eq_false hr
          have tl : (C.take i).length = i := by rw [List.length_take, ← HN.out]; omega
          have lf : (fil (C.take i) n).length = n := fil_length (by rw [tl]; exact hi)
          obtain ⟨k0, k1, k2, k3, k4⟩ := HR1.out.cell
          rw [lf] at k1 k2
          obtain ⟨m1, m2⟩ := HR1.out.cAt (i := i) (by rw [lf]; exact hlt)
          have RC := HR1.out.setC i c
          have es : (fil (C.take i) n).set i c = fil (C.take (i + 1)) n := by
            have f := fil_set (L := C.take i) (n := n) (by rw [tl]; exact hlt) c
            rw [tl, ← SN.out] at f
            exact f
          rw [es] at RC
          have lf2 : (fil (C.take (i + 1)) n).length = n := by rw [← es, List.length_set]; exact lf
          have bC : But (fun k => k = cb) wr (wr.setCell ⟨cb, i, none⟩ (.int .i64 c)) := (But.refl (fun k => k = cb) wr).setCell (p := ⟨cb, i, none⟩) (fun _ => rfl) _
          have BW2 : Below w.heap.size w (wr.setCell ⟨cb, i, none⟩ (.int .i64 c)).drew := bt (((But.ofBelow (S := fun _ => False) HB1.out).trans bC (fun k hk e => by omega)).below (fun _ _ h => h)) (drw _)
          have k1' : wr.drew.cell? ⟨q, 1, none⟩ = _ := k1
          have cA' : wr.drew.cell? ⟨b1, o1 + i, none⟩ = _ := cA
          have m1' : wr.drew.cell? ⟨cb, i, none⟩ = _ := m1
          have m2' : wr.drew.frozen? ⟨cb, i, none⟩ = false := m2
          have RC2 := hide (RC.keep (drw _))
          have B2 := hide BW2
          have LF2 := hide lf2
          have TL := hide tl
          clear es lf2 bC RC BW2 k0 k2 k3 k4 lf tl
          go_wp2_with fail
          go_region
          all_goals
            clear k1 k1' cA cA' m1 m1' m2 m2'
            generalize (wr.setCell ⟨cb, i, none⟩ (.int .i64 c)).drew = W2 at *
            obtain ⟨k0, k1, k2, k3, k4⟩ := RC2.out.cell
            rw [LF2.out] at k1 k2
            obtain ⟨m1, m2⟩ := RC2.out.lAt (i := i) (by rw [LF2.out]; exact hlt)
            obtain ⟨bz, oz, ez, cA⟩ := (HC.out.keep B2.out).at hil
            cases ez
            rw [show C.getD i 0 = c by
              have e := SN.out
              rw [take_next C 0 hil] at e
              have := List.append_cancel_left e
              simpa using this] at cA
            have k2' : W2.drew.cell? ⟨q, 2, none⟩ = _ := k2
            have cA' : W2.drew.cell? ⟨b1, o1 + i, none⟩ = _ := cA
            have m1' : W2.drew.cell? ⟨lb, i, none⟩ = _ := m1
            have m2' : W2.drew.frozen? ⟨lb, i, none⟩ = false := m2
            have R3 := hide (show Rp (W2.setCell ⟨lb, i, none⟩ (.bool (decide (0 < c)))).drew q r (fil (C.take (i + 1)) n) (filB (lasOf (C.take (i + 1))) n) cb lb by
              have s := RC2.out.setL i (decide (0 < c))
              have f := filB_set (L := lasOf (C.take i)) (n := n) (by rw [lasOf_length, TL.out]; exact hlt) (decide (0 < c))
              rw [lasOf_length, TL.out, ← SL.out] at f
              rw [f] at s
              exact s.keep (drw _))
            have B3 := hide (show Below w.heap.size w (W2.setCell ⟨lb, i, none⟩ (.bool (decide (0 < c)))).drew from bt ((But.setCell (S := fun _ => False) (But.ofBelow B2.out) (p := ⟨lb, i, none⟩) (fun h => by have h : lb < w.heap.size := h; omega) _).below (fun _ _ h => h)) (drw _))
            clear k0 k1 k3 k4
            go_wp2_with fail
            go_region
          all_goals
            clear k2 k2' cA cA' m1 m1' m2 m2'
            go_wp2
            go_roundw
          all_goals first
            | exact ⟨i + 1, by omega, by go_num, fun x hx => by
                rw [SN.out] at hx
                rcases List.mem_append.1 hx with hx | hx
                · exact HG.out x hx
                · obtain rfl := List.mem_singleton.1 hx; omega, R3.out, B3.out⟩
            | (simp [intOf]; omega)
    · obtain rfl : i = n := by omega
      have hall : ∀ c ∈ C, 0 ≤ c ∧ c ≤ r := by have t := HG.out; rwa [HN.out, List.take_length] at t
      have HBD := hide (badC_iff.2 hall)
      have RF := hide (show Rp wr q r C (lasOf C) cb lb by
        have t := HR1.out
        rw [show C.take i = C by rw [HN.out, List.take_length]] at t
        have e1 : fil C i = C := by unfold fil; rw [← HN.out, Nat.sub_self]; simp
        have e2 : filB (lasOf C) i = lasOf C := by unfold filB; rw [lasOf_length, ← HN.out, Nat.sub_self]; simp
        rwa [e1, e2] at t)
      clear hall
      go_wp2
      go_ret2
      exact .inr ⟨HBD.out, q, rfl, cb, lb, RF.out, HB1.out, g1, g2, g3⟩
end Go.Proofs.YtceeeofkigkpkaaGreat
