import Derived.Test.YtienamijmccjbabIX
namespace Go.Proofs.Ytienamijmccjbab
open Go.RowKit

/-! ### a superblock with lists of its own -/
def mkR (i : Nat) : Ro := ⟨-5 - (i : Int), 0, 0, 0⟩
def spW (L : List Ro) : List Ro := L ++ [mkR L.length, mkR (L.length + 1)]
def spJ (L : List Ro) (j : Nat) : List Ro := (spW L).take j ++ List.replicate (L.length + 2 - j) ro0
theorem spW_length (L : List Ro) : (spW L).length = L.length + 2 := by unfold spW; simp
theorem spJ_zero (L : List Ro) : spJ L 0 = List.replicate (L.length + 2) ro0 := by unfold spJ; simp
theorem spJ_all (L : List Ro) : spJ L (L.length + 2) = spW L := by unfold spJ; rw [List.take_of_length_le (by rw [spW_length]; omega)]; simp
theorem spJ_length (L : List Ro) {j : Nat} (h : j ≤ L.length + 2) : (spJ L j).length = L.length + 2 := by
  unfold spJ
  rw [List.length_append, List.length_take, List.length_replicate, spW_length]
  omega
theorem spJ_set (L : List Ro) {j : Nat} (h : j < L.length + 2) : (spJ L j).set j ((spW L).getD j ro0) = spJ L (j + 1) := by
  have hl : ((spW L).take j).length = j := by rw [List.length_take, spW_length]; omega
  have hj : j < (spW L).length := by rw [spW_length]; exact h
  unfold spJ
  rw [set_zero hl h, List.take_succ_eq_append_getElem hj]
  simp [hj]
theorem spW_lt (L : List Ro) {j : Nat} (h : j < L.length) : (spW L).getD j ro0 = L.getD j ro0 := by
  unfold spW
  simp [List.getElem?_append_left h]
theorem spW_ge (L : List Ro) {j : Nat} (h : L.length ≤ j) (h2 : j < L.length + 2) : (spW L).getD j ro0 = mkR j := by
  have : j = L.length ∨ j = L.length + 1 := by omega
  unfold spW
  rcases this with rfl | rfl
  · simp
  · simp
theorem Jw.pre {w : World} {g cap : Nat} {L M : List Ro} (h : Jw w (some ⟨g, 0, none⟩) cap (L ++ M)) : Jw w (some ⟨g, 0, none⟩) cap L := by
  rcases h.front with h | h
  · exact h
  · cases h
theorem nest4r (W : World) (g o : Nat) (t : Ro) : W.setCells g o t.cs.toList = (((W.setCell ⟨g, o, none⟩ (.int .i64 t.id)).setCell ⟨g, o + 1, none⟩ (.int .i64 t.r)).setCell ⟨g, o + 2, none⟩ (.int .i64 t.h)).setCell ⟨g, o + 3, none⟩ (.int .i64 t.n) := rfl
/-- the boxes of spare -/
structure Sq (w : World) (s : Su) (a : Option Addr) (c : Nat) (W : World) (L : List Ro) : Prop where
  x : Bx W 28 w.heap.size (suC s a c)
  o : Bx W 28 (w.heap.size + 1) z6
  j : Jw W (some ⟨w.heap.size + 1 + 1, 0, none⟩) (s.rs.length + 2) L
  b : Below w.heap.size w W
theorem Sq.keep {w : World} {s : Su} {a : Option Addr} {c : Nat} {W W' : World} {L : List Ro} (h : Sq w s a c W L) (hb : Below W.heap.size W W') : Sq w s a c W' L := ⟨h.x.keep hb, h.o.keep hb, h.j.keep hb, bt h.b hb⟩
theorem Sq.set {w : World} {s : Su} {a : Option Addr} {c : Nat} {W : World} {L : List Ro} (h : Sq w s a c W L) (k : Nat) (t : Ro) : Sq w s a c (W.setCells (w.heap.size + 1 + 1) (k * 4) t.cs.toList) (L.set k t) :=
  ⟨h.x.but (but_setCells _ _ _ _) (by omega), h.o.but (but_setCells _ _ _ _) (by omega), h.j.setv k t, ((But.ofBelow (S := fun _ => False) h.b).trans (but_setCells _ _ _ _) fun x hx e => by omega).below fun _ _ h => h⟩
theorem Sq.start (w : World) (s : Su) (a : Option Addr) (c : Nat) (hn : s.rs.length + 2 ≤ 4398046511000) : Sq w s a c (((w.alloc (.cells (suC s a c) 28)).alloc (.cells z6 28)).alloc (.cells (madeCells ro0.cs ((s.rs.length + 2) * 4)) 53)) (spJ s.rs 0) := by
  refine ⟨((Bx.new w 28 _).keep (al _ _)).keep (al _ _), ?_, ?_, bt (bt (al w _) (al _ _)) (al _ _)⟩
  · have := (Bx.new (w.alloc (.cells (suC s a c) 28)) 28 z6).keep (al _ (.cells (madeCells ro0.cs ((s.rs.length + 2) * 4)) 53))
    rwa [size_alloc] at this
  · have := Jw.start (W := (w.alloc (.cells (suC s a c) 28)).alloc (.cells z6 28)) hn
    rw [size_alloc, size_alloc] at this
    rw [spJ_zero]
    exact this
/-- what a row of such a list is -/
theorem Sq.facts {w : World} {s : Su} {a : Option Addr} {c : Nat} {W : World} {L : List Ro} (h : Sq w s a c W L) {k : Nat} (hk : k < L.length) :
    (∃ v, W.cell? ⟨w.heap.size + 1 + 1, k * 4, none⟩ = some v) ∧ (∃ v, W.cell? ⟨w.heap.size + 1 + 1, k * 4 + 1, none⟩ = some v) ∧ (∃ v, W.cell? ⟨w.heap.size + 1 + 1, k * 4 + 2, none⟩ = some v) ∧ (∃ v, W.cell? ⟨w.heap.size + 1 + 1, k * 4 + 3, none⟩ = some v) ∧
    W.frozen? ⟨w.heap.size + 1 + 1, k * 4, none⟩ = false ∧ W.frozen? ⟨w.heap.size + 1 + 1, k * 4 + 1, none⟩ = false ∧ W.frozen? ⟨w.heap.size + 1 + 1, k * 4 + 2, none⟩ = false ∧ W.frozen? ⟨w.heap.size + 1 + 1, k * 4 + 3, none⟩ = false ∧ W.cell? ⟨w.heap.size, 5, none⟩ = some (.slice a s.rs.length c) := by
  have HT := h.j.four hk
  exact ⟨Option.isSome_iff_exists.1 (HT 0 (by omega)).1, Option.isSome_iff_exists.1 (HT 1 (by omega)).1, Option.isSome_iff_exists.1 (HT 2 (by omega)).1, Option.isSome_iff_exists.1 (HT 3 (by omega)).1, (HT 0 (by omega)).2, (HT 1 (by omega)).2, (HT 2 (by omega)).2, (HT 3 (by omega)).2, h.x.cell 5 rfl⟩
/-- a superblock that spare made -/
structure Sx (w w' : World) (g : Nat) (s : Su) : Prop where
  j : Jw w' (some ⟨g, 0, none⟩) (s.rs.length + 2) (spW s.rs)
  n : w.heap.size ≤ g
  b : Below w.heap.size w w'
set_option maxRecDepth 8000 in
set_option maxHeartbeats 6400000 in
theorem spare_any (w : World) (s : Su) (a : Option Addr) (c : Nat) (hJ : Js w a s.rs) (hN : s.rs.length ≤ 4398046510976) :
    Calls Try.prog 14 #[suv s a c] w fun y w' => ∃ g, y = .returned (suv s (some ⟨g, 0, none⟩) (s.rs.length + 2)) ∧ Sx w w' g s := by
  have HJ := hide hJ
  have hmk : ∀ w : World, (Instr.makeSlice 26 (.int .i64 ((s.rs.length : Int) + 2)) (.int .i64 ((s.rs.length : Int) + 2))).run Try.prog w = .ok (.slice (some ⟨w.heap.size, 0, none⟩) (s.rs.length + 2) (s.rs.length + 2)) (w.alloc (.cells (madeCells ro0.cs ((s.rs.length + 2) * 4)) 53)) := make_roots (s.rs.length + 2) (by omega)
  have H := hide (Sq.start w s a c (by omega))
  have cS := H.out.x.cell 5 (v := .slice a s.rs.length c) rfl
  clear hJ
  unfold z6 at H cS
  unfold suv suC at *
  go_enter Try.func14, Try.ntmps14
  go_wp2
  clear cS hmk
  generalize ((w.alloc (.cells #[.int .i64 s.gen, .int .i64 s.bl, .int .i64 s.cl, .int .i64 s.rf, .int .i64 s.nx, .slice a s.rs.length c] 28)).alloc (.cells #[.int .i64 0, .int .i64 0, .int .i64 0, .int .i64 0, .int .i64 0, .slice none 0 0] 28)).alloc (.cells (madeCells ro0.cs ((s.rs.length + 2) * 4)) 53) = W at *
  go_loopw [4] (fun q wx => ∃ j : Nat, j ≤ s.rs.length + 2 ∧ q = .int .i64 j ∧ Sq w s a c wx (spJ s.rs j)) (fun q _ => s.rs.length + 2 - (intOf q).toNat)
  case atStart => exact ⟨0, Nat.zero_le _, rfl, H.out⟩
  case round =>
    obtain ⟨j, hj, rfl, hH⟩ := hrel
    have H := hide hH
    clear hH
    have hlen := spJ_length s.rs hj
    by_cases hlt : j < s.rs.length + 2
    · have hlti : (j : Int) < (s.rs.length : Int) + 2 := by omega
      obtain ⟨⟨v0, e0⟩, ⟨v1, e1⟩, ⟨v2, e2⟩, ⟨v3, e3⟩, f0, f1, f2, f3, cS⟩ := H.out.facts (k := j) (by omega)
      have HS := hide (H.out.set j ((spW s.rs).getD j ro0))
      rw [spJ_set s.rs hlt, nest4r] at HS
      by_cases hin : j < s.rs.length
      · have hini : (j : Int) < (s.rs.length : Int) := by omega
        obtain ⟨b1, o1, rfl, cA⟩ := (HJ.out.keep H.out.b).at hin
        have HC := hide cA
        rw [spW_lt s.rs hin] at HS
        clear cA
        generalize s.rs.getD j ro0 = t at *
        unfold Ro.cs at HC
        have hflag : True := trivial
        go_wp2_with (first
          | (refine wpList_load_mid rfl 53 _ rfl b1 (o1 + j * 4) (by simp [Act.eval]) _ _ HC.out Try.underlying53 rfl sizeRoot ?_
             clear hflag
             repeat (first | go_values | go_skip | go_guarded | go_step | go_upon)
             clear e0 e1 e2 e3 f0 f1 f2 f3 cS
             go_roundw
             case rel => exact ⟨j + 1, by omega, by go_num, HS.out⟩
             case measure => simp [intOf]; omega))
      · have hini : ¬ (j : Int) < (s.rs.length : Int) := by omega
        have hind : decide ((j : Int) < (s.rs.length : Int)) = false := by simpa using hini
        rw [spW_ge s.rs (by omega) hlt] at HS
        unfold mkR at HS
        dsimp only at HS
        clear hini
        repeat (first | go_values | go_skip | go_guarded | go_step | go_upon)
        clear e0 e1 e2 e3 f0 f1 f2 f3 cS
        go_roundw
        case rel => exact ⟨j + 1, by omega, by go_num, HS.out⟩
        case measure => simp [intOf]; omega
    · obtain rfl : j = s.rs.length + 2 := by omega
      rw [spJ_all] at H
      have HX := hide H.out.x
      have cS := H.out.x.cell 5 (v := .slice a s.rs.length c) rfl
      have hwl := H.out.x.lt
      have hwn : ¬ w.heap.size = wr.heap.size := by omega
      have hge : (s.rs.length : Int) ≤ (s.rs.length : Int) + 2 := by omega
      have hcne : ¬ s.rs.length + 2 = 0 := by omega
      have H2 := hide fun (o : Obj) => H.out.keep (al wr o)
      unfold suC at HX
      go_wp2_with (first
        | (refine wpList_load_row rfl 28 _ rfl w.heap.size rfl 28 _ (0, 0) _ HX.out Try.underlying28 rfl sizeSuper ?_)
        | (refine wpList_store_row rfl 28 _ _ rfl (w.heap.size + 1) _ rfl rfl 28 z6 (H2.out _).o sizeSuper rfl (by simp [Value.oneCell']) ?_))
      refine bodyPost_ret (v := .agg _) (results_cell_row Try.results14 _ _ (w.heap.size + 1) 28 _ (0, 0) _ rfl (setRow_heap _ _ _ _ _ _ (H2.out _).o) Try.underlying28 rfl sizeSuper) rfl ⟨w.heap.size + 1 + 1, rfl, ?_⟩
      exact ⟨(H2.out _).j.but (but_setRow _ _ _) (fun x hx e => by cases hx; dsimp only at e; omega), by omega, below_setRow (H2.out _).b (by omega) _⟩
theorem Sx.js {w w' : World} {g : Nat} {s : Su} (h : Sx w w' g s) : Js w' (some ⟨g, 0, none⟩) s.rs := (h.j.pre).qs
theorem Sx.keep {w w' w2 : World} {g : Nat} {s : Su} (h : Sx w w' g s) (hb : Below w'.heap.size w' w2) : Sx w w2 g s := ⟨h.j.keep hb, h.n, bt h.b hb⟩
theorem Sx.pre {w w0 w' : World} {g : Nat} {s : Su} (hb : Below w.heap.size w w0) (h : Sx w0 w' g s) : Sx w w' g s := ⟨h.j, Nat.le_trans hb.size h.n, bt hb h.b⟩
end Go.Proofs.Ytienamijmccjbab
