import Derived.Test.YtienamijmccjbaaJI
import Derived.Test.YtienamijmccjbaaJJ
namespace Go.Proofs.Ytienamijmccjbaa
open Go.RowKit

/-! ### the tree of an id -/
def fdR (L : List Ro) (x : Int) : Ro := (L.find? fun t => t.id == x).getD ro0
def fdB (L : List Ro) (x : Int) : Bool := (L.find? fun t => t.id == x).isSome
theorem fd_some {L : List Ro} {x : Int} {j : Nat} (hj : j < L.length) (h : (L.getD j ro0).id = x) (hn : ∀ k, k < j → ((L.getD k ro0).id == x) = false) : fdR L x = L.getD j ro0 ∧ fdB L x = true := by
  have e : L.find? (fun t => t.id == x) = some (L.getD j ro0) := by
    rw [List.find?_eq_some_iff_getElem]
    refine ⟨by simpa using h, j, hj, by simp [hj], fun k hk => ?_⟩
    have := hn k hk
    rw [show L.getD k ro0 = L[k] by simp [show k < L.length by omega]] at this
    simp [this]
  unfold fdR fdB
  rw [e]
  exact ⟨rfl, rfl⟩
theorem fd_none {L : List Ro} {x : Int} (hn : ∀ k, k < L.length → ((L.getD k ro0).id == x) = false) : fdR L x = ro0 ∧ fdB L x = false := by
  have e : L.find? (fun t => t.id == x) = none := by
    rw [List.find?_eq_none]
    intro t ht
    obtain ⟨k, hk, rfl⟩ := List.getElem_of_mem ht
    have := hn k hk
    rw [show L.getD k ro0 = L[k] by simp [hk]] at this
    simp [this]
  unfold fdR fdB
  rw [e]
  exact ⟨rfl, rfl⟩
def fiA (L : List Ro) (x : Int) : Value := .tuple #[trv (fdR L x), .bool (fdB L x)]
set_option maxRecDepth 8000 in
set_option maxHeartbeats 3200000 in
theorem Find_any (w : World) (s : Su) (a : Option Addr) (c : Nat) (x : Int) (hI : Js w a s.rs) (hl : s.rs.length ≤ 4398046511000) :
    Calls Try.prog 19 #[suv s a c, .int .i64 x] w fun y w' => y = .returned (fiA s.rs x) ∧ Below w.heap.size w w' := by
  have HL := hide (bt (bt (al w (.cells (suC s a c) 39)) (al _ (.cells #[.int .i64 x] 3))) (al _ (.cells z3 42)))
  have HB := hide (((Bx.new w 39 (suC s a c)).keep (al _ (.cells #[.int .i64 x] 3))).keep (al _ (.cells z3 42)))
  have HX : Hid (Bx (((w.alloc (.cells (suC s a c) 39)).alloc (.cells #[.int .i64 x] 3)).alloc (.cells z3 42)) 3 (w.heap.size + 1) #[.int .i64 x]) := by
    show Bx _ _ _ _
    have := (Bx.new (w.alloc (.cells (suC s a c) 39)) 3 #[.int .i64 x]).keep (al _ (.cells z3 42))
    rwa [size_alloc] at this
  have HT : Hid (Bx (((w.alloc (.cells (suC s a c) 39)).alloc (.cells #[.int .i64 x] 3)).alloc (.cells z3 42)) 42 (w.heap.size + 1 + 1) z3) := by
    show Bx _ _ _ _
    have := Bx.new ((w.alloc (.cells (suC s a c) 39)).alloc (.cells #[.int .i64 x] 3)) 42 z3
    rwa [size_alloc, size_alloc] at this
  have HI := hide hI
  have IF := hide fun (w1 : World) (hb : Below w.heap.size w w1) (hx : Bx w1 3 (w.heap.size + 1) #[.int .i64 x]) => Index_find w1 a c s.rs (hI.keep hb) (w.heap.size + 1) x (hx.cell 0 rfl) hl
  unfold findV at IF
  unfold fiA
  clear hI
  unfold suv suC z3 at *
  go_enter Try.func19, Try.ntmps19
  go_wp2_with fail
  generalize ((w.alloc (.cells #[.int .i64 s.gen, .int .i64 s.bl, .int .i64 s.cl, .int .i64 s.rf, .int .i64 s.nx, .slice a s.rs.length c] 39)).alloc (.cells #[.int .i64 x] 3)).alloc (.cells #[.int .i64 0, .int .i64 0, .int .i64 0] 42) = W at *
  refine (IF.out _ HL.out HX.out).mono ?_
  rintro y w1 ⟨z, rfl, hz, hb⟩
  have HL := hide (bt HL.out hb)
  have HT := hide (HT.out.keep hb)
  have x5 := (HB.out.keep hb).cell 5 (v := .slice a s.rs.length c) rfl
  clear hb IF HB HX
  rcases hz with ⟨j, rfl, hj, hf, hn⟩ | ⟨rfl, hn⟩
  · obtain ⟨e1, e2⟩ := fd_some hj (by simpa using hf) hn
    have E1 := hide e1
    have E2 := hide e2
    obtain ⟨b1, o1, rfl, cA⟩ := (HI.out.keep HL.out).at hj
    obtain ⟨_, i1, i2, i3⟩ := range4 cA
    have hji : (j : Int) < (s.rs.length : Int) := by omega
    have hj0 : decide ((j : Int) < 0) = false := by simp
    clear hf hn e1 e2 cA
    generalize s.rs.getD j ro0 = t at *
    go_wp2_with (refine wpList_store_row rfl 42 _ _ rfl (w.heap.size + 1 + 1) _ rfl rfl 42 _ HT.out sizeTree rfl (by simp [Value.oneCell']) ?_)
    refine bodyPost_ret (v := .tuple #[.agg _, _]) (results_cell_one Try.results19 _ _ (w.heap.size + 1 + 1) 42 _ (0, 0) _ rfl (setRow_heap _ _ _ _ _ _ HT.out) Try.underlying42 rfl sizeTree) rfl ⟨by rw [E1.out, E2.out]; rfl, ?_⟩
    exact below_setRow HL.out (by omega) _
  · obtain ⟨e1, e2⟩ := fd_none hn
    have E1 := hide e1
    have E2 := hide e2
    clear hn e1 e2
    go_wp2_with (refine wpList_store_row rfl 42 _ _ rfl (w.heap.size + 1 + 1) _ rfl rfl 42 _ HT.out sizeTree rfl (by simp [Value.oneCell']) ?_)
    refine bodyPost_ret (v := .tuple #[.agg _, _]) (results_cell_one Try.results19 _ _ (w.heap.size + 1 + 1) 42 _ (0, 0) _ rfl (setRow_heap _ _ _ _ _ _ HT.out) Try.underlying42 rfl sizeTree) rfl ⟨by rw [E1.out, E2.out]; rfl, ?_⟩
    exact below_setRow HL.out (by omega) _
set_option maxRecDepth 8000 in
set_option maxHeartbeats 3200000 in
theorem rFind_any (w : World) (s : Su) (a : Option Addr) (c : Nat) (x : Int) (hI : Js w a s.rs) (hl : s.rs.length ≤ 4398046511000) :
    Calls Try.prog 20 #[suv s a c, .int .i64 x] w fun y w' => y = .returned (fiA s.rs x) ∧ Below w.heap.size w w' := by
  have HL := hide (bt (al w (.cells (suC s a c) 39)) (al _ (.cells z3 42)))
  have HB := hide ((Bx.new w 39 (suC s a c)).keep (al _ (.cells z3 42)))
  have HT : Hid (Bx ((w.alloc (.cells (suC s a c) 39)).alloc (.cells z3 42)) 42 (w.heap.size + 1) z3) := by
    show Bx _ _ _ _
    have := Bx.new (w.alloc (.cells (suC s a c) 39)) 42 z3
    rwa [size_alloc] at this
  have HI := hide hI
  unfold fiA
  clear hI
  unfold suv suC z3 at *
  go_enter Try.func20, Try.ntmps20
  go_wp2
  generalize (w.alloc (.cells #[.int .i64 s.gen, .int .i64 s.bl, .int .i64 s.cl, .int .i64 s.rf, .int .i64 s.nx, .slice a s.rs.length c] 39)).alloc (.cells #[.int .i64 0, .int .i64 0, .int .i64 0] 42) = W at *
  go_loopw [6] (fun q wx => ∃ j : Nat, j ≤ s.rs.length ∧ q = .int .i64 j ∧ (∀ k, k < j → ((s.rs.getD k ro0).id == x) = false) ∧ wx = W) (fun q _ => s.rs.length - (intOf q).toNat)
  case atStart => exact ⟨0, Nat.zero_le _, rfl, fun k hk => by omega, rfl⟩
  case round =>
    obtain ⟨j, hj, rfl, hN, hww⟩ := hrel
    subst hww
    have HN := hide hN
    clear hN
    have x5 := HB.out.cell 5 (v := .slice a s.rs.length c) rfl
    by_cases hlt : j < s.rs.length
    · have hlti : (j : Int) < (s.rs.length : Int) := by omega
      obtain ⟨b1, o1, rfl, cA⟩ := (HI.out.keep HL.out).at hlt
      obtain ⟨i0, i1, i2, i3⟩ := range4 cA
      clear cA
      cases hx : ((s.rs.getD j ro0).id == x) with
      | true =>
        obtain ⟨e1, e2⟩ := fd_some hlt (by simpa using hx) HN.out
        have E1 := hide e1
        have E2 := hide e2
        have hxe : (s.rs.getD j ro0).id = x := by simpa using hx
        rw [hxe] at i0
        clear hx e1 e2 hxe
        generalize s.rs.getD j ro0 = t at *
        go_wp2_with (refine wpList_store_row rfl 42 _ _ rfl (w.heap.size + 1) _ rfl rfl 42 _ HT.out sizeTree rfl (by simp [Value.oneCell']) ?_)
        refine bodyPost_ret (v := .tuple #[.agg _, _]) (results_cell_one Try.results20 _ _ (w.heap.size + 1) 42 _ (0, 0) _ rfl (setRow_heap _ _ _ _ _ _ HT.out) Try.underlying42 rfl sizeTree) rfl ⟨by rw [E1.out, E2.out]; rfl, ?_⟩
        exact below_setRow HL.out (by omega) _
      | false =>
        have HNN : Hid (∀ k, k < j + 1 → ((s.rs.getD k ro0).id == x) = false) := by
          intro k hk
          by_cases e : k = j
          · rw [e]; exact hx
          · exact HN.out k (by omega)
        have hxn : ¬ (s.rs.getD j ro0).id = x := by simpa using hx
        generalize s.rs.getD j ro0 = t at *
        go_wp2
        go_roundw
        case rel => exact ⟨j + 1, by omega, by go_num, HNN.out, by first | rfl | trivial⟩
        case measure => simp [intOf]; omega
    · obtain rfl : j = s.rs.length := by omega
      obtain ⟨e1, e2⟩ := fd_none HN.out
      have E1 := hide e1
      have E2 := hide e2
      clear e1 e2
      go_wp2_with (refine wpList_store_row rfl 42 _ _ rfl (w.heap.size + 1) _ rfl rfl 42 _ HT.out sizeTree rfl (by simp [Value.oneCell']) ?_)
      refine bodyPost_ret (v := .tuple #[.agg _, _]) (results_cell_one Try.results20 _ _ (w.heap.size + 1) 42 _ (0, 0) _ rfl (setRow_heap _ _ _ _ _ _ HT.out) Try.underlying42 rfl sizeTree) rfl ⟨by rw [E1.out, E2.out]; rfl, ?_⟩
      exact below_setRow HL.out (by omega) _
end Go.Proofs.Ytienamijmccjbaa
