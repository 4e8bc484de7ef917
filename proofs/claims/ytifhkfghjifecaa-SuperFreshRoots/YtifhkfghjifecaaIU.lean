import Derived.Test.YtifhkfghjifecaaIS
namespace Go.Proofs.Ytifhkfghjifecaa
open Go.RowKit

/-! ### superblocks that are the same -/
set_option maxHeartbeats 800000 in
theorem eqIn_tree (d : Nat) (a b c : Int) (w : World) : (Op.equalIn (d + 2) 57 (.agg #[.int .i64 a, .int .i64 b, .int .i64 c]) (.agg #[.int .i64 a, .int .i64 b, .int .i64 c])).run Try.prog w = .ok true w := by
  have u3 := Try.underlying3
  have hS : Try.prog.underlying 57 = some (.struct (Try.prog.fieldsOf 57)) := by kernel_rfl
  have hp : Try.prog.stoodInHeld 57 = false := by kernel_rfl
  rw [run_equalIn_agg w (d + 1) 57 _ _ hS hp]
  simp only [Program.fieldsOf, Try.underlying57]
  go_simp
set_option maxHeartbeats 800000 in
theorem ne_root (t : Ro) (w : World) : (binOp .neq 59 (.agg t.cs) (.agg t.cs)).run Try.prog w = .ok (.bool false) w := by
  have u3 := Try.underlying3
  have u4 := Try.underlying57
  have hS : Try.prog.underlying 59 = some (.struct (Try.prog.fieldsOf 59)) := by kernel_rfl
  have hp : Try.prog.stoodInHeld 59 = false := by kernel_rfl
  have ht := eqIn_tree 9997 t.r t.h t.n
  unfold Ro.cs
  rw [run_neq_struct, show (10000 : Nat) = 9999 + 1 from rfl, run_equalIn_agg w 9999 59 _ _ hS hp]
  simp only [Program.fieldsOf, Try.underlying59]
  go_simp
set_option maxRecDepth 8000 in
set_option maxHeartbeats 1600000 in
theorem EqRoots_same (w : World) (a b : Option Addr) (c d : Nat) (L : List Ro) (hA : Js w a L) (hB : Js w b L) (hl : L.length ≤ 4398046511000) :
    Calls Try.prog 24 #[.slice a L.length c, .slice b L.length d] w fun e w' => e = .returned (.bool true) ∧ Below w.heap.size w w' := by
  have HA := hide hA
  have HB := hide hB
  clear hA hB
  go_enter Try.func24, Try.ntmps24
  go_wp2
  go_loopw [5] (fun q wx => ∃ j : Nat, j ≤ L.length ∧ q = .int .i64 j ∧ Below w.heap.size w wx) (fun q _ => L.length - (intOf q).toNat)
  case atStart => exact ⟨0, Nat.zero_le _, rfl, Below.refl _ _⟩
  case round =>
    obtain ⟨j, hj, rfl, hBB⟩ := hrel
    have B := hide hBB
    clear hBB
    by_cases hlt : j < L.length
    · have hlti : (j : Int) < (L.length : Int) := by omega
      obtain ⟨b1, o1, rfl, cA⟩ := (HA.out.keep B.out).at hlt
      obtain ⟨b2, o2, rfl, cB⟩ := (HB.out.keep B.out).at hlt
      obtain ⟨x0, x1, x2, x3⟩ := range4 cA
      obtain ⟨y0, y1, y2, y3⟩ := range4 cB
      have hq := ne_root (L.getD j ro0)
      unfold Ro.cs at hq
      clear cA cB
      generalize L.getD j ro0 = t at *
      go_wp2
      go_quiet (fail)
      clear x0 x1 x2 x3 y0 y1 y2 y3 hq
      go_wp2
      go_roundw
      case rel => exact ⟨j + 1, by omega, by go_num, bt B.out (drN _ _)⟩
      case measure => simp [intOf]; omega
    · obtain rfl : j = L.length := by omega
      go_wp2
      go_ret
      exact ⟨rfl, B.out⟩
set_option maxRecDepth 8000 in
set_option maxHeartbeats 1600000 in
theorem EqSuper_same (w : World) (s : Su) (a b : Option Addr) (c d : Nat) (hA : Js w a s.rs) (hB : Js w b s.rs) (hl : s.rs.length ≤ 4398046511000) :
    Calls Try.prog 8 #[suv s a c, suv s b d] w fun e w' => e = .returned (.bool true) ∧ Below w.heap.size w w' := by
  have HL := hide (bt (al w (.cells (suC s a c) 28)) (al _ (.cells (suC s b d) 28)))
  have ER := hide fun (w1 : World) (hb : Below w.heap.size w w1) => EqRoots_same w1 a b c d s.rs (hA.keep hb) (hB.keep hb) hl
  have hq := eq_cfg s.bl s.cl s.rf s.bl s.cl s.rf
  have hqe : e3 s.bl s.cl s.rf s.bl s.cl s.rf = true := e3_iff.2 ⟨rfl, rfl, rfl⟩
  simp only [hqe] at hq
  clear hA hB hqe
  unfold suv suC at *
  go_enter Try.func8, Try.ntmps8
  go_wp2_with fail
  refine (ER.out _ HL.out).mono ?_
  rintro y w1 ⟨rfl, hb⟩
  have HL := hide (bt HL.out hb)
  clear hb
  go_wp2
  go_ret
  exact ⟨rfl, HL.out⟩
/-! ### one small superblock -/
def sSm : Su := ⟨3, 8, 1, 2, 2, [⟨1, 4, 1, 2⟩]⟩
theorem sSm_ok : chE sSm = 0 := by decide +kernel
theorem sSm_at : (lay sSm).getD 0 0 = 67 ∧ (lay sSm).getD 4 0 = 3 := by
  have e : ∀ j, j < 508 → (lay sSm).getD j 0 = (padded (sB sSm)).getD j 0 := fun j hj => by
    have h := lay_take (s := sSm) (by decide)
    rw [← h]
    simp [hj]
  rw [e 0 (by decide), e 4 (by decide)]
  decide +kernel
theorem Js.one (w : World) {g : Nat} {t : Ro} (h : Bx w 59 g t.cs) : Js w (some ⟨g, 0, none⟩) [t] := by
  refine .inr ⟨g, 0, rfl, fun r hr => ?_⟩
  obtain rfl : r = 0 := by simpa using hr
  exact h.rng
set_option maxRecDepth 8000 in
set_option maxHeartbeats 1600000 in
theorem small_any (w : World) : Calls Try.prog 27 #[] w fun e w' => ∃ g c, e = .returned (suv sSm (some ⟨g, 0, none⟩) c) ∧ Js w' (some ⟨g, 0, none⟩) sSm.rs ∧ Below w.heap.size w w' := by
  have HJ := hide (Bx.new (w.alloc (.cells z6 28)) 59 (Ro.cs ⟨1, 4, 1, 2⟩))
  have HO := hide ((Bx.new w 28 z6).keep (al _ (.cells (Ro.cs ⟨1, 4, 1, 2⟩) 59)))
  have HL := hide (bt (al w (.cells z6 28)) (al _ (.cells (Ro.cs ⟨1, 4, 1, 2⟩) 59)))
  rw [size_alloc] at HJ
  unfold z6 Ro.cs at *
  dsimp only at *
  go_enter Try.func27, Try.ntmps27
  go_wp2_with (refine wpList_store_row rfl 28 _ _ rfl w.heap.size _ rfl rfl 28 _ HO.out sizeSuper rfl (by simp [Value.oneCell']) ?_)
  refine bodyPost_ret (v := .agg _) (results_cell_row Try.results27 _ _ w.heap.size 28 _ (0, 0) _ rfl (setRow_heap _ _ _ _ _ _ HO.out) Try.underlying28 rfl sizeSuper) rfl ⟨w.heap.size + 1, 1, rfl, ?_, below_setRow HL.out (Nat.le_refl _) _⟩
  exact Js.one _ (HJ.out.but (but_setRow _ _ _) (by omega))
end Go.Proofs.Ytifhkfghjifecaa
