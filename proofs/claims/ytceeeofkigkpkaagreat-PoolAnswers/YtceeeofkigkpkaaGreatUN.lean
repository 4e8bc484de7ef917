import Derived.Test.YtceeeofkigkpkaaGreatUI
import Derived.Test.YtceeeofkigkpkaaGreatUK
namespace Go.Proofs.YtceeeofkigkpkaaGreat
open Go.RowKit

/-! ### Has, Len, Runs -/
theorem has_spl {L A M B : List Rn} {x : Int} (sp : Spl L x x A M B) : has L x = !M.isEmpty := by
  rw [Bool.eq_iff_iff, has_iff]
  constructor
  · rintro ⟨r, hr, h1, h2⟩
    rw [sp.eq] at hr
    rcases mem_split.1 hr with hr | hr | hr
    · have := sp.a r hr
      omega
    · cases M with
      | nil => cases hr
      | cons => rfl
    · have := sp.b r hr
      omega
  · intro h
    cases M with
    | nil => cases h
    | cons r M =>
      have := sp.m r (by simp)
      exact ⟨r, by rw [sp.eq]; simp, by omega, by omega⟩
set_option maxHeartbeats 1000000 in
theorem Len_any (w : World) (b : Nat) (a : Option Addr) (cap : Nat) (L : List Rn) (hS : St w b a cap L) :
    Calls Tryz.prog 52 #[.pointer (some ⟨b, 0, none⟩)] w fun e w' => e = .returned (.int .i64 ((min (sz L) mxi : Nat) : Int)) ∧ Below w.heap.size w w' := by
  have hc := hS.cell
  have C1 := hide (values_any w a L.length cap)
  have ha := al w (.cells #[.slice a L.length cap] 88)
  have nb := cell_alloc_new w (.slice a L.length cap) 88
  have C2 := hide (howMany_any (w.alloc (.cells #[.slice a L.length cap] 88)) (w.alloc (.cells #[.slice a L.length cap] 88)) 74 #[.pointer (some ⟨w.heap.size, 0, none⟩)] L _ (values1_seq _ w.heap.size a cap L nb (hS.row.vs.keep ha) hS.len) (But.refl _ _)
    (fun k hk => by
      rcases hk with rfl | ⟨x, hx, rfl⟩
      · rw [size_alloc]; omega
      · have := hS.row.lt hx
        rw [size_alloc]; omega) (enters_of Tryz.func74 (by kernel_rfl) rfl) (fun r hr => ⟨(hS.bnd r hr).1, (hS.bnd r hr).2, hS.can.1 r hr⟩))
  clear hS nb
  generalize min (sz L) mxi = z at *
  generalize L.length = n at *
  go_enter Tryz.func52, Tryz.ntmps52
  go_wp2_with fail
  refine C1.out.mono ?_
  rintro e w1 ⟨rfl, rfl⟩
  go_wp2_with fail
  refine C2.out.mono ?_
  rintro e w2 ⟨rfl, hb2⟩
  go_wp2
  go_ret
  exact ⟨rfl, bt ha hb2⟩
theorem make_run (l c : Nat) (hl : l ≤ c) (hc : c ≤ 14000000000000) (w : World) : (Instr.makeSlice 88 (.int .i64 (l : Int)) (.int .i64 (c : Int))).run Tryz.prog w = .ok (.slice (some ⟨w.heap.size, 0, none⟩) l c) (w.alloc (.cells (madeCells (rcs Rn.zero) (c * 2)) 92)) := by
  obtain ⟨i0, hi, hz0, hz1, hz2⟩ := info_parts infoRun
  have hr := run_make (P := Tryz.prog) w 88 92 i0 (.agg (rcs Rn.zero)) Tryz.underlying88 hi hz0 .i64 .i64 l c (by omega) (by omega) (by rw [hz2]; omega) (by omega)
  simp only [Int.toNat_natCast, hz1] at hr
  exact hr
theorem made_row (w : World) (c : Nat) : Rowb (w.alloc (.cells (madeCells (rcs Rn.zero) (c * 2)) 92)) w.heap.size (madeCells (rcs Rn.zero) (c * 2)).toList := by
  unfold Rowb
  rw [Array.toArray_toList]
  exact World.alloc_heap_new w _
set_option maxHeartbeats 1000000 in
theorem Runs_any (w : World) (b : Nat) (a : Option Addr) (cap : Nat) (L : List Rn) (hS : St w b a cap L) :
    Calls Tryz.prog 67 #[.pointer (some ⟨b, 0, none⟩)] w fun e w' => e = .returned (.slice (some ⟨w.heap.size, 0, none⟩) L.length L.length) ∧ Vw w' (some ⟨w.heap.size, 0, none⟩) L.length L ∧ Below w.heap.size w w' := by
  have hc := hS.cell
  have hl := hS.len
  have hmk := make_run L.length L.length (Nat.le_refl _) (by omega) w
  have ha := al w (.cells (madeCells (rcs Rn.zero) (L.length * 2)) 92)
  have hr := made_row w L.length
  have hca := (ha.cell (p := ⟨b, 0, none⟩) (block_lt_of_cell hc)).trans hc
  have lm : (madeCells (rcs Rn.zero) (L.length * 2)).toList.length = L.length * 2 := by rw [Array.length_toList, size_madeCells]
  obtain ⟨w1, hrun, r1, b1⟩ := run_copyR (w.alloc (.cells (madeCells (rcs Rn.zero) (L.length * 2)) 92)) 3 w.heap.size L.length L.length a L.length cap [] (rc L) (madeCells (rcs Rn.zero) (L.length * 2)).toList hr (by rw [rc_length, show Nat.min L.length L.length = L.length from Nat.min_self _])
    ((hS.row.vs.keep ha).imp (fun h => by rw [h]; rfl) id) (by rw [rc_length, lm]; omega) (rc_one L)
  rw [List.length_nil] at hrun
  rw [List.nil_append, rc_length, List.drop_eq_nil_of_le (by omega)] at r1
  have GG := hide (show Vw w1 (some ⟨w.heap.size, 0, none⟩) L.length L ∧ Below w.heap.size w w1 from ⟨Vw.mk (Y := []) r1 (Nat.le_refl _) (by unfold maxLen; omega) (by simp), ((But.ofBelow (S := fun _ => False) ha).trans b1 (fun k hk e => by omega)).below (fun _ _ h => h)⟩)
  clear r1 b1 lm hr hS
  generalize L.length = n at *
  go_enter Tryz.func67, Tryz.ntmps67
  go_wp2
  go_ret
  exact ⟨rfl, GG.out⟩
end Go.Proofs.YtceeeofkigkpkaaGreat
