import Derived.Test.YtlflcdjaknnfaabKF
namespace Go.Proofs.Ytlflcdjaknnfaab
open Go.RowKit
open Go.ChangeMaps (setBlock)

/-- the cells of a write that is zero -/
def zw : Array Value := (.int .i64 0 :: vb zb).toArray
theorem infoWr : (Try.prog.info? 75).map (fun i => (i.zero, i.size)) = some (some (.agg (.int .i64 0 :: vb zb).toArray), 513) := by kernel_rfl
theorem zeroWr (w : World) : (zeroValue 75).run Try.prog w = .ok (.agg zw) w := (zero_of_info infoWr).1 w
theorem zw_size : zw.size = 513 := by unfold zw; rw [List.size_toArray, List.length_cons, vb_length, zb_len]
/-- the cells of a write -/
def wc (u : Nat × List Nat) : List Value := .int .i64 ((u.1 : Nat) : Int) :: vb u.2
theorem wc_len {u : Nat × List Nat} (h : Blk u.2) : (wc u).length = 513 := by unfold wc; rw [List.length_cons, vb_length, h.1]
theorem wc_one (u : Nat × List Nat) : ∀ v ∈ wc u, v.oneCell' = true := by
  intro v hv
  unfold wc at hv
  rcases List.mem_cons.1 hv with rfl | hv
  · rfl
  · exact vb_one u.2 v hv
theorem wc_size {u : Nat × List Nat} (h : Blk u.2) : (wc u).toArray.size = 513 := by rw [List.size_toArray, wc_len h]
theorem wc_all (u : Nat × List Nat) : (wc u).toArray.all (·.oneCell') = true := all_oneCell_toArray (wc_one u)
theorem sizeWr {c : Array Value} (h : c.size = 513) : (Try.prog.info? 75).map (·.size) = some c.size := by rw [h]; exact (zero_of_info infoWr).2
theorem make_int (n : Nat) (hc : n ≤ 35184372088832) (w : World) : (Instr.makeSlice 45 (.int .i64 (n : Int)) (.int .i64 (n : Int))).run Try.prog w = .ok (.slice (some ⟨w.heap.size, 0, none⟩) n n) (w.alloc (.cells (madeCells #[.int .i64 0] n) 3)) := by
  obtain ⟨i0, hi, hz0, hz1, hz2⟩ := info_parts (show (Try.prog.info? 3).map (fun i => (i.zero, i.size, i.bytes)) = some (some (.int .i64 0), 1, 8) by kernel_rfl)
  have hr := run_make (P := Try.prog) w 45 3 i0 (.int .i64 0) Try.underlying45 hi hz0 .i64 .i64 n n (by omega) (by omega) (by rw [hz2]; omega) (by omega)
  simp only [Int.toNat_natCast, hz1, Nat.mul_one] at hr
  exact hr
/-- a row of numbers of the call's own -/
def Iw (w : World) (g : Nat) (l : List Nat) : Prop := w.rowIs g 3 l.length (fun i => .int .i64 ((l.getD i 0 : Nat) : Int))
theorem Iw.but {S : Nat → Prop} {w w' : World} {g : Nat} {l : List Nat} (h : Iw w g l) (hb : But S w w') (hn : ¬ S g) : Iw w' g l := rowIs_but h hb hn
theorem Iw.keep {w w' : World} {g : Nat} {l : List Nat} (h : Iw w g l) (hb : Below w.heap.size w w') : Iw w' g l := rowIs_below h hb
def Sd.at (S : Sd) : List Nat := S.uns.map Prod.fst
theorem Sd.at_len (S : Sd) : S.at.length = S.uns.length := by unfold Sd.at; rw [List.length_map]

section
variable {F : Nat → Prop} {w : World} {p bl bn : Nat} {ua : Option Addr} {uc : Nat} {S : Sd}
set_option maxHeartbeats 2000000 in
theorem dUnsynced_any (h : DkAt F w p bl bn ua uc S) :
    Calls Try.prog 16 #[.pointer (some ⟨p, 0, none⟩)] w fun e w' => e = .returned (.slice (some ⟨w.heap.size, 0, none⟩) S.at.length S.at.length) ∧ Iw w' w.heap.size S.at ∧ Below w.heap.size w w' := by
  have c2 : w.cell? ⟨p, 2, none⟩ = some (.slice ua S.uns.length uc) := h.cell 2
  have hmk := make_int S.uns.length (by have := h.ok.u1; omega)
  have c2' : (w.alloc (.cells (madeCells #[.int .i64 0] S.uns.length) 3)).cell? ⟨p, 2, none⟩ = some (.slice ua S.uns.length uc) := (h.keep (al _ _)).cell 2
  have hz := zeroWr
  have hu1 := h.ok.u1
  have hlen := S.at_len
  have H := hide h
  clear h
  go_enter Try.func16, Try.ntmps16
  go_wp2
  go_loopw [17] (fun i wx => ∃ j : Nat, j ≤ S.uns.length ∧ i = .int .i64 j ∧ (wx.rowIs w.heap.size 3 S.uns.length (fun i => if i < j then .int .i64 ((S.at.getD i 0 : Nat) : Int) else .int .i64 0) ∧ Below w.heap.size w wx)) (fun i _ => S.uns.length - (intOf i).toNat)
  case atStart => exact ⟨0, Nat.zero_le _, rfl, (World.rowIs_made w (.int .i64 0) S.uns.length 3).congr fun i _ => by simp, al _ _⟩
  case round =>
    obtain ⟨j, hj, rfl, hG⟩ := hrel
    have HG := hide hG
    clear hG
    by_cases hlt : j < S.uns.length
    · have hi : (j : Int) < (S.uns.length : Int) := by omega
      obtain ⟨u, hu⟩ : ∃ u, S.uns[j]? = some u := ⟨_, List.getElem?_eq_getElem hlt⟩
      obtain ⟨g, rfl, hr, _, _, hg1, hg2, hg3⟩ := (H.out.keep HG.out.2).row hu
      have hub := (H.out.ok.uns u (List.mem_of_getElem? hu)).2
      have HV : Hid (S.at.getD j 0 = u.1) := by
        show _ = _
        unfold Sd.at
        rw [List.getD_eq_getElem?_getD, List.getElem?_map, hu]; rfl
      have hinfo : (Try.prog.info? 75).map (·.size) = some (wc u).length := by rw [wc_len hub]; exact (zero_of_info infoWr).2
      have cw : (wr.alloc (.cells (wc u).toArray 75)).cell? ⟨wr.heap.size, 0, none⟩ = some (.int .i64 ((u.1 : Nat) : Int)) := by
        rw [cell_of_row _ _ _ _ _ _ (heap_alloc_last wr _)]; rfl
      have hR := rowIs_below HG.out.1 (al wr (.cells (wc u).toArray 75))
      have cg := hR.cell hlt
      have fg := hR.frozen j
      simp only [Nat.lt_irrefl, if_false] at cg
      have HR := hide hR
      clear hR hu
      go_wp2_with (first | (refine wpList_load_mid rfl 75 _ rfl g (j * 513) (by simp [Act.eval]) (wc u) _ hr Try.underlying75 rfl hinfo ?_) | (refine wpList_store_row rfl 75 _ _ rfl wr.heap.size _ rfl rfl 75 zw (heap_alloc_last _ _) (sizeWr (wc_size hub)) (by rw [zw_size, wc_size hub]) (wc_all _) ?_; rw [World.setRow_alloc_new]))
      go_roundw
      case rel =>
        refine ⟨j + 1, by omega, by go_num, (HR.out.set j _).congr fun i hi => ?_, (HG.out.2.alloc HG.out.2.size _).setCell (Nat.le_refl _) _⟩
        by_cases e : i = j
        · subst e; rw [if_pos rfl, if_pos (by omega), HV.out]
        · rw [if_neg e]
          by_cases e2 : i < j
          · rw [if_pos e2, if_pos (by omega)]
          · rw [if_neg e2, if_neg (by omega)]
      case measure => simp [intOf]; omega
    · obtain rfl : j = S.uns.length := by omega
      go_wp2
      go_ret
      refine ⟨by rw [hlen]; rfl, ?_, HG.out.2⟩
      unfold Iw
      rw [hlen]
      exact HG.out.1.congr fun i hi => by rw [if_pos hi]
end
end Go.Proofs.Ytlflcdjaknnfaab
