import Derived.Test.YtlflcdjaknnfaabKM
namespace Go.Proofs.Ytlflcdjaknnfaab
open Go.RowKit

theorem Rw.set {w : World} {g cap : Nat} {l : List Nat} (h : Rw w (some ⟨g, 0, none⟩) cap l) (k v : Nat) : Rw (w.setCell ⟨g, k, none⟩ (.int .u8 ((v : Nat) : Int))) (some ⟨g, 0, none⟩) cap (l.set k v) := by
  rcases h.cases with ⟨h0, _⟩ | ⟨g', cur, h0, hg, h1, h2, h3, h4⟩
  · cases h0
  · simp only [Option.some.injEq, Addr.mk.injEq] at h0
    obtain ⟨rfl, _⟩ := h0
    refine Rw.mk (heap_setCell_same w g k _ _ _ hg) (by rw [List.length_set]; exact h1) h2 (by simpa using h3) ?_
    rw [List.length_set, Array.toList_setIfInBounds, List.take_set, h4]
    simp only [vb, List.map_set]
/-- the block that works writes -/
def bw : List Nat := (zb.set 0 3).set 511 4
theorem bw_len : bw.length = 512 := by unfold bw; rw [List.length_set, List.length_set, zb_len]
theorem bw_blk : Blk bw := by
  refine ⟨bw_len, fun x hx => ?_⟩
  unfold bw at hx
  rcases List.mem_or_eq_of_mem_set hx with h | h
  · rcases List.mem_or_eq_of_mem_set h with h | h
    · exact zb_lt x h
    · omega
  · omega
theorem bw_0 : bw.getD 0 0 = 3 := by
  unfold bw
  rw [List.getD_eq_getElem?_getD, List.getElem?_set_ne (by decide), List.getElem?_set_self (by rw [zb_len]; decide)]
  rfl
def sW0 : Sd := Sd.new 8 (fun _ => zb)
def sW1 : Sd := sW0.wrote 2 bw
def sW2 : Sd := sW1.synced
theorem sW0_act : sW0.act = sW0 := rfl
theorem sW0_acts : sW0.acts = true := rfl
theorem sW0_writeE : sW0.writeE 2 bw = 0 := by
  unfold Sd.writeE
  rw [if_neg (by decide), if_neg (by decide), if_neg (by simpa using bw_len), if_neg (by decide)]
theorem sW0_write : sW0.write 2 bw = sW1 := by
  unfold Sd.write
  rw [if_neg (by decide), if_neg (by decide), if_neg (by simpa using bw_len), if_neg (by decide), sW0_act]
  rfl
theorem sW0_ok : sW0.ok := Sd.new_ok (by decide) (by decide) fun _ => Blk.zero
theorem sW1_ok : sW1.ok := sW0_ok.wrote (by decide) bw_blk (by decide) (by decide)
theorem sW2_ok : sW2.ok := sW1_ok.synced (by decide)
theorem sW1_readE : sW1.readE 2 = 0 := rfl
theorem sW1_show : sW1.show 2 = bw := by
  show shows ([] ++ [(2, bw)]) _ 2 = bw
  rw [shows_snoc, if_pos rfl]
theorem sW1_read : sW1.read 2 = bw := by
  unfold Sd.read
  rw [if_neg (by decide), if_neg (by decide)]
  exact sW1_show
theorem sW1_img : sW1.img.length = 4096 := sW1_ok.imgLen
theorem sW2_img : sW2.img.length = 4096 := sW2_ok.imgLen
theorem sW1_at : sW1.img.getD 1024 0 = 0 := by
  have := imgF_get (n := 8) (f := sW1.last) (fun i _ => (sW1_ok.last i).1) (i := 2) (k := 0) (by decide) (by decide)
  refine Eq.trans this ?_
  show zb.getD 0 0 = 0
  exact zb_get 0
theorem sW2_at : sW2.img.getD 1024 0 = 3 := by
  have := imgF_get (n := 8) (f := sW2.last) (fun i _ => (sW2_ok.last i).1) (i := 2) (k := 0) (by decide) (by decide)
  refine Eq.trans this ?_
  show (shows ([] ++ [(2, bw)]) zb 2).getD 0 0 = 3
  rw [shows_snoc, if_pos rfl]
  exact bw_0
theorem sW1_sync : sW1.sync = sW2 := by
  unfold Sd.sync
  rw [if_neg (by decide), if_neg (by decide)]
  rfl
theorem sW1_syncE : sW1.syncE = 0 := rfl
set_option maxHeartbeats 2000000 in
theorem works_any (w : World) : Calls Try.prog 6 #[] w fun e w' => e = .returned (.bool true) ∧ Below w.heap.size w w' := by
  have hmk : ∀ w : World, (Instr.makeSlice 22 (.int .i64 512) (.int .i64 512)).run Try.prog w = .ok (.slice (some ⟨w.heap.size, 0, none⟩) 512 512) (w.alloc (.cells (madeCells #[.int .u8 0] 512) 5)) := make_u8 512 512 (Nat.le_refl _) (by decide)
  have R0 := hide (dNew_any w 8 (by decide) (by decide))
  go_enter Try.func6, Try.ntmps6
  go_wp2_with fail
  refine R0.out.mono ?_
  rintro e w1 ⟨rfl, h1, hb1⟩
  obtain ⟨F, hF⟩ : ∃ F, F = ext none' w w1 := ⟨_, rfl⟩
  rw [← hF] at h1
  have HF : Hid (∀ k, F k → w.heap.size ≤ k) := fun k hk => by
    rw [hF] at hk
    rcases hk with h | h
    · exact h.elim
    · exact h.1
  have HD1 : Hid (Dk F w1 (w.heap.size + 1 + 1) sW0) := ⟨_, _, _, _, h1⟩
  have HB1 := hide hb1
  clear h1 hb1 R0 hF
  generalize w.heap.size + 1 + 1 = p at *
  obtain ⟨CC, hCC⟩ : ∃ CC, CC = ((madeCells #[.int .u8 0] 512).setIfInBounds 0 (.int .u8 3)).setIfInBounds 511 (.int .u8 4) := ⟨_, rfl⟩
  obtain ⟨W2, hW2⟩ : ∃ W2, W2 = w1.alloc (.cells (madeCells #[.int .u8 0] 512) 5) := ⟨_, rfl⟩
  have hrow : Rw W2 (some ⟨w1.heap.size, 0, none⟩) 512 zb := by
    rw [hW2]
    refine Rw.mk (cur := (vb zb).toArray) ?_ (by rw [zb_len]; exact Nat.le_refl _) (by unfold maxLen; decide) (vb_size zb_len) (by rw [List.take_of_length_le (by simp [vb_length])])
    have := vb_zeros 512
    unfold zb
    rw [this]
    exact heap_alloc_last _ _
  have hC2 : CC = (vb bw).toArray := by
    rw [hCC, ← vb_zeros 512]
    unfold bw zb vb
    rw [List.map_set, List.map_set, List.setIfInBounds_toArray, List.setIfInBounds_toArray]
    generalize List.map (fun x : Nat => Value.int IntKind.u8 (x : Int)) (List.replicate 512 0) = Z
    rfl
  obtain ⟨W3, hW3⟩ : ∃ W3, W3 = w1.alloc (.cells CC 5) := ⟨_, rfl⟩
  have hrow3 : Rw W3 (some ⟨w1.heap.size, 0, none⟩) 512 bw := by
    rw [hW3, hC2]
    exact Rw.mk (cur := (vb bw).toArray) (heap_alloc_last _ _) (by rw [bw_len]; exact Nat.le_refl _) (by unfold maxLen; decide) (vb_size bw_len) (by rw [List.take_of_length_le (by simp [vb_length])])
  have hb3 : Below w1.heap.size w1 W3 := by
    rw [hW3]
    exact al _ _
  have hb3w := hide (bt HB1.out hb3)
  have HD3 := hide (HD1.out.keep hb3)
  have HR3 := hide hrow3
  have k0 : (w1.alloc (.cells (madeCells #[.int .u8 0] 512) 5)).cell? ⟨w1.heap.size, 0, none⟩ = some (.int .u8 0) := by
    rw [← hW2]; have := hrow.cell (i := 0) (by rw [zb_len]; decide); rw [zb_get] at this; exact this
  have hk1 : (w1.alloc (.cells ((madeCells #[.int .u8 0] 512).setIfInBounds 0 (.int .u8 3)) 5)).heap[w1.heap.size]? = some (.cells ((madeCells #[.int .u8 0] 512).setIfInBounds 0 (.int .u8 3)) 5 (0, 0)) := heap_alloc_last _ _
  have k1 : (w1.alloc (.cells ((madeCells #[.int .u8 0] 512).setIfInBounds 0 (.int .u8 3)) 5)).cell? ⟨w1.heap.size, 511, none⟩ = some (.int .u8 0) := by
    rw [cell_of_row _ _ _ _ _ _ hk1, Array.getElem?_setIfInBounds_ne (by decide), ← vb_zeros 512, List.getElem?_toArray, vb_get _ _ (by rw [List.length_replicate]; decide)]
    have := zb_get 511
    unfold zb at this
    rw [this]
    rfl
  have f0 := frozen_of_row (w1.alloc (.cells (madeCells #[.int .u8 0] 512) 5)) w1.heap.size 0 _ _ (heap_alloc_last _ _)
  have f1 := frozen_of_row _ w1.heap.size 511 _ _ hk1
  clear hk1
  have HL1 := hide HD1.out.lt
  have RW := hide (kWrite HD3.out 2 (some ⟨w1.heap.size, 0, none⟩) 512 512 bw (hrow3.bs' bw_blk.2) bw_len.symm (fun x hx hf => by cases hx; exact absurd (HL1.out _ hf) (Nat.lt_irrefl _)) (by decide) (by decide))
  rw [sW0_writeE, sW0_write, hW3, hCC] at RW
  have HW3 := hide (show W3 = w1.alloc (.cells (((madeCells #[.int .u8 0] 512).setIfInBounds 0 (.int .u8 3)).setIfInBounds 511 (.int .u8 4)) 5) by rw [hW3, hCC])
  clear hrow hrow3 hb3 hW3 hW2 HD1 hCC hC2
  go_wp2_with fail
  refine RW.out.mono ?_
  rintro e w4 ⟨rfl, h4, hb4⟩
  rw [← HW3.out] at h4 hb4
  obtain ⟨F4, hF4⟩ : ∃ F4, F4 = ext F W3 w4 := ⟨_, rfl⟩
  rw [← hF4] at h4
  have H4 := hide h4
  have HB4 : Hid (Below w.heap.size w w4) := (hb4.mono (T := fun k => w.heap.size ≤ k) (fun k _ hk => HF.out k hk)) |> fun hb => ((But.ofBelow hb3w.out).trans hb (fun _ _ h => h) : But (fun k => w.heap.size ≤ k) w w4).below (fun k hk h => by omega)
  have HR4 := hide (HR3.out.but hb4 (fun x hx hf => by cases hx; exact absurd (HL1.out _ hf) (Nat.lt_irrefl _)))
  have HF4 : Hid (∀ k, F4 k → w.heap.size ≤ k) := fun k hk => by
    rw [hF4] at hk
    rcases hk with h | h
    · exact HF.out k h
    · exact Nat.le_trans hb3w.out.size h.1
  clear h4 hb4 hF4 RW HW3 HD3 HR3 hb3w k0 k1 f0 f1
  have R5 := hide (kRead H4.out 2)
  rw [sW1_read, sW1_readE, bw_len] at R5
  go_wp2_with fail
  refine R5.out.mono ?_
  rintro e w5 ⟨a5, c5, rfl, hr5, _, hb5⟩
  have H5 := hide (H4.out.keep hb5)
  have HB5 := hide (bt HB4.out hb5)
  have R6 := hide (EqBytes_same w5 (some ⟨w1.heap.size, 0, none⟩) a5 512 512 512 c5 bw ((HR4.out.keep hb5).bs' bw_blk.2) (hr5.bs' bw_blk.2) bw_len.symm bw_len.symm)
  clear hr5 hb5 R5
  go_wp2_with fail
  refine R6.out.mono ?_
  rintro e w6 ⟨rfl, hb6⟩
  have H6 := hide (H5.out.keep hb6)
  have HB6 := hide (bt HB5.out hb6)
  have R7 := hide (kImage H6.out)
  rw [sW1_img] at R7
  clear hb6 R6
  go_wp2_with fail
  refine R7.out.mono ?_
  rintro e w7 ⟨rfl, _, hb7⟩
  have H7 := hide (H6.out.keep hb7)
  have HB7 := hide (bt HB6.out hb7)
  have R8 := hide (kImage H7.out)
  rw [sW1_img] at R8
  clear hb7 R7
  go_wp2_with fail
  refine R8.out.mono ?_
  rintro e w8 ⟨rfl, hr8, hb8⟩
  have c8 : w8.cell? ⟨w7.heap.size, 1024, none⟩ = some (.int .u8 0) := by
    have := hr8.cell (i := 1024) (by rw [sW1_img]; decide)
    rw [sW1_at] at this
    exact this
  have H8 := hide (H7.out.keep hb8)
  have HB8 := hide (bt HB7.out hb8)
  have R9 := hide (kSync H8.out (by decide))
  rw [sW1_syncE, sW1_sync] at R9
  clear hb8 hr8 R8
  go_wp2_with fail
  refine R9.out.mono ?_
  rintro e w9 ⟨rfl, h9, hb9⟩
  have HB9 : Hid (Below w.heap.size w w9) := ((But.ofBelow HB8.out).trans (hb9.mono (T := fun k => w.heap.size ≤ k) (fun k _ hk => HF4.out k hk)) (fun _ _ h => h) : But (fun k => w.heap.size ≤ k) w w9).below (fun k hk h => by omega)
  have R10 := hide (kImage h9)
  rw [sW2_img] at R10
  clear hb9 h9 R9
  go_wp2_with fail
  refine R10.out.mono ?_
  rintro e w10 ⟨rfl, hr10, hb10⟩
  have c10 : w10.cell? ⟨w9.heap.size, 1024, none⟩ = some (.int .u8 3) := by
    have := hr10.cell (i := 1024) (by rw [sW2_img]; decide)
    rw [sW2_at] at this
    exact this
  have HB10 := hide (bt HB9.out hb10)
  clear hb10 hr10 R10
  go_wp2
  go_ret
  exact ⟨rfl, HB10.out⟩
end Go.Proofs.Ytlflcdjaknnfaab
