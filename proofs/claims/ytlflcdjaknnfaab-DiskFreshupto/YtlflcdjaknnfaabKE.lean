import Derived.Test.YtlflcdjaknnfaabKD
namespace Go.Proofs.Ytlflcdjaknnfaab
open Go.RowKit
open Go.ChangeMaps (setBlock)

section
variable {F : Nat → Prop} {w : World} {p bl bn : Nat} {ua : Option Addr} {uc : Nat} {S : Sd}
set_option maxHeartbeats 1000000 in
theorem settle_any (h : DkAt F w p bl bn ua uc S) (i : Nat) (hi : i < S.n) (b : List Nat) (hb : Blk b) :
    Calls Try.prog 44 #[.pointer (some ⟨p, 0, none⟩), .int .i64 (i : Int), .agg (vb b).toArray] w fun e w' => e = .returned (.tuple #[]) ∧ DkAt F w' p bl bn ua uc (S.lay i b) ∧ But F w w' := by
  obtain ⟨W1, hW1⟩ : ∃ W1, W1 = w.alloc (.cells (vb b).toArray 72) := ⟨_, rfl⟩
  have hb1 : Below w.heap.size w W1 := by rw [hW1]; exact al _ _
  have h1 := h.keep hb1
  have heq := fun w : World => eql_zero w hb
  have hz0 := zeroBlk
  by_cases hz : b = zb
  · obtain ⟨w2, hrun, hm, hbut, hsz⟩ := h1.l.drop (P := Try.prog) (T := 65) (K := 3) (E := 72) Try.underlying65 Try.underlying3 (i : Int) 3
    have hd : decide (b = zb) = true := decide_eq_true hz
    rw [hd] at heq
    have c1 : W1.cell? ⟨p, 1, none⟩ = some (.map (some bl)) := h1.cell 1
    have HF := hide (show DkAt F w2 p bl bn ua uc (S.lay i b) ∧ But F w w2 from ⟨h1.lays hb hbut (hm.congr fun k => by rw [hz]; exact mpL_del k), (But.ofBelow hb1).trans hbut (fun x _ e => e ▸ h.fl)⟩)
    rw [hW1] at hrun c1
    clear hm hbut hsz h1 hb1 hd hz hW1 h
    go_enter Try.func44, Try.ntmps44
    go_wp2_with (refine wpList_load_row rfl 72 _ rfl w.heap.size rfl 72 (vb b).toArray (0, 0) _ (heap_alloc_last _ _) Try.underlying72 rfl (sizeBlk (vb_size hb.1)) ?_)
    refine bodyPost_ret (results_none rfl _ _ _) rfl ?_
    exact ⟨rfl, HF.out⟩
  · have h2 := h1.keep (drw W1)
    obtain ⟨w2, hrun, hm, hbut, hsz⟩ := h2.l.store (P := Try.prog) (T := 65) (K := 3) (E := 72) Try.underlying65 Try.underlying3 (i : Int) (.agg (vb b).toArray)
    have hd : decide (b = zb) = false := decide_eq_false hz
    rw [hd] at heq
    have HF := hide (show DkAt F w2 p bl bn ua uc (S.lay i b) ∧ But F w w2 from ⟨h2.lays hb hbut (hm.congr fun k => mpL_put hi hz k), ((But.ofBelow hb1).andBelow (drw W1)).trans hbut (fun x _ e => e ▸ h.fl)⟩)
    have nb : w.heap.size ≠ bl := by have := h.lt _ h.fl; omega
    have c0 : W1.drew.cell? ⟨p, 1, none⟩ = some (.map (some bl)) := h2.cell 1
    have c2 : w2.cell? ⟨p, 1, none⟩ = some (.map (some bl)) := HF.out.1.cell 1
    have r0 : W1.drew.rangeAt w.heap.size 0 (vb b) := fun j v hj => by
      rw [cell_of_row _ _ _ (vb b).toArray 72 (0, 0) (show W1.drew.heap[w.heap.size]? = _ from by rw [hW1]; exact heap_alloc_last _ _)]
      simpa using hj
    have r2 : w2.rangeAt w.heap.size 0 (vb b) := fun j v hj => by
      rw [← r0 j v hj]
      exact hbut.cell (p := ⟨w.heap.size, 0 + j, none⟩) (show w.heap.size < W1.heap.size by rw [hW1, size_alloc]; omega) nb
    have hu := Try.underlying72
    have hinfo : (Try.prog.info? 72).map (·.size) = some (vb b).length := by rw [vb_length, hb.1]; exact (zero_of_info infoBlk).2
    have G0 := hide (And.intro c0 r0)
    have G2 := hide (And.intro c2 r2)
    rw [hW1] at hrun G0
    clear hm hbut hsz h1 h2 hb1 hd hz hW1 h c0 c2 r0 r2
    go_enter Try.func44, Try.ntmps44
    go_wp2_with (refine wpList_load_row rfl 72 _ rfl w.heap.size rfl 72 (vb b).toArray (0, 0) _ (heap_alloc_last _ _) Try.underlying72 rfl (sizeBlk (vb_size hb.1)) ?_)
    go_region_held3 (fun V => V.cell? ⟨p, 1, none⟩ = some (.map (some bl)) ∧ V.rangeAt w.heap.size 0 (vb b))
      (first | exact G0.out | exact G2.out)
      (first | fail)
    go_wp2
    go_end0
    exact ⟨rfl, HF.out⟩
theorem set_alloc (w : World) (p : Addr) (v : Value) (o : Obj) (h : p.block < w.heap.size) : (w.setCell p v).alloc o = (w.alloc o).setCell p v := by
  simp only [World.setCell, World.alloc]
  congr 1
  apply Array.ext_getElem?
  intro i
  simp [Array.getElem?_modify, Array.getElem?_push]
  by_cases e : i = w.heap.size
  · subst e; simp [show p.block ≠ w.heap.size by omega]
  · simp [e]
/-- nothing is unsynced any more -/
theorem DkAt.forget (h : DkAt F w p bl bn ua uc S) (W : World) (hW : W = ((w.setCell ⟨p, 2, none⟩ (.slice none 0 0)).alloc (.map #[] 0)).setCell ⟨p, 3, none⟩ (.map (some w.heap.size))) : DkAt (ext F w W) W p bl w.heap.size none 0 S.forget ∧ But F w W ∧ W.heap.size = w.heap.size + 1 := by
  obtain ⟨w1, e1⟩ : ∃ w1, w1 = w.setCell ⟨p, 2, none⟩ (.slice none 0 0) := ⟨_, rfl⟩
  obtain ⟨w2, e2⟩ : ∃ w2, w2 = w1.alloc (.map #[] 0) := ⟨_, rfl⟩
  rw [← e1, ← e2] at hW
  have b1 : But (· = p) w w1 := by rw [e1]; exact set_but w p 2 _
  have s1 : w1.heap.size = w.heap.size := by rw [e1, set_size]
  have b2 : Below w1.heap.size w1 w2 := by rw [e2]; exact al _ _
  have s2 : w2.heap.size = w.heap.size + 1 := by rw [e2, size_alloc, s1]
  have b3 : But (· = p) w2 W := by rw [hW]; exact set_but w2 p 3 _
  have s3 : W.heap.size = w.heap.size + 1 := by rw [hW, set_size, s2]
  have hB : But (· = p) w W := (b1.andBelow b2).trans b3 (fun _ _ h => h)
  have hp := h.lt _ h.fp
  have k1 : w1.heap[p]? = some (.cells ((dc S bl bn ua uc).set 2 (.slice none 0 0)).toArray 69 (0, 0)) := by rw [e1]; exact set_blk h.blk
  have k2 : w2.heap[p]? = some (.cells ((dc S bl bn ua uc).set 2 (.slice none 0 0)).toArray 69 (0, 0)) := (b2.block p (by omega)).trans k1
  have k3 : W.heap[p]? = some (.cells (((dc S bl bn ua uc).set 2 (.slice none 0 0)).set 3 (.map (some w.heap.size))).toArray 69 (0, 0)) := by rw [hW]; exact set_blk k2
  refine ⟨{ ok := h.ok.forget, blk := k3, l := h.l.but hB (fun e => h.np.1 e.symm), n := ⟨fun _ => none, ?_, Nw.nil⟩, u := World.ownsRow_nil _ _ _ _, fp := .inl h.fp, fl := .inl h.fl, fn := .inr ⟨Nat.le_refl _, by omega⟩, fu := fun x hx => (by cases hx), ne := ?_, lt := ?_ }, hB.mono (fun _ _ e => e ▸ h.fp), s3⟩
  · refine (show Mp w2 w.heap.size _ from ?_).but b3 (by omega)
    rw [e2, ← s1]
    exact Mp.made w1
  · have := h.lt _ h.fl; omega
  · exact ext_lt h.lt (by omega)
set_option maxHeartbeats 1000000 in
theorem forget_any (h : DkAt F w p bl bn ua uc S) : Calls Try.prog 51 #[.pointer (some ⟨p, 0, none⟩)] w fun e w' => e = .returned (.tuple #[]) ∧ ∃ bn', DkAt (ext F w w') w' p bl bn' none 0 S.forget ∧ But F w w' := by
  have c2 : w.cell? ⟨p, 2, none⟩ = some (.slice ua S.uns.length uc) := h.cell 2
  have f2 := h.frozen 2
  have c3 : w.cell? ⟨p, 3, none⟩ = some (.map (some bn)) := h.cell 3
  have f3 := h.frozen 3
  have hmm := @run_makeMap Try.prog
  have hk : ((w.setCell ⟨p, 2, none⟩ (.slice none 0 0)).alloc (.map #[] 0)).heap[p]? = some (.cells ((dc S bl bn ua uc).set 2 (.slice none 0 0)).toArray 69 (0, 0)) :=
    ((al (w.setCell ⟨p, 2, none⟩ (.slice none 0 0)) (.map #[] 0)).block p (by rw [set_size]; exact h.lt _ h.fp)).trans (set_blk h.blk)
  have c3' : ((w.setCell ⟨p, 2, none⟩ (.slice none 0 0)).alloc (.map #[] 0)).cell? ⟨p, 3, none⟩ = some (.map (some bn)) := by rw [cell_of_row _ _ _ _ _ _ hk]; rfl
  have f3' := frozen_of_row _ p 3 _ _ hk
  have H := hide h
  clear h hk
  go_enter Try.func51, Try.ntmps51
  go_wp2
  go_end0
  have := H.out.forget _ rfl
  exact ⟨rfl, w.heap.size, this.1, this.2.1⟩
theorem has_any (h : w.cell? ⟨p, 0, none⟩ = some (.int .i64 (S.n : Int))) (i : Int) : Calls Try.prog 39 #[.pointer (some ⟨p, 0, none⟩), .int .i64 i] w fun e w' => e = .returned (.bool (S.has i)) ∧ w' = w := by
  generalize hn : S.n = n at h
  have hh : S.has i = (decide (0 ≤ i) && decide (i < (n : Int))) := by unfold Sd.has; rw [hn]
  rw [hh]
  clear hh hn
  by_cases h1 : 0 ≤ i
  · by_cases h2 : i < (n : Int)
    · have d1 : decide (0 ≤ i) = true := decide_eq_true h1
      have d2 : decide (i < (n : Int)) = true := decide_eq_true h2
      go_enter Try.func39, Try.ntmps39
      go_wp2
      go_ret
      exact ⟨by first | rfl | (rw [d1, d2]; rfl), rfl⟩
    · have d1 : decide (0 ≤ i) = true := decide_eq_true h1
      have d2 : decide (i < (n : Int)) = false := decide_eq_false h2
      go_enter Try.func39, Try.ntmps39
      go_wp2
      go_ret
      exact ⟨by first | rfl | (rw [d1, d2]; rfl), rfl⟩
  · have d1 : decide (0 ≤ i) = false := decide_eq_false h1
    go_enter Try.func39, Try.ntmps39
    go_wp2
    go_ret
    exact ⟨by first | rfl | (rw [d1]; rfl), rfl⟩
theorem dOff_any (h : DkAt F w p bl bn ua uc S) : Calls Try.prog 32 #[.pointer (some ⟨p, 0, none⟩)] w fun e w' => e = .returned (.tuple #[]) ∧ DkAt F w' p bl bn ua uc S.off ∧ But F w w' := by
  have c4 : w.cell? ⟨p, 4, none⟩ = some (.bool S.pow) := h.cell 4
  have f4 := h.frozen 4
  have c5 : w.cell? ⟨p, 5, none⟩ = some (.int .i64 S.alm) := h.cell 5
  have f5 := h.frozen 5
  have HF := hide (show DkAt F ((w.setCell ⟨p, 4, none⟩ (.bool false)).setCell ⟨p, 5, none⟩ (.int .i64 (-1))) p bl bn ua uc S.off ∧ But F w ((w.setCell ⟨p, 4, none⟩ (.bool false)).setCell ⟨p, 5, none⟩ (.int .i64 (-1))) from
    ⟨(h.set 4 (.bool false) { S with pow := false } { h.ok with uns := h.ok.uns } rfl rfl rfl rfl).set 5 (.int .i64 (-1)) S.off h.ok.off rfl rfl rfl rfl,
      ((set_but w p 4 _).trans (set_but _ p 5 _) (fun _ _ h => h)).mono (fun _ _ e => e ▸ h.fp)⟩)
  clear h
  go_enter Try.func32, Try.ntmps32
  go_wp2
  go_end0
  exact ⟨rfl, HF.out⟩
theorem act_any (h : DkAt F w p bl bn ua uc S) : Calls Try.prog 40 #[.pointer (some ⟨p, 0, none⟩)] w fun e w' => e = .returned (.bool S.acts) ∧ DkAt F w' p bl bn ua uc S.act ∧ But F w w' := by
  have c5 : w.cell? ⟨p, 5, none⟩ = some (.int .i64 S.alm) := h.cell 5
  have f5 := h.frozen 5
  have R := hide (dOff_any h)
  have a0 := h.ok.a0
  have a1 := h.ok.a1
  have H := hide h
  clear h
  unfold Sd.acts Sd.act
  generalize ha : S.alm = a at *
  by_cases h0 : a = 0
  · rw [if_pos h0, decide_eq_false (by simpa using h0)]
    subst h0
    go_enter Try.func40, Try.ntmps40
    go_wp2_with (go_at_call 32; refine R.out.mono ?_; rintro e w1 ⟨rfl, h1⟩; have H1 := hide h1; clear h1)
    go_ret
    exact ⟨rfl, H1.out⟩
  · rw [if_neg h0, decide_eq_true h0]
    have e0 := eqf h0
    by_cases h1 : a = -1
    · rw [if_pos h1]
      subst h1
      go_enter Try.func40, Try.ntmps40
      go_wp2
      go_ret
      exact ⟨rfl, H.out, But.refl _ _⟩
    · rw [if_neg h1]
      have e1 := eqf h1
      have e2 : wrap64 (a - 1) = a - 1 := by unfold wrap64; omega
      have HF := hide (show DkAt F (w.setCell ⟨p, 5, none⟩ (.int .i64 (a - 1))) p bl bn ua uc { S with alm := a - 1 } ∧ But F w (w.setCell ⟨p, 5, none⟩ (.int .i64 (a - 1))) from
        ⟨H.out.set 5 (.int .i64 (a - 1)) { S with alm := a - 1 } { H.out.ok with a0 := by show -1 ≤ a - 1; omega, a1 := by show a - 1 ≤ _; omega, uns := H.out.ok.uns } rfl rfl rfl rfl, (set_but w p 5 _).mono (fun _ _ e => e ▸ H.out.fp)⟩)
      go_enter Try.func40, Try.ntmps40
      go_wp2
      go_ret
      exact ⟨rfl, HF.out⟩
theorem dArm_any (h : DkAt F w p bl bn ua uc S) (a : Int) (ha : a ≤ 9223372036854775807) : Calls Try.prog 30 #[.pointer (some ⟨p, 0, none⟩), .int .i64 a] w fun e w' => e = .returned (.tuple #[]) ∧ DkAt F w' p bl bn ua uc (S.arm a) ∧ But F w w' := by
  have c4 : w.cell? ⟨p, 4, none⟩ = some (.bool S.pow) := h.cell 4
  have c5 : w.cell? ⟨p, 5, none⟩ = some (.int .i64 S.alm) := h.cell 5
  have f5 := h.frozen 5
  have hok := h.ok.arm ha
  have H := hide h
  clear h
  cases hpw : S.pow with
  | false =>
    have e : S.arm a = S := by unfold Sd.arm; rw [if_pos hpw]
    rw [e]
    rw [hpw] at c4
    go_enter Try.func30, Try.ntmps30
    go_wp2
    go_end0
    exact ⟨rfl, H.out, But.refl _ _⟩
  | true =>
    obtain ⟨m, hm⟩ : ∃ m, m = max a (-1) := ⟨_, rfl⟩
    have e : S.arm a = { S with alm := m } := by unfold Sd.arm; rw [if_neg (by rw [hpw]; decide), hm]
    have HF := hide (show DkAt F (w.setCell ⟨p, 5, none⟩ (.int .i64 m)) p bl bn ua uc (S.arm a) ∧ But F w (w.setCell ⟨p, 5, none⟩ (.int .i64 m)) from
        ⟨by rw [e] at hok ⊢; exact H.out.set 5 (.int .i64 m) { S with alm := m } hok rfl rfl rfl rfl, (set_but w p 5 _).mono (fun _ _ e => e ▸ H.out.fp)⟩)
    rw [hpw] at c4
    clear hok e hpw
    generalize S.arm a = S' at *
    by_cases hl : a < -1
    · obtain rfl : m = -1 := by omega
      have h1 : ¬ (-1 : Int) ≤ a := by omega
      have h2 : a ≤ (-1 : Int) := by omega
      have hx : max a (-1) = -1 := by omega
      clear hm
      go_enter Try.func30, Try.ntmps30
      go_wp2
      go_end0
      exact ⟨rfl, HF.out⟩
    · obtain rfl : m = a := by omega
      have h1 : (-1 : Int) ≤ m := by omega
      have hx : max m (-1) = m := by omega
      clear hm
      go_enter Try.func30, Try.ntmps30
      go_wp2
      go_end0
      exact ⟨rfl, HF.out⟩
theorem dIsOn_any (h : DkAt F w p bl bn ua uc S) : Calls Try.prog 52 #[.pointer (some ⟨p, 0, none⟩)] w fun e w' => e = .returned (.bool S.pow) ∧ w' = w := by
  have c4 : w.cell? ⟨p, 4, none⟩ = some (.bool S.pow) := h.cell 4
  clear h
  go_enter Try.func52, Try.ntmps52
  go_wp2
  go_ret
  exact ⟨rfl, rfl⟩
theorem dBlocks_any (h : DkAt F w p bl bn ua uc S) : Calls Try.prog 56 #[.pointer (some ⟨p, 0, none⟩)] w fun e w' => e = .returned (.int .i64 (S.n : Int)) ∧ w' = w := by
  have c4 : w.cell? ⟨p, 0, none⟩ = some (.int .i64 (S.n : Int)) := h.cell 0
  clear h
  go_enter Try.func56, Try.ntmps56
  go_wp2
  go_ret
  exact ⟨rfl, rfl⟩
theorem dActs_any (h : DkAt F w p bl bn ua uc S) : Calls Try.prog 54 #[.pointer (some ⟨p, 0, none⟩)] w fun e w' => e = .returned (.tuple #[.int .i64 (S.wr : Int), .int .i64 (S.sy : Int)]) ∧ Below w.heap.size w w' := by
  have c6 : w.cell? ⟨p, 6, none⟩ = some (.int .i64 (S.wr : Int)) := h.cell 6
  have c7 : w.cell? ⟨p, 7, none⟩ = some (.int .i64 (S.sy : Int)) := h.cell 7
  clear h
  go_enter Try.func54, Try.ntmps54
  go_wp2
  go_quiet (fail)
  go_wp2
  go_ret2
  exact ⟨rfl, drN _ _⟩
end
end Go.Proofs.Ytlflcdjaknnfaab
