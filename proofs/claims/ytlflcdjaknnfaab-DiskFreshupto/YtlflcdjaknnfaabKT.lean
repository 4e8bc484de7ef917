import Derived.Test.YtlflcdjaknnfaabKS
namespace Go.Proofs.Ytlflcdjaknnfaab
open Go.RowKit

/-- a call of a script, on the program alone -/
def Sd.step (S : Sd) (o : Ov) : Sd := if o.k = 1 then S.write o.i o.B else if o.k = 2 then S.sync else if o.k = 3 then S.arm o.i else if o.k = 4 then S.off else if o.k = 5 then S.on o.K else if o.k = 10 then S.layd o.i o.B else S
def Sd.run (S : Sd) (L : List Ov) : Sd := L.foldl Sd.step S
theorem Sd.run_take (S : Sd) (L : List Ov) {j : Nat} (hj : j < L.length) : S.run (L.take (j + 1)) = (S.run (L.take j)).step (L.getD j Ov.zero) := by
  unfold Sd.run
  rw [List.take_succ_eq_append_getElem hj, List.foldl_append]
  simp [hj]
theorem Sd.room.write {S : Sd} {m : Nat} (h : S.room m) (i : Int) (b : List Nat) : (S.write i b).room (m + 1) := by
  have hm : S.room (m + 1) := ⟨by have := h.1; omega, by have := h.2.1; omega, by have := h.2.2; omega⟩
  unfold Sd.write
  split
  · exact hm
  · split
    · exact hm
    · split
      · exact hm
      · split
        · exact ⟨by rw [Sd.act_wr]; exact hm.1, by rw [Sd.act_sy]; exact hm.2.1, by rw [Sd.act_uns]; exact hm.2.2⟩
        · refine ⟨?_, ?_, ?_⟩
          · show S.act.wr + 1 ≤ m + 1
            rw [Sd.act_wr]; have := h.1; omega
          · show S.act.sy ≤ m + 1
            rw [Sd.act_sy]; exact hm.2.1
          · show (S.act.uns ++ [_]).length ≤ m + 1
            rw [Sd.act_uns, List.length_append, List.length_singleton]; have := h.2.2; omega
theorem Sd.room.sync {S : Sd} {m : Nat} (h : S.room m) : S.sync.room (m + 1) := by
  have hm : S.room (m + 1) := ⟨by have := h.1; omega, by have := h.2.1; omega, by have := h.2.2; omega⟩
  unfold Sd.sync
  split
  · exact hm
  · split
    · exact ⟨by rw [Sd.act_wr]; exact hm.1, by rw [Sd.act_sy]; exact hm.2.1, by rw [Sd.act_uns]; exact hm.2.2⟩
    · refine ⟨?_, ?_, Nat.zero_le _⟩
      · show S.act.wr ≤ m + 1
        rw [Sd.act_wr]; exact hm.1
      · show S.act.sy + 1 ≤ m + 1
        rw [Sd.act_sy]; have := h.2.1; omega
theorem Sd.room.arm {S : Sd} {m : Nat} (h : S.room m) (a : Int) : (S.arm a).room m := by
  unfold Sd.arm
  split
  · exact h
  · exact h
theorem Sd.room.off {S : Sd} {m : Nat} (h : S.room m) : S.off.room m := h
theorem Sd.room.on {S : Sd} {m : Nat} (h : S.room m) (K : List Bool) : (S.on K).room m := by
  unfold Sd.on
  split
  · exact h
  · exact ⟨h.1, h.2.1, Nat.zero_le _⟩
theorem Sd.room.layd {S : Sd} {m : Nat} (h : S.room m) (i : Int) (b : List Nat) : (S.layd i b).room m := by
  unfold Sd.layd
  split
  · exact h
  · exact h
theorem Sd.room.le {S : Sd} {m n : Nat} (h : S.room m) (hn : m ≤ n) : S.room n := ⟨Nat.le_trans h.1 hn, Nat.le_trans h.2.1 hn, Nat.le_trans h.2.2 hn⟩
theorem Sd.room.step {S : Sd} {m : Nat} (h : S.room m) (o : Ov) : (S.step o).room (m + 1) := by
  unfold Sd.step
  have hm := h.le (Nat.le_succ m)
  repeat' split
  · exact h.write _ _
  · exact h.sync
  · exact hm.arm _
  · exact hm.off
  · exact hm.on _
  · exact hm.layd _ _
  · exact hm
theorem Sd.room.run {S : Sd} {m : Nat} (h : S.room m) (L : List Ov) (j : Nat) (hj : j ≤ L.length) : (S.run (L.take j)).room (m + j) := by
  induction j with
  | zero => rw [List.take_zero]; exact h
  | succ j ih =>
    rw [Sd.run_take S L (by omega)]
    exact (ih (by omega)).step _
/-- a script's call -/
theorem Sp.at {w : World} {a : Option Addr} {L : List Ov} (h : Sp w a L) {j : Nat} (hj : j < L.length) : ∃ b o, a = some ⟨b, o, none⟩ ∧ w.rangeAt b (o + j * 4) (L.getD j Ov.zero).cs ∧ (L.getD j Ov.zero).good w := by
  rcases h.2.2 with rfl | ⟨b, o, e, hc⟩
  · simp at hj
  · refine ⟨b, o, e, hc j hj, h.1 _ ?_⟩
    rw [List.getD_eq_getElem?_getD, List.getElem?_eq_getElem hj]
    exact List.getElem_mem hj
theorem infoOp : (Try.prog.info? 34).map (·.size) = some 4 := by kernel_rfl
theorem cell_op (w : World) (o : Ov) (i : Nat) : (w.alloc (.cells #[.int .i64 o.k, .int .i64 o.i, .slice o.aB o.B.length o.cB, .slice o.aK o.K.length o.cK] 34)).cell? ⟨w.heap.size, i, none⟩ = o.cs[i]? := by
  rw [cell_of_row _ _ _ _ _ _ (heap_alloc_last w _)]
  simp [Ov.cs]
end Go.Proofs.Ytlflcdjaknnfaab
