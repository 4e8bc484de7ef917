import Derived.Test.YtlflcdjaknnfaaaKS
namespace Go.Proofs.Ytlflcdjaknnfaaa
open Go.RowKit

set_option maxHeartbeats 3000000 in
theorem started_good (w : World) (nb : Int) (a : Option Addr) (l : List Nat) (cap : Nat) (hB : Bs w a l) (hN : l.length + 64 ≤ 140737488355328) (hok : stOk nb l) :
    Calls Try.prog 22 #[.agg #[.int .i64 nb, .slice a l.length cap]] w fun e w' => ∃ F p, e = .returned (.pointer (some ⟨p, 0, none⟩)) ∧ Dk F w' p (stS nb l) ∧ (∀ k, F k → w.heap.size ≤ k) ∧ Below w.heap.size w w' := by
  by_cases h0 : l = []
  · subst h0
    obtain ⟨i0, i1⟩ : 8 ≤ nb ∧ nb ≤ 65536 := by unfold stOk at hok; rw [if_pos rfl] at hok; exact hok
    obtain ⟨n, rfl⟩ : ∃ n : Nat, nb = (n : Int) := ⟨nb.toNat, by omega⟩
    have eS : stS (n : Int) [] = Sd.new n (fun _ => zb) := by unfold stS; rw [if_pos rfl]; rfl
    rw [eS]
    have HB0 := hide (al w (.cells #[.int .i64 (n : Int), .slice a 0 cap] 37))
    have R1 := hide (dNew_any (w.alloc (.cells #[.int .i64 (n : Int), .slice a 0 cap] 37)) n (by omega) (by omega))
    clear hok hB hN eS
    go_enter Try.func22, Try.ntmps22
    go_wp2_with fail
    refine R1.out.mono ?_
    rintro e w1 ⟨rfl, h1, hb1⟩
    have HD1 : Hid (Dk _ w1 _ _) := ⟨_, _, _, _, h1⟩
    have HB1 := hide (bt HB0.out hb1)
    clear h1 hb1 R1
    generalize (w.alloc (.cells #[.int .i64 (n : Int), .slice a 0 cap] 37)).heap.size + 1 + 1 = p at *
    go_wp2
    go_ret
    have hs0 := HB0.out.size
    refine ⟨_, p, rfl, HD1.out, fun k hk => ?_, HB1.out⟩
    have := ext_none hk; omega
  · obtain ⟨i0, i1, i2⟩ : l.length % 512 = 0 ∧ 8 ≤ l.length / 512 ∧ l.length / 512 ≤ 65536 := by unfold stOk at hok; rw [if_neg h0] at hok; exact hok
    have eS : stS nb l = Sd.of l := by unfold stS; rw [if_neg h0]
    rw [eS]
    have HB0 := hide (al w (.cells #[.int .i64 nb, .slice a l.length cap] 37))
    have R1 := hide (CopyBytes_any (w.alloc (.cells #[.int .i64 nb, .slice a l.length cap] 37)) a l.length cap l (hB.keep (al _ _)) rfl (by omega))
    have hlt := hB.1
    have hmb : l.length ≤ 140737488355328 := by omega
    have hpos : 0 < l.length := List.length_pos_iff.2 h0
    have HN := hide (show l.length = l.length / 512 * 512 ∧ 8 ≤ l.length / 512 ∧ l.length / 512 ≤ 65536 from ⟨by omega, i1, i2⟩)
    clear hB hok eS i0 i1 i2 h0 hN
    obtain ⟨N, hNN⟩ : ∃ N, N = l.length := ⟨_, rfl⟩
    rw [← hNN] at R1 hmb hpos HN HB0 ⊢
    have HNN := hide hNN
    clear hNN
    have hi0 : (0 : Int) < (N : Int) := by omega
    go_enter Try.func22, Try.ntmps22
    go_wp2_with fail
    refine R1.out.mono ?_
    rintro e w1 ⟨ax, cx, rfl, hr1, hn1, hb1⟩
    obtain ⟨g, rfl, hc1, hg1⟩ := hr1.some_ (by rw [← HNN.out]; exact hpos)
    have HB1 := hide (bt HB0.out hb1)
    have R2 := hide (dFrom_any w1 (some ⟨g, 0, none⟩) N cx l (N / 512) (hr1.bs' hlt) HNN.out (by rw [← HNN.out]; exact HN.out.1) HN.out.2.1 HN.out.2.2 hc1)
    clear hr1 hn1 hb1 R1
    go_wp2_with fail
    refine R2.out.mono ?_
    rintro e w2 ⟨p, bl, bn, rfl, h2, hb2⟩
    have HD2 : Hid (Dk _ w2 p (Sd.of l)) := ⟨_, _, _, _, h2⟩
    have HB2 := hide (bt HB1.out hb2)
    clear h2 hb2 R2
    go_wp2
    go_ret
    have hs1 := HB1.out.size
    refine ⟨_, p, rfl, HD2.out, fun k hk => ?_, HB2.out⟩
    have := ext_none hk; omega
set_option maxHeartbeats 2000000 in
theorem started_bad (w : World) (nb : Int) (a : Option Addr) (l : List Nat) (cap : Nat) (hB : Bs w a l) (hN : l.length + 64 ≤ 140737488355328) (hok : ¬ stOk nb l) :
    Calls Try.prog 22 #[.agg #[.int .i64 nb, .slice a l.length cap]] w fun e w' => e = .returned (.pointer none) ∧ Below w.heap.size w w' := by
  by_cases h0 : l = []
  · subst h0
    have hb : nb < 8 ∨ 65536 < nb := by unfold stOk at hok; rw [if_pos rfl] at hok; omega
    have HB0 := hide (al w (.cells #[.int .i64 nb, .slice a 0 cap] 37))
    have R1 := hide (dNew_bad (w.alloc (.cells #[.int .i64 nb, .slice a 0 cap] 37)) nb hb)
    clear hok hB hN hb
    go_enter Try.func22, Try.ntmps22
    go_wp2_with fail
    refine R1.out.mono ?_
    rintro e w1 ⟨rfl, e1⟩
    rw [e1]
    clear e1
    go_wp2
    go_ret
    exact ⟨rfl, HB0.out⟩
  · have hb : l.length % 512 ≠ 0 ∨ l.length / 512 < 8 ∨ 65536 < l.length / 512 := by unfold stOk at hok; rw [if_neg h0] at hok; omega
    have HB0 := hide (al w (.cells #[.int .i64 nb, .slice a l.length cap] 37))
    have R1 := hide (CopyBytes_any (w.alloc (.cells #[.int .i64 nb, .slice a l.length cap] 37)) a l.length cap l (hB.keep (al _ _)) rfl (by omega))
    have hmb : l.length ≤ 140737488355328 := by omega
    have hpos : 0 < l.length := List.length_pos_iff.2 h0
    have HH := hide hb
    clear hB hok hb h0 hN
    obtain ⟨N, hNN⟩ : ∃ N, N = l.length := ⟨_, rfl⟩
    rw [← hNN] at R1 hmb hpos HH HB0 ⊢
    clear hNN
    have hi0 : (0 : Int) < (N : Int) := by omega
    go_enter Try.func22, Try.ntmps22
    go_wp2_with fail
    refine R1.out.mono ?_
    rintro e w1 ⟨ax, cx, rfl, _, _, hb1⟩
    have HB1 := hide (bt HB0.out hb1)
    have R2 := hide (dFrom_bad w1 ax N cx (by omega) HH.out)
    clear hb1 R1
    go_wp2_with fail
    refine R2.out.mono ?_
    rintro e w2 ⟨rfl, e2⟩
    have e2 := e2.symm
    subst e2
    go_wp2
    go_ret
    exact ⟨rfl, HB1.out⟩
/-- a call of a script, on the program alone -/
def Sd.step (S : Sd) (o : Ov) : Sd := if o.k = 1 then S.write o.i o.B else if o.k = 2 then S.sync else if o.k = 3 then S.arm o.i else if o.k = 4 then S.off else if o.k = 5 then S.on o.K else if o.k = 10 then S.layd o.i o.B else S
def Sd.run (S : Sd) (L : List Ov) : Sd := L.foldl Sd.step S
theorem Sd.run_take (S : Sd) (L : List Ov) {j : Nat} (hj : j < L.length) : S.run (L.take (j + 1)) = (S.run (L.take j)).step (L.getD j Ov.zero) := by
  unfold Sd.run
  rw [List.take_succ_eq_append_getElem hj, List.foldl_append]
  simp [hj]
theorem Sd.room.write {S : Sd} {m : Nat} (h : S.room m) (i : Int) (b : List Nat) : (S.write i b).room (m + 1) := by
  have hm : S.room (m + 1) := ⟨by have := h.1; omega, by have := h.2.1; omega, by have := h.2.2; omega⟩
  unfold Sd.write
  split
  · exact hm
  · split
    · exact hm
    · split
      · exact hm
      · split
        · exact ⟨by rw [Sd.act_wr]; exact hm.1, by rw [Sd.act_sy]; exact hm.2.1, by rw [Sd.act_uns]; exact hm.2.2⟩
        · refine ⟨?_, ?_, ?_⟩
          · show S.act.wr + 1 ≤ m + 1
            rw [Sd.act_wr]; have := h.1; omega
          · show S.act.sy ≤ m + 1
            rw [Sd.act_sy]; exact hm.2.1
          · show (S.act.uns ++ [_]).length ≤ m + 1
            rw [Sd.act_uns, List.length_append, List.length_singleton]; have := h.2.2; omega
theorem Sd.room.sync {S : Sd} {m : Nat} (h : S.room m) : S.sync.room (m + 1) := by
  have hm : S.room (m + 1) := ⟨by have := h.1; omega, by have := h.2.1; omega, by have := h.2.2; omega⟩
  unfold Sd.sync
  split
  · exact hm
  · split
    · exact ⟨by rw [Sd.act_wr]; exact hm.1, by rw [Sd.act_sy]; exact hm.2.1, by rw [Sd.act_uns]; exact hm.2.2⟩
    · refine ⟨?_, ?_, Nat.zero_le _⟩
      · show S.act.wr ≤ m + 1
        rw [Sd.act_wr]; exact hm.1
      · show S.act.sy + 1 ≤ m + 1
        rw [Sd.act_sy]; have := h.2.1; omega
theorem Sd.room.arm {S : Sd} {m : Nat} (h : S.room m) (a : Int) : (S.arm a).room m := by
  unfold Sd.arm
  split
  · exact h
  · exact h
theorem Sd.room.off {S : Sd} {m : Nat} (h : S.room m) : S.off.room m := h
theorem Sd.room.on {S : Sd} {m : Nat} (h : S.room m) (K : List Bool) : (S.on K).room m := by
  unfold Sd.on
  split
  · exact h
  · exact ⟨h.1, h.2.1, Nat.zero_le _⟩
theorem Sd.room.layd {S : Sd} {m : Nat} (h : S.room m) (i : Int) (b : List Nat) : (S.layd i b).room m := by
  unfold Sd.layd
  split
  · exact h
  · exact h
theorem Sd.room.le {S : Sd} {m n : Nat} (h : S.room m) (hn : m ≤ n) : S.room n := ⟨Nat.le_trans h.1 hn, Nat.le_trans h.2.1 hn, Nat.le_trans h.2.2 hn⟩
theorem Sd.room.step {S : Sd} {m : Nat} (h : S.room m) (o : Ov) : (S.step o).room (m + 1) := by
  unfold Sd.step
  have hm := h.le (Nat.le_succ m)
  repeat' split
  · exact h.write _ _
  · exact h.sync
  · exact hm.arm _
  · exact hm.off
  · exact hm.on _
  · exact hm.layd _ _
  · exact hm
theorem Sd.room.run {S : Sd} {m : Nat} (h : S.room m) (L : List Ov) (j : Nat) (hj : j ≤ L.length) : (S.run (L.take j)).room (m + j) := by
  induction j with
  | zero => rw [List.take_zero]; exact h
  | succ j ih =>
    rw [Sd.run_take S L (by omega)]
    exact (ih (by omega)).step _
/-- a script's call -/
theorem Sp.at {w : World} {a : Option Addr} {L : List Ov} (h : Sp w a L) {j : Nat} (hj : j < L.length) : ∃ b o, a = some ⟨b, o, none⟩ ∧ w.rangeAt b (o + j * 4) (L.getD j Ov.zero).cs ∧ (L.getD j Ov.zero).good w := by
  rcases h.2.2 with rfl | ⟨b, o, e, hc⟩
  · simp at hj
  · refine ⟨b, o, e, hc j hj, h.1 _ ?_⟩
    rw [List.getD_eq_getElem?_getD, List.getElem?_eq_getElem hj]
    exact List.getElem_mem hj
theorem infoOp : (Try.prog.info? 54).map (·.size) = some 4 := by kernel_rfl
theorem cell_op (w : World) (o : Ov) (i : Nat) : (w.alloc (.cells #[.int .i64 o.k, .int .i64 o.i, .slice o.aB o.B.length o.cB, .slice o.aK o.K.length o.cK] 54)).cell? ⟨w.heap.size, i, none⟩ = o.cs[i]? := by
  rw [cell_of_row _ _ _ _ _ _ (heap_alloc_last w _)]
  simp [Ov.cs]
end Go.Proofs.Ytlflcdjaknnfaaa
