import Derived.Test.YtceeeofkigkpkaaEX
import Derived.Test.YtceeeofkigkpkaaEW
import Derived.Test.YtceeeofkigkpkaaET
namespace Go.Proofs.Ytceeeofkigkpkaa
set_option linter.unusedVariables false
open Go.RowKit

/-! ### steps -/
abbrev Ov := Int × Int × Int
def Ov.zero : Ov := (0, 0, 0)
def Ov.cs (t : Ov) : List Value := [.int .i64 t.1, .int .i64 t.2.1, .int .i64 t.2.2]
def Oq (w : World) (a : Option Addr) (T : List Ov) : Prop := T = [] ∨ ∃ b o, a = some ⟨b, o, none⟩ ∧ ∀ i, i < T.length → w.cell? ⟨b, o + i * 3, none⟩ = some (.int .i64 (T.getD i Ov.zero).1) ∧ w.cell? ⟨b, o + i * 3 + 1, none⟩ = some (.int .i64 (T.getD i Ov.zero).2.1) ∧ w.cell? ⟨b, o + i * 3 + 2, none⟩ = some (.int .i64 (T.getD i Ov.zero).2.2)
theorem Oq.keep {w w' : World} {a : Option Addr} {T : List Ov} (h : Oq w a T) (hb : Below w.heap.size w w') : Oq w' a T := h.imp id fun ⟨b, o, e, hc⟩ => ⟨b, o, e, fun i hi => ⟨(hb.cell (p := ⟨b, o + i * 3, none⟩) (block_lt_of_cell (hc i hi).1)).trans (hc i hi).1, (hb.cell (p := ⟨b, o + i * 3 + 1, none⟩) (block_lt_of_cell (hc i hi).2.1)).trans (hc i hi).2.1, (hb.cell (p := ⟨b, o + i * 3 + 2, none⟩) (block_lt_of_cell (hc i hi).2.2)).trans (hc i hi).2.2⟩⟩
theorem Oq.at {w : World} {a : Option Addr} {T : List Ov} (h : Oq w a T) {i : Nat} (hi : i < T.length) : ∃ b o, a = some ⟨b, o, none⟩ ∧ w.cell? ⟨b, o + i * 3, none⟩ = some (.int .i64 (T.getD i Ov.zero).1) ∧ w.cell? ⟨b, o + i * 3 + 1, none⟩ = some (.int .i64 (T.getD i Ov.zero).2.1) ∧ w.cell? ⟨b, o + i * 3 + 2, none⟩ = some (.int .i64 (T.getD i Ov.zero).2.2) := by
  rcases h with h | ⟨b, o, e, hc⟩
  · subst h; simp at hi
  · exact ⟨b, o, e, hc i hi⟩
def Po.step (P : Po) (o : Ov) : Po := if o.1 = 0 then P.alloc.2 else if o.1 = 1 then (P.inc o.2.1).2 else if o.1 = 2 then (P.dec o.2.1).2 else if o.1 = 10 then P.settle else P
def Po.play (P : Po) (T : List Ov) : Po := T.foldl Po.step P
theorem Po.play_snoc {P : Po} {T : List Ov} {i : Nat} (h : i < T.length) : P.play (T.take (i + 1)) = (P.play (T.take i)).step (T.getD i Ov.zero) := by
  unfold Po.play
  rw [take_next T Ov.zero h, List.foldl_append]; rfl
theorem Po.ac_mark (P : Po) : P.ac.length ≤ P.mark := Nat.le_add_left _ _
theorem Po.act_mark (P : Po) (n : Nat) (c : Int) : (P.act n c).mark = P.mark + 1 := by
  show P.fl + (P.ac ++ [_]).length = P.fl + P.ac.length + 1
  rw [List.length_append]; rfl
theorem Po.step_mark (P : Po) (o : Ov) : (P.step o).mark ≤ P.mark + 1 := by
  unfold Po.step
  split
  · unfold Po.alloc
    split
    · exact Nat.le_succ _
    · exact Nat.le_of_eq (Po.act_mark _ _ _)
  split
  · unfold Po.inc
    split
    · exact Nat.le_succ _
    · split
      · exact Nat.le_succ _
      · exact Nat.le_of_eq (Po.act_mark _ _ _)
  split
  · unfold Po.dec
    split
    · exact Nat.le_succ _
    · exact Nat.le_of_eq (Po.act_mark _ _ _)
  split
  · exact Nat.le_succ _
  · exact Nat.le_succ _
theorem Po.play_mark (P : Po) (T : List Ov) : (P.play T).mark ≤ P.mark + T.length := by
  unfold Po.play
  induction T generalizing P with
  | nil => exact Nat.le_refl _
  | cons o T ih =>
    have := ih (P.step o)
    have := P.step_mark o
    rw [List.foldl_cons, List.length_cons]
    omega
theorem start_mark (r : Int) (C : List Int) : (Po.start r C).mark = 0 := rfl
set_option maxHeartbeats 4000000 in
theorem acted_any (w : World) (b : Nat) (P : Po) (col : Nat → Nat) (h : Pl w b P col) (o : Ov) (hm : P.mark + 1 ≤ 17592186044416) :
    Calls Try.prog 6 #[.pointer (some ⟨b, 0, none⟩), .agg #[.int .i64 o.1, .int .i64 o.2.1, .int .i64 o.2.2]] w fun e w' => e = .returned (.tuple #[]) ∧ ∃ col', Pl w' b (P.step o) col' ∧ Fr w col w' col' := by
  obtain ⟨k, n, st⟩ := o
  simp only
  have ha := P.ac_mark
  have aw := al w (.cells #[.int .i64 k, .int .i64 n, .int .i64 st] 33)
  have bx := World.alloc_heap_new w (.cells #[.int .i64 k, .int .i64 n, .int .i64 st] 33)
  have x0 := cell_of_row _ _ 0 _ _ _ bx
  have x1 := cell_of_row _ _ 1 _ _ _ bx
  have hp := h.keep aw
  have A0 := hide (Alloc_any _ b P col hp (by omega))
  have A1 := hide (Inc_any _ b P col hp n (by omega))
  have A2 := hide (Dec_any _ b P col hp n (by omega))
  have A3 := hide (Settle_any _ b P col hp (by omega))
  have HP := hide hp
  have AW := hide aw
  clear h hp aw bx ha hm
  by_cases h0 : k = 0
  · subst h0
    rw [show P.step (0, n, st) = P.alloc.2 from rfl]
    go_enter Try.func6, Try.ntmps6
    go_wp2_with fail
    refine A0.out.mono ?_
    rintro _ w1 ⟨rfl, c1, h1, f1⟩
    have H1 := hide h1
    have F1 := hide ((Fr.keep AW.out).trans f1)
    clear h1 f1
    go_wp2
    go_end0
    exact ⟨rfl, c1, H1.out, F1.out⟩
  · have q0 : (k == 0) = false := by simp [h0]
    by_cases h1 : k = 1
    · subst h1
      rw [show P.step (1, n, st) = (P.inc n).2 from rfl]
      go_enter Try.func6, Try.ntmps6
      go_wp2_with fail
      refine A1.out.mono ?_
      rintro _ w1 ⟨rfl, c1, h1, f1⟩
      have H1 := hide h1
      have F1 := hide ((Fr.keep AW.out).trans f1)
      clear h1 f1
      go_wp2
      go_end0
      exact ⟨rfl, c1, H1.out, F1.out⟩
    · have q1 : (k == 1) = false := by simp [h1]
      by_cases h2 : k = 2
      · subst h2
        rw [show P.step (2, n, st) = (P.dec n).2 from rfl]
        go_enter Try.func6, Try.ntmps6
        go_wp2_with fail
        refine A2.out.mono ?_
        rintro _ w1 ⟨rfl, c1, h1, f1⟩
        have H1 := hide h1
        have F1 := hide ((Fr.keep AW.out).trans f1)
        clear h1 f1
        go_wp2
        go_end0
        exact ⟨rfl, c1, H1.out, F1.out⟩
      · have q2 : (k == 2) = false := by simp [h2]
        by_cases h3 : k = 10
        · subst h3
          rw [show P.step (10, n, st) = P.settle from rfl]
          go_enter Try.func6, Try.ntmps6
          go_wp2_with fail
          refine A3.out.mono ?_
          rintro _ w1 ⟨rfl, c1, h1, f1⟩
          have H1 := hide h1
          have F1 := hide ((Fr.keep AW.out).trans f1)
          clear h1 f1
          go_wp2
          go_end0
          exact ⟨rfl, c1, H1.out, F1.out⟩
        · have q3 : (k == 10) = false := by simp [h3]
          have e : P.step (k, n, st) = P := by unfold Po.step; rw [if_neg h0, if_neg h1, if_neg h2, if_neg h3]
          rw [e]
          clear A0 A1 A2 A3 e
          go_enter Try.func6, Try.ntmps6
          go_wp2
          go_end0
          exact ⟨rfl, col, HP.out, Fr.keep AW.out⟩
end Go.Proofs.Ytceeeofkigkpkaa
