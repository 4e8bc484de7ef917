import Derived.Test.YtceeeofkigkpkaaGreatEX
import Derived.Test.YtceeeofkigkpkaaGreatEW
import Derived.Test.YtceeeofkigkpkaaGreatET
namespace Go.Proofs.YtceeeofkigkpkaaGreat
set_option linter.unusedVariables false
open Go.RowKit

/-! ### steps -/
abbrev Ov := Int × Int × Int
def Ov.zero : Ov := (0, 0, 0)
def Ov.cs (t : Ov) : List Value := [.int .i64 t.1, .int .i64 t.2.1, .int .i64 t.2.2]
def Oq (w : World) (a : Option Addr) (T : List Ov) : Prop := T = [] ∨ ∃ b o, a = some ⟨b, o, none⟩ ∧ ∀ i, i < T.length → w.cell? ⟨b, o + i * 3, none⟩ = some (.int .i64 (T.getD i Ov.zero).1) ∧ w.cell? ⟨b, o + i * 3 + 1, none⟩ = some (.int .i64 (T.getD i Ov.zero).2.1) ∧ w.cell? ⟨b, o + i * 3 + 2, none⟩ = some (.int .i64 (T.getD i Ov.zero).2.2)
theorem Oq.keep {w w' : World} {a : Option Addr} {T : List Ov} (h : Oq w a T) (hb : Below w.heap.size w w') : Oq w' a T := h.imp id fun ⟨b, o, e, hc⟩ => ⟨b, o, e, fun i hi => ⟨(hb.cell (p := ⟨b, o + i * 3, none⟩) (block_lt_of_cell (hc i hi).1)).trans (hc i hi).1, (hb.cell (p := ⟨b, o + i * 3 + 1, none⟩) (block_lt_of_cell (hc i hi).2.1)).trans (hc i hi).2.1, (hb.cell (p := ⟨b, o + i * 3 + 2, none⟩) (block_lt_of_cell (hc i hi).2.2)).trans (hc i hi).2.2⟩⟩
theorem Oq.at {w : World} {a : Option Addr} {T : List Ov} (h : Oq w a T) {i : Nat} (hi : i < T.length) : ∃ b o, a = some ⟨b, o, none⟩ ∧ w.cell? ⟨b, o + i * 3, none⟩ = some (.int .i64 (T.getD i Ov.zero).1) ∧ w.cell? ⟨b, o + i * 3 + 1, none⟩ = some (.int .i64 (T.getD i Ov.zero).2.1) ∧ w.cell? ⟨b, o + i * 3 + 2, none⟩ = some (.int .i64 (T.getD i Ov.zero).2.2) := by
  rcases h with h | ⟨b, o, e, hc⟩
  · subst h; simp at hi
  · exact ⟨b, o, e, hc i hi⟩
def Po.step (P : Po) (o : Ov) : Po := if o.1 = 0 then P.alloc.2 else if o.1 = 1 then (P.inc o.2.1).2 else if o.1 = 2 then (P.dec o.2.1).2 else if o.1 = 10 then P.settle else P
def Po.play (P : Po) (T : List Ov) : Po := T.foldl Po.step P
theorem Po.play_snoc {P : Po} {T : List Ov} {i : Nat} (h : i < T.length) : P.play (T.take (i + 1)) = (P.play (T.take i)).step (T.getD i Ov.zero) := by
  unfold Po.play
  rw [take_next T Ov.zero h, List.foldl_append]; rfl
theorem Po.ac_mark (P : Po) : P.ac.length ≤ P.mark := Nat.le_add_left _ _
theorem Po.act_mark (P : Po) (n : Nat) (c : Int) : (P.act n c).mark = P.mark + 1 := by
  show P.fl + (P.ac ++ [_]).length = P.fl + P.ac.length + 1
  rw [List.length_append]; rfl
theorem Po.step_mark (P : Po) (o : Ov) : (P.step o).mark ≤ P.mark + 1 := by
  unfold Po.step
  split
  · unfold Po.alloc
    split
    · exact Nat.le_succ _
    · exact Nat.le_of_eq (Po.act_mark _ _ _)
  split
  · unfold Po.inc
    split
    · exact Nat.le_succ _
    · split
      · exact Nat.le_succ _
      · exact Nat.le_of_eq (Po.act_mark _ _ _)
  split
  · unfold Po.dec
    split
    · exact Nat.le_succ _
    · exact Nat.le_of_eq (Po.act_mark _ _ _)
  split
  · exact Nat.le_succ _
  · exact Nat.le_succ _
theorem Po.play_mark (P : Po) (T : List Ov) : (P.play T).mark ≤ P.mark + T.length := by
  unfold Po.play
  induction T generalizing P with
  | nil => exact Nat.le_refl _
  | cons o T ih =>
    have := ih (P.step o)
    have := P.step_mark o
    rw [List.foldl_cons, List.length_cons]
    omega
theorem start_mark (r : Int) (C : List Int) : (Po.start r C).mark = 0 := rfl
end Go.Proofs.YtceeeofkigkpkaaGreat
