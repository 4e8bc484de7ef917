import Derived.Test.YtceeeofkigkpkaaGreatEM
import Derived.Test.YtceeeofkigkpkaaGreatEJ
namespace Go.Proofs.YtceeeofkigkpkaaGreat
set_option linter.unusedVariables false
open Go.RowKit

/-! ### calls whose answers the document prints -/
def Q0 : Po := Po.start 2 [0, 0, 0]
theorem State_pl (w : World) (b : Nat) (P : Po) (col : Nat → Nat) (h : Pl w b P col) (z : Int) : Calls Tryz.prog 14 #[.pointer (some ⟨b, 0, none⟩), .int .i64 z] w fun e w' => e = .returned (.int .i64 ((P.state z : Nat) : Int)) ∧ Below w.heap.size w w' := by
  obtain ⟨D, h⟩ := h
  exact State_any w b P D col h.q h.ok.l2 z
theorem Count_pl (w : World) (b : Nat) (P : Po) (col : Nat → Nat) (h : Pl w b P col) (z : Int) : Calls Tryz.prog 23 #[.pointer (some ⟨b, 0, none⟩), .int .i64 z] w fun e w' => e = .returned (.int .i64 (P.count z)) ∧ w' = w := by
  obtain ⟨D, h⟩ := h
  exact Count_any w b P D col h.q h.ok.l2 z
theorem Mark_pl (w : World) (b : Nat) (P : Po) (col : Nat → Nat) (h : Pl w b P col) (hm : P.mark ≤ 9223372036854775807) : Calls Tryz.prog 27 #[.pointer (some ⟨b, 0, none⟩)] w fun e w' => e = .returned (.int .i64 ((P.mark : Nat) : Int)) ∧ Below w.heap.size w w' := by
  obtain ⟨D, h⟩ := h
  exact Mark_any w b P D col h.q hm
theorem Len_pl (w : World) (b : Nat) (P : Po) (col : Nat → Nat) (h : Pl w b P col) : Calls Tryz.prog 29 #[.pointer (some ⟨b, 0, none⟩)] w fun e w' => e = .returned (.int .i64 ((P.pg.length : Nat) : Int)) ∧ w' = w := by
  obtain ⟨D, h⟩ := h
  exact PLen_any w b P D col h.q
theorem Refs_pl (w : World) (b : Nat) (P : Po) (col : Nat → Nat) (h : Pl w b P col) : Calls Tryz.prog 30 #[.pointer (some ⟨b, 0, none⟩)] w fun e w' => e = .returned (.int .i64 P.rf) ∧ w' = w := by
  obtain ⟨D, h⟩ := h
  exact PRefs_any w b P D col h.q
/-- a pool whose memory is all new since w -/
structure Np (w w' : World) (b : Nat) (P : Po) (col : Nat → Nat) : Prop where
  p : Pl w' b P col
  b : Below w.heap.size w w'
  n : ∀ k, col k ≠ 0 → w.heap.size ≤ k
theorem Np.step {w w1 w2 : World} {b : Nat} {P P' : Po} {col col' : Nat → Nat} (h : Np w w1 b P col) (hp : Pl w2 b P' col') (hf : Fr w1 col w2 col') : Np w w2 b P' col' :=
  ⟨hp, ((But.ofBelow (S := fun _ => False) h.b).trans hf.b (fun k hk hc => by have := h.n k hc; omega)).below (fun _ _ h => h), fun k hk => by
    by_cases e : k < w1.heap.size
    · rw [hf.c k e] at hk; exact h.n k hk
    · have := h.b.size; omega⟩
theorem Np.keep {w w1 w2 : World} {b : Nat} {P : Po} {col : Nat → Nat} (h : Np w w1 b P col) (hb : Below w1.heap.size w1 w2) : Np w w2 b P col := ⟨h.p.keep hb, bt h.b hb, h.n⟩
set_option maxHeartbeats 4000000 in
theorem fixed_any (w : World) : Calls Tryz.prog 4 #[] w fun e w' => e = .returned (.bool true) ∧ Below w.heap.size w w' := by
  have N := hide (New_yes w 3 2 (by decide))
  have A1 := hide fun (W : World) (b : Nat) (col : Nat → Nat) (h : Pl W b Q0 col) => Alloc_any W b Q0 col h (by decide)
  have A2 := hide fun (W : World) (b : Nat) (col : Nat → Nat) (h : Pl W b Q0.alloc.2 col) => Alloc_any W b Q0.alloc.2 col h (by decide)
  have S2 := hide fun (W : World) (b : Nat) (col : Nat → Nat) (h : Pl W b Q0.alloc.2.alloc.2 col) => State_pl W b _ col h 2
  have S3 := hide fun (W : World) (b : Nat) (col : Nat → Nat) (h : Pl W b Q0.alloc.2.alloc.2 col) => State_pl W b _ col h 3
  have U1 := hide fun (W : World) (b : Nat) (col : Nat → Nat) (h : Pl W b Q0.alloc.2.alloc.2 col) => Undo_any W b _ col h 1 (by decide)
  have S4 := hide fun (W : World) (b : Nat) (col : Nat → Nat) (h : Pl W b (Q0.alloc.2.alloc.2.undo 1) col) => State_pl W b _ col h 2
  have I5 := hide fun (W : World) (b : Nat) (col : Nat → Nat) (h : Pl W b (Q0.alloc.2.alloc.2.undo 1) col) => Inc_any W b _ col h 2 (by decide)
  rw [show Q0.alloc.1.1 = 1 from rfl, show Q0.alloc.1.2 = 0 from rfl] at A1
  rw [show Q0.alloc.2.alloc.1.1 = 2 from rfl, show Q0.alloc.2.alloc.1.2 = 0 from rfl] at A2
  rw [show Q0.alloc.2.alloc.2.state 2 = 3 from rfl] at S2
  rw [show Q0.alloc.2.alloc.2.state 3 = 1 from rfl] at S3
  rw [show Q0.alloc.2.alloc.2.canUndo 1 = true from rfl] at U1
  rw [show (Q0.alloc.2.alloc.2.undo 1).state 2 = 1 from rfl] at S4
  rw [show ((Q0.alloc.2.alloc.2.undo 1).inc 2).1 = 15 from rfl] at I5
  rw [show Po.start 2 (List.replicate (3 : Int).toNat 0) = Q0 from rfl] at N
  generalize Q0.alloc.2.alloc.2.undo 1 = P3 at *
  generalize Q0.alloc.2.alloc.2 = P2 at *
  generalize Q0.alloc.2 = P1 at *
  generalize Q0 = P0 at *
  go_enter Tryz.func4, Tryz.ntmps4
  go_wp2_with fail
  refine N.out.mono ?_
  rintro _ w1 ⟨b, rfl, col, h1, h2, h3⟩
  have H := hide (show Np w w1 b P0 col from ⟨h1, h2, h3⟩)
  clear h1 h2 h3 N
  go_wp2_with fail
  refine (A1.out _ _ _ H.out.p).mono ?_
  rintro _ w2 ⟨rfl, col2, h1, h2⟩
  have H := hide (H.out.step h1 h2)
  clear h1 h2 A1
  go_wp2_with fail
  refine (A2.out _ _ _ H.out.p).mono ?_
  rintro _ w3 ⟨rfl, col3, h1, h2⟩
  have H := hide (H.out.step h1 h2)
  clear h1 h2 A2
  go_wp2_with fail
  refine (S2.out _ _ _ H.out.p).mono ?_
  rintro _ w4 ⟨rfl, h1⟩
  have H := hide (H.out.keep h1)
  clear h1 S2
  go_wp2_with fail
  refine (S3.out _ _ _ H.out.p).mono ?_
  rintro _ w5 ⟨rfl, h1⟩
  have H := hide (H.out.keep h1)
  clear h1 S3
  go_wp2_with fail
  refine (U1.out _ _ _ H.out.p).mono ?_
  rintro _ w6 ⟨rfl, col6, h1, h2⟩
  have H := hide (H.out.step h1 h2)
  clear h1 h2 U1
  go_wp2_with fail
  refine (S4.out _ _ _ H.out.p).mono ?_
  rintro _ w7 ⟨rfl, h1⟩
  have H := hide (H.out.keep h1)
  clear h1 S4
  go_wp2_with fail
  refine (I5.out _ _ _ H.out.p).mono ?_
  rintro _ w8 ⟨rfl, col8, h1, h2⟩
  have H := hide (H.out.step h1 h2)
  clear h1 h2 I5
  go_wp2
  go_ret
  exact ⟨rfl, H.out.b⟩
end Go.Proofs.YtceeeofkigkpkaaGreat
