import Derived.Test.YtkhdbeambmfdfaaY3
import Derived.Deep.Slices
import Derived.SizedLaws
namespace Go.Proofs.Ytkhdbeambmfdfaa
open Go.ChangeShapes Go.WideShapes Go.ChangeAt Go.RowKit

theorem weightsAll_mem {H : Type} {P : Program} {e : TypeId} {d : DataW H} : ∀ {l : List (DataW H)}, d ∈ l → ∀ n ∈ d.weights P e, n ∈ DataW.weightsAll P e l
  | x :: r, hd, n, hn => by
    simp only [DataW.weightsAll, List.mem_append]
    rcases List.mem_cons.1 hd with rfl | hd
    · exact .inl hn
    · exact .inr (weightsAll_mem hd n hn)
theorem weights_elem {H : Type} {P : Program} {t e : TypeId} {d : DataW H} {el sp : List (DataW H)} (hu : P.underlying t = some (.slice e)) (hd : d ∈ el) (n : Nat) (hn : n ∈ d.weights P e) : n ∈ (DataW.slice el sp).weights P t := by
  simp only [DataW.weights, hu, List.mem_cons, List.mem_append]
  exact .inr (.inl (weightsAll_mem hd n hn))

theorem cellsOp : Try.prog.cellsOf 27 = 5 := by kernel_rfl
theorem cellsU32' : Try.prog.cellsOf 24 = 1 := by kernel_rfl
theorem cellsInt' : Try.prog.cellsOf 3 = 1 := by kernel_rfl
theorem cellsBytes' : Try.prog.cellsOf 25 = 1 := by kernel_rfl
theorem cellsU8' : Try.prog.cellsOf 5 = 1 := by kernel_rfl
theorem list5 {α : Type} {l : List α} (h : l.length = 5) : ∃ a b c d e, l = [a, b, c, d, e] := by
  match l, h with
  | [a, b, c, d, e], _ => exact ⟨a, b, c, d, e, rfl⟩
theorem trod_struct5 {H : Type} {enc : TypeId × Value → H} {P : Program} {w : World} {base : Nat} {spare : Nat → Bool} {held : Bool} {t : TypeId} {f0 f1 f2 f3 f4 : Field} {fuel : Nat} {cs : List Value} {x : DataW H × List MemPlace} (ht : P.underlying t = some (.struct #[f0, f1, f2, f3, f4])) (h : DataW.trod enc P w base spare held fuel t cs = some x) :
    ∃ y0 y1 y2 y3 y4 n, x.1 = .agg [y0.1, y1.1, y2.1, y3.1, y4.1] ∧ cs.length = P.cellsOf t ∧ DataW.trod enc P w base spare held n f0.type ((cs.drop f0.offset).take (P.cellsOf f0.type)) = some y0 ∧
      DataW.trod enc P w base spare held n f1.type ((cs.drop f1.offset).take (P.cellsOf f1.type)) = some y1 ∧ DataW.trod enc P w base spare held n f2.type ((cs.drop f2.offset).take (P.cellsOf f2.type)) = some y2 ∧
      DataW.trod enc P w base spare held n f3.type ((cs.drop f3.offset).take (P.cellsOf f3.type)) = some y3 ∧ DataW.trod enc P w base spare held n f4.type ((cs.drop f4.offset).take (P.cellsOf f4.type)) = some y4 := by
  obtain ⟨xs, n, _, rfl, hl, hlen, hf⟩ := DataW.trod_struct ht h
  match xs, hlen with
  | [y0, y1, y2, y3, y4], _ => exact ⟨y0, y1, y2, y3, y4, n, by simp, hl, by simpa using hf 0 f0 rfl, by simpa using hf 1 f1 rfl, by simpa using hf 2 f2 rfl, by simpa using hf 3 f3 rfl, by simpa using hf 4 f4 rfl⟩
theorem op_weights {H : Type} (y0 y1 y2 y3 : DataW H) (el sp : List (DataW H)) : (el.length + sp.length) * Try.prog.bytesOf 5 ∈ (DataW.agg [y0, y1, y2, y3, .slice el sp]).weights Try.prog 27 := by
  simp only [DataW.weights, Try.underlying27, List.map_cons, List.map_nil, DataW.weightsEach, Try.underlying25, List.mem_append, List.mem_cons]
  simp

theorem open_op {H : Type} {enc : TypeId × Value → H} {W : World} {fuel : Nat} {cs : List Value} {d : DataW H} {p : List MemPlace}
    (h : DataW.trod enc Try.prog W 0 (fun _ => true) true fuel 27 cs = some (d, p)) (hd : ∀ x ∈ d.weights Try.prog 27, x ≤ reachBytes) :
    ∃ (kind : Int) (s t : Nat) (n : Int) (a : Option Addr) (c : Nat) (l : List Nat), cs = [.int .i64 kind, .int .u32 s, .int .u32 t, .int .i64 n, .slice a l.length c] ∧ s < 4294967296 ∧ t < 4294967296 ∧ n ≤ 9223372036854775807 ∧ Bs W a l ∧ l.length + 40 ≤ 140737488355328 := by
  obtain ⟨y0, y1, y2, y3, y4, n, hx, hl, h0, h1, h2, h3, h4⟩ := trod_struct5 Try.underlying27 h
  obtain ⟨c0, c1, c2, c3, c4, rfl⟩ := list5 (hl.trans cellsOp)
  simp only [cellsU32', cellsInt', cellsBytes', List.drop_zero, List.drop_succ_cons, List.take_succ_cons, List.take_zero] at h0 h1 h2 h3 h4
  obtain ⟨k, e0, _, wk⟩ := DataW.trod_int Try.underlying3 h0
  obtain ⟨s, e1, _, ws⟩ := DataW.trod_int Try.underlying24 h1
  obtain ⟨t, e2, _, wt⟩ := DataW.trod_int Try.underlying24 h2
  obtain ⟨m, e3, _, wm⟩ := DataW.trod_int Try.underlying3 h3
  simp only [List.cons.injEq, and_true] at e0 e1 e2 e3
  subst e0 e1 e2 e3
  obtain ⟨s', hs, rfl⟩ := nat_u32 ws
  obtain ⟨t', ht, rfl⟩ := nat_u32 wt
  have hm := (le_i64 wm).2
  rcases open_ints Try.underlying25 Try.underlying5 cellsU8' h4 with ⟨hcs, _⟩ | ⟨a, len, cap, zs, hcs, _, hl', hm', hz, hy, hcell, hwz⟩
  · simp only [List.cons.injEq, and_true] at hcs
    subst hcs
    exact ⟨k, s', t', m, none, 0, [], rfl, hs, ht, hm, Bs.nil W, by decide⟩
  · simp only [List.cons.injEq, and_true] at hcs
    subst hcs
    simp only [if_true] at hz
    have hrow : IsRow .u8 W (some a) len cap zs := .inr ⟨a, rfl, hl', hm', hz, hcell, hwz⟩
    obtain ⟨l, hll, hB, _, _⟩ := isrow_bs hrow
    have hw := hd ((lits (H := H) .u8 (zs.take len)).length * 1 + (lits (H := H) .u8 (zs.drop len)).length * 1) (by
      rw [show d = _ from hx]
      have h := op_weights y0.1 y1.1 y2.1 y3.1 (lits (H := H) .u8 (zs.take len)) (lits (H := H) .u8 (zs.drop len))
      rw [bytesU8, Nat.add_mul] at h
      rw [hy]
      exact h)
    have h3' : (lits (H := H) .u8 (zs.take len)).length * 1 + (lits (H := H) .u8 (zs.drop len)).length * 1 = cap := by simp [lits]; omega
    rw [h3'] at hw
    unfold reachBytes at hw
    subst hll
    exact ⟨k, s', t', m, some a, cap, l, rfl, hs, ht, hm, hB, by omega⟩

set_option maxHeartbeats 1000000 in
theorem answers_nil (a : Option Addr) (cap : Nat) (w : World) :
    Calls Try.prog 3 #[.slice a 0 cap] w fun e w' => e = .returned (.bool true) ∧ Below w.heap.size w w' := by
  go_enter Try.func3, Try.ntmps3
  go_wp2_with fail
  refine (fixed_any _).mono ?_
  rintro e w1 ⟨rfl, hb1⟩
  go_wp2
  refine wp_loop_rounds 1 ?_
  rw [rounds_succ]
  go_wp2
  go_ret
  exact ⟨rfl, hb1⟩
end Go.Proofs.Ytkhdbeambmfdfaa
