import Derived.Test.YtceeeofkigkpkaaGreatUC
import Derived.Test.YtceeeofkigkpkaaGreatUB
import Derived.Deep.MidRow
import Derived.Laws.CopyRow
import Derived.Laws.IdiomCopy
import Derived.Lib.SliceRun
namespace Go.Proofs.YtceeeofkigkpkaaGreat
open Go.RowKit

/-! ### runs in memory -/
/-- a number of the kind -/
def Nm (x : Int) : Prop := (-9223372036854775808) ≤ x ∧ x ≤ 9223372036854775807
def rcs (r : Rn) : Array Value := #[.int .i64 r.1, .int .i64 r.2]
def Rn.zero : Rn := (0, 0)
theorem infoRun : (Tryz.prog.info? 92).map (fun i => (i.zero, i.size, i.bytes)) = some (some (.agg (rcs Rn.zero)), 2, 16) := by kernel_rfl
theorem rcs_one (r : Rn) : ∀ u ∈ (rcs r).toList, u.oneCell' = true := by
  intro u hu
  simp [rcs] at hu
  rcases hu with rfl | rfl <;> rfl
def rc (L : List Rn) : List Value := (L.map fun r => (rcs r).toList).flatten
theorem rc_nil : rc [] = [] := rfl
theorem rc_cons (r : Rn) (L : List Rn) : rc (r :: L) = .int .i64 r.1 :: .int .i64 r.2 :: rc L := by simp [rc, rcs]
theorem rc_append (L M : List Rn) : rc (L ++ M) = rc L ++ rc M := by simp [rc]
theorem rc_length (L : List Rn) : (rc L).length = L.length * 2 := by
  induction L with
  | nil => rfl
  | cons r L ih => rw [rc_cons, List.length_cons, List.length_cons, ih, List.length_cons]; omega
theorem rc_one (L : List Rn) : ∀ u ∈ rc L, u.oneCell' = true := by
  intro u hu
  obtain ⟨l, hl, h⟩ := List.mem_flatten.1 hu
  obtain ⟨r, _, rfl⟩ := List.mem_map.1 hl
  exact rcs_one r u h
theorem rc_get (L : List Rn) : ∀ (i : Nat), i < L.length → (rc L)[i * 2]? = some (.int .i64 (L.getD i Rn.zero).1) ∧ (rc L)[i * 2 + 1]? = some (.int .i64 (L.getD i Rn.zero).2) := by
  induction L with
  | nil => intro i hi; simp at hi
  | cons r L ih =>
    intro i hi
    rw [rc_cons]
    cases i with
    | zero => exact ⟨rfl, rfl⟩
    | succ i =>
      have h := ih i (by simpa using hi)
      rw [show (i + 1) * 2 = i * 2 + 1 + 1 by omega, List.getElem?_cons_succ, List.getElem?_cons_succ, show i * 2 + 1 + 1 + 1 = i * 2 + 1 + 1 + 1 by rfl, List.getElem?_cons_succ, List.getElem?_cons_succ]
      exact h

/-- cells that can be read -/
def Cs (w : World) (b o : Nat) (C : List Value) : Prop := ∀ j u, C[j]? = some u → w.cell? ⟨b, o + j, none⟩ = some u
theorem Cs.keep {w w' : World} {b o : Nat} {C : List Value} (h : Cs w b o C) (hb : Below w.heap.size w w') : Cs w' b o C := fun j u hu => (hb.cell (p := ⟨b, o + j, none⟩) (block_lt_of_cell (h j u hu))).trans (h j u hu)
theorem Cs.but {S : Nat → Prop} {w w' : World} {b o : Nat} {C : List Value} (h : Cs w b o C) (hb : But S w w') (hn : ¬ S b) : Cs w' b o C := fun j u hu => (hb.cell (p := ⟨b, o + j, none⟩) (block_lt_of_cell (h j u hu)) hn).trans (h j u hu)
/-- runs that can be read -/
def Vs (w : World) (a : Option Addr) (L : List Rn) : Prop := L = [] ∨ ∃ b o, a = some ⟨b, o, none⟩ ∧ Cs w b o (rc L)
theorem Vs.keep {w w' : World} {a : Option Addr} {L : List Rn} (h : Vs w a L) (hb : Below w.heap.size w w') : Vs w' a L := h.imp id fun ⟨b, o, e, hc⟩ => ⟨b, o, e, hc.keep hb⟩
theorem Vs.but {S : Nat → Prop} {w w' : World} {a : Option Addr} {L : List Rn} (h : Vs w a L) (hb : But S w w') (hn : ∀ x, a = some x → ¬ S x.block) : Vs w' a L := h.imp id fun ⟨b, o, e, hc⟩ => ⟨b, o, e, hc.but hb (hn _ e)⟩
theorem Vs.nil (w : World) (a : Option Addr) : Vs w a [] := .inl rfl
theorem Vs.at {w : World} {a : Option Addr} {L : List Rn} (h : Vs w a L) {i : Nat} (hi : i < L.length) : ∃ b o, a = some ⟨b, o, none⟩ ∧ w.cell? ⟨b, o + i * 2, none⟩ = some (.int .i64 (L.getD i Rn.zero).1) ∧ w.cell? ⟨b, o + i * 2 + 1, none⟩ = some (.int .i64 (L.getD i Rn.zero).2) := by
  rcases h with rfl | ⟨b, o, e, hc⟩
  · simp at hi
  · obtain ⟨h1, h2⟩ := rc_get L i hi
    exact ⟨b, o, e, hc _ _ h1, hc _ _ h2⟩
/-- a block of runs -/
def Rowb (w : World) (g : Nat) (C : List Value) : Prop := w.heap[g]? = some (.cells C.toArray 92 (0, 0))
theorem Rowb.but {S : Nat → Prop} {w w' : World} {g : Nat} {C : List Value} (h : Rowb w g C) (hb : But S w w') (hn : ¬ S g) : Rowb w' g C := hb.same h hn
theorem Rowb.keep {w w' : World} {g : Nat} {C : List Value} (h : Rowb w g C) (hb : Below w.heap.size w w') : Rowb w' g C := (hb.block g (Array.getElem?_eq_some_iff.1 h).1).trans h
theorem Rowb.lt {w : World} {g : Nat} {C : List Value} (h : Rowb w g C) : g < w.heap.size := (Array.getElem?_eq_some_iff.1 h).1
theorem Rowb.cs {w : World} {g : Nat} {C : List Value} (h : Rowb w g C) {P X Y : List Value} (e : C = P ++ X ++ Y) : Cs w g P.length X := by
  intro j u hu
  rw [cell_of_row _ _ _ _ _ _ h, e]
  have hj := (List.getElem?_eq_some_iff.1 hu).1
  simp only [List.getElem?_toArray]
  rw [List.append_assoc, List.getElem?_append_right (by omega), Nat.add_sub_cancel_left, List.getElem?_append_left hj]
  exact hu
/-- runs in a block of their own, or nil -/
def Vw (w : World) (a : Option Addr) (cap : Nat) (L : List Rn) : Prop := w.ownsRow 0 92 2 (.slice a L.length cap) L.length (rc L)
theorem Vw.nil (w : World) : Vw w none 0 [] := World.ownsRow_nil w 0 92 2
theorem Vw.cases {w : World} {a : Option Addr} {cap : Nat} {L : List Rn} (h : Vw w a cap L) : (a = none ∧ cap = 0 ∧ L = []) ∨
    ∃ g Y, a = some ⟨g, 0, none⟩ ∧ Rowb w g (rc L ++ Y) ∧ L.length ≤ cap ∧ cap ≤ maxLen ∧ L.length * 2 + Y.length = cap * 2 := by
  obtain ⟨_, h2⟩ := h
  rcases h2 with ⟨hv, h0⟩ | ⟨g, cap', cur, hv, _, hg, hn, hm, hs, ht⟩
  · simp only [Value.slice.injEq] at hv
    exact .inl ⟨hv.1, hv.2.2, List.length_eq_zero_iff.1 h0⟩
  · simp only [Value.slice.injEq] at hv
    obtain ⟨h1, _, rfl⟩ := hv
    refine .inr ⟨g, cur.toList.drop (L.length * 2), h1, ?_, hn, hm, ?_⟩
    · unfold Rowb
      rw [← ht, List.take_append_drop, Array.toArray_toList]
      exact hg
    · have hl := Array.length_toList (xs := cur)
      rw [List.length_drop]
      omega
theorem Vw.mk {w : World} {g cap : Nat} {L : List Rn} {Y : List Value} (hg : Rowb w g (rc L ++ Y)) (hn : L.length ≤ cap) (hm : cap ≤ maxLen) (hs : L.length * 2 + Y.length = cap * 2) : Vw w (some ⟨g, 0, none⟩) cap L :=
  ⟨rc_length L, .inr ⟨g, cap, (rc L ++ Y).toArray, rfl, Nat.zero_le _, hg, hn, hm, by simp [rc_length]; omega, by rw [List.toList_toArray, List.take_left' (rc_length L)]⟩⟩
theorem Vw.lt {w : World} {a : Option Addr} {cap : Nat} {L : List Rn} (h : Vw w a cap L) {x : Addr} (hx : a = some x) : x.block < w.heap.size := by
  rcases h.cases with ⟨rfl, _⟩ | ⟨g, Y, rfl, hg, _⟩
  · cases hx
  · cases hx; exact hg.lt
theorem Vw.but {S : Nat → Prop} {w w' : World} {a : Option Addr} {cap : Nat} {L : List Rn} (h : Vw w a cap L) (hb : But S w w') (hn : ∀ x, a = some x → ¬ S x.block) : Vw w' a cap L := by
  rcases h.cases with ⟨rfl, rfl, rfl⟩ | ⟨g, Y, rfl, hg, h1, h2, h3⟩
  · exact Vw.nil w'
  · exact Vw.mk (hg.but hb (hn _ rfl)) h1 h2 h3
theorem Vw.keep {w w' : World} {a : Option Addr} {cap : Nat} {L : List Rn} (h : Vw w a cap L) (hb : Below w.heap.size w w') : Vw w' a cap L :=
  h.but (S := fun _ => False) (But.ofBelow hb) (fun _ _ hf => hf)
theorem Vw.vs {w : World} {a : Option Addr} {cap : Nat} {L : List Rn} (h : Vw w a cap L) : Vs w a L := by
  rcases h.cases with ⟨rfl, rfl, rfl⟩ | ⟨g, Y, rfl, hg, h1, h2, h3⟩
  · exact .inl rfl
  · exact .inr ⟨g, 0, rfl, hg.cs (P := []) (X := rc L) (Y := Y) (by simp)⟩
theorem Vw.len {w : World} {a : Option Addr} {cap : Nat} {L : List Rn} (h : Vw w a cap L) : L.length ≤ cap ∧ cap ≤ maxLen := by
  rcases h.cases with ⟨rfl, rfl, rfl⟩ | ⟨g, Y, rfl, hg, h1, h2, h3⟩
  · exact ⟨Nat.le_refl _, Nat.zero_le _⟩
  · exact ⟨h1, h2⟩

/-! ### copy, clear -/
theorem infoSz : (Tryz.prog.info? 92).map (·.size) = some 2 := by kernel_rfl
theorem setRow_but (w : World) (g : Nat) (cur : Array Value) : But (fun k => k = g) w (w.setRow g cur) := by
  refine ⟨rfl, rfl, rfl, ?_, fun k _ hn => ?_⟩
  · simp [World.setRow]
  · simp only [World.setRow]
    rw [Array.getElem?_modify, if_neg (fun e => hn e.symm)]
theorem run_copyR (w : World) (ty : TypeId) (g dLen dCap : Nat) (sa : Option Addr) (sLen sCap : Nat) (P X Y : List Value) (hg : Rowb w g (P ++ Y)) (hn : X.length = Nat.min sLen dLen * 2) (hX : X = [] ∨ ∃ b o, sa = some ⟨b, o, none⟩ ∧ Cs w b o X) (hfit : X.length ≤ Y.length) (h1 : ∀ v ∈ X, v.oneCell' = true) :
    ∃ w', (Builtin.copy_ #[88, 88] ty #[.slice (some ⟨g, P.length, none⟩) dLen dCap, .slice sa sLen sCap]).run Tryz.prog w = .ok (goInt (Nat.min sLen dLen)) w' ∧ Rowb w' g (P ++ X ++ Y.drop X.length) ∧ But (fun k => k = g) w w' := by
  have hst := run_storeCells_at Tryz.prog g P.length 92 X 0 (P ++ Y).toArray w hg (by simp; omega) h1
  have e1 : ((P ++ Y).toArray.toList.take (P.length + 0) ++ X ++ (P ++ Y).toArray.toList.drop (P.length + 0 + X.length)) = P ++ X ++ Y.drop X.length := by
    rw [List.toList_toArray, Nat.add_zero, List.take_left' rfl, List.drop_append, List.drop_eq_nil_of_le (by omega), Nat.add_sub_cancel_left]
    simp
  rw [e1] at hst
  refine ⟨_, ?_, setRow_heap w g _ _ _ _ hg, setRow_but w g _⟩
  cases hq : Tryz.prog.info? 92 with
  | none => have := infoSz; simp [hq] at this
  | some i =>
    have hi : i.size = 2 := by have := infoSz; simpa [hq] using this
    have hl : (Builtin.firstCells 2 (Nat.min sLen dLen) (.slice sa sLen sCap)).run Tryz.prog w = .ok X.toArray w := by
      rcases hX with rfl | ⟨b, o, rfl, hc⟩
      · have h0 : Nat.min sLen dLen = 0 := by simp at hn; omega
        cases sa with
        | none => rfl
        | some z => simp [Builtin.firstCells, h0, loadCells, loadCellsFrom]
      · have := run_loadCells_list (P := Tryz.prog) w ⟨b, o, none⟩ X (fun j v hv => by rw [Addr.add_mid]; exact hc j v hv)
        show (loadCells ⟨b, o, none⟩ (Nat.min sLen dLen * 2)).run Tryz.prog w = _
        rw [← hn]
        exact this
    simp [Builtin.copy_, run_underlying Tryz.underlying88, Builtin.lenOf, sizeOf, typeInfo, hq, hi, hl, hst]
theorem zrun : ∀ w, (zeroValue 92).run Tryz.prog w = .ok (.agg (rcs Rn.zero)) w := Tryz.zeroValue92
theorem zeroCells_run (n : Nat) : (Builtin.zeroCells (rcs Rn.zero) n).toList = rc (List.replicate n Rn.zero) := by
  apply List.ext_getElem?
  intro i
  have hs : (rcs Rn.zero).size = 2 := rfl
  simp only [Builtin.zeroCells, Array.toList_map, Array.toList_range, hs, List.getElem?_map]
  by_cases hi : i < n * 2
  · rw [List.getElem?_range hi]
    have hr := rc_get (List.replicate n Rn.zero) (i / 2) (by simp; omega)
    rcases Nat.mod_two_eq_zero_or_one i with h | h
    · rw [show i = i / 2 * 2 by omega, hr.1]
      simp [rcs, show i / 2 < n by omega]
    · rw [show i = i / 2 * 2 + 1 by omega, hr.2]
      simp [rcs, show i / 2 < n by omega, Nat.add_mod]
  · rw [List.getElem?_eq_none (by simp; omega), List.getElem?_eq_none (by rw [rc_length]; simp; omega)]
    rfl
theorem run_clearR (w : World) (ty : TypeId) (g n c : Nat) (P Y : List Value) (hg : Rowb w g (P ++ Y)) (hn : n * 2 ≤ Y.length) :
    ∃ w', (Builtin.clear_ #[88] ty #[.slice (some ⟨g, P.length, none⟩) n c]).run Tryz.prog w = .ok (.tuple #[]) w' ∧ Rowb w' g (P ++ rc (List.replicate n Rn.zero) ++ Y.drop (n * 2)) ∧ But (fun k => k = g) w w' := by
  have hst := run_storeCells_at Tryz.prog g P.length 92 (rc (List.replicate n Rn.zero)) 0 (P ++ Y).toArray w hg (by simp [rc_length]; omega) (rc_one _)
  have e1 : ((P ++ Y).toArray.toList.take (P.length + 0) ++ rc (List.replicate n Rn.zero) ++ (P ++ Y).toArray.toList.drop (P.length + 0 + (rc (List.replicate n Rn.zero)).length)) = P ++ rc (List.replicate n Rn.zero) ++ Y.drop (n * 2) := by
    rw [List.toList_toArray, Nat.add_zero, List.take_left' rfl, List.drop_append, List.drop_eq_nil_of_le (by omega), Nat.add_sub_cancel_left, rc_length, List.length_replicate]
    simp
  rw [e1] at hst
  cases n with
  | zero => exact ⟨w, by simp [Builtin.clear_, run_underlying Tryz.underlying88], by simpa [rc_nil] using hg, But.refl _ _⟩
  | succ n =>
    refine ⟨_, ?_, setRow_heap w g _ _ _ _ hg, setRow_but w g _⟩
    have hz : (Builtin.zeroCells (Value.agg #[.int .i64 0, .int .i64 0]).cells (n + 1)).toList = rc (List.replicate (n + 1) Rn.zero) := zeroCells_run (n + 1)
    simp [Builtin.clear_, run_underlying Tryz.underlying88, hz, hst]
end Go.Proofs.YtceeeofkigkpkaaGreat
