import Derived.Test.YtlflcdjaknnfaabKK
import Derived.Test.YtlflcdjaknnfaabRows
import Derived.ProofKit
import Derived.OpenShut
import Derived.ShutString
import Derived.ChangeOld
import Derived.Deep.Slices
import Derived.SizedLaws
import Derived.JoinedCond
namespace Go.Proofs.Ytlflcdjaknnfaab
open Go.ChangeShapes Go.WideShapes Go.ChangeAt Go.RowKit

theorem own : ownKnob Try.prog.godebug = none := by kernel_rfl
theorem laidOut : laidOutB Try.prog = true := by kernel_rfl
theorem bytesU8 : Try.prog.bytesOf 5 = 1 := by kernel_rfl
theorem cellsBytes : Try.prog.cellsOf 22 = 1 := by kernel_rfl
theorem cellsBool : Try.prog.cellsOf 4 = 1 := by kernel_rfl
theorem bulk_one {H : Type} (d : DataW H) : 1 ≤ Rows.uptoBulk d := by
  cases d with
  | lit l => cases l <;> simp [Rows.uptoBulk]
  | nil => simp [Rows.uptoBulk]
  | ptr d => simp [Rows.uptoBulk]
  | slice elems spare => simp [Rows.uptoBulk]
  | agg parts => simp [Rows.uptoBulk]
  | iface t d => simp [Rows.uptoBulk]
  | map entries => simp [Rows.uptoBulk]
  | held h => simp [Rows.uptoBulk]
theorem bulk_length {H : Type} (l : List (DataW H)) : l.length ≤ Rows.uptoBulkAll l := by
  induction l with
  | nil => simp [Rows.uptoBulkAll]
  | cons x r ih => have := bulk_one x; simp only [Rows.uptoBulkAll, List.length_cons]; omega
theorem bulk_mem {H : Type} {d : DataW H} : ∀ {l : List (DataW H)}, d ∈ l → Rows.uptoBulk d ≤ Rows.uptoBulkAll l
  | x :: r, hd => by
    simp only [Rows.uptoBulkAll]
    rcases List.mem_cons.1 hd with rfl | hd
    · omega
    · have := bulk_mem hd; omega
/-- how much came in: little enough by weight, or by number -/
def Lit' {H : Type} (t : TypeId) (d : DataW H) : Prop := (∀ x ∈ d.weights Try.prog t, x ≤ reachBytes) ∨ Rows.uptoBulk d ≤ 1048576
/-- a slice of integers that came in: nil, or a row of 'cap' cells, the numbers 'zs' -/
def IsRow (k : IntKind) (w : World) (a : Option Addr) (len cap : Nat) (zs : List Int) : Prop :=
  (a = none ∧ len = 0 ∧ cap = 0 ∧ zs = []) ∨
  ∃ x, a = some x ∧ len ≤ cap ∧ cap ≤ maxLen ∧ zs.length = cap ∧ (∀ i, i < zs.length → w.cell? (x.add i) = some (.int k (zs.getD i 0))) ∧ ∀ n ∈ zs, (Lit.int k n).wf = true
theorem isrow_bs {w : World} {a : Option Addr} {len cap : Nat} {zs : List Int} (h : IsRow .u8 w a len cap zs) :
    ∃ l : List Nat, len = l.length ∧ Bs w a l ∧ l.length ≤ maxLen ∧ len ≤ cap := by
  rcases h with ⟨rfl, rfl, rfl, rfl⟩ | ⟨x, rfl, hl, hm, hz, hcell, hwz⟩
  · exact ⟨[], rfl, ⟨by simp, by simp, .inl rfl⟩, by simp, Nat.le_refl _⟩
  · have hlen : ((zs.take len).map Int.toNat).length = len := by simp; omega
    have hpos : ∀ n ∈ zs, 0 ≤ n ∧ n < 256 := fun n hn => by have := bounds_u8 (hwz n hn); omega
    refine ⟨(zs.take len).map Int.toNat, hlen.symm, ⟨?_, ?_, ?_⟩, by rw [hlen]; omega, hl⟩
    · intro y hy
      simp only [List.mem_map] at hy
      obtain ⟨n, hn, rfl⟩ := hy
      have := hpos n (List.mem_of_mem_take hn)
      omega
    · rw [hlen]; unfold maxLen at hm; omega
    · by_cases h0 : len = 0
      · left; subst h0; simp
      · right
        obtain ⟨b, off, spot⟩ := x
        have hspot : spot = none := by simpa [Addr.add] using World.cell?_spot (hcell 0 (by omega))
        subst hspot
        refine ⟨b, off, rfl, fun i hi => ?_⟩
        rw [hlen] at hi
        have hc := hcell i (by omega)
        have hzi : i < zs.length := by omega
        have hp := hpos zs[i] (List.getElem_mem _)
        have e1 : ((zs.take len).map Int.toNat).getD i 0 = zs[i].toNat := by simp [hzi, hi]
        have e2 : zs.getD i 0 = zs[i] := by simp [hzi]
        rw [e1, Int.toNat_of_nonneg hp.1]
        rw [e2, Addr.add_mid] at hc
        exact hc
theorem open_bytes_cs {H : Type} {enc : TypeId × Value → H} {W : World} {fuel : Nat} {cs : List Value} {d : DataW H} {p : List MemPlace}
    (hf : DataW.trod enc Try.prog W 0 (fun _ => true) true fuel 22 cs = some (d, p)) (hd : Lit' 22 d) :
    ∃ (a : Option Addr) (l : List Nat) (cap : Nat), cs = [.slice a l.length cap] ∧ Bs W a l ∧ l.length + 64 ≤ 140737488355328 ∧ l.length ≤ cap ∧ l.length ≤ Rows.uptoBulk d := by
  rcases open_ints Try.underlying22 Try.underlying5 (by kernel_rfl) hf with ⟨hcs, _⟩ | ⟨x, l, c, zs, hcs, _, hl, hm, hz, hx, hcell, hwz⟩
  · exact ⟨none, [], 0, hcs, Bs.nil W, by decide, Nat.le_refl _, Nat.zero_le _⟩
  · simp only [Prod.mk.injEq] at hx
    simp only [if_true] at hz
    have h3 : (lits (H := H) .u8 (zs.take l)).length + (lits (H := H) .u8 (zs.drop l)).length = c := by simp [lits]; omega
    obtain ⟨k, hk, hB, _, hc⟩ := isrow_bs (.inr ⟨_, rfl, hl, hm, hz, hcell, hwz⟩)
    have h1 := bulk_length (lits (H := H) .u8 (zs.take l))
    have e : (lits (H := H) .u8 (zs.take l)).length = l := by simp [lits]; omega
    have hbk : k.length ≤ Rows.uptoBulk d := by
      rw [hx.1]
      simp only [Rows.uptoBulk]
      omega
    subst hk
    refine ⟨some x, k, c, hcs, hB, ?_, hc, hbk⟩
    rcases hd with hd | hd
    · have h2 := hd (((lits (H := H) .u8 (zs.take k.length)).length + (lits (H := H) .u8 (zs.drop k.length)).length) * Try.prog.bytesOf 5) (by rw [hx.1]; simp only [DataW.weights, Try.underlying22, List.mem_cons]; exact .inl trivial)
      rw [h3, bytesU8] at h2
      unfold reachBytes at h2
      omega
    · omega
theorem open_bytes {H : Type} {enc : TypeId × Value → H} {W : World} {a : Option Addr} {len cap : Nat} {d : DataW H} {p : List MemPlace}
    (h : DataW.Trod enc Try.prog W 0 (fun _ => true) true 22 (.slice a len cap) d p) (hd : Lit' 22 d) :
    ∃ l : List Nat, len = l.length ∧ Bs W a l ∧ l.length + 64 ≤ 140737488355328 ∧ l.length ≤ cap := by
  obtain ⟨fuel, hf⟩ := h
  obtain ⟨a', l, cap', hcs, h1, h2, h3, _⟩ := open_bytes_cs hf hd
  simp only [Value.cells, List.cons.injEq, and_true, Value.slice.injEq] at hcs
  obtain ⟨rfl, rfl, rfl⟩ := hcs
  exact ⟨l, rfl, h1, h2, h3⟩
theorem cellsInt : Try.prog.cellsOf 3 = 1 := by kernel_rfl
theorem cellsBools : Try.prog.cellsOf 32 = 1 := by kernel_rfl
theorem cellsStart : Try.prog.cellsOf 24 = 2 := by kernel_rfl
theorem cellsOp : Try.prog.cellsOf 34 = 4 := by kernel_rfl
def N64 (x : Int) : Prop := -9223372036854775808 ≤ x ∧ x ≤ 9223372036854775807
theorem n64 {x : Int} (h : (Lit.int .i64 x).wf = true) : N64 x := by have := bounds_i64 h; unfold N64; omega
theorem list2 {α : Type} {l : List α} (h : l.length = 2) : ∃ a b, l = [a, b] := by
  match l, h with
  | [a, b], _ => exact ⟨a, b, rfl⟩
theorem list4 {α : Type} {l : List α} (h : l.length = 4) : ∃ a b c d, l = [a, b, c, d] := by
  match l, h with
  | [a, b, c, d], _ => exact ⟨a, b, c, d, rfl⟩
theorem trod_struct2' {H : Type} {enc : TypeId × Value → H} {P : Program} {w : World} {base : Nat} {spare : Nat → Bool} {held : Bool} {t : TypeId} {f0 f1 : Field} {fuel : Nat} {cs : List Value} {x : DataW H × List MemPlace} (ht : P.underlying t = some (.struct #[f0, f1])) (h : DataW.trod enc P w base spare held fuel t cs = some x) :
    ∃ y0 y1 n, x.1 = .agg [y0.1, y1.1] ∧ cs.length = P.cellsOf t ∧ DataW.trod enc P w base spare held n f0.type ((cs.drop f0.offset).take (P.cellsOf f0.type)) = some y0 ∧
      DataW.trod enc P w base spare held n f1.type ((cs.drop f1.offset).take (P.cellsOf f1.type)) = some y1 := by
  obtain ⟨xs, n, _, rfl, hl, hlen, hf⟩ := DataW.trod_struct ht h
  match xs, hlen with
  | [y0, y1], _ => exact ⟨y0, y1, n, by simp, hl, by simpa using hf 0 f0 rfl, by simpa using hf 1 f1 rfl⟩
theorem trod_struct4 {H : Type} {enc : TypeId × Value → H} {P : Program} {w : World} {base : Nat} {spare : Nat → Bool} {held : Bool} {t : TypeId} {f0 f1 f2 f3 : Field} {fuel : Nat} {cs : List Value} {x : DataW H × List MemPlace} (ht : P.underlying t = some (.struct #[f0, f1, f2, f3])) (h : DataW.trod enc P w base spare held fuel t cs = some x) :
    ∃ y0 y1 y2 y3 n, x.1 = .agg [y0.1, y1.1, y2.1, y3.1] ∧ cs.length = P.cellsOf t ∧ DataW.trod enc P w base spare held n f0.type ((cs.drop f0.offset).take (P.cellsOf f0.type)) = some y0 ∧
      DataW.trod enc P w base spare held n f1.type ((cs.drop f1.offset).take (P.cellsOf f1.type)) = some y1 ∧ DataW.trod enc P w base spare held n f2.type ((cs.drop f2.offset).take (P.cellsOf f2.type)) = some y2 ∧
      DataW.trod enc P w base spare held n f3.type ((cs.drop f3.offset).take (P.cellsOf f3.type)) = some y3 := by
  obtain ⟨xs, n, _, rfl, hl, hlen, hf⟩ := DataW.trod_struct ht h
  match xs, hlen with
  | [y0, y1, y2, y3], _ => exact ⟨y0, y1, y2, y3, n, by simp, hl, by simpa using hf 0 f0 rfl, by simpa using hf 1 f1 rfl, by simpa using hf 2 f2 rfl, by simpa using hf 3 f3 rfl⟩
/-- a start that came in -/
theorem open_start {H : Type} {enc : TypeId × Value → H} {W : World} {cs : Array Value} {d : DataW H} {p : List MemPlace}
    (h : DataW.Trod enc Try.prog W 0 (fun _ => true) true 24 (.agg cs) d p) (hd : Lit' 24 d) :
    ∃ (nb : Int) (a : Option Addr) (l : List Nat) (cap : Nat), cs = #[.int .i64 nb, .slice a l.length cap] ∧ N64 nb ∧ Bs W a l ∧ l.length + 64 ≤ 140737488355328 ∧ l.length ≤ cap := by
  obtain ⟨fuel, hf⟩ := h
  obtain ⟨y0, y1, n, hx, hl, h0, h1⟩ := trod_struct2' Try.underlying24 hf
  obtain ⟨c0, c1, e⟩ := list2 (hl.trans cellsStart)
  have e' : cs = #[c0, c1] := by
    apply Array.toList_inj.1
    exact e
  subst e'
  have e2 : (Value.agg #[c0, c1]).cells.toList = [c0, c1] := rfl
  rw [e2] at h0 h1
  simp only [cellsInt, cellsBytes, List.drop_zero, List.drop_succ_cons, List.take_succ_cons, List.take_zero] at h0 h1
  have hd' : d = .agg [y0.1, y1.1] := hx
  obtain ⟨k0, e0, _, w0⟩ := DataW.trod_int Try.underlying3 h0
  obtain ⟨a, l, cap, e1, hB, hN, hC, _⟩ := open_bytes_cs (d := y1.1) (p := y1.2) h1 (by
    rcases hd with hd | hd
    · left
      intro x hx
      refine hd x ?_
      rw [hd']
      simp only [DataW.weights, Try.underlying24]
      simp only [List.map_cons, List.map_nil]
      exact DataW.weights_mem_each (j := 1) (t := 22) (d := y1.1) rfl rfl x hx
    · right
      rw [hd'] at hd
      simp only [Rows.uptoBulk, Rows.uptoBulkAll] at hd
      omega)
  simp only [List.cons.injEq, and_true] at e0 e1
  subst e0 e1
  exact ⟨k0, a, l, cap, rfl, n64 w0, hB, hN, hC⟩
/-- bools that came in, few enough -/
theorem open_bools_cs {H : Type} {enc : TypeId × Value → H} {W : World} {fuel : Nat} {cs : List Value} {d : DataW H} {p : List MemPlace}
    (hf : DataW.trod enc Try.prog W 0 (fun _ => true) true fuel 32 cs = some (d, p)) (hd : Rows.uptoBulk d ≤ 1048576) :
    ∃ (a : Option Addr) (K : List Bool) (cap : Nat), cs = [.slice a K.length cap] ∧ Kb W a K ∧ K.length ≤ 1048576 := by
  rcases Deep.open_slice Try.underlying32 hf with ⟨hcs, _⟩ | ⟨x, len, cap, m, n, D, Pl, hcs, _, hl, hm, hmm, hx, hrows⟩
  · exact ⟨none, [], 0, hcs, Kb.nil _ _, by simp⟩
  · simp only [Prod.mk.injEq] at hx
    obtain ⟨rfl, _⟩ := hx
    simp only [if_true] at hmm
    subst hmm
    have hlen : len ≤ 1048576 := by
      simp only [Rows.uptoBulk] at hd
      have h1 := bulk_length ((List.range len).map D)
      rw [List.length_map, List.length_range] at h1
      omega
    have each : ∀ r, r < len → ∃ v : Bool, W.cell? (x.add r) = some (.bool v) := by
      intro r hr
      obtain ⟨cs, hc, ht⟩ := hrows r (by omega)
      obtain ⟨b, rfl, _⟩ := DataW.trod_bool Try.underlying4 ht
      rw [cellsBool] at hc
      obtain ⟨_, _, hce⟩ := World.cells?_some hc
      have h := hce 0 (by decide)
      exact ⟨b, by simpa [Deep.add_add] using h⟩
    obtain ⟨F, hF⟩ := Deep.choose_lt each
    have hlenL : ((List.range len).map F).length = len := by simp
    refine ⟨some x, (List.range len).map F, m, by rw [hlenL]; exact hcs, ⟨by rw [hlenL]; omega, ?_⟩, by rw [hlenL]; exact hlen⟩
    by_cases h0 : len = 0
    · subst h0; exact .inl rfl
    · right
      obtain ⟨b, off, spot⟩ := x
      have hspot : spot = none := by simpa [Addr.add] using World.cell?_spot (hF 0 (by omega))
      subst hspot
      refine ⟨b, off, rfl, fun i hi => ?_⟩
      rw [hlenL] at hi
      have := hF i hi
      rw [Addr.add_mid] at this
      rw [this]
      simp [hi]
theorem open_bools {H : Type} {enc : TypeId × Value → H} {W : World} {a : Option Addr} {len cap : Nat} {d : DataW H} {p : List MemPlace}
    (h : DataW.Trod enc Try.prog W 0 (fun _ => true) true 32 (.slice a len cap) d p) (hd : Rows.uptoBulk d ≤ 1048576) : ∃ K : List Bool, len = K.length ∧ Kb W a K ∧ K.length ≤ 1048576 := by
  obtain ⟨fuel, hf⟩ := h
  obtain ⟨a', K, cap', hcs, h1, h2⟩ := open_bools_cs hf hd
  simp only [Value.cells, List.cons.injEq, and_true, Value.slice.injEq] at hcs
  obtain ⟨rfl, rfl, rfl⟩ := hcs
  exact ⟨K, rfl, h1, h2⟩
/-- a call -/
structure Ov where
  k : Int
  i : Int
  aB : Option Addr
  B : List Nat
  cB : Nat
  aK : Option Addr
  K : List Bool
  cK : Nat
def Ov.cs (o : Ov) : List Value := [.int .i64 o.k, .int .i64 o.i, .slice o.aB o.B.length o.cB, .slice o.aK o.K.length o.cK]
def Ov.zero : Ov := ⟨0, 0, none, [], 0, none, [], 0⟩
/-- what is known of a call that came in -/
structure Ov.good (o : Ov) (w : World) : Prop where
  k : N64 o.k
  i : N64 o.i
  b : Bs w o.aB o.B
  kb : Kb w o.aK o.K
  bl : o.B.length ≤ 1048576
  kl : o.K.length ≤ 1048576
theorem Ov.good.keep {o : Ov} {w w' : World} (h : o.good w) (hb : Below w.heap.size w w') : o.good w' := ⟨h.k, h.i, h.b.keep hb, h.kb.keep hb, h.bl, h.kl⟩
set_option maxRecDepth 100000 in
theorem open_op_cs {H : Type} {enc : TypeId × Value → H} {W : World} {fuel : Nat} {cs : List Value} {d : DataW H} {p : List MemPlace}
    (h : DataW.trod enc Try.prog W 0 (fun _ => true) true fuel 34 cs = some (d, p)) (hd : Rows.uptoBulk d ≤ 1048576) : ∃ o : Ov, cs = o.cs ∧ o.good W := by
  obtain ⟨y0, y1, y2, y3, n, hx, hl, h0, h1, h2, h3⟩ := trod_struct4 Try.underlying34 h
  obtain ⟨c0, c1, c2, c3, rfl⟩ := list4 (hl.trans cellsOp)
  simp only [cellsInt, cellsBytes, cellsBools, List.drop_zero, List.drop_succ_cons, List.take_succ_cons, List.take_zero] at h0 h1 h2 h3
  have hd' : d = .agg [y0.1, y1.1, y2.1, y3.1] := hx
  rw [hd'] at hd
  simp only [Rows.uptoBulk, Rows.uptoBulkAll] at hd
  obtain ⟨k0, e0, _, w0⟩ := DataW.trod_int Try.underlying3 h0
  obtain ⟨k1, e1, _, w1⟩ := DataW.trod_int Try.underlying3 h1
  obtain ⟨aB, B, cB, e2, b1, b2, b3, b4⟩ := open_bytes_cs (d := y2.1) (p := y2.2) h2 (.inr (by omega))
  obtain ⟨aK, K, cK, e3, q1, q2⟩ := open_bools_cs (d := y3.1) (p := y3.2) h3 (by omega)
  simp only [List.cons.injEq, and_true] at e0 e1 e2 e3
  subst e0 e1 e2 e3
  exact ⟨⟨k0, k1, aB, B, cB, aK, K, cK⟩, rfl, ⟨n64 w0, n64 w1, b1, q1, by show B.length ≤ _; omega, q2⟩⟩
/-- a script in memory -/
def Sp (w : World) (a : Option Addr) (S : List Ov) : Prop := (∀ o ∈ S, o.good w) ∧ S.length ≤ 1048576 ∧ (S = [] ∨ ∃ b o, a = some ⟨b, o, none⟩ ∧ ∀ i, i < S.length → w.rangeAt b (o + i * 4) (S.getD i Ov.zero).cs)
theorem Sp.keep {w w' : World} {a : Option Addr} {S : List Ov} (h : Sp w a S) (hb : Below w.heap.size w w') : Sp w' a S := by
  obtain ⟨h1, h2, h3⟩ := h
  refine ⟨fun o ho => (h1 o ho).keep hb, h2, ?_⟩
  rcases h3 with h3 | ⟨b, o, e, hc⟩
  · exact .inl h3
  · exact .inr ⟨b, o, e, fun i hi j v hv => (hb.cell (p := ⟨b, o + i * 4 + j, none⟩) (block_lt_of_cell (hc i hi j v hv))).trans (hc i hi j v hv)⟩
set_option maxRecDepth 100000 in
theorem open_ops {H : Type} {enc : TypeId × Value → H} {W : World} {a : Option Addr} {len cap : Nat} {d : DataW H} {p : List MemPlace}
    (h : DataW.Trod enc Try.prog W 0 (fun _ => true) true 25 (.slice a len cap) d p) (hd : Rows.uptoBulk d ≤ 1048576) : ∃ S : List Ov, len = S.length ∧ Sp W a S := by
  obtain ⟨fuel, hf⟩ := h
  rcases Deep.open_slice Try.underlying25 hf with ⟨hcs, _⟩ | ⟨x, len', cap', m, n, D, Pl, hcs, _, hl, hm, hmm, hx, hrows⟩
  · simp only [Value.cells, List.cons.injEq, and_true, Value.slice.injEq] at hcs
    obtain ⟨rfl, rfl, rfl⟩ := hcs
    exact ⟨[], rfl, by simp, by simp, .inl rfl⟩
  · simp only [Value.cells, List.cons.injEq, and_true, Value.slice.injEq] at hcs
    obtain ⟨rfl, rfl, rfl⟩ := hcs
    simp only [Prod.mk.injEq] at hx
    obtain ⟨rfl, _⟩ := hx
    simp only [if_true] at hmm
    subst hmm
    have hlen : len ≤ 1048576 := by
      simp only [Rows.uptoBulk] at hd
      have h1 := bulk_length ((List.range len).map D)
      rw [List.length_map, List.length_range] at h1
      omega
    by_cases h0 : len = 0
    · subst h0
      exact ⟨[], rfl, by simp, by simp, .inl rfl⟩
    · have hmemD : ∀ r, r < len → D r ∈ (List.range len).map D := fun r hr => List.mem_map.2 ⟨r, List.mem_range.2 hr, rfl⟩
      have hbD : ∀ r, r < len → Rows.uptoBulk (D r) ≤ 1048576 := fun r hr => by
        have h1 := bulk_mem (hmemD r hr)
        simp only [Rows.uptoBulk] at hd
        omega
      obtain ⟨b, off, spot⟩ := x
      have hspot : spot = none := by
        obtain ⟨cs, hc, ht⟩ := hrows 0 (by omega)
        obtain ⟨f, rfl, _⟩ := open_op_cs ht (hbD 0 (by omega))
        generalize hk : (0 : Nat) = k0 at hc
        rw [cellsOp] at hc
        obtain ⟨_, _, hce⟩ := World.cells?_some hc
        have e0 := (hce 0 (by decide)).trans (show f.cs[0]? = some (.int .i64 f.k) from rfl)
        have hs0 := World.cell?_spot e0
        subst hk
        simpa [Addr.add] using hs0
      subst hspot
      have each : ∀ r, r < len → ∃ v : Ov, W.rangeAt b (off + r * 4) v.cs ∧ v.good W := by
        intro r hr
        obtain ⟨cs, hc, ht⟩ := hrows r (by omega)
        obtain ⟨v, rfl, h1⟩ := open_op_cs ht (hbD r hr)
        rw [cellsOp] at hc
        obtain ⟨_, _, hce⟩ := World.cells?_some hc
        refine ⟨v, fun j u hu => ?_, h1⟩
        have hj : j < 4 := (List.getElem?_eq_some_iff.1 hu).1
        have h := hce j hj
        rw [Deep.add_add, Addr.add_mid, ← Nat.add_assoc] at h
        exact h.trans hu
      haveI : Inhabited Ov := ⟨Ov.zero⟩
      obtain ⟨F, hF⟩ := Deep.choose_lt each
      have hget : ∀ r, r < len → ((List.range len).map F).getD r Ov.zero = F r := fun r hr => by simp [hr]
      have hlenL : ((List.range len).map F).length = len := by simp
      refine ⟨(List.range len).map F, hlenL.symm, fun v hv => ?_, by rw [hlenL]; exact hlen, .inr ⟨b, off, rfl, fun r hr => ?_⟩⟩
      · obtain ⟨r, hr, rfl⟩ := List.mem_map.1 hv
        exact (hF r (List.mem_range.1 hr)).2
      · rw [hlenL] at hr
        rw [hget r hr]
        exact (hF r hr).1
end Go.Proofs.Ytlflcdjaknnfaab
