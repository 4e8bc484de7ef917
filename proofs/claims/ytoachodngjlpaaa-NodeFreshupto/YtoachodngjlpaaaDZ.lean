import Derived.Test.YtoachodngjlpaaaDA
import Derived.Test.YtoachodngjlpaaaRows
import Derived.BigRegion
import Derived.BigQuiet
import Derived.Deep.QuietTactic
import Derived.Laws.BitsAllLaws
import Derived.Laws.Cover3
import Derived.Lib.AppendZerosOnto
import Derived.Defers
import Derived.Recover
import Derived.Deep.RegionWith
import Derived.Deep.RegionLaw
import Derived.Deep.RegionHeld3
import Derived.Lib.SlBytesConst
import Derived.ProofKit
import Derived.OpenShut
import Derived.ShutString
import Derived.ChangeOld
import Derived.Deep.Slices
import Derived.SizedLaws
import Derived.JoinedCond
import Derived.Deep.CutRange
namespace Go.Proofs.Ytoachodngjlpaaa
set_option linter.unusedVariables false
section
open Go.RowKit
theorem lit (w : World) (l : List Nat) (t : TypeId) (fr : Nat × Nat) {g : Nat} (hg : w.heap.size = g) (hl : B8 l) (hn : l.length ≤ 1000) : Bs (w.alloc (.cells (vb l).toArray t fr)) (some ⟨g, 0, none⟩) l := by
  subst hg
  refine ⟨hl, by omega, .inr ⟨w.heap.size, 0, rfl, fun i hi => ?_⟩⟩
  rw [cell_of_row _ _ _ _ _ _ (heap_alloc_new _ _), Nat.zero_add, ← vb_get l i hi]
  simp
end
section
open Go.ChangeShapes Go.WideShapes Go.ChangeAt Go.RowKit
theorem own : ownKnob Try.prog.godebug = none := by kernel_rfl
theorem laidOut : laidOutB Try.prog = true := by kernel_rfl
theorem bytesU8 : Try.prog.bytesOf 5 = 1 := by kernel_rfl
theorem cellsItem : Try.prog.cellsOf 29 = 4 := by kernel_rfl
theorem cellsItems : Try.prog.cellsOf 22 = 1 := by kernel_rfl
theorem cellsInt : Try.prog.cellsOf 3 = 1 := by kernel_rfl
theorem cellsPage : Try.prog.cellsOf 25 = 5 := by kernel_rfl
theorem cellsBytes : Try.prog.cellsOf 23 = 1 := by kernel_rfl
theorem bulk_one {H : Type} (d : DataW H) : 1 ≤ Rows.uptoBulk d := by
  cases d with
  | lit l => cases l <;> simp [Rows.uptoBulk]
  | nil => simp [Rows.uptoBulk]
  | ptr d => simp [Rows.uptoBulk]
  | slice elems spare => simp [Rows.uptoBulk]
  | agg parts => simp [Rows.uptoBulk]
  | iface t d => simp [Rows.uptoBulk]
  | map entries => simp [Rows.uptoBulk]
  | held h => simp [Rows.uptoBulk]
theorem bulk_length {H : Type} (l : List (DataW H)) : l.length ≤ Rows.uptoBulkAll l := by
  induction l with
  | nil => simp [Rows.uptoBulkAll]
  | cons x r ih => have := bulk_one x; simp only [Rows.uptoBulkAll, List.length_cons]; omega
theorem bulk_mem {H : Type} {d : DataW H} : ∀ {l : List (DataW H)}, d ∈ l → Rows.uptoBulk d ≤ Rows.uptoBulkAll l
  | x :: r, hd => by
    simp only [Rows.uptoBulkAll]
    rcases List.mem_cons.1 hd with rfl | hd
    · omega
    · have := bulk_mem hd; omega
/-- how much came in: little enough by weight, or by number -/
def Lit' {H : Type} (t : TypeId) (d : DataW H) : Prop := (∀ x ∈ d.weights Try.prog t, x ≤ reachBytes) ∨ Rows.uptoBulk d ≤ 1048576
/-- a slice of integers that came in: nil, or a row of 'cap' cells, the numbers 'zs' -/
def IsRow (k : IntKind) (w : World) (a : Option Addr) (len cap : Nat) (zs : List Int) : Prop :=
  (a = none ∧ len = 0 ∧ cap = 0 ∧ zs = []) ∨
  ∃ x, a = some x ∧ len ≤ cap ∧ cap ≤ maxLen ∧ zs.length = cap ∧ (∀ i, i < zs.length → w.cell? (x.add i) = some (.int k (zs.getD i 0))) ∧ ∀ n ∈ zs, (Lit.int k n).wf = true
theorem isrow_bs {w : World} {a : Option Addr} {len cap : Nat} {zs : List Int} (h : IsRow .u8 w a len cap zs) :
    ∃ l : List Nat, len = l.length ∧ Bs w a l ∧ l.length ≤ maxLen ∧ len ≤ cap := by
  rcases h with ⟨rfl, rfl, rfl, rfl⟩ | ⟨x, rfl, hl, hm, hz, hcell, hwz⟩
  · exact ⟨[], rfl, ⟨by simp, by simp, .inl rfl⟩, by simp, Nat.le_refl _⟩
  · have hlen : ((zs.take len).map Int.toNat).length = len := by simp; omega
    have hpos : ∀ n ∈ zs, 0 ≤ n ∧ n < 256 := fun n hn => by have := bounds_u8 (hwz n hn); omega
    refine ⟨(zs.take len).map Int.toNat, hlen.symm, ⟨?_, ?_, ?_⟩, by rw [hlen]; omega, hl⟩
    · intro y hy
      simp only [List.mem_map] at hy
      obtain ⟨n, hn, rfl⟩ := hy
      have := hpos n (List.mem_of_mem_take hn)
      omega
    · rw [hlen]; unfold maxLen at hm; omega
    · by_cases h0 : len = 0
      · left; subst h0; simp
      · right
        obtain ⟨b, off, spot⟩ := x
        have hspot : spot = none := by simpa [Addr.add] using World.cell?_spot (hcell 0 (by omega))
        subst hspot
        refine ⟨b, off, rfl, fun i hi => ?_⟩
        rw [hlen] at hi
        have hc := hcell i (by omega)
        have hzi : i < zs.length := by omega
        have hp := hpos zs[i] (List.getElem_mem _)
        have e1 : ((zs.take len).map Int.toNat).getD i 0 = zs[i].toNat := by simp [hzi, hi]
        have e2 : zs.getD i 0 = zs[i] := by simp [hzi]
        rw [e1, Int.toNat_of_nonneg hp.1]
        rw [e2, Addr.add_mid] at hc
        exact hc
theorem open_bytes_cs {H : Type} {enc : TypeId × Value → H} {W : World} {fuel : Nat} {cs : List Value} {d : DataW H} {p : List MemPlace}
    (hf : DataW.trod enc Try.prog W 0 (fun _ => true) true fuel 23 cs = some (d, p)) (hd : Lit' 23 d) :
    ∃ (a : Option Addr) (l : List Nat) (cap : Nat), cs = [.slice a l.length cap] ∧ Bs W a l ∧ l.length + 64 ≤ 140737488355328 ∧ l.length ≤ cap ∧ l.length ≤ Rows.uptoBulk d := by
  rcases open_ints Try.underlying23 Try.underlying5 (by kernel_rfl) hf with ⟨hcs, _⟩ | ⟨x, l, c, zs, hcs, _, hl, hm, hz, hx, hcell, hwz⟩
  · exact ⟨none, [], 0, hcs, Bs.nil W, by decide, Nat.le_refl _, Nat.zero_le _⟩
  · simp only [Prod.mk.injEq] at hx
    simp only [if_true] at hz
    have h3 : (lits (H := H) .u8 (zs.take l)).length + (lits (H := H) .u8 (zs.drop l)).length = c := by simp [lits]; omega
    obtain ⟨k, hk, hB, _, hc⟩ := isrow_bs (.inr ⟨_, rfl, hl, hm, hz, hcell, hwz⟩)
    have h1 := bulk_length (lits (H := H) .u8 (zs.take l))
    have e : (lits (H := H) .u8 (zs.take l)).length = l := by simp [lits]; omega
    have hbk : k.length ≤ Rows.uptoBulk d := by
      rw [hx.1]
      simp only [Rows.uptoBulk]
      omega
    subst hk
    refine ⟨some x, k, c, hcs, hB, ?_, hc, hbk⟩
    rcases hd with hd | hd
    · have h2 := hd (((lits (H := H) .u8 (zs.take k.length)).length + (lits (H := H) .u8 (zs.drop k.length)).length) * Try.prog.bytesOf 5) (by rw [hx.1]; simp only [DataW.weights, Try.underlying23, List.mem_cons]; exact .inl trivial)
      rw [h3, bytesU8] at h2
      unfold reachBytes at h2
      omega
    · omega
theorem open_bytes {H : Type} {enc : TypeId × Value → H} {W : World} {a : Option Addr} {len cap : Nat} {d : DataW H} {p : List MemPlace}
    (h : DataW.Trod enc Try.prog W 0 (fun _ => true) true 23 (.slice a len cap) d p) (hd : Lit' 23 d) :
    ∃ l : List Nat, len = l.length ∧ Bs W a l ∧ l.length + 64 ≤ 140737488355328 ∧ l.length ≤ cap := by
  obtain ⟨fuel, hf⟩ := h
  obtain ⟨a', l, cap', hcs, h1, h2, h3, _⟩ := open_bytes_cs hf hd
  simp only [Value.cells, List.cons.injEq, and_true, Value.slice.injEq] at hcs
  obtain ⟨rfl, rfl, rfl⟩ := hcs
  exact ⟨l, rfl, h1, h2, h3⟩
theorem trod_struct4 {H : Type} {enc : TypeId × Value → H} {P : Program} {w : World} {base : Nat} {spare : Nat → Bool} {held : Bool} {t : TypeId} {f0 f1 f2 f3 : Field} {fuel : Nat} {cs : List Value} {x : DataW H × List MemPlace} (ht : P.underlying t = some (.struct #[f0, f1, f2, f3])) (h : DataW.trod enc P w base spare held fuel t cs = some x) :
    ∃ y0 y1 y2 y3 n, x.1 = .agg [y0.1, y1.1, y2.1, y3.1] ∧ cs.length = P.cellsOf t ∧ DataW.trod enc P w base spare held n f0.type ((cs.drop f0.offset).take (P.cellsOf f0.type)) = some y0 ∧ DataW.trod enc P w base spare held n f1.type ((cs.drop f1.offset).take (P.cellsOf f1.type)) = some y1 ∧ DataW.trod enc P w base spare held n f2.type ((cs.drop f2.offset).take (P.cellsOf f2.type)) = some y2 ∧ DataW.trod enc P w base spare held n f3.type ((cs.drop f3.offset).take (P.cellsOf f3.type)) = some y3 := by
  obtain ⟨xs, n, _, rfl, hl, hlen, hf⟩ := DataW.trod_struct ht h
  match xs, hlen with
  | [y0, y1, y2, y3], _ => exact ⟨y0, y1, y2, y3, n, by simp, hl, by simpa using hf 0 f0 rfl, by simpa using hf 1 f1 rfl, by simpa using hf 2 f2 rfl, by simpa using hf 3 f3 rfl⟩
theorem list4 {α : Type} {l : List α} (h : l.length = 4) : ∃ c0 c1 c2 c3, l = [c0, c1, c2, c3] := by
  match l, h with
  | [c0, c1, c2, c3], _ => exact ⟨c0, c1, c2, c3, rfl⟩
theorem trod_struct5 {H : Type} {enc : TypeId × Value → H} {P : Program} {w : World} {base : Nat} {spare : Nat → Bool} {held : Bool} {t : TypeId} {f0 f1 f2 f3 f4 : Field} {fuel : Nat} {cs : List Value} {x : DataW H × List MemPlace} (ht : P.underlying t = some (.struct #[f0, f1, f2, f3, f4])) (h : DataW.trod enc P w base spare held fuel t cs = some x) :
    ∃ y0 y1 y2 y3 y4 n, x.1 = .agg [y0.1, y1.1, y2.1, y3.1, y4.1] ∧ cs.length = P.cellsOf t ∧ DataW.trod enc P w base spare held n f0.type ((cs.drop f0.offset).take (P.cellsOf f0.type)) = some y0 ∧ DataW.trod enc P w base spare held n f1.type ((cs.drop f1.offset).take (P.cellsOf f1.type)) = some y1 ∧ DataW.trod enc P w base spare held n f2.type ((cs.drop f2.offset).take (P.cellsOf f2.type)) = some y2 ∧ DataW.trod enc P w base spare held n f3.type ((cs.drop f3.offset).take (P.cellsOf f3.type)) = some y3 ∧ DataW.trod enc P w base spare held n f4.type ((cs.drop f4.offset).take (P.cellsOf f4.type)) = some y4 := by
  obtain ⟨xs, n, _, rfl, hl, hlen, hf⟩ := DataW.trod_struct ht h
  match xs, hlen with
  | [y0, y1, y2, y3, y4], _ => exact ⟨y0, y1, y2, y3, y4, n, by simp, hl, by simpa using hf 0 f0 rfl, by simpa using hf 1 f1 rfl, by simpa using hf 2 f2 rfl, by simpa using hf 3 f3 rfl, by simpa using hf 4 f4 rfl⟩
theorem list5 {α : Type} {l : List α} (h : l.length = 5) : ∃ c0 c1 c2 c3 c4, l = [c0, c1, c2, c3, c4] := by
  match l, h with
  | [c0, c1, c2, c3, c4], _ => exact ⟨c0, c1, c2, c3, c4, rfl⟩
theorem n64 {z : Int} (h : (Lit.int .i64 z).wf = true) : N64 z := by
  have := bounds_i64 h
  exact ⟨by omega, by omega⟩
theorem weightsAll_mem {H : Type} {P : Program} {e : TypeId} {d : DataW H} : ∀ {l : List (DataW H)}, d ∈ l → ∀ n ∈ d.weights P e, n ∈ DataW.weightsAll P e l
  | x :: l, hd, n, hn => by
    simp only [DataW.weightsAll, List.mem_append]
    rcases List.mem_cons.1 hd with rfl | hd
    · exact .inl hn
    · exact .inr (weightsAll_mem hd n hn)
theorem bytesItem : Try.prog.bytesOf 29 = 64 := by kernel_rfl
end
section
open Go.ChangeShapes Go.WideShapes Go.ChangeAt Go.RowKit
theorem open_item7 {H : Type} {enc : TypeId × Value → H} {W : World} {fuel : Nat} {cs : List Value} {d : DataW H} {p : List MemPlace}
    (h : DataW.trod enc Try.prog W 0 (fun _ => true) true fuel 29 cs = some (d, p)) (hd : Lit' 29 d) :
    ∃ r : Iv, cs = r.cs.toList ∧ Ii W r ∧ r.key.length ≤ 140737488355264 ∧ r.val.length ≤ 140737488355264 := by
  obtain ⟨y0, y1, y2, y3, n, hx, hl, h0, h1, h2, h3⟩ := trod_struct4 Try.underlying29 h
  obtain ⟨c0, c1, c2, c3, rfl⟩ := list4 (hl.trans cellsItem)
  simp only [cellsBytes, cellsInt, List.drop_zero, List.drop_succ_cons, List.take_succ_cons, List.take_zero] at h0 h1 h2 h3
  obtain ⟨z2, e2, _, k2⟩ := DataW.trod_int Try.underlying3 h2
  obtain ⟨z3, e3, _, k3⟩ := DataW.trod_int Try.underlying3 h3
  have hd' : d = .agg [y0.1, y1.1, y2.1, y3.1] := hx
  have w0 : Lit' 23 y0.1 := by
    rcases hd with hd | hd
    · refine .inl fun x hx => hd x ?_
      rw [hd']
      simp only [DataW.weights, Try.underlying29, List.map_cons, List.map_nil, DataW.weightsEach, List.mem_append]
      simp [hx]
    · refine .inr ?_
      rw [hd'] at hd
      simp only [Rows.uptoBulk, Rows.uptoBulkAll] at hd
      omega
  have w1 : Lit' 23 y1.1 := by
    rcases hd with hd | hd
    · refine .inl fun x hx => hd x ?_
      rw [hd']
      simp only [DataW.weights, Try.underlying29, List.map_cons, List.map_nil, DataW.weightsEach, List.mem_append]
      simp [hx]
    · refine .inr ?_
      rw [hd'] at hd
      simp only [Rows.uptoBulk, Rows.uptoBulkAll] at hd
      omega
  obtain ⟨a0, l0, q0, e0, b0, n0, m0, _⟩ := open_bytes_cs (d := y0.1) (p := y0.2) h0 w0
  obtain ⟨a1, l1, q1, e1, b1, n1, m1, _⟩ := open_bytes_cs (d := y1.1) (p := y1.2) h1 w1
  simp only [List.cons.injEq, and_true] at e0 e1 e2 e3
  subst e0 e1 e2 e3
  exact ⟨⟨a0, q0, l0, a1, q1, l1, z2, z3⟩, rfl, ⟨b0, m0, b1, m1, n64 k2, n64 k3⟩, by dsimp only; omega, by dsimp only; omega⟩
set_option maxRecDepth 100000 in
/-- items that came in -/
theorem open_items7 {H : Type} {enc : TypeId × Value → H} {W : World} {fuel : Nat} {cs : List Value} {d : DataW H} {p : List MemPlace}
    (hf : DataW.trod enc Try.prog W 0 (fun _ => true) true fuel 22 cs = some (d, p)) (hd : Lit' 22 d) :
    ∃ (a : Option Addr) (L : List Iv) (cap : Nat), cs = [.slice a L.length cap] ∧ Js W a L ∧ L.length ≤ 2199023255488 ∧ L.length ≤ cap ∧ ∀ r ∈ L, r.key.length ≤ 140737488355264 ∧ r.val.length ≤ 140737488355264 := by
  rcases Deep.open_slice Try.underlying22 hf with ⟨hcs, _⟩ | ⟨x, len, cap, m, n, D, Pl, hcs, _, hl, hm, hmm, hx, hrows⟩
  · exact ⟨none, [], 0, hcs, ⟨by simp, by simp, .inl rfl⟩, by simp, Nat.le_refl _, by simp⟩
  · simp only [Prod.mk.injEq] at hx
    obtain ⟨rfl, _⟩ := hx
    simp only [if_true] at hmm
    subst hmm
    have hlen : len ≤ 2199023255488 := by
      rcases hd with hd | hd
      · have h2 := hd _ (by simp only [DataW.weights, Try.underlying22, List.mem_cons]; exact .inl rfl)
        rw [List.length_map, List.length_range, bytesItem] at h2
        unfold reachBytes at h2
        omega
      · simp only [Rows.uptoBulk] at hd
        have h1 := bulk_length ((List.range len).map D)
        rw [List.length_map, List.length_range] at h1
        omega
    by_cases h0 : len = 0
    · subst h0
      exact ⟨some x, [], m, hcs, ⟨by simp, by simp, .inl rfl⟩, by simp, Nat.zero_le _, by simp⟩
    · have hmemD : ∀ r, r < len → D r ∈ (List.range len).map D := fun r hr => List.mem_map.2 ⟨r, List.mem_range.2 hr, rfl⟩
      have hbD : ∀ r, r < len → Lit' 29 (D r) := fun r hr => by
        rcases hd with hd | hd
        · refine .inl fun x hx => hd x ?_
          simp only [DataW.weights, Try.underlying22, List.mem_cons, List.mem_append]
          exact .inr (.inl (weightsAll_mem (hmemD r hr) x hx))
        · have h1 := bulk_mem (hmemD r hr)
          simp only [Rows.uptoBulk] at hd
          exact .inr (by omega)
      obtain ⟨b, off, spot⟩ := x
      have hspot : spot = none := by
        obtain ⟨cs, hc, ht⟩ := hrows 0 (by omega)
        obtain ⟨f, rfl, _⟩ := open_item7 ht (hbD 0 (by omega))
        generalize hk : (0 : Nat) = k0 at hc
        rw [cellsItem] at hc
        obtain ⟨_, _, hce⟩ := World.cells?_some hc
        have e0 := (hce 0 (by decide)).trans (show f.cs.toList[0]? = some (.slice f.aK f.key.length f.cK) from rfl)
        have hs0 := World.cell?_spot e0
        subst hk
        simpa [Addr.add] using hs0
      subst hspot
      have each : ∀ r, r < len → ∃ v   : Iv, W.rangeAt b (off + r * 4) v.cs.toList ∧ Ii W v ∧ v.key.length ≤ 140737488355264 ∧ v.val.length ≤ 140737488355264 := by
        intro r hr
        obtain ⟨cs, hc, ht⟩ := hrows r (by omega)
        obtain ⟨v, rfl, h1⟩ := open_item7 ht (hbD r hr)
        rw [cellsItem] at hc
        obtain ⟨_, _, hce⟩ := World.cells?_some hc
        refine ⟨v, fun j u hu => ?_, h1⟩
        have hj : j < 4 := (List.getElem?_eq_some_iff.1 hu).1
        have h := hce j hj
        rw [Deep.add_add, Addr.add_mid, ← Nat.add_assoc] at h
        exact h.trans hu
      haveI : Inhabited Iv := ⟨Iv.zero⟩
      obtain ⟨F, hF⟩ := Deep.choose_lt each
      have hget : ∀ r, r < len → ((List.range len).map F).getD r Iv.zero = F r := fun r hr => by simp [hr]
      have hlenL : ((List.range len).map F).length = len := by simp
      refine ⟨some ⟨b, off, none⟩, (List.range len).map F, m, by rw [hlenL]; exact hcs, ⟨fun v hv => ?_, by rw [hlenL]; omega, .inr ⟨b, off, rfl, fun r hr => ?_⟩⟩, by rw [hlenL]; exact hlen, by rw [hlenL]; exact hl, fun v hv => ?_⟩
      · obtain ⟨r, hr, rfl⟩ := List.mem_map.1 hv
        exact (hF r (List.mem_range.1 hr)).2.1
      · rw [hlenL] at hr
        rw [hget r hr]
        exact (hF r hr).1
      · obtain ⟨r, hr, rfl⟩ := List.mem_map.1 hv
        exact (hF r (List.mem_range.1 hr)).2.2
theorem open_page7 {H : Type} {enc : TypeId × Value → H} {W : World} {fuel : Nat} {cs : List Value} {d : DataW H} {p : List MemPlace}
    (h : DataW.trod enc Try.prog W 0 (fun _ => true) true fuel 25 cs = some (d, p)) (hd : Lit' 25 d) :
    ∃ r : Pv, cs = r.cs.toList ∧ Pi W r ∧ r.data.length ≤ 140737488355264 ∧ r.items.length ≤ 2199023255488 ∧ ∀ x ∈ r.items, x.key.length ≤ 140737488355264 ∧ x.val.length ≤ 140737488355264 := by
  obtain ⟨y0, y1, y2, y3, y4, n, hx, hl, h0, h1, h2, h3, h4⟩ := trod_struct5 Try.underlying25 h
  obtain ⟨c0, c1, c2, c3, c4, rfl⟩ := list5 (hl.trans cellsPage)
  simp only [cellsBytes, cellsInt, cellsItems, List.drop_zero, List.drop_succ_cons, List.take_succ_cons, List.take_zero] at h0 h1 h2 h3 h4
  obtain ⟨z0, e0, _, k0⟩ := DataW.trod_int Try.underlying3 h0
  obtain ⟨z1, e1, _, k1⟩ := DataW.trod_int Try.underlying3 h1
  obtain ⟨z4, e4, _, k4⟩ := DataW.trod_int Try.underlying3 h4
  have hd' : d = .agg [y0.1, y1.1, y2.1, y3.1, y4.1] := hx
  have w2 : Lit' 22 y2.1 := by
    rcases hd with hd | hd
    · refine .inl fun x hx => hd x ?_
      rw [hd']
      simp only [DataW.weights, Try.underlying25, List.map_cons, List.map_nil, DataW.weightsEach, List.mem_append]
      simp [hx]
    · refine .inr ?_
      rw [hd'] at hd
      simp only [Rows.uptoBulk, Rows.uptoBulkAll] at hd
      omega
  have w3 : Lit' 23 y3.1 := by
    rcases hd with hd | hd
    · refine .inl fun x hx => hd x ?_
      rw [hd']
      simp only [DataW.weights, Try.underlying25, List.map_cons, List.map_nil, DataW.weightsEach, List.mem_append]
      simp [hx]
    · refine .inr ?_
      rw [hd'] at hd
      simp only [Rows.uptoBulk, Rows.uptoBulkAll] at hd
      omega
  obtain ⟨a2, l2, q2, e2, b2, n2, m2, s2⟩ := open_items7 (d := y2.1) (p := y2.2) h2 w2
  obtain ⟨a3, l3, q3, e3, b3, n3, m3, _⟩ := open_bytes_cs (d := y3.1) (p := y3.2) h3 w3
  simp only [List.cons.injEq, and_true] at e0 e1 e2 e3 e4
  subst e0 e1 e2 e3 e4
  exact ⟨⟨z0, z1, a2, q2, l2, a3, q3, l3, z4⟩, rfl, ⟨b2, m2, b3, m3, n64 k0, n64 k1, n64 k4⟩, by dsimp only; omega, n2, s2⟩
end
section
open Go.ChangeShapes Go.WideShapes Go.ChangeAt Go.RowKit
/-- a page that came in -/
theorem open_page8 {H : Type} {enc : TypeId × Value → H} {W : World} {cs : Array Value} {d : DataW H} {p : List MemPlace}
    (h : DataW.Trod enc Try.prog W 0 (fun _ => true) true 25 (.agg cs) d p) (hd : Lit' 25 d) :
    ∃ r : Pv, cs = r.cs ∧ Pi W r ∧ r.data.length ≤ 140737488355264 ∧ r.items.length ≤ 2199023255488 ∧ ∀ x ∈ r.items, x.key.length ≤ 140737488355264 ∧ x.val.length ≤ 140737488355264 := by
  obtain ⟨fuel, hf⟩ := h
  obtain ⟨r, e, h1, h2, h3, h4⟩ := open_page7 hf hd
  exact ⟨r, by simpa [Value.cells] using e, h1, h2, h3, h4⟩
theorem open_item8 {H : Type} {enc : TypeId × Value → H} {W : World} {cs : Array Value} {d : DataW H} {p : List MemPlace}
    (h : DataW.Trod enc Try.prog W 0 (fun _ => true) true 29 (.agg cs) d p) (hd : Lit' 29 d) :
    ∃ r : Iv, cs = r.cs ∧ Ii W r ∧ r.key.length ≤ 140737488355264 ∧ r.val.length ≤ 140737488355264 := by
  obtain ⟨fuel, hf⟩ := h
  obtain ⟨r, e, h1, h2, h3⟩ := open_item7 hf hd
  exact ⟨r, by simpa [Value.cells] using e, h1, h2, h3⟩
end
end Go.Proofs.Ytoachodngjlpaaa
