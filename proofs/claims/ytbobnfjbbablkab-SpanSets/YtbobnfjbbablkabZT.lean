import Derived.Test.YtbobnfjbbablkabZO
import Derived.Test.YtbobnfjbbablkabRows
import Derived.ProofKit
import Derived.OpenShut
import Derived.ShutString
import Derived.ChangeOld
import Derived.Deep.Slices
import Derived.SizedLaws
import Derived.JoinedCond
namespace Go.Proofs.Ytbobnfjbbablkab
open Go.ChangeShapes Go.WideShapes Go.ChangeAt Go.RowKit

theorem own : ownKnob Try.prog.godebug = none := by kernel_rfl
theorem laidOut : laidOutB Try.prog = true := by kernel_rfl
theorem bytesU8 : Try.prog.bytesOf 5 = 1 := by kernel_rfl
theorem cellsRange : Try.prog.cellsOf 24 = 3 := by kernel_rfl
theorem cellsBytes : Try.prog.cellsOf 22 = 1 := by kernel_rfl
theorem cellsBool : Try.prog.cellsOf 4 = 1 := by kernel_rfl
theorem bulk_one {H : Type} (d : DataW H) : 1 ≤ Rows.uptoBulk d := by
  cases d with
  | lit l => cases l <;> simp [Rows.uptoBulk]
  | nil => simp [Rows.uptoBulk]
  | ptr d => simp [Rows.uptoBulk]
  | slice elems spare => simp [Rows.uptoBulk]
  | agg parts => simp [Rows.uptoBulk]
  | iface t d => simp [Rows.uptoBulk]
  | map entries => simp [Rows.uptoBulk]
  | held h => simp [Rows.uptoBulk]
theorem bulk_length {H : Type} (l : List (DataW H)) : l.length ≤ Rows.uptoBulkAll l := by
  induction l with
  | nil => simp [Rows.uptoBulkAll]
  | cons x r ih => have := bulk_one x; simp only [Rows.uptoBulkAll, List.length_cons]; omega
theorem bulk_mem {H : Type} {d : DataW H} : ∀ {l : List (DataW H)}, d ∈ l → Rows.uptoBulk d ≤ Rows.uptoBulkAll l
  | x :: r, hd => by
    simp only [Rows.uptoBulkAll]
    rcases List.mem_cons.1 hd with rfl | hd
    · omega
    · have := bulk_mem hd; omega
/-- how much came in: little enough by weight, or by number -/
def Lit' {H : Type} (t : TypeId) (d : DataW H) : Prop := (∀ x ∈ d.weights Try.prog t, x ≤ reachBytes) ∨ Rows.uptoBulk d ≤ 1048576
/-- a slice of integers that came in: nil, or a row of 'cap' cells, the numbers 'zs' -/
def IsRow (k : IntKind) (w : World) (a : Option Addr) (len cap : Nat) (zs : List Int) : Prop :=
  (a = none ∧ len = 0 ∧ cap = 0 ∧ zs = []) ∨
  ∃ x, a = some x ∧ len ≤ cap ∧ cap ≤ maxLen ∧ zs.length = cap ∧ (∀ i, i < zs.length → w.cell? (x.add i) = some (.int k (zs.getD i 0))) ∧ ∀ n ∈ zs, (Lit.int k n).wf = true
theorem isrow_bs {w : World} {a : Option Addr} {len cap : Nat} {zs : List Int} (h : IsRow .u8 w a len cap zs) :
    ∃ l : List Nat, len = l.length ∧ Bs w a l ∧ l.length ≤ maxLen ∧ len ≤ cap := by
  rcases h with ⟨rfl, rfl, rfl, rfl⟩ | ⟨x, rfl, hl, hm, hz, hcell, hwz⟩
  · exact ⟨[], rfl, ⟨by simp, by simp, .inl rfl⟩, by simp, Nat.le_refl _⟩
  · have hlen : ((zs.take len).map Int.toNat).length = len := by simp; omega
    have hpos : ∀ n ∈ zs, 0 ≤ n ∧ n < 256 := fun n hn => by have := bounds_u8 (hwz n hn); omega
    refine ⟨(zs.take len).map Int.toNat, hlen.symm, ⟨?_, ?_, ?_⟩, by rw [hlen]; omega, hl⟩
    · intro y hy
      simp only [List.mem_map] at hy
      obtain ⟨n, hn, rfl⟩ := hy
      have := hpos n (List.mem_of_mem_take hn)
      omega
    · rw [hlen]; unfold maxLen at hm; omega
    · by_cases h0 : len = 0
      · left; subst h0; simp
      · right
        obtain ⟨b, off, spot⟩ := x
        have hspot : spot = none := by simpa [Addr.add] using World.cell?_spot (hcell 0 (by omega))
        subst hspot
        refine ⟨b, off, rfl, fun i hi => ?_⟩
        rw [hlen] at hi
        have hc := hcell i (by omega)
        have hzi : i < zs.length := by omega
        have hp := hpos zs[i] (List.getElem_mem _)
        have e1 : ((zs.take len).map Int.toNat).getD i 0 = zs[i].toNat := by simp [hzi, hi]
        have e2 : zs.getD i 0 = zs[i] := by simp [hzi]
        rw [e1, Int.toNat_of_nonneg hp.1]
        rw [e2, Addr.add_mid] at hc
        exact hc
theorem open_bytes_cs {H : Type} {enc : TypeId × Value → H} {W : World} {fuel : Nat} {cs : List Value} {d : DataW H} {p : List MemPlace}
    (hf : DataW.trod enc Try.prog W 0 (fun _ => true) true fuel 22 cs = some (d, p)) (hd : Lit' 22 d) :
    ∃ (a : Option Addr) (l : List Nat) (cap : Nat), cs = [.slice a l.length cap] ∧ Bs W a l ∧ l.length + 64 ≤ 140737488355328 ∧ l.length ≤ cap ∧ l.length ≤ Rows.uptoBulk d := by
  rcases open_ints Try.underlying22 Try.underlying5 (by kernel_rfl) hf with ⟨hcs, _⟩ | ⟨x, l, c, zs, hcs, _, hl, hm, hz, hx, hcell, hwz⟩
  · exact ⟨none, [], 0, hcs, Bs.nil W, by decide, Nat.le_refl _, Nat.zero_le _⟩
  · simp only [Prod.mk.injEq] at hx
    simp only [if_true] at hz
    have h3 : (lits (H := H) .u8 (zs.take l)).length + (lits (H := H) .u8 (zs.drop l)).length = c := by simp [lits]; omega
    obtain ⟨k, hk, hB, _, hc⟩ := isrow_bs (.inr ⟨_, rfl, hl, hm, hz, hcell, hwz⟩)
    have h1 := bulk_length (lits (H := H) .u8 (zs.take l))
    have e : (lits (H := H) .u8 (zs.take l)).length = l := by simp [lits]; omega
    have hbk : k.length ≤ Rows.uptoBulk d := by
      rw [hx.1]
      simp only [Rows.uptoBulk]
      omega
    subst hk
    refine ⟨some x, k, c, hcs, hB, ?_, hc, hbk⟩
    rcases hd with hd | hd
    · have h2 := hd (((lits (H := H) .u8 (zs.take k.length)).length + (lits (H := H) .u8 (zs.drop k.length)).length) * Try.prog.bytesOf 5) (by rw [hx.1]; simp only [DataW.weights, Try.underlying22, List.mem_cons]; exact .inl trivial)
      rw [h3, bytesU8] at h2
      unfold reachBytes at h2
      omega
    · omega
theorem open_bytes {H : Type} {enc : TypeId × Value → H} {W : World} {a : Option Addr} {len cap : Nat} {d : DataW H} {p : List MemPlace}
    (h : DataW.Trod enc Try.prog W 0 (fun _ => true) true 22 (.slice a len cap) d p) (hd : Lit' 22 d) :
    ∃ l : List Nat, len = l.length ∧ Bs W a l ∧ l.length + 64 ≤ 140737488355328 ∧ l.length ≤ cap := by
  obtain ⟨fuel, hf⟩ := h
  obtain ⟨a', l, cap', hcs, h1, h2, h3, _⟩ := open_bytes_cs hf hd
  simp only [Value.cells, List.cons.injEq, and_true, Value.slice.injEq] at hcs
  obtain ⟨rfl, rfl, rfl⟩ := hcs
  exact ⟨l, rfl, h1, h2, h3⟩
theorem list3 {α : Type} {l : List α} (h : l.length = 3) : ∃ a b c, l = [a, b, c] := by
  match l, h with
  | [a, b, c], _ => exact ⟨a, b, c, rfl⟩
theorem trod_struct3 {H : Type} {enc : TypeId × Value → H} {P : Program} {w : World} {base : Nat} {spare : Nat → Bool} {held : Bool} {t : TypeId} {f0 f1 f2 : Field} {fuel : Nat} {cs : List Value} {x : DataW H × List MemPlace} (ht : P.underlying t = some (.struct #[f0, f1, f2])) (h : DataW.trod enc P w base spare held fuel t cs = some x) :
    ∃ y0 y1 y2 n, x.1 = .agg [y0.1, y1.1, y2.1] ∧ cs.length = P.cellsOf t ∧ DataW.trod enc P w base spare held n f0.type ((cs.drop f0.offset).take (P.cellsOf f0.type)) = some y0 ∧
      DataW.trod enc P w base spare held n f1.type ((cs.drop f1.offset).take (P.cellsOf f1.type)) = some y1 ∧ DataW.trod enc P w base spare held n f2.type ((cs.drop f2.offset).take (P.cellsOf f2.type)) = some y2 := by
  obtain ⟨xs, n, _, rfl, hl, hlen, hf⟩ := DataW.trod_struct ht h
  match xs, hlen with
  | [y0, y1, y2], _ => exact ⟨y0, y1, y2, n, by simp, hl, by simpa using hf 0 f0 rfl, by simpa using hf 1 f1 rfl, by simpa using hf 2 f2 rfl⟩
/-- the lists of a range are short of the bound by 64 -/
def Rb' (r : Rv) : Prop := r.lo.length + 64 ≤ 140737488355328 ∧ r.hi.length + 64 ≤ 140737488355328
theorem Rb'.rb {r : Rv} (h : Rb' r) : Rb r := ⟨by have := h.1; omega, by have := h.2; omega⟩
theorem open_range_cs {H : Type} {enc : TypeId × Value → H} {W : World} {fuel : Nat} {cs : List Value} {d : DataW H} {p : List MemPlace}
    (h : DataW.trod enc Try.prog W 0 (fun _ => true) true fuel 24 cs = some (d, p)) (hd : Lit' 24 d) :
    ∃ r : Rv, cs = r.cs.toList ∧ Ri W r ∧ Rb' r ∧ r.lo.length + r.hi.length ≤ Rows.uptoBulk d := by
  obtain ⟨y0, y1, y2, n, hx, hl, h0, h1, h2⟩ := trod_struct3 Try.underlying24 h
  obtain ⟨c0, c1, c2, rfl⟩ := list3 (hl.trans cellsRange)
  simp only [cellsBytes, cellsBool, List.drop_zero, List.drop_succ_cons, List.take_succ_cons, List.take_zero] at h0 h1 h2
  obtain ⟨b, e2, _⟩ := DataW.trod_bool Try.underlying4 h2
  have hd' : d = .agg [y0.1, y1.1, y2.1] := hx
  have w0 : Lit' 22 y0.1 := by
    rcases hd with hd | hd
    · refine .inl fun x hx => hd x ?_
      rw [hd']
      simp only [DataW.weights, Try.underlying24, List.map_cons, List.map_nil, DataW.weightsEach, List.mem_append]
      simp [hx]
    · refine .inr ?_
      rw [hd'] at hd
      simp only [Rows.uptoBulk, Rows.uptoBulkAll] at hd
      omega
  have w1 : Lit' 22 y1.1 := by
    rcases hd with hd | hd
    · refine .inl fun x hx => hd x ?_
      rw [hd']
      simp only [DataW.weights, Try.underlying24, List.map_cons, List.map_nil, DataW.weightsEach, List.mem_append]
      simp [hx]
    · refine .inr ?_
      rw [hd'] at hd
      simp only [Rows.uptoBulk, Rows.uptoBulkAll] at hd
      omega
  obtain ⟨a0, l0, k0, e0, b0, n0, m0, u0⟩ := open_bytes_cs (d := y0.1) (p := y0.2) h0 w0
  obtain ⟨a1, l1, k1, e1, b1, n1, m1, u1⟩ := open_bytes_cs (d := y1.1) (p := y1.2) h1 w1
  simp only [List.cons.injEq, and_true] at e0 e1 e2
  subst e0 e1 e2
  refine ⟨⟨a0, k0, l0, a1, k1, l1, b⟩, rfl, ⟨b0, m0, b1, m1⟩, ⟨n0, n1⟩, ?_⟩
  rw [hd']
  simp only [Rows.uptoBulk, Rows.uptoBulkAll]
  omega
theorem open_range {H : Type} {enc : TypeId × Value → H} {W : World} {cs : Array Value} {d : DataW H} {p : List MemPlace}
    (h : DataW.Trod enc Try.prog W 0 (fun _ => true) true 24 (.agg cs) d p) (hd : Lit' 24 d) :
    ∃ r : Rv, cs = r.cs ∧ Ri W r ∧ Rb' r := by
  obtain ⟨fuel, hf⟩ := h
  obtain ⟨r, hcs, h1, h2, _⟩ := open_range_cs hf hd
  refine ⟨r, ?_, h1, h2⟩
  have : cs.toList = r.cs.toList := hcs
  exact Array.toList_inj.1 this
set_option maxRecDepth 100000 in
/-- ranges that came in -/
theorem open_ranges_cs {H : Type} {enc : TypeId × Value → H} {W : World} {fuel : Nat} {cs : List Value} {d : DataW H} {p : List MemPlace}
    (hf : DataW.trod enc Try.prog W 0 (fun _ => true) true fuel 38 cs = some (d, p)) (hd : Rows.uptoBulk d ≤ 1048576) :
    ∃ (a : Option Addr) (L : List Rv) (cap : Nat), cs = [.slice a L.length cap] ∧ Qs W a L ∧ L.length ≤ 1048576 ∧ (∀ r ∈ L, r.lo.length + r.hi.length ≤ 1048576) ∧ L.length ≤ cap := by
  rcases Deep.open_slice Try.underlying38 hf with ⟨hcs, _⟩ | ⟨x, len, cap, m, n, D, Pl, hcs, _, hl, hm, hmm, hx, hrows⟩
  · exact ⟨none, [], 0, hcs, ⟨by simp, by simp, .inl rfl⟩, by simp, by simp, Nat.le_refl _⟩
  · simp only [Prod.mk.injEq] at hx
    obtain ⟨rfl, _⟩ := hx
    simp only [if_true] at hmm
    subst hmm
    have hlen : len ≤ 1048576 := by
      simp only [Rows.uptoBulk] at hd
      have h1 := bulk_length ((List.range len).map D)
      rw [List.length_map, List.length_range] at h1
      omega
    by_cases h0 : len = 0
    · subst h0
      exact ⟨some x, [], m, hcs, ⟨by simp, by simp, .inl rfl⟩, by simp, by simp, Nat.zero_le _⟩
    · have hmemD : ∀ r, r < len → D r ∈ (List.range len).map D := fun r hr => List.mem_map.2 ⟨r, List.mem_range.2 hr, rfl⟩
      have hbD : ∀ r, r < len → Rows.uptoBulk (D r) ≤ 1048576 := fun r hr => by
        have h1 := bulk_mem (hmemD r hr)
        simp only [Rows.uptoBulk] at hd
        omega
      obtain ⟨b, off, spot⟩ := x
      have hspot : spot = none := by
        obtain ⟨cs, hc, ht⟩ := hrows 0 (by omega)
        obtain ⟨f, rfl, _⟩ := open_range_cs ht (.inr (hbD 0 (by omega)))
        generalize hk : (0 : Nat) = k0 at hc
        rw [cellsRange] at hc
        obtain ⟨_, _, hce⟩ := World.cells?_some hc
        have e0 := (hce 0 (by decide)).trans (show f.cs.toList[0]? = some (.slice f.aL f.lo.length f.cL) from rfl)
        have hs0 := World.cell?_spot e0
        subst hk
        simpa [Addr.add] using hs0
      subst hspot
      have each : ∀ r, r < len → ∃ v : Rv, W.rangeAt b (off + r * 3) v.cs.toList ∧ Ri W v ∧ v.lo.length + v.hi.length ≤ 1048576 := by
        intro r hr
        obtain ⟨cs, hc, ht⟩ := hrows r (by omega)
        obtain ⟨v, rfl, h1, _, h2⟩ := open_range_cs ht (.inr (hbD r hr))
        rw [cellsRange] at hc
        obtain ⟨_, _, hce⟩ := World.cells?_some hc
        refine ⟨v, fun j u hu => ?_, h1, Nat.le_trans h2 (hbD r hr)⟩
        have hj : j < 3 := (List.getElem?_eq_some_iff.1 hu).1
        have h := hce j hj
        rw [Deep.add_add, Addr.add_mid, ← Nat.add_assoc] at h
        exact h.trans hu
      haveI : Inhabited Rv := ⟨Rv.zero⟩
      obtain ⟨F, hF⟩ := Deep.choose_lt each
      have hget : ∀ r, r < len → ((List.range len).map F).getD r Rv.zero = F r := fun r hr => by simp [hr]
      have hlenL : ((List.range len).map F).length = len := by simp
      refine ⟨some ⟨b, off, none⟩, (List.range len).map F, m, by rw [hlenL]; exact hcs, ⟨fun v hv => ?_, by rw [hlenL]; omega, .inr ⟨b, off, rfl, fun r hr => ?_⟩⟩, by rw [hlenL]; exact hlen, fun v hv => ?_, by rw [hlenL]; exact hl⟩
      · obtain ⟨r, hr, rfl⟩ := List.mem_map.1 hv
        exact (hF r (List.mem_range.1 hr)).2.1
      · rw [hlenL] at hr
        rw [hget r hr]
        exact (hF r hr).1
      · obtain ⟨r, hr, rfl⟩ := List.mem_map.1 hv
        exact (hF r (List.mem_range.1 hr)).2.2
theorem open_ranges {H : Type} {enc : TypeId × Value → H} {W : World} {a : Option Addr} {len cap : Nat} {d : DataW H} {p : List MemPlace}
    (h : DataW.Trod enc Try.prog W 0 (fun _ => true) true 38 (.slice a len cap) d p) (hd : Rows.uptoBulk d ≤ 1048576) :
    ∃ L : List Rv, len = L.length ∧ Qs W a L ∧ L.length ≤ 1048576 ∧ (∀ r ∈ L, r.lo.length + r.hi.length ≤ 1048576) ∧ L.length ≤ cap := by
  obtain ⟨fuel, hf⟩ := h
  obtain ⟨a', L, cap', hcs, h1, h2, h3, h4⟩ := open_ranges_cs hf hd
  simp only [Value.cells, List.cons.injEq, and_true, Value.slice.injEq] at hcs
  obtain ⟨rfl, rfl, rfl⟩ := hcs
  exact ⟨L, rfl, h1, h2, h3, h4⟩
end Go.Proofs.Ytbobnfjbbablkab
