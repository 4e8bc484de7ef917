import Derived.Test.YtbhigodjbfoeoaaGreatWpGXC
import Derived.Test.YtbhigodjbfoeoaaGreatRows
import Derived.ProofKit
import Derived.OpenShut
import Derived.ShutString
import Derived.ChangeOld
import Derived.Deep.Slices
import Derived.SizedLaws
import Derived.JoinedCond
namespace Go.Proofs.YtbhigodjbfoeoaaGreat
open Go.ChangeShapes Go.WideShapes Go.ChangeAt Go.RowKit
theorem own : ownKnob Tryz.prog.godebug = none := by kernel_rfl
theorem laidOut : laidOutB Tryz.prog = true := by kernel_rfl
theorem bytesU8 : Tryz.prog.bytesOf 5 = 1 := by kernel_rfl
theorem cellsBytes : Tryz.prog.cellsOf 32 = 1 := by kernel_rfl
theorem bulk_one {H : Type} (d : DataW H) : 1 ≤ Rows.uptoBulk d := by
  cases d with
  | lit l => cases l <;> simp [Rows.uptoBulk]
  | nil => simp [Rows.uptoBulk]
  | ptr d => simp [Rows.uptoBulk]
  | slice elems spare => simp [Rows.uptoBulk]
  | agg parts => simp [Rows.uptoBulk]
  | iface t d => simp [Rows.uptoBulk]
  | map entries => simp [Rows.uptoBulk]
  | held h => simp [Rows.uptoBulk]
theorem bulk_length {H : Type} (l : List (DataW H)) : l.length ≤ Rows.uptoBulkAll l := by
  induction l with
  | nil => simp [Rows.uptoBulkAll]
  | cons x r ih => have := bulk_one x; simp only [Rows.uptoBulkAll, List.length_cons]; omega
theorem bulk_mem {H : Type} {d : DataW H} : ∀ {l : List (DataW H)}, d ∈ l → Rows.uptoBulk d ≤ Rows.uptoBulkAll l
  | x :: r, hd => by
    simp only [Rows.uptoBulkAll]
    rcases List.mem_cons.1 hd with rfl | hd
    · omega
    · have := bulk_mem hd; omega
/-- how much came in: little enough by weight, or by number -/
def Lit' {H : Type} (t : TypeId) (d : DataW H) : Prop := (∀ x ∈ d.weights Tryz.prog t, x ≤ reachBytes) ∨ Rows.uptoBulk d ≤ 1048576
/-- a slice of integers that came in: nil, or a row of 'cap' cells, the numbers 'zs' -/
def IsRow (k : IntKind) (w : World) (a : Option Addr) (len cap : Nat) (zs : List Int) : Prop :=
  (a = none ∧ len = 0 ∧ cap = 0 ∧ zs = []) ∨
  ∃ x, a = some x ∧ len ≤ cap ∧ cap ≤ maxLen ∧ zs.length = cap ∧ (∀ i, i < zs.length → w.cell? (x.add i) = some (.int k (zs.getD i 0))) ∧ ∀ n ∈ zs, (Lit.int k n).wf = true
theorem isrow_bs {w : World} {a : Option Addr} {len cap : Nat} {zs : List Int} (h : IsRow .u8 w a len cap zs) :
    ∃ l : List Nat, len = l.length ∧ Bs w a l ∧ l.length ≤ maxLen ∧ len ≤ cap := by
  rcases h with ⟨rfl, rfl, rfl, rfl⟩ | ⟨x, rfl, hl, hm, hz, hcell, hwz⟩
  · exact ⟨[], rfl, ⟨by simp, by simp, .inl rfl⟩, by simp, Nat.le_refl _⟩
  · have hlen : ((zs.take len).map Int.toNat).length = len := by simp; omega
    have hpos : ∀ n ∈ zs, 0 ≤ n ∧ n < 256 := fun n hn => by have := bounds_u8 (hwz n hn); omega
    refine ⟨(zs.take len).map Int.toNat, hlen.symm, ⟨?_, ?_, ?_⟩, by rw [hlen]; omega, hl⟩
    · intro y hy
      simp only [List.mem_map] at hy
      obtain ⟨n, hn, rfl⟩ := hy
      have := hpos n (List.mem_of_mem_take hn)
      omega
    · rw [hlen]; unfold maxLen at hm; omega
    · by_cases h0 : len = 0
      · left; subst h0; simp
      · right
        obtain ⟨b, off, spot⟩ := x
        have hspot : spot = none := by simpa [Addr.add] using World.cell?_spot (hcell 0 (by omega))
        subst hspot
        refine ⟨b, off, rfl, fun i hi => ?_⟩
        rw [hlen] at hi
        have hc := hcell i (by omega)
        have hzi : i < zs.length := by omega
        have hp := hpos zs[i] (List.getElem_mem _)
        have e1 : ((zs.take len).map Int.toNat).getD i 0 = zs[i].toNat := by simp [hzi, hi]
        have e2 : zs.getD i 0 = zs[i] := by simp [hzi]
        rw [e1, Int.toNat_of_nonneg hp.1]
        rw [e2, Addr.add_mid] at hc
        exact hc
theorem open_bytes_cs {H : Type} {enc : TypeId × Value → H} {W : World} {fuel : Nat} {cs : List Value} {d : DataW H} {p : List MemPlace}
    (hf : DataW.trod enc Tryz.prog W 0 (fun _ => true) true fuel 32 cs = some (d, p)) (hd : Lit' 32 d) :
    ∃ (a : Option Addr) (l : List Nat) (cap : Nat), cs = [.slice a l.length cap] ∧ Bs W a l ∧ l.length + 64 ≤ 140737488355328 ∧ l.length ≤ cap ∧ l.length ≤ Rows.uptoBulk d := by
  rcases open_ints Tryz.underlying32 Tryz.underlying5 (by kernel_rfl) hf with ⟨hcs, _⟩ | ⟨x, l, c, zs, hcs, _, hl, hm, hz, hx, hcell, hwz⟩
  · exact ⟨none, [], 0, hcs, Bs.nil W, by decide, Nat.le_refl _, Nat.zero_le _⟩
  · simp only [Prod.mk.injEq] at hx
    simp only [if_true] at hz
    have h3 : (lits (H := H) .u8 (zs.take l)).length + (lits (H := H) .u8 (zs.drop l)).length = c := by simp [lits]; omega
    obtain ⟨k, hk, hB, _, hc⟩ := isrow_bs (.inr ⟨_, rfl, hl, hm, hz, hcell, hwz⟩)
    have h1 := bulk_length (lits (H := H) .u8 (zs.take l))
    have e : (lits (H := H) .u8 (zs.take l)).length = l := by simp [lits]; omega
    have hbk : k.length ≤ Rows.uptoBulk d := by
      rw [hx.1]
      simp only [Rows.uptoBulk]
      omega
    subst hk
    refine ⟨some x, k, c, hcs, hB, ?_, hc, hbk⟩
    rcases hd with hd | hd
    · have h2 := hd (((lits (H := H) .u8 (zs.take k.length)).length + (lits (H := H) .u8 (zs.drop k.length)).length) * Tryz.prog.bytesOf 5) (by rw [hx.1]; simp only [DataW.weights, Tryz.underlying32, List.mem_cons]; exact .inl trivial)
      rw [h3, bytesU8] at h2
      unfold reachBytes at h2
      omega
    · omega
theorem open_bytes {H : Type} {enc : TypeId × Value → H} {W : World} {a : Option Addr} {len cap : Nat} {d : DataW H} {p : List MemPlace}
    (h : DataW.Trod enc Tryz.prog W 0 (fun _ => true) true 32 (.slice a len cap) d p) (hd : Lit' 32 d) :
    ∃ l : List Nat, len = l.length ∧ Bs W a l ∧ l.length + 64 ≤ 140737488355328 ∧ l.length ≤ cap := by
  obtain ⟨fuel, hf⟩ := h
  obtain ⟨a', l, cap', hcs, h1, h2, h3, _⟩ := open_bytes_cs hf hd
  simp only [Value.cells, List.cons.injEq, and_true, Value.slice.injEq] at hcs
  obtain ⟨rfl, rfl, rfl⟩ := hcs
  exact ⟨l, rfl, h1, h2, h3⟩
theorem n64 {z : Int} (h : (Lit.int .i64 z).wf = true) : N64 z := by
  have := bounds_i64 h
  exact ⟨by omega, by omega⟩
theorem weightsAll_mem {H : Type} {P : Program} {e : TypeId} {d : DataW H} : ∀ {l : List (DataW H)}, d ∈ l → ∀ n ∈ d.weights P e, n ∈ DataW.weightsAll P e l
  | x :: l, hd, n, hn => by
    simp only [DataW.weightsAll, List.mem_append]
    rcases List.mem_cons.1 hd with rfl | hd
    · exact .inl hn
    · exact .inr (weightsAll_mem hd n hn)
theorem bytesList : Tryz.prog.bytesOf 32 = 24 := by kernel_rfl
end Go.Proofs.YtbhigodjbfoeoaaGreat
