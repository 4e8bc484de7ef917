import Derived.Test.YtlkjpljfbmploaaBC
import Derived.Test.YtlkjpljfbmploaaRows
import Derived.ProofKit
import Derived.OpenShut
import Derived.ShutString
import Derived.ChangeOld
import Derived.Deep.Slices
import Derived.SizedLaws
import Derived.JoinedCond
namespace Go.Proofs.Ytlkjpljfbmploaa
open Go.ChangeShapes Go.WideShapes Go.ChangeAt Go.RowKit

theorem own : ownKnob Try.prog.godebug = none := by kernel_rfl
theorem laidOut : laidOutB Try.prog = true := by kernel_rfl
theorem bytesU8 : Try.prog.bytesOf 5 = 1 := by kernel_rfl
theorem cellsOp2 : Try.prog.cellsOf 35 = 4 := by kernel_rfl
theorem cellsU64' : Try.prog.cellsOf 32 = 1 := by kernel_rfl
theorem cellsInt' : Try.prog.cellsOf 3 = 1 := by kernel_rfl
theorem cellsBytes' : Try.prog.cellsOf 33 = 1 := by kernel_rfl
theorem cellsU8' : Try.prog.cellsOf 5 = 1 := by kernel_rfl

/-- a slice of integers that came in: nil, or a row of 'cap' cells, the numbers 'zs' -/
def IsRow (k : IntKind) (w : World) (a : Option Addr) (len cap : Nat) (zs : List Int) : Prop :=
  (a = none ∧ len = 0 ∧ cap = 0 ∧ zs = []) ∨
  ∃ x, a = some x ∧ len ≤ cap ∧ cap ≤ maxLen ∧ zs.length = cap ∧ (∀ i, i < zs.length → w.cell? (x.add i) = some (.int k (zs.getD i 0))) ∧ ∀ n ∈ zs, (Lit.int k n).wf = true
theorem le_i64 {a : Int} (h : (Lit.int .i64 a).wf = true) : -9223372036854775808 ≤ a ∧ a ≤ 9223372036854775807 := by
  have hb := bounds_i64 h
  omega
theorem nat_u64 {a : Int} (h : (Lit.int .u64 a).wf = true) : ∃ n : Nat, n < 18446744073709551616 ∧ a = n := by
  have hb := bounds_u64 h
  exact ⟨a.toNat, by omega, by omega⟩
theorem isrow_bs {w : World} {a : Option Addr} {len cap : Nat} {zs : List Int} (h : IsRow .u8 w a len cap zs) :
    ∃ l : List Nat, len = l.length ∧ Bs w a l ∧ l.length ≤ maxLen ∧ len ≤ cap := by
  rcases h with ⟨rfl, rfl, rfl, rfl⟩ | ⟨x, rfl, hl, hm, hz, hcell, hwz⟩
  · exact ⟨[], rfl, ⟨by simp, by simp, .inl rfl⟩, by simp, Nat.le_refl _⟩
  · have hlen : ((zs.take len).map Int.toNat).length = len := by simp; omega
    have hpos : ∀ n ∈ zs, 0 ≤ n ∧ n < 256 := fun n hn => by have := bounds_u8 (hwz n hn); omega
    refine ⟨(zs.take len).map Int.toNat, hlen.symm, ⟨?_, ?_, ?_⟩, by rw [hlen]; omega, hl⟩
    · intro y hy
      simp only [List.mem_map] at hy
      obtain ⟨n, hn, rfl⟩ := hy
      have := hpos n (List.mem_of_mem_take hn)
      omega
    · rw [hlen]; unfold maxLen at hm; omega
    · by_cases h0 : len = 0
      · left; subst h0; simp
      · right
        obtain ⟨b, off, spot⟩ := x
        have hspot : spot = none := by simpa [Addr.add] using World.cell?_spot (hcell 0 (by omega))
        subst hspot
        refine ⟨b, off, rfl, fun i hi => ?_⟩
        rw [hlen] at hi
        have hc := hcell i (by omega)
        have hzi : i < zs.length := by omega
        have hp := hpos zs[i] (List.getElem_mem _)
        have e1 : ((zs.take len).map Int.toNat).getD i 0 = zs[i].toNat := by simp [hzi, hi]
        have e2 : zs.getD i 0 = zs[i] := by simp [hzi]
        rw [e1, Int.toNat_of_nonneg hp.1]
        rw [e2, add_off] at hc
        exact hc
theorem bulk_one {H : Type} (d : DataW H) : 1 ≤ Rows.uptoBulk d := by
  cases d with
  | lit l => cases l <;> simp [Rows.uptoBulk]
  | nil => simp [Rows.uptoBulk]
  | ptr d => simp [Rows.uptoBulk]
  | slice elems spare => simp [Rows.uptoBulk]
  | agg parts => simp [Rows.uptoBulk]
  | iface t d => simp [Rows.uptoBulk]
  | map entries => simp [Rows.uptoBulk]
  | held h => simp [Rows.uptoBulk]
theorem bulk_length {H : Type} (l : List (DataW H)) : l.length ≤ Rows.uptoBulkAll l := by
  induction l with
  | nil => simp [Rows.uptoBulkAll]
  | cons x r ih => have := bulk_one x; simp only [Rows.uptoBulkAll, List.length_cons]; omega
theorem weightsAll_mem {H : Type} {P : Program} {e : TypeId} {d : DataW H} : ∀ {l : List (DataW H)}, d ∈ l → ∀ n ∈ d.weights P e, n ∈ DataW.weightsAll P e l
  | x :: r, hd, n, hn => by
    simp only [DataW.weightsAll, List.mem_append]
    rcases List.mem_cons.1 hd with rfl | hd
    · exact .inl hn
    · exact .inr (weightsAll_mem hd n hn)
theorem weights_elem {H : Type} {P : Program} {t e : TypeId} {d : DataW H} {el sp : List (DataW H)} (hu : P.underlying t = some (.slice e)) (hd : d ∈ el) (n : Nat) (hn : n ∈ d.weights P e) : n ∈ (DataW.slice el sp).weights P t := by
  simp only [DataW.weights, hu, List.mem_cons, List.mem_append]
  exact .inr (.inl (weightsAll_mem hd n hn))
theorem list4 {α : Type} {l : List α} (h : l.length = 4) : ∃ a b c d, l = [a, b, c, d] := by
  match l, h with
  | [a, b, c, d], _ => exact ⟨a, b, c, d, rfl⟩
theorem trod_struct4 {H : Type} {enc : TypeId × Value → H} {P : Program} {w : World} {base : Nat} {spare : Nat → Bool} {held : Bool} {t : TypeId} {f0 f1 f2 f3 : Field} {fuel : Nat} {cs : List Value} {x : DataW H × List MemPlace} (ht : P.underlying t = some (.struct #[f0, f1, f2, f3])) (h : DataW.trod enc P w base spare held fuel t cs = some x) :
    ∃ y0 y1 y2 y3 n, x.1 = .agg [y0.1, y1.1, y2.1, y3.1] ∧ cs.length = P.cellsOf t ∧ DataW.trod enc P w base spare held n f0.type ((cs.drop f0.offset).take (P.cellsOf f0.type)) = some y0 ∧
      DataW.trod enc P w base spare held n f1.type ((cs.drop f1.offset).take (P.cellsOf f1.type)) = some y1 ∧ DataW.trod enc P w base spare held n f2.type ((cs.drop f2.offset).take (P.cellsOf f2.type)) = some y2 ∧
      DataW.trod enc P w base spare held n f3.type ((cs.drop f3.offset).take (P.cellsOf f3.type)) = some y3 := by
  obtain ⟨xs, n, _, rfl, hl, hlen, hf⟩ := DataW.trod_struct ht h
  match xs, hlen with
  | [y0, y1, y2, y3], _ => exact ⟨y0, y1, y2, y3, n, by simp, hl, by simpa using hf 0 f0 rfl, by simpa using hf 1 f1 rfl, by simpa using hf 2 f2 rfl, by simpa using hf 3 f3 rfl⟩
theorem op_weights {H : Type} (y0 y1 y3 : DataW H) (el sp : List (DataW H)) : (el.length + sp.length) * Try.prog.bytesOf 5 ∈ (DataW.agg [y0, y1, .slice el sp, y3]).weights Try.prog 35 := by
  simp only [DataW.weights, Try.underlying35, List.map_cons, List.map_nil, DataW.weightsEach, Try.underlying33, List.mem_append, List.mem_cons]
  simp

theorem open_op {H : Type} {enc : TypeId × Value → H} {W : World} {fuel : Nat} {cs : List Value} {d : DataW H} {p : List MemPlace}
    (h : DataW.trod enc Try.prog W 0 (fun _ => true) true fuel 35 cs = some (d, p)) :
    ∃ f : Fd, cs = f.cells.toList ∧ f.n < 18446744073709551616 ∧ f.k ≤ 9223372036854775807 ∧ Bs W f.a f.l ∧ f.l.length ≤ Rows.uptoBulk d ∧ ((∀ x ∈ d.weights Try.prog 35, x ≤ reachBytes) → f.l.length + 64 ≤ 140737488355328) := by
  obtain ⟨y0, y1, y2, y3, n, hx, hl, h0, h1, h2, h3⟩ := trod_struct4 Try.underlying35 h
  obtain ⟨c0, c1, c2, c3, rfl⟩ := list4 (hl.trans cellsOp2)
  simp only [cellsU64', cellsInt', cellsBytes', List.drop_zero, List.drop_succ_cons, List.take_succ_cons, List.take_zero] at h0 h1 h2 h3
  obtain ⟨k, e0, _, wk⟩ := DataW.trod_int Try.underlying3 h0
  obtain ⟨s, e1, _, ws⟩ := DataW.trod_int Try.underlying32 h1
  obtain ⟨m, e3, _, wm⟩ := DataW.trod_int Try.underlying3 h3
  simp only [List.cons.injEq, and_true] at e0 e1 e3
  subst e0 e1 e3
  obtain ⟨s', hs, rfl⟩ := nat_u64 ws
  have hm := (le_i64 wm).2
  rcases open_ints Try.underlying33 Try.underlying5 cellsU8' h2 with ⟨hcs, _⟩ | ⟨a, len, cap, zs, hcs, _, hl', hm', hz, hy, hcell, hwz⟩
  · simp only [List.cons.injEq, and_true] at hcs
    subst hcs
    exact ⟨⟨k, s', none, 0, [], m⟩, rfl, hs, hm, Bs.nil W, Nat.zero_le _, fun _ => by show 0 + 64 ≤ 140737488355328; decide⟩
  · simp only [List.cons.injEq, and_true] at hcs
    subst hcs
    simp only [if_true] at hz
    have hrow : IsRow .u8 W (some a) len cap zs := .inr ⟨a, rfl, hl', hm', hz, hcell, hwz⟩
    obtain ⟨l, hll, hB, _, _⟩ := isrow_bs hrow
    have h3' : (lits (H := H) .u8 (zs.take len)).length + (lits (H := H) .u8 (zs.drop len)).length = cap := by simp [lits]; omega
    subst hll
    have hd : d = .agg [y0.1, y1.1, .slice (lits (H := H) .u8 (zs.take l.length)) (lits (H := H) .u8 (zs.drop l.length)), y3.1] := by rw [show d = _ from hx, hy]
    refine ⟨⟨k, s', some a, cap, l, m⟩, rfl, hs, hm, hB, ?_, fun hw => ?_⟩
    · rw [hd]
      simp only [Rows.uptoBulk, Rows.uptoBulkAll]
      have h1 := bulk_length (lits (H := H) .u8 (zs.take l.length))
      have e : (lits (H := H) .u8 (zs.take l.length)).length = l.length := by simp [lits]; omega
      rw [e] at h1
      omega
    · have hw := hw _ (by rw [hd]; exact op_weights _ _ _ _ _)
      rw [h3', bytesU8] at hw
      unfold reachBytes at hw
      show l.length + 64 ≤ _
      omega

theorem bulk_mem {H : Type} {d : DataW H} : ∀ {l : List (DataW H)}, d ∈ l → Rows.uptoBulk d ≤ Rows.uptoBulkAll l
  | x :: r, hd => by
    simp only [Rows.uptoBulkAll]
    rcases List.mem_cons.1 hd with rfl | hd
    · omega
    · have := bulk_mem hd; omega
theorem size_le (f : Fd) : f.size ≤ f.l.length + 8 := by
  unfold Fd.size
  repeat' split
  all_goals omega
theorem tot_small (F : Nat → Fd) (m : Nat) (h : ∀ r, r < m → (F r).l.length ≤ 1048576) : ∀ k, k ≤ m → tot F k ≤ k * 1048584
  | 0, _ => Nat.zero_le _
  | k + 1, hk => by
    have h1 := tot_small F m h k (by omega)
    have h2 := h k (by omega)
    have h3 := size_le (F k)
    rw [tot_succ]
    omega
theorem bytesOp2 : Try.prog.bytesOf 35 = 48 := by kernel_rfl
theorem slice_weight {H : Type} (el sp : List (DataW H)) : (el.length + sp.length) * Try.prog.bytesOf 35 ∈ (DataW.slice el sp).weights Try.prog 22 := by
  simp only [DataW.weights, Try.underlying22, List.mem_cons]
  exact .inl trivial
/-- calls that came in -/
theorem open_ops {H : Type} {enc : TypeId × Value → H} {W : World} {fuel : Nat} {a : Option Addr} {len cap : Nat} {d : DataW H} {p : List MemPlace}
    (hf : DataW.trod enc Try.prog W 0 (fun _ => true) true fuel 22 [.slice a len cap] = some (d, p)) (hd : (∀ x ∈ d.weights Try.prog 22, x ≤ reachBytes) ∨ Rows.uptoBulk d ≤ 1048576) :
    ∃ F : Nat → Fd, FdsO W a len F ∧ len ≤ 2932031007402 ∧ (Rows.uptoBulk d ≤ 1048576 → tot F len ≤ 4398046511104) := by
  rcases Deep.open_slice Try.underlying22 hf with ⟨hcs, _⟩ | ⟨x, l, c, m, n, D, Pl, hcs, _, hl, hm, hmm, hx, hrows⟩
  · simp only [List.cons.injEq, and_true, Value.slice.injEq] at hcs
    obtain ⟨rfl, rfl, rfl⟩ := hcs
    exact ⟨fun _ => ⟨0, 0, none, 0, [], 0⟩, .inl rfl, Nat.zero_le _, fun _ => Nat.zero_le _⟩
  · simp only [List.cons.injEq, and_true, Value.slice.injEq] at hcs
    obtain ⟨rfl, rfl, rfl⟩ := hcs
    simp only [Prod.mk.injEq] at hx
    obtain ⟨rfl, _⟩ := hx
    simp only [if_true] at hmm
    subst hmm
    have hlen : len ≤ 2932031007402 := by
      rcases hd with hd | hd
      · have h1 := hd _ (slice_weight _ _)
        rw [bytesOp2, List.length_map, List.length_range] at h1
        unfold reachBytes at h1
        omega
      · simp only [Rows.uptoBulk] at hd
        have h1 := bulk_length ((List.range len).map D)
        rw [List.length_map, List.length_range] at h1
        omega
    by_cases h0 : len = 0
    · subst h0
      exact ⟨fun _ => ⟨0, 0, none, 0, [], 0⟩, .inl rfl, Nat.zero_le _, fun _ => Nat.zero_le _⟩
    · have hmemD : ∀ r, r < len → D r ∈ (List.range len).map D := fun r hr => List.mem_map.2 ⟨r, List.mem_range.2 hr, rfl⟩
      obtain ⟨b, off, spot⟩ := x
      have hspot : spot = none := by
        obtain ⟨cs, hc, ht⟩ := hrows 0 (by omega)
        obtain ⟨f, rfl, _⟩ := open_op ht
        rw [cellsOp2] at hc
        obtain ⟨_, _, hce⟩ := World.cells?_some hc
        have e0 := hce 0 (by decide)
        have hs0 := World.cell?_spot (show W.cell? _ = some _ from e0)
        simpa [Addr.add] using hs0
      subst hspot
      have each : ∀ r, r < len → ∃ f : Fd, FdAt W b (off + r * 4) f ∧ f.ok W ∧ f.l.length ≤ Rows.uptoBulk (D r) := by
        intro r hr
        obtain ⟨cs, hc, ht⟩ := hrows r (by omega)
        obtain ⟨f, rfl, hn, hk, hB, hbk, hsz⟩ := open_op ht
        rw [cellsOp2] at hc
        obtain ⟨_, _, hce⟩ := World.cells?_some hc
        have hget : ∀ j, j < 4 → W.cell? ⟨b, off + r * 4 + j, none⟩ = f.cells.toList[j]? := by
          intro j hj
          have h := hce j hj
          rw [Deep.add_add, Addr.add_mid, ← Nat.add_assoc] at h
          exact h
        refine ⟨f, ⟨hget 0 (by decide), hget 1 (by decide), hget 2 (by decide), hget 3 (by decide)⟩, ⟨hn, hk, hB, ?_⟩, hbk⟩
        rcases hd with hd | hd
        · exact hsz fun z hz => hd z (weights_elem Try.underlying22 (hmemD r hr) z hz)
        · have h1 := bulk_mem (hmemD r hr)
          simp only [Rows.uptoBulk] at hd
          omega
      haveI : Inhabited Fd := ⟨⟨0, 0, none, 0, [], 0⟩⟩
      obtain ⟨F, hF⟩ := Deep.choose_lt each
      refine ⟨F, .inr ⟨b, off, rfl, fun r hr => ⟨(hF r hr).1, (hF r hr).2.1⟩⟩, hlen, fun hb => ?_⟩
      simp only [Rows.uptoBulk] at hb
      have h1 := tot_small F len (fun r hr => by have h1 := bulk_mem (hmemD r hr); have h2 := (hF r hr).2.2; omega) len (Nat.le_refl _)
      have h2 := bulk_length ((List.range len).map D)
      rw [List.length_map, List.length_range] at h2
      have h3 : len * 1048584 ≤ 1048576 * 1048584 := Nat.mul_le_mul_right _ (by omega)
      omega
end Go.Proofs.Ytlkjpljfbmploaa
