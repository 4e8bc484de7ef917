import Derived.Test.YtkhdbeambmfdfaaV
import Derived.Deep.Matrix
import Derived.JoinedCond
namespace Go.Proofs.Ytkhdbeambmfdfaa
open Go.ChangeShapes Go.WideShapes Go.ChangeAt Go.RowKit

theorem isrow_bytes {w : World} {a : Option Addr} {len cap : Nat} {zs : List Int} (h : IsRow .u8 w a len cap zs) :
    Bs w a ((zs.take len).map Int.toNat) ∧ ((zs.take len).map Int.toNat).length = len := by
  rcases h with ⟨rfl, rfl, rfl, rfl⟩ | ⟨x, rfl, hl, hm, hz, hcell, hwz⟩
  · exact ⟨⟨by simp, by simp, .inl rfl⟩, by simp⟩
  · have hlen : ((zs.take len).map Int.toNat).length = len := by simp; omega
    have hpos : ∀ n ∈ zs, 0 ≤ n ∧ n < 256 := fun n hn => by have := bounds_u8 (hwz n hn); omega
    refine ⟨⟨?_, ?_, ?_⟩, hlen⟩
    · intro y hy
      simp only [List.mem_map] at hy
      obtain ⟨n, hn, rfl⟩ := hy
      have := hpos n (List.mem_of_mem_take hn)
      omega
    · rw [hlen]; unfold maxLen at hm; omega
    · by_cases h0 : len = 0
      · left; subst h0; simp
      · right
        obtain ⟨b, off, spot⟩ := x
        have hspot : spot = none := by simpa [Addr.add] using World.cell?_spot (hcell 0 (by omega))
        subst hspot
        refine ⟨b, off, rfl, fun i hi => ?_⟩
        rw [hlen] at hi
        have hc := hcell i (by omega)
        have hzi : i < zs.length := by omega
        have hp := hpos zs[i] (List.getElem_mem _)
        have e1 : ((zs.take len).map Int.toNat).getD i 0 = zs[i].toNat := by simp [hzi, hi]
        have e2 : zs.getD i 0 = zs[i] := by simp [hzi]
        rw [e1, Int.toNat_of_nonneg hp.1]
        rw [e2] at hc
        have ea : (⟨b, off, none⟩ : Addr).add i = ⟨b, off + i, none⟩ := by
          unfold Addr.add; split <;> simp_all
        rw [ea] at hc
        exact hc

theorem bulk_one {H : Type} (d : DataW H) : 1 ≤ Rows.uptoBulk d := by
  cases d with
  | lit l => cases l <;> simp [Rows.uptoBulk]
  | nil => simp [Rows.uptoBulk]
  | ptr d => simp [Rows.uptoBulk]
  | slice elems spare => simp [Rows.uptoBulk]
  | agg parts => simp [Rows.uptoBulk]
  | iface t d => simp [Rows.uptoBulk]
  | map entries => simp [Rows.uptoBulk]
  | held h => simp [Rows.uptoBulk]
theorem bulk_length {H : Type} (l : List (DataW H)) : l.length ≤ Rows.uptoBulkAll l := by
  induction l with
  | nil => simp [Rows.uptoBulkAll]
  | cons x r ih => have := bulk_one x; simp only [Rows.uptoBulkAll, List.length_cons]; omega
theorem bulk_sum {H : Type} (f : Nat → Nat) (D : Nat → DataW H) (h : ∀ r, f r ≤ Rows.uptoBulk (D r)) : ∀ l : List Nat, (l.map f).sum ≤ Rows.uptoBulkAll (l.map D)
  | [] => by simp [Rows.uptoBulkAll]
  | x :: r => by
    have h1 := h x
    have h2 := bulk_sum f D h r
    simp only [List.map_cons, List.sum_cons, Rows.uptoBulkAll]
    omega
theorem bulk_row {H : Type} (k : IntKind) (A : Option Addr) (L : Nat) (zs : List Int) : ((zs.take L).map Int.toNat).length * (if A = none then 0 else 1) ≤ Rows.uptoBulk (Deep.intRow (H := H) k A L zs) := by
  cases A with
  | none => simp
  | some a =>
    have h1 := bulk_length (lits (H := H) k (zs.take L))
    have e : (lits (H := H) k (zs.take L)).length = (zs.take L).length := by simp [lits]
    simp only [Deep.intRow, Rows.uptoBulk, List.length_map, reduceCtorEq, if_false, Nat.mul_one]
    rw [e] at h1
    omega

set_option maxRecDepth 100000 in
set_option maxHeartbeats 4000000 in
theorem parts_nil (a : Option Addr) (cap : Nat) (w : World) :
    Calls Try.prog 8 #[.slice a 0 cap] w fun e w' => e = .returned (.bool true) ∧ Below w.heap.size w w' := by
  go_enter Try.func8, Try.ntmps8
  go_wp2_with fail
  refine (fixed_any _).mono ?_
  rintro e w1 ⟨rfl, hb1⟩
  go_wp2_with fail
  have hbel0 := bt hb1 ((Below.refl _ w1).alloc (Nat.le_refl _) (.cells #[] 5))
  have hrow0 := Bs_row (l := []) (heap_alloc_new w1 (.cells (bc []) 5)) (by simp) (by simp)
  refine (Of_any none 0 0 [] _ (Bs.nil _) rfl).mono ?_
  rintro e w2 ⟨rfl, hb2⟩
  go_wp2_with fail
  refine (Of_any none 0 0 [] _ (Bs.nil _) rfl).mono ?_
  rintro e w3 ⟨rfl, hb3⟩
  rw [M.of_nil, show ((0 : Nat) : Int) = 0 from rfl]
  have hB0 : Bs w3 (some ⟨w1.heap.size, 0, none⟩) [] := (Bs.keep hrow0 hb2).keep hb3
  have hbel3 := bt (bt hbel0 hb2) hb3
  clear hbel0 hrow0 hb1 hb2 hb3
  go_wp2
  refine wp_loop_rounds 1 ?_
  rw [rounds_succ]
  go_wp2_with fail
  refine (Of_any none 0 0 [] _ (Bs.nil _) rfl).mono ?_
  rintro e w4 ⟨rfl, hb4⟩
  rw [M.of_nil, show ((0 : Nat) : Int) = 0 from rfl]
  go_wp2
  refine wp_loop_rounds 1 ?_
  rw [rounds_succ]
  go_wp2_with fail
  refine (Of_any _ 0 0 [] _ (hB0.keep hb4) rfl).mono ?_
  rintro e w5 ⟨rfl, hb5⟩
  rw [M.of_nil, show ((0 : Nat) : Int) = 0 from rfl]
  go_wp2
  go_ret
  exact ⟨rfl, bt (bt hbel3 hb4) hb5⟩
end Go.Proofs.Ytkhdbeambmfdfaa
