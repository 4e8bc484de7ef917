import Derived.Test.YtkhdbeambmfdfaaX
namespace Go.Proofs.Ytkhdbeambmfdfaa.sumParts
open Go.ChangeShapes Go.WideShapes Go.ChangeAt Go.RowKit
set_option linter.unusedVariables false

theorem cellsU8 : Try.prog.cellsOf 5 = 1 := by kernel_rfl
theorem cellsBytes : Try.prog.cellsOf 25 = 1 := by kernel_rfl

theorem walk {H : Type} {enc : TypeId × Value → H} {W : World} {a : Option Addr} {len cap : Nat} {d : DataW H} {p : List MemPlace}
    (h : DataW.Trod enc Try.prog W 0 (fun _ => true) true 41 (.slice a len cap) d p) (hk : Rows.uptoSmall H [d] = true) :
    Calls Try.prog 8 #[.slice a len cap] W fun e w' => e = .returned (.bool true) ∧ Below W.heap.size W w' := by
  obtain ⟨fuel, hf⟩ := h
  have hb : Rows.uptoBulkAll [d] ≤ 1048576 := of_decide_eq_true hk
  simp only [Rows.uptoBulkAll, Nat.add_zero] at hb
  rcases Deep.open_int_rows Try.underlying41 Try.underlying25 Try.underlying5 cellsBytes cellsU8 hf with ⟨hcs, _⟩ | ⟨x, l, c, A, L, C, Z, hcs, _, hl, hm, hx, hrows⟩
  · simp [Value.cells] at hcs
    obtain ⟨rfl, rfl, rfl⟩ := hcs
    exact parts_nil none 0 W
  · simp [Value.cells] at hcs
    obtain ⟨rfl, rfl, rfl⟩ := hcs
    simp only [Prod.mk.injEq] at hx
    obtain ⟨rfl, _⟩ := hx
    by_cases h0 : len = 0
    · subst h0; exact parts_nil _ cap W
    · obtain ⟨b, off, spot⟩ := x
      have hspot : spot = none := by simpa [Addr.add] using World.cell?_spot (hrows 0 (by omega)).1
      subst hspot
      have hrow : ∀ r, r < cap → IsRow .u8 W (A r) (L r) (C r) (Z r) := by
        intro r hr
        obtain ⟨_, r1, r2, r3, r4, r5, r6⟩ := hrows r hr
        cases hA : A r with
        | none =>
          have hC := r5 hA
          have hL : L r = 0 := by omega
          have hZ : Z r = [] := List.length_eq_zero_iff.1 (by omega)
          exact .inl ⟨rfl, hL, hC, hZ⟩
        | some a' => exact .inr ⟨a', rfl, r1, r2, r3, fun i hi => (r6 a' hA).2 i (by omega), r4⟩
      have hlen : ((List.range len).map fun r => ((Z r).take (L r)).map Int.toNat).length = len := by simp
      have hget : ∀ r, r < len → ((List.range len).map fun r => ((Z r).take (L r)).map Int.toNat).getD r [] = ((Z r).take (L r)).map Int.toNat := by
        intro r hr
        simp [hr]
      have hP : Ps W b off A C ((List.range len).map fun r => ((Z r).take (L r)).map Int.toNat) := by
        intro r hr
        rw [hlen] at hr
        rw [hget r hr]
        obtain ⟨h1, h2⟩ := isrow_bytes (hrow r (by omega))
        refine ⟨?_, h1⟩
        rw [h2]
        have ea : (⟨b, off, none⟩ : Addr).add r = ⟨b, off + r, none⟩ := by
          unfold Addr.add; split <;> simp_all
        have hc := (hrows r (by omega)).1
        rw [ea] at hc
        exact hc
      have h8 : ∀ p ∈ (List.range len).map fun r => ((Z r).take (L r)).map Int.toNat, ∀ y ∈ p, y < 256 := by
        intro p hp y hy
        obtain ⟨r, hr, rfl⟩ := List.mem_map.1 hp
        exact (isrow_bytes (hrow r (by have := List.mem_range.1 hr; omega))).1.1 y hy
      simp only [Rows.uptoBulk] at hb
      have hs : ((List.range len).map fun r => ((Z r).take (L r)).map Int.toNat).flatten.length ≤ 1048576 := by
        rw [List.length_flatten, List.map_map]
        have h1 := bulk_sum (H := H) (fun r => (((Z r).take (L r)).map Int.toNat).length * (if A r = none then 0 else 1)) (fun r => Deep.intRow .u8 (A r) (L r) (Z r)) (fun r => bulk_row .u8 (A r) (L r) (Z r)) (List.range len)
        have h2 : (List.range len).map (List.length ∘ fun r => ((Z r).take (L r)).map Int.toNat) = (List.range len).map (fun r => (((Z r).take (L r)).map Int.toNat).length * (if A r = none then 0 else 1)) := by
          apply List.map_congr_left
          intro r hr
          have hr' := List.mem_range.1 hr
          show (((Z r).take (L r)).map Int.toNat).length = _
          by_cases hA : A r = none
          · have hC := (hrows r (by omega)).2.2.2.2.2.1 hA
            have hL := (hrows r (by omega)).2.1
            have hL0 : L r = 0 := by omega
            rw [hL0]; simp
          · rw [if_neg hA, Nat.mul_one]
        rw [h2]
        omega
      have hn : ((List.range len).map fun r => ((Z r).take (L r)).map Int.toNat).length ≤ 1048576 := by
        have h1 := bulk_length ((List.range len).map fun r => Deep.intRow (H := H) .u8 (A r) (L r) (Z r))
        rw [hlen]
        rw [List.length_map, List.length_range] at h1
        omega
      have hw := parts_some b off cap A C _ W hP h8 hs hn
      rw [hlen] at hw
      exact hw

theorem contract (H : Type) (enc : TypeId × Value → H) (W : World) (base : Nat) (args : Array Value) (ds gs : List (DataW H)) (before : List MemPlace)
    (hval : ∀ (j : Nat) t v, Try.f8.params[j]? = some t → args[j]? = some v → Value.okWide Try.prog W .any base t v)
    (hW : DataW.Whole enc Try.prog Try.f8.params.toList Rows.sumPartsSpec.vars false W args.toList ds gs before) (hk : Rows.uptoSmall H (ds ++ gs) = true) :
    Calls Try.prog 8 args W fun e W' => ∃ v, e = .returned v ∧ Rows.sumPartsSpec.post enc Try.prog Try.f8 false true false false W args v W' := by
  have hW' := hW
  obtain ⟨p, q, hA0, hV, rfl, hfz, hnd⟩ := hW
  have hA : DataW.TrodAll enc Try.prog W 0 (fun _ => true) true Try.f8.params.toList args.toList ds p := hA0
  rw [Try.params8] at hA hval
  obtain ⟨v0, vs0, d0, ds0, p0, q0, hargs, rfl, rfl, h0, r0⟩ := trodAll_cons hA
  obtain ⟨rfl, rfl, rfl⟩ := trodAll_nil r0
  obtain rfl : args = #[v0] := by cases args; simp_all
  obtain ⟨rfl, rfl⟩ := trodVars_none hV
  have lt0 : ∀ x ∈ p0, x.block < W.heap.size := by obtain ⟨m, hm⟩ := h0; exact DataW.trod_lt m _ _ _ hm
  obtain ⟨a0, len0, cap0, rfl⟩ := okWide_slice Try.underlying41 (hval 0 41 v0 rfl rfl)
  clear hA0
  simp only [List.append_nil] at hk
  refine (walk h0 hk).mono fun e W' ⟨he, bel⟩ => ?_
  subst he
  exact ⟨_, rfl, _, _, _, [], _, [], hW', trodAll_mk1 (shut_bool Try.underlying4 _), (trodAll_cons_mk (Below.trod laidOut (by kernel_rfl) (of_decide_eq_true (by kernel_rfl)) h0 bel lt0) trodAll_mk0), rfl, bel.frame _, fun h => by cases h⟩

set_option maxRecDepth 100000 in
theorem lifted (os : Os) (started : os.Started) (H : Type) (enc : TypeId × Value → H) (F : Stop.Interp) :
    ReturnsInHanded {} Try.checked os 8 .any ((Rows.OpenSpec.upto Rows.sumPartsSpec).pre6 enc Try.prog Try.f8 Rows.sumPartsUptoRow.domain false) (((Rows.OpenSpec.upto Rows.sumPartsSpec).at F).post enc Try.prog Try.f8 false true false false) := by
  refine returnsInHanded_of_cond (C := Try.checked) (s := Rows.OpenSpec.upto Rows.sumPartsSpec) (k := Rows.uptoSmall) rfl own started (by kernel_rfl) Try.func8
    (OpenSpec.witness (enc := enc) (C := Try.checked) (s := Rows.OpenSpec.upto Rows.sumPartsSpec) (k := Rows.uptoSmall) rfl false ⟨#[], #[.slice none 0 0], []⟩ 8 (by kernel_rfl) (by kernel_rfl) (by kernel_rfl)
      (x := ([.nil], [], [])) (by kernel_rfl) rfl (by kernel_rfl)) ?_
  intro W base args ds gs before hval hW _ hk _
  exact contract H enc W base args ds gs before hval hW hk

theorem proved : Rows.SumPartsUptoSaid :=
  OpenClaim.holds_of_cond 8 Try.f8 rfl rfl rfl rfl rfl rfl rfl ⟨rfl, rfl, rfl, rfl, rfl⟩ rfl rfl rfl rfl rfl (by kernel_rfl) Try.func8 (by kernel_rfl)
    (of_decide_eq_true (by kernel_rfl)) (by unfold Func.isWrapper; first | (rw [if_pos (by decide +kernel)]; kernel_rfl) | (rw [if_neg (by decide +kernel)]; exact ⟨rfl, rfl⟩))
    (fun os started H enc _ F => lifted os started H enc F)
end Go.Proofs.Ytkhdbeambmfdfaa.sumParts
namespace Go.Proofs.Ytkhdbeambmfdfaa
theorem sumPartsUpto_holds : Rows.SumPartsUptoSaid := sumParts.proved
#print axioms sumPartsUpto_holds
end Go.Proofs.Ytkhdbeambmfdfaa
