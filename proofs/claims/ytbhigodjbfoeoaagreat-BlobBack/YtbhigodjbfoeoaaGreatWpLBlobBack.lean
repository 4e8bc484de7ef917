import Derived.Test.YtbhigodjbfoeoaaGreatWpHSA
import Derived.Test.YtbhigodjbfoeoaaGreatWpHZR
namespace Go.Proofs.YtbhigodjbfoeoaaGreat.blobBack
open Go.ChangeShapes Go.WideShapes Go.ChangeAt Go.RowKit
set_option linter.unusedVariables false
theorem walk {H : Type} {enc : TypeId × Value → H} {W : World} {n0 : Int} {d0 : DataW H} {p0 : List MemPlace} {a1 : Option Addr} {len1 cap1 : Nat} {d1 : DataW H} {p1 : List MemPlace} {a2 : Option Addr} {len2 cap2 : Nat} {d2 : DataW H} {p2 : List MemPlace} {a3 : Option Addr} {len3 cap3 : Nat} {d3 : DataW H} {p3 : List MemPlace}
    (h0 : DataW.Trod enc Tryz.prog W 0 (fun _ => true) true 3 (.int .i64 n0) d0 p0) (hd0 : ∀ x ∈ d0.weights Tryz.prog 3, x ≤ reachBytes)
    (h1 : DataW.Trod enc Tryz.prog W 0 (fun _ => true) true 32 (.slice a1 len1 cap1) d1 p1) (hd1 : ∀ x ∈ d1.weights Tryz.prog 32, x ≤ reachBytes)
    (h2 : DataW.Trod enc Tryz.prog W 0 (fun _ => true) true 32 (.slice a2 len2 cap2) d2 p2) (hd2 : ∀ x ∈ d2.weights Tryz.prog 32, x ≤ reachBytes)
    (h3 : DataW.Trod enc Tryz.prog W 0 (fun _ => true) true 41 (.slice a3 len3 cap3) d3 p3) (hd3 : ∀ x ∈ d3.weights Tryz.prog 41, x ≤ reachBytes)
    : Calls Tryz.prog 6 #[.int .i64 n0, .slice a1 len1 cap1, .slice a2 len2 cap2, .slice a3 len3 cap3] W fun e w' => e = .returned (.bool true) ∧ Below W.heap.size W w' := by
  obtain ⟨f0, hf0⟩ := h0
  obtain ⟨m0, e0, _, w0⟩ := DataW.trod_int Tryz.underlying3 hf0
  simp only [Value.cells, List.cons.injEq, and_true, Value.int.injEq, true_and] at e0
  subst e0
  obtain ⟨L1, e1, hB1, hN1, hC1⟩ := open_bytes h1 (.inl hd1)
  subst e1
  obtain ⟨L2, e2, hB2, hN2, hC2⟩ := open_bytes h2 (.inl hd2)
  subst e2
  obtain ⟨T3, e3, hT3, hN3, hC3⟩ := open_rows h3 (.inl hd3)
  subst e3
  exact blobBack_any W n0 (n64 w0) a1 cap1 L1 hB1 hN1 hC1 a2 cap2 L2 hB2 hN2 hC2 a3 cap3 T3 hT3 hN3 hC3
set_option maxRecDepth 100000 in
theorem lifted (os : Os) (started : os.Started) (H : Type) (enc : TypeId × Value → H) :
    ReturnsInHanded {} Tryz.checked os 6 .any (Rows.blobBackSpec.pre6 enc Tryz.prog Tryz.f6 Rows.blobBackRow.domain false) (Rows.blobBackSpec.post enc Tryz.prog Tryz.f6 false true false false) := by
  refine returnsInHanded_of_change_sized (C := Tryz.checked) own started (by kernel_rfl) Tryz.func6
    (ChangeSpec.witness6 (enc := enc) (C := Tryz.checked) false ⟨#[], #[.int .i64 0, .slice none 0 0, .slice none 0 0, .slice none 0 0], []⟩ 8 (by kernel_rfl) (by kernel_rfl) (by kernel_rfl) (by kernel_rfl)) ?_
  intro W base args ds gs before hval0 hW hcnd hsz0 _
  have hsz : (DataW.weightsEach Tryz.prog (Tryz.f6.params.toList ++ Rows.blobBackSpec.plain.varTypes Tryz.prog) (ds ++ gs)).all (· ≤ reachBytes) = true := hsz0
  have hval : ∀ (j : Nat) t v, Tryz.f6.params[j]? = some t → args[j]? = some v → Value.okWide Tryz.prog W .any base t v := hval0
  have hW' := hW
  obtain ⟨p, q, hA0, hV, rfl, hfz, hnd⟩ := hW
  have hA : DataW.TrodAll enc Tryz.prog W 0 (fun _ => true) true Tryz.f6.params.toList args.toList ds p := hA0
  rw [Tryz.params6] at hA hval hsz
  obtain ⟨v0, vs0, d0, ds0, p0, q0, hargs, rfl, rfl, h0, r0⟩ := trodAll_cons hA
  obtain ⟨v1, vs1, d1, ds1, p1, q1, rfl, rfl, rfl, h1, r1⟩ := trodAll_cons r0
  obtain ⟨v2, vs2, d2, ds2, p2, q2, rfl, rfl, rfl, h2, r2⟩ := trodAll_cons r1
  obtain ⟨v3, vs3, d3, ds3, p3, q3, rfl, rfl, rfl, h3, r3⟩ := trodAll_cons r2
  obtain ⟨rfl, rfl, rfl⟩ := trodAll_nil r3
  obtain rfl : args = #[v0, v1, v2, v3] := by cases args; simp_all
  obtain ⟨rfl, rfl⟩ := trodVars_none hV
  have lt0 : ∀ x ∈ p0, x.block < W.heap.size := by obtain ⟨m, hm⟩ := h0; exact DataW.trod_lt m _ _ _ hm
  have lt1 : ∀ x ∈ p1, x.block < W.heap.size := by obtain ⟨m, hm⟩ := h1; exact DataW.trod_lt m _ _ _ hm
  have lt2 : ∀ x ∈ p2, x.block < W.heap.size := by obtain ⟨m, hm⟩ := h2; exact DataW.trod_lt m _ _ _ hm
  have lt3 : ∀ x ∈ p3, x.block < W.heap.size := by obtain ⟨m, hm⟩ := h3; exact DataW.trod_lt m _ _ _ hm
  obtain ⟨n0, rfl⟩ := okWide_int Tryz.underlying3 (hval 0 3 v0 rfl rfl)
  obtain ⟨a1, len1, cap1, rfl⟩ := okWide_slice Tryz.underlying32 (hval 1 32 v1 rfl rfl)
  obtain ⟨a2, len2, cap2, rfl⟩ := okWide_slice Tryz.underlying32 (hval 2 32 v2 rfl rfl)
  obtain ⟨a3, len3, cap3, rfl⟩ := okWide_slice Tryz.underlying41 (hval 3 41 v3 rfl rfl)
  clear hA0 hval0
  have hd0 : ∀ x ∈ d0.weights Tryz.prog 3, x ≤ reachBytes := fun x hx => by
    have h := List.all_eq_true.1 hsz x (DataW.weights_mem_each (j := 0) (t := 3) (d := d0) rfl rfl x hx)
    simpa using h
  have hd1 : ∀ x ∈ d1.weights Tryz.prog 32, x ≤ reachBytes := fun x hx => by
    have h := List.all_eq_true.1 hsz x (DataW.weights_mem_each (j := 1) (t := 32) (d := d1) rfl rfl x hx)
    simpa using h
  have hd2 : ∀ x ∈ d2.weights Tryz.prog 32, x ≤ reachBytes := fun x hx => by
    have h := List.all_eq_true.1 hsz x (DataW.weights_mem_each (j := 2) (t := 32) (d := d2) rfl rfl x hx)
    simpa using h
  have hd3 : ∀ x ∈ d3.weights Tryz.prog 41, x ≤ reachBytes := fun x hx => by
    have h := List.all_eq_true.1 hsz x (DataW.weights_mem_each (j := 3) (t := 41) (d := d3) rfl rfl x hx)
    simpa using h
  refine (walk h0 hd0 h1 hd1 h2 hd2 h3 hd3).mono fun e W' ⟨he, bel⟩ => ?_
  subst he
  exact ⟨_, rfl, _, _, _, [], _, [], hW', trodAll_mk1 (shut_bool Tryz.underlying4 _), (trodAll_cons_mk (Below.trod laidOut (by kernel_rfl) (of_decide_eq_true (by kernel_rfl)) h0 bel lt0) (trodAll_cons_mk (Below.trod laidOut (by kernel_rfl) (of_decide_eq_true (by kernel_rfl)) h1 bel lt1) (trodAll_cons_mk (Below.trod laidOut (by kernel_rfl) (of_decide_eq_true (by kernel_rfl)) h2 bel lt2) (trodAll_cons_mk (Below.trod laidOut (by kernel_rfl) (of_decide_eq_true (by kernel_rfl)) h3 bel lt3) trodAll_mk0)))), rfl, bel.frame _, fun h => by cases h⟩
theorem over : Rows.blobBackRow.holds Tryz.pinned (OpenSpec.ofChange Rows.blobBackSpec) :=
  OpenClaim.holds_of_wide 6 Tryz.f6 rfl rfl rfl rfl rfl rfl rfl ⟨rfl, rfl, rfl, rfl, rfl⟩ rfl rfl rfl rfl rfl (by kernel_rfl) Tryz.func6 (by kernel_rfl)
    (of_decide_eq_true (by kernel_rfl)) (by unfold Func.isWrapper; first | (rw [if_pos (by decide +kernel)]; kernel_rfl) | (rw [if_neg (by decide +kernel)]; exact ⟨rfl, rfl⟩))
    (fun os started H enc _ => lifted os started H enc)
end Go.Proofs.YtbhigodjbfoeoaaGreat.blobBack
namespace Go.Proofs.YtbhigodjbfoeoaaGreat
theorem blobBack_holds : Rows.BlobBackSaid := blobBack.over
#print axioms blobBack_holds
end Go.Proofs.YtbhigodjbfoeoaaGreat
