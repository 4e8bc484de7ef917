import Derived.Test.YtkhdbeambmfdfaaY4
namespace Go.Proofs.Ytkhdbeambmfdfaa.sumAnswers
open Go.ChangeShapes Go.WideShapes Go.ChangeAt Go.RowKit
set_option linter.unusedVariables false

theorem walk {H : Type} {enc : TypeId × Value → H} {W : World} {a : Option Addr} {len cap : Nat} {d : DataW H} {p : List MemPlace}
    (h : DataW.Trod enc Try.prog W 0 (fun _ => true) true 22 (.slice a len cap) d p) (hd : ∀ x ∈ d.weights Try.prog 22, x ≤ reachBytes) :
    Calls Try.prog 3 #[.slice a len cap] W fun e w' => e = .returned (.bool true) ∧ Below W.heap.size W w' := by
  obtain ⟨fuel, hf⟩ := h
  rcases Deep.open_slice Try.underlying22 hf with ⟨hcs, _⟩ | ⟨x, l, c, m, n, D, Pl, hcs, _, hl, hm, hmm, hx, hrows⟩
  · simp [Value.cells] at hcs
    obtain ⟨rfl, rfl, rfl⟩ := hcs
    exact answers_nil none 0 W
  · simp [Value.cells] at hcs
    obtain ⟨rfl, rfl, rfl⟩ := hcs
    simp only [Prod.mk.injEq] at hx
    obtain ⟨rfl, _⟩ := hx
    simp only [if_true] at hmm
    subst hmm
    by_cases h0 : len = 0
    · subst h0; exact answers_nil _ m W
    · have hel : ∀ r, r < len → ∀ z ∈ (D r).weights Try.prog 27, z ≤ reachBytes := fun r hr z hz => hd z (weights_elem Try.underlying22 (List.mem_map.2 ⟨r, List.mem_range.2 hr, rfl⟩) z hz)
      obtain ⟨b, off, spot⟩ := x
      have hspot : spot = none := by
        obtain ⟨cs, hc, ht⟩ := hrows 0 (by omega)
        obtain ⟨kind, s, t, nn, a', c', l', rfl, _⟩ := open_op ht (hel 0 (by omega))
        rw [cellsOp] at hc
        obtain ⟨_, _, hce⟩ := World.cells?_some hc
        have e0 := hce 0 (by decide)
        have hs0 := World.cell?_spot (show W.cell? _ = some _ from e0)
        simpa [Addr.add] using hs0
      subst hspot
      have each : ∀ r, r < len → ∃ y : Int × Nat × Nat × Int × Option Addr × Nat × List Nat, OpAt W b (off + r * 5) y.1 y.2.1 y.2.2.1 y.2.2.2.1 y.2.2.2.2.1 y.2.2.2.2.2.2.length y.2.2.2.2.2.1 ∧ y.2.1 < 4294967296 ∧ y.2.2.1 < 4294967296 ∧ y.2.2.2.1 ≤ 9223372036854775807 ∧ Bs W y.2.2.2.2.1 y.2.2.2.2.2.2 ∧ y.2.2.2.2.2.2.length + 40 ≤ 140737488355328 := by
        intro r hr
        obtain ⟨cs, hc, ht⟩ := hrows r (by omega)
        obtain ⟨kind, s, t, nn, a', c', l', rfl, hs, htt, hn, hB, hlen⟩ := open_op ht (hel r hr)
        rw [cellsOp] at hc
        obtain ⟨_, _, hce⟩ := World.cells?_some hc
        have hget : ∀ j, j < 5 → W.cell? ⟨b, off + r * 5 + j, none⟩ = ([Value.int .i64 kind, .int .u32 s, .int .u32 t, .int .i64 nn, .slice a' l'.length c'] : List Value)[j]? := by
          intro j hj
          have h := hce j hj
          rw [Deep.add_add, Addr.add_mid, ← Nat.add_assoc] at h
          exact h
        exact ⟨(kind, s, t, nn, a', c', l'), ⟨hget 0 (by decide), hget 1 (by decide), hget 2 (by decide), hget 3 (by decide), hget 4 (by decide)⟩, hs, htt, hn, hB, hlen⟩
      obtain ⟨y, hy⟩ := Deep.choose_lt each
      exact answers_some b off len m (fun r => (y r).1) (fun r => (y r).2.1) (fun r => (y r).2.2.1) (fun r => (y r).2.2.2.1) (fun r => (y r).2.2.2.2.1) (fun r => (y r).2.2.2.2.2.1) (fun r => (y r).2.2.2.2.2.2) W hy (by unfold maxLen at hm; omega)

set_option maxRecDepth 100000 in
theorem lifted (os : Os) (started : os.Started) (H : Type) (enc : TypeId × Value → H) :
    ReturnsInHanded {} Try.checked os 3 .any (Rows.sumAnswersSpec.pre6 enc Try.prog Try.f3 Rows.sumAnswersRow.domain false) (Rows.sumAnswersSpec.post enc Try.prog Try.f3 false true false false) := by
  refine returnsInHanded_of_change_sized (C := Try.checked) own started (by kernel_rfl) Try.func3
    (ChangeSpec.witness6 (enc := enc) (C := Try.checked) false ⟨#[], #[.slice none 0 0], []⟩ 8 (by kernel_rfl) (by kernel_rfl) (by kernel_rfl) (by kernel_rfl)) ?_
  intro W base args ds gs before hval0 hW hcnd hsz0 _
  have hsz : (DataW.weightsEach Try.prog (Try.f3.params.toList ++ Rows.sumAnswersSpec.plain.varTypes Try.prog) (ds ++ gs)).all (· ≤ reachBytes) = true := hsz0
  have hval : ∀ (j : Nat) t v, Try.f3.params[j]? = some t → args[j]? = some v → Value.okWide Try.prog W .any base t v := hval0
  have hW' := hW
  obtain ⟨p, q, hA0, hV, rfl, hfz, hnd⟩ := hW
  have hA : DataW.TrodAll enc Try.prog W 0 (fun _ => true) true Try.f3.params.toList args.toList ds p := hA0
  rw [Try.params3] at hA hval hsz
  obtain ⟨v0, vs0, d0, ds0, p0, q0, hargs, rfl, rfl, h0, r0⟩ := trodAll_cons hA
  obtain ⟨rfl, rfl, rfl⟩ := trodAll_nil r0
  obtain rfl : args = #[v0] := by cases args; simp_all
  obtain ⟨rfl, rfl⟩ := trodVars_none hV
  have lt0 : ∀ x ∈ p0, x.block < W.heap.size := by obtain ⟨m, hm⟩ := h0; exact DataW.trod_lt m _ _ _ hm
  obtain ⟨a0, len0, cap0, rfl⟩ := okWide_slice Try.underlying22 (hval 0 22 v0 rfl rfl)
  clear hA0 hval0
  have hd : ∀ x ∈ d0.weights Try.prog 22, x ≤ reachBytes := fun x hx => by
    have h := List.all_eq_true.1 hsz x (DataW.weights_mem_each (j := 0) (t := 22) (d := d0) rfl rfl x hx)
    simpa using h
  refine (walk h0 hd).mono fun e W' ⟨he, bel⟩ => ?_
  subst he
  exact ⟨_, rfl, _, _, _, [], _, [], hW', trodAll_mk1 (shut_bool Try.underlying4 _), (trodAll_cons_mk (Below.trod laidOut (by kernel_rfl) (of_decide_eq_true (by kernel_rfl)) h0 bel lt0) trodAll_mk0), rfl, bel.frame _, fun h => by cases h⟩

theorem over : Rows.sumAnswersRow.holds Try.pinned (OpenSpec.ofChange Rows.sumAnswersSpec) :=
  OpenClaim.holds_of_wide 3 Try.f3 rfl rfl rfl rfl rfl rfl rfl ⟨rfl, rfl, rfl, rfl, rfl⟩ rfl rfl rfl rfl rfl (by kernel_rfl) Try.func3 (by kernel_rfl)
    (of_decide_eq_true (by kernel_rfl)) (by unfold Func.isWrapper; first | (rw [if_pos (by decide +kernel)]; kernel_rfl) | (rw [if_neg (by decide +kernel)]; exact ⟨rfl, rfl⟩))
    (fun os started H enc _ => lifted os started H enc)
end Go.Proofs.Ytkhdbeambmfdfaa.sumAnswers
namespace Go.Proofs.Ytkhdbeambmfdfaa
theorem sumAnswers_holds : Rows.SumAnswersSaid := sumAnswers.over
#print axioms sumAnswers_holds
end Go.Proofs.Ytkhdbeambmfdfaa
