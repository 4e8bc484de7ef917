import Derived.Test.YtlkjpljfbmploaaTB
import Derived.Test.YtlkjpljfbmploaaOA
namespace Go.Proofs.Ytlkjpljfbmploaa.wireTwo
open Go.ChangeShapes Go.WideShapes Go.ChangeAt Go.RowKit
set_option linter.unusedVariables false

theorem cellsTwoInt : Try.prog.cellsOf 60 = 2 := by kernel_rfl
theorem cellsTwoOps : Try.prog.cellsOf 61 = 2 := by kernel_rfl
theorem cellsOps : Try.prog.cellsOf 22 = 1 := by kernel_rfl
theorem cellsBool : Try.prog.cellsOf 4 = 1 := by kernel_rfl
theorem bytesBool : Try.prog.bytesOf 4 = 1 := by kernel_rfl
theorem okWide_two {t e : TypeId} {W : World} {r : Reach} {base : Nat} {v : Value} (ht : Try.prog.underlying t = some (.array 2 e)) (hc : Try.prog.cellsOf t = 2) (h : Value.okWide Try.prog W r base t v) : ∃ c0 c1, v = .agg #[c0, c1] := by
  simp only [Value.okWide, ht] at h
  obtain ⟨cs, rfl, h2, _⟩ := h
  obtain ⟨l⟩ := cs
  match l, (h2.trans hc : l.length = 2) with
  | [c0, c1], _ => exact ⟨c0, c1, rfl⟩
theorem trod_two {H : Type} {enc : TypeId × Value → H} {W : World} {t e : TypeId} {c0 c1 : Value} {d : DataW H} {p : List MemPlace} (ht : Try.prog.underlying t = some (.array 2 e)) (hc : Try.prog.cellsOf e = 1)
    (h : DataW.Trod enc Try.prog W 0 (fun _ => true) true t (.agg #[c0, c1]) d p) :
    ∃ y0 y1 n, d = .agg [y0.1, y1.1] ∧ DataW.trod enc Try.prog W 0 (fun _ => true) true n e [c0] = some y0 ∧ DataW.trod enc Try.prog W 0 (fun _ => true) true n e [c1] = some y1 := by
  obtain ⟨fuel, hf⟩ := h
  obtain ⟨xs, n, _, hx, hl, hlen, hi⟩ := DataW.trod_array ht hf
  have i0 := hi 0 (by decide)
  have i1 := hi 1 (by decide)
  rw [hc] at i0 i1
  match xs, hlen with
  | [y0, y1], _ =>
    simp only [Prod.mk.injEq] at hx
    exact ⟨y0, y1, n, by simpa using hx.1, by simpa [Value.cells] using i0, by simpa [Value.cells] using i1⟩
theorem open_most {H : Type} {enc : TypeId × Value → H} {W : World} {c0 c1 : Value} {d : DataW H} {p : List MemPlace}
    (h : DataW.Trod enc Try.prog W 0 (fun _ => true) true 60 (.agg #[c0, c1]) d p) : ∃ m0 m1 : Int, c0 = .int .i64 m0 ∧ c1 = .int .i64 m1 := by
  obtain ⟨y0, y1, n, _, h0, h1⟩ := trod_two Try.underlying60 cellsInt' h
  obtain ⟨m0, e0, _, _⟩ := DataW.trod_int Try.underlying3 h0
  obtain ⟨m1, e1, _, _⟩ := DataW.trod_int Try.underlying3 h1
  simp only [List.cons.injEq, and_true] at e0 e1
  exact ⟨m0, m1, e0, e1⟩
theorem is_slice {H : Type} {enc : TypeId × Value → H} {W : World} {t e : TypeId} {n : Nat} {c : Value} {y : DataW H × List MemPlace} (ht : Try.prog.underlying t = some (.slice e)) (h : DataW.trod enc Try.prog W 0 (fun _ => true) true n t [c] = some y) : ∃ a len cap, c = .slice a len cap := by
  rcases Deep.open_slice ht h with ⟨hcs, _⟩ | ⟨x, l, cp, m, n, D, Pl, hcs, _⟩
  · simp only [List.cons.injEq, and_true] at hcs; exact ⟨_, _, _, hcs⟩
  · simp only [List.cons.injEq, and_true] at hcs; exact ⟨_, _, _, hcs⟩
theorem open_scripts {H : Type} {enc : TypeId × Value → H} {W : World} {c0 c1 : Value} {d : DataW H} {p : List MemPlace}
    (h : DataW.Trod enc Try.prog W 0 (fun _ => true) true 61 (.agg #[c0, c1]) d p) (hd : ∀ x ∈ d.weights Try.prog 61, x ≤ reachBytes) :
    ∃ a0 l0 q0 a1 l1 q1, c0 = .slice a0 l0 q0 ∧ c1 = .slice a1 l1 q1 ∧ (∃ G0, FdsO W a0 l0 G0) ∧ l0 ≤ 2932031007402 ∧ (∃ G1, FdsO W a1 l1 G1) ∧ l1 ≤ 2932031007402 := by
  obtain ⟨y0, y1, n, rfl, h0, h1⟩ := trod_two Try.underlying61 cellsOps h
  obtain ⟨a0, l0, q0, rfl⟩ := is_slice Try.underlying22 h0
  obtain ⟨a1, l1, q1, rfl⟩ := is_slice Try.underlying22 h1
  have hd0 : ∀ x ∈ y0.1.weights Try.prog 22, x ≤ reachBytes := fun x hx => hd x (by simp only [DataW.weights, Try.underlying61]; exact weightsAll_mem (by simp) x hx)
  have hd1 : ∀ x ∈ y1.1.weights Try.prog 22, x ≤ reachBytes := fun x hx => hd x (by simp only [DataW.weights, Try.underlying61]; exact weightsAll_mem (by simp) x hx)
  obtain ⟨G0, hF0, hl0, _⟩ := open_ops (d := y0.1) (p := y0.2) h0 (.inl hd0)
  obtain ⟨G1, hF1, hl1, _⟩ := open_ops (d := y1.1) (p := y1.2) h1 (.inl hd1)
  exact ⟨a0, l0, q0, a1, l1, q1, rfl, rfl, ⟨G0, hF0⟩, hl0, ⟨G1, hF1⟩, hl1⟩
theorem open_turns {H : Type} {enc : TypeId × Value → H} {W : World} {a : Option Addr} {len cap : Nat} {d : DataW H} {p : List MemPlace}
    (h : DataW.Trod enc Try.prog W 0 (fun _ => true) true 62 (.slice a len cap) d p) (hd : ∀ x ∈ d.weights Try.prog 62, x ≤ reachBytes) :
    ∃ T : Nat → Bool, (len = 0 ∨ ∃ b off, a = some ⟨b, off, none⟩ ∧ ∀ j, j < len → W.cell? ⟨b, off + j, none⟩ = some (.bool (T j))) ∧ len ≤ 140737488355328 := by
  obtain ⟨fuel, hf⟩ := h
  rcases Deep.open_slice1 Try.underlying62 cellsBool hf with ⟨hcs, _⟩ | ⟨x, l, c, m, n, V, D, Pl, hcs, _, hl, hm, hmm, hx, hrows⟩
  · simp [Value.cells] at hcs
    obtain ⟨rfl, rfl, rfl⟩ := hcs
    exact ⟨fun _ => false, .inl rfl, by decide⟩
  · simp [Value.cells] at hcs
    obtain ⟨rfl, rfl, rfl⟩ := hcs
    simp only [if_true] at hmm
    subst hmm
    simp only [Prod.mk.injEq] at hx
    have hw := hd _ (by rw [hx.1]; simp only [DataW.weights, Try.underlying62, List.mem_cons]; exact .inl rfl)
    rw [bytesBool, List.length_map, List.length_map, List.length_range, List.length_range] at hw
    unfold reachBytes at hw
    have hlen : len ≤ 140737488355328 := by omega
    by_cases h0 : len = 0
    · exact ⟨fun _ => false, .inl h0, hlen⟩
    · have each : ∀ i, i < len → ∃ b : Bool, W.cell? (x.add i) = some (.bool b) := fun i hi => by
        obtain ⟨hc, ht⟩ := hrows i (by omega)
        obtain ⟨b, hb, _⟩ := DataW.trod_bool Try.underlying4 ht
        simp only [List.cons.injEq, and_true] at hb
        exact ⟨b, by rw [hc, hb]⟩
      obtain ⟨T, hT⟩ := Deep.choose_lt each
      obtain ⟨b, off, spot⟩ := x
      have hspot : spot = none := by simpa [Addr.add] using World.cell?_spot (hT 0 (by omega))
      subst hspot
      exact ⟨T, .inr ⟨b, off, rfl, fun j hj => by have := hT j hj; rwa [add_off] at this⟩, hlen⟩

theorem walk {H : Type} {enc : TypeId × Value → H} {W : World} {c0 c1 e0 e1 : Value} {d0 d1 d2 : DataW H} {p0 p1 p2 : List MemPlace} {a : Option Addr} {len cap : Nat}
    (h0 : DataW.Trod enc Try.prog W 0 (fun _ => true) true 60 (.agg #[c0, c1]) d0 p0)
    (h1 : DataW.Trod enc Try.prog W 0 (fun _ => true) true 61 (.agg #[e0, e1]) d1 p1) (hd1 : ∀ x ∈ d1.weights Try.prog 61, x ≤ reachBytes)
    (h2 : DataW.Trod enc Try.prog W 0 (fun _ => true) true 62 (.slice a len cap) d2 p2) (hd2 : ∀ x ∈ d2.weights Try.prog 62, x ≤ reachBytes) :
    Calls Try.prog 6 #[.agg #[c0, c1], .agg #[e0, e1], .slice a len cap] W fun e w' => e = .returned (.bool true) ∧ Below W.heap.size W w' := by
  obtain ⟨m0, m1, rfl, rfl⟩ := open_most h0
  obtain ⟨a0, l0, q0, a1, l1, q1, rfl, rfl, ⟨G0, hF0⟩, hl0, ⟨G1, hF1⟩, hl1⟩ := open_scripts h1 hd1
  obtain ⟨T, hT, hn⟩ := open_turns h2 hd2
  exact wireTwo_any W m0 m1 a0 l0 q0 G0 hF0 hl0 a1 l1 q1 G1 hF1 hl1 a len cap T hT hn

set_option maxRecDepth 100000 in
theorem lifted (os : Os) (started : os.Started) (H : Type) (enc : TypeId × Value → H) :
    ReturnsInHanded {} Try.checked os 6 .any (Rows.wireTwoSpec.pre6 enc Try.prog Try.f6 Rows.wireTwoRow.domain false) (Rows.wireTwoSpec.post enc Try.prog Try.f6 false true false false) := by
  refine returnsInHanded_of_change_sized (C := Try.checked) own started (by kernel_rfl) Try.func6
    (ChangeSpec.witness6 (enc := enc) (C := Try.checked) false ⟨#[], #[.agg #[.int .i64 0, .int .i64 0], .agg #[.slice none 0 0, .slice none 0 0], .slice none 0 0], []⟩ 8 (by kernel_rfl) (by kernel_rfl) (by kernel_rfl) (by kernel_rfl)) ?_
  intro W base args ds gs before hval0 hW hcnd hsz0 _
  have hsz : (DataW.weightsEach Try.prog (Try.f6.params.toList ++ Rows.wireTwoSpec.plain.varTypes Try.prog) (ds ++ gs)).all (· ≤ reachBytes) = true := hsz0
  have hval : ∀ (j : Nat) t v, Try.f6.params[j]? = some t → args[j]? = some v → Value.okWide Try.prog W .any base t v := hval0
  have hW' := hW
  obtain ⟨p, q, hA0, hV, rfl, hfz, hnd⟩ := hW
  have hA : DataW.TrodAll enc Try.prog W 0 (fun _ => true) true Try.f6.params.toList args.toList ds p := hA0
  rw [Try.params6] at hA hval hsz
  obtain ⟨v0, vs0, d0, ds0, p0, q0, hargs, rfl, rfl, h0, r0⟩ := trodAll_cons hA
  obtain ⟨v1, vs1, d1, ds1, p1, q1, rfl, rfl, rfl, h1, r1⟩ := trodAll_cons r0
  obtain ⟨v2, vs2, d2, ds2, p2, q2, rfl, rfl, rfl, h2, r2⟩ := trodAll_cons r1
  obtain ⟨rfl, rfl, rfl⟩ := trodAll_nil r2
  obtain rfl : args = #[v0, v1, v2] := by cases args; simp_all
  obtain ⟨rfl, rfl⟩ := trodVars_none hV
  have lt0 : ∀ x ∈ p0, x.block < W.heap.size := by obtain ⟨m, hm⟩ := h0; exact DataW.trod_lt m _ _ _ hm
  have lt1 : ∀ x ∈ p1, x.block < W.heap.size := by obtain ⟨m, hm⟩ := h1; exact DataW.trod_lt m _ _ _ hm
  have lt2 : ∀ x ∈ p2, x.block < W.heap.size := by obtain ⟨m, hm⟩ := h2; exact DataW.trod_lt m _ _ _ hm
  obtain ⟨c0, c1, rfl⟩ := okWide_two Try.underlying60 cellsTwoInt (hval 0 60 v0 rfl rfl)
  obtain ⟨e0, e1, rfl⟩ := okWide_two Try.underlying61 cellsTwoOps (hval 1 61 v1 rfl rfl)
  obtain ⟨a2, len2, cap2, rfl⟩ := okWide_slice Try.underlying62 (hval 2 62 v2 rfl rfl)
  clear hA0 hval0
  have hd1 : ∀ x ∈ d1.weights Try.prog 61, x ≤ reachBytes := fun x hx => by
    have h := List.all_eq_true.1 hsz x (DataW.weights_mem_each (j := 1) (t := 61) (d := d1) rfl rfl x hx)
    simpa using h
  have hd2 : ∀ x ∈ d2.weights Try.prog 62, x ≤ reachBytes := fun x hx => by
    have h := List.all_eq_true.1 hsz x (DataW.weights_mem_each (j := 2) (t := 62) (d := d2) rfl rfl x hx)
    simpa using h
  refine (walk h0 h1 hd1 h2 hd2).mono fun e W' ⟨he, bel⟩ => ?_
  subst he
  exact ⟨_, rfl, _, _, _, [], _, [], hW', trodAll_mk1 (shut_bool Try.underlying4 _), (trodAll_cons_mk (Below.trod laidOut (by kernel_rfl) (of_decide_eq_true (by kernel_rfl)) h0 bel lt0) (trodAll_cons_mk (Below.trod laidOut (by kernel_rfl) (of_decide_eq_true (by kernel_rfl)) h1 bel lt1) (trodAll_cons_mk (Below.trod laidOut (by kernel_rfl) (of_decide_eq_true (by kernel_rfl)) h2 bel lt2) trodAll_mk0))), rfl, bel.frame _, fun h => by cases h⟩

theorem over : Rows.wireTwoRow.holds Try.pinned (OpenSpec.ofChange Rows.wireTwoSpec) :=
  OpenClaim.holds_of_wide 6 Try.f6 rfl rfl rfl rfl rfl rfl rfl ⟨rfl, rfl, rfl, rfl, rfl⟩ rfl rfl rfl rfl rfl (by kernel_rfl) Try.func6 (by kernel_rfl)
    (of_decide_eq_true (by kernel_rfl)) (by unfold Func.isWrapper; first | (rw [if_pos (by decide +kernel)]; kernel_rfl) | (rw [if_neg (by decide +kernel)]; exact ⟨rfl, rfl⟩))
    (fun os started H enc _ => lifted os started H enc)
end Go.Proofs.Ytlkjpljfbmploaa.wireTwo
namespace Go.Proofs.Ytlkjpljfbmploaa
theorem wireTwo_holds : Rows.WireTwoSaid := wireTwo.over
#print axioms wireTwo_holds
end Go.Proofs.Ytlkjpljfbmploaa
