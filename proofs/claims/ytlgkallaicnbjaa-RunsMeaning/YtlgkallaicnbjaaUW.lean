import Derived.Test.YtlgkallaicnbjaaUWA
import Derived.Test.YtlgkallaicnbjaaUV
namespace Go.Proofs.Ytlgkallaicnbjaa
open Go.ChangeShapes Go.WideShapes Go.ChangeAt Go.RowKit

theorem cellsStep : Try.prog.cellsOf 27 = 3 := by kernel_rfl
theorem bytesStep : Try.prog.bytesOf 27 = 3 := by kernel_rfl
theorem le_u8 {a : Int} (h : (Lit.int .u8 a).wf = true) : 0 ≤ a ∧ a ≤ 255 := by
  have hb := bounds_u8 h
  omega
def Sx.cs (t : Sx) : List Value := [.int .u8 t.1, .int .u8 t.2.1, .bool t.2.2]
theorem list3 {α : Type} {l : List α} (h : l.length = 3) : ∃ a b c, l = [a, b, c] := by
  match l, h with
  | [a, b, c], _ => exact ⟨a, b, c, rfl⟩
theorem trod_struct3 {H : Type} {enc : TypeId × Value → H} {P : Program} {w : World} {base : Nat} {spare : Nat → Bool} {held : Bool} {t : TypeId} {f0 f1 f2 : Field} {fuel : Nat} {cs : List Value} {x : DataW H × List MemPlace} (ht : P.underlying t = some (.struct #[f0, f1, f2])) (h : DataW.trod enc P w base spare held fuel t cs = some x) :
    ∃ y0 y1 y2 n, cs.length = P.cellsOf t ∧ DataW.trod enc P w base spare held n f0.type ((cs.drop f0.offset).take (P.cellsOf f0.type)) = some y0 ∧
      DataW.trod enc P w base spare held n f1.type ((cs.drop f1.offset).take (P.cellsOf f1.type)) = some y1 ∧ DataW.trod enc P w base spare held n f2.type ((cs.drop f2.offset).take (P.cellsOf f2.type)) = some y2 := by
  obtain ⟨xs, n, _, rfl, hl, hlen, hf⟩ := DataW.trod_struct ht h
  match xs, hlen with
  | [y0, y1, y2], _ => exact ⟨y0, y1, y2, n, hl, by simpa using hf 0 f0 rfl, by simpa using hf 1 f1 rfl, by simpa using hf 2 f2 rfl⟩
theorem open_step {H : Type} {enc : TypeId × Value → H} {W : World} {fuel : Nat} {cs : List Value} {d : DataW H} {p : List MemPlace}
    (h : DataW.trod enc Try.prog W 0 (fun _ => true) true fuel 27 cs = some (d, p)) :
    ∃ t : Sx, cs = t.cs ∧ (0 ≤ t.1 ∧ t.1 ≤ 255) ∧ 0 ≤ t.2.1 ∧ t.2.1 ≤ 255 := by
  obtain ⟨y0, y1, y2, n, hl, h0, h1, h2⟩ := trod_struct3 Try.underlying27 h
  obtain ⟨c0, c1, c2, rfl⟩ := list3 (hl.trans cellsStep)
  simp only [cellsU8', cellsBool', List.drop_zero, List.drop_succ_cons, List.take_succ_cons, List.take_zero] at h0 h1 h2
  obtain ⟨k, e0, _, wk⟩ := DataW.trod_int Try.underlying5 h0
  obtain ⟨i, e1, _, wi⟩ := DataW.trod_int Try.underlying5 h1
  obtain ⟨b, e2, _⟩ := DataW.trod_bool Try.underlying4 h2
  simp only [List.cons.injEq, and_true] at e0 e1 e2
  subst e0 e1 e2
  exact ⟨(k, i, b), rfl, le_u8 wk, le_u8 wi⟩
theorem step_weight {H : Type} (el sp : List (DataW H)) : (el.length + sp.length) * Try.prog.bytesOf 27 ∈ (DataW.slice el sp).weights Try.prog 22 := by
  simp only [DataW.weights, Try.underlying22, List.mem_cons]
  exact .inl trivial
set_option maxRecDepth 100000 in
/-- steps that came in -/
theorem open_steps {H : Type} {enc : TypeId × Value → H} {W : World} {a : Option Addr} {len cap : Nat} {d : DataW H} {p : List MemPlace}
    (h : DataW.Trod enc Try.prog W 0 (fun _ => true) true 22 (.slice a len cap) d p) (hd : ∀ x ∈ d.weights Try.prog 22, x ≤ reachBytes) :
    ∃ L : List Sx, len = L.length ∧ Sp W a L ∧ (∀ t ∈ L, (0 ≤ t.1 ∧ t.1 ≤ 255) ∧ 0 ≤ t.2.1 ∧ t.2.1 ≤ 255) ∧ L.length ≤ 140737488355328 := by
  obtain ⟨fuel, hf⟩ := h
  rcases Deep.open_slice Try.underlying22 hf with ⟨hcs, _⟩ | ⟨x, l, c, m, n, D, Pl, hcs, _, hl, hm, hmm, hx, hrows⟩
  · simp only [Value.cells, List.cons.injEq, and_true, Value.slice.injEq] at hcs
    obtain ⟨rfl, rfl, rfl⟩ := hcs
    exact ⟨[], rfl, .inl rfl, by simp, by simp⟩
  · simp only [Value.cells, List.cons.injEq, and_true, Value.slice.injEq] at hcs
    obtain ⟨rfl, rfl, rfl⟩ := hcs
    simp only [Prod.mk.injEq] at hx
    obtain ⟨rfl, _⟩ := hx
    simp only [if_true] at hmm
    subst hmm
    have hlen : len ≤ 140737488355328 := by
      have h1 := hd _ (step_weight _ _)
      rw [bytesStep, List.length_map, List.length_range] at h1
      unfold reachBytes at h1
      omega
    by_cases h0 : len = 0
    · subst h0
      exact ⟨[], rfl, .inl rfl, by simp, by simp⟩
    · obtain ⟨b, off, spot⟩ := x
      have hspot : spot = none := by
        obtain ⟨cs, hc, ht⟩ := hrows 0 (by omega)
        obtain ⟨f, rfl, _⟩ := open_step ht
        generalize hk : (0 : Nat) = k0 at hc
        rw [cellsStep] at hc
        obtain ⟨_, _, hce⟩ := World.cells?_some hc
        have e0 := (hce 0 (by decide)).trans (show f.cs[0]? = some (.int .u8 f.1) from rfl)
        have hs0 := World.cell?_spot e0
        subst hk
        simpa [Addr.add] using hs0
      subst hspot
      have each : ∀ r, r < len → ∃ v : Sx, (∀ j u, v.cs[j]? = some u → W.cell? ⟨b, off + r * 3 + j, none⟩ = some u) ∧ (0 ≤ v.1 ∧ v.1 ≤ 255) ∧ 0 ≤ v.2.1 ∧ v.2.1 ≤ 255 := by
        intro r hr
        obtain ⟨cs, hc, ht⟩ := hrows r (by omega)
        obtain ⟨v, rfl, hok⟩ := open_step ht
        rw [cellsStep] at hc
        obtain ⟨_, _, hce⟩ := World.cells?_some hc
        refine ⟨v, fun j u hu => ?_, hok⟩
        have hj : j < 3 := (List.getElem?_eq_some_iff.1 hu).1
        have h := hce j hj
        rw [Deep.add_add, Addr.add_mid, ← Nat.add_assoc] at h
        exact h.trans hu
      haveI : Inhabited Sx := ⟨Sx.zero⟩
      obtain ⟨F, hF⟩ := Deep.choose_lt each
      have hget : ∀ r, r < len → ((List.range len).map F).getD r Sx.zero = F r := fun r hr => by simp [hr]
      have hlenL : ((List.range len).map F).length = len := by simp
      refine ⟨(List.range len).map F, hlenL.symm, .inr ⟨b, off, rfl, fun r hr => ?_⟩, fun v hv => ?_, by rw [hlenL]; exact hlen⟩
      · rw [hlenL] at hr
        rw [hget r hr]
        have h := (hF r hr).1
        exact ⟨h 0 _ rfl, h 1 _ rfl, h 2 _ rfl⟩
      · obtain ⟨r, hr, rfl⟩ := List.mem_map.1 hv
        exact (hF r (List.mem_range.1 hr)).2
end Go.Proofs.Ytlgkallaicnbjaa
