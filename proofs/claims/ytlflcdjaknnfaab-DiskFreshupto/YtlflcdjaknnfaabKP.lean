import Derived.Test.YtlflcdjaknnfaabKO
namespace Go.Proofs.Ytlflcdjaknnfaab
open Go.RowKit

/-- a row of bytes, whatever they are -/
def By (w : World) (g c n : Nat) : Prop := ∃ f : Nat → Value, w.rowIs g 5 c f ∧ n ≤ c ∧ ∀ i, i < n → ∃ v : Int, f i = .int .u8 v
theorem Rw.by_ {w : World} {g c : Nat} {l : List Nat} (h : Rw w (some ⟨g, 0, none⟩) c l) : By w g c l.length := by
  rcases h.cases with ⟨h0, _⟩ | ⟨g', cur, h0, hg, h1, h2, h3, h4⟩
  · cases h0
  · simp only [Option.some.injEq, Addr.mk.injEq] at h0
    obtain ⟨rfl, _⟩ := h0
    refine ⟨fun i => cur.getD i undef, ⟨cur, hg, h3, fun i hi => ?_⟩, h1, fun i hi => ⟨((l.getD i 0 : Nat) : Int), ?_⟩⟩
    · simp [h3, hi]
    · have e := congrArg (fun x => x[i]?) h4
      simp only [List.getElem?_take, hi, if_true, vb_get l i hi] at e
      have hc : cur[i]? = some (.int .u8 ((l.getD i 0 : Nat) : Int)) := by simpa using e
      show cur.getD i undef = _
      rw [Array.getD_eq_getD_getElem?, hc]
      rfl
theorem By.at {w : World} {g c n : Nat} (h : By w g c n) {i : Nat} (hi : i < n) : ∃ v : Int, w.cell? ⟨g, i, none⟩ = some (.int .u8 v) ∧ w.frozen? ⟨g, i, none⟩ = false := by
  obtain ⟨f, h1, h2, h3⟩ := h
  obtain ⟨v, hv⟩ := h3 i hi
  exact ⟨v, by rw [h1.cell (by omega), hv], h1.frozen i⟩
theorem By.set {w : World} {g c n : Nat} (h : By w g c n) (i : Nat) (v : Int) : By (w.setCell ⟨g, i, none⟩ (.int .u8 v)) g c n := by
  obtain ⟨f, h1, h2, h3⟩ := h
  refine ⟨_, h1.set i (.int .u8 v), h2, fun j hj => ?_⟩
  by_cases e : j = i
  · exact ⟨v, by simp [e]⟩
  · obtain ⟨u, hu⟩ := h3 j hj
    exact ⟨u, by simp [e, hu]⟩
theorem By.but {T : Nat → Prop} {w w' : World} {g c n : Nat} (h : By w g c n) (hb : But T w w') (hn : ¬ T g) : By w' g c n := by
  obtain ⟨f, h1, h2, h3⟩ := h
  exact ⟨f, rowIs_but h1 hb hn, h2, h3⟩
theorem By.keep {w w' : World} {g c n : Nat} (h : By w g c n) (hb : Below w.heap.size w w') : By w' g c n := h.but (T := fun _ => False) (But.ofBelow hb) (fun h => h)
theorem of_all (l : List Nat) : (Sd.of l).all = (Sd.of l).img := rfl
theorem ext_none {w w' : World} {k : Nat} (h : ext none' w w' k) : w.heap.size ≤ k ∧ k < w'.heap.size := by
  rcases h with h | h
  · exact h.elim
  · exact h
theorem Rw.some_ {w : World} {a : Option Addr} {c : Nat} {l : List Nat} (h : Rw w a c l) (hl : 0 < l.length) : ∃ g, a = some ⟨g, 0, none⟩ ∧ l.length ≤ c ∧ g < w.heap.size := by
  rcases h.cases with ⟨_, _, e0⟩ | ⟨g, cur, rfl, hg, h1, _⟩
  · rw [e0] at hl; exact absurd hl (Nat.lt_irrefl _)
  · exact ⟨g, rfl, h1, (Array.getElem?_eq_some_iff.1 hg).1⟩
end Go.Proofs.Ytlflcdjaknnfaab
