import Derived.Test.YtcdigmhlpeeogaaUXB
import Derived.Test.YtcdigmhlpeeogaaUXC
namespace Go.Proofs.Ytcdigmhlpeeogaa
open Go.ChangeShapes Go.WideShapes Go.ChangeAt Go.RowKit

theorem Ir.vs {w : World} {a : Option Addr} {L : List Rn} (h : Ir w a L) : Vs w a L := h.imp id fun ⟨b, o, e, hc⟩ => ⟨b, o, e, fun j u hu => by
  have hj : j < (rc L).length := (List.getElem?_eq_some_iff.1 hu).1
  rw [rc_length] at hj
  obtain ⟨h1, h2⟩ := rc_get L (j / 2) (by omega)
  obtain ⟨h3, h4⟩ := hc (j / 2) (by omega)
  by_cases hp : j % 2 = 0
  · have e1 : j / 2 * 2 = j := by omega
    rw [e1] at h1 h3
    rw [h3, ← h1, hu]
  · have e1 : j / 2 * 2 + 1 = j := by omega
    rw [e1] at h2
    rw [Nat.add_assoc, e1] at h4
    rw [h4, ← h2, hu]⟩
theorem cellsInts : Try.prog.cellsOf 3 = 1 := by kernel_rfl
set_option maxRecDepth 100000 in
theorem open_ints {H : Type} {enc : TypeId × Value → H} {W : World} {a : Option Addr} {len cap : Nat} {d : DataW H} {p : List MemPlace}
    (h : DataW.Trod enc Try.prog W 0 (fun _ => true) true 23 (.slice a len cap) d p) (hd : Rows.uptoBulk d ≤ 1048576) :
    ∃ X : List Int, len = X.length ∧ Xs W a X ∧ (∀ x ∈ X, Nm x) ∧ X.length ≤ 1048576 := by
  obtain ⟨fuel, hf⟩ := h
  rcases Deep.open_slice Try.underlying23 hf with ⟨hcs, _⟩ | ⟨x, l, c, m, n, D, Pl, hcs, _, hl, hm, hmm, hx, hrows⟩
  · simp only [Value.cells, List.cons.injEq, and_true, Value.slice.injEq] at hcs
    obtain ⟨rfl, rfl, rfl⟩ := hcs
    exact ⟨[], rfl, .inl rfl, by simp, by simp⟩
  · simp only [Value.cells, List.cons.injEq, and_true, Value.slice.injEq] at hcs
    obtain ⟨rfl, rfl, rfl⟩ := hcs
    simp only [Prod.mk.injEq] at hx
    obtain ⟨rfl, _⟩ := hx
    simp only [if_true] at hmm
    subst hmm
    have hlen : len ≤ 1048576 := by
      simp only [Rows.uptoBulk] at hd
      have h1 := bulk_length ((List.range len).map D)
      rw [List.length_map, List.length_range] at h1
      omega
    by_cases h0 : len = 0
    · subst h0
      exact ⟨[], rfl, .inl rfl, by simp, by simp⟩
    · obtain ⟨b, off, spot⟩ := x
      have hspot : spot = none := by
        obtain ⟨cs, hc, ht⟩ := hrows 0 (by omega)
        obtain ⟨f, rfl, _, _⟩ := DataW.trod_int Try.underlying3 ht
        generalize hk : (0 : Nat) = k0 at hc
        rw [cellsInts] at hc
        obtain ⟨_, _, hce⟩ := World.cells?_some hc
        have e0 := (hce 0 (by decide)).trans (show [Value.int .i64 f][0]? = some (.int .i64 f) from rfl)
        have hs0 := World.cell?_spot e0
        subst hk
        simpa [Addr.add] using hs0
      subst hspot
      have each : ∀ r, r < len → ∃ v : Int, W.cell? ⟨b, off + r, none⟩ = some (.int .i64 v) ∧ Nm v := by
        intro r hr
        obtain ⟨cs, hc, ht⟩ := hrows r (by omega)
        obtain ⟨v, rfl, _, wk⟩ := DataW.trod_int Try.underlying3 ht
        rw [cellsInts] at hc
        obtain ⟨_, _, hce⟩ := World.cells?_some hc
        have h := hce 0 (by omega)
        rw [Deep.add_add, Addr.add_mid, Nat.mul_one, Nat.add_zero] at h
        exact ⟨v, h.trans rfl, le_i64 wk⟩
      obtain ⟨F, hF⟩ := Deep.choose_lt each
      have hget : ∀ r, r < len → ((List.range len).map F).getD r 0 = F r := fun r hr => by simp [hr]
      have hlenL : ((List.range len).map F).length = len := by simp
      refine ⟨(List.range len).map F, hlenL.symm, .inr ⟨b, off, rfl, fun r hr => ?_⟩, fun v hv => ?_, by rw [hlenL]; exact hlen⟩
      · rw [hlenL] at hr
        rw [hget r hr]
        exact (hF r hr).1
      · obtain ⟨r, hr, rfl⟩ := List.mem_map.1 hv
        exact (hF r (List.mem_range.1 hr)).2
theorem open_int {H : Type} {enc : TypeId × Value → H} {W : World} {x : Int} {d : DataW H} {p : List MemPlace}
    (h : DataW.Trod enc Try.prog W 0 (fun _ => true) true 3 (.int .i64 x) d p) : Nm x := by
  obtain ⟨fuel, hf⟩ := h
  obtain ⟨v, e, _, wk⟩ := DataW.trod_int Try.underlying3 hf
  simp only [Value.cells, List.cons.injEq, and_true, Value.int.injEq, true_and] at e
  subst e
  exact le_i64 wk
end Go.Proofs.Ytcdigmhlpeeogaa
