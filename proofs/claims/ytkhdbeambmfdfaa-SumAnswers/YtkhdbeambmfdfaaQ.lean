import Derived.Test.YtkhdbeambmfdfaaP
import Derived.SizedLaws
namespace Go.Proofs.Ytkhdbeambmfdfaa
open Go.ChangeShapes Go.WideShapes Go.ChangeAt Go.RowKit

theorem bytesU8 : Try.prog.bytesOf 5 = 1 := by kernel_rfl
theorem open_bytes {H : Type} {enc : TypeId × Value → H} {W : World} {a : Option Addr} {len cap : Nat} {d : DataW H} {p : List MemPlace}
    (h : DataW.Trod enc Try.prog W 0 (fun _ => true) true 25 (.slice a len cap) d p) (hd : ∀ el sp, d = .slice el sp → (el.length + sp.length) * Try.prog.bytesOf 5 ≤ reachBytes) :
    ∃ zs, IsRow .u8 W a len cap zs ∧ cap ≤ 140737488351232 := by
  obtain ⟨fuel, hf⟩ := h
  rcases open_ints Try.underlying25 Try.underlying5 (by kernel_rfl) hf with ⟨hcs, _⟩ | ⟨x, l, c, zs, hcs, _, hl, hm, hz, hx, hcell, hwz⟩
  · simp [Value.cells] at hcs
    obtain ⟨rfl, rfl, rfl⟩ := hcs
    exact ⟨[], .inl ⟨rfl, rfl, rfl, rfl⟩, by decide⟩
  · simp [Value.cells] at hcs
    obtain ⟨rfl, rfl, rfl⟩ := hcs
    simp only [Prod.mk.injEq] at hx
    have h2 := hd _ _ hx.1
    simp only [if_true] at hz
    have h3 : (lits (H := H) .u8 (zs.take len)).length + (lits (H := H) .u8 (zs.drop len)).length = cap := by simp [lits]; omega
    rw [h3, bytesU8] at h2
    unfold reachBytes at h2
    exact ⟨zs, .inr ⟨_, rfl, hl, hm, hz, hcell, hwz⟩, by omega⟩

/-- what is owned can be read as bytes -/
theorem Owns.bs {B : Nat} {w : World} {v : Value} {l : List Nat} (h : Owns B w v l) (hl : ∀ x ∈ l, x < 256) (hlen : l.length ≤ 9223372036854775807) :
    ∃ a cap, v = .slice a l.length cap ∧ Bs w a l ∧ (l ≠ [] → ∃ g cur, a = some ⟨g, 0, none⟩ ∧ B ≤ g ∧ w.heap[g]? = some (.cells cur 5 (0, 0)) ∧ l.length ≤ cap ∧ cur.size = cap) := by
  obtain ⟨h1, h2⟩ := h
  rcases h2 with ⟨rfl, h0⟩ | ⟨g, cap, cur, rfl, hb, hg, hn, hc, hsz, htake⟩
  · have hl0 : l = [] := List.length_eq_zero_iff.1 h0
    subst hl0
    exact ⟨none, 0, rfl, Bs.nil w, fun h => absurd rfl h⟩
  · refine ⟨_, cap, rfl, ⟨hl, hlen, .inr ⟨g, 0, rfl, fun i hi => ?_⟩⟩, fun _ => ⟨g, cur, rfl, hb, hg, hn, by omega⟩⟩
    rw [Nat.zero_add, cell_of_row _ _ _ _ _ _ hg]
    have e1 : (cur.toList.take (l.length * 1))[i]? = (vb l)[i]? := by rw [htake]
    rw [List.getElem?_take, if_pos (by omega)] at e1
    have e2 : (vb l)[i]? = some (.int .u8 ((l.getD i 0 : Nat) : Int)) := by simp [vb, hi]
    rw [← e2, ← e1]
    simp
end Go.Proofs.Ytkhdbeambmfdfaa
