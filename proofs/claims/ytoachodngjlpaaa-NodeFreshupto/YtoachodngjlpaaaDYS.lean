import Derived.Test.YtoachodngjlpaaaDZT
namespace Go.Proofs.Ytoachodngjlpaaa
set_option linter.unusedVariables false
section
open Go.ChangeShapes Go.WideShapes Go.ChangeAt Go.RowKit
theorem items_len {H : Type} {enc : TypeId × Value → H} {W : World} {fuel : Nat} {a : Option Addr} {n c : Nat} {d : DataW H} {p : List MemPlace}
    (hf : DataW.trod enc Try.prog W 0 (fun _ => true) true fuel 22 [.slice a n c] = some (d, p)) (hd : Rows.uptoBulk d ≤ 1048576) : n ≤ 1048576 := by
  rcases Deep.open_slice Try.underlying22 hf with ⟨hcs, _⟩ | ⟨x, len, cap, m, n', D, Pl, hcs, _, hl, hm, hmm, hx, hrows⟩
  · simp only [List.cons.injEq, and_true, Value.slice.injEq] at hcs
    omega
  · simp only [List.cons.injEq, and_true, Value.slice.injEq] at hcs
    simp only [Prod.mk.injEq] at hx
    obtain ⟨rfl, _⟩ := hx
    simp only [Rows.uptoBulk] at hd
    have h1 := bulk_length ((List.range len).map D)
    rw [List.length_map, List.length_range] at h1
    omega
theorem page_len {H : Type} {enc : TypeId × Value → H} {W : World} {fuel : Nat} {v : Pv} {d : DataW H} {p : List MemPlace}
    (h : DataW.trod enc Try.prog W 0 (fun _ => true) true fuel 25 v.cs.toList = some (d, p)) (hd : Rows.uptoBulk d ≤ 1048576) : v.items.length ≤ 1048576 := by
  obtain ⟨y0, y1, y2, y3, y4, n, hx, hl, h0, h1, h2, h3, h4⟩ := trod_struct5 Try.underlying25 h
  simp only [Pv.cs, cellsItems, List.drop_zero, List.drop_succ_cons, List.take_succ_cons, List.take_zero] at h2
  have hd' : d = .agg [y0.1, y1.1, y2.1, y3.1, y4.1] := hx
  rw [hd'] at hd
  simp only [Rows.uptoBulk, Rows.uptoBulkAll] at hd
  exact items_len (d := y2.1) (p := y2.2) h2 (by omega)
theorem two_len {H : Type} {enc : TypeId × Value → H} {W : World} {v : Tv} {d : DataW H} {p : List MemPlace}
    (h : DataW.Trod enc Try.prog W 0 (fun _ => true) true 27 (.agg v.cs) d p) (hd : Rows.uptoBulk d ≤ 1048576) : v.l.items.length ≤ 1048576 ∧ v.r.items.length ≤ 1048576 := by
  obtain ⟨fuel, hf⟩ := h
  obtain ⟨y0, y1, y2, y3, n, hx, hl, h0, h1, h2, h3⟩ := trod_struct4 Try.underlying27 hf
  have hd' : d = .agg [y0.1, y1.1, y2.1, y3.1] := hx
  rw [hd'] at hd
  simp only [Rows.uptoBulk, Rows.uptoBulkAll] at hd
  have e : Value.cells (.agg v.cs) = v.cs := rfl
  simp only [Value.cells, Tv.cs, cellsPage, List.drop_zero, List.drop_succ_cons, List.take_succ_cons, List.take_zero] at h0 h1
  exact ⟨page_len (v := v.l) (d := y0.1) (p := y0.2) h0 (by omega), page_len (v := v.r) (d := y1.1) (p := y1.2) h1 (by omega)⟩
end
end Go.Proofs.Ytoachodngjlpaaa
