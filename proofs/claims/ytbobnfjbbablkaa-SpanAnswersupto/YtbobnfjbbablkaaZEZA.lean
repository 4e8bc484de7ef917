import Derived.Test.YtbobnfjbbablkaaZEZ
import Derived.Test.YtbobnfjbbablkaaZT
namespace Go.Proofs.Ytbobnfjbbablkaa
open Go.ChangeShapes Go.WideShapes Go.ChangeAt Go.RowKit

theorem cellsOp4 : Try.prog.cellsOf 29 = 10 := by kernel_rfl
theorem cellsInt4 : Try.prog.cellsOf 3 = 1 := by kernel_rfl
theorem cellsRngs : Try.prog.cellsOf 27 = 1 := by kernel_rfl
theorem list10 {α : Type} {l : List α} (h : l.length = 10) : ∃ a0 a1 a2 a3 a4 a5 a6 a7 a8 a9, l = [a0, a1, a2, a3, a4, a5, a6, a7, a8, a9] := by
  match l, h with
  | [a0, a1, a2, a3, a4, a5, a6, a7, a8, a9], _ => exact ⟨a0, a1, a2, a3, a4, a5, a6, a7, a8, a9, rfl⟩
theorem trod_struct6 {H : Type} {enc : TypeId × Value → H} {P : Program} {w : World} {base : Nat} {spare : Nat → Bool} {held : Bool} {t : TypeId} {f0 f1 f2 f3 f4 f5 : Field} {fuel : Nat} {cs : List Value} {x : DataW H × List MemPlace} (ht : P.underlying t = some (.struct #[f0, f1, f2, f3, f4, f5])) (h : DataW.trod enc P w base spare held fuel t cs = some x) :
    ∃ y0 y1 y2 y3 y4 y5 n, x.1 = .agg [y0.1, y1.1, y2.1, y3.1, y4.1, y5.1] ∧ cs.length = P.cellsOf t ∧ DataW.trod enc P w base spare held n f0.type ((cs.drop f0.offset).take (P.cellsOf f0.type)) = some y0 ∧
      DataW.trod enc P w base spare held n f1.type ((cs.drop f1.offset).take (P.cellsOf f1.type)) = some y1 ∧ DataW.trod enc P w base spare held n f2.type ((cs.drop f2.offset).take (P.cellsOf f2.type)) = some y2 ∧
      DataW.trod enc P w base spare held n f3.type ((cs.drop f3.offset).take (P.cellsOf f3.type)) = some y3 ∧ DataW.trod enc P w base spare held n f4.type ((cs.drop f4.offset).take (P.cellsOf f4.type)) = some y4 ∧
      DataW.trod enc P w base spare held n f5.type ((cs.drop f5.offset).take (P.cellsOf f5.type)) = some y5 := by
  obtain ⟨xs, n, _, rfl, hl, hlen, hf⟩ := DataW.trod_struct ht h
  match xs, hlen with
  | [y0, y1, y2, y3, y4, y5], _ => exact ⟨y0, y1, y2, y3, y4, y5, n, by simp, hl, by simpa using hf 0 f0 rfl, by simpa using hf 1 f1 rfl, by simpa using hf 2 f2 rfl, by simpa using hf 3 f3 rfl, by simpa using hf 4 f4 rfl, by simpa using hf 5 f5 rfl⟩
theorem open_op_cs {H : Type} {enc : TypeId × Value → H} {W : World} {fuel : Nat} {cs : List Value} {d : DataW H} {p : List MemPlace}
    (h : DataW.trod enc Try.prog W 0 (fun _ => true) true fuel 29 cs = some (d, p)) (hd : Rows.uptoBulk d ≤ 1048576) :
    ∃ o : Ov, cs = o.cs.toList ∧ Oi W o ∧ Ob o := by
  obtain ⟨y0, y1, y2, y3, y4, y5, n, hx, hl, h0, h1, h2, h3, h4, h5⟩ := trod_struct6 Try.underlying29 h
  obtain ⟨c0, c1, c2, c3, c4, c5, c6, c7, c8, c9, rfl⟩ := list10 (hl.trans cellsOp4)
  simp only [cellsBytes, cellsInt4, cellsRange, cellsRngs, List.drop_zero, List.drop_succ_cons, List.take_succ_cons, List.take_zero] at h0 h1 h2 h3 h4 h5
  have hd' : d = .agg [y0.1, y1.1, y2.1, y3.1, y4.1, y5.1] := hx
  rw [hd'] at hd
  simp only [Rows.uptoBulk, Rows.uptoBulkAll] at hd
  obtain ⟨kd, e0, _, _⟩ := DataW.trod_int Try.underlying3 h0
  obtain ⟨aA, A, cA, e1, b1, n1, m1, u1⟩ := open_bytes_cs (d := y1.1) (p := y1.2) h1 (.inr (by omega))
  obtain ⟨aB, B, cB, e2, b2, n2, m2, u2⟩ := open_bytes_cs (d := y2.1) (p := y2.2) h2 (.inr (by omega))
  obtain ⟨R, e3, r3, _, u3⟩ := open_range_cs (d := y3.1) (p := y3.2) h3 (.inr (by omega))
  obtain ⟨S, e4, r4, _, u4⟩ := open_range_cs (d := y4.1) (p := y4.2) h4 (.inr (by omega))
  obtain ⟨aM, M, cM, e5, q5, l5, s5, k5⟩ := open_ranges_cs (d := y5.1) (p := y5.2) h5 (by omega)
  simp only [List.cons.injEq, and_true] at e0 e1 e2 e5
  subst e0 e1 e2 e5
  simp only [Rv.cs, List.cons.injEq, and_true] at e3 e4
  obtain ⟨rfl, rfl, rfl⟩ := e3
  obtain ⟨rfl, rfl, rfl⟩ := e4
  exact ⟨⟨kd, aA, cA, A, aB, cB, B, R, S, aM, cM, M⟩, rfl, ⟨b1, m1, b2, m2, r3, r4, q5, k5⟩, ⟨by dsimp only; omega, by dsimp only; omega, by dsimp only; omega, by dsimp only; omega, by dsimp only; omega, by dsimp only; omega, l5, fun r hr => by have := s5 r hr; omega⟩⟩
set_option maxRecDepth 100000 in
/-- calls that came in -/
theorem open_ops4 {H : Type} {enc : TypeId × Value → H} {W : World} {a : Option Addr} {len cap : Nat} {d : DataW H} {p : List MemPlace}
    (h : DataW.Trod enc Try.prog W 0 (fun _ => true) true 22 (.slice a len cap) d p) (hd : Rows.uptoBulk d ≤ 1048576) :
    ∃ L : List Ov, len = L.length ∧ Oz W a L := by
  obtain ⟨fuel, hf⟩ := h
  rcases Deep.open_slice Try.underlying22 hf with ⟨hcs, _⟩ | ⟨x, len', cap', m, n, D, Pl, hcs, _, hl, hm, hmm, hx, hrows⟩
  · simp only [Value.cells, List.cons.injEq, and_true, Value.slice.injEq] at hcs
    obtain ⟨rfl, rfl, rfl⟩ := hcs
    exact ⟨[], rfl, by simp, by simp, .inl rfl⟩
  · simp only [Value.cells, List.cons.injEq, and_true, Value.slice.injEq] at hcs
    obtain ⟨rfl, rfl, rfl⟩ := hcs
    simp only [Prod.mk.injEq] at hx
    obtain ⟨rfl, _⟩ := hx
    simp only [if_true] at hmm
    subst hmm
    have hlen : len ≤ 1048576 := by
      simp only [Rows.uptoBulk] at hd
      have h1 := bulk_length ((List.range len).map D)
      rw [List.length_map, List.length_range] at h1
      omega
    by_cases h0 : len = 0
    · subst h0
      exact ⟨[], rfl, by simp, by simp, .inl rfl⟩
    · have hmemD : ∀ r, r < len → D r ∈ (List.range len).map D := fun r hr => List.mem_map.2 ⟨r, List.mem_range.2 hr, rfl⟩
      have hbD : ∀ r, r < len → Rows.uptoBulk (D r) ≤ 1048576 := fun r hr => by
        have h1 := bulk_mem (hmemD r hr)
        simp only [Rows.uptoBulk] at hd
        omega
      obtain ⟨b, off, spot⟩ := x
      have hspot : spot = none := by
        obtain ⟨cs, hc, ht⟩ := hrows 0 (by omega)
        obtain ⟨f, rfl, _⟩ := open_op_cs ht (hbD 0 (by omega))
        generalize hk : (0 : Nat) = k0 at hc
        rw [cellsOp4] at hc
        obtain ⟨_, _, hce⟩ := World.cells?_some hc
        have e0 := (hce 0 (by decide)).trans (show f.cs.toList[0]? = some (.int .i64 f.kd) from rfl)
        have hs0 := World.cell?_spot e0
        subst hk
        simpa [Addr.add] using hs0
      subst hspot
      have each : ∀ r, r < len → ∃ v : Ov, W.rangeAt b (off + r * 10) v.cs.toList ∧ Oi W v ∧ Ob v := by
        intro r hr
        obtain ⟨cs, hc, ht⟩ := hrows r (by omega)
        obtain ⟨v, rfl, h1, h2⟩ := open_op_cs ht (hbD r hr)
        rw [cellsOp4] at hc
        obtain ⟨_, _, hce⟩ := World.cells?_some hc
        refine ⟨v, fun j u hu => ?_, h1, h2⟩
        have hj : j < 10 := (List.getElem?_eq_some_iff.1 hu).1
        have h := hce j hj
        rw [Deep.add_add, Addr.add_mid, ← Nat.add_assoc] at h
        exact h.trans hu
      haveI : Inhabited Ov := ⟨Ov.zero⟩
      obtain ⟨F, hF⟩ := Deep.choose_lt each
      have hget : ∀ r, r < len → ((List.range len).map F).getD r Ov.zero = F r := fun r hr => by simp [hr]
      have hlenL : ((List.range len).map F).length = len := by simp
      refine ⟨(List.range len).map F, hlenL.symm, fun v hv => ?_, by rw [hlenL]; exact hlen, .inr ⟨b, off, rfl, fun r hr => ?_⟩⟩
      · obtain ⟨r, hr, rfl⟩ := List.mem_map.1 hv
        exact (hF r (List.mem_range.1 hr)).2
      · rw [hlenL] at hr
        rw [hget r hr]
        exact (hF r hr).1
end Go.Proofs.Ytbobnfjbbablkaa
