import Derived.Test.YtdinhfogclmaaaaUYM
namespace Go.Proofs.Ytdinhfogclmaaaa
set_option linter.unusedVariables false
open Go.ChangeShapes Go.WideShapes Go.ChangeAt Go.RowKit

/-! ### calls that came in -/
theorem list7 {α : Type} {l : List α} (h : l.length = 7) : ∃ a b c d e f g, l = [a, b, c, d, e, f, g] := by
  match l, h with
  | [a, b, c, d, e, f, g], _ => exact ⟨a, b, c, d, e, f, g, rfl⟩
theorem trod_struct7 {H : Type} {enc : TypeId × Value → H} {P : Program} {w : World} {base : Nat} {spare : Nat → Bool} {held : Bool} {t : TypeId} {f0 f1 f2 f3 f4 f5 f6 : Field} {fuel : Nat} {cs : List Value} {x : DataW H × List MemPlace} (ht : P.underlying t = some (.struct #[f0, f1, f2, f3, f4, f5, f6])) (h : DataW.trod enc P w base spare held fuel t cs = some x) :
    ∃ y0 y1 y2 y3 y4 y5 y6 n, x.1 = .agg [y0.1, y1.1, y2.1, y3.1, y4.1, y5.1, y6.1] ∧ cs.length = P.cellsOf t ∧ DataW.trod enc P w base spare held n f0.type ((cs.drop f0.offset).take (P.cellsOf f0.type)) = some y0 ∧
      DataW.trod enc P w base spare held n f1.type ((cs.drop f1.offset).take (P.cellsOf f1.type)) = some y1 ∧ DataW.trod enc P w base spare held n f2.type ((cs.drop f2.offset).take (P.cellsOf f2.type)) = some y2 ∧
      DataW.trod enc P w base spare held n f3.type ((cs.drop f3.offset).take (P.cellsOf f3.type)) = some y3 ∧ DataW.trod enc P w base spare held n f4.type ((cs.drop f4.offset).take (P.cellsOf f4.type)) = some y4 ∧
      DataW.trod enc P w base spare held n f5.type ((cs.drop f5.offset).take (P.cellsOf f5.type)) = some y5 ∧ DataW.trod enc P w base spare held n f6.type ((cs.drop f6.offset).take (P.cellsOf f6.type)) = some y6 := by
  obtain ⟨xs, n, _, rfl, hl, hlen, hf⟩ := DataW.trod_struct ht h
  match xs, hlen with
  | [y0, y1, y2, y3, y4, y5, y6], _ => exact ⟨y0, y1, y2, y3, y4, y5, y6, n, by simp, hl, by simpa using hf 0 f0 rfl, by simpa using hf 1 f1 rfl, by simpa using hf 2 f2 rfl, by simpa using hf 3 f3 rfl, by simpa using hf 4 f4 rfl, by simpa using hf 5 f5 rfl, by simpa using hf 6 f6 rfl⟩
theorem cellsOp5 : Try.prog.cellsOf 41 = 7 := by kernel_rfl
theorem cellsRRuns : Try.prog.cellsOf 37 = 1 := by kernel_rfl
def Opv.zero : Opv := ⟨0, 0, 0, 0, 0, 0, none, [], 0⟩
/-- what is known of an Op that came in -/
structure Opv.good (o : Opv) (w : World) : Prop where
  k : N64 o.k
  who : N64 o.who
  tt : N64 o.tt
  lo : N64 o.lo
  hi : N64 o.hi
  n : N64 o.n
  ir : Rf.Vs w o.aL o.L
  bnd : ∀ r ∈ o.L, N64 r.1 ∧ N64 r.2
  len : o.L.length ≤ 8796093021952
theorem Opv.good.blk {o : Opv} {w : World} (h : o.good w) {x : Addr} (hx : o.aL = some x) (h0 : o.L ≠ []) : x.block < w.heap.size := by
  obtain ⟨b, q, e, h1, _⟩ := h.ir.at (i := 0) (List.length_pos_iff.2 h0)
  rw [hx] at e
  simp only [Option.some.injEq] at e
  rw [e]
  exact block_lt_of_cell h1
set_option maxRecDepth 100000 in
theorem open_op5_cs {H : Type} {enc : TypeId × Value → H} {W : World} {fuel : Nat} {cs : List Value} {d : DataW H} {p : List MemPlace}
    (h : DataW.trod enc Try.prog W 0 (fun _ => true) true fuel 41 cs = some (d, p)) (hd : Rows.uptoBulk d ≤ 1048576) :
    ∃ o : Opv, cs = o.cs ∧ o.good W := by
  obtain ⟨y0, y1, y2, y3, y4, y5, y6, n, hx, hl, h0, h1, h2, h3, h4, h5, h6⟩ := trod_struct7 Try.underlying41 h
  obtain ⟨c0, c1, c2, c3, c4, c5, c6, rfl⟩ := list7 (hl.trans cellsOp5)
  simp only [cellsInt', cellsRRuns, List.drop_zero, List.drop_succ_cons, List.take_succ_cons, List.take_zero] at h0 h1 h2 h3 h4 h5 h6
  have hd' : d = .agg [y0.1, y1.1, y2.1, y3.1, y4.1, y5.1, y6.1] := hx
  rw [hd'] at hd
  simp only [Rows.uptoBulk, Rows.uptoBulkAll] at hd
  obtain ⟨k0, e0, _, w0⟩ := DataW.trod_int Try.underlying3 h0
  obtain ⟨k1, e1, _, w1⟩ := DataW.trod_int Try.underlying3 h1
  obtain ⟨k2, e2, _, w2⟩ := DataW.trod_int Try.underlying3 h2
  obtain ⟨k3, e3, _, w3⟩ := DataW.trod_int Try.underlying3 h3
  obtain ⟨k4, e4, _, w4⟩ := DataW.trod_int Try.underlying3 h4
  obtain ⟨k5, e5, _, w5⟩ := DataW.trod_int Try.underlying3 h5
  obtain ⟨aL, L, cL, e6, i6, b6, l6⟩ := open_rruns_cs (d := y6.1) (p := y6.2) h6 (by omega)
  simp only [List.cons.injEq, and_true] at e0 e1 e2 e3 e4 e5 e6
  subst e0 e1 e2 e3 e4 e5 e6
  exact ⟨⟨k0, k1, k2, k3, k4, k5, aL, L, cL⟩, rfl, ⟨le_i64 w0, le_i64 w1, le_i64 w2, le_i64 w3, le_i64 w4, le_i64 w5, Rf.of_ir i6, b6, Nat.le_trans l6 (by decide)⟩⟩
/-- a script in memory -/
def Os (w : World) (a : Option Addr) (S : List Opv) : Prop := S = [] ∨ ∃ b o, a = some ⟨b, o, none⟩ ∧ ∀ i, i < S.length → ∀ j u, (S.getD i Opv.zero).cs[j]? = some u → w.cell? ⟨b, o + i * 7 + j, none⟩ = some u
set_option maxRecDepth 100000 in
theorem open_ops5 {H : Type} {enc : TypeId × Value → H} {W : World} {a : Option Addr} {len cap : Nat} {d : DataW H} {p : List MemPlace}
    (h : DataW.Trod enc Try.prog W 0 (fun _ => true) true 22 (.slice a len cap) d p) (hd : Rows.uptoBulk d ≤ 1048576) :
    ∃ S : List Opv, len = S.length ∧ Os W a S ∧ (∀ o ∈ S, o.good W) ∧ S.length ≤ 1048576 := by
  obtain ⟨fuel, hf⟩ := h
  rcases Deep.open_slice Try.underlying22 hf with ⟨hcs, _⟩ | ⟨x, len', cap', m, n, D, Pl, hcs, _, hl, hm, hmm, hx, hrows⟩
  · simp only [Value.cells, List.cons.injEq, and_true, Value.slice.injEq] at hcs
    obtain ⟨rfl, rfl, rfl⟩ := hcs
    exact ⟨[], rfl, .inl rfl, by simp, by simp⟩
  · simp only [Value.cells, List.cons.injEq, and_true, Value.slice.injEq] at hcs
    obtain ⟨rfl, rfl, rfl⟩ := hcs
    simp only [Prod.mk.injEq] at hx
    obtain ⟨rfl, _⟩ := hx
    simp only [if_true] at hmm
    subst hmm
    have hlen : len ≤ 1048576 := by
      simp only [Rows.uptoBulk] at hd
      have h1 := bulk_length ((List.range len).map D)
      rw [List.length_map, List.length_range] at h1
      omega
    by_cases h0 : len = 0
    · subst h0
      exact ⟨[], rfl, .inl rfl, by simp, by simp⟩
    · have hmemD : ∀ r, r < len → D r ∈ (List.range len).map D := fun r hr => List.mem_map.2 ⟨r, List.mem_range.2 hr, rfl⟩
      have hbD : ∀ r, r < len → Rows.uptoBulk (D r) ≤ 1048576 := fun r hr => by
        have h1 := bulk_mem (hmemD r hr)
        simp only [Rows.uptoBulk] at hd
        omega
      obtain ⟨b, off, spot⟩ := x
      have hspot : spot = none := by
        obtain ⟨cs, hc, ht⟩ := hrows 0 (by omega)
        obtain ⟨f, rfl, _⟩ := open_op5_cs ht (hbD 0 (by omega))
        generalize hk : (0 : Nat) = k0 at hc
        rw [cellsOp5] at hc
        obtain ⟨_, _, hce⟩ := World.cells?_some hc
        have e0 := (hce 0 (by decide)).trans (show f.cs[0]? = some (.int .i64 f.k) from rfl)
        have hs0 := World.cell?_spot e0
        subst hk
        simpa [Addr.add] using hs0
      subst hspot
      have each : ∀ r, r < len → ∃ v : Opv, (∀ j u, v.cs[j]? = some u → W.cell? ⟨b, off + r * 7 + j, none⟩ = some u) ∧ v.good W := by
        intro r hr
        obtain ⟨cs, hc, ht⟩ := hrows r (by omega)
        obtain ⟨v, rfl, h1⟩ := open_op5_cs ht (hbD r hr)
        rw [cellsOp5] at hc
        obtain ⟨_, _, hce⟩ := World.cells?_some hc
        refine ⟨v, fun j u hu => ?_, h1⟩
        have hj : j < 7 := (List.getElem?_eq_some_iff.1 hu).1
        have h := hce j hj
        rw [Deep.add_add, Addr.add_mid, ← Nat.add_assoc] at h
        exact h.trans hu
      haveI : Inhabited Opv := ⟨Opv.zero⟩
      obtain ⟨F, hF⟩ := Deep.choose_lt each
      have hget : ∀ r, r < len → ((List.range len).map F).getD r Opv.zero = F r := fun r hr => by simp [hr]
      have hlenL : ((List.range len).map F).length = len := by simp
      refine ⟨(List.range len).map F, hlenL.symm, .inr ⟨b, off, rfl, fun r hr => ?_⟩, fun v hv => ?_, by rw [hlenL]; exact hlen⟩
      · rw [hlenL] at hr
        rw [hget r hr]
        exact (hF r hr).1
      · obtain ⟨r, hr, rfl⟩ := List.mem_map.1 hv
        exact (hF r (List.mem_range.1 hr)).2
end Go.Proofs.Ytdinhfogclmaaaa
