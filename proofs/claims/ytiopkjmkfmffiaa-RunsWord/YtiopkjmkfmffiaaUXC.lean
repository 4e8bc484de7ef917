import Derived.Test.YtiopkjmkfmffiaaUWA
namespace Go.Proofs.Ytiopkjmkfmffiaa
open Go.ChangeShapes Go.WideShapes Go.ChangeAt Go.RowKit

/-! ### runs and ints that came in -/
/-- the document's runs in memory -/
def Ir (w : World) (a : Option Addr) (L : List Rn) : Prop := L = [] ∨ ∃ b o, a = some ⟨b, o, none⟩ ∧ ∀ i, i < L.length → w.cell? ⟨b, o + i * 2, none⟩ = some (.int .i64 (L.getD i Rn.zero).1) ∧ w.cell? ⟨b, o + i * 2 + 1, none⟩ = some (.int .i64 (L.getD i Rn.zero).2)
theorem Ir.keep {w w' : World} {a : Option Addr} {L : List Rn} (h : Ir w a L) (hb : Below w.heap.size w w') : Ir w' a L := h.imp id fun ⟨b, o, e, hc⟩ => ⟨b, o, e, fun i hi => ⟨(hb.cell (p := ⟨b, o + i * 2, none⟩) (block_lt_of_cell (hc i hi).1)).trans (hc i hi).1, (hb.cell (p := ⟨b, o + i * 2 + 1, none⟩) (block_lt_of_cell (hc i hi).2)).trans (hc i hi).2⟩⟩
theorem Ir.at {w : World} {a : Option Addr} {L : List Rn} (h : Ir w a L) {i : Nat} (hi : i < L.length) : ∃ b o, a = some ⟨b, o, none⟩ ∧ w.cell? ⟨b, o + i * 2, none⟩ = some (.int .i64 (L.getD i Rn.zero).1) ∧ w.cell? ⟨b, o + i * 2 + 1, none⟩ = some (.int .i64 (L.getD i Rn.zero).2) := by
  rcases h with rfl | ⟨b, o, e, hc⟩
  · simp at hi
  · exact ⟨b, o, e, hc i hi⟩
/-- a number of the document's -/
def N64 (x : Int) : Prop := -9223372036854775808 ≤ x ∧ x ≤ 9223372036854775807
theorem cellsRRun : Try.prog.cellsOf 86 = 2 := by kernel_rfl
theorem list2 {α : Type} {l : List α} (h : l.length = 2) : ∃ a b, l = [a, b] := by
  match l, h with
  | [a, b], _ => exact ⟨a, b, rfl⟩
theorem trod_struct2 {H : Type} {enc : TypeId × Value → H} {P : Program} {w : World} {base : Nat} {spare : Nat → Bool} {held : Bool} {t : TypeId} {f0 f1 : Field} {fuel : Nat} {cs : List Value} {x : DataW H × List MemPlace} (ht : P.underlying t = some (.struct #[f0, f1])) (h : DataW.trod enc P w base spare held fuel t cs = some x) :
    ∃ y0 y1 n, cs.length = P.cellsOf t ∧ DataW.trod enc P w base spare held n f0.type ((cs.drop f0.offset).take (P.cellsOf f0.type)) = some y0 ∧
      DataW.trod enc P w base spare held n f1.type ((cs.drop f1.offset).take (P.cellsOf f1.type)) = some y1 := by
  obtain ⟨xs, n, _, rfl, hl, hlen, hf⟩ := DataW.trod_struct ht h
  match xs, hlen with
  | [y0, y1], _ => exact ⟨y0, y1, n, hl, by simpa using hf 0 f0 rfl, by simpa using hf 1 f1 rfl⟩
theorem open_rrun {H : Type} {enc : TypeId × Value → H} {W : World} {fuel : Nat} {cs : List Value} {d : DataW H} {p : List MemPlace}
    (h : DataW.trod enc Try.prog W 0 (fun _ => true) true fuel 86 cs = some (d, p)) :
    ∃ t : Rn, cs = [.int .i64 t.1, .int .i64 t.2] ∧ N64 t.1 ∧ N64 t.2 := by
  obtain ⟨y0, y1, n, hl, h0, h1⟩ := trod_struct2 Try.underlying86 h
  obtain ⟨c0, c1, rfl⟩ := list2 (hl.trans cellsRRun)
  simp only [cellsInt', List.drop_zero, List.drop_succ_cons, List.take_succ_cons, List.take_zero] at h0 h1
  obtain ⟨k, e0, _, wk⟩ := DataW.trod_int Try.underlying3 h0
  obtain ⟨i, e1, _, wi⟩ := DataW.trod_int Try.underlying3 h1
  simp only [List.cons.injEq, and_true] at e0 e1
  subst e0 e1
  exact ⟨(k, i), rfl, le_i64 wk, le_i64 wi⟩
set_option maxRecDepth 100000 in
theorem open_rruns_cs {H : Type} {enc : TypeId × Value → H} {W : World} {fuel : Nat} {cs : List Value} {d : DataW H} {p : List MemPlace}
    (hf : DataW.trod enc Try.prog W 0 (fun _ => true) true fuel 36 cs = some (d, p)) (hd : Rows.uptoBulk d ≤ 1048576) :
    ∃ (a : Option Addr) (L : List Rn) (cap : Nat), cs = [.slice a L.length cap] ∧ Ir W a L ∧ (∀ r ∈ L, N64 r.1 ∧ N64 r.2) ∧ L.length ≤ 1048576 := by
  rcases Deep.open_slice Try.underlying36 hf with ⟨hcs, _⟩ | ⟨x, len, cap, m, n, D, Pl, hcs, _, hl, hm, hmm, hx, hrows⟩
  · exact ⟨none, [], 0, hcs, .inl rfl, by simp, by simp⟩
  · simp only [Prod.mk.injEq] at hx
    obtain ⟨rfl, _⟩ := hx
    simp only [if_true] at hmm
    subst hmm
    have hlen : len ≤ 1048576 := by
      simp only [Rows.uptoBulk] at hd
      have h1 := bulk_length ((List.range len).map D)
      rw [List.length_map, List.length_range] at h1
      omega
    by_cases h0 : len = 0
    · subst h0
      exact ⟨some x, [], m, hcs, .inl rfl, by simp, by simp⟩
    · obtain ⟨b, off, spot⟩ := x
      have hspot : spot = none := by
        obtain ⟨cs, hc, ht⟩ := hrows 0 (by omega)
        obtain ⟨f, rfl, _⟩ := open_rrun ht
        generalize hk : (0 : Nat) = k0 at hc
        rw [cellsRRun] at hc
        obtain ⟨_, _, hce⟩ := World.cells?_some hc
        have e0 := (hce 0 (by decide)).trans (show [Value.int .i64 f.1, Value.int .i64 f.2][0]? = some (.int .i64 f.1) from rfl)
        have hs0 := World.cell?_spot e0
        subst hk
        simpa [Addr.add] using hs0
      subst hspot
      have each : ∀ r, r < len → ∃ v : Rn, (W.cell? ⟨b, off + r * 2, none⟩ = some (.int .i64 v.1) ∧ W.cell? ⟨b, off + r * 2 + 1, none⟩ = some (.int .i64 v.2)) ∧ N64 v.1 ∧ N64 v.2 := by
        intro r hr
        obtain ⟨cs, hc, ht⟩ := hrows r (by omega)
        obtain ⟨v, rfl, hok⟩ := open_rrun ht
        rw [cellsRRun] at hc
        obtain ⟨_, _, hce⟩ := World.cells?_some hc
        have hh : ∀ j u, j < 2 → [Value.int .i64 v.1, Value.int .i64 v.2][j]? = some u → W.cell? ⟨b, off + r * 2 + j, none⟩ = some u := fun j u hj hu => by
          have h := hce j hj
          rw [Deep.add_add, Addr.add_mid, ← Nat.add_assoc] at h
          exact h.trans hu
        exact ⟨v, ⟨hh 0 _ (by omega) rfl, hh 1 _ (by omega) rfl⟩, hok⟩
      haveI : Inhabited Rn := ⟨Rn.zero⟩
      obtain ⟨F, hF⟩ := Deep.choose_lt each
      have hget : ∀ r, r < len → ((List.range len).map F).getD r Rn.zero = F r := fun r hr => by simp [hr]
      have hlenL : ((List.range len).map F).length = len := by simp
      refine ⟨some ⟨b, off, none⟩, (List.range len).map F, m, by rw [hlenL]; exact hcs, .inr ⟨b, off, rfl, fun r hr => ?_⟩, fun v hv => ?_, by rw [hlenL]; exact hlen⟩
      · rw [hlenL] at hr
        rw [hget r hr]
        exact (hF r hr).1
      · obtain ⟨r, hr, rfl⟩ := List.mem_map.1 hv
        exact (hF r (List.mem_range.1 hr)).2
theorem open_rruns {H : Type} {enc : TypeId × Value → H} {W : World} {a : Option Addr} {len cap : Nat} {d : DataW H} {p : List MemPlace}
    (h : DataW.Trod enc Try.prog W 0 (fun _ => true) true 36 (.slice a len cap) d p) (hd : Rows.uptoBulk d ≤ 1048576) :
    ∃ L : List Rn, len = L.length ∧ Ir W a L ∧ (∀ r ∈ L, N64 r.1 ∧ N64 r.2) ∧ L.length ≤ 1048576 := by
  obtain ⟨fuel, hf⟩ := h
  obtain ⟨a', L, cap', hcs, h1, h2, h3⟩ := open_rruns_cs hf hd
  simp only [Value.cells, List.cons.injEq, and_true, Value.slice.injEq] at hcs
  obtain ⟨rfl, rfl, rfl⟩ := hcs
  exact ⟨L, rfl, h1, h2, h3⟩
end Go.Proofs.Ytiopkjmkfmffiaa
