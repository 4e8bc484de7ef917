import Derived.Test.YtceeeofkigkpkaaGreatEY
import Derived.Test.YtceeeofkigkpkaaGreatRows
import Derived.ProofKit
import Derived.OpenShut
import Derived.ShutString
import Derived.ChangeOld
import Derived.Deep.Slices
import Derived.SizedLaws
import Derived.JoinedCond
namespace Go.Proofs.YtceeeofkigkpkaaGreat
open Go.ChangeShapes Go.WideShapes Go.ChangeAt Go.RowKit

theorem own : ownKnob Tryz.prog.godebug = none := by kernel_rfl
theorem laidOut : laidOutB Tryz.prog = true := by kernel_rfl
theorem cellsInt : Tryz.prog.cellsOf 3 = 1 := by kernel_rfl
theorem cellsBool : Tryz.prog.cellsOf 4 = 1 := by kernel_rfl
theorem cellsInts : Tryz.prog.cellsOf 22 = 1 := by kernel_rfl
theorem bytesInt : Tryz.prog.bytesOf 3 = 8 := by kernel_rfl
theorem cellsOp : Tryz.prog.cellsOf 37 = 3 := by kernel_rfl
theorem bytesOp : Tryz.prog.bytesOf 37 = 24 := by kernel_rfl
theorem cellsBegin : Tryz.prog.cellsOf 24 = 4 := by kernel_rfl
def N64 (x : Int) : Prop := -9223372036854775808 ≤ x ∧ x ≤ 9223372036854775807
theorem n64 {z : Int} (h : (Lit.int .i64 z).wf = true) : N64 z := by
  have := bounds_i64 h
  exact ⟨by omega, by omega⟩
theorem list3 {α : Type} {l : List α} (h : l.length = 3) : ∃ a b c, l = [a, b, c] := by
  match l, h with
  | [a, b, c], _ => exact ⟨a, b, c, rfl⟩
theorem trod_struct3 {H : Type} {enc : TypeId × Value → H} {P : Program} {w : World} {base : Nat} {spare : Nat → Bool} {held : Bool} {t : TypeId} {f0 f1 f2 : Field} {fuel : Nat} {cs : List Value} {x : DataW H × List MemPlace} (ht : P.underlying t = some (.struct #[f0, f1, f2])) (h : DataW.trod enc P w base spare held fuel t cs = some x) :
    ∃ y0 y1 y2 n, x.1 = .agg [y0.1, y1.1, y2.1] ∧ cs.length = P.cellsOf t ∧ DataW.trod enc P w base spare held n f0.type ((cs.drop f0.offset).take (P.cellsOf f0.type)) = some y0 ∧
      DataW.trod enc P w base spare held n f1.type ((cs.drop f1.offset).take (P.cellsOf f1.type)) = some y1 ∧ DataW.trod enc P w base spare held n f2.type ((cs.drop f2.offset).take (P.cellsOf f2.type)) = some y2 := by
  obtain ⟨xs, n, _, rfl, hl, hlen, hf⟩ := DataW.trod_struct ht h
  match xs, hlen with
  | [y0, y1, y2], _ => exact ⟨y0, y1, y2, n, by simp, hl, by simpa using hf 0 f0 rfl, by simpa using hf 1 f1 rfl, by simpa using hf 2 f2 rfl⟩
theorem trod_struct4 {H : Type} {enc : TypeId × Value → H} {P : Program} {w : World} {base : Nat} {spare : Nat → Bool} {held : Bool} {t : TypeId} {f0 f1 f2 f3 : Field} {fuel : Nat} {cs : List Value} {x : DataW H × List MemPlace} (ht : P.underlying t = some (.struct #[f0, f1, f2, f3])) (h : DataW.trod enc P w base spare held fuel t cs = some x) :
    ∃ y0 y1 y2 y3 n, x.1 = .agg [y0.1, y1.1, y2.1, y3.1] ∧ cs.length = P.cellsOf t ∧ DataW.trod enc P w base spare held n f0.type ((cs.drop f0.offset).take (P.cellsOf f0.type)) = some y0 ∧ DataW.trod enc P w base spare held n f1.type ((cs.drop f1.offset).take (P.cellsOf f1.type)) = some y1 ∧ DataW.trod enc P w base spare held n f2.type ((cs.drop f2.offset).take (P.cellsOf f2.type)) = some y2 ∧ DataW.trod enc P w base spare held n f3.type ((cs.drop f3.offset).take (P.cellsOf f3.type)) = some y3 := by
  obtain ⟨xs, n, _, rfl, hl, hlen, hf⟩ := DataW.trod_struct ht h
  match xs, hlen with
  | [y0, y1, y2, y3], _ => exact ⟨y0, y1, y2, y3, n, by simp, hl, by simpa using hf 0 f0 rfl, by simpa using hf 1 f1 rfl, by simpa using hf 2 f2 rfl, by simpa using hf 3 f3 rfl⟩
theorem list4 {α : Type} {l : List α} (h : l.length = 4) : ∃ c0 c1 c2 c3, l = [c0, c1, c2, c3] := by
  match l, h with
  | [c0, c1, c2, c3], _ => exact ⟨c0, c1, c2, c3, rfl⟩
set_option maxRecDepth 100000 in
theorem open_nums_cs {H : Type} {enc : TypeId × Value → H} {W : World} {fuel : Nat} {cs0 : List Value} {d : DataW H} {p : List MemPlace}
    (hf : DataW.trod enc Tryz.prog W 0 (fun _ => true) true fuel 22 cs0 = some (d, p)) (hd : ∀ x ∈ d.weights Tryz.prog 22, x ≤ reachBytes) :
    ∃ (X : List Int) (a : Option Addr) (cap : Nat), cs0 = [.slice a X.length cap] ∧ Ir W a X ∧ X.length ≤ 17592186043904 := by
  rcases Deep.open_slice Tryz.underlying22 hf with ⟨hcs, _⟩ | ⟨x, len, c, m, n, D, Pl, hcs, _, hl, hm, hmm, hx, hrows⟩
  · subst hcs
    exact ⟨[], none, 0, rfl, .inl rfl, by simp⟩
  · subst hcs
    simp only [Prod.mk.injEq] at hx
    obtain ⟨rfl, _⟩ := hx
    simp only [if_true] at hmm
    subst hmm
    have hlen : len ≤ 17592186043904 := by
      have h2 := hd _ (by simp only [DataW.weights, Tryz.underlying22, List.mem_cons]; exact .inl rfl)
      rw [List.length_map, List.length_range, bytesInt] at h2
      unfold reachBytes at h2
      omega
    by_cases h0 : len = 0
    · subst h0
      exact ⟨[], some x, _, rfl, .inl rfl, by simp⟩
    · obtain ⟨b, off, spot⟩ := x
      have hspot : spot = none := by
        obtain ⟨cs, hc, ht⟩ := hrows 0 (by omega)
        obtain ⟨f, rfl, _, _⟩ := DataW.trod_int Tryz.underlying3 ht
        generalize hk : (0 : Nat) = k0 at hc
        rw [cellsInt] at hc
        obtain ⟨_, _, hce⟩ := World.cells?_some hc
        have e0 := (hce 0 (by decide)).trans (show [Value.int .i64 f][0]? = some (.int .i64 f) from rfl)
        have hs0 := World.cell?_spot e0
        subst hk
        simpa [Addr.add] using hs0
      subst hspot
      have each : ∀ r, r < len → ∃ v : Int, W.cell? ⟨b, off + r, none⟩ = some (.int .i64 v) := by
        intro r hr
        obtain ⟨cs, hc, ht⟩ := hrows r (by omega)
        obtain ⟨v, rfl, _, wk⟩ := DataW.trod_int Tryz.underlying3 ht
        rw [cellsInt] at hc
        obtain ⟨_, _, hce⟩ := World.cells?_some hc
        have h := hce 0 (by omega)
        rw [Deep.add_add, Addr.add_mid, Nat.mul_one, Nat.add_zero] at h
        exact ⟨v, h.trans rfl⟩
      obtain ⟨F, hF⟩ := Deep.choose_lt each
      have hget : ∀ r, r < len → ((List.range len).map F).getD r 0 = F r := fun r hr => by simp [hr]
      have hlenL : ((List.range len).map F).length = len := by simp
      refine ⟨(List.range len).map F, some ⟨b, off, none⟩, _, by rw [hlenL], .inr ⟨b, off, rfl, fun r hr => ?_⟩, by rw [hlenL]; exact hlen⟩
      rw [hlenL] at hr
      rw [hget r hr]
      exact hF r hr
theorem open_begin {H : Type} {enc : TypeId × Value → H} {W : World} {cs : Array Value} {d : DataW H} {p : List MemPlace}
    (h : DataW.Trod enc Tryz.prog W 0 (fun _ => true) true 24 (.agg cs) d p) (hd : ∀ x ∈ d.weights Tryz.prog 24, x ≤ reachBytes) :
    ∃ (l : Bool) (n r : Int) (a : Option Addr) (cap : Nat) (C : List Int), cs = #[.bool l, .int .i64 n, .int .i64 r, .slice a C.length cap] ∧ Ir W a C ∧ C.length ≤ 17592186043904 := by
  obtain ⟨fuel, hf⟩ := h
  obtain ⟨y0, y1, y2, y3, n, hx, hl, h0, h1, h2, h3⟩ := trod_struct4 Tryz.underlying24 hf
  obtain ⟨c0, c1, c2, c3, hcs⟩ := list4 (hl.trans cellsBegin)
  rw [hcs] at h0 h1 h2 h3
  simp only [cellsInt, cellsBool, cellsInts, List.drop_zero, List.drop_succ_cons, List.take_succ_cons, List.take_zero] at h0 h1 h2 h3
  obtain ⟨z0, e0, _⟩ := DataW.trod_bool Tryz.underlying4 h0
  obtain ⟨z1, e1, _, k1⟩ := DataW.trod_int Tryz.underlying3 h1
  obtain ⟨z2, e2, _, k2⟩ := DataW.trod_int Tryz.underlying3 h2
  have hd' : d = .agg [y0.1, y1.1, y2.1, y3.1] := hx
  obtain ⟨X, a, cap, e3, hI, hN⟩ := open_nums_cs (d := y3.1) (p := y3.2) h3 (fun x hx => hd x (by
    rw [hd']
    simp only [DataW.weights, Tryz.underlying24, List.map_cons, List.map_nil, DataW.weightsEach, List.mem_append]
    simp [hx]))
  simp only [List.cons.injEq, and_true] at e0 e1 e2 e3
  subst e0 e1 e2 e3
  exact ⟨z0, z1, z2, a, cap, X, Array.toList_inj.1 hcs, hI, hN⟩
theorem open_op {H : Type} {enc : TypeId × Value → H} {W : World} {fuel : Nat} {cs : List Value} {d : DataW H} {p : List MemPlace}
    (h : DataW.trod enc Tryz.prog W 0 (fun _ => true) true fuel 37 cs = some (d, p)) :
    ∃ t : Ov, cs = t.cs := by
  obtain ⟨y0, y1, y2, n, hx, hl, h0, h1, h2⟩ := trod_struct3 Tryz.underlying37 h
  obtain ⟨c0, c1, c2, rfl⟩ := list3 (hl.trans cellsOp)
  simp only [cellsInt, List.drop_zero, List.drop_succ_cons, List.take_succ_cons, List.take_zero] at h0 h1 h2
  obtain ⟨k, e0, _, wk⟩ := DataW.trod_int Tryz.underlying3 h0
  obtain ⟨i, e1, _, wi⟩ := DataW.trod_int Tryz.underlying3 h1
  obtain ⟨b, e2, _, wb⟩ := DataW.trod_int Tryz.underlying3 h2
  simp only [List.cons.injEq, and_true] at e0 e1 e2
  subst e0 e1 e2
  exact ⟨(k, i, b), rfl⟩
theorem op_weight {H : Type} (el sp : List (DataW H)) : (el.length + sp.length) * Tryz.prog.bytesOf 37 ∈ (DataW.slice el sp).weights Tryz.prog 25 := by
  simp only [DataW.weights, Tryz.underlying25, List.mem_cons]
  exact .inl trivial
set_option maxRecDepth 100000 in
/-- steps that came in -/
theorem open_ops {H : Type} {enc : TypeId × Value → H} {W : World} {a : Option Addr} {len cap : Nat} {d : DataW H} {p : List MemPlace}
    (h : DataW.Trod enc Tryz.prog W 0 (fun _ => true) true 25 (.slice a len cap) d p) (hd : ∀ x ∈ d.weights Tryz.prog 25, x ≤ reachBytes) :
    ∃ L : List Ov, len = L.length ∧ Oq W a L ∧ L.length ≤ 5864062014805 := by
  obtain ⟨fuel, hf⟩ := h
  rcases Deep.open_slice Tryz.underlying25 hf with ⟨hcs, _⟩ | ⟨x, l, c, m, n, D, Pl, hcs, _, hl, hm, hmm, hx, hrows⟩
  · simp only [Value.cells, List.cons.injEq, and_true, Value.slice.injEq] at hcs
    obtain ⟨rfl, rfl, rfl⟩ := hcs
    exact ⟨[], rfl, .inl rfl, by simp⟩
  · simp only [Value.cells, List.cons.injEq, and_true, Value.slice.injEq] at hcs
    obtain ⟨rfl, rfl, rfl⟩ := hcs
    simp only [Prod.mk.injEq] at hx
    obtain ⟨rfl, _⟩ := hx
    simp only [if_true] at hmm
    subst hmm
    have hlen : len ≤ 5864062014805 := by
      have h1 := hd _ (op_weight _ _)
      rw [bytesOp, List.length_map, List.length_range] at h1
      unfold reachBytes at h1
      omega
    by_cases h0 : len = 0
    · subst h0
      exact ⟨[], rfl, .inl rfl, by simp⟩
    · obtain ⟨b, off, spot⟩ := x
      have hspot : spot = none := by
        obtain ⟨cs, hc, ht⟩ := hrows 0 (by omega)
        obtain ⟨f, rfl⟩ := open_op ht
        generalize hk : (0 : Nat) = k0 at hc
        rw [cellsOp] at hc
        obtain ⟨_, _, hce⟩ := World.cells?_some hc
        have e0 := (hce 0 (by decide)).trans (show f.cs[0]? = some (.int .i64 f.1) from rfl)
        have hs0 := World.cell?_spot e0
        subst hk
        simpa [Addr.add] using hs0
      subst hspot
      have each : ∀ r, r < len → ∃ v : Ov, (∀ j u, v.cs[j]? = some u → W.cell? ⟨b, off + r * 3 + j, none⟩ = some u) := by
        intro r hr
        obtain ⟨cs, hc, ht⟩ := hrows r (by omega)
        obtain ⟨v, rfl⟩ := open_op ht
        rw [cellsOp] at hc
        obtain ⟨_, _, hce⟩ := World.cells?_some hc
        refine ⟨v, fun j u hu => ?_⟩
        have hj : j < 3 := (List.getElem?_eq_some_iff.1 hu).1
        have h := hce j hj
        rw [Deep.add_add, Addr.add_mid, ← Nat.add_assoc] at h
        exact h.trans hu
      haveI : Inhabited Ov := ⟨Ov.zero⟩
      obtain ⟨F, hF⟩ := Deep.choose_lt each
      have hget : ∀ r, r < len → ((List.range len).map F).getD r Ov.zero = F r := fun r hr => by simp [hr]
      have hlenL : ((List.range len).map F).length = len := by simp
      refine ⟨(List.range len).map F, hlenL.symm, .inr ⟨b, off, rfl, fun r hr => ?_⟩, by rw [hlenL]; exact hlen⟩
      rw [hlenL] at hr
      rw [hget r hr]
      have h := hF r hr
      exact ⟨h 0 _ rfl, h 1 _ rfl, h 2 _ rfl⟩
end Go.Proofs.YtceeeofkigkpkaaGreat
