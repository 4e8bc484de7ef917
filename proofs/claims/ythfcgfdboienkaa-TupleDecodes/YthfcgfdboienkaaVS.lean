import Derived.Test.YthfcgfdboienkaaVK
import Derived.Test.YthfcgfdboienkaaRows
import Derived.ProofKit
import Derived.OpenShut
import Derived.ShutString
import Derived.ChangeOld
import Derived.Deep.Slices
import Derived.SizedLaws
import Derived.JoinedCond
namespace Go.Proofs.Ythfcgfdboienkaa
open Go.ChangeShapes Go.WideShapes Go.ChangeAt Go.RowKit

theorem own : ownKnob Try.prog.godebug = none := by kernel_rfl
theorem laidOut : laidOutB Try.prog = true := by kernel_rfl
theorem cellsV : Try.prog.cellsOf 30 = 7 := by kernel_rfl
theorem cellsU64' : Try.prog.cellsOf 28 = 1 := by kernel_rfl
theorem cellsInt' : Try.prog.cellsOf 3 = 1 := by kernel_rfl
theorem cellsI64' : Try.prog.cellsOf 2 = 1 := by kernel_rfl
theorem cellsBool' : Try.prog.cellsOf 4 = 1 := by kernel_rfl
theorem cellsStr' : Try.prog.cellsOf 9 = 1 := by kernel_rfl
theorem bytesV : Try.prog.bytesOf 30 = 64 := by kernel_rfl
theorem le_i64 {a : Int} (h : (Lit.int .i64 a).wf = true) : -9223372036854775808 ≤ a ∧ a ≤ 9223372036854775807 := by
  have hb := bounds_i64 h
  omega
theorem nat_u64 {a : Int} (h : (Lit.int .u64 a).wf = true) : ∃ n : Nat, n < 18446744073709551616 ∧ a = n := by
  have hb := bounds_u64 h
  exact ⟨a.toNat, by omega, by omega⟩
theorem weightsAll_mem {H : Type} {P : Program} {e : TypeId} {d : DataW H} : ∀ {l : List (DataW H)}, d ∈ l → ∀ n ∈ d.weights P e, n ∈ DataW.weightsAll P e l
  | x :: r, hd, n, hn => by
    simp only [DataW.weightsAll, List.mem_append]
    rcases List.mem_cons.1 hd with rfl | hd
    · exact .inl hn
    · exact .inr (weightsAll_mem hd n hn)
theorem weights_elem {H : Type} {P : Program} {t e : TypeId} {d : DataW H} {el sp : List (DataW H)} (hu : P.underlying t = some (.slice e)) (hd : d ∈ el) (n : Nat) (hn : n ∈ d.weights P e) : n ∈ (DataW.slice el sp).weights P t := by
  simp only [DataW.weights, hu, List.mem_cons, List.mem_append]
  exact .inr (.inl (weightsAll_mem hd n hn))
theorem list7 {α : Type} {l : List α} (h : l.length = 7) : ∃ a b c d e f g, l = [a, b, c, d, e, f, g] := by
  match l, h with
  | [a, b, c, d, e, f, g], _ => exact ⟨a, b, c, d, e, f, g, rfl⟩
theorem trod_struct7 {H : Type} {enc : TypeId × Value → H} {P : Program} {w : World} {base : Nat} {spare : Nat → Bool} {held : Bool} {t : TypeId} {f0 f1 f2 f3 f4 f5 f6 : Field} {fuel : Nat} {cs : List Value} {x : DataW H × List MemPlace} (ht : P.underlying t = some (.struct #[f0, f1, f2, f3, f4, f5, f6])) (h : DataW.trod enc P w base spare held fuel t cs = some x) :
    ∃ y0 y1 y2 y3 y4 y5 y6 n, x.1 = .agg [y0.1, y1.1, y2.1, y3.1, y4.1, y5.1, y6.1] ∧ cs.length = P.cellsOf t ∧ DataW.trod enc P w base spare held n f0.type ((cs.drop f0.offset).take (P.cellsOf f0.type)) = some y0 ∧
      DataW.trod enc P w base spare held n f1.type ((cs.drop f1.offset).take (P.cellsOf f1.type)) = some y1 ∧ DataW.trod enc P w base spare held n f2.type ((cs.drop f2.offset).take (P.cellsOf f2.type)) = some y2 ∧
      DataW.trod enc P w base spare held n f3.type ((cs.drop f3.offset).take (P.cellsOf f3.type)) = some y3 ∧ DataW.trod enc P w base spare held n f4.type ((cs.drop f4.offset).take (P.cellsOf f4.type)) = some y4 ∧
      DataW.trod enc P w base spare held n f5.type ((cs.drop f5.offset).take (P.cellsOf f5.type)) = some y5 ∧ DataW.trod enc P w base spare held n f6.type ((cs.drop f6.offset).take (P.cellsOf f6.type)) = some y6 := by
  obtain ⟨xs, n, _, rfl, hl, hlen, hf⟩ := DataW.trod_struct ht h
  match xs, hlen with
  | [y0, y1, y2, y3, y4, y5, y6], _ => exact ⟨y0, y1, y2, y3, y4, y5, y6, n, by simp, hl, by simpa using hf 0 f0 rfl, by simpa using hf 1 f1 rfl, by simpa using hf 2 f2 rfl, by simpa using hf 3 f3 rfl, by simpa using hf 4 f4 rfl, by simpa using hf 5 f5 rfl, by simpa using hf 6 f6 rfl⟩
theorem v_weights {H : Type} (y0 y1 y2 y3 y4 y5 : DataW H) (s : List UInt8) : s.length ∈ (DataW.agg [y0, y1, y2, y3, y4, y5, .lit (.string s)]).weights Try.prog 30 := by
  simp only [DataW.weights, Try.underlying30, List.map_cons, List.map_nil, DataW.weightsEach, List.mem_append, List.mem_cons]
  simp
theorem open_v {H : Type} {enc : TypeId × Value → H} {W : World} {fuel : Nat} {cs : List Value} {d : DataW H} {p : List MemPlace}
    (h : DataW.trod enc Try.prog W 0 (fun _ => true) true fuel 30 cs = some (d, p)) :
    ∃ v : VV, cs = v.rc.toList ∧ v.text.size + 1 ≤ Rows.uptoBulk d ∧ ((∀ x ∈ d.weights Try.prog 30, x ≤ reachBytes) ∨ Rows.uptoBulk d ≤ 1048576 → v.ok) := by
  obtain ⟨y0, y1, y2, y3, y4, y5, y6, n, hx, hl, h0, h1, h2, h3, h4, h5, h6⟩ := trod_struct7 Try.underlying30 h
  obtain ⟨c0, c1, c2, c3, c4, c5, c6, rfl⟩ := list7 (hl.trans cellsV)
  simp only [cellsU64', cellsInt', cellsI64', cellsBool', cellsStr', List.drop_zero, List.drop_succ_cons, List.take_succ_cons, List.take_zero] at h0 h1 h2 h3 h4 h5 h6
  obtain ⟨k, e0, _, wk⟩ := DataW.trod_int Try.underlying3 h0
  obtain ⟨b, e1, _⟩ := DataW.trod_bool Try.underlying4 h1
  obtain ⟨i, e2, _, wi⟩ := DataW.trod_int Try.underlying2 h2
  obtain ⟨r, e3, _, wr⟩ := DataW.trod_int Try.underlying28 h3
  obtain ⟨re, e4, _, wre⟩ := DataW.trod_int Try.underlying28 h4
  obtain ⟨im, e5, _, wim⟩ := DataW.trod_int Try.underlying28 h5
  obtain ⟨t, e6, hy6, _⟩ := DataW.trod_string Try.underlying9 h6
  simp only [List.cons.injEq, and_true] at e0 e1 e2 e3 e4 e5 e6
  subst e0 e1 e2 e3 e4 e5 e6
  obtain ⟨r, hr, rfl⟩ := nat_u64 wr
  obtain ⟨re, hre, rfl⟩ := nat_u64 wre
  obtain ⟨im, him, rfl⟩ := nat_u64 wim
  have hd : d = .agg [y0.1, y1.1, y2.1, y3.1, y4.1, y5.1, .lit (.string t.data.toList)] := by rw [show d = _ from hx, hy6]
  have hts : t.data.toList.length = t.size := by simp
  have hbk : t.size + 1 ≤ Rows.uptoBulk d := by
    rw [hd]
    simp only [Rows.uptoBulk, Rows.uptoBulkAll, hts]
    omega
  refine ⟨⟨k, b, i, r, re, im, t⟩, rfl, hbk, fun hw => ⟨(le_i64 wk).1, (le_i64 wk).2, (le_i64 wi).1, (le_i64 wi).2, hr, hre, him, ?_⟩⟩
  show t.size ≤ _
  rcases hw with hw | hw
  · have hw := hw _ (by rw [hd]; exact v_weights _ _ _ _ _ _ _)
    rw [hts] at hw
    unfold reachBytes at hw
    omega
  · omega
theorem slice_weight {H : Type} (el sp : List (DataW H)) : (el.length + sp.length) * Try.prog.bytesOf 30 ∈ (DataW.slice el sp).weights Try.prog 22 := by
  simp only [DataW.weights, Try.underlying22, List.mem_cons]
  exact .inl trivial
theorem bulk_one {H : Type} (d : DataW H) : 1 ≤ Rows.uptoBulk d := by
  cases d with
  | lit l => cases l <;> simp [Rows.uptoBulk]
  | nil => simp [Rows.uptoBulk]
  | ptr d => simp [Rows.uptoBulk]
  | slice elems spare => simp [Rows.uptoBulk]
  | agg parts => simp [Rows.uptoBulk]
  | iface t d => simp [Rows.uptoBulk]
  | map entries => simp [Rows.uptoBulk]
  | held h => simp [Rows.uptoBulk]
theorem bulk_length {H : Type} (l : List (DataW H)) : l.length ≤ Rows.uptoBulkAll l := by
  induction l with
  | nil => simp [Rows.uptoBulkAll]
  | cons x r ih => have := bulk_one x; simp only [Rows.uptoBulkAll, List.length_cons]; omega
theorem bulk_mem {H : Type} {d : DataW H} : ∀ {l : List (DataW H)}, d ∈ l → Rows.uptoBulk d ≤ Rows.uptoBulkAll l
  | x :: r, hd => by
    simp only [Rows.uptoBulkAll]
    rcases List.mem_cons.1 hd with rfl | hd
    · omega
    · have := bulk_mem hd; omega
set_option maxRecDepth 100000 in
/-- values that came in -/
theorem open_vs {H : Type} {enc : TypeId × Value → H} {W : World} {a : Option Addr} {len cap : Nat} {d : DataW H} {p : List MemPlace}
    (h : DataW.Trod enc Try.prog W 0 (fun _ => true) true 22 (.slice a len cap) d p) (hd : (∀ x ∈ d.weights Try.prog 22, x ≤ reachBytes) ∨ Rows.uptoBulk d ≤ 1048576) :
    ∃ L : List VV, len = L.length ∧ Rs W a L ∧ (Rows.uptoBulk d ≤ 1048576 → ∀ v ∈ L, v.text.size ≤ 1048576) := by
  obtain ⟨fuel, hf⟩ := h
  rcases Deep.open_slice Try.underlying22 hf with ⟨hcs, _⟩ | ⟨x, l, c, m, n, D, Pl, hcs, _, hl, hm, hmm, hx, hrows⟩
  · simp only [Value.cells, List.cons.injEq, and_true, Value.slice.injEq] at hcs
    obtain ⟨rfl, rfl, rfl⟩ := hcs
    exact ⟨[], rfl, ⟨by simp, by simp, .inl rfl⟩, fun _ => by simp⟩
  · simp only [Value.cells, List.cons.injEq, and_true, Value.slice.injEq] at hcs
    obtain ⟨rfl, rfl, rfl⟩ := hcs
    simp only [Prod.mk.injEq] at hx
    obtain ⟨rfl, _⟩ := hx
    simp only [if_true] at hmm
    subst hmm
    have hlen : len ≤ 2199023255552 := by
      rcases hd with hd | hd
      · have h1 := hd _ (slice_weight _ _)
        rw [bytesV, List.length_map, List.length_range] at h1
        unfold reachBytes at h1
        omega
      · simp only [Rows.uptoBulk] at hd
        have h1 := bulk_length ((List.range len).map D)
        rw [List.length_map, List.length_range] at h1
        omega
    by_cases h0 : len = 0
    · subst h0
      exact ⟨[], rfl, ⟨by simp, by simp, .inl rfl⟩, fun _ => by simp⟩
    · have hmemD : ∀ r, r < len → D r ∈ (List.range len).map D := fun r hr => List.mem_map.2 ⟨r, List.mem_range.2 hr, rfl⟩
      obtain ⟨b, off, spot⟩ := x
      have hspot : spot = none := by
        obtain ⟨cs, hc, ht⟩ := hrows 0 (by omega)
        obtain ⟨f, rfl, _⟩ := open_v ht
        generalize hk : (0 : Nat) = k0 at hc
        rw [cellsV] at hc
        obtain ⟨_, _, hce⟩ := World.cells?_some hc
        have e0 := (hce 0 (by decide)).trans (show f.rc.toList[0]? = some (.int .i64 f.kind) from rfl)
        have hs0 := World.cell?_spot e0
        subst hk
        simpa [Addr.add] using hs0
      subst hspot
      have each : ∀ r, r < len → ∃ v : VV, W.rangeAt b (off + r * 7) v.rc.toList ∧ v.ok ∧ (Rows.uptoBulk (D r) ≤ 1048576 → v.text.size ≤ 1048576) := by
        intro r hr
        obtain ⟨cs, hc, ht⟩ := hrows r (by omega)
        obtain ⟨v, rfl, hbk, hok⟩ := open_v ht
        rw [cellsV] at hc
        obtain ⟨_, _, hce⟩ := World.cells?_some hc
        refine ⟨v, fun j u hu => ?_, hok ?_, fun hb => ?_⟩
        · have hj : j < 7 := (List.getElem?_eq_some_iff.1 hu).1
          have h := hce j hj
          rw [Deep.add_add, Addr.add_mid, ← Nat.add_assoc] at h
          exact h.trans hu
        · rcases hd with hd | hd
          · exact .inl fun z hz => hd z (weights_elem Try.underlying22 (hmemD r hr) z hz)
          · have h1 := bulk_mem (hmemD r hr)
            simp only [Rows.uptoBulk] at hd
            exact .inr (by omega)
        · omega
      haveI : Inhabited VV := ⟨VV.zero⟩
      obtain ⟨F, hF⟩ := Deep.choose_lt each
      have hget : ∀ r, r < len → ((List.range len).map F).getD r VV.zero = F r := fun r hr => by simp [hr]
      have hlenL : ((List.range len).map F).length = len := by simp
      refine ⟨(List.range len).map F, hlenL.symm, ⟨fun v hv => ?_, by rw [hlenL]; exact hlen, .inr ⟨b, off, rfl, fun r hr => ?_⟩⟩, fun hb v hv => ?_⟩
      · obtain ⟨r, hr, rfl⟩ := List.mem_map.1 hv
        exact (hF r (List.mem_range.1 hr)).2.1
      · rw [hlenL] at hr
        rw [hget r hr]
        exact (hF r hr).1
      · obtain ⟨r, hr, rfl⟩ := List.mem_map.1 hv
        have h1 := bulk_mem (hmemD r (List.mem_range.1 hr))
        simp only [Rows.uptoBulk] at hb
        exact (hF r (List.mem_range.1 hr)).2.2 (by omega)
end Go.Proofs.Ythfcgfdboienkaa
