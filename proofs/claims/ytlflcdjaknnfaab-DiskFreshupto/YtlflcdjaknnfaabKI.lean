import Derived.Test.YtlflcdjaknnfaabKG
import Derived.Great.BuildSlice
namespace Go.Proofs.Ytlflcdjaknnfaab
open Go.RowKit
open Go.ChangeMaps (setBlock)

/-- a part that is laid into cells -/
theorem fold_set (off : Nat) : ∀ (vs : List Value) (k : Nat) (C : List Value), off + k + vs.length ≤ C.length →
    List.foldl (fun (cs : Array Value) (q : Value × Nat) => cs.setIfInBounds (off + q.2) q.1) C.toArray (vs.zipIdx k) = (C.take (off + k) ++ vs ++ C.drop (off + k + vs.length)).toArray
  | [], k, C, _ => by simp
  | v :: vs, k, C, h => by
    rw [List.zipIdx_cons, List.foldl_cons]
    have ih := fold_set off vs (k + 1) (C.set (off + k) v) (by simp at h ⊢; omega)
    have e : (C.toArray.setIfInBounds (off + k) v) = (C.set (off + k) v).toArray := by simp
    show List.foldl _ (C.toArray.setIfInBounds (off + k) v) _ = _
    rw [e, ih, ← Nat.add_assoc, list_seg_step C (off + k) v vs (by simp at h; omega)]
    rfl
theorem fold_arr (off : Nat) (vs C : List Value) (h : off + vs.length ≤ C.length) :
    (vs.toArray.zipIdx.foldl (fun (cs : Array Value) (q : Value × Nat) => cs.setIfInBounds (off + q.2) q.1) C.toArray) = (C.take off ++ vs ++ C.drop (off + vs.length)).toArray := by
  have := fold_set off vs 0 C (by simpa using h)
  rw [← Array.foldl_toList]
  simpa using this
theorem builtWr (parts : List (Nat × Value)) : Try.prog.built 75 parts = Instr.fill (fun i => #[(0, 1), (1, 512)][i]?) (.int .i64 0 :: vb zb).toArray parts := by kernel_rfl
theorem build_wr (w : World) (j : Nat) (b : List Nat) (hb : Blk b) : (Instr.build 75 #[(0, .int .i64 (j : Int)), (1, .agg (vb b).toArray)]).run Try.prog w = .ok (.agg (wc (j, b)).toArray) w := by
  refine run_build w 75 _ _ ?_
  rw [builtWr]
  have hl : (vb b).toArray.size = 512 := vb_size hb.1
  have e1 := fold_arr 0 [.int .i64 (j : Int)] (.int .i64 0 :: vb zb) (by simp)
  have e2 := fold_arr 1 (vb b) (.int .i64 (j : Int) :: vb zb) (by rw [vb_length, List.length_cons, vb_length, hb.1, zb_len]; omega)
  simp only [List.take_zero, List.nil_append, List.length_singleton, List.drop_succ_cons, List.drop_zero, List.singleton_append] at e1
  have hz : (vb zb).length = 512 := by rw [vb_length, zb_len]
  have hv : (vb b).length = 512 := by rw [vb_length, hb.1]
  simp only [Instr.fill, Value.cells, hl, List.size_toArray, List.length_cons, hz, List.length_nil]
  have t1 : (#[((0 : Nat), (1 : Nat)), (1, 512)])[0]? = some (0, 1) := rfl
  have t2 : (#[((0 : Nat), (1 : Nat)), (1, 512)])[1]? = some (1, 512) := rfl
  simp only [t1, t2]
  have e1' : (#[Value.int .i64 (j : Int)].zipIdx.foldl (fun (cs : Array Value) (q : Value × Nat) => cs.setIfInBounds (0 + q.2) q.1) (.int .i64 0 :: vb zb).toArray) = (.int .i64 (j : Int) :: vb zb).toArray := e1
  simp only [ne_eq, Nat.zero_add] at e1' ⊢
  rw [if_neg (by simp), e1']
  rw [if_neg (by simp [hz]), e2]
  unfold wc
  rw [show List.take 1 (Value.int .i64 (j : Int) :: vb zb) = [.int .i64 (j : Int)] from rfl, List.drop_of_length_le (by rw [List.length_cons, hz, hv]; omega)]
  simp
theorem buildSl_wr (w : World) (u : Nat × List Nat) (hb : Blk u.2) : (Instr.buildSlice 66 1 #[(0, .agg (wc u).toArray)]).run Try.prog w = .ok (.slice (some ⟨w.heap.size, 0, none⟩) 1 1) (w.alloc (.cells (wc u).toArray 75)) := by
  obtain ⟨ie, hi, hz⟩ := Option.map_eq_some_iff.1 infoWr
  simp only [Prod.mk.injEq] at hz
  have hzs : (Value.agg (.int .i64 0 :: vb zb).toArray).cells.size = 513 := zw_size
  refine run_buildSlice w 66 75 1 _ _ ie _ Try.underlying66 hi hz.1 (by rw [hz.2]; decide) (by rw [hz.2]; decide) ?_
  rw [hz.2]
  have hl : (wc u).toArray.size = 513 := wc_size hb
  obtain ⟨C, hC, hCl⟩ : ∃ C : List Value, ((Array.range (1 * 513)).map ((Value.agg (.int .i64 0 :: vb zb).toArray).cells[· % (Value.agg (.int .i64 0 :: vb zb).toArray).cells.size]!)) = C.toArray ∧ C.length = 513 := ⟨_, (Array.toArray_toList).symm, by rw [Array.length_toList, Array.size_map, Array.size_range]⟩
  rw [hC]
  have e := fold_arr 0 (wc u) C (by rw [wc_len hb, hCl]; omega)
  simp only [Instr.fill, Value.cells, hl, List.size_toArray, hCl, Nat.zero_mul]
  rw [if_neg (by simp), e]
  rw [List.drop_of_length_le (by rw [hCl, wc_len hb]; omega)]
  simp
theorem infoWr3 : (Try.prog.info? 75).map (fun i => (i.zero, i.size, i.bytes)) = some (some (.agg (.int .i64 0 :: vb zb).toArray), 513, 520) := by kernel_rfl
/-- a write is appended -/
theorem run_apW (w : World) (a : Option Addr) (n cap : Nat) (U : Uns) (hn : n = U.length) (hR : w.ownsRow 0 75 513 (.slice a n cap) n (vU U)) (ad : Addr) (c : Nat) (u : Nat × List Nat) (hb : Blk u.2)
    (hc : ∀ m v, (wc u)[m]? = some v → w.cell? (ad.add m) = some v) (hlen : U.length + 1 ≤ 268435456) (ty : TypeId) :
    ∃ g cap' w', (Builtin.append_ #[66, 66] ty #[.slice a n cap, .slice (some ad) 1 c]).run Try.prog w = .ok (.slice (some ⟨g, 0, none⟩) (n + 1) cap') w' ∧
      w'.ownsRow 0 75 513 (.slice (some ⟨g, 0, none⟩) (n + 1) cap') (n + 1) (vU (U ++ [u])) ∧ w.grownBy w' (a.map Addr.block) ∧ (a.map Addr.block = some g ∨ g = w.heap.size) ∧ g < w'.heap.size := by
  subst hn
  obtain ⟨i0, hi, hz0, hz1, hz2⟩ := info_parts infoWr3
  obtain ⟨g, cap', w', hr, h1, h2, h3, h4⟩ := run_append_lies (P := Try.prog) w 66 ty 0 75 i0 _ 513 520 Try.underlying66 hi hz0 hz1 hz2 zw_size (by decide) (.slice a U.length cap) U.length (vU U) hR ad 1 c (wc u) (by rw [wc_len hb]) hc (wc_one u) (by decide) (by unfold maxLen; omega) (by omega) (Nat.zero_le _) w.heap.size rfl
  rw [ob_eq] at h2 h3
  exact ⟨g, cap', w', hr, by rw [vU_snoc]; exact h1, h2, h3, h4⟩
section
variable {F : Nat → Prop} {w : World} {p bl bn : Nat} {ua : Option Addr} {uc : Nat} {S : Sd}
/-- a write is one of those that were not synced -/
theorem DkAt.wrote (h : DkAt F w p bl bn ua uc S) {f : Int → Option Value} (hN : Nw f S.uns) {w2 w4 w5 : World} {g cap' j : Nat} {b : List Nat} (hm : Mp w2 bn (put f (j : Int) (.int .i64 (S.uns.length : Int)))) (hb2 : But (· = bn) w w2) (hb4 : Below w2.heap.size w2 w4)
    (hg : w4.grownBy w5 (ua.map Addr.block)) (ho : w5.ownsRow 0 75 513 (.slice (some ⟨g, 0, none⟩) (S.uns.length + 1) cap') (S.uns.length + 1) (vU (S.uns ++ [(j, b)]))) (hl : ua.map Addr.block = some g ∨ g = w4.heap.size) (hgl : g < w5.heap.size)
    (hj : j < S.n) (hb : Blk b) (hw1 : S.wr + 1 ≤ 4611686018427387904) (hu1 : S.uns.length + 1 ≤ 268435456) :
    w5.heap[p]? = some (.cells (dc S bl bn ua uc).toArray 69 (0, 0)) ∧
    ∀ W, W = (w5.setCell ⟨p, 2, none⟩ (.slice (some ⟨g, 0, none⟩) (S.uns.length + 1) cap')).setCell ⟨p, 6, none⟩ (.int .i64 ((S.wr : Int) + 1)) →
      DkAt (ext F w W) W p bl bn (some ⟨g, 0, none⟩) cap' (S.wrote j b) ∧ But F w W := by
  have hT : But (fun k => k = bn ∨ ua.map Addr.block = some k) w w5 :=
    ((hb2.mono (fun _ _ e => Or.inl e) : But (fun k => k = bn ∨ ua.map Addr.block = some k) w w2).andBelow hb4).grown hg (fun k hk _ => .inr hk)
  have hnu : ∀ k, (∀ x, ua = some x → x.block ≠ k) → ua.map Addr.block ≠ some k := by
    intro k hk e
    obtain ⟨x, hx, e2⟩ := map_some e
    exact hk x hx e2
  have np : ¬ (p = bn ∨ ua.map Addr.block = some p) := by
    rintro (e | e)
    · exact h.np.2 e
    · exact hnu p (own_ne h.u h.blk (by decide)) e
  have nl : ¬ (bl = bn ∨ ua.map Addr.block = some bl) := by
    rintro (e | e)
    · exact h.ne e
    · exact hnu bl (own_nmap h.u h.l) e
  obtain ⟨f0, hf0, _⟩ := h.n
  have nn : ua.map Addr.block ≠ some bn := hnu bn (own_nmap h.u hf0)
  have hp5 : w5.heap[p]? = some (.cells (dc S bl bn ua uc).toArray 69 (0, 0)) := (hT.block p (h.lt _ h.fp) np).trans h.blk
  refine ⟨hp5, fun W hW => ?_⟩
  have hF5 : But F w w5 := hT.mono (fun k _ hk => by
    rcases hk with rfl | hk
    · exact h.fn
    · obtain ⟨x, hx, e⟩ := map_some hk
      exact e ▸ h.fu x hx)
  have hsz : w.heap.size ≤ w5.heap.size := hT.size
  have hb5 : But (· = p) w5 W := by rw [hW]; exact (set_but w5 p 2 _).trans (set_but _ p 6 _) (fun _ _ h => h)
  have hsW : W.heap.size = w5.heap.size := by rw [hW, set_size, set_size]
  have hm5 : Mp w5 bn (put f (j : Int) (.int .i64 (S.uns.length : Int))) := by
    refine (hm.keep hb4).but (S := fun k => ua.map Addr.block = some k) ⟨hg.os, hg.tape, hg.output, hg.size, fun k hk hn => hg.block k hk fun e => hn e.symm⟩ nn
  have hgp : g ≠ p := by
    intro e
    subst e
    rcases hl with e | e
    · exact np (.inr e)
    · have := h.lt _ h.fp
      have := hb2.size
      have := hb4.size
      omega
  refine ⟨{ ok := h.ok.wrote hj hb hw1 hu1, blk := ?_, l := ?_, n := ?_, u := ?_, fp := .inl h.fp, fl := .inl h.fl, fn := .inl h.fn, fu := ?_, ne := h.ne, lt := ext_lt h.lt (by omega) }, hF5.trans hb5 (fun _ _ e => e ▸ h.fp)⟩
  · rw [hW, set_blk (set_blk hp5)]
    simp [dc, Sd.wrote]
  · exact (h.l.but hT nl).but hb5 (fun e => h.np.1 e.symm)
  · exact ⟨_, hm5.but hb5 (fun e => h.np.2 e.symm), hN.snoc j b⟩
  · show W.ownsRow 0 75 513 (.slice _ (S.uns ++ [(j, b)]).length _) (S.uns ++ [(j, b)]).length (vU (S.uns ++ [(j, b)]))
    rw [List.length_append, List.length_singleton]
    exact own_but ho hb5 (fun x hx => by cases hx; exact hgp)
  · intro x hx
    cases hx
    rcases hl with e | e
    · obtain ⟨y, hy, e2⟩ := map_some e
      exact .inl (e2 ▸ h.fu y hy)
    · refine .inr ⟨?_, by show g < _; omega⟩
      show _ ≤ g
      have := hb2.size
      have := hb4.size
      omega
end
end Go.Proofs.Ytlflcdjaknnfaab
