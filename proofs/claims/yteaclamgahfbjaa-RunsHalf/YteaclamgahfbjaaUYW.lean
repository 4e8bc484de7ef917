import Derived.Test.YteaclamgahfbjaaUYVX
namespace Go.Proofs.Yteaclamgahfbjaa
set_option linter.unusedVariables false
open Go.RowKit

/-! ### what book needs: a list that was told is marked -/
theorem Wc.mark {Z : Nat → Prop} {w w1 : World} {X : Nat} {c : Nat → Nat} {C : List Value} {D : Dat} (h : Wc Z w X c C D) {j g : Nat} {T' : List Rn} (hj : j < D.nt) (hu : D.Ct[j]? = some (.slice (some ⟨g, 0, none⟩) (D.Tl j).length (D.Tl j).length)) (hB : But (fun k => k = g) w w1) (hV : Vw w1 (some ⟨g, 0, none⟩) (D.Tl j).length T') (hl : T'.length = (D.Tl j).length) (hn : ∀ r ∈ T', Nm r.1 ∧ Nm r.2) :
    Wc Z w1 X c C { D with Tl := upd D.Tl j T' } := by
  have cg : c g = 100 + j := by
    obtain ⟨u, k1, g', k2, k3, k4, k5, k6⟩ := h.td j hj
    rw [hu] at k1
    simp only [Option.some.injEq] at k1
    rw [← k1] at k2
    simp only [Value.slice.injEq, Option.some.injEq, Addr.mk.injEq, and_true] at k2
    rw [k2]
    exact k6
  have ne : ∀ k, c k ≠ 100 + j → k ≠ g := fun k hk e => hk (by rw [e]; exact cg)
  refine ⟨hB.same h.blk (ne X (by rw [h.cX]; omega)), h.cX, fun i hi => (h.st i hi).but hB (ne _ (by rw [(h.cP i hi).1]; omega)) (fun x hx => ne _ (by rw [(h.cP i hi).2 x hx]; omega)), fun i hi => (h.rt i hi).but hB (ne _ (by rw [(h.cR i hi).1]; omega)) (fun x hx => ne _ (by rw [(h.cR i hi).2 x hx]; omega)), h.cP, h.cR,
    h.ww.but hB (fun x hx => ne _ (by rw [h.cw x hx]; omega)), h.cw, fun i hi => ?_, h.tw.but hB (fun x hx => ne _ (by rw [h.ctt x hx]; omega)), h.ctt, h.nn.but hB (fun x hx => ne _ (by rw [h.cnn x hx]; omega)), h.cnn, fun i hi => ?_, fun i hi => ?_, fun k hk => ⟨Nat.lt_of_lt_of_le (h.cz k hk).1 hB.size, (h.cz k hk).2⟩⟩
  · obtain ⟨f, p, k1, k2, E, gw, b, a, cap, T, h1, h2, h3, h4, h5, h6, h7, h8, h9, h10, h11⟩ := h.wk i hi
    exact ⟨f, p, k1, k2, E, gw, b, a, cap, T, h1, h2, (hB.cell (p := ⟨E, 0, none⟩) (block_lt_of_cell h3) (ne E (by rw [h8]; omega))).trans h3, h4.but hB (fun x hx => by cases hx; exact ne _ (by rw [h9]; omega)), h5.but hB (ne _ (by rw [h10]; omega)) (fun x hx => ne _ (by rw [h11 x hx]; omega)), h6, Nat.lt_of_lt_of_le h7 hB.size, h8, h9, h10, h11⟩
  · obtain ⟨u, k1, g', k2, k3, k4, k5, k6⟩ := h.td i hi
    show ∃ u, D.Ct[i]? = some u ∧ toldOk w1 c i u (upd D.Tl j T' i)
    by_cases e : i = j
    · subst e
      rw [upd_same]
      exact ⟨_, hu, g, by rw [hl], by rw [hl]; exact hV, hn, by rw [hl]; exact k5, cg⟩
    · rw [upd_ne _ _ e]
      exact ⟨u, k1, g', k2, k3.but hB (fun x hx => by cases hx; exact ne _ (by rw [k6]; omega)), k4, k5, k6⟩
  · obtain ⟨v, k1, a, cap, k2, k3, k4⟩ := h.wd i hi
    exact ⟨v, k1, a, cap, k2, k3.but hB (fun x hx => ne _ (by rw [k4 x hx]; omega)), k4⟩
/-- the marks of the i-th list -/
def mkr (i k : Nat) : Rn := (IntKind.i16.wrap (i : Int), IntKind.i16.wrap (k : Int))
def mks (i n : Nat) : List Rn := (List.range n).map (mkr i)
theorem mks_length (i n : Nat) : (mks i n).length = n := by simp [mks]
theorem mks_succ (i n : Nat) : mks i (n + 1) = mks i n ++ [mkr i n] := by simp [mks, List.range_succ]
theorem mks_get (i n : Nat) {k : Nat} (hk : k < n) : (mks i n).getD k Rn.zero = mkr i k := by simp [mks, hk]
theorem mkr_nm (i k : Nat) : Nm (mkr i k).1 ∧ Nm (mkr i k).2 := ⟨nm_wrap _, nm_wrap _⟩
theorem mks_nm (i n : Nat) : ∀ r ∈ mks i n, Nm r.1 ∧ Nm r.2 := by
  intro r hr
  obtain ⟨k, _, rfl⟩ := List.mem_map.1 hr
  exact mkr_nm i k
/-- the i-th list, marked up to k -/
def mkK (T : List Rn) (i k : Nat) : List Rn := mks i k ++ T.drop k
theorem mkK_zero (T : List Rn) (i : Nat) : mkK T i 0 = T := by simp [mkK, mks]
theorem mkK_full (T : List Rn) (i : Nat) : mkK T i T.length = mks i T.length := by simp [mkK]
theorem mkK_length (T : List Rn) (i : Nat) {k : Nat} (hk : k ≤ T.length) : (mkK T i k).length = T.length := by
  unfold mkK
  rw [List.length_append, mks_length, List.length_drop]
  omega
theorem mkK_next (T : List Rn) (i : Nat) {k : Nat} (hk : k < T.length) : (mkK T i k).set k (mkr i k) = mkK T i (k + 1) := by
  unfold mkK
  rw [List.set_append_right _ _ (by rw [mks_length]; exact Nat.le_refl _), mks_length, Nat.sub_self, drop_at hk, List.set_cons_zero, mks_succ]
  simp
theorem mkK_nm {T : List Rn} (h : ∀ r ∈ T, Nm r.1 ∧ Nm r.2) (i k : Nat) : ∀ r ∈ mkK T i k, Nm r.1 ∧ Nm r.2 := by
  intro r hr
  rcases List.mem_append.1 hr with hr | hr
  · exact mks_nm i k r hr
  · exact h r (List.mem_of_mem_drop hr)
/-- a run is appended where there is no room: the list moves, and what was told stays -/
theorem run_apM (w : World) (ty : TypeId) (g n cap : Nat) (T : List Rn) (hn : n = T.length) (hV : Vw w (some ⟨g, 0, none⟩) cap T) (hc : cap = n) (ad : Addr) (c : Nat) (r : Rn) (hr : Vs w (some ad) [r]) (hlen : n + 1 ≤ 8796093022208) :
    ∃ cap' w', (Builtin.append_ #[44, 44] ty #[.slice (some ⟨g, 0, none⟩) n cap, .slice (some ad) 1 c]).run Try.prog w = .ok (.slice (some ⟨w.heap.size, 0, none⟩) (n + 1) cap') w' ∧
      Vw w' (some ⟨w.heap.size, 0, none⟩) cap' (T ++ [r]) ∧ Below w.heap.size w w' := by
  subst hn
  obtain ⟨i0, hi, hz0, hz1, hz2⟩ := info_parts infoRun
  have zc : ∀ k, Builtin.zeroCells (Value.agg (rcs Rn.zero)).cells k = (rc (List.replicate k Rn.zero)).toArray := fun k => by
    rw [← zeroCells_run k, Array.toArray_toList]
    rfl
  have hold : ∀ j v, (rc T)[j]? = some v → w.cell? ((⟨g, 0, none⟩ : Addr).add j) = some v := fun j v hj => by
    rcases hV.vs with rfl | ⟨b, o, e, h⟩
    · simp [rc] at hj
    · simp only [Option.some.injEq, Addr.mk.injEq, and_true] at e
      obtain ⟨rfl, rfl⟩ := e
      rw [Addr.add_mid]
      exact h j v hj
  have hnew : ∀ j v, (rc [r])[j]? = some v → w.cell? (ad.add j) = some v := fun j v hj => by
    rcases hr with h | ⟨b, o, e, h⟩
    · simp at h
    · simp only [Option.some.injEq] at e
      rw [e, Addr.add_mid]
      exact h j v hj
  have hrun := run_append_grow (P := Try.prog) (w := w) 44 ty 46 i0 (.agg (rcs Rn.zero)) Try.underlying44 hi hz0 ⟨g, 0, none⟩ T.length cap (rc T) (by rw [rc_length, hz1]) hold ad 1 c (rc [r]) (by rw [rc_length, hz1]; rfl) hnew (by omega) (by omega) (growslice_fits (by omega) (by rw [hz2]; omega))
  rw [zc] at hrun
  have hge := grownCap_ge w (T.length + 1) cap 46
  have hle := grownCap_le_maxLen w (T.length + 1) cap 46 (by unfold maxLen; omega)
  generalize grownCap w (T.length + 1) cap 46 = c' at *
  refine ⟨c', _, hrun, Vw.mk (Y := rc (List.replicate (c' - (T.length + 1)) Rn.zero)) ?_ (by simp; omega) hle (by rw [rc_length]; simp; omega), ⟨rfl, rfl, rfl, by simp, fun k hk => heap_alloc_old w.drew _ hk⟩⟩
  have e : (rc (T ++ [r]) ++ rc (List.replicate (c' - (T.length + 1)) Rn.zero)).toArray = (rc T).toArray ++ (rc [r]).toArray ++ (rc (List.replicate (c' - (T.length + 1)) Rn.zero)).toArray := by
    rw [rc_append]
    simp
  unfold Rowb
  rw [e]
  exact heap_alloc_new w.drew _
end Go.Proofs.Yteaclamgahfbjaa
