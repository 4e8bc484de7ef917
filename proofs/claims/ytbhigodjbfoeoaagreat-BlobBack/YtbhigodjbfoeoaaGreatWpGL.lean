import Derived.Test.YtbhigodjbfoeoaaGreatWpGXA
import Derived.Deep.RegionHeld
namespace Go.Proofs.YtbhigodjbfoeoaaGreat
set_option linter.unusedVariables false
set_option linter.unusedSimpArgs false
open Go.RowKit
/-! ### back -/
theorem take_drop_last (L : List (Int × Pv)) {m i : Nat} (h1 : m ≤ i) (h2 : i < L.length) : (L.take (i + 1)).drop m = (L.take i).drop m ++ [L.getD i czero] := by
  rw [Q.take_next L czero h2, List.drop_append_of_le_length (by rw [List.length_take]; omega)]
theorem Vq.pooled_box {w W w1 : World} {b : Nat} {P P1 : Q.Po} {fl : Nat} {D : Vd} {pc pc1 col : Nat → Nat} (h : Vq w b P fl D pc col) (hW : Below w.heap.size w W) {x : Nat} {o : Obj} (hx : w.heap.size ≤ x) (ho : W.heap[x]? = some o) (hp : Q.Pl w1 D.pb P1 pc1) (hf : Q.Fr W pc w1 pc1) :
    ∃ col1, Vq w1 b P1 fl D pc1 col1 ∧ Vf w col w1 col1 ∧ col1 x = 0 ∧ w1.heap[x]? = some o := by
  have cx : col x = 0 := by
    cases e : col x with
    | zero => rfl
    | succ n => have := h.lt x (by omega); omega
  have xl : x < W.heap.size := (Array.getElem?_eq_some_iff.1 ho).1
  obtain ⟨v1, f1⟩ := (h.keep hW).pooled hp hf
  exact ⟨_, v1, (Vf.keep hW).trans f1, (paint_old xl).trans cx, hf.b.same ho (fun hk => by have := h.cp x hk; omega)⟩
theorem two_cells {W : World} {g : Nat} {v0 v1 : Value} {t : TypeId} (h : W.heap[g]? = some (.cells #[v0, v1] t (0, 0))) : W.cell? ⟨g, 0, none⟩ = some v0 ∧ W.cell? ⟨g, 1, none⟩ = some v1 := by
  rw [cell_of_row _ _ _ _ _ _ h, cell_of_row _ _ _ _ _ _ h]
  exact ⟨rfl, rfl⟩
set_option maxHeartbeats 8000000 in
set_option maxRecDepth 8000 in
theorem back_any (w : World) (b : Nat) (P : Q.Po) (fl : Nat) (D : Vd) (pc col : Nat → Nat) (h : Vq w b P fl D pc col) (k m : Nat) (hm : m ≤ D.ch.length) (hk : P.mark ≤ 9223372036854775807) :
    Calls Tryz.prog 105 #[.pointer (some ⟨b, 0, none⟩), .agg #[.int .i64 ((k : Nat) : Int), .int .i64 ((m : Nat) : Int)]] w fun e w' => e = .returned (.tuple #[]) ∧ ∃ pc' col', Vq w' b (P.undo ((k : Nat) : Int)) fl { D with f := unl D.f (D.ch.drop m), ch := D.ch.take m } pc' col' ∧ Vf w col w' col' := by
  have A1 := hide (bt (al w (.cells #[.int .i64 ((k : Nat) : Int), .int .i64 ((m : Nat) : Int)] 115)) (Q.drw _))
  have HX := hide (World.alloc_heap_new w (.cells #[.int .i64 ((k : Nat) : Int), .int .i64 ((m : Nat) : Int)] 115))
  have UN := hide fun (W : World) (hb : Below w.heap.size w W) => Q.Undo_any W D.pb P pc (h.pool.keep hb) ((k : Nat) : Int) hk
  have HV := hide h
  have HM := hide hm
  have HL := hide (h.chr.capLe)
  have S1 := hide (show (w.alloc (.cells #[.int .i64 ((k : Nat) : Int), .int .i64 ((m : Nat) : Int)] 115)).drew.cell? ⟨b, 0, none⟩ = some (.pointer (some ⟨D.pb, 0, none⟩)) ∧ (w.alloc (.cells #[.int .i64 ((k : Nat) : Int), .int .i64 ((m : Nat) : Int)] 115)).drew.cell? ⟨w.heap.size, 0, none⟩ = some (.int .i64 ((k : Nat) : Int)) from ⟨(h.keep A1.out).cells.1, (two_cells HX.out).1⟩)
  clear h hm
  go_enter Tryz.func105, Tryz.ntmps105
  go_wp2_with fail
  refine wp_region_held_drew (S := fun W => W.cell? ⟨b, 0, none⟩ = some (.pointer (some ⟨D.pb, 0, none⟩)) ∧ W.cell? ⟨w.heap.size, 0, none⟩ = some (.int .i64 ((k : Nat) : Int))) (by kernel_rfl) (S1.out) (fun hHeld => ?_)
  refine wpAnyH_take (i := 0) (v := ?vah0) rfl (by kernel_rfl) (by kernel_rfl) (by kernel_rfl) (fun _ _ _ h => h) (Or.inl ⟨by rfl, ?hyh0⟩) (by assumption) ?rah0
  case hyh0 => (intro wq hSw; (try dsimp only at hSw); obtain ⟨e0, e1⟩ := hSw; go_simp <;> with_reducible rfl)
  try simp only [Act.put, List.getElem_toArray, List.getElem_cons_zero, List.setIfInBounds_toArray, List.set_cons_zero, List.set_cons_succ]
  refine wpAnyH_take (i := 1) (v := ?vah1) rfl (by kernel_rfl) (by kernel_rfl) (by kernel_rfl) (fun _ _ _ h => h) (Or.inl ⟨by rfl, ?hyh1⟩) (by assumption) ?rah1
  case hyh1 => (intro wq hSw; (try dsimp only at hSw); obtain ⟨e0, e1⟩ := hSw; go_simp <;> with_reducible rfl)
  try simp only [Act.put, List.getElem_toArray, List.getElem_cons_zero, List.getElem_cons_succ, List.setIfInBounds_toArray, List.set_cons_zero, List.set_cons_succ]
  refine wpAnyH_take (i := 2) (v := ?vah2) rfl (by kernel_rfl) (by kernel_rfl) (by kernel_rfl) (fun _ _ _ h => h) (Or.inl ⟨by rfl, ?hyh2⟩) (by assumption) ?rah2
  case hyh2 => (intro wq hSw; (try dsimp only at hSw); obtain ⟨e0, e1⟩ := hSw; go_simp <;> with_reducible rfl)
  try simp only [Act.put, List.getElem_toArray, List.getElem_cons_zero, List.getElem_cons_succ, List.setIfInBounds_toArray, List.set_cons_zero, List.set_cons_succ]
  refine wpAnyH_take (i := 3) (v := ?vah3) rfl (by kernel_rfl) (by kernel_rfl) (by kernel_rfl) (fun _ _ _ h => h) (Or.inl ⟨by rfl, ?hyh3⟩) (by assumption) ?rah3
  case hyh3 => (intro wq hSw; (try dsimp only at hSw); obtain ⟨e0, e1⟩ := hSw; go_simp <;> with_reducible rfl)
  try simp only [Act.put, List.getElem_toArray, List.getElem_cons_zero, List.getElem_cons_succ, List.setIfInBounds_toArray, List.set_cons_zero, List.set_cons_succ]
  refine wpAnyH_take (i := 4) (v := ?vah4) rfl (by kernel_rfl) (by kernel_rfl) (by kernel_rfl) (fun _ _ _ h => h) (Or.inl ⟨by rfl, ?hyh4⟩) (by assumption) ?rah4
  case hyh4 => (intro wq hSw; (try dsimp only at hSw); obtain ⟨e0, e1⟩ := hSw; go_simp <;> with_reducible rfl)
  try simp only [Act.put, List.getElem_toArray, List.getElem_cons_zero, List.getElem_cons_succ, List.setIfInBounds_toArray, List.set_cons_zero, List.set_cons_succ]
  refine wpAnyH_take (i := 5) (v := ?vah5) rfl (by kernel_rfl) (by kernel_rfl) (by kernel_rfl) (fun _ _ _ h => h) (Or.inl ⟨by rfl, ?hyh5⟩) (by assumption) ?rah5
  case hyh5 => (intro wq hSw; (try dsimp only at hSw); obtain ⟨e0, e1⟩ := hSw; go_simp <;> with_reducible rfl)
  try simp only [Act.put, List.getElem_toArray, List.getElem_cons_zero, List.getElem_cons_succ, List.setIfInBounds_toArray, List.set_cons_zero, List.set_cons_succ]
  refine wpAnyH_ready (rs := [6]) (by kernel_rfl) (by simp) ?_
  refine AllReadyH.cons rfl (fun K hK => ?_) AllReadyH.nil
  go_simp
  refine (UN.out _ A1.out).mono ?_
  rintro _ w1 ⟨rfl, pc1, hp, hf⟩
  obtain ⟨col1, v1, f1, cx, hx1⟩ := HV.out.pooled_box A1.out (Nat.le_refl _) HX.out hp hf
  have V1 := hide v1
  have F1 := hide f1
  have CX := hide cx
  have HX1 := hide hx1
  have e2 := v1.cells.2.2.1
  clear hp hf v1 f1 cx hx1
  go_wp2_with fail
  refine hK.out _ _ (⟨V1.out.cells.1, (two_cells HX1.out).1⟩) (fun hHeld => ?_)
  clear hK K
  try simp only [Act.put, List.getElem_toArray, List.getElem_cons_zero, List.getElem_cons_succ, List.setIfInBounds_toArray, List.set_cons_zero, List.set_cons_succ]
  refine wpAnyH_done (by kernel_rfl) ?_ _
  clear hHeld S1 UN
  obtain ⟨nn, hnn⟩ : ∃ nn, D.ch.length = nn := ⟨_, rfl⟩
  have HN := hide hnn
  rw [hnn] at e2 HM HL
  have hmn := HM.out
  have hl64 : nn ≤ 9223372036854775807 := by have := HL.out.1; have := HL.out.2; unfold maxLen at this; omega
  have s0 : IntKind.i64.wrap ((nn : Int) - 1) = (nn : Int) - 1 := wrapI (by omega) (by omega)
  clear hnn
  go_wp2_with fail
  clear s0 e2
  obtain ⟨P1, hP1⟩ : ∃ P1, P.undo ((k : Nat) : Int) = P1 := ⟨_, rfl⟩
  have HP1 := hide hP1
  rw [hP1] at V1
  clear hP1
  go_loopw [4] (fun i wr => ∃ (j : Nat) (f' : Int → Option Pv), m ≤ j ∧ j ≤ nn ∧ i = .int .i64 ((j : Int) - 1) ∧ Vq wr b P1 fl { D with f := f' } pc1 col1 ∧ Vf w1 col1 wr col1 ∧ unl f' ((D.ch.take j).drop m) = unl D.f (D.ch.drop m)) (fun i _ => (intOf i + 1).toNat)
  case atStart => exact ⟨nn, D.f, HM.out, Nat.le_refl _, rfl, V1.out, Vf.refl _ _, by rw [← HN.out, List.take_length]⟩
  case round =>
    obtain ⟨j, f', hj1, hj2, rfl, hV, hF, hU⟩ := hrel
    have HV2 := hide hV
    have HF2 := hide hF
    have HU := hide hU
    have HX2 := hide (hF.b.same HX1.out (fun e => by rw [CX.out] at e; omega))
    obtain ⟨x0, x1⟩ := two_cells HX2.out
    clear hV hF hU
    by_cases hjm : j = m
    · subst hjm
      have d1 : decide ((j : Int) ≤ (j : Int) - 1) = false := decide_eq_false (by omega)
      have FIN := hide (show ∀ W : World, Vq W b P1 fl { D with f := f', ch := D.ch.take j } pc1 col1 → Vf w1 col1 W col1 → ∃ pc' col', Vq W b P1 fl { D with f := unl D.f (D.ch.drop j), ch := D.ch.take j } pc' col' ∧ Vf w col W col' from fun W hv hf => ⟨pc1, col1, by
        have e : f' = unl D.f (D.ch.drop j) := by
          rw [← HU.out, List.drop_eq_nil_of_le (by rw [List.length_take]; omega)]; rfl
        rw [← e]; exact hv, F1.out.trans hf⟩)
      have hjc : (j : Int) ≤ (D.cc : Int) := by have := HL.out.1; omega
      by_cases hjn : j = nn
      · subst hjn
        have hcl : ∀ (X : Option Addr) (c : Nat), (Builtin.clear_ #[47] 0 #[.slice X 0 c]).run Tryz.prog wr.drew = .ok (.tuple #[]) wr.drew := fun X c => by cases X <;> simp [Builtin.clear_, run_underlying Tryz.underlying47]
        obtain ⟨v5, f5⟩ := HV2.out.cut (m := j) (by show j ≤ D.ch.length; rw [HN.out]; exact Nat.le_refl _)
        have V5 := hide (FIN.out _ (v5.keep (bt (Q.drw _) (Q.drw _))) (HF2.out.trans (f5.trans (Vf.keep (bt (Q.drw _) (Q.drw _))))))
        have fS := HV2.out.free 2
        have e2 := HV2.out.cells.2.2.1
        have hac : D.ac = none ∨ ∃ g, D.ac = some ⟨g, 0, none⟩ := by
          rcases HV2.out.chr.cases with ⟨h0, _⟩ | ⟨g, _, h0, _⟩
          · exact .inl h0
          · exact .inr ⟨g, h0⟩
        simp only at e2 V5
        rw [HN.out] at e2
        clear v5 f5 HV2 HF2 HU FIN HV V1 F1 HM HL
        obtain ⟨a, ha⟩ : ∃ a, D.ac = a := ⟨_, rfl⟩
        obtain ⟨c, hc⟩ : ∃ c, D.cc = c := ⟨_, rfl⟩
        have HA := hide ha
        have HC := hide hc
        rw [ha] at e2 V5 hac
        rw [hc] at e2 V5 hjc
        clear ha hc
        rcases hac with rfl | ⟨g, rfl⟩
        · go_wp2_with fail
          go_region
          all_goals
            go_wp2
            go_region
            all_goals
              go_wp2
              go_end0
              refine ⟨rfl, ?_⟩
              rw [HP1.out, HA.out, HC.out]
              exact V5.out
        · by_cases hcj : c = j
          · subst hcj
            go_wp2_with fail
            go_region
            all_goals
              go_wp2
              go_region
              all_goals
                go_wp2
                go_end0
                refine ⟨rfl, ?_⟩
                rw [HP1.out, HA.out, HC.out]
                exact V5.out
          · go_wp2_with fail
            go_region
            all_goals
              go_wp2
              go_region
              all_goals
                go_wp2
                go_end0
                refine ⟨rfl, ?_⟩
                rw [HP1.out, HA.out, HC.out]
                exact V5.out
      · have hjlt : j < D.ch.length := by rw [HN.out]; omega
        obtain ⟨g, ha, gb, c3, w4, hr, v4, b4⟩ := (HV2.out.keep (Q.drw wr)).cleared hjlt
        obtain ⟨v5, f5⟩ := v4.cut (m := j) (by show j ≤ (D.ch.take j ++ List.replicate (D.ch.length - j) czero).length; simp; omega)
        have et : (D.ch.take j ++ List.replicate (D.ch.length - j) czero).take j = D.ch.take j := by rw [List.take_append_of_le_length (by rw [List.length_take]; omega), List.take_of_length_le (by rw [List.length_take]; omega)]
        simp only [et] at v5
        have V5 := hide (FIN.out _ (v5.keep (Q.drw _)) (HF2.out.trans ((Vf.keep (Q.drw wr)).trans ((⟨b4.mono (fun x _ e => by rw [e, c3]; decide), fun _ _ => rfl⟩ : Vf wr.drew col1 w4 col1).trans (f5.trans (Vf.keep (Q.drw _)))))))
        have e2 := HV2.out.cells.2.2.1
        have e4 := v4.cells.2.2.1
        have fS := v4.free 2
        have x4 := b4.same (show wr.drew.heap[w.heap.size]? = _ from HX2.out) (fun e => by rw [← e, CX.out] at c3; cases c3)
        obtain ⟨y0, y1⟩ := two_cells x4
        simp only at e2 e4 ha hr V5
        rw [show (D.ch.take j ++ List.replicate (D.ch.length - j) czero).length = nn by have := HN.out; simp; omega] at e4
        rw [HN.out] at e2 hr
        have hcj : ¬ (D.cc = j) := by have := HL.out.1; omega
        clear v4 v5 f5 b4 x4 c3 HV2 HF2 HU FIN HV V1 F1 HM HL et hjlt
        obtain ⟨c, hc⟩ : ∃ c, D.cc = c := ⟨_, rfl⟩
        have HA := hide ha
        have HC := hide hc
        rw [ha] at e2 e4 V5
        rw [hc] at e2 e4 V5 hjc hcj hr
        clear ha hc
        go_wp2_with fail
        go_region
        all_goals
          go_wp2
          go_region
          all_goals
            go_wp2
            go_end0
            refine ⟨rfl, ?_⟩
            rw [HP1.out, HA.out, HC.out]
            exact V5.out
    · obtain ⟨i, rfl⟩ : ∃ i, j = i + 1 := ⟨j - 1, by omega⟩
      have ei : ((i + 1 : Nat) : Int) - 1 = (i : Int) := by omega
      rw [ei]
      have d1 : decide ((m : Int) ≤ (i : Int)) = true := decide_eq_true (by omega)
      have hil : i < D.ch.length := by rw [HN.out]; omega
      have hiI : (i : Int) < (nn : Int) := by omega
      obtain ⟨g, ha, k0, k1, k2, k3, k4, k5⟩ := HV2.out.change (D := { D with f := f' }) hil
      have CZ := hide (HV2.out.cz (D.ch.getD i czero) (by show _ ∈ D.ch; rw [List.getD_eq_getElem?_getD, List.getElem?_eq_getElem hil]; exact List.getElem_mem hil))
      have TL := hide (take_drop_last D.ch (m := m) (i := i) (by omega) hil)
      have S6 := hide fun (W : World) (f2 : Int → Option Pv) (hv : Vq W b P1 fl { D with f := f2 } pc1 col1) => (show W.cell? ⟨b, 2, none⟩ = some (.slice (some ⟨g, 0, none⟩) nn D.cc) ∧ W.cell? ⟨g, i * 6, none⟩ = some (.int .i64 (D.ch.getD i czero).1) ∧ W.cell? ⟨g, i * 6 + 1, none⟩ = some (.int .i64 (D.ch.getD i czero).2.kind) ∧ W.cell? ⟨g, i * 6 + 2, none⟩ = some (.int .i64 (D.ch.getD i czero).2.level) ∧
        W.cell? ⟨g, i * 6 + 3, none⟩ = some (.slice (D.ch.getD i czero).2.aI (D.ch.getD i czero).2.items.length (D.ch.getD i czero).2.cI) ∧ W.cell? ⟨g, i * 6 + 4, none⟩ = some (.slice (D.ch.getD i czero).2.aD (D.ch.getD i czero).2.data.length (D.ch.getD i czero).2.cD) ∧ W.cell? ⟨g, i * 6 + 5, none⟩ = some (.int .i64 (D.ch.getD i czero).2.next) from by
          obtain ⟨g2, ha2, y0, y1, y2, y3, y4, y5⟩ := hv.change (D := { D with f := f2 }) hil
          have ha2 : D.ac = some ⟨g2, 0, none⟩ := ha2
          rw [show D.ac = some ⟨g, 0, none⟩ from ha] at ha2
          cases ha2
          have e := hv.cells.2.2.1
          rw [show D.ac = some ⟨g, 0, none⟩ from ha, HN.out] at e
          exact ⟨e, y0, y1, y2, y3, y4, y5⟩)
      clear k0 k1 k2 k3 k4 k5 ha
      have S5 := hide (S6.out _ _ (HV2.out.keep (Q.drw wr)))
      have VS := hide (vset_any wr.drew b P1 fl { D with f := f' } pc1 col1 (HV2.out.keep (Q.drw wr)) (D.ch.getD i czero).1 (D.ch.getD i czero).2 (CZ.out.keep (Q.drw wr)))
      have G1 := hide (show ∀ W : World, Vq W b P1 fl { D with f := fput f' (D.ch.getD i czero).1 (D.ch.getD i czero).2 } pc1 col1 → Vf wr.drew col1 W col1 → ∃ (j2 : Nat) (f2 : Int → Option Pv), m ≤ j2 ∧ j2 ≤ nn ∧ Value.int .i64 ((i : Int) - 1) = .int .i64 ((j2 : Int) - 1) ∧ Vq W b P1 fl { D with f := f2 } pc1 col1 ∧ Vf w1 col1 W col1 ∧ unl f2 ((D.ch.take j2).drop m) = unl D.f (D.ch.drop m) from fun W hv hf => ⟨i, _, by omega, by omega, rfl, hv, HF2.out.trans ((Vf.keep (Q.drw wr)).trans hf), by rw [← HU.out, TL.out, unl_snoc]⟩)
      have s1 : IntKind.i64.wrap ((i : Int) - 1) = (i : Int) - 1 := wrapI (by omega) (by omega)
      have WN := hide s1
      clear s1 HU HF2 TL CZ
      obtain ⟨c, hc⟩ : ∃ c, D.ch.getD i czero = c := ⟨_, rfl⟩
      rw [hc] at VS G1 S5
      simp only [hc] at S6
      clear hc
      obtain ⟨cn, ck, cl, caI, ccI, cit, caD, ccD, cda, cnx⟩ := c
      unfold Pv.vl at VS
      simp only [Pv.cs] at VS S5 S6 G1
      have hi0 : (0 : Int) ≤ (i : Int) := by omega
      go_wp2_with fail
      refine wp_region_held_drew (S := fun W => W.cell? ⟨b, 2, none⟩ = some (.slice (some ⟨g, 0, none⟩) nn D.cc) ∧ W.cell? ⟨g, i * 6, none⟩ = some (.int .i64 cn) ∧ W.cell? ⟨g, i * 6 + 1, none⟩ = some (.int .i64 ck) ∧ W.cell? ⟨g, i * 6 + 2, none⟩ = some (.int .i64 cl) ∧ W.cell? ⟨g, i * 6 + 3, none⟩ = some (.slice caI cit.length ccI) ∧ W.cell? ⟨g, i * 6 + 4, none⟩ = some (.slice caD cda.length ccD) ∧ W.cell? ⟨g, i * 6 + 5, none⟩ = some (.int .i64 cnx)) (by kernel_rfl) (S5.out) (fun hHeld => ?_)
      refine wpAnyH_take (i := 0) (v := ?var0) rfl (by kernel_rfl) (by kernel_rfl) (by kernel_rfl) (fun _ _ _ h => h) (Or.inl ⟨by rfl, ?hyr0⟩) (by assumption) ?rar0
      case hyr0 => (intro wq hSw; (try dsimp only at hSw); obtain ⟨e0, e1, e2, e3, e4, e5, e6⟩ := hSw; go_simp <;> with_reducible rfl)
      try simp only [Act.put, List.getElem_toArray, List.getElem_cons_zero, List.setIfInBounds_toArray, List.set_cons_zero, List.set_cons_succ]
      refine wpAnyH_take (i := 1) (v := ?var1) rfl (by kernel_rfl) (by kernel_rfl) (by kernel_rfl) (fun _ _ _ h => h) (Or.inl ⟨by rfl, ?hyr1⟩) (by assumption) ?rar1
      case hyr1 => (intro wq hSw; (try dsimp only at hSw); obtain ⟨e0, e1, e2, e3, e4, e5, e6⟩ := hSw; go_simp <;> with_reducible rfl)
      try simp only [Act.put, List.getElem_toArray, List.getElem_cons_zero, List.getElem_cons_succ, List.setIfInBounds_toArray, List.set_cons_zero, List.set_cons_succ]
      refine wpAnyH_take (i := 2) (v := ?var2) rfl (by kernel_rfl) (by kernel_rfl) (by kernel_rfl) (fun _ _ _ h => h) (Or.inl ⟨by rfl, ?hyr2⟩) (by assumption) ?rar2
      case hyr2 => (intro wq hSw; (try dsimp only at hSw); obtain ⟨e0, e1, e2, e3, e4, e5, e6⟩ := hSw; go_simp <;> with_reducible rfl)
      try simp only [Act.put, List.getElem_toArray, List.getElem_cons_zero, List.getElem_cons_succ, List.setIfInBounds_toArray, List.set_cons_zero, List.set_cons_succ]
      refine wpAnyH_take (i := 3) (v := ?var3) rfl (by kernel_rfl) (by kernel_rfl) (by kernel_rfl) (fun _ _ _ h => h) (Or.inl ⟨by rfl, ?hyr3⟩) (by assumption) ?rar3
      case hyr3 => (intro wq hSw; (try dsimp only at hSw); obtain ⟨e0, e1, e2, e3, e4, e5, e6⟩ := hSw; go_simp <;> with_reducible rfl)
      try simp only [Act.put, List.getElem_toArray, List.getElem_cons_zero, List.getElem_cons_succ, List.setIfInBounds_toArray, List.set_cons_zero, List.set_cons_succ]
      refine wpAnyH_take (i := 4) (v := ?var4) rfl (by kernel_rfl) (by kernel_rfl) (by kernel_rfl) (fun _ _ _ h => h) (Or.inl ⟨by rfl, ?hyr4⟩) (by assumption) ?rar4
      case hyr4 => (intro wq hSw; (try dsimp only at hSw); obtain ⟨e0, e1, e2, e3, e4, e5, e6⟩ := hSw; go_simp <;> with_reducible rfl)
      try simp only [Act.put, List.getElem_toArray, List.getElem_cons_zero, List.getElem_cons_succ, List.setIfInBounds_toArray, List.set_cons_zero, List.set_cons_succ]
      refine wpAnyH_take (i := 5) (v := ?var5) rfl (by kernel_rfl) (by kernel_rfl) (by kernel_rfl) (fun _ _ _ h => h) (Or.inl ⟨by rfl, ?hyr5⟩) (by assumption) ?rar5
      case hyr5 => (intro wq hSw; (try dsimp only at hSw); obtain ⟨e0, e1, e2, e3, e4, e5, e6⟩ := hSw; go_simp <;> with_reducible rfl)
      try simp only [Act.put, List.getElem_toArray, List.getElem_cons_zero, List.getElem_cons_succ, List.setIfInBounds_toArray, List.set_cons_zero, List.set_cons_succ]
      refine wpAnyH_take (i := 6) (v := ?var6) rfl (by kernel_rfl) (by kernel_rfl) (by kernel_rfl) (fun _ _ _ h => h) (Or.inl ⟨by rfl, ?hyr6⟩) (by assumption) ?rar6
      case hyr6 => (intro wq hSw; (try dsimp only at hSw); obtain ⟨e0, e1, e2, e3, e4, e5, e6⟩ := hSw; go_simp <;> with_reducible rfl)
      try simp only [Act.put, List.getElem_toArray, List.getElem_cons_zero, List.getElem_cons_succ, List.setIfInBounds_toArray, List.set_cons_zero, List.set_cons_succ]
      refine wpAnyH_take (i := 7) (v := ?var7) rfl (by kernel_rfl) (by kernel_rfl) (by kernel_rfl) (fun _ _ _ h => h) (Or.inl ⟨by rfl, ?hyr7⟩) (by assumption) ?rar7
      case hyr7 => (intro wq hSw; (try dsimp only at hSw); obtain ⟨e0, e1, e2, e3, e4, e5, e6⟩ := hSw; go_simp <;> with_reducible rfl)
      try simp only [Act.put, List.getElem_toArray, List.getElem_cons_zero, List.getElem_cons_succ, List.setIfInBounds_toArray, List.set_cons_zero, List.set_cons_succ]
      refine wpAnyH_take (i := 8) (v := ?var8) rfl (by kernel_rfl) (by kernel_rfl) (by kernel_rfl) (fun _ _ _ h => h) (Or.inl ⟨by rfl, ?hyr8⟩) (by assumption) ?rar8
      case hyr8 => (intro wq hSw; (try dsimp only at hSw); obtain ⟨e0, e1, e2, e3, e4, e5, e6⟩ := hSw; go_simp <;> with_reducible rfl)
      try simp only [Act.put, List.getElem_toArray, List.getElem_cons_zero, List.getElem_cons_succ, List.setIfInBounds_toArray, List.set_cons_zero, List.set_cons_succ]
      refine wpAnyH_take (i := 9) (v := ?var9) rfl (by kernel_rfl) (by kernel_rfl) (by kernel_rfl) (fun _ _ _ h => h) (Or.inl ⟨by rfl, ?hyr9⟩) (by assumption) ?rar9
      case hyr9 => (intro wq hSw; (try dsimp only at hSw); obtain ⟨e0, e1, e2, e3, e4, e5, e6⟩ := hSw; go_simp <;> with_reducible rfl)
      try simp only [Act.put, List.getElem_toArray, List.getElem_cons_zero, List.getElem_cons_succ, List.setIfInBounds_toArray, List.set_cons_zero, List.set_cons_succ]
      refine wpAnyH_take (i := 10) (v := ?var10) rfl (by kernel_rfl) (by kernel_rfl) (by kernel_rfl) (fun _ _ _ h => h) (Or.inl ⟨by rfl, ?hyr10⟩) (by assumption) ?rar10
      case hyr10 => (intro wq hSw; (try dsimp only at hSw); obtain ⟨e0, e1, e2, e3, e4, e5, e6⟩ := hSw; go_simp <;> with_reducible rfl)
      try simp only [Act.put, List.getElem_toArray, List.getElem_cons_zero, List.getElem_cons_succ, List.setIfInBounds_toArray, List.set_cons_zero, List.set_cons_succ]
      refine wpAnyH_take (i := 11) (v := ?var11) rfl (by kernel_rfl) (by kernel_rfl) (by kernel_rfl) (fun _ _ _ h => h) (Or.inl ⟨by rfl, ?hyr11⟩) (by assumption) ?rar11
      case hyr11 => (intro wq hSw; (try dsimp only at hSw); obtain ⟨e0, e1, e2, e3, e4, e5, e6⟩ := hSw; go_simp <;> with_reducible rfl)
      try simp only [Act.put, List.getElem_toArray, List.getElem_cons_zero, List.getElem_cons_succ, List.setIfInBounds_toArray, List.set_cons_zero, List.set_cons_succ]
      refine wpAnyH_take (i := 12) (v := ?var12) rfl (by kernel_rfl) (by kernel_rfl) (by kernel_rfl) (fun _ _ _ h => h) (Or.inl ⟨by rfl, ?hyr12⟩) (by assumption) ?rar12
      case hyr12 => (intro wq hSw; (try dsimp only at hSw); obtain ⟨e0, e1, e2, e3, e4, e5, e6⟩ := hSw; go_simp <;> with_reducible rfl)
      try simp only [Act.put, List.getElem_toArray, List.getElem_cons_zero, List.getElem_cons_succ, List.setIfInBounds_toArray, List.set_cons_zero, List.set_cons_succ]
      refine wpAnyH_take (i := 13) (v := ?var13) rfl (by kernel_rfl) (by kernel_rfl) (by kernel_rfl) (fun _ _ _ h => h) (Or.inl ⟨by rfl, ?hyr13⟩) (by assumption) ?rar13
      case hyr13 => (intro wq hSw; (try dsimp only at hSw); obtain ⟨e0, e1, e2, e3, e4, e5, e6⟩ := hSw; go_simp <;> with_reducible rfl)
      try simp only [Act.put, List.getElem_toArray, List.getElem_cons_zero, List.getElem_cons_succ, List.setIfInBounds_toArray, List.set_cons_zero, List.set_cons_succ]
      refine wpAnyH_take (i := 14) (v := ?var14) rfl (by kernel_rfl) (by kernel_rfl) (by kernel_rfl) (fun _ _ _ h => h) (Or.inl ⟨by rfl, ?hyr14⟩) (by assumption) ?rar14
      case hyr14 => (intro wq hSw; (try dsimp only at hSw); obtain ⟨e0, e1, e2, e3, e4, e5, e6⟩ := hSw; go_simp <;> with_reducible rfl)
      try simp only [Act.put, List.getElem_toArray, List.getElem_cons_zero, List.getElem_cons_succ, List.setIfInBounds_toArray, List.set_cons_zero, List.set_cons_succ]
      refine wpAnyH_take (i := 15) (v := ?var15) rfl (by kernel_rfl) (by kernel_rfl) (by kernel_rfl) (fun _ _ _ h => h) (Or.inl ⟨by rfl, ?hyr15⟩) (by assumption) ?rar15
      case hyr15 => (intro wq hSw; (try dsimp only at hSw); obtain ⟨e0, e1, e2, e3, e4, e5, e6⟩ := hSw; go_simp <;> with_reducible rfl)
      try simp only [Act.put, List.getElem_toArray, List.getElem_cons_zero, List.getElem_cons_succ, List.setIfInBounds_toArray, List.set_cons_zero, List.set_cons_succ]
      refine wpAnyH_take (i := 16) (v := ?var16) rfl (by kernel_rfl) (by kernel_rfl) (by kernel_rfl) (fun _ _ _ h => h) (Or.inl ⟨by rfl, ?hyr16⟩) (by assumption) ?rar16
      case hyr16 => (intro wq hSw; (try dsimp only at hSw); obtain ⟨e0, e1, e2, e3, e4, e5, e6⟩ := hSw; go_simp <;> with_reducible rfl)
      try simp only [Act.put, List.getElem_toArray, List.getElem_cons_zero, List.getElem_cons_succ, List.setIfInBounds_toArray, List.set_cons_zero, List.set_cons_succ]
      refine wpAnyH_ready (rs := [17]) (by kernel_rfl) (by simp) ?_
      refine AllReadyH.cons rfl (fun K hK => ?_) AllReadyH.nil
      go_simp
      refine VS.out.mono ?_
      rintro _ w3 ⟨rfl, hv, hf⟩
      have V3 := hide hv
      have F3 := hide hf
      clear hv hf
      go_wp2_with fail
      refine hK.out _ _ (S6.out _ _ V3.out) (fun hHeld => ?_)
      clear hK K
      try simp only [Act.put, List.getElem_toArray, List.getElem_cons_zero, List.getElem_cons_succ, List.setIfInBounds_toArray, List.set_cons_zero, List.set_cons_succ]
      refine wpAnyH_done (by kernel_rfl) ?_ _
      clear hHeld S5 S6 VS
      have s1 := WN.out
      go_wp2
      go_roundw
      case rel => exact G1.out _ V3.out F3.out
      case measure => simp [intOf]
end Go.Proofs.YtbhigodjbfoeoaaGreat
