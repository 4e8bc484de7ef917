import Derived.Test.YtceeeofkigkpkaaEAA
import Derived.Test.YtceeeofkigkpkaaET
import Derived.LoopN
namespace Go.Proofs.Ytceeeofkigkpkaa
set_option linter.unusedVariables false
open Go.RowKit Go.Shelf
attribute [local go_sem] Oper.semAt_some

/-! ### PoolWalks -/
theorem wl_whole (xs : List Int) : wl xs (-1) = xs := if_pos (by decide)
/-- what the three rounds hold -/
structure Rd3 (w W1 W : World) (X : Nat → Prop) (aw : Option Addr) (cw : Nat) (xs : List Int) : Prop where
  x : But (fun k => ¬ X k) W1 W
  xl : ∀ k, X k → k < W1.heap.size
  g : Ig W aw cw xs
  b : Below w.heap.size w W
theorem Rd3.keep {w W1 W W' : World} {X : Nat → Prop} {aw : Option Addr} {cw : Nat} {xs : List Int} (h : Rd3 w W1 W X aw cw xs) (hb : Below W.heap.size W W') : Rd3 w W1 W' X aw cw xs :=
  ⟨h.x.andBelow hb, h.xl, h.g.keep hb, bt h.b hb⟩
theorem Rd3.putObj {w W1 W : World} {X : Nat → Prop} {aw : Option Addr} {cw : Nat} {xs : List Int} (h : Rd3 w W1 W X aw cw xs) {D : Nat} (o : Obj) (h1 : W1.heap.size ≤ D) (h2 : ∀ x, aw = some x → x.block ≠ D) (h3 : w.heap.size ≤ D) : Rd3 w W1 (W.putObj D o) X aw cw xs := by
  have bD : But (fun k => k = D) W (W.putObj D o) := (But.refl (fun k => k = D) W).putObj (fun _ => rfl) o
  exact ⟨h.x.trans bD (fun k hk e hx => by have := h.xl k hx; omega), h.xl, h.g.but bD (fun x hx e => h2 x hx e), ((But.ofBelow (S := fun _ => False) h.b).trans bD (fun k hk e => by omega)).below (fun _ _ h => h)⟩
theorem round_fin {w W3 : World} {ob sb : Nat} {st : Int} {F : Nat → Prop} {pre : List Int} {a : Option Addr} {c : Nat} (e1 : ∀ k, F k ↔ k = ob ∨ InA a k) (e2 : W3.heap[ob]? = some (.cells #[.slice a pre.length c] 22 (0, 0))) (e3 : Ig W3 a c pre) (e4 : ∀ x, a = some x → w.heap.size ≤ x.block ∧ x.block ≠ ob) (e5 : W3.cell? ⟨sb, 0, none⟩ = some (.int .i64 st)) (e7 : ∀ x, a = some x → x.block ≠ sb) (e6 : Below w.heap.size w W3) (hob : w.heap.size ≤ ob ∧ sb < w.heap.size) (x : Int) :
    ∀ (g cap' : Nat) (w5 : World), Ig w5 (some ⟨g, 0, none⟩) cap' (pre ++ [x]) → New (W3.alloc (.cells #[.int .i64 x] 3)) a (some ⟨g, 0, none⟩) → (W3.alloc (.cells #[.int .i64 x] 3)).grownBy w5 (a.map Addr.block) →
          ∃ F' : Nat → Prop, But F W3 (w5.setCell ⟨ob, 0, none⟩ (.slice (some ⟨g, 0, none⟩) (pre.length + 1) cap')) ∧ (∀ k, F' k → F k ∨ W3.heap.size ≤ k) ∧ Wz w ob sb st F' (pre ++ [x]) (w5.setCell ⟨ob, 0, none⟩ (.slice (some ⟨g, 0, none⟩) (pre.length + 1) cap')) ∧
          w5.cell? ⟨ob, 0, none⟩ = some (.slice a pre.length c) ∧ w5.frozen? ⟨ob, 0, none⟩ = false ∧ (w5.setCell ⟨ob, 0, none⟩ (.slice (some ⟨g, 0, none⟩) (pre.length + 1) cap')).cell? ⟨sb, 0, none⟩ = some (.int .i64 st) ∧ (w5.setCell ⟨ob, 0, none⟩ (.slice (some ⟨g, 0, none⟩) (pre.length + 1) cap')).cell? ⟨ob, 0, none⟩ = some (.slice (some ⟨g, 0, none⟩) (pre.length + 1) cap') := fun g cap' w5 hR hN hg => by
  have aw := al W3 (.cells #[.int .i64 x] 3)
  have lp : (pre ++ [x]).length = pre.length + 1 := by simp
  have hsb3 : sb < W3.heap.size := block_lt_of_cell e5
  have hob3 := (Array.getElem?_eq_some_iff.1 e2).1
  have s6w := e6.size
  have b5 : But (InA a) W3 w5 := (But.ofBelow (S := InA a) aw).trans (But.inA hg) (fun _ _ h => h)
  have o5 := b5.same e2 (fun ⟨y, hy, e⟩ => (e4 y hy).2 e)
  have gb : w.heap.size ≤ g ∧ g ≠ ob ∧ g ≠ sb ∧ (F g ∨ W3.heap.size ≤ g) := by
    rcases hN ⟨g, 0, none⟩ rfl with ⟨y, hy, e⟩ | h2
    · have e : y.block = g := e
      rw [← e]
      exact ⟨(e4 y hy).1, (e4 y hy).2, e7 y hy, .inl ((e1 _).2 (.inr ⟨y, hy, rfl⟩))⟩
    · have h2 : (W3.alloc (.cells #[.int .i64 x] 3)).heap.size ≤ g := h2
      rw [size_alloc] at h2
      exact ⟨by omega, by omega, by omega, .inr (by omega)⟩
  have b6 : But (fun k => k = ob) w5 (w5.setCell ⟨ob, 0, none⟩ (.slice (some ⟨g, 0, none⟩) (pre.length + 1) cap')) := (But.refl (fun k => k = ob) w5).setCell (p := ⟨ob, 0, none⟩) (fun _ => rfl) _
  have o6 := one_setCell (u := .slice (some ⟨g, 0, none⟩) (pre.length + 1) cap') o5
  have s5 : w5.cell? ⟨sb, 0, none⟩ = some (.int .i64 st) := (b5.cell (p := ⟨sb, 0, none⟩) hsb3 (fun ⟨y, hy, e⟩ => e7 y hy e)).trans e5
  have s6 := (b6.cell (p := ⟨sb, 0, none⟩) (block_lt_of_cell s5) (fun e => by have e : sb = ob := e; omega)).trans s5
  refine ⟨fun k => k = ob ∨ InA (some ⟨g, 0, none⟩) k, ?_, ?_, ⟨some ⟨g, 0, none⟩, cap', fun k => Iff.rfl, by rw [lp]; exact o6, hR.but b6 (fun y hy => by cases hy; exact gb.2.1), fun y hy => by cases hy; exact ⟨gb.1, gb.2.1⟩, s6, fun y hy => by cases hy; exact gb.2.2.1, ?_⟩, cell_of_one o5, free_of_one o5, s6, cell_of_one o6⟩
  · exact (b5.mono (fun k _ hk => (e1 k).2 (.inr hk))).trans b6 (fun k _ hk => (e1 k).2 (.inl hk))
  · rintro k (rfl | ⟨y, hy, rfl⟩)
    · exact .inl ((e1 _).2 (.inl rfl))
    · cases hy; exact gb.2.2.2
  · exact ((((But.ofBelow (S := fun _ => False) e6).trans b5 (fun k hk ⟨y, hy, e⟩ => by have := (e4 y hy).1; omega)).trans b6 (fun k hk e => by omega))).below (fun _ _ h => h)
set_option maxHeartbeats 16000000 in
set_option maxRecDepth 16000 in
theorem poolWalks_any (w : World) (l : Bool) (n r : Int) (a : Option Addr) (cap : Nat) (C : List Int) (hC : Ir w a C) (hN : C.length ≤ 17592186043904) (aF : Option Addr) (cF : Nat) (T : List Ov) (hT : Oq w aF T) (hTl : T.length ≤ 5864062014805) (aG : Option Addr) (cG : Nat) (U : List Ov) (hU : Oq w aG U) (hUl : U.length ≤ 5864062014805) (z : Int) :
    Calls Try.prog 3 #[.agg #[.bool l, .int .i64 n, .int .i64 r, .slice a C.length cap], .slice aF T.length cF, .slice aG U.length cG, .int .i64 z] w fun e w' => e = .returned (.bool true) ∧ Below w.heap.size w w' := by
  have aw := al w (.cells #[.bool l, .int .i64 n, .int .i64 r, .slice a C.length cap] 24)
  have FX := hide (fixed_any (w.alloc (.cells #[.bool l, .int .i64 n, .int .i64 r, .slice a C.length cap] 24)))
  have bx := World.alloc_heap_new w (.cells #[.bool l, .int .i64 n, .int .i64 r, .slice a C.length cap] 24)
  have BX := hide (show ∀ W, Below (w.alloc (.cells #[.bool l, .int .i64 n, .int .i64 r, .slice a C.length cap] 24)).heap.size (w.alloc (.cells #[.bool l, .int .i64 n, .int .i64 r, .slice a C.length cap] 24)) W → W.cell? ⟨w.heap.size, 0, none⟩ = some (.bool l) ∧ W.cell? ⟨w.heap.size, 1, none⟩ = some (.int .i64 n) ∧ W.cell? ⟨w.heap.size, 2, none⟩ = some (.int .i64 r) ∧ W.cell? ⟨w.heap.size, 3, none⟩ = some (.slice a C.length cap) from fun W hb => by
    have h := (hb.block w.heap.size (Array.getElem?_eq_some_iff.1 bx).1).trans bx
    rw [cell_of_row _ _ _ _ _ _ h, cell_of_row _ _ _ _ _ _ h, cell_of_row _ _ _ _ _ _ h, cell_of_row _ _ _ _ _ _ h]
    exact ⟨rfl, rfl, rfl, rfl⟩)
  have MD := hide fun (W : World) (hb : Below w.heap.size w W) => made_any W l n r a C.length cap C (hC.keep hb) rfl (by omega)
  have HT := hide hT
  have HU := hide hU
  have AW := hide aw
  obtain ⟨m, hm⟩ : ∃ m, T.length = m := ⟨_, rfl⟩
  have HM := hide hm
  rw [hm] at hTl ⊢
  obtain ⟨mu, hmu⟩ : ∃ mu, U.length = mu := ⟨_, rfl⟩
  have HMU := hide hmu
  rw [hmu] at hUl ⊢
  generalize C.length = k at *
  clear aw bx hC hT hm hU hmu
  refine (callsIn_wide (n := 0)).1 ?_
  refine callsIn_of_wp_marks Try.func3 rfl trivial ?_ rfl
  simp only [Try.ntmps3, List.size_toArray, List.length_cons, List.length_nil, Nat.reduceAdd, Nat.reduceSub, Array.replicate_succ, Array.replicate_zero, List.push_toArray, List.append_toArray, List.nil_append, List.cons_append]
  refine wpIn_wide.2 ?_
  go_wp2_with fail
  generalize w.alloc (.cells #[.bool l, .int .i64 n, .int .i64 r, .slice a k cap] 24) = W0 at *
  refine FX.out.mono ?_
  rintro _ w1 ⟨rfl, hb⟩
  obtain ⟨x0, x1, x2, x3⟩ := BX.out _ hb
  have B1 := hide (bt AW.out hb)
  clear hb FX BX
  go_wp2_with fail
  refine (MD.out _ B1.out).mono ?_
  rintro e w2 (⟨-, rfl, hb2⟩ | ⟨-, b, q, col, cb, lb, rfl, hT2⟩)
  · have B2 := hide (bt B1.out hb2)
    clear hb2 MD x0 x1 x2 x3
    go_wp2
    exact ⟨_, results_tmp rfl _ _ _, rfl, B2.out⟩
  have H0 := hide (show Np w w2 b (Po.start r (cnB l n C)) col from ⟨hT2.np.p, bt B1.out hT2.np.b, fun k hk => by have := hT2.np.n k hk; have := B1.out.size; omega⟩)
  clear hT2 MD x0 x1 x2 x3
  obtain ⟨P0, hP0⟩ : ∃ P0, Po.start r (cnB l n C) = P0 := ⟨_, rfl⟩
  have M0 : P0.mark = 0 := by rw [← hP0]; rfl
  rw [hP0] at H0
  clear hP0
  go_wp2_with fail
  go_loopw [12] (fun i wr => ∃ (j : Nat) (c' : Nat → Nat), j ≤ m ∧ i = .int .i64 (j : Int) ∧ Np w wr b (P0.play (T.take j)) c') (fun i _ => m - (intOf i).toNat)
  case atStart => exact ⟨0, col, Nat.zero_le _, rfl, H0.out⟩
  case round =>
  clear H0
  obtain ⟨j, c', hj, rfl, hNp⟩ := hrel
  have H := hide hNp
  clear hNp
  by_cases hlt : j < m
  · have hjl : j < T.length := by rw [HM.out]; exact hlt
    obtain ⟨b1, o1, rfl, t0, t1, t2⟩ := (HT.out.keep H.out.b).at hjl
    have hmk := P0.play_mark (T.take j)
    rw [List.length_take, M0] at hmk
    have AC := hide (acted_any wr b _ c' H.out.p (T.getD j Ov.zero) (by omega))
    rw [← Po.play_snoc hjl] at AC
    have hji : (j : Int) < (m : Int) := by omega
    obtain ⟨ov, hov⟩ : ∃ ov, T.getD j Ov.zero = ov := ⟨_, rfl⟩
    rw [hov] at t0 t1 t2 AC
    obtain ⟨o0, o2, o3⟩ := ov
    simp only at t0 t1 t2 AC
    clear hov hmk
    go_wp2_with fail
    refine AC.out.mono ?_
    rintro _ w3 ⟨rfl, c3, h3, f3⟩
    have H3 := hide (H.out.step h3 f3)
    clear h3 f3 AC t0 t1 t2
    go_wp2
    go_roundw
    case rel => exact ⟨j + 1, c3, by omega, by go_num, H3.out⟩
    case measure => simp [intOf]; omega
  obtain rfl : j = m := by omega
  have hmk : (P0.play (T.take j)).mark ≤ j := by
    have := P0.play_mark (T.take j)
    rw [List.length_take, M0] at this
    omega
  obtain ⟨P, hP⟩ : ∃ P, P0.play (T.take j) = P := ⟨_, rfl⟩
  rw [hP] at H hmk
  clear hP hlt M0
  have WK := hide (walked_any wr b P c' H.out.p z (-1))
  rw [wl_whole] at WK
  have PG := hide fun (W : World) (hW : Pl W b P c') => Pages_any W b P c' hW z
  have HPL := hide (P.pages_len H.out.p.ok z)
  obtain ⟨xs, hxs⟩ : ∃ xs, P.pages z = xs := ⟨_, rfl⟩
  rw [hxs] at WK PG HPL
  clear hxs
  obtain ⟨nx, hnx⟩ : ∃ nx, xs.length = nx := ⟨_, rfl⟩
  have HNX := hide hnx
  have hnx65 : nx ≤ 65536 := by rw [← hnx]; exact HPL.out
  rw [hnx] at WK
  clear hnx
  go_wp2_with fail
  refine WK.out.mono ?_
  rintro _ w3 ⟨a3, d3, rfl, hI⟩
  have G3 := hide hI.r
  have N3 : Hid (∀ x, a3 = some x → wr.heap.size ≤ x.block) := fun x hx => by
    rcases hI.n x hx with ⟨y, hy, _⟩ | h2
    · cases hy
    · exact h2
  have H3 := hide (H.out.keep hI.b)
  have O3 : Hid (∀ x, a3 = some x → c' x.block = 0) := fun x hx => H.out.off (N3.out x hx)
  clear hI WK H
  go_wp2_with fail
  refine (PG.out _ H3.out.p).mono ?_
  rintro _ W1 ⟨gf, lb, X, rfl, hW⟩
  have HW := hide hW
  have sX : Hid (∀ k, X k → w3.heap.size ≤ k ∧ k < W1.heap.size) := hW.nw
  have H4 := hide (H3.out.keep hW.bl)
  have G4 := hide (G3.out.keep hW.bl)
  have X4 : Hid (∀ k, X k → c' k = 0) := fun k hk => H3.out.off (sX.out k hk).1
  have L4 : Hid (∀ x, a3 = some x → x.block < W1.heap.size) := fun x hx => G4.out.lt hx
  have hq := run_eqFn
  clear hW PG H3 G3 N3
  go_wp2_with fail
  clear hq
  go_loopw [15] (fun i wr => ∃ (i2 : Nat) (c2 : Nat → Nat), i2 ≤ mu ∧ i = .int .i64 (i2 : Int) ∧ Np w wr b (P.play (U.take i2)) c2 ∧ (∀ k, k < W1.heap.size → c2 k = c' k) ∧ But (fun k => ¬ X k) W1 wr ∧ Ig wr a3 d3 xs) (fun i _ => mu - (intOf i).toNat)
  case atStart => exact ⟨0, c', Nat.zero_le _, rfl, H4.out, fun _ _ => rfl, But.refl _ _, G4.out⟩
  case round =>
  clear H4 G4
  obtain ⟨i2, c2, hj2, rfl, hNp, hC2, hX2, hG2⟩ := hrel
  have H := hide hNp
  have C2 := hide hC2
  have X2 := hide hX2
  have G2 := hide hG2
  clear hNp hC2 hX2 hG2
  by_cases hlt : i2 < mu
  · have hjl : i2 < U.length := by rw [HMU.out]; exact hlt
    obtain ⟨b1, o1, rfl, t0, t1, t2⟩ := (HU.out.keep H.out.b).at hjl
    have hmk2 := P.play_mark (U.take i2)
    rw [List.length_take] at hmk2
    have AC := hide (acted_any wr b _ c2 H.out.p (U.getD i2 Ov.zero) (by omega))
    rw [← Po.play_snoc hjl] at AC
    have hji : (i2 : Int) < (mu : Int) := by omega
    obtain ⟨ov, hov⟩ : ∃ ov, U.getD i2 Ov.zero = ov := ⟨_, rfl⟩
    rw [hov] at t0 t1 t2 AC
    obtain ⟨o0, o2, o3⟩ := ov
    simp only at t0 t1 t2 AC
    clear hov hmk2
    go_wp2_with fail
    refine AC.out.mono ?_
    rintro _ w3 ⟨rfl, c3, h3, f3⟩
    have R3 : Hid (Np w w3 b (P.play (U.take (i2 + 1))) c3 ∧ (∀ k, k < W1.heap.size → c3 k = c' k) ∧ But (fun k => ¬ X k) W1 w3 ∧ Ig w3 a3 d3 xs) :=
      ⟨H.out.step h3 f3, fun k hk => (f3.c k (by have := X2.out.size; omega)).trans (C2.out k hk), X2.out.trans f3.b (fun k hk hc hx => hc ((C2.out k hk).trans (X4.out k hx))), G2.out.but f3.b (fun x hx hc => hc ((C2.out _ (L4.out x hx)).trans (O3.out x hx)))⟩
    clear h3 f3 AC t0 t1 t2
    go_wp2
    go_roundw
    case rel => exact ⟨i2 + 1, c3, by omega, by go_num, R3.out⟩
    case measure => simp [intOf]; omega
  obtain rfl : i2 = mu := by omega
  have HA : Hid (Rd3 w W1 wr X a3 d3 xs) := ⟨X2.out, fun k hk => (sX.out k hk).2, G2.out, H.out.b⟩
  have SX := hide (fun k hk => (sX.out k hk).2 : ∀ k, X k → k < W1.heap.size)
  have S1 := hide X2.out.size
  clear H C2 X2 G2 O3 X4 sX hlt
  have sz0 := size_alloc wr (.cells #[.int .i64 0] 3)
  have B0 := al wr (.cells #[.int .i64 0] 3)
  have V0 : Hid (Rd3 w W1 (wr.alloc (.cells #[.int .i64 0] 3)) X a3 d3 xs) := HA.out.keep B0
  have K0 : Hid ((wr.alloc (.cells #[.int .i64 0] 3)).heap[wr.heap.size]? = some (.cells #[.int .i64 0] 3 (0, 0))) := World.alloc_heap_new wr _
  have Z0 : Hid (W1.heap.size ≤ (wr.alloc (.cells #[.int .i64 0] 3)).heap.size) := by show _ ≤ _; rw [sz0]; have := S1.out; omega
  clear HA B0 sz0
  go_wp2_with fail
  generalize wr.alloc (.cells #[.int .i64 0] 3) = Y0 at *
  generalize wr.heap.size = s0 at *
  clear S1
  refine wp_loop_rounds 4 ?_
  rw [rounds_succ]
  as_aux_lemma =>
  have sY : ((Y0.alloc (.cells #[] 3)).alloc (.cells #[.slice (some ⟨Y0.heap.size, 0, none⟩) 0 0] 22)).heap.size = Y0.heap.size + 1 + 1 := by rw [size_alloc, size_alloc]
  have bY : Below Y0.heap.size Y0 ((Y0.alloc (.cells #[] 3)).alloc (.cells #[.slice (some ⟨Y0.heap.size, 0, none⟩) 0 0] 22)) := bt (al _ _) (al _ _)
  have s0l : s0 < Y0.heap.size := (Array.getElem?_eq_some_iff.1 K0.out).1
  have q0 := cell_of_one K0.out
  have ZZ : Hid (Wz Y0 (Y0.heap.size + 1) s0 0 (fun k => k = Y0.heap.size + 1 ∨ InA (some ⟨Y0.heap.size, 0, none⟩) k) [] ((Y0.alloc (.cells #[] 3)).alloc (.cells #[.slice (some ⟨Y0.heap.size, 0, none⟩) 0 0] 22))) := by
    refine ⟨some ⟨Y0.heap.size, 0, none⟩, 0, fun k => Iff.rfl, ?_, ?_, fun x hx => by cases hx; exact ⟨Nat.le_refl _, by show Y0.heap.size ≠ Y0.heap.size + 1; omega⟩, (bY.cell (p := ⟨s0, 0, none⟩) s0l).trans q0, fun x hx => by cases hx; show Y0.heap.size ≠ s0; omega, bY⟩
    · have c := World.alloc_heap_new (Y0.alloc (.cells #[] 3)) (.cells #[.slice (some ⟨Y0.heap.size, 0, none⟩) 0 0] 22)
      rw [size_alloc] at c
      exact c
    · exact Ig.keep (Ig.mk (cur := #[]) (World.alloc_heap_new Y0 _) (by simp) (by unfold maxLen; omega) rfl (by simp [vi])) (al _ _)
  have VV := hide (V0.out.keep bY)
  go_wp2_with fail
  generalize hWA : ((Y0.alloc (.cells #[] 3)).alloc (.cells #[.slice (some ⟨Y0.heap.size, 0, none⟩) 0 0] 22)) = WA at *
  clear hWA
  refine (wpIn_wide (n := 0)).1 ?_
  have hZ := Z0.out
  refine wp_rangeF (gf := gf) (lb := lb) rfl HW.out.en HW.out.seq VV.out.x (fun k hk => by have := SX.out k hk; omega) (fun _ => rfl)
    (fun k => k = Y0.heap.size + 1 ∨ InA (some ⟨Y0.heap.size, 0, none⟩) k)
    (fun k hk hx => by
      have := SX.out k hx
      rcases hk with rfl | ⟨y, hy, rfl⟩
      · omega
      · cases hy; have this : Y0.heap.size < W1.heap.size := this; omega)
    (fun F pre W => Wz Y0 (Y0.heap.size + 1) s0 0 F pre W ∧ (((0 : Nat) = 1) → pre.length = 0))
    (fun c F pre W => c = .exit 6 ∧ ((0 : Nat) = 1) ∧ Wz Y0 (Y0.heap.size + 1) s0 0 F pre W)
    (fun F s A B hs hb => ⟨Wz.abid (n := WA.heap.size) (by omega) (by omega) (by omega) _ _ _ _ hs.1 hb, hs.2⟩)
    (fun F s A hs => Wz.siz _ _ _ hs.1)
    (fun c F s A B hs hb => ⟨hs.1, hs.2.1, Wz.abid (n := WA.heap.size) (by omega) (by omega) (by omega) _ _ _ _ hs.2.2 hb⟩)
    (fun c F s A hs => Wz.siz _ _ _ hs.2.2)
    ⟨ZZ.out, fun _ => rfl⟩ ?roundx1 ?donex1 ?stopx1
  case roundx1 =>
    rintro l F pre x rest W hxs ⟨hz, hlt⟩ hsz hFs hFl hl1 hl2 hBw
    unfold enI
    gi_wp2
    refine ⟨Below.refl _ _, fun W3 h3 => ?_⟩
    have z3 : Wz Y0 (Y0.heap.size + 1) s0 0 F pre W3 := Wz.abid (n := WA.heap.size) (by omega) (by omega) (by omega) _ _ _ _ hz (h3.mono fun k _ hk => ⟨fun hf => hFl (by rw [hk] at hf; exact hf), by omega⟩)
    have hobY : Y0.heap.size ≤ Y0.heap.size + 1 := Nat.le_succ _
    generalize Y0.heap.size + 1 = ob at *
    obtain ⟨a, c, e1, e2, e3, e4, e5, e7, e6⟩ := z3
    have lp : (pre ++ [x]).length = pre.length + 1 := by simp
    have lx : pre.length + 1 ≤ 65536 := by have := HPL.out; rw [hxs, List.length_append, List.length_cons] at this; omega
    have o3 := cell_of_one e2
    have aw := al W3 (.cells #[.int .i64 x] 3)
    have nc := cell_alloc_new W3 (.int .i64 x) 3
    have hob3 := (Array.getElem?_eq_some_iff.1 e2).1
    have FIN := hide (round_fin (st := 0) e1 e2 e3 e4 e5 e7 e6 ⟨hobY, s0l⟩ x)
    have o4 : (W3.alloc (.cells #[.int .i64 x] 3)).cell? ⟨ob, 0, none⟩ = _ := (aw.cell (p := ⟨ob, 0, none⟩) hob3).trans o3
    have G4 := hide (e3.keep aw)
    have LX := hide lx
    have LP := hide lp
    clear e1 e2 e3 e4 e5 e6 e7 h3 hz hxs hFs hBw aw HW
    obtain ⟨m, hm⟩ : ∃ m, pre.length = m := ⟨_, rfl⟩
    have HM := hide hm
    rw [hm] at FIN o3 o4 hlt LX LP
    clear hm lp lx
    gi_wp2_with (refine wpListIn_apI rfl _ _ rfl a m c pre (by simp [Act.eval]) HM.out.symm G4.out ⟨W3.heap.size, 0, none⟩ 1 x (by simp [Act.eval]) nc (by rw [HM.out]; have := LX.out; omega) ?_; intro g cap' w5 hR hN hg hgl; obtain ⟨F', f1, f2, f3, f4, f5, f6, f7⟩ := FIN.out g cap' w5 hR hN hg; have F1 := hide f1; have F2 := hide f2; have F3 := hide f3; clear f1 f2 f3 hR hN hg hgl FIN)
    exact ⟨F', F1.out, F2.out, F3.out, fun h => absurd h (by decide)⟩
  case donex1 =>
    rintro D0 F Wx hD hFD ⟨hz, hlt⟩ hBw hFs hK
    obtain ⟨a, c, e1, e2, e3, e4, e5, e7, e6⟩ := hz
    have o3 := cell_of_one e2
    have o5 := e5
    have hD' : Y0.heap.size ≤ D0 := by omega
    have WD0 : Hid (w.heap.size ≤ D0) := by show _ ≤ _; have := V0.out.b.size; omega
    have R5 : Hid (Rd3 w W1 Wx X a3 d3 xs) := V0.out.keep e6
    have KD0 := hide hK
    have G5 := hide e3
    clear e1 e2 e3 e4 e5 e6 e7 hK hBw hFs ZZ VV
    rw [HNX.out] at o3
    have EQ := hide (EqInts_same Wx a a3 nx nx c d3 xs G5.out.ir R5.out.g.ir HNX.out.symm HNX.out.symm (by rw [HNX.out]; omega))
    go_wp2_with fail
    refine EQ.out.mono ?_
    rintro _ Wy ⟨rfl, hb⟩
    have R5 := hide (R5.out.keep hb)
    have SY : Hid (Y0.heap.size ≤ Wy.heap.size) := by show _ ≤ _; have := hb.size; have := (Array.getElem?_eq_some_iff.1 KD0.out).1; omega
    have o5 : Wy.cell? ⟨s0, 0, none⟩ = some (.int .i64 0) := (hb.cell (p := ⟨s0, 0, none⟩) (block_lt_of_cell o5)).trans o5
    have KD0 := hide ((hb.block _ (Array.getElem?_eq_some_iff.1 KD0.out).1).trans KD0.out)
    clear hb EQ G5
    have bN := al Wy (.cells #[.int .i64 1] 3)
    have V1 := hide (R5.out.keep bN)
    have K1 : Hid ((Wy.alloc (.cells #[.int .i64 1] 3)).heap[Wy.heap.size]? = some (.cells #[.int .i64 1] 3 (0, 0))) := World.alloc_heap_new Wy _
    have Z1 : Hid (W1.heap.size ≤ (Wy.alloc (.cells #[.int .i64 1] 3)).heap.size) := by show _ ≤ _; rw [size_alloc]; have := SY.out; omega
    have KD0 := hide ((bN.block _ (Array.getElem?_eq_some_iff.1 KD0.out).1).trans KD0.out)
    clear bN R5 SY
    go_wp2_with fail
    generalize Wy.alloc (.cells #[.int .i64 1] 3) = Y1 at *
    generalize Wy.heap.size = s1 at *
    rw [rounds_succ]
    as_aux_lemma =>
    have sY : ((Y1.alloc (.cells #[] 3)).alloc (.cells #[.slice (some ⟨Y1.heap.size, 0, none⟩) 0 0] 22)).heap.size = Y1.heap.size + 1 + 1 := by rw [size_alloc, size_alloc]
    have bY : Below Y1.heap.size Y1 ((Y1.alloc (.cells #[] 3)).alloc (.cells #[.slice (some ⟨Y1.heap.size, 0, none⟩) 0 0] 22)) := bt (al _ _) (al _ _)
    have s0l : s1 < Y1.heap.size := (Array.getElem?_eq_some_iff.1 K1.out).1
    have q0 := cell_of_one K1.out
    have ZZ : Hid (Wz Y1 (Y1.heap.size + 1) s1 1 (fun k => k = Y1.heap.size + 1 ∨ InA (some ⟨Y1.heap.size, 0, none⟩) k) [] ((Y1.alloc (.cells #[] 3)).alloc (.cells #[.slice (some ⟨Y1.heap.size, 0, none⟩) 0 0] 22))) := by
      refine ⟨some ⟨Y1.heap.size, 0, none⟩, 0, fun k => Iff.rfl, ?_, ?_, fun x hx => by cases hx; exact ⟨Nat.le_refl _, by show Y1.heap.size ≠ Y1.heap.size + 1; omega⟩, (bY.cell (p := ⟨s1, 0, none⟩) s0l).trans q0, fun x hx => by cases hx; show Y1.heap.size ≠ s1; omega, bY⟩
      · have c := World.alloc_heap_new (Y1.alloc (.cells #[] 3)) (.cells #[.slice (some ⟨Y1.heap.size, 0, none⟩) 0 0] 22)
        rw [size_alloc] at c
        exact c
      · exact Ig.keep (Ig.mk (cur := #[]) (World.alloc_heap_new Y1 _) (by simp) (by unfold maxLen; omega) rfl (by simp [vi])) (al _ _)
    have VV := hide (V1.out.keep bY)
    have E0 := hide ((bY.block _ (Array.getElem?_eq_some_iff.1 KD0.out).1).trans KD0.out)
    go_wp2_with fail
    generalize hWA : ((Y1.alloc (.cells #[] 3)).alloc (.cells #[.slice (some ⟨Y1.heap.size, 0, none⟩) 0 0] 22)) = WA at *
    clear hWA
    refine (wpIn_wide (n := 0)).1 ?_
    have hZ := Z1.out
    refine wp_rangeF (gf := gf) (lb := lb) rfl HW.out.en HW.out.seq VV.out.x (fun k hk => by have := SX.out k hk; omega) (fun _ => rfl)
      (fun k => k = Y1.heap.size + 1 ∨ InA (some ⟨Y1.heap.size, 0, none⟩) k)
      (fun k hk hx => by
        have := SX.out k hx
        rcases hk with rfl | ⟨y, hy, rfl⟩
        · omega
        · cases hy; have this : Y1.heap.size < W1.heap.size := this; omega)
      (fun F pre W => Wz Y1 (Y1.heap.size + 1) s1 1 F pre W ∧ (((1 : Nat) = 1) → pre.length = 0))
      (fun c F pre W => c = .exit 6 ∧ ((1 : Nat) = 1) ∧ Wz Y1 (Y1.heap.size + 1) s1 1 F pre W)
      (fun F s A B hs hb => ⟨Wz.abid (n := WA.heap.size) (by omega) (by omega) (by omega) _ _ _ _ hs.1 hb, hs.2⟩)
      (fun F s A hs => Wz.siz _ _ _ hs.1)
      (fun c F s A B hs hb => ⟨hs.1, hs.2.1, Wz.abid (n := WA.heap.size) (by omega) (by omega) (by omega) _ _ _ _ hs.2.2 hb⟩)
      (fun c F s A hs => Wz.siz _ _ _ hs.2.2)
      ⟨ZZ.out, fun _ => rfl⟩ ?roundx2 ?donex2 ?stopx2
    case roundx2 =>
      rintro l F pre x rest W hxs ⟨hz, hlt⟩ hsz hFs hFl hl1 hl2 hBw
      unfold enI
      gi_wp2
      refine ⟨Below.refl _ _, fun W3 h3 => ?_⟩
      have z3 : Wz Y1 (Y1.heap.size + 1) s1 1 F pre W3 := Wz.abid (n := WA.heap.size) (by omega) (by omega) (by omega) _ _ _ _ hz (h3.mono fun k _ hk => ⟨fun hf => hFl (by rw [hk] at hf; exact hf), by omega⟩)
      have hobY : Y1.heap.size ≤ Y1.heap.size + 1 := Nat.le_succ _
      generalize Y1.heap.size + 1 = ob at *
      obtain ⟨a, c, e1, e2, e3, e4, e5, e7, e6⟩ := z3
      have lp : (pre ++ [x]).length = pre.length + 1 := by simp
      have lx : pre.length + 1 ≤ 65536 := by have := HPL.out; rw [hxs, List.length_append, List.length_cons] at this; omega
      have o3 := cell_of_one e2
      have aw := al W3 (.cells #[.int .i64 x] 3)
      have nc := cell_alloc_new W3 (.int .i64 x) 3
      have hob3 := (Array.getElem?_eq_some_iff.1 e2).1
      have FIN := hide (round_fin (st := 1) e1 e2 e3 e4 e5 e7 e6 ⟨hobY, s0l⟩ x)
      have o4 : (W3.alloc (.cells #[.int .i64 x] 3)).cell? ⟨ob, 0, none⟩ = _ := (aw.cell (p := ⟨ob, 0, none⟩) hob3).trans o3
      have G4 := hide (e3.keep aw)
      have LX := hide lx
      have LP := hide lp
      clear e1 e2 e3 e4 e5 e6 e7 h3 hz hxs hFs hBw aw HW
      obtain ⟨m, hm⟩ : ∃ m, pre.length = m := ⟨_, rfl⟩
      have HM := hide hm
      rw [hm] at FIN o3 o4 hlt LX LP
      clear hm lp lx
      have hm0 : m = 0 := by first | exact hlt trivial | exact hlt rfl
      have HM0 := hide hm0
      clear hm0 hlt
      gi_wp2_with (refine wpListIn_apI rfl _ _ rfl a m c pre (by simp [Act.eval]) HM.out.symm G4.out ⟨W3.heap.size, 0, none⟩ 1 x (by simp [Act.eval]) nc (by rw [HM.out]; have := LX.out; omega) ?_; intro g cap' w5 hR hN hg hgl; obtain ⟨F', f1, f2, f3, f4, f5, f6, f7⟩ := FIN.out g cap' w5 hR hN hg; have F1 := hide f1; have F2 := hide f2; have F3 := hide f3; clear f1 f2 f3 hR hN hg hgl FIN)
      · first | exact ⟨F', F1.out, F2.out, rfl, rfl, F3.out⟩ | exact ⟨F', F1.out, F2.out, rfl, F3.out⟩
      · rename_i hq
        exact absurd HM0.out (by simp at hq; omega)
    case donex2 =>
      rintro D1 F Wx hD hFD ⟨hz, hlt⟩ hBw hFs hK
      obtain ⟨a, c, e1, e2, e3, e4, e5, e7, e6⟩ := hz
      have o3 := cell_of_one e2
      have o5 := e5
      have hD' : Y1.heap.size ≤ D1 := by omega
      have WD1 : Hid (w.heap.size ≤ D1) := by show _ ≤ _; have := V1.out.b.size; omega
      have R5 : Hid (Rd3 w W1 Wx X a3 d3 xs) := V1.out.keep e6
      have ND01 : Hid (D0 ≠ D1) := by show _ ≠ _; have := (Array.getElem?_eq_some_iff.1 KD0.out).1; omega
      have E0 := hide ((e6.block _ (Array.getElem?_eq_some_iff.1 KD0.out).1).trans KD0.out)
      have KD1 := hide hK
      clear e1 e2 e3 e4 e5 e6 e7 hK hBw hFs ZZ VV
      obtain ⟨Wy, hWy⟩ : ∃ Wy, Wx = Wy := ⟨_, rfl⟩
      subst hWy
      have SY : Hid (Y1.heap.size ≤ Wx.heap.size) := by show _ ≤ _; have := (Array.getElem?_eq_some_iff.1 KD1.out).1; omega
      have KD0 := E0
      have bN := al Wx (.cells #[.int .i64 2] 3)
      have V2 := hide (R5.out.keep bN)
      have K2 : Hid ((Wx.alloc (.cells #[.int .i64 2] 3)).heap[Wx.heap.size]? = some (.cells #[.int .i64 2] 3 (0, 0))) := World.alloc_heap_new Wx _
      have Z2 : Hid (W1.heap.size ≤ (Wx.alloc (.cells #[.int .i64 2] 3)).heap.size) := by show _ ≤ _; rw [size_alloc]; have := SY.out; omega
      have KD0 := hide ((bN.block _ (Array.getElem?_eq_some_iff.1 KD0.out).1).trans KD0.out)
      have KD1 := hide ((bN.block _ (Array.getElem?_eq_some_iff.1 KD1.out).1).trans KD1.out)
      clear bN R5 SY
      go_wp2_with fail
      generalize Wx.alloc (.cells #[.int .i64 2] 3) = Y2 at *
      generalize Wx.heap.size = s2 at *
      rw [rounds_succ]
      as_aux_lemma =>
      have sY : ((Y2.alloc (.cells #[] 3)).alloc (.cells #[.slice (some ⟨Y2.heap.size, 0, none⟩) 0 0] 22)).heap.size = Y2.heap.size + 1 + 1 := by rw [size_alloc, size_alloc]
      have bY : Below Y2.heap.size Y2 ((Y2.alloc (.cells #[] 3)).alloc (.cells #[.slice (some ⟨Y2.heap.size, 0, none⟩) 0 0] 22)) := bt (al _ _) (al _ _)
      have s0l : s2 < Y2.heap.size := (Array.getElem?_eq_some_iff.1 K2.out).1
      have q0 := cell_of_one K2.out
      have ZZ : Hid (Wz Y2 (Y2.heap.size + 1) s2 2 (fun k => k = Y2.heap.size + 1 ∨ InA (some ⟨Y2.heap.size, 0, none⟩) k) [] ((Y2.alloc (.cells #[] 3)).alloc (.cells #[.slice (some ⟨Y2.heap.size, 0, none⟩) 0 0] 22))) := by
        refine ⟨some ⟨Y2.heap.size, 0, none⟩, 0, fun k => Iff.rfl, ?_, ?_, fun x hx => by cases hx; exact ⟨Nat.le_refl _, by show Y2.heap.size ≠ Y2.heap.size + 1; omega⟩, (bY.cell (p := ⟨s2, 0, none⟩) s0l).trans q0, fun x hx => by cases hx; show Y2.heap.size ≠ s2; omega, bY⟩
        · have c := World.alloc_heap_new (Y2.alloc (.cells #[] 3)) (.cells #[.slice (some ⟨Y2.heap.size, 0, none⟩) 0 0] 22)
          rw [size_alloc] at c
          exact c
        · exact Ig.keep (Ig.mk (cur := #[]) (World.alloc_heap_new Y2 _) (by simp) (by unfold maxLen; omega) rfl (by simp [vi])) (al _ _)
      have VV := hide (V2.out.keep bY)
      have E0 := hide ((bY.block _ (Array.getElem?_eq_some_iff.1 KD0.out).1).trans KD0.out)
      have E1 := hide ((bY.block _ (Array.getElem?_eq_some_iff.1 KD1.out).1).trans KD1.out)
      go_wp2_with fail
      generalize hWA : ((Y2.alloc (.cells #[] 3)).alloc (.cells #[.slice (some ⟨Y2.heap.size, 0, none⟩) 0 0] 22)) = WA at *
      clear hWA
      refine (wpIn_wide (n := 0)).1 ?_
      have hZ := Z2.out
      refine wp_rangeF (gf := gf) (lb := lb) rfl HW.out.en HW.out.seq VV.out.x (fun k hk => by have := SX.out k hk; omega) (fun _ => rfl)
        (fun k => k = Y2.heap.size + 1 ∨ InA (some ⟨Y2.heap.size, 0, none⟩) k)
        (fun k hk hx => by
          have := SX.out k hx
          rcases hk with rfl | ⟨y, hy, rfl⟩
          · omega
          · cases hy; have this : Y2.heap.size < W1.heap.size := this; omega)
        (fun F pre W => Wz Y2 (Y2.heap.size + 1) s2 2 F pre W ∧ (((2 : Nat) = 1) → pre.length = 0))
        (fun c F pre W => c = .exit 6 ∧ ((2 : Nat) = 1) ∧ Wz Y2 (Y2.heap.size + 1) s2 2 F pre W)
        (fun F s A B hs hb => ⟨Wz.abid (n := WA.heap.size) (by omega) (by omega) (by omega) _ _ _ _ hs.1 hb, hs.2⟩)
        (fun F s A hs => Wz.siz _ _ _ hs.1)
        (fun c F s A B hs hb => ⟨hs.1, hs.2.1, Wz.abid (n := WA.heap.size) (by omega) (by omega) (by omega) _ _ _ _ hs.2.2 hb⟩)
        (fun c F s A hs => Wz.siz _ _ _ hs.2.2)
        ⟨ZZ.out, fun _ => rfl⟩ ?roundx3 ?donex3 ?stopx3
      case roundx3 =>
        rintro l F pre x rest W hxs ⟨hz, hlt⟩ hsz hFs hFl hl1 hl2 hBw
        unfold enI
        gi_wp2
        refine ⟨Below.refl _ _, fun W3 h3 => ?_⟩
        have z3 : Wz Y2 (Y2.heap.size + 1) s2 2 F pre W3 := Wz.abid (n := WA.heap.size) (by omega) (by omega) (by omega) _ _ _ _ hz (h3.mono fun k _ hk => ⟨fun hf => hFl (by rw [hk] at hf; exact hf), by omega⟩)
        have hobY : Y2.heap.size ≤ Y2.heap.size + 1 := Nat.le_succ _
        generalize Y2.heap.size + 1 = ob at *
        obtain ⟨a, c, e1, e2, e3, e4, e5, e7, e6⟩ := z3
        have lp : (pre ++ [x]).length = pre.length + 1 := by simp
        have lx : pre.length + 1 ≤ 65536 := by have := HPL.out; rw [hxs, List.length_append, List.length_cons] at this; omega
        have o3 := cell_of_one e2
        have aw := al W3 (.cells #[.int .i64 x] 3)
        have nc := cell_alloc_new W3 (.int .i64 x) 3
        have hob3 := (Array.getElem?_eq_some_iff.1 e2).1
        have FIN := hide (round_fin (st := 2) e1 e2 e3 e4 e5 e7 e6 ⟨hobY, s0l⟩ x)
        have o4 : (W3.alloc (.cells #[.int .i64 x] 3)).cell? ⟨ob, 0, none⟩ = _ := (aw.cell (p := ⟨ob, 0, none⟩) hob3).trans o3
        have G4 := hide (e3.keep aw)
        have LX := hide lx
        have LP := hide lp
        clear e1 e2 e3 e4 e5 e6 e7 h3 hz hxs hFs hBw aw HW
        obtain ⟨m, hm⟩ : ∃ m, pre.length = m := ⟨_, rfl⟩
        have HM := hide hm
        rw [hm] at FIN o3 o4 hlt LX LP
        clear hm lp lx
        gi_wp2_with (refine wpListIn_apI rfl _ _ rfl a m c pre (by simp [Act.eval]) HM.out.symm G4.out ⟨W3.heap.size, 0, none⟩ 1 x (by simp [Act.eval]) nc (by rw [HM.out]; have := LX.out; omega) ?_; intro g cap' w5 hR hN hg hgl; obtain ⟨F', f1, f2, f3, f4, f5, f6, f7⟩ := FIN.out g cap' w5 hR hN hg; have F1 := hide f1; have F2 := hide f2; have F3 := hide f3; clear f1 f2 f3 hR hN hg hgl FIN)
        exact ⟨F', F1.out, F2.out, F3.out, fun h => absurd h (by decide)⟩
      case donex3 =>
        rintro D2 F Wx hD hFD ⟨hz, hlt⟩ hBw hFs hK
        obtain ⟨a, c, e1, e2, e3, e4, e5, e7, e6⟩ := hz
        have o3 := cell_of_one e2
        have o5 := e5
        have hD' : Y2.heap.size ≤ D2 := by omega
        have WD2 : Hid (w.heap.size ≤ D2) := by show _ ≤ _; have := V2.out.b.size; omega
        have R5 : Hid (Rd3 w W1 Wx X a3 d3 xs) := V2.out.keep e6
        have ND02 : Hid (D0 ≠ D2) := by show _ ≠ _; have := (Array.getElem?_eq_some_iff.1 KD0.out).1; omega
        have ND12 : Hid (D1 ≠ D2) := by show _ ≠ _; have := (Array.getElem?_eq_some_iff.1 KD1.out).1; omega
        have E0 := hide ((e6.block _ (Array.getElem?_eq_some_iff.1 KD0.out).1).trans KD0.out)
        have E1 := hide ((e6.block _ (Array.getElem?_eq_some_iff.1 KD1.out).1).trans KD1.out)
        have KD2 := hide hK
        have G5 := hide e3
        clear e1 e2 e3 e4 e5 e6 e7 hK hBw hFs ZZ VV
        rw [HNX.out] at o3
        have EQ := hide (EqInts_same Wx a a3 nx nx c d3 xs G5.out.ir R5.out.g.ir HNX.out.symm HNX.out.symm (by rw [HNX.out]; omega))
        go_wp2_with fail
        refine EQ.out.mono ?_
        rintro _ Wy ⟨rfl, hb⟩
        have R5 := hide (R5.out.keep hb)
        have SY : Hid (Y2.heap.size ≤ Wy.heap.size) := by show _ ≤ _; have := hb.size; have := (Array.getElem?_eq_some_iff.1 KD2.out).1; omega
        have o5 : Wy.cell? ⟨s2, 0, none⟩ = some (.int .i64 2) := (hb.cell (p := ⟨s2, 0, none⟩) (block_lt_of_cell o5)).trans o5
        have KD0 := hide ((hb.block _ (Array.getElem?_eq_some_iff.1 E0.out).1).trans E0.out)
        have KD1 := hide ((hb.block _ (Array.getElem?_eq_some_iff.1 E1.out).1).trans E1.out)
        have KD2 := hide ((hb.block _ (Array.getElem?_eq_some_iff.1 KD2.out).1).trans KD2.out)
        clear hb EQ G5
        have bN := al Wy (.cells #[.int .i64 3] 3)
        have V3 := hide (R5.out.keep bN)
        have K3 : Hid ((Wy.alloc (.cells #[.int .i64 3] 3)).heap[Wy.heap.size]? = some (.cells #[.int .i64 3] 3 (0, 0))) := World.alloc_heap_new Wy _
        have Z3 : Hid (W1.heap.size ≤ (Wy.alloc (.cells #[.int .i64 3] 3)).heap.size) := by show _ ≤ _; rw [size_alloc]; have := SY.out; omega
        have KD0 := hide ((bN.block _ (Array.getElem?_eq_some_iff.1 KD0.out).1).trans KD0.out)
        have KD1 := hide ((bN.block _ (Array.getElem?_eq_some_iff.1 KD1.out).1).trans KD1.out)
        have KD2 := hide ((bN.block _ (Array.getElem?_eq_some_iff.1 KD2.out).1).trans KD2.out)
        clear bN R5 SY
        go_wp2_with fail
        generalize Wy.alloc (.cells #[.int .i64 3] 3) = Y3 at *
        generalize Wy.heap.size = s3 at *
        rw [rounds_succ]
        have q0 := cell_of_one K3.out
        have b3 := hide V3.out.b
        go_wp2
        have k2 := KD2.out
        have k1 : (Y3.putObj D2 (.deferred none)).heap[D1]? = some (.deferred (some [])) := (World.putObj_heap_other ND12.out).trans KD1.out
        have k0 : ((Y3.putObj D2 (.deferred none)).putObj D1 (.deferred none)).heap[D0]? = some (.deferred (some [])) := (World.putObj_heap_other ND01.out).trans ((World.putObj_heap_other ND02.out).trans KD0.out)
        have bb : But (fun k => k = D0 ∨ k = D1 ∨ k = D2) Y3 (((Y3.putObj D2 (.deferred none)).putObj D1 (.deferred none)).putObj D0 (.deferred none)) := (((But.refl (fun k => k = D0 ∨ k = D1 ∨ k = D2) Y3).putObj (fun _ => .inr (.inr rfl)) _).putObj (fun _ => .inr (.inl rfl)) _).putObj (fun _ => .inl rfl) _
        have w0 := WD0.out
        have w1' := WD1.out
        have w2' := WD2.out
        have bF : Below w.heap.size w (((Y3.putObj D2 (.deferred none)).putObj D1 (.deferred none)).putObj D0 (.deferred none)) := ((But.ofBelow (S := fun _ => False) b3.out).trans bb (fun k hk e => by rcases e with rfl | rfl | rfl <;> omega)).below (fun _ _ h => h)
        refine ⟨by simp, .inl ⟨_, _, rfl, run_takeDeferred k2, ?_⟩⟩
        refine ⟨by simp, .inl ⟨_, _, rfl, run_takeDeferred k1, ?_⟩⟩
        refine ⟨by simp, .inl ⟨_, _, rfl, run_takeDeferred k0, ?_⟩⟩
        exact ⟨_, results_tmp rfl _ _ _, rfl, bF⟩
      case stopx3 =>
        rintro D c' F pre rest Wx hD hFD hxs ⟨rfl, h1, hz⟩ hBw hFs hK
        exact absurd h1 (by decide)
    case stopx2 =>
      rintro D1 c' F pre rest Wx hD hFD hxs ⟨rfl, h1, hz⟩ hBw hFs hK
      obtain ⟨a, c, e1, e2, e3, e4, e5, e7, e6⟩ := hz
      have o3 := cell_of_one e2
      have o5 := e5
      have hD' : Y1.heap.size ≤ D1 := by omega
      have WD1 : Hid (w.heap.size ≤ D1) := by show _ ≤ _; have := V1.out.b.size; omega
      have R5 : Hid (Rd3 w W1 Wx X a3 d3 xs) := V1.out.keep e6
      have ND01 : Hid (D0 ≠ D1) := by show _ ≠ _; have := (Array.getElem?_eq_some_iff.1 KD0.out).1; omega
      have E0 := hide ((e6.block _ (Array.getElem?_eq_some_iff.1 KD0.out).1).trans KD0.out)
      have KD1 := hide hK
      clear e1 e2 e3 e4 e5 e6 e7 hK hBw hFs ZZ VV
      refine wpIn_wide.2 ?_
      obtain ⟨Wy, hWy⟩ : ∃ Wy, Wx = Wy := ⟨_, rfl⟩
      subst hWy
      have SY : Hid (Y1.heap.size ≤ Wx.heap.size) := by show _ ≤ _; have := (Array.getElem?_eq_some_iff.1 KD1.out).1; omega
      have KD0 := E0
      have bN := al Wx (.cells #[.int .i64 2] 3)
      have V2 := hide (R5.out.keep bN)
      have K2 : Hid ((Wx.alloc (.cells #[.int .i64 2] 3)).heap[Wx.heap.size]? = some (.cells #[.int .i64 2] 3 (0, 0))) := World.alloc_heap_new Wx _
      have Z2 : Hid (W1.heap.size ≤ (Wx.alloc (.cells #[.int .i64 2] 3)).heap.size) := by show _ ≤ _; rw [size_alloc]; have := SY.out; omega
      have KD0 := hide ((bN.block _ (Array.getElem?_eq_some_iff.1 KD0.out).1).trans KD0.out)
      have KD1 := hide ((bN.block _ (Array.getElem?_eq_some_iff.1 KD1.out).1).trans KD1.out)
      clear bN R5 SY
      go_wp2_with fail
      generalize Wx.alloc (.cells #[.int .i64 2] 3) = Y2 at *
      generalize Wx.heap.size = s2 at *
      rw [rounds_succ]
      as_aux_lemma =>
      have sY : ((Y2.alloc (.cells #[] 3)).alloc (.cells #[.slice (some ⟨Y2.heap.size, 0, none⟩) 0 0] 22)).heap.size = Y2.heap.size + 1 + 1 := by rw [size_alloc, size_alloc]
      have bY : Below Y2.heap.size Y2 ((Y2.alloc (.cells #[] 3)).alloc (.cells #[.slice (some ⟨Y2.heap.size, 0, none⟩) 0 0] 22)) := bt (al _ _) (al _ _)
      have s0l : s2 < Y2.heap.size := (Array.getElem?_eq_some_iff.1 K2.out).1
      have q0 := cell_of_one K2.out
      have ZZ : Hid (Wz Y2 (Y2.heap.size + 1) s2 2 (fun k => k = Y2.heap.size + 1 ∨ InA (some ⟨Y2.heap.size, 0, none⟩) k) [] ((Y2.alloc (.cells #[] 3)).alloc (.cells #[.slice (some ⟨Y2.heap.size, 0, none⟩) 0 0] 22))) := by
        refine ⟨some ⟨Y2.heap.size, 0, none⟩, 0, fun k => Iff.rfl, ?_, ?_, fun x hx => by cases hx; exact ⟨Nat.le_refl _, by show Y2.heap.size ≠ Y2.heap.size + 1; omega⟩, (bY.cell (p := ⟨s2, 0, none⟩) s0l).trans q0, fun x hx => by cases hx; show Y2.heap.size ≠ s2; omega, bY⟩
        · have c := World.alloc_heap_new (Y2.alloc (.cells #[] 3)) (.cells #[.slice (some ⟨Y2.heap.size, 0, none⟩) 0 0] 22)
          rw [size_alloc] at c
          exact c
        · exact Ig.keep (Ig.mk (cur := #[]) (World.alloc_heap_new Y2 _) (by simp) (by unfold maxLen; omega) rfl (by simp [vi])) (al _ _)
      have VV := hide (V2.out.keep bY)
      have E0 := hide ((bY.block _ (Array.getElem?_eq_some_iff.1 KD0.out).1).trans KD0.out)
      have E1 := hide ((bY.block _ (Array.getElem?_eq_some_iff.1 KD1.out).1).trans KD1.out)
      go_wp2_with fail
      generalize hWA : ((Y2.alloc (.cells #[] 3)).alloc (.cells #[.slice (some ⟨Y2.heap.size, 0, none⟩) 0 0] 22)) = WA at *
      clear hWA
      refine (wpIn_wide (n := 0)).1 ?_
      have hZ := Z2.out
      refine wp_rangeF (gf := gf) (lb := lb) rfl HW.out.en HW.out.seq VV.out.x (fun k hk => by have := SX.out k hk; omega) (fun _ => rfl)
        (fun k => k = Y2.heap.size + 1 ∨ InA (some ⟨Y2.heap.size, 0, none⟩) k)
        (fun k hk hx => by
          have := SX.out k hx
          rcases hk with rfl | ⟨y, hy, rfl⟩
          · omega
          · cases hy; have this : Y2.heap.size < W1.heap.size := this; omega)
        (fun F pre W => Wz Y2 (Y2.heap.size + 1) s2 2 F pre W ∧ (((2 : Nat) = 1) → pre.length = 0))
        (fun c F pre W => c = .exit 6 ∧ ((2 : Nat) = 1) ∧ Wz Y2 (Y2.heap.size + 1) s2 2 F pre W)
        (fun F s A B hs hb => ⟨Wz.abid (n := WA.heap.size) (by omega) (by omega) (by omega) _ _ _ _ hs.1 hb, hs.2⟩)
        (fun F s A hs => Wz.siz _ _ _ hs.1)
        (fun c F s A B hs hb => ⟨hs.1, hs.2.1, Wz.abid (n := WA.heap.size) (by omega) (by omega) (by omega) _ _ _ _ hs.2.2 hb⟩)
        (fun c F s A hs => Wz.siz _ _ _ hs.2.2)
        ⟨ZZ.out, fun _ => rfl⟩ ?roundx4 ?donex4 ?stopx4
      case roundx4 =>
        rintro l F pre x rest W hxs ⟨hz, hlt⟩ hsz hFs hFl hl1 hl2 hBw
        unfold enI
        gi_wp2
        refine ⟨Below.refl _ _, fun W3 h3 => ?_⟩
        have z3 : Wz Y2 (Y2.heap.size + 1) s2 2 F pre W3 := Wz.abid (n := WA.heap.size) (by omega) (by omega) (by omega) _ _ _ _ hz (h3.mono fun k _ hk => ⟨fun hf => hFl (by rw [hk] at hf; exact hf), by omega⟩)
        have hobY : Y2.heap.size ≤ Y2.heap.size + 1 := Nat.le_succ _
        generalize Y2.heap.size + 1 = ob at *
        obtain ⟨a, c, e1, e2, e3, e4, e5, e7, e6⟩ := z3
        have lp : (pre ++ [x]).length = pre.length + 1 := by simp
        have lx : pre.length + 1 ≤ 65536 := by have := HPL.out; rw [hxs, List.length_append, List.length_cons] at this; omega
        have o3 := cell_of_one e2
        have aw := al W3 (.cells #[.int .i64 x] 3)
        have nc := cell_alloc_new W3 (.int .i64 x) 3
        have hob3 := (Array.getElem?_eq_some_iff.1 e2).1
        have FIN := hide (round_fin (st := 2) e1 e2 e3 e4 e5 e7 e6 ⟨hobY, s0l⟩ x)
        have o4 : (W3.alloc (.cells #[.int .i64 x] 3)).cell? ⟨ob, 0, none⟩ = _ := (aw.cell (p := ⟨ob, 0, none⟩) hob3).trans o3
        have G4 := hide (e3.keep aw)
        have LX := hide lx
        have LP := hide lp
        clear e1 e2 e3 e4 e5 e6 e7 h3 hz hxs hFs hBw aw HW
        obtain ⟨m, hm⟩ : ∃ m, pre.length = m := ⟨_, rfl⟩
        have HM := hide hm
        rw [hm] at FIN o3 o4 hlt LX LP
        clear hm lp lx
        gi_wp2_with (refine wpListIn_apI rfl _ _ rfl a m c pre (by simp [Act.eval]) HM.out.symm G4.out ⟨W3.heap.size, 0, none⟩ 1 x (by simp [Act.eval]) nc (by rw [HM.out]; have := LX.out; omega) ?_; intro g cap' w5 hR hN hg hgl; obtain ⟨F', f1, f2, f3, f4, f5, f6, f7⟩ := FIN.out g cap' w5 hR hN hg; have F1 := hide f1; have F2 := hide f2; have F3 := hide f3; clear f1 f2 f3 hR hN hg hgl FIN)
        exact ⟨F', F1.out, F2.out, F3.out, fun h => absurd h (by decide)⟩
      case donex4 =>
        rintro D2 F Wx hD hFD ⟨hz, hlt⟩ hBw hFs hK
        obtain ⟨a, c, e1, e2, e3, e4, e5, e7, e6⟩ := hz
        have o3 := cell_of_one e2
        have o5 := e5
        have hD' : Y2.heap.size ≤ D2 := by omega
        have WD2 : Hid (w.heap.size ≤ D2) := by show _ ≤ _; have := V2.out.b.size; omega
        have R5 : Hid (Rd3 w W1 Wx X a3 d3 xs) := V2.out.keep e6
        have ND02 : Hid (D0 ≠ D2) := by show _ ≠ _; have := (Array.getElem?_eq_some_iff.1 KD0.out).1; omega
        have ND12 : Hid (D1 ≠ D2) := by show _ ≠ _; have := (Array.getElem?_eq_some_iff.1 KD1.out).1; omega
        have E0 := hide ((e6.block _ (Array.getElem?_eq_some_iff.1 KD0.out).1).trans KD0.out)
        have E1 := hide ((e6.block _ (Array.getElem?_eq_some_iff.1 KD1.out).1).trans KD1.out)
        have KD2 := hide hK
        have G5 := hide e3
        clear e1 e2 e3 e4 e5 e6 e7 hK hBw hFs ZZ VV
        rw [HNX.out] at o3
        have EQ := hide (EqInts_same Wx a a3 nx nx c d3 xs G5.out.ir R5.out.g.ir HNX.out.symm HNX.out.symm (by rw [HNX.out]; omega))
        go_wp2_with fail
        refine EQ.out.mono ?_
        rintro _ Wy ⟨rfl, hb⟩
        have R5 := hide (R5.out.keep hb)
        have SY : Hid (Y2.heap.size ≤ Wy.heap.size) := by show _ ≤ _; have := hb.size; have := (Array.getElem?_eq_some_iff.1 KD2.out).1; omega
        have o5 : Wy.cell? ⟨s2, 0, none⟩ = some (.int .i64 2) := (hb.cell (p := ⟨s2, 0, none⟩) (block_lt_of_cell o5)).trans o5
        have KD0 := hide ((hb.block _ (Array.getElem?_eq_some_iff.1 E0.out).1).trans E0.out)
        have KD1 := hide ((hb.block _ (Array.getElem?_eq_some_iff.1 E1.out).1).trans E1.out)
        have KD2 := hide ((hb.block _ (Array.getElem?_eq_some_iff.1 KD2.out).1).trans KD2.out)
        clear hb EQ G5
        have bN := al Wy (.cells #[.int .i64 3] 3)
        have V3 := hide (R5.out.keep bN)
        have K3 : Hid ((Wy.alloc (.cells #[.int .i64 3] 3)).heap[Wy.heap.size]? = some (.cells #[.int .i64 3] 3 (0, 0))) := World.alloc_heap_new Wy _
        have Z3 : Hid (W1.heap.size ≤ (Wy.alloc (.cells #[.int .i64 3] 3)).heap.size) := by show _ ≤ _; rw [size_alloc]; have := SY.out; omega
        have KD0 := hide ((bN.block _ (Array.getElem?_eq_some_iff.1 KD0.out).1).trans KD0.out)
        have KD1 := hide ((bN.block _ (Array.getElem?_eq_some_iff.1 KD1.out).1).trans KD1.out)
        have KD2 := hide ((bN.block _ (Array.getElem?_eq_some_iff.1 KD2.out).1).trans KD2.out)
        clear bN R5 SY
        go_wp2_with fail
        generalize Wy.alloc (.cells #[.int .i64 3] 3) = Y3 at *
        generalize Wy.heap.size = s3 at *
        rw [rounds_succ]
        have q0 := cell_of_one K3.out
        have b3 := hide V3.out.b
        go_wp2
        have k2 := KD2.out
        have k1 : (Y3.putObj D2 (.deferred none)).heap[D1]? = some (.deferred (some [])) := (World.putObj_heap_other ND12.out).trans KD1.out
        have k0 : ((Y3.putObj D2 (.deferred none)).putObj D1 (.deferred none)).heap[D0]? = some (.deferred (some [])) := (World.putObj_heap_other ND01.out).trans ((World.putObj_heap_other ND02.out).trans KD0.out)
        have bb : But (fun k => k = D0 ∨ k = D1 ∨ k = D2) Y3 (((Y3.putObj D2 (.deferred none)).putObj D1 (.deferred none)).putObj D0 (.deferred none)) := (((But.refl (fun k => k = D0 ∨ k = D1 ∨ k = D2) Y3).putObj (fun _ => .inr (.inr rfl)) _).putObj (fun _ => .inr (.inl rfl)) _).putObj (fun _ => .inl rfl) _
        have w0 := WD0.out
        have w1' := WD1.out
        have w2' := WD2.out
        have bF : Below w.heap.size w (((Y3.putObj D2 (.deferred none)).putObj D1 (.deferred none)).putObj D0 (.deferred none)) := ((But.ofBelow (S := fun _ => False) b3.out).trans bb (fun k hk e => by rcases e with rfl | rfl | rfl <;> omega)).below (fun _ _ h => h)
        refine ⟨by simp, .inl ⟨_, _, rfl, run_takeDeferred k2, ?_⟩⟩
        refine ⟨by simp, .inl ⟨_, _, rfl, run_takeDeferred k1, ?_⟩⟩
        refine ⟨by simp, .inl ⟨_, _, rfl, run_takeDeferred k0, ?_⟩⟩
        exact ⟨_, results_tmp rfl _ _ _, rfl, bF⟩
      case stopx4 =>
        rintro D c' F pre rest Wx hD hFD hxs ⟨rfl, h1, hz⟩ hBw hFs hK
        exact absurd h1 (by decide)
  case stopx1 =>
    rintro D c' F pre rest Wx hD hFD hxs ⟨rfl, h1, hz⟩ hBw hFs hK
    exact absurd h1 (by decide)
end Go.Proofs.Ytceeeofkigkpkaa
