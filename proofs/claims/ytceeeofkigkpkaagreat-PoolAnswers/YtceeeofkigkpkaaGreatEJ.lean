import Derived.Test.YtceeeofkigkpkaaGreatEH
namespace Go.Proofs.YtceeeofkigkpkaaGreat
set_option linter.unusedVariables false
open Go.RowKit

/-! ### what was done is undone -/
set_option maxHeartbeats 1000000 in
theorem actC_any (w : World) (b : Nat) (P : Po) (D : Pd) (col : Nat → Nat) (h : Pm w b P col D) (t : Nat × Nat × Nat) (x : Nat × Pg) (hcl : Cl w b t x) (hx : (1 ≤ x.1 ∧ x.1 ≤ P.pg.length) ∧ 0 ≤ x.2.1 ∧ x.2.1 ≤ P.rf) :
    Calls Tryz.prog 60 #[.pointer (some ⟨t.1, 0, none⟩), .pointer (some ⟨t.2.1, 0, none⟩), .pointer (some ⟨t.2.2, 0, none⟩)] w fun e w' => e = .returned (.tuple #[]) ∧ ∃ col', Pl w' b (P.put x.1 x.2) col' ∧ Fr w col w' col' := by
  have ST := hide (set_any w b P D col h x.1 hx.1.1 hx.1.2 x.2 hx.2)
  obtain ⟨p, n, c, l⟩ := hcl
  obtain ⟨t1, t2, t3⟩ := t
  obtain ⟨k, y0, y1⟩ := x
  simp only at *
  clear h hx
  go_enter Tryz.func60, Tryz.ntmps60
  go_wp2_with fail
  refine ST.out.mono ?_
  rintro _ w1 ⟨rfl, hc⟩
  have HC := hide hc
  clear hc
  go_wp2
  go_end0
  exact ⟨rfl, HC.out⟩
/-- the last act is let go -/
theorem Pq.drop {w : World} {b : Nat} {P : Po} {D : Pd} {col : Nat → Nat} (h : Pq w b P D col) {A : List (Nat × Pg)} {x : Nat × Pg} (e : P.ac = A ++ [x]) :
    ∃ g, D.aa = some ⟨g, 0, none⟩ ∧ (∃ v, w.cell? ⟨g, A.length, none⟩ = some v) ∧ w.frozen? ⟨g, A.length, none⟩ = false ∧ g ≠ b ∧ A.length < D.ac ∧ D.ac ≤ maxLen ∧
      Pq ((w.setCell ⟨g, A.length, none⟩ .nilFunc).setCell ⟨b, 7, none⟩ (.slice (some ⟨g, 0, none⟩) A.length D.ac)) b { P with ac := A } { D with B := D.B.dropLast } col ∧
      But (fun k => col k ≠ 0) w ((w.setCell ⟨g, A.length, none⟩ .nilFunc).setCell ⟨b, 7, none⟩ (.slice (some ⟨g, 0, none⟩) A.length D.ac)) := by
  have hl : P.ac.length = A.length + 1 := by rw [e, List.length_append]; rfl
  have hr := h.acr
  rw [hl] at hr
  rcases hr.cases with ⟨_, _, h0, _⟩ | ⟨g, cur, ha, hg, h1, h2, h3, h4⟩
  · omega
  have c8 : col g = 8 := h.cc ⟨g, 0, none⟩ ha
  have gb : g ≠ b := fun e => by rw [e, h.cb] at c8; cases c8
  have hlt : A.length < cur.size := by omega
  obtain ⟨B', u, hB⟩ : ∃ B' u, D.B = B' ++ [u] := by
    rcases List.eq_nil_or_concat D.B with h0 | ⟨B', u, h0⟩
    · have := h.acl; rw [h0, hl] at this; simp at this
    · exact ⟨B', u, by rw [h0, List.concat_eq_append]⟩
  have hBl : B'.length = A.length := by have := h.acl; rw [hB, hl, List.length_append] at this; simpa using this
  have bw : But (fun k => k = g ∨ k = b) w ((w.setCell ⟨g, A.length, none⟩ .nilFunc).setCell ⟨b, 7, none⟩ (.slice (some ⟨g, 0, none⟩) A.length D.ac)) := ((But.refl (fun k => k = g ∨ k = b) w).setCell (p := ⟨g, A.length, none⟩) (fun _ => .inl rfl) _).setCell (p := ⟨b, 7, none⟩) (fun _ => .inr rfl) _
  have ne : ∀ {k : Nat}, col k ≠ 8 → col k ≠ 1 → ¬ (k = g ∨ k = b) := fun n8 n1 e => by
    rcases e with rfl | rfl
    · exact n8 c8
    · exact n1 h.cb
  have hbg : (w.setCell ⟨g, A.length, none⟩ .nilFunc).heap[b]? = some (.cells (boxC P D) 70 (0, 0)) := (Below.heap_setCell _ _ _ _ (fun e => gb e.symm)).trans h.box
  refine ⟨g, ha, ⟨cur[A.length], ?_⟩, by simp [World.frozen?, hg], gb, by omega, h2, ⟨?_, bw.same h.pgs (ne (by rw [h.cg]; decide) (by rw [h.cg]; decide)), fun s hs => (h.set s hs).but bw (ne (by rw [h.cs s hs]; omega) (by rw [h.cs s hs]; omega)) (fun y hy => ne (by rw [h.ca s hs y hy]; omega) (by rw [h.ca s hs y hy]; omega)), ?_, ?_, ?_, h.cb, h.cg, h.cs, h.ca, h.cc, fun t ht => h.cB t (by rw [hB, List.dropLast_concat] at ht; rw [hB]; exact List.mem_append_left _ ht), fun k hk => Nat.lt_of_lt_of_le (h.lt k hk) bw.size⟩, bw.mono fun k _ hk => ?_⟩
  · rw [cell_of_row _ _ _ _ _ _ hg]
    exact Array.getElem?_eq_getElem hlt
  · rw [heap_setCell_same _ _ _ _ _ _ hbg]
    show some (Obj.cells _ _ _) = some (Obj.cells (boxC _ _) _ _)
    unfold boxC
    rw [← ha]
    simp
  · show Gw 76 1 _ D.aa D.ac A.length (D.B.dropLast.map clo)
    rw [ha]
    have hg2 := heap_setCell_same w g A.length cur 76 .nilFunc hg
    have hg3 : ((w.setCell ⟨g, A.length, none⟩ .nilFunc).setCell ⟨b, 7, none⟩ (.slice (some ⟨g, 0, none⟩) A.length D.ac)).heap[g]? = _ := (Below.heap_setCell _ _ _ _ gb).trans hg2
    refine Gw.mk (by rw [hB]; simp [hBl]) hg3 (by omega) h2 (by simpa using h3) ?_
    rw [Array.toList_setIfInBounds, Nat.mul_one, List.take_set]
    have : (cur.toList.take A.length) = D.B.dropLast.map clo := by
      rw [hB, List.dropLast_concat]
      rw [hB, List.map_append, Nat.mul_one] at h4
      have := congrArg (List.take A.length) h4
      rw [List.take_take, Nat.min_eq_left (by omega), List.take_append_of_le_length (by rw [List.length_map, hBl]; exact Nat.le_refl _), ← hBl, ← List.length_map (f := clo), List.take_length] at this
      rw [← hBl, ← List.length_map (f := clo)]
      exact this
    rw [this]
    exact List.set_eq_of_length_le (by rw [hB]; simp [hBl])
  · rw [hB, List.dropLast_concat]; exact hBl
  · intro q hq
    have hq' : q ∈ D.B.zip P.ac := by
      rw [hB, List.dropLast_concat] at hq
      rw [hB, e, zip_snoc _ _ _ _ hBl]
      exact List.mem_append_left _ hq
    obtain ⟨c1, c2, c3⟩ := h.cB _ (zip_left hq').1
    exact (h.acb q hq').but bw (ne (by rw [c1]; decide) (by rw [c1]; decide)) (ne (by rw [c2]; decide) (by rw [c2]; decide)) (ne (by rw [c3]; decide) (by rw [c3]; decide))
  · rcases hk with rfl | rfl
    · rw [c8]; decide
    · rw [h.cb]; decide
/-- the closure of the last act -/
theorem Pq.last {w : World} {b : Nat} {P : Po} {D : Pd} {col : Nat → Nat} (h : Pq w b P D col) {A : List (Nat × Pg)} {x : Nat × Pg} (e : P.ac = A ++ [x]) :
    ∃ g t, D.aa = some ⟨g, 0, none⟩ ∧ w.cell? ⟨g, A.length, none⟩ = some (clo t) ∧ Cl w b t x := by
  have hl : P.ac.length = A.length + 1 := by rw [e, List.length_append]; rfl
  have hr := h.acr
  rw [hl] at hr
  obtain ⟨B', u, hB⟩ : ∃ B' u, D.B = B' ++ [u] := by
    rcases List.eq_nil_or_concat D.B with h0 | ⟨B', u, h0⟩
    · have := h.acl; rw [h0, hl] at this; simp at this
    · exact ⟨B', u, by rw [h0, List.concat_eq_append]⟩
  have hBl : B'.length = A.length := by have := h.acl; rw [hB, hl, List.length_append] at this; simpa using this
  obtain ⟨g, ha⟩ := hr.addr (by omega)
  rw [ha] at hr
  refine ⟨g, u, ha, hr.cell ?_, h.acb (u, x) ?_⟩
  · rw [hB, List.map_append, ← hBl, ← List.length_map (f := clo), List.getElem?_append_right (Nat.le_refl _), Nat.sub_self]; rfl
  · rw [hB, e, zip_snoc _ _ _ _ hBl]; simp
def Po.canUndo (P : Po) (m : Int) : Bool := decide ((P.fl : Int) ≤ m) && decide (m ≤ (P.mark : Int))
def Po.undo (P : Po) (m : Int) : Po := if P.canUndo m then Po.back ((P.mark : Int) - m).toNat P else P
/-- how many acts a pool's box tells -/
def actsLen (b : Nat) (w : World) : Nat := match w.cell? ⟨b, 7, none⟩ with
  | some (.slice _ n _) => n
  | _ => 0
theorem Pl.acts {w : World} {b : Nat} {P : Po} {col : Nat → Nat} (h : Pl w b P col) : actsLen b w = P.ac.length := by
  obtain ⟨D, h⟩ := h
  unfold actsLen
  rw [h.q.c7]
set_option maxHeartbeats 4000000 in
set_option maxRecDepth 8000 in
theorem Undo_any (w : World) (b : Nat) (P : Po) (col : Nat → Nat) (h : Pl w b P col) (m : Int) (hm : P.mark ≤ 9223372036854775807) :
    Calls Tryz.prog 15 #[.pointer (some ⟨b, 0, none⟩), .int .i64 m] w fun e w' => e = .returned (.bool (P.canUndo m)) ∧ ∃ col', Pl w' b (P.undo m) col' ∧ Fr w col w' col' := by
  have HP := hide h
  have c8 : w.cell? ⟨b, 8, none⟩ = some (.int .i64 ((P.fl : Nat) : Int)) := by obtain ⟨D, h⟩ := h; exact h.q.c8
  have MK := hide (show ∀ (W : World) (P' : Po) (c' : Nat → Nat), Pl W b P' c' → P'.mark ≤ 9223372036854775807 → Calls Tryz.prog 27 #[.pointer (some ⟨b, 0, none⟩)] W fun e w' => e = .returned (.int .i64 ((P'.mark : Nat) : Int)) ∧ Below W.heap.size W w' from fun W P' c' h hm => by
    obtain ⟨D, h⟩ := h
    exact Mark_any W b P' D c' h.q hm)
  have HM := hide hm
  clear h
  unfold Po.undo Po.canUndo
  by_cases h1 : (P.fl : Int) ≤ m
  · have d1 : decide ((P.fl : Int) ≤ m) = true := decide_eq_true h1
    have d1' : decide (m < (P.fl : Int)) = false := decide_eq_false (by omega)
    by_cases h2 : m ≤ (P.mark : Int)
    · have d2 : decide (m ≤ (P.mark : Int)) = true := decide_eq_true h2
      have d2' : decide ((P.mark : Int) < m) = false := decide_eq_false (by omega)
      rw [d1, d2]
      simp only [Bool.and_self, if_true]
      obtain ⟨M, rfl⟩ : ∃ M : Nat, m = (M : Int) := ⟨m.toNat, by omega⟩
      obtain ⟨J, hJ⟩ : ∃ J : Nat, J = ((P.mark : Int) - (M : Int)).toNat := ⟨_, rfl⟩
      rw [← hJ]
      have HJ := hide (show P.mark = M + J by omega)
      have hfl : P.fl ≤ M := by omega
      have M1 := hide (MK.out w P col HP.out HM.out)
      have n1 : decide (M < P.fl) = false := decide_eq_false (by omega)
      have n2 : decide (P.mark < M) = false := decide_eq_false (by have := HJ.out; omega)
      clear hJ hm h2 d1 d2
      have HFL := hide hfl
      go_enter Tryz.func15, Tryz.ntmps15
      go_wp2_with fail
      refine M1.out.mono ?_
      rintro _ w1 ⟨rfl, hb⟩
      have B1 := hide hb
      clear hb M1 c8
      go_wp2_with fail
      clear h1 d1' d2' n1 n2 hfl
      go_loopw [5] (fun _ wr => ∃ j P' col', Pl wr b P' col' ∧ Fr w col wr col' ∧ Po.back j P' = Po.back J P ∧ P'.mark = M + j ∧ P'.fl = P.fl ∧ M + j ≤ 9223372036854775807) (fun _ wr => actsLen b wr)
      case atStart => exact ⟨J, P, col, HP.out.keep B1.out, Fr.keep B1.out, rfl, HJ.out, rfl, by have := HJ.out; have := HM.out; omega⟩
      case round =>
        obtain ⟨j, P', col', hPl, hFr, hbk, hmk, hfl, hjb⟩ := hrel
        have M2 := hide (MK.out wr P' col' hPl (by rw [hmk]; exact hjb))
        have HPl := hide hPl
        have HFr := hide hFr
        have HBK := hide hbk
        have HMK := hide hmk
        have HFL2 := hide hfl
        rw [hmk] at M2
        clear hPl hFr hbk hmk hfl
        go_wp2_with fail
        refine M2.out.mono ?_
        rintro _ w2 ⟨rfl, hb⟩
        have B2 := hide hb
        clear hb M2
        by_cases hj : j = 0
        · subst hj
          have n3 : decide ((M : Int) < ((M + 0 : Nat) : Int)) = false := decide_eq_false (by omega)
          go_wp2
          go_ret
          exact ⟨rfl, col', by rw [← HBK.out]; exact HPl.out.keep B2.out, HFr.out.below B2.out⟩
        · have n3 : decide ((M : Int) < ((M + j : Nat) : Int)) = true := decide_eq_true (by omega)
          obtain ⟨A, x, hA⟩ : ∃ A x, P'.ac = A ++ [x] := by
            rcases List.eq_nil_or_concat P'.ac with h0 | ⟨A, x, h0⟩
            · have := HMK.out
              unfold Po.mark at this
              rw [h0, HFL2.out, List.length_nil] at this
              have := HFL.out
              omega
            · exact ⟨A, x, by rw [h0, List.concat_eq_append]⟩
          have hal : P'.ac.length = A.length + 1 := by rw [hA, List.length_append]; rfl
          have HA := hide hA
          have hP2 := HPl.out.keep B2.out
          have L2 := hide hP2.acts
          obtain ⟨D2, h2⟩ := hP2
          obtain ⟨g, t, ha, hcl, hC⟩ := h2.q.last hA
          have AC := hide (actC_any w2 b P' D2 col' h2 t x hC (h2.ok.acs x (by rw [hA]; simp)))
          have c7 := h2.q.c7
          rw [hal, ha] at c7
          have hcap := h2.q.acr.capLe
          rw [hal] at hcap
          have OK2 := hide h2.ok
          clear h2 hC hal ha hA
          unfold clo at hcl
          obtain ⟨n, hn⟩ : ∃ n, A.length = n := ⟨_, rfl⟩
          have HN := hide hn
          rw [hn] at c7 hcap hcl
          clear hn
          have s1 : IntKind.i64.wrap (n : Int) = (n : Int) := wrapI (by omega) (by unfold maxLen at hcap; omega)
          have s2 : wrap64 (n : Int) = (n : Int) := by unfold wrap64; unfold maxLen at hcap; omega
          go_wp2_with fail
          refine AC.out.mono ?_
          rintro _ w4 ⟨rfl, col4, ⟨D4, h4⟩, f4⟩
          obtain ⟨g4, ha4, ⟨v4, hv4⟩, hf4, gb4, hl4, hm4, hq4, hb4⟩ := h4.q.drop (A := A) (x := x) HA.out
          have c74 := h4.q.c7
          rw [ha4, show (P'.put x.1 x.2).ac.length = A.length + 1 by show P'.ac.length = _; rw [HA.out, List.length_append]; rfl] at c74
          have f74 := h4.q.free 7
          have X := hide (show ∃ j' P'' col'', Pl ((w4.setCell ⟨g4, A.length, none⟩ .nilFunc).setCell ⟨b, 7, none⟩ (.slice (some ⟨g4, 0, none⟩) A.length D4.ac)) b P'' col'' ∧ Fr w col ((w4.setCell ⟨g4, A.length, none⟩ .nilFunc).setCell ⟨b, 7, none⟩ (.slice (some ⟨g4, 0, none⟩) A.length D4.ac)) col'' ∧ Po.back j' P'' = Po.back J P ∧ P''.mark = M + j' ∧ P''.fl = P.fl ∧ M + j' ≤ 9223372036854775807 by
            obtain ⟨xn, xp⟩ := x
            have ok := OK2.out.drop HA.out
            refine ⟨j - 1, ⟨P'.rf, P'.pg.set (xn - 1) xp, A, P'.fl⟩, col4, ⟨_, hq4, ok, h4.mem⟩, (HFr.out.below B2.out).trans (f4.trans ⟨hb4, fun _ _ => rfl⟩), ?_, ?_, HFL2.out, by omega⟩
            · rw [← HBK.out]
              obtain ⟨j', rfl⟩ : ∃ j', j = j' + 1 := ⟨j - 1, by omega⟩
              exact (Po.back_succ HA.out j').symm
            · have := HMK.out
              unfold Po.mark at this ⊢
              rw [HA.out, List.length_append] at this
              simp only [List.length_cons, List.length_nil] at this ⊢
              omega)
          have Y := hide (show actsLen b ((w4.setCell ⟨g4, A.length, none⟩ .nilFunc).setCell ⟨b, 7, none⟩ (.slice (some ⟨g4, 0, none⟩) A.length D4.ac)) < actsLen b wr by
            rw [HPl.out.acts, HA.out]
            unfold actsLen
            rw [hq4.c7]
            show A.length < (A ++ [x]).length
            rw [List.length_append]
            exact Nat.lt_succ_self _)
          have c75 : (w4.setCell ⟨g4, A.length, none⟩ .nilFunc).cell? ⟨b, 7, none⟩ = _ := (World.cell?_of_block (w := w4) (a := ⟨b, 7, none⟩) (Below.heap_setCell _ _ _ _ (fun e => gb4 e.symm))).trans c74
          have f75 : (w4.setCell ⟨g4, A.length, none⟩ .nilFunc).frozen? ⟨b, 7, none⟩ = _ := (World.frozen?_of_block (w := w4) (a := ⟨b, 7, none⟩) (Below.heap_setCell _ _ _ _ (fun e => gb4 e.symm))).trans f74
          rw [HN.out] at hv4 hf4 c74 c75 f75 hl4 X Y
          clear h4 f4 hq4 hb4 ha4 c7 hcl hcap AC
          have rs : (store ⟨g4, n, none⟩ .nilFunc).run Tryz.prog w4 = .ok () (w4.setCell ⟨g4, n, none⟩ .nilFunc) := by rw [run_store _ _ _ _ _ rfl]; simp [hv4, hf4]
          go_wp2
          go_roundw
          case rel => exact X.out
          case measure => exact Y.out
    · have d2 : decide (m ≤ (P.mark : Int)) = false := decide_eq_false h2
      have d2' : decide ((P.mark : Int) < m) = true := decide_eq_true (by omega)
      rw [d1, d2]
      have M1 := hide (MK.out w P col HP.out HM.out)
      simp only [Bool.and_false]
      show Calls _ _ _ _ fun e w' => e = .returned (.bool false) ∧ ∃ col', Pl w' b P col' ∧ Fr w col w' col'
      generalize P.mark = mk at *
      clear hm h2 d1 d2
      go_enter Tryz.func15, Tryz.ntmps15
      go_wp2_with fail
      refine M1.out.mono ?_
      rintro _ w1 ⟨rfl, hb⟩
      have B1 := hide hb
      clear hb M1 c8
      go_wp2
      go_ret
      exact ⟨rfl, col, HP.out.keep B1.out, Fr.keep B1.out⟩
  · have d1 : decide ((P.fl : Int) ≤ m) = false := decide_eq_false h1
    have d1' : decide (m < (P.fl : Int)) = true := decide_eq_true (by omega)
    rw [d1]
    simp only [Bool.false_and]
    show Calls _ _ _ _ fun e w' => e = .returned (.bool false) ∧ ∃ col', Pl w' b P col' ∧ Fr w col w' col'
    clear hm d1
    go_enter Tryz.func15, Tryz.ntmps15
    go_wp2
    go_ret
    exact ⟨rfl, col, HP.out, Fr.refl _ _⟩
end Go.Proofs.YtceeeofkigkpkaaGreat
