import Derived.Test.YtceeeofkigkpkaaGreatEBAX
import Derived.Test.YtceeeofkigkpkaaGreatEJ
import Derived.Test.YtceeeofkigkpkaaGreatEAG
namespace Go.Proofs.YtceeeofkigkpkaaGreat
set_option linter.unusedVariables false
open Go.RowKit

/-! ### the document's Undo -/
theorem acc_at (A : List (Int × Int)) (x : Int × Int) : (acc (A ++ [x]))[A.length * 2]? = some (.int .i64 x.1) ∧ (acc (A ++ [x]))[A.length * 2 + 1]? = some (.int .i64 x.2) := by
  rw [acc_append, List.getElem?_append_right (by rw [acc_length]; exact Nat.le_refl _), List.getElem?_append_right (by rw [acc_length]; omega), acc_length]
  rw [Nat.sub_self, show A.length * 2 + 1 - A.length * 2 = 1 by omega]
  exact ⟨rfl, rfl⟩
/-- the last act, as the document keeps it -/
theorem Rq.last {w : World} {q : Nat} {P : Po} {cb lb : Nat} {aA : Option Addr} {cA : Nat} {A : List (Int × Int)} (h : Rq w q P cb lb aA cA A) {PA : List (Nat × Pg)} {n : Nat} {x : Pg} (e : P.ac = PA ++ [(n, x)]) :
    ∃ g A0 d, A = A0 ++ [((n : Int), d)] ∧ aA = some ⟨g, 0, none⟩ ∧ w.cell? ⟨g, A0.length * 2, none⟩ = some (.int .i64 (n : Int)) ∧ w.cell? ⟨g, A0.length * 2 + 1, none⟩ = some (.int .i64 d) ∧ (1 ≤ n ∧ n ≤ P.pg.length) ∧ x.1 = (P.pg.getD (n - 1) Pg.zero).1 - d ∧ x.2 = (P.pg.getD (n - 1) Pg.zero).2 ∧ (d = 1 ∨ d = -1) ∧ Al (P.pg.set (n - 1) x) PA.reverse (A0.drop P.fl).reverse ∧ A0.length + 1 ≤ cA ∧ cA ≤ maxLen ∧ P.fl ≤ A0.length := by
  have hal := h.al
  have hlen := h.len
  rw [e, List.reverse_append] at hal
  unfold Po.mark at hlen
  rw [e, List.length_append] at hlen
  rcases List.eq_nil_or_concat A with h0 | ⟨A0, y, h0⟩
  · rw [h0] at hlen; simp at hlen
  rw [List.concat_eq_append] at h0
  subst h0
  rw [List.length_append] at hlen
  simp only [List.length_cons, List.length_nil] at hlen
  have hf : P.fl ≤ A0.length := by omega
  rw [List.drop_append_of_le_length hf, List.reverse_append] at hal
  obtain ⟨m, d⟩ := y
  obtain ⟨k1, k2, k3, k4, k5, k6⟩ := hal
  subst k1
  have hr := h.acr
  obtain ⟨g, rfl⟩ := hr.addr (by rw [List.length_append]; exact Nat.succ_pos _)
  have hc := hr.capLe
  rw [List.length_append] at hc
  exact ⟨g, A0, d, rfl, rfl, hr.cell (acc_at A0 ((n : Int), d)).1, hr.cell (acc_at A0 ((n : Int), d)).2, k2, k3, k4, k5, k6, hc.1, hc.2, hf⟩
theorem Rq.undone {w : World} {q : Nat} {P : Po} {cb lb g : Nat} {cA : Nat} {A0 : List (Int × Int)} {n : Nat} {d : Int} (h : Rq w q P cb lb (some ⟨g, 0, none⟩) cA (A0 ++ [((n : Int), d)])) {PA : List (Nat × Pg)} {x : Pg} (e : P.ac = PA ++ [(n, x)]) (hx : x.2 = (P.pg.getD (n - 1) Pg.zero).2) (hA : Al (P.pg.set (n - 1) x) PA.reverse (A0.drop P.fl).reverse) :
    Rq ((w.setCell ⟨cb, n - 1, none⟩ (.int .i64 x.1)).drew.setCell ⟨q, 3, none⟩ (.slice (some ⟨g, 0, none⟩) A0.length cA)).drew q ⟨P.rf, P.pg.set (n - 1) x, PA, P.fl⟩ cb lb (some ⟨g, 0, none⟩) cA A0 ∧
    But (fun k => k = cb ∨ k = q) w ((w.setCell ⟨cb, n - 1, none⟩ (.int .i64 x.1)).drew.setCell ⟨q, 3, none⟩ (.slice (some ⟨g, 0, none⟩) A0.length cA)).drew := by
  have B1 : But (fun k => k = cb ∨ k = q) w (w.setCell ⟨cb, n - 1, none⟩ (.int .i64 x.1)).drew := ((But.refl (fun k => k = cb ∨ k = q) w).setCell (p := ⟨cb, n - 1, none⟩) (fun _ => .inl rfl) _).drew
  have B2 := (B1.setCell (p := ⟨q, 3, none⟩) (fun _ => .inr rfl) (.slice (some ⟨g, 0, none⟩) A0.length cA)).drew
  have hlen := h.len
  unfold Po.mark at hlen
  rw [e, List.length_append, List.length_append] at hlen
  simp only [List.length_cons, List.length_nil] at hlen
  have d4 := h.d4 ⟨g, 0, none⟩ rfl
  have b1 : (w.setCell ⟨cb, n - 1, none⟩ (.int .i64 x.1)).heap[q]? = _ := (Below.heap_setCell _ _ _ _ h.d1).trans h.box
  refine ⟨⟨?_, ?_, ?_, ?_, ?_, hA, h.d1, h.d2, h.d3, fun y hy => by cases hy; exact d4⟩, B2⟩
  · have k : ((w.setCell ⟨cb, n - 1, none⟩ (.int .i64 x.1)).setCell ⟨q, 3, none⟩ (.slice (some ⟨g, 0, none⟩) A0.length cA)).heap[q]? = _ := heap_setCell_same _ _ _ _ _ _ b1
    show ((w.setCell ⟨cb, n - 1, none⟩ (.int .i64 x.1)).setCell ⟨q, 3, none⟩ (.slice (some ⟨g, 0, none⟩) A0.length cA)).heap[q]? = _
    rw [k]
    show some (Obj.cells _ _ _) = some (Obj.cells #[_, .slice _ (P.pg.set (n - 1) x).length (P.pg.set (n - 1) x).length, .slice _ (P.pg.set (n - 1) x).length (P.pg.set (n - 1) x).length, _, _] _ _)
    rw [List.length_set]
    rfl
  · show ((w.setCell ⟨cb, n - 1, none⟩ (.int .i64 x.1)).setCell ⟨q, 3, none⟩ (.slice (some ⟨g, 0, none⟩) A0.length cA)).heap[cb]? = _
    rw [Below.heap_setCell _ _ _ _ (fun e => h.d1 e.symm), h.setC]
    have : (⟨P.rf, P.pg.set (n - 1) x, PA, P.fl⟩ : Po).counts = P.counts.set (n - 1) x.1 := by unfold Po.counts; rw [List.map_set]
    rw [this]
  · have k := B2.same h.las (by rintro (e | e); exact h.d3 e.symm; exact h.d2 e.symm)
    rw [k]
    show _ = some (Obj.cells (vbl ((P.pg.set (n - 1) x).map Prod.snd)).toArray _ _)
    rw [snd_set (n - 1) x hx]
  · have hr := h.acr.but B2 (fun y hy => by cases hy; rintro (e | e); exact d4.2.1 e; exact d4.1 e)
    rcases hr.cases with ⟨h0, _⟩ | ⟨g', cur, h0, hg, h1, h2, h3, h4⟩
    · cases h0
    · cases h0
      rw [List.length_append] at h1 h4
      simp only [List.length_cons, List.length_nil] at h1 h4
      refine Gw.mk (acc_length A0) hg (by omega) h2 h3 ?_
      have := congrArg (List.take (A0.length * 2)) h4
      rw [List.take_take, Nat.min_eq_left (by omega), acc_append, List.take_append_of_le_length (by rw [acc_length]; exact Nat.le_refl _)] at this
      rw [this, List.take_of_length_le (by rw [acc_length]; exact Nat.le_refl _)]
  · show A0.length = P.fl + PA.length
    omega
theorem wrapN (n : Nat) (h : n ≤ 8796093022208) : IntKind.i64.wrap (n : Int) = (n : Int) ∧ wrap64 (n : Int) = (n : Int) := ⟨wrapI (by omega) (by omega), by unfold wrap64; omega⟩
theorem wrapS {c d xc : Int} (h0 : 0 ≤ c) (h1 : c ≤ 65536) (hd : d = 1 ∨ d = -1) (hx : xc = c - d) : IntKind.i64.wrap (c - d) = xc ∧ wrap64 (c - d) = xc := ⟨by rw [wrapI (by omega) (by omega)]; omega, by unfold wrap64; omega⟩
def ractsLen (q : Nat) (w : World) : Nat := match w.cell? ⟨q, 3, none⟩ with
  | some (.slice _ n _) => n
  | _ => 0
theorem Rl.acts {w : World} {q : Nat} {P : Po} {F : Nat → Prop} (h : Rl w q P F) : ractsLen q w = P.mark := by
  obtain ⟨⟨cb, lb, aA, cA, A, hq, _⟩, _, _⟩ := h
  unfold ractsLen
  rw [hq.cell.2.2.2.1]
  exact hq.len
set_option maxHeartbeats 8000000 in
set_option maxRecDepth 8000 in
theorem qUndo_any (w : World) (q : Nat) (P : Po) (F : Nat → Prop) (h : Rl w q P F) (m : Int) (hm : P.mark ≤ 8796093022208) :
    Calls Tryz.prog 41 #[.pointer (some ⟨q, 0, none⟩), .int .i64 m] w fun e w' => e = .returned (.bool (P.canUndo m)) ∧ ∃ F', Rl w' q (P.undo m) F' ∧ Gr w F w' F' := by
  have H := hide h
  have hfm : P.fl ≤ P.mark := Nat.le_add_right _ _
  obtain ⟨aA, cA, c3, c4⟩ : ∃ aA cA, w.cell? ⟨q, 3, none⟩ = some (.slice aA P.mark cA) ∧ w.cell? ⟨q, 4, none⟩ = some (.int .i64 ((P.fl : Nat) : Int)) := by
    obtain ⟨⟨cb, lb, aA, cA, A, hq, f1, f2, f3, f4⟩, ok, lt⟩ := h
    obtain ⟨c0, c1, c2, c3, c4⟩ := hq.cell
    rw [hq.len] at c3
    exact ⟨aA, cA, c3, c4⟩
  clear h
  unfold Po.undo Po.canUndo
  by_cases h1 : (P.fl : Int) ≤ m
  · have d1 : decide ((P.fl : Int) ≤ m) = true := decide_eq_true h1
    have d1' : decide (m < (P.fl : Int)) = false := decide_eq_false (by omega)
    by_cases h2 : m ≤ (P.mark : Int)
    · have d2 : decide (m ≤ (P.mark : Int)) = true := decide_eq_true h2
      have d2' : decide ((P.mark : Int) < m) = false := decide_eq_false (by omega)
      rw [d1, d2]
      simp only [Bool.and_self, if_true]
      obtain ⟨M, rfl⟩ : ∃ M : Nat, m = (M : Int) := ⟨m.toNat, by omega⟩
      obtain ⟨J, hJ⟩ : ∃ J : Nat, J = ((P.mark : Int) - (M : Int)).toNat := ⟨_, rfl⟩
      rw [← hJ]
      have HJ := hide (show P.mark = M + J by omega)
      have HFL := hide (show P.fl ≤ M by omega)
      have HM := hide hm
      have n1 : decide (M < P.fl) = false := decide_eq_false (by omega)
      have n2 : decide (P.mark < M) = false := decide_eq_false (by have := HJ.out; omega)
      clear hJ hm h2 d1 d2 h1
      go_enter Tryz.func41, Tryz.ntmps41
      go_wp2_with fail
      clear c3 c4 d1' d2' n1 n2 hfm
      go_loopw [5] (fun _ wr => ∃ j P' F', Rl wr q P' F' ∧ Gr w F wr F' ∧ Po.back j P' = Po.back J P ∧ P'.mark = M + j ∧ P'.fl = P.fl ∧ M + j ≤ 8796093022208) (fun _ wr => ractsLen q wr)
      case atStart => exact ⟨J, P, F, H.out, Gr.refl _ _, rfl, HJ.out, rfl, by have := HJ.out; have := HM.out; omega⟩
      case round =>
        obtain ⟨j, P', F', hR, hG, hbk, hmk, hfl, hjb⟩ := hrel
        have AL := hide hR.acts
        have HR := hide hR
        have HG := hide hG
        have HBK := hide hbk
        have HMK := hide hmk
        have HFL2 := hide hfl
        obtain ⟨⟨cb, lb, aA, cA, A, hq, f1, f2, f3, f4⟩, ok, lt⟩ := hR
        obtain ⟨c0, c1, c2, c3, c4⟩ := hq.cell
        rw [hq.len, hmk] at c3
        clear hG hbk hmk hfl
        by_cases hj : j = 0
        · subst hj
          have n3 : decide (M < M) = false := decide_eq_false (by omega)
          have n4 : decide ((M : Int) < (M : Int)) = false := decide_eq_false (by omega)
          rw [Nat.add_zero] at c3
          have FIN : Hid (∃ F', Rl wr q (Po.back J P) F' ∧ Gr w F wr F') := ⟨F', by rw [← HBK.out]; exact HR.out, HG.out⟩
          clear hq f1 f2 f3 f4 ok lt c0 c1 c2 c4
          go_wp2
          go_ret
          exact ⟨rfl, FIN.out⟩
        · have hne : P'.ac ≠ [] := fun e => by
            have k := HMK.out
            unfold Po.mark at k
            rw [e, HFL2.out] at k
            have := HFL.out
            simp at k
            omega
          rcases List.eq_nil_or_concat P'.ac with h0 | ⟨PA, ⟨n, x⟩, h0⟩
          · exact absurd h0 hne
          rw [List.concat_eq_append] at h0
          obtain ⟨g, A0, d, rfl, rfl, a0, a1, ⟨n1, n2⟩, x1, x2, hd, hA, hc1, hc2, hf⟩ := hq.last h0
          obtain ⟨m1, m2⟩ := hq.cAt (i := n - 1) (by omega)
          have UN := hide fun (W : World) (hb : Below wr.heap.size wr W) => (hq.keep hb).undone h0 x2 hA
          have hat := ok.at n1 n2
          have hat : 0 ≤ (P'.pg.getD (n - 1) Pg.zero).1 ∧ (P'.pg.getD (n - 1) Pg.zero).1 ≤ P'.rf := hat
          have hr2 := ok.r2
          have hl2 := ok.l2
          have hml := hq.len
          rw [HMK.out, List.length_append] at hml
          simp only [List.length_cons, List.length_nil] at hml
          have OKD := hide (ok.drop h0)
          have hfq := fun (W : World) (hb : Below wr.heap.size wr W) => (hq.keep hb).free 3
          have e1 : w.heap.size ≤ wr.heap.size := HG.out.b.size
          have FIN : Hid (∀ (W W' : World) (_ : Below wr.heap.size wr W), W' = ((W.setCell ⟨cb, n - 1, none⟩ (.int .i64 x.1)).drew.setCell ⟨q, 3, none⟩ (.slice (some ⟨g, 0, none⟩) A0.length cA)).drew → (∃ j P' F', Rl W' q P' F' ∧ Gr w F W' F' ∧ Po.back j P' = Po.back J P ∧ P'.mark = M + j ∧ P'.fl = P.fl ∧ M + j ≤ 8796093022208) ∧ ractsLen q W' < ractsLen q wr) := by
            rintro W W' hb rfl
            obtain ⟨u1, u2⟩ := UN.out W hb
            have r : Rl ((W.setCell ⟨cb, n - 1, none⟩ (.int .i64 x.1)).drew.setCell ⟨q, 3, none⟩ (.slice (some ⟨g, 0, none⟩) A0.length cA)).drew q ⟨P'.rf, P'.pg.set (n - 1) x, PA, P'.fl⟩ F' := ⟨⟨cb, lb, some ⟨g, 0, none⟩, cA, A0, u1, f1, f2, f3, f4⟩, OKD.out, fun k hk => Nat.lt_of_lt_of_le (lt k hk) (Nat.le_trans hb.size u2.size)⟩
            refine ⟨⟨j - 1, _, F', r, HG.out.trans ((Gr.keep hb).trans ⟨u2.mono (fun k _ hk => by rcases hk with rfl | rfl; exact f2; exact f1), fun _ _ => Iff.rfl⟩), ?_, ?_, HFL2.out, by omega⟩, ?_⟩
            · rw [← HBK.out]
              obtain ⟨j', rfl⟩ : ∃ j', j = j' + 1 := ⟨j - 1, by omega⟩
              exact (Po.back_succ h0 j').symm
            · show P'.fl + PA.length = _
              have k := HMK.out
              unfold Po.mark at k
              rw [h0, List.length_append] at k
              simp only [List.length_cons, List.length_nil] at k
              omega
            · rw [r.acts, AL.out]
              show P'.fl + PA.length < P'.fl + P'.ac.length
              rw [h0, List.length_append]
              simp
          obtain ⟨i, rfl⟩ : ∃ i, n = i + 1 := ⟨n - 1, by omega⟩
          simp only [Nat.add_sub_cancel] at *
          obtain ⟨na, hna⟩ : ∃ na, A0.length = na := ⟨_, rfl⟩
          rw [hna] at a0 a1 hc1 hml FIN
          obtain ⟨jj, rfl⟩ : ∃ jj, j = jj + 1 := ⟨j - 1, by omega⟩
          obtain ⟨c, hc⟩ : ∃ c, (P'.pg.getD i Pg.zero).1 = c := ⟨_, rfl⟩
          rw [hc] at m1 x1 hat
          obtain ⟨xc, hxc⟩ : ∃ xc, x.1 = xc := ⟨_, rfl⟩
          rw [hxc] at FIN x1
          obtain ⟨np, hnp⟩ : ∃ np, P'.pg.length = np := ⟨_, rfl⟩
          rw [hnp] at n2 c1 c2 hl2
          have hMn : M + (jj + 1) = na + 1 := by omega
          have hna8 : na + 1 ≤ 8796093022208 := by omega
          rw [hMn] at c3
          have hMi : decide ((M : Int) < ((na + 1 : Nat) : Int)) = true := decide_eq_true (by omega)
          have hMi' : (M : Int) < ((na + 1 : Nat) : Int) := by omega
          have hMi2 : M < na + 1 := by omega
          have aw := al wr (.cells #[.int .i64 ((i + 1 : Nat) : Int), .int .i64 d] 85)
          have KP : Hid (∀ W : World, Below wr.heap.size wr W → W.cell? ⟨q, 3, none⟩ = some (.slice (some ⟨g, 0, none⟩) (na + 1) cA) ∧ W.cell? ⟨q, 1, none⟩ = some (.slice (some ⟨cb, 0, none⟩) np np) ∧ W.cell? ⟨cb, i, none⟩ = some (.int .i64 c) ∧ W.frozen? ⟨cb, i, none⟩ = false) := fun W hb => ⟨(hb.cell (p := ⟨q, 3, none⟩) (block_lt_of_cell c3)).trans c3, (hb.cell (p := ⟨q, 1, none⟩) (block_lt_of_cell c1)).trans c1, (hb.cell (p := ⟨cb, i, none⟩) (block_lt_of_cell m1)).trans m1, by rw [World.frozen?_of_block (w := wr) (a := ⟨cb, i, none⟩) (hb.block cb (block_lt_of_cell m1))]; exact m2⟩
          have D1 := hide hq.d1
          have bS : ∀ (W : World) (u : Value), But (fun k => k = cb) W (W.setCell ⟨cb, i, none⟩ u).drew := fun W u => ((But.refl (fun k => k = cb) W).setCell (p := ⟨cb, i, none⟩) (fun _ => rfl) u).drew
          have BS := hide bS
          have HQ3 := hide hfq
          have ql : q < wr.heap.size := block_lt_of_cell c3
          have gl : g < wr.heap.size := block_lt_of_cell a0
          clear hq f1 f2 f3 f4 ok lt c0 c2 c4 hA hc hxc hnp hna h0 hne UN OKD hml hMn bS hfq e1 x2 m1 m2
          have HD := hide hd
          have HN2 := hide n2
          have HI : Hid (i ≤ 8796093022208) := by show _ ≤ _; omega
          have HNA : Hid (na + 1 ≤ cA ∧ cA ≤ maxLen ∧ na + 1 ≤ 8796093022208) := ⟨hc1, hc2, hna8⟩
          have hrf : c ≤ 65536 := by omega
          have S1 := hide (wrapS hat.1 hrf hd x1)
          have WN := hide (wrapN na (Nat.le_of_succ_le hna8))
          clear hd x1 hj hc1 hc2 hf hat hr2 hrf hna8
          have SK : Hid (∀ W : World, Below wr.heap.size wr W → W.cell? ⟨q, 3, none⟩ = some (.slice (some ⟨g, 0, none⟩) (na + 1) cA) ∧ W.cell? ⟨g, na * 2, none⟩ = some (.int .i64 ((i + 1 : Nat) : Int)) ∧ W.cell? ⟨g, na * 2 + 1, none⟩ = some (.int .i64 d)) := fun W hb => ⟨(hb.cell (p := ⟨q, 3, none⟩) (block_lt_of_cell c3)).trans c3, (hb.cell (p := ⟨g, na * 2, none⟩) (block_lt_of_cell a0)).trans a0, (hb.cell (p := ⟨g, na * 2 + 1, none⟩) (block_lt_of_cell a1)).trans a1⟩
          go_wp2_with fail
          clear hMi hMi' hMi2 c1 c3 a0 a1 hjb hl2 n1 n2
          have hnn : (na : Int) < (na : Int) + 1 := Int.lt_succ _
          obtain ⟨wn1, wn2⟩ := WN.out
          -- REGION4
          refine wp_region_held_drew (S := fun W => W.cell? ⟨q, 3, none⟩ = some (.slice (some ⟨g, 0, none⟩) (na + 1) cA) ∧ W.cell? ⟨g, na * 2, none⟩ = some (.int .i64 ((i + 1 : Nat) : Int)) ∧ W.cell? ⟨g, na * 2 + 1, none⟩ = some (.int .i64 d)) (by kernel_rfl) (SK.out _ (drw _)) (fun hHeld => ?_)
          refine wpAnyH_take (i := 0) (v := ?vau0) rfl (by kernel_rfl) (by kernel_rfl) (by kernel_rfl) (fun _ _ _ h => h) (Or.inl ⟨by rfl, ?hyu0⟩) (by assumption) ?rau0
          case hyu0 => (intro wq hSw; (try dsimp only at hSw); obtain ⟨g1, g2, g3⟩ := hSw; go_simp <;> with_reducible rfl)
          try simp only [Act.put, List.getElem_toArray, List.getElem_cons_zero, List.setIfInBounds_toArray, List.set_cons_zero, List.set_cons_succ]
          refine wpAnyH_take (i := 1) (v := ?vau1) rfl (by kernel_rfl) (by kernel_rfl) (by kernel_rfl) (fun _ _ _ h => h) (Or.inl ⟨by rfl, ?hyu1⟩) (by assumption) ?rau1
          case hyu1 => (intro wq hSw; (try dsimp only at hSw); obtain ⟨g1, g2, g3⟩ := hSw; go_simp <;> with_reducible rfl)
          try simp only [Act.put, List.getElem_toArray, List.getElem_cons_zero, List.getElem_cons_succ, List.setIfInBounds_toArray, List.set_cons_zero, List.set_cons_succ]
          refine wpAnyH_take (i := 2) (v := ?vau2) rfl (by kernel_rfl) (by kernel_rfl) (by kernel_rfl) (fun _ _ _ h => h) (Or.inl ⟨by rfl, ?hyu2⟩) (by assumption) ?rau2
          case hyu2 => (intro wq hSw; (try dsimp only at hSw); obtain ⟨g1, g2, g3⟩ := hSw; go_simp <;> with_reducible rfl)
          try simp only [Act.put, List.getElem_toArray, List.getElem_cons_zero, List.getElem_cons_succ, List.setIfInBounds_toArray, List.set_cons_zero, List.set_cons_succ]
          refine wpAnyH_take (i := 3) (v := ?vau3) rfl (by kernel_rfl) (by kernel_rfl) (by kernel_rfl) (fun _ _ _ h => h) (Or.inl ⟨by rfl, ?hyu3⟩) (by assumption) ?rau3
          case hyu3 => (intro wq hSw; (try dsimp only at hSw); obtain ⟨g1, g2, g3⟩ := hSw; go_simp <;> with_reducible rfl)
          try simp only [Act.put, List.getElem_toArray, List.getElem_cons_zero, List.getElem_cons_succ, List.setIfInBounds_toArray, List.set_cons_zero, List.set_cons_succ]
          refine wpAnyH_take (i := 4) (v := ?vau4) rfl (by kernel_rfl) (by kernel_rfl) (by kernel_rfl) (fun _ _ _ h => h) (Or.inl ⟨by rfl, ?hyu4⟩) (by assumption) ?rau4
          case hyu4 => (intro wq hSw; (try dsimp only at hSw); obtain ⟨g1, g2, g3⟩ := hSw; go_simp <;> with_reducible rfl)
          try simp only [Act.put, List.getElem_toArray, List.getElem_cons_zero, List.getElem_cons_succ, List.setIfInBounds_toArray, List.set_cons_zero, List.set_cons_succ]
          refine wpAnyH_take (i := 5) (v := ?vau5) rfl (by kernel_rfl) (by kernel_rfl) (by kernel_rfl) (fun _ _ _ h => h) (Or.inl ⟨by rfl, ?hyu5⟩) (by assumption) ?rau5
          case hyu5 => (intro wq hSw; (try dsimp only at hSw); obtain ⟨g1, g2, g3⟩ := hSw; go_simp <;> with_reducible rfl)
          try simp only [Act.put, List.getElem_toArray, List.getElem_cons_zero, List.getElem_cons_succ, List.setIfInBounds_toArray, List.set_cons_zero, List.set_cons_succ]
          refine wpAnyH_take (i := 6) (v := ?vau6) rfl (by kernel_rfl) (by kernel_rfl) (by kernel_rfl) (fun _ _ _ h => h) (Or.inl ⟨by rfl, ?hyu6⟩) (by assumption) ?rau6
          case hyu6 => (intro wq hSw; (try dsimp only at hSw); obtain ⟨g1, g2, g3⟩ := hSw; go_simp <;> with_reducible rfl)
          try simp only [Act.put, List.getElem_toArray, List.getElem_cons_zero, List.getElem_cons_succ, List.setIfInBounds_toArray, List.set_cons_zero, List.set_cons_succ]
          refine wpAnyH_take (i := 7) (v := ?vau7) rfl (by kernel_rfl) (by kernel_rfl) (by kernel_rfl) (fun _ _ _ h => h) (Or.inl ⟨by rfl, ?hyu7⟩) (by assumption) ?rau7
          case hyu7 => (intro wq hSw; (try dsimp only at hSw); obtain ⟨g1, g2, g3⟩ := hSw; go_simp <;> with_reducible rfl)
          try simp only [Act.put, List.getElem_toArray, List.getElem_cons_zero, List.getElem_cons_succ, List.setIfInBounds_toArray, List.set_cons_zero, List.set_cons_succ]
          refine wpAnyH_take (i := 8) (v := ?vau8) rfl (by kernel_rfl) (by kernel_rfl) (by kernel_rfl) (fun _ _ _ h => h) (Or.inl ⟨by rfl, ?hyu8⟩) (by assumption) ?rau8
          case hyu8 => (intro wq hSw; (try dsimp only at hSw); obtain ⟨g1, g2, g3⟩ := hSw; go_simp <;> with_reducible rfl)
          try simp only [Act.put, List.getElem_toArray, List.getElem_cons_zero, List.getElem_cons_succ, List.setIfInBounds_toArray, List.set_cons_zero, List.set_cons_succ]
          refine wpAnyH_take (i := 9) (v := ?vau9) rfl (by kernel_rfl) (by kernel_rfl) (by kernel_rfl) (fun _ _ _ h => h) (Or.inl ⟨by rfl, ?hyu9⟩) (by assumption) ?rau9
          case hyu9 => (intro wq hSw; (try dsimp only at hSw); obtain ⟨g1, g2, g3⟩ := hSw; go_simp <;> with_reducible rfl)
          try simp only [Act.put, List.getElem_toArray, List.getElem_cons_zero, List.getElem_cons_succ, List.setIfInBounds_toArray, List.set_cons_zero, List.set_cons_succ]
          refine wpAnyH_take (i := 10) (v := ?vau10) rfl (by kernel_rfl) (by kernel_rfl) (by kernel_rfl) (fun _ _ _ h => h) (Or.inl ⟨by rfl, ?hyu10⟩) (by assumption) ?rau10
          case hyu10 => (intro wq hSw; (try dsimp only at hSw); obtain ⟨g1, g2, g3⟩ := hSw; go_simp <;> with_reducible rfl)
          try simp only [Act.put, List.getElem_toArray, List.getElem_cons_zero, List.getElem_cons_succ, List.setIfInBounds_toArray, List.set_cons_zero, List.set_cons_succ]
          refine wpAnyH_take (i := 11) (v := ?vau11) rfl (by kernel_rfl) (by kernel_rfl) (by kernel_rfl) (fun _ _ _ h => h) (Or.inl ⟨by rfl, ?hyu11⟩) (by assumption) ?rau11
          case hyu11 => (intro wq hSw; (try dsimp only at hSw); obtain ⟨g1, g2, g3⟩ := hSw; go_simp <;> with_reducible rfl)
          try simp only [Act.put, List.getElem_toArray, List.getElem_cons_zero, List.getElem_cons_succ, List.setIfInBounds_toArray, List.set_cons_zero, List.set_cons_succ]
          refine wpAnyH_ready (rs := [12]) (by kernel_rfl) (by simp) ?_
          refine AllReadyH.cons rfl (fun K hK => ?_) AllReadyH.nil
          go_simp
          refine hK.out _ _ (SK.out _ (bt (drw _) (al _ _))) (fun hHeld => ?_)
          clear hK K
          try simp only [Act.put, List.getElem_toArray, List.getElem_cons_zero, List.getElem_cons_succ, List.setIfInBounds_toArray, List.set_cons_zero, List.set_cons_succ]
          refine wpAnyH_ready (rs := [13]) (by kernel_rfl) (by simp) ?_
          refine AllReadyH.cons rfl (fun K hK => ?_) AllReadyH.nil
          go_simp
          refine hK.out _ _ (SK.out _ (bt (al _ _) (drw _))) (fun hHeld => ?_)
          clear hK K
          try simp only [Act.put, List.getElem_toArray, List.getElem_cons_zero, List.getElem_cons_succ, List.setIfInBounds_toArray, List.set_cons_zero, List.set_cons_succ]
          refine wpAnyH_done (by kernel_rfl) ?_ _
          clear wn1 wn2 hHeld hnn
          have B4 : Below wr.heap.size wr (wr.alloc (.cells #[.int .i64 ((i : Int) + 1), .int .i64 d] 85)).drew := bt (al _ _) (drw _)
          have hx := World.alloc_heap_new wr (.cells #[.int .i64 ((i : Int) + 1), .int .i64 d] 85)
          have x0 : (wr.alloc (.cells #[.int .i64 ((i : Int) + 1), .int .i64 d] 85)).drew.cell? ⟨wr.heap.size, 0, none⟩ = some (.int .i64 ((i : Int) + 1)) := (cell_of_row _ _ 0 _ _ _ hx)
          have x1 : (wr.alloc (.cells #[.int .i64 ((i : Int) + 1), .int .i64 d] 85)).drew.cell? ⟨wr.heap.size, 1, none⟩ = some (.int .i64 d) := (cell_of_row _ _ 1 _ _ _ hx)
          have FN := hide (FIN.out _ _ B4 rfl)
          obtain ⟨k3, k1, kc, kf⟩ := KP.out _ B4
          have Q4 := hide (HQ3.out _ B4)
          clear hx B4
          generalize (wr.alloc (.cells #[.int .i64 ((i : Int) + 1), .int .i64 d] 85)).drew = W4 at *
          generalize wr.heap.size = bx at *
          have k1' : W4.drew.cell? ⟨q, 1, none⟩ = _ := k1
          have kc' : W4.drew.cell? ⟨cb, i, none⟩ = _ := kc
          have kf' : W4.drew.frozen? ⟨cb, i, none⟩ = false := kf
          have x0' : W4.drew.cell? ⟨bx, 0, none⟩ = _ := x0
          have x1' : W4.drew.cell? ⟨bx, 1, none⟩ = _ := x1
          have hin : (i : Int) < (np : Int) := by have := HN2.out; omega
          go_wp2_with fail
          obtain ⟨s1, s2⟩ := S1.out
          obtain ⟨wi1, wi2⟩ := wrapN i HI.out
          go_region
          all_goals
            clear s1 s2 wi1 wi2 k1 k1' kc kc' kf kf' x0 x0' x1 x1' hin
            have k5 : (W4.setCell ⟨cb, i, none⟩ (.int .i64 xc)).drew.cell? ⟨q, 3, none⟩ = some (.slice (some ⟨g, 0, none⟩) (na + 1) cA) := ((BS.out W4 (.int .i64 xc)).cell (p := ⟨q, 3, none⟩) (block_lt_of_cell k3) (fun e => D1.out e)).trans k3
            have f5 : (W4.setCell ⟨cb, i, none⟩ (.int .i64 xc)).drew.frozen? ⟨q, 3, none⟩ = false := ((BS.out W4 (.int .i64 xc)).frozen (p := ⟨q, 3, none⟩) (block_lt_of_cell k3) (fun e => D1.out e)).trans Q4.out
            generalize (W4.setCell ⟨cb, i, none⟩ (.int .i64 xc)).drew = W5 at *
            have k5' : W5.drew.cell? ⟨q, 3, none⟩ = _ := k5
            have f5' : W5.drew.frozen? ⟨q, 3, none⟩ = false := f5
            have h1 : (na : Int) ≤ (cA : Int) := by have := HNA.out.1; omega
            have h2 : na ≤ cA := by have := HNA.out.1; omega
            have h3 : (na : Int) ≤ (na : Int) + 1 := by omega
            go_wp2_with fail
            obtain ⟨wn1, wn2⟩ := WN.out
            go_region
            all_goals
              clear wn1 wn2 h1 h2 h3 k5 k5' f5 f5'
              go_wp2
              go_roundw
            all_goals first
              | exact FN.out.1
              | exact FN.out.2
    · have d2 : decide (m ≤ (P.mark : Int)) = false := decide_eq_false h2
      have d2' : decide ((P.mark : Int) < m) = true := decide_eq_true (by omega)
      rw [d1, d2]
      simp only [Bool.and_false]
      show Calls _ _ _ _ fun e w' => e = .returned (.bool false) ∧ ∃ F', Rl w' q P F' ∧ Gr w F w' F'
      generalize P.mark = mk at *
      clear hm h2 d1 d2
      go_enter Tryz.func41, Tryz.ntmps41
      go_wp2
      go_ret
      exact ⟨rfl, F, H.out, Gr.refl _ _⟩
  · have d1 : decide ((P.fl : Int) ≤ m) = false := decide_eq_false h1
    have d1' : decide (m < (P.fl : Int)) = true := decide_eq_true (by omega)
    rw [d1]
    simp only [Bool.false_and]
    show Calls _ _ _ _ fun e w' => e = .returned (.bool false) ∧ ∃ F', Rl w' q P F' ∧ Gr w F w' F'
    clear hm d1
    go_enter Tryz.func41, Tryz.ntmps41
    go_wp2
    go_ret
    exact ⟨rfl, F, H.out, Gr.refl _ _⟩
end Go.Proofs.YtceeeofkigkpkaaGreat

namespace Go.Proofs.YtceeeofkigkpkaaGreat
set_option linter.unusedVariables false
open Go.RowKit

/-! ### the document's Settle -/
def lasK (L : List Pg) (i : Nat) : List Bool := (L.take i).map (fun x => decide (0 < x.1)) ++ (L.drop i).map Prod.snd
theorem lasK_length (L : List Pg) (i : Nat) : (lasK L i).length = L.length := by
  unfold lasK; rw [List.length_append, List.length_map, List.length_map, List.length_take, List.length_drop]; omega
theorem lasK_set {L : List Pg} {i : Nat} (h : i < L.length) : (lasK L i).set i (decide (0 < (L.getD i Pg.zero).1)) = lasK L (i + 1) := by
  unfold lasK
  have e1 : L.drop i = L.getD i Pg.zero :: L.drop (i + 1) := by rw [List.drop_eq_getElem_cons h]; simp [h]
  have e2 : L.take (i + 1) = L.take i ++ [L.getD i Pg.zero] := by rw [List.take_succ_eq_append_getElem h]; simp [h]
  have e3 : ((L.take i).map (fun x : Pg => decide (0 < x.1))).length = i := by rw [List.length_map, List.length_take]; omega
  rw [e1, e2, List.map_append, List.map_cons, List.set_append_right _ _ (by rw [e3]; exact Nat.le_refl _), e3, Nat.sub_self, List.set_cons_zero, List.append_assoc]
  rfl
theorem lasK_get {L : List Pg} {i : Nat} (h : i < L.length) : (lasK L i).getD i false = (L.getD i Pg.zero).2 := by
  unfold lasK
  have e1 : L.drop i = L.getD i Pg.zero :: L.drop (i + 1) := by rw [List.drop_eq_getElem_cons h]; simp [h]
  have e3 : ((L.take i).map (fun x : Pg => decide (0 < x.1))).length = i := by rw [List.length_map, List.length_take]; omega
  rw [e1, List.map_cons, List.getD_eq_getElem?_getD, List.getElem?_append_right (by rw [e3]; exact Nat.le_refl _), e3, Nat.sub_self]
  rfl
theorem settle_snd (P : Po) : P.settle.pg.map Prod.snd = lasK P.pg P.pg.length := by
  unfold lasK
  rw [List.take_length, List.drop_length]
  show (P.pg.map (fun x => (x.1, decide (0 < x.1)))).map Prod.snd = _
  rw [List.map_map]
  simp
theorem settle_counts (P : Po) : P.settle.counts = P.counts := by
  unfold Po.counts
  show (P.pg.map (fun x => (x.1, decide (0 < x.1)))).map Prod.fst = _
  rw [List.map_map]
  rfl
theorem Rq.settled {w w' : World} {q : Nat} {P : Po} {cb lb : Nat} {aA : Option Addr} {cA : Nat} {A : List (Int × Int)} (h : Rq w q P cb lb aA cA A) (hb : But (fun k => k = lb) w w') (hl : w'.heap[lb]? = some (.cells (vbl (lasK P.pg P.pg.length)).toArray 4 (0, 0))) :
    Rq (w'.setCell ⟨q, 4, none⟩ (.int .i64 ((A.length : Nat) : Int))) q P.settle cb lb aA cA A ∧ But (fun k => k = lb ∨ k = q) w (w'.setCell ⟨q, 4, none⟩ (.int .i64 ((A.length : Nat) : Int))) := by
  have B2 : But (fun k => k = q) w' (w'.setCell ⟨q, 4, none⟩ (.int .i64 ((A.length : Nat) : Int))) := (But.refl (fun k => k = q) w').setCell (p := ⟨q, 4, none⟩) (fun _ => rfl) _
  have B3 : But (fun k => k = lb ∨ k = q) w (w'.setCell ⟨q, 4, none⟩ (.int .i64 ((A.length : Nat) : Int))) := (hb.mono (T := fun k => k = lb ∨ k = q) fun _ _ e => .inl e).trans B2 (fun _ _ e => .inr e)
  have b1 := hb.same h.box h.d2
  refine ⟨⟨?_, ?_, ?_, h.acr.but B3 (fun x hx => by rintro (e | e); exact (h.d4 x hx).2.2 e; exact (h.d4 x hx).1 e), ?_, ?_, h.d1, h.d2, h.d3, h.d4⟩, B3⟩
  · rw [heap_setCell_same _ _ _ _ _ _ b1]
    show some (Obj.cells _ _ _) = some (Obj.cells #[_, .slice _ (P.pg.map _).length (P.pg.map _).length, .slice _ (P.pg.map _).length (P.pg.map _).length, _, .int .i64 ((P.mark : Nat) : Int)] _ _)
    rw [List.length_map, h.len]
    rfl
  · rw [settle_counts]
    exact B3.same h.cnt (by rintro (e | e); exact h.d3 e; exact h.d1 e.symm)
  · rw [settle_snd]
    exact B2.same hl (fun e => h.d2 e.symm)
  · rw [h.len]
    show P.mark = P.mark + ([] : List (Nat × Pg)).length
    rfl
  · show Al _ ([] : List (Nat × Pg)).reverse (A.drop P.mark).reverse
    rw [List.drop_of_length_le (by rw [h.len]; exact Nat.le_refl _)]
    exact trivial
set_option maxHeartbeats 8000000 in
set_option maxRecDepth 8000 in
theorem qSettle_any (w : World) (q : Nat) (P : Po) (F : Nat → Prop) (h : Rl w q P F) :
    Calls Tryz.prog 42 #[.pointer (some ⟨q, 0, none⟩)] w fun e w' => e = .returned (.tuple #[]) ∧ ∃ F', Rl w' q P.settle F' ∧ Gr w F w' F' := by
  obtain ⟨⟨cb, lb, aA, cA, A, hq, f1, f2, f3, f4⟩, ok, lt⟩ := h
  have HQ := hide hq
  have hl2 := ok.l2
  have FIN : Hid (∀ W : World, But (fun k => k = lb) w W → W.heap[lb]? = some (.cells (vbl (lasK P.pg P.pg.length)).toArray 4 (0, 0)) → ∃ F', Rl (W.setCell ⟨q, 4, none⟩ (.int .i64 ((A.length : Nat) : Int))) q P.settle F' ∧ Gr w F (W.setCell ⟨q, 4, none⟩ (.int .i64 ((A.length : Nat) : Int))) F') := fun W hb hl => by
    obtain ⟨r, b⟩ := hq.settled hb hl
    exact ⟨F, ⟨⟨cb, lb, aA, cA, A, r, f1, f2, f3, f4⟩, ok.settle, fun k hk => Nat.lt_of_lt_of_le (lt k hk) b.size⟩, b.mono (fun k _ hk => by rcases hk with rfl | rfl; exact f3; exact f1), fun _ _ => Iff.rfl⟩
  have L0 : Hid (w.heap[lb]? = some (.cells (vbl (lasK P.pg 0)).toArray 4 (0, 0))) := by
    have e : lasK P.pg 0 = P.pg.map Prod.snd := by unfold lasK; simp
    show w.heap[lb]? = _
    rw [e]; exact hq.las
  have KP : Hid (∀ (W : World) (i : Nat), But (fun k => k = lb) w W → W.heap[lb]? = some (.cells (vbl (lasK P.pg i)).toArray 4 (0, 0)) → W.cell? ⟨q, 1, none⟩ = some (.slice (some ⟨cb, 0, none⟩) P.pg.length P.pg.length) ∧ W.cell? ⟨q, 2, none⟩ = some (.slice (some ⟨lb, 0, none⟩) P.pg.length P.pg.length) ∧ W.cell? ⟨q, 3, none⟩ = some (.slice aA A.length cA) ∧ (∃ v, W.cell? ⟨q, 4, none⟩ = some v) ∧ W.frozen? ⟨q, 4, none⟩ = false ∧ (i < P.pg.length → W.cell? ⟨cb, i, none⟩ = some (.int .i64 (P.pg.getD i Pg.zero).1) ∧ (∃ v, W.cell? ⟨lb, i, none⟩ = some v) ∧ W.frozen? ⟨lb, i, none⟩ = false)) := fun W i hb hl => by
    have bx := hb.same hq.box hq.d2
    have bc := hb.same hq.cnt hq.d3
    refine ⟨by rw [cell_of_row _ _ _ _ _ _ bx]; rfl, by rw [cell_of_row _ _ _ _ _ _ bx]; rfl, by rw [cell_of_row _ _ _ _ _ _ bx]; rfl, ⟨_, by rw [cell_of_row _ _ _ _ _ _ bx]; rfl⟩, by simp [World.frozen?, bx], fun hi => ⟨?_, ⟨.bool ((lasK P.pg i).getD i false), ?_⟩, by simp [World.frozen?, hl]⟩⟩
    · rw [cell_of_row _ _ _ _ _ _ bc, List.getElem?_toArray, vi_get _ i (by rw [Po.counts_len']; exact hi), counts_get P hi]
    · rw [cell_of_row _ _ _ _ _ _ hl, List.getElem?_toArray, vbl_get _ (by rw [lasK_length]; exact hi)]
  have ST : Hid (∀ (W : World) (i : Nat), i < P.pg.length → But (fun k => k = lb) w W → W.heap[lb]? = some (.cells (vbl (lasK P.pg i)).toArray 4 (0, 0)) → But (fun k => k = lb) w (W.setCell ⟨lb, i, none⟩ (.bool (decide (0 < (P.pg.getD i Pg.zero).1)))).drew ∧ (W.setCell ⟨lb, i, none⟩ (.bool (decide (0 < (P.pg.getD i Pg.zero).1)))).drew.heap[lb]? = some (.cells (vbl (lasK P.pg (i + 1))).toArray 4 (0, 0))) := fun W i hi hb hl => by
    refine ⟨(hb.setCell (p := ⟨lb, i, none⟩) (fun _ => rfl) _).drew, ?_⟩
    show (W.setCell ⟨lb, i, none⟩ (.bool (decide (0 < (P.pg.getD i Pg.zero).1)))).heap[lb]? = _
    rw [heap_setCell_same _ _ _ _ _ _ hl, ← lasK_set hi]
    simp [vbl, List.map_set]
  clear hq ok lt f1 f2 f3 f4 HQ
  obtain ⟨n, hn⟩ : ∃ n, P.pg.length = n := ⟨_, rfl⟩
  rw [hn] at KP ST FIN hl2
  clear hn
  obtain ⟨na, hna⟩ : ∃ na, A.length = na := ⟨_, rfl⟩
  rw [hna] at KP FIN
  clear hna
  go_enter Tryz.func42, Tryz.ntmps42
  go_wp2_with fail
  go_loopw [2] (fun i wr => ∃ j : Nat, j ≤ n ∧ i = .int .i64 (j : Int) ∧ But (fun k => k = lb) w wr ∧ wr.heap[lb]? = some (.cells (vbl (lasK P.pg j)).toArray 4 (0, 0))) (fun i _ => n - (intOf i).toNat)
  case atStart => exact ⟨0, Nat.zero_le _, rfl, But.refl _ _, L0.out⟩
  case round =>
    clear L0
    obtain ⟨j, hj, rfl, hb, hl⟩ := hrel
    obtain ⟨k1, k2, k3, ⟨v4, k4⟩, k5, k6⟩ := KP.out wr j hb hl
    by_cases hlt : j < n
    · obtain ⟨m1, ⟨v2, m2⟩, m3⟩ := k6 hlt
      have S1 := hide (ST.out wr j hlt hb hl)
      have hji : (j : Int) < (n : Int) := by omega
      obtain ⟨c, hc⟩ : ∃ c, (P.pg.getD j Pg.zero).1 = c := ⟨_, rfl⟩
      rw [hc] at m1 S1
      clear hc k6 k3 k4 k5 hb hl
      have k1' : wr.drew.cell? ⟨q, 1, none⟩ = _ := k1
      have k2' : wr.drew.cell? ⟨q, 2, none⟩ = _ := k2
      have m1' : wr.drew.cell? ⟨cb, j, none⟩ = _ := m1
      have m2' : wr.drew.cell? ⟨lb, j, none⟩ = _ := m2
      have m3' : wr.drew.frozen? ⟨lb, j, none⟩ = false := m3
      go_wp2_with fail
      go_region
      all_goals
        clear k1 k1' k2 k2' m1 m1' m2 m2' m3 m3'
        go_wp2
        go_roundw
      all_goals first
        | exact ⟨j + 1, by omega, by go_num, S1.out⟩
        | (simp [intOf]; omega)
    · obtain rfl : j = n := by omega
      have F1 := hide (FIN.out wr hb hl)
      clear k6 k2 hb hl KP ST FIN
      go_wp2
      go_end0
      exact ⟨rfl, F1.out⟩
end Go.Proofs.YtceeeofkigkpkaaGreat

namespace Go.Proofs.YtceeeofkigkpkaaGreat
set_option linter.unusedVariables false
open Go.RowKit

/-! ### asked, with marks -/
def agoV (M : List Int) (n : Int) : Int := if n < 0 ∨ (M.length : Int) ≤ n then -1 else M.getD (M.length - 1 - n.toNat) 0
def Po.askM (P : Po) (M : List Int) (o : Ov) : An × Po :=
  if 0 ≤ o.1 ∧ o.1 ≤ 11 then P.ask o else (⟨0, 0, P.canUndo (agoV M o.2.1), [], 0⟩, P.undo (agoV M o.2.1))
def AskM (w : World) (col : Nat → Nat) (b : Nat) (A : An) (P : Po) (e : Ending) (w' : World) : Prop :=
  ∃ a c col', e = .returned (.agg #[.int .i64 A.n, .int .i64 A.m, .bool A.is, .slice a A.l.length c, .int .i64 A.e]) ∧ Ig w' a c A.l ∧ (∀ x, a = some x → w.heap.size ≤ x.block ∧ x.block < w'.heap.size ∧ col' x.block = 0) ∧ Pl w' b P col' ∧ Fr w col w' col'
theorem askM_fin {w v w2 : World} {b : Nat} {P0 P : Po} {col c2 : Nat → Nat} (h0 : Pl w b P0 col) (hv : Below w.heap.size w v) (hs : v.heap.size = w.heap.size + 2) (h2 : Pl w2 b P c2) (f2 : Fr v col w2 c2) (A : An) (a : Option Addr) (c : Nat) (hI : Ig w2 a c A.l) (hn : ∀ x, a = some x → v.heap.size ≤ x.block ∧ c2 x.block = 0) (cs : Array Value) :
    AskM w col b A P (.returned (.agg #[.int .i64 A.n, .int .i64 A.m, .bool A.is, .slice a A.l.length c, .int .i64 A.e])) (w2.setRow (w.heap.size + 1) cs) := by
  have cg : c2 (w.heap.size + 1) = 0 := by
    rw [f2.c _ (by omega)]
    by_cases e : col (w.heap.size + 1) = 0
    · exact e
    · have := h0.lt _ e; omega
  have B := setRow_but w2 (w.heap.size + 1) cs
  refine ⟨a, c, c2, rfl, hI.but B fun x hx e => ?_, fun x hx => ⟨?_, ?_, (hn x hx).2⟩, h2.but B (fun k hk e => hk (by rw [e]; exact cg)), ((Fr.keep hv).trans f2).b.trans B (fun k hk e => by omega), ((Fr.keep hv).trans f2).c⟩
  · have := (hn x hx).1; omega
  · have := (hn x hx).1; omega
  · rw [setRow_size]; exact hI.lt hx
set_option maxHeartbeats 1000000 in
theorem ago_any (w : World) (am : Option Addr) (nm cm : Nat) (M : List Int) (hM : Ir w am M) (hnm : nm = M.length) (hl : M.length ≤ 8796093022208) (n : Int) : Calls Tryz.prog 31 #[.slice am nm cm, .int .i64 n] w fun e w' => e = .returned (.int .i64 (agoV M n)) ∧ w' = w := by
  unfold agoV
  by_cases h : n < 0
  · rw [if_pos (.inl h)]
    have d : decide (n < 0) = true := decide_eq_true h
    clear hM hnm
    go_enter Tryz.func31, Tryz.ntmps31
    go_wp2
    go_ret
    exact ⟨rfl, rfl⟩
  · have d : decide (n < 0) = false := decide_eq_false h
    obtain ⟨k, rfl⟩ : ∃ k : Nat, n = (k : Int) := ⟨n.toNat, by omega⟩
    by_cases h2 : (M.length : Int) ≤ (k : Int)
    · rw [if_pos (.inr h2)]
      rw [← hnm] at h2
      have d2 : decide ((nm : Int) ≤ (k : Int)) = true := decide_eq_true h2
      have d3 : nm ≤ k := by omega
      clear hM hnm
      go_enter Tryz.func31, Tryz.ntmps31
      go_wp2
      go_ret
      exact ⟨rfl, rfl⟩
    · rw [if_neg (by omega)]
      obtain ⟨i, hi⟩ : ∃ i, M.length = i + 1 + k := ⟨M.length - 1 - k, by omega⟩
      rw [Int.toNat_natCast, show M.length - 1 - k = i by omega]
      obtain ⟨bm, om, rfl, hc⟩ := hM.at (show i < M.length by omega)
      rw [hi] at hnm hl
      subst hnm
      generalize M.getD i 0 = x at *
      have d2 : decide (((i + 1 + k : Nat) : Int) ≤ (k : Int)) = false := decide_eq_false (by omega)
      have d3 : ¬ i + 1 + k ≤ k := by omega
      have d4 : decide ((i : Int) + 1 + (k : Int) ≤ (k : Int)) = false := decide_eq_false (by omega)
      have e1 : IntKind.i64.wrap ((i : Int) + 1 + (k : Int) - 1 - (k : Int)) = (i : Int) := by rw [wrapI (by omega) (by omega)]; omega
      clear h h2 hi hM
      have hil : (i : Int) < (i : Int) + 1 + (k : Int) := by omega
      go_enter Tryz.func31, Tryz.ntmps31
      go_wp2
      go_ret
      exact ⟨rfl, rfl⟩
set_option maxHeartbeats 4000000 in
set_option maxRecDepth 8000 in
theorem askM_0 (w : World) (b : Nat) (P : Po) (col : Nat → Nat) (h : Pl w b P col) (hm : P.mark + 1 ≤ 17592186044416) (n st : Int) (am : Option Addr) (nm cm : Nat) :
    Calls Tryz.prog 6 #[.pointer (some ⟨b, 0, none⟩), .agg #[.int .i64 0, .int .i64 n, .int .i64 st], .slice am nm cm] w fun e w' => AskM w col b (⟨P.alloc.1.1, 0, false, [], P.alloc.1.2⟩) P.alloc.2 e w' := by
  have V := hide (bt (al w (.cells #[.int .i64 0, .int .i64 n, .int .i64 st] 37)) (al _ (.cells #[.int .i64 0, .int .i64 0, .bool false, .slice none 0 0, .int .i64 0] 34)))
  have hx := (al (w.alloc (.cells #[.int .i64 0, .int .i64 n, .int .i64 st] 37)) (.cells #[.int .i64 0, .int .i64 0, .bool false, .slice none 0 0, .int .i64 0] 34)).block w.heap.size (by rw [size_alloc]; omega) |>.trans (World.alloc_heap_new w (.cells #[.int .i64 0, .int .i64 n, .int .i64 st] 37))
  have x0 := cell_of_row _ _ 0 _ _ _ hx
  have x1 := cell_of_row _ _ 1 _ _ _ hx
  have x2 := cell_of_row _ _ 2 _ _ _ hx
  have M1 := hide (World.alloc_heap_new (w.alloc (.cells #[.int .i64 0, .int .i64 n, .int .i64 st] 37)) (.cells #[.int .i64 0, .int .i64 0, .bool false, .slice none 0 0, .int .i64 0] 34))
  rw [size_alloc] at M1
  have SZ := hide (show ((w.alloc (.cells #[.int .i64 0, .int .i64 n, .int .i64 st] 37)).alloc (.cells #[.int .i64 0, .int .i64 0, .bool false, .slice none 0 0, .int .i64 0] 34)).heap.size = w.heap.size + 2 by rw [size_alloc, size_alloc])
  have HV := hide (h.keep V.out)
  have H0 := hide h
  have CG := hide (show col (w.heap.size + 1) = 0 by
    by_cases e : col (w.heap.size + 1) = 0
    · exact e
    · have := h.lt _ e; omega)
  simp only [List.getElem?_toArray, List.getElem?_cons_zero, List.getElem?_cons_succ] at x0 x1 x2
  clear h hx
  have CA := hide (Alloc_any _ b P col HV.out (by have := P.ac_mark; omega))
  have FIN := hide fun (w2 : World) (c2 : Nat → Nat) (h2 : Pl w2 b P.alloc.2 c2) f2 => askM_fin H0.out V.out SZ.out h2 f2 (⟨P.alloc.1.1, 0, false, [], P.alloc.1.2⟩)
  go_enter Tryz.func6, Tryz.ntmps6
  go_wp2_with fail
  generalize World.alloc (World.alloc _ _) _ = v at *
  refine CA.out.mono ?_
  rintro _ w2 ⟨rfl, c2, h2, f2⟩
  have M2 := hide ((f2.b.block _ (by rw [SZ.out]; omega) (fun e => e CG.out)).trans M1.out)
  have F2 := hide (FIN.out w2 c2 h2 f2 none 0 (Ig.nil _) (fun x hx => by cases hx))
  clear h2 f2
  clear CA FIN x0 x1 x2
  go_wp2_with (refine wpList_store_row rfl 34 _ _ rfl (w.heap.size + 1) _ rfl rfl 34 _ M2.out sizeAns rfl (by simp [Value.oneCell']) ?_)
  refine bodyPost_ret (v := .agg _) (results_cell_row Tryz.results6 _ _ (w.heap.size + 1) 34 _ (0, 0) _ rfl (setRow_heap _ _ _ _ _ _ M2.out) Tryz.underlying34 rfl sizeAns) rfl ?_
  exact F2.out _
set_option maxHeartbeats 4000000 in
set_option maxRecDepth 8000 in
theorem askM_1 (w : World) (b : Nat) (P : Po) (col : Nat → Nat) (h : Pl w b P col) (hm : P.mark + 1 ≤ 17592186044416) (n st : Int) (am : Option Addr) (nm cm : Nat) :
    Calls Tryz.prog 6 #[.pointer (some ⟨b, 0, none⟩), .agg #[.int .i64 1, .int .i64 n, .int .i64 st], .slice am nm cm] w fun e w' => AskM w col b (⟨0, 0, false, [], (P.inc n).1⟩) (P.inc n).2 e w' := by
  have V := hide (bt (al w (.cells #[.int .i64 1, .int .i64 n, .int .i64 st] 37)) (al _ (.cells #[.int .i64 0, .int .i64 0, .bool false, .slice none 0 0, .int .i64 0] 34)))
  have hx := (al (w.alloc (.cells #[.int .i64 1, .int .i64 n, .int .i64 st] 37)) (.cells #[.int .i64 0, .int .i64 0, .bool false, .slice none 0 0, .int .i64 0] 34)).block w.heap.size (by rw [size_alloc]; omega) |>.trans (World.alloc_heap_new w (.cells #[.int .i64 1, .int .i64 n, .int .i64 st] 37))
  have x0 := cell_of_row _ _ 0 _ _ _ hx
  have x1 := cell_of_row _ _ 1 _ _ _ hx
  have x2 := cell_of_row _ _ 2 _ _ _ hx
  have M1 := hide (World.alloc_heap_new (w.alloc (.cells #[.int .i64 1, .int .i64 n, .int .i64 st] 37)) (.cells #[.int .i64 0, .int .i64 0, .bool false, .slice none 0 0, .int .i64 0] 34))
  rw [size_alloc] at M1
  have SZ := hide (show ((w.alloc (.cells #[.int .i64 1, .int .i64 n, .int .i64 st] 37)).alloc (.cells #[.int .i64 0, .int .i64 0, .bool false, .slice none 0 0, .int .i64 0] 34)).heap.size = w.heap.size + 2 by rw [size_alloc, size_alloc])
  have HV := hide (h.keep V.out)
  have H0 := hide h
  have CG := hide (show col (w.heap.size + 1) = 0 by
    by_cases e : col (w.heap.size + 1) = 0
    · exact e
    · have := h.lt _ e; omega)
  simp only [List.getElem?_toArray, List.getElem?_cons_zero, List.getElem?_cons_succ] at x0 x1 x2
  clear h hx
  have CA := hide (Inc_any _ b P col HV.out n (by have := P.ac_mark; omega))
  have FIN := hide fun (w2 : World) (c2 : Nat → Nat) (h2 : Pl w2 b (P.inc n).2 c2) f2 => askM_fin H0.out V.out SZ.out h2 f2 (⟨0, 0, false, [], (P.inc n).1⟩)
  go_enter Tryz.func6, Tryz.ntmps6
  go_wp2_with fail
  generalize World.alloc (World.alloc _ _) _ = v at *
  refine CA.out.mono ?_
  rintro _ w2 ⟨rfl, c2, h2, f2⟩
  have M2 := hide ((f2.b.block _ (by rw [SZ.out]; omega) (fun e => e CG.out)).trans M1.out)
  have F2 := hide (FIN.out w2 c2 h2 f2 none 0 (Ig.nil _) (fun x hx => by cases hx))
  clear h2 f2
  clear CA FIN x0 x1 x2
  go_wp2_with (refine wpList_store_row rfl 34 _ _ rfl (w.heap.size + 1) _ rfl rfl 34 _ M2.out sizeAns rfl (by simp [Value.oneCell']) ?_)
  refine bodyPost_ret (v := .agg _) (results_cell_row Tryz.results6 _ _ (w.heap.size + 1) 34 _ (0, 0) _ rfl (setRow_heap _ _ _ _ _ _ M2.out) Tryz.underlying34 rfl sizeAns) rfl ?_
  exact F2.out _
set_option maxHeartbeats 4000000 in
set_option maxRecDepth 8000 in
theorem askM_2 (w : World) (b : Nat) (P : Po) (col : Nat → Nat) (h : Pl w b P col) (hm : P.mark + 1 ≤ 17592186044416) (n st : Int) (am : Option Addr) (nm cm : Nat) :
    Calls Tryz.prog 6 #[.pointer (some ⟨b, 0, none⟩), .agg #[.int .i64 2, .int .i64 n, .int .i64 st], .slice am nm cm] w fun e w' => AskM w col b (⟨(P.dec n).1.1, 0, false, [], (P.dec n).1.2⟩) (P.dec n).2 e w' := by
  have V := hide (bt (al w (.cells #[.int .i64 2, .int .i64 n, .int .i64 st] 37)) (al _ (.cells #[.int .i64 0, .int .i64 0, .bool false, .slice none 0 0, .int .i64 0] 34)))
  have hx := (al (w.alloc (.cells #[.int .i64 2, .int .i64 n, .int .i64 st] 37)) (.cells #[.int .i64 0, .int .i64 0, .bool false, .slice none 0 0, .int .i64 0] 34)).block w.heap.size (by rw [size_alloc]; omega) |>.trans (World.alloc_heap_new w (.cells #[.int .i64 2, .int .i64 n, .int .i64 st] 37))
  have x0 := cell_of_row _ _ 0 _ _ _ hx
  have x1 := cell_of_row _ _ 1 _ _ _ hx
  have x2 := cell_of_row _ _ 2 _ _ _ hx
  have M1 := hide (World.alloc_heap_new (w.alloc (.cells #[.int .i64 2, .int .i64 n, .int .i64 st] 37)) (.cells #[.int .i64 0, .int .i64 0, .bool false, .slice none 0 0, .int .i64 0] 34))
  rw [size_alloc] at M1
  have SZ := hide (show ((w.alloc (.cells #[.int .i64 2, .int .i64 n, .int .i64 st] 37)).alloc (.cells #[.int .i64 0, .int .i64 0, .bool false, .slice none 0 0, .int .i64 0] 34)).heap.size = w.heap.size + 2 by rw [size_alloc, size_alloc])
  have HV := hide (h.keep V.out)
  have H0 := hide h
  have CG := hide (show col (w.heap.size + 1) = 0 by
    by_cases e : col (w.heap.size + 1) = 0
    · exact e
    · have := h.lt _ e; omega)
  simp only [List.getElem?_toArray, List.getElem?_cons_zero, List.getElem?_cons_succ] at x0 x1 x2
  clear h hx
  have CA := hide (Dec_any _ b P col HV.out n (by have := P.ac_mark; omega))
  have FIN := hide fun (w2 : World) (c2 : Nat → Nat) (h2 : Pl w2 b (P.dec n).2 c2) f2 => askM_fin H0.out V.out SZ.out h2 f2 (⟨(P.dec n).1.1, 0, false, [], (P.dec n).1.2⟩)
  go_enter Tryz.func6, Tryz.ntmps6
  go_wp2_with fail
  generalize World.alloc (World.alloc _ _) _ = v at *
  refine CA.out.mono ?_
  rintro _ w2 ⟨rfl, c2, h2, f2⟩
  have M2 := hide ((f2.b.block _ (by rw [SZ.out]; omega) (fun e => e CG.out)).trans M1.out)
  have F2 := hide (FIN.out w2 c2 h2 f2 none 0 (Ig.nil _) (fun x hx => by cases hx))
  clear h2 f2
  clear CA FIN x0 x1 x2
  go_wp2_with (refine wpList_store_row rfl 34 _ _ rfl (w.heap.size + 1) _ rfl rfl 34 _ M2.out sizeAns rfl (by simp [Value.oneCell']) ?_)
  refine bodyPost_ret (v := .agg _) (results_cell_row Tryz.results6 _ _ (w.heap.size + 1) 34 _ (0, 0) _ rfl (setRow_heap _ _ _ _ _ _ M2.out) Tryz.underlying34 rfl sizeAns) rfl ?_
  exact F2.out _
set_option maxHeartbeats 4000000 in
set_option maxRecDepth 8000 in
theorem askM_3 (w : World) (b : Nat) (P : Po) (col : Nat → Nat) (h : Pl w b P col) (hm : P.mark + 1 ≤ 17592186044416) (n st : Int) (am : Option Addr) (nm cm : Nat) :
    Calls Tryz.prog 6 #[.pointer (some ⟨b, 0, none⟩), .agg #[.int .i64 3, .int .i64 n, .int .i64 st], .slice am nm cm] w fun e w' => AskM w col b (.num (P.count n)) P e w' := by
  have V := hide (bt (al w (.cells #[.int .i64 3, .int .i64 n, .int .i64 st] 37)) (al _ (.cells #[.int .i64 0, .int .i64 0, .bool false, .slice none 0 0, .int .i64 0] 34)))
  have hx := (al (w.alloc (.cells #[.int .i64 3, .int .i64 n, .int .i64 st] 37)) (.cells #[.int .i64 0, .int .i64 0, .bool false, .slice none 0 0, .int .i64 0] 34)).block w.heap.size (by rw [size_alloc]; omega) |>.trans (World.alloc_heap_new w (.cells #[.int .i64 3, .int .i64 n, .int .i64 st] 37))
  have x0 := cell_of_row _ _ 0 _ _ _ hx
  have x1 := cell_of_row _ _ 1 _ _ _ hx
  have x2 := cell_of_row _ _ 2 _ _ _ hx
  have M1 := hide (World.alloc_heap_new (w.alloc (.cells #[.int .i64 3, .int .i64 n, .int .i64 st] 37)) (.cells #[.int .i64 0, .int .i64 0, .bool false, .slice none 0 0, .int .i64 0] 34))
  rw [size_alloc] at M1
  have SZ := hide (show ((w.alloc (.cells #[.int .i64 3, .int .i64 n, .int .i64 st] 37)).alloc (.cells #[.int .i64 0, .int .i64 0, .bool false, .slice none 0 0, .int .i64 0] 34)).heap.size = w.heap.size + 2 by rw [size_alloc, size_alloc])
  have HV := hide (h.keep V.out)
  have H0 := hide h
  have CG := hide (show col (w.heap.size + 1) = 0 by
    by_cases e : col (w.heap.size + 1) = 0
    · exact e
    · have := h.lt _ e; omega)
  simp only [List.getElem?_toArray, List.getElem?_cons_zero, List.getElem?_cons_succ] at x0 x1 x2
  clear h hx
  have CA := hide (Count_pl _ b P col HV.out n)
  have FIN := hide fun (w2 : World) (c2 : Nat → Nat) (h2 : Pl w2 b P c2) f2 => askM_fin H0.out V.out SZ.out h2 f2 (.num (P.count n))
  go_enter Tryz.func6, Tryz.ntmps6
  go_wp2_with fail
  generalize World.alloc (World.alloc _ _) _ = v at *
  refine CA.out.mono ?_
  rintro _ wq ⟨rfl, hwq⟩
  obtain rfl := hwq.symm
  have M2 := M1
  have F2 := hide (FIN.out _ col HV.out (Fr.refl _ _) none 0 (Ig.nil _) (fun x hx => by cases hx))
  clear CA FIN x0 x1 x2
  go_wp2_with (refine wpList_store_row rfl 34 _ _ rfl (w.heap.size + 1) _ rfl rfl 34 _ M2.out sizeAns rfl (by simp [Value.oneCell']) ?_)
  refine bodyPost_ret (v := .agg _) (results_cell_row Tryz.results6 _ _ (w.heap.size + 1) 34 _ (0, 0) _ rfl (setRow_heap _ _ _ _ _ _ M2.out) Tryz.underlying34 rfl sizeAns) rfl ?_
  exact F2.out _
set_option maxHeartbeats 4000000 in
set_option maxRecDepth 8000 in
theorem askM_4 (w : World) (b : Nat) (P : Po) (col : Nat → Nat) (h : Pl w b P col) (hm : P.mark + 1 ≤ 17592186044416) (n st : Int) (am : Option Addr) (nm cm : Nat) :
    Calls Tryz.prog 6 #[.pointer (some ⟨b, 0, none⟩), .agg #[.int .i64 4, .int .i64 n, .int .i64 st], .slice am nm cm] w fun e w' => AskM w col b (.num (P.state n : Nat)) P e w' := by
  have V := hide (bt (al w (.cells #[.int .i64 4, .int .i64 n, .int .i64 st] 37)) (al _ (.cells #[.int .i64 0, .int .i64 0, .bool false, .slice none 0 0, .int .i64 0] 34)))
  have hx := (al (w.alloc (.cells #[.int .i64 4, .int .i64 n, .int .i64 st] 37)) (.cells #[.int .i64 0, .int .i64 0, .bool false, .slice none 0 0, .int .i64 0] 34)).block w.heap.size (by rw [size_alloc]; omega) |>.trans (World.alloc_heap_new w (.cells #[.int .i64 4, .int .i64 n, .int .i64 st] 37))
  have x0 := cell_of_row _ _ 0 _ _ _ hx
  have x1 := cell_of_row _ _ 1 _ _ _ hx
  have x2 := cell_of_row _ _ 2 _ _ _ hx
  have M1 := hide (World.alloc_heap_new (w.alloc (.cells #[.int .i64 4, .int .i64 n, .int .i64 st] 37)) (.cells #[.int .i64 0, .int .i64 0, .bool false, .slice none 0 0, .int .i64 0] 34))
  rw [size_alloc] at M1
  have SZ := hide (show ((w.alloc (.cells #[.int .i64 4, .int .i64 n, .int .i64 st] 37)).alloc (.cells #[.int .i64 0, .int .i64 0, .bool false, .slice none 0 0, .int .i64 0] 34)).heap.size = w.heap.size + 2 by rw [size_alloc, size_alloc])
  have HV := hide (h.keep V.out)
  have H0 := hide h
  have CG := hide (show col (w.heap.size + 1) = 0 by
    by_cases e : col (w.heap.size + 1) = 0
    · exact e
    · have := h.lt _ e; omega)
  simp only [List.getElem?_toArray, List.getElem?_cons_zero, List.getElem?_cons_succ] at x0 x1 x2
  clear h hx
  have CA := hide (State_pl _ b P col HV.out n)
  have FIN := hide fun (w2 : World) (c2 : Nat → Nat) (h2 : Pl w2 b P c2) f2 => askM_fin H0.out V.out SZ.out h2 f2 (.num (P.state n : Nat))
  go_enter Tryz.func6, Tryz.ntmps6
  go_wp2_with fail
  generalize World.alloc (World.alloc _ _) _ = v at *
  refine CA.out.mono ?_
  rintro _ w2 ⟨rfl, hb⟩
  have M2 := hide ((hb.block _ (by rw [SZ.out]; omega)).trans M1.out)
  have F2 := hide (FIN.out w2 col (HV.out.keep hb) (Fr.keep hb) none 0 (Ig.nil _) (fun x hx => by cases hx))
  clear hb
  clear CA FIN x0 x1 x2
  go_wp2_with (refine wpList_store_row rfl 34 _ _ rfl (w.heap.size + 1) _ rfl rfl 34 _ M2.out sizeAns rfl (by simp [Value.oneCell']) ?_)
  refine bodyPost_ret (v := .agg _) (results_cell_row Tryz.results6 _ _ (w.heap.size + 1) 34 _ (0, 0) _ rfl (setRow_heap _ _ _ _ _ _ M2.out) Tryz.underlying34 rfl sizeAns) rfl ?_
  exact F2.out _
set_option maxHeartbeats 4000000 in
set_option maxRecDepth 8000 in
theorem askM_5 (w : World) (b : Nat) (P : Po) (col : Nat → Nat) (h : Pl w b P col) (hm : P.mark + 1 ≤ 17592186044416) (n st : Int) (am : Option Addr) (nm cm : Nat) :
    Calls Tryz.prog 6 #[.pointer (some ⟨b, 0, none⟩), .agg #[.int .i64 5, .int .i64 n, .int .i64 st], .slice am nm cm] w fun e w' => AskM w col b (.num ((P.pages n).length : Nat)) P e w' := by
  have V := hide (bt (al w (.cells #[.int .i64 5, .int .i64 n, .int .i64 st] 37)) (al _ (.cells #[.int .i64 0, .int .i64 0, .bool false, .slice none 0 0, .int .i64 0] 34)))
  have hx := (al (w.alloc (.cells #[.int .i64 5, .int .i64 n, .int .i64 st] 37)) (.cells #[.int .i64 0, .int .i64 0, .bool false, .slice none 0 0, .int .i64 0] 34)).block w.heap.size (by rw [size_alloc]; omega) |>.trans (World.alloc_heap_new w (.cells #[.int .i64 5, .int .i64 n, .int .i64 st] 37))
  have x0 := cell_of_row _ _ 0 _ _ _ hx
  have x1 := cell_of_row _ _ 1 _ _ _ hx
  have x2 := cell_of_row _ _ 2 _ _ _ hx
  have M1 := hide (World.alloc_heap_new (w.alloc (.cells #[.int .i64 5, .int .i64 n, .int .i64 st] 37)) (.cells #[.int .i64 0, .int .i64 0, .bool false, .slice none 0 0, .int .i64 0] 34))
  rw [size_alloc] at M1
  have SZ := hide (show ((w.alloc (.cells #[.int .i64 5, .int .i64 n, .int .i64 st] 37)).alloc (.cells #[.int .i64 0, .int .i64 0, .bool false, .slice none 0 0, .int .i64 0] 34)).heap.size = w.heap.size + 2 by rw [size_alloc, size_alloc])
  have HV := hide (h.keep V.out)
  have H0 := hide h
  have CG := hide (show col (w.heap.size + 1) = 0 by
    by_cases e : col (w.heap.size + 1) = 0
    · exact e
    · have := h.lt _ e; omega)
  simp only [List.getElem?_toArray, List.getElem?_cons_zero, List.getElem?_cons_succ] at x0 x1 x2
  clear h hx
  have CA := hide (Tally_any _ b P col HV.out n)
  have FIN := hide fun (w2 : World) (c2 : Nat → Nat) (h2 : Pl w2 b P c2) f2 => askM_fin H0.out V.out SZ.out h2 f2 (.num ((P.pages n).length : Nat))
  go_enter Tryz.func6, Tryz.ntmps6
  go_wp2_with fail
  generalize World.alloc (World.alloc _ _) _ = v at *
  refine CA.out.mono ?_
  rintro _ w2 ⟨rfl, hb⟩
  have M2 := hide ((hb.block _ (by rw [SZ.out]; omega)).trans M1.out)
  have F2 := hide (FIN.out w2 col (HV.out.keep hb) (Fr.keep hb) none 0 (Ig.nil _) (fun x hx => by cases hx))
  clear hb
  clear CA FIN x0 x1 x2
  go_wp2_with (refine wpList_store_row rfl 34 _ _ rfl (w.heap.size + 1) _ rfl rfl 34 _ M2.out sizeAns rfl (by simp [Value.oneCell']) ?_)
  refine bodyPost_ret (v := .agg _) (results_cell_row Tryz.results6 _ _ (w.heap.size + 1) 34 _ (0, 0) _ rfl (setRow_heap _ _ _ _ _ _ M2.out) Tryz.underlying34 rfl sizeAns) rfl ?_
  exact F2.out _
set_option maxHeartbeats 4000000 in
set_option maxRecDepth 8000 in
theorem askM_6 (w : World) (b : Nat) (P : Po) (col : Nat → Nat) (h : Pl w b P col) (hm : P.mark + 1 ≤ 17592186044416) (n st : Int) (am : Option Addr) (nm cm : Nat) :
    Calls Tryz.prog 6 #[.pointer (some ⟨b, 0, none⟩), .agg #[.int .i64 6, .int .i64 n, .int .i64 st], .slice am nm cm] w fun e w' => AskM w col b (⟨0, 0, false, wl (P.pages n) st, 0⟩) P e w' := by
  have V := hide (bt (al w (.cells #[.int .i64 6, .int .i64 n, .int .i64 st] 37)) (al _ (.cells #[.int .i64 0, .int .i64 0, .bool false, .slice none 0 0, .int .i64 0] 34)))
  have hx := (al (w.alloc (.cells #[.int .i64 6, .int .i64 n, .int .i64 st] 37)) (.cells #[.int .i64 0, .int .i64 0, .bool false, .slice none 0 0, .int .i64 0] 34)).block w.heap.size (by rw [size_alloc]; omega) |>.trans (World.alloc_heap_new w (.cells #[.int .i64 6, .int .i64 n, .int .i64 st] 37))
  have x0 := cell_of_row _ _ 0 _ _ _ hx
  have x1 := cell_of_row _ _ 1 _ _ _ hx
  have x2 := cell_of_row _ _ 2 _ _ _ hx
  have M1 := hide (World.alloc_heap_new (w.alloc (.cells #[.int .i64 6, .int .i64 n, .int .i64 st] 37)) (.cells #[.int .i64 0, .int .i64 0, .bool false, .slice none 0 0, .int .i64 0] 34))
  rw [size_alloc] at M1
  have SZ := hide (show ((w.alloc (.cells #[.int .i64 6, .int .i64 n, .int .i64 st] 37)).alloc (.cells #[.int .i64 0, .int .i64 0, .bool false, .slice none 0 0, .int .i64 0] 34)).heap.size = w.heap.size + 2 by rw [size_alloc, size_alloc])
  have HV := hide (h.keep V.out)
  have H0 := hide h
  have CG := hide (show col (w.heap.size + 1) = 0 by
    by_cases e : col (w.heap.size + 1) = 0
    · exact e
    · have := h.lt _ e; omega)
  simp only [List.getElem?_toArray, List.getElem?_cons_zero, List.getElem?_cons_succ] at x0 x1 x2
  clear h hx
  have CA := hide (walked_any _ b P col HV.out n st)
  have FIN := hide fun (w2 : World) (c2 : Nat → Nat) (h2 : Pl w2 b P c2) f2 => askM_fin H0.out V.out SZ.out h2 f2 (⟨0, 0, false, wl (P.pages n) st, 0⟩)
  go_enter Tryz.func6, Tryz.ntmps6
  go_wp2_with fail
  generalize World.alloc (World.alloc _ _) _ = v at *
  refine CA.out.mono ?_
  rintro _ w2 ⟨a2, d2, rfl, hI⟩
  have M2 := hide ((hI.b.block _ (by rw [SZ.out]; omega)).trans M1.out)
  have F2 := hide (FIN.out w2 col (HV.out.keep hI.b) (Fr.keep hI.b) a2 d2 hI.r (own_col HV.out hI))
  clear hI
  clear CA FIN x0 x1 x2
  go_wp2_with (refine wpList_store_row rfl 34 _ _ rfl (w.heap.size + 1) _ rfl rfl 34 _ M2.out sizeAns rfl (by simp [Value.oneCell']) ?_)
  refine bodyPost_ret (v := .agg _) (results_cell_row Tryz.results6 _ _ (w.heap.size + 1) 34 _ (0, 0) _ rfl (setRow_heap _ _ _ _ _ _ M2.out) Tryz.underlying34 rfl sizeAns) rfl ?_
  exact F2.out _
set_option maxHeartbeats 4000000 in
set_option maxRecDepth 8000 in
theorem askM_7 (w : World) (b : Nat) (P : Po) (col : Nat → Nat) (h : Pl w b P col) (hm : P.mark + 1 ≤ 17592186044416) (n st : Int) (am : Option Addr) (nm cm : Nat) :
    Calls Tryz.prog 6 #[.pointer (some ⟨b, 0, none⟩), .agg #[.int .i64 7, .int .i64 n, .int .i64 st], .slice am nm cm] w fun e w' => AskM w col b (⟨0, 0, false, P.counts, 0⟩) P e w' := by
  have V := hide (bt (al w (.cells #[.int .i64 7, .int .i64 n, .int .i64 st] 37)) (al _ (.cells #[.int .i64 0, .int .i64 0, .bool false, .slice none 0 0, .int .i64 0] 34)))
  have hx := (al (w.alloc (.cells #[.int .i64 7, .int .i64 n, .int .i64 st] 37)) (.cells #[.int .i64 0, .int .i64 0, .bool false, .slice none 0 0, .int .i64 0] 34)).block w.heap.size (by rw [size_alloc]; omega) |>.trans (World.alloc_heap_new w (.cells #[.int .i64 7, .int .i64 n, .int .i64 st] 37))
  have x0 := cell_of_row _ _ 0 _ _ _ hx
  have x1 := cell_of_row _ _ 1 _ _ _ hx
  have x2 := cell_of_row _ _ 2 _ _ _ hx
  have M1 := hide (World.alloc_heap_new (w.alloc (.cells #[.int .i64 7, .int .i64 n, .int .i64 st] 37)) (.cells #[.int .i64 0, .int .i64 0, .bool false, .slice none 0 0, .int .i64 0] 34))
  rw [size_alloc] at M1
  have SZ := hide (show ((w.alloc (.cells #[.int .i64 7, .int .i64 n, .int .i64 st] 37)).alloc (.cells #[.int .i64 0, .int .i64 0, .bool false, .slice none 0 0, .int .i64 0] 34)).heap.size = w.heap.size + 2 by rw [size_alloc, size_alloc])
  have HV := hide (h.keep V.out)
  have H0 := hide h
  have CG := hide (show col (w.heap.size + 1) = 0 by
    by_cases e : col (w.heap.size + 1) = 0
    · exact e
    · have := h.lt _ e; omega)
  simp only [List.getElem?_toArray, List.getElem?_cons_zero, List.getElem?_cons_succ] at x0 x1 x2
  clear h hx
  have CA := hide (Counts_any _ b P col HV.out)
  have FIN := hide fun (w2 : World) (c2 : Nat → Nat) (h2 : Pl w2 b P c2) f2 => askM_fin H0.out V.out SZ.out h2 f2 (⟨0, 0, false, P.counts, 0⟩)
  go_enter Tryz.func6, Tryz.ntmps6
  go_wp2_with fail
  generalize World.alloc (World.alloc _ _) _ = v at *
  refine CA.out.mono ?_
  rintro _ w2 ⟨a2, d2, rfl, hI⟩
  have M2 := hide ((hI.b.block _ (by rw [SZ.out]; omega)).trans M1.out)
  have F2 := hide (FIN.out w2 col (HV.out.keep hI.b) (Fr.keep hI.b) a2 d2 hI.r (own_col HV.out hI))
  clear hI
  clear CA FIN x0 x1 x2
  go_wp2_with (refine wpList_store_row rfl 34 _ _ rfl (w.heap.size + 1) _ rfl rfl 34 _ M2.out sizeAns rfl (by simp [Value.oneCell']) ?_)
  refine bodyPost_ret (v := .agg _) (results_cell_row Tryz.results6 _ _ (w.heap.size + 1) 34 _ (0, 0) _ rfl (setRow_heap _ _ _ _ _ _ M2.out) Tryz.underlying34 rfl sizeAns) rfl ?_
  exact F2.out _
set_option maxHeartbeats 4000000 in
set_option maxRecDepth 8000 in
theorem askM_8 (w : World) (b : Nat) (P : Po) (col : Nat → Nat) (h : Pl w b P col) (hm : P.mark + 1 ≤ 17592186044416) (n st : Int) (am : Option Addr) (nm cm : Nat) :
    Calls Tryz.prog 6 #[.pointer (some ⟨b, 0, none⟩), .agg #[.int .i64 8, .int .i64 n, .int .i64 st], .slice am nm cm] w fun e w' => AskM w col b (.num (P.mark : Nat)) P e w' := by
  have V := hide (bt (al w (.cells #[.int .i64 8, .int .i64 n, .int .i64 st] 37)) (al _ (.cells #[.int .i64 0, .int .i64 0, .bool false, .slice none 0 0, .int .i64 0] 34)))
  have hx := (al (w.alloc (.cells #[.int .i64 8, .int .i64 n, .int .i64 st] 37)) (.cells #[.int .i64 0, .int .i64 0, .bool false, .slice none 0 0, .int .i64 0] 34)).block w.heap.size (by rw [size_alloc]; omega) |>.trans (World.alloc_heap_new w (.cells #[.int .i64 8, .int .i64 n, .int .i64 st] 37))
  have x0 := cell_of_row _ _ 0 _ _ _ hx
  have x1 := cell_of_row _ _ 1 _ _ _ hx
  have x2 := cell_of_row _ _ 2 _ _ _ hx
  have M1 := hide (World.alloc_heap_new (w.alloc (.cells #[.int .i64 8, .int .i64 n, .int .i64 st] 37)) (.cells #[.int .i64 0, .int .i64 0, .bool false, .slice none 0 0, .int .i64 0] 34))
  rw [size_alloc] at M1
  have SZ := hide (show ((w.alloc (.cells #[.int .i64 8, .int .i64 n, .int .i64 st] 37)).alloc (.cells #[.int .i64 0, .int .i64 0, .bool false, .slice none 0 0, .int .i64 0] 34)).heap.size = w.heap.size + 2 by rw [size_alloc, size_alloc])
  have HV := hide (h.keep V.out)
  have H0 := hide h
  have CG := hide (show col (w.heap.size + 1) = 0 by
    by_cases e : col (w.heap.size + 1) = 0
    · exact e
    · have := h.lt _ e; omega)
  simp only [List.getElem?_toArray, List.getElem?_cons_zero, List.getElem?_cons_succ] at x0 x1 x2
  clear h hx
  have CA := hide (Mark_pl _ b P col HV.out (by omega))
  have FIN := hide fun (w2 : World) (c2 : Nat → Nat) (h2 : Pl w2 b P c2) f2 => askM_fin H0.out V.out SZ.out h2 f2 (.num (P.mark : Nat))
  go_enter Tryz.func6, Tryz.ntmps6
  go_wp2_with fail
  generalize World.alloc (World.alloc _ _) _ = v at *
  refine CA.out.mono ?_
  rintro _ w2 ⟨rfl, hb⟩
  have M2 := hide ((hb.block _ (by rw [SZ.out]; omega)).trans M1.out)
  have F2 := hide (FIN.out w2 col (HV.out.keep hb) (Fr.keep hb) none 0 (Ig.nil _) (fun x hx => by cases hx))
  clear hb
  clear CA FIN x0 x1 x2
  go_wp2_with (refine wpList_store_row rfl 34 _ _ rfl (w.heap.size + 1) _ rfl rfl 34 _ M2.out sizeAns rfl (by simp [Value.oneCell']) ?_)
  refine bodyPost_ret (v := .agg _) (results_cell_row Tryz.results6 _ _ (w.heap.size + 1) 34 _ (0, 0) _ rfl (setRow_heap _ _ _ _ _ _ M2.out) Tryz.underlying34 rfl sizeAns) rfl ?_
  exact F2.out _
set_option maxHeartbeats 4000000 in
set_option maxRecDepth 8000 in
theorem askM_9 (w : World) (b : Nat) (P : Po) (col : Nat → Nat) (h : Pl w b P col) (hm : P.mark + 1 ≤ 17592186044416) (n st : Int) (am : Option Addr) (nm cm : Nat) :
    Calls Tryz.prog 6 #[.pointer (some ⟨b, 0, none⟩), .agg #[.int .i64 9, .int .i64 n, .int .i64 st], .slice am nm cm] w fun e w' => AskM w col b (⟨0, 0, P.canUndo n, [], 0⟩) (P.undo n) e w' := by
  have V := hide (bt (al w (.cells #[.int .i64 9, .int .i64 n, .int .i64 st] 37)) (al _ (.cells #[.int .i64 0, .int .i64 0, .bool false, .slice none 0 0, .int .i64 0] 34)))
  have hx := (al (w.alloc (.cells #[.int .i64 9, .int .i64 n, .int .i64 st] 37)) (.cells #[.int .i64 0, .int .i64 0, .bool false, .slice none 0 0, .int .i64 0] 34)).block w.heap.size (by rw [size_alloc]; omega) |>.trans (World.alloc_heap_new w (.cells #[.int .i64 9, .int .i64 n, .int .i64 st] 37))
  have x0 := cell_of_row _ _ 0 _ _ _ hx
  have x1 := cell_of_row _ _ 1 _ _ _ hx
  have x2 := cell_of_row _ _ 2 _ _ _ hx
  have M1 := hide (World.alloc_heap_new (w.alloc (.cells #[.int .i64 9, .int .i64 n, .int .i64 st] 37)) (.cells #[.int .i64 0, .int .i64 0, .bool false, .slice none 0 0, .int .i64 0] 34))
  rw [size_alloc] at M1
  have SZ := hide (show ((w.alloc (.cells #[.int .i64 9, .int .i64 n, .int .i64 st] 37)).alloc (.cells #[.int .i64 0, .int .i64 0, .bool false, .slice none 0 0, .int .i64 0] 34)).heap.size = w.heap.size + 2 by rw [size_alloc, size_alloc])
  have HV := hide (h.keep V.out)
  have H0 := hide h
  have CG := hide (show col (w.heap.size + 1) = 0 by
    by_cases e : col (w.heap.size + 1) = 0
    · exact e
    · have := h.lt _ e; omega)
  simp only [List.getElem?_toArray, List.getElem?_cons_zero, List.getElem?_cons_succ] at x0 x1 x2
  clear h hx
  have CA := hide (Undo_any _ b P col HV.out n (by omega))
  have FIN := hide fun (w2 : World) (c2 : Nat → Nat) (h2 : Pl w2 b (P.undo n) c2) f2 => askM_fin H0.out V.out SZ.out h2 f2 (⟨0, 0, P.canUndo n, [], 0⟩)
  go_enter Tryz.func6, Tryz.ntmps6
  go_wp2_with fail
  generalize World.alloc (World.alloc _ _) _ = v at *
  refine CA.out.mono ?_
  rintro _ w2 ⟨rfl, c2, h2, f2⟩
  have M2 := hide ((f2.b.block _ (by rw [SZ.out]; omega) (fun e => e CG.out)).trans M1.out)
  have F2 := hide (FIN.out w2 c2 h2 f2 none 0 (Ig.nil _) (fun x hx => by cases hx))
  clear h2 f2
  clear CA FIN x0 x1 x2
  go_wp2_with (refine wpList_store_row rfl 34 _ _ rfl (w.heap.size + 1) _ rfl rfl 34 _ M2.out sizeAns rfl (by simp [Value.oneCell']) ?_)
  refine bodyPost_ret (v := .agg _) (results_cell_row Tryz.results6 _ _ (w.heap.size + 1) 34 _ (0, 0) _ rfl (setRow_heap _ _ _ _ _ _ M2.out) Tryz.underlying34 rfl sizeAns) rfl ?_
  exact F2.out _
set_option maxHeartbeats 4000000 in
set_option maxRecDepth 8000 in
theorem askM_10 (w : World) (b : Nat) (P : Po) (col : Nat → Nat) (h : Pl w b P col) (hm : P.mark + 1 ≤ 17592186044416) (n st : Int) (am : Option Addr) (nm cm : Nat) :
    Calls Tryz.prog 6 #[.pointer (some ⟨b, 0, none⟩), .agg #[.int .i64 10, .int .i64 n, .int .i64 st], .slice am nm cm] w fun e w' => AskM w col b (.num 0) P.settle e w' := by
  have V := hide (bt (al w (.cells #[.int .i64 10, .int .i64 n, .int .i64 st] 37)) (al _ (.cells #[.int .i64 0, .int .i64 0, .bool false, .slice none 0 0, .int .i64 0] 34)))
  have hx := (al (w.alloc (.cells #[.int .i64 10, .int .i64 n, .int .i64 st] 37)) (.cells #[.int .i64 0, .int .i64 0, .bool false, .slice none 0 0, .int .i64 0] 34)).block w.heap.size (by rw [size_alloc]; omega) |>.trans (World.alloc_heap_new w (.cells #[.int .i64 10, .int .i64 n, .int .i64 st] 37))
  have x0 := cell_of_row _ _ 0 _ _ _ hx
  have x1 := cell_of_row _ _ 1 _ _ _ hx
  have x2 := cell_of_row _ _ 2 _ _ _ hx
  have M1 := hide (World.alloc_heap_new (w.alloc (.cells #[.int .i64 10, .int .i64 n, .int .i64 st] 37)) (.cells #[.int .i64 0, .int .i64 0, .bool false, .slice none 0 0, .int .i64 0] 34))
  rw [size_alloc] at M1
  have SZ := hide (show ((w.alloc (.cells #[.int .i64 10, .int .i64 n, .int .i64 st] 37)).alloc (.cells #[.int .i64 0, .int .i64 0, .bool false, .slice none 0 0, .int .i64 0] 34)).heap.size = w.heap.size + 2 by rw [size_alloc, size_alloc])
  have HV := hide (h.keep V.out)
  have H0 := hide h
  have CG := hide (show col (w.heap.size + 1) = 0 by
    by_cases e : col (w.heap.size + 1) = 0
    · exact e
    · have := h.lt _ e; omega)
  simp only [List.getElem?_toArray, List.getElem?_cons_zero, List.getElem?_cons_succ] at x0 x1 x2
  clear h hx
  have CA := hide (Settle_any _ b P col HV.out (by omega))
  have FIN := hide fun (w2 : World) (c2 : Nat → Nat) (h2 : Pl w2 b P.settle c2) f2 => askM_fin H0.out V.out SZ.out h2 f2 (.num 0)
  go_enter Tryz.func6, Tryz.ntmps6
  go_wp2_with fail
  generalize World.alloc (World.alloc _ _) _ = v at *
  refine CA.out.mono ?_
  rintro _ w2 ⟨rfl, c2, h2, f2⟩
  have M2 := hide ((f2.b.block _ (by rw [SZ.out]; omega) (fun e => e CG.out)).trans M1.out)
  have F2 := hide (FIN.out w2 c2 h2 f2 none 0 (Ig.nil _) (fun x hx => by cases hx))
  clear h2 f2
  clear CA FIN x0 x1 x2
  go_wp2_with (refine wpList_store_row rfl 34 _ _ rfl (w.heap.size + 1) _ rfl rfl 34 _ M2.out sizeAns rfl (by simp [Value.oneCell']) ?_)
  refine bodyPost_ret (v := .agg _) (results_cell_row Tryz.results6 _ _ (w.heap.size + 1) 34 _ (0, 0) _ rfl (setRow_heap _ _ _ _ _ _ M2.out) Tryz.underlying34 rfl sizeAns) rfl ?_
  exact F2.out _
set_option maxHeartbeats 4000000 in
set_option maxRecDepth 8000 in
theorem askM_11 (w : World) (b : Nat) (P : Po) (col : Nat → Nat) (h : Pl w b P col) (hm : P.mark + 1 ≤ 17592186044416) (n st : Int) (am : Option Addr) (nm cm : Nat) :
    Calls Tryz.prog 6 #[.pointer (some ⟨b, 0, none⟩), .agg #[.int .i64 11, .int .i64 n, .int .i64 st], .slice am nm cm] w fun e w' => AskM w col b (⟨(P.pg.length : Nat), P.rf, false, [], 0⟩) P e w' := by
  have V := hide (bt (al w (.cells #[.int .i64 11, .int .i64 n, .int .i64 st] 37)) (al _ (.cells #[.int .i64 0, .int .i64 0, .bool false, .slice none 0 0, .int .i64 0] 34)))
  have hx := (al (w.alloc (.cells #[.int .i64 11, .int .i64 n, .int .i64 st] 37)) (.cells #[.int .i64 0, .int .i64 0, .bool false, .slice none 0 0, .int .i64 0] 34)).block w.heap.size (by rw [size_alloc]; omega) |>.trans (World.alloc_heap_new w (.cells #[.int .i64 11, .int .i64 n, .int .i64 st] 37))
  have x0 := cell_of_row _ _ 0 _ _ _ hx
  have x1 := cell_of_row _ _ 1 _ _ _ hx
  have x2 := cell_of_row _ _ 2 _ _ _ hx
  have M1 := hide (World.alloc_heap_new (w.alloc (.cells #[.int .i64 11, .int .i64 n, .int .i64 st] 37)) (.cells #[.int .i64 0, .int .i64 0, .bool false, .slice none 0 0, .int .i64 0] 34))
  rw [size_alloc] at M1
  have SZ := hide (show ((w.alloc (.cells #[.int .i64 11, .int .i64 n, .int .i64 st] 37)).alloc (.cells #[.int .i64 0, .int .i64 0, .bool false, .slice none 0 0, .int .i64 0] 34)).heap.size = w.heap.size + 2 by rw [size_alloc, size_alloc])
  have HV := hide (h.keep V.out)
  have H0 := hide h
  have CG := hide (show col (w.heap.size + 1) = 0 by
    by_cases e : col (w.heap.size + 1) = 0
    · exact e
    · have := h.lt _ e; omega)
  simp only [List.getElem?_toArray, List.getElem?_cons_zero, List.getElem?_cons_succ] at x0 x1 x2
  clear h hx
  have CA := hide (Len_pl _ b P col HV.out)
  have CB := hide (Refs_pl _ b P col HV.out)
  have FIN := hide fun (w2 : World) (c2 : Nat → Nat) (h2 : Pl w2 b P c2) f2 => askM_fin H0.out V.out SZ.out h2 f2 (⟨(P.pg.length : Nat), P.rf, false, [], 0⟩)
  go_enter Tryz.func6, Tryz.ntmps6
  go_wp2_with fail
  generalize World.alloc (World.alloc _ _) _ = v at *
  refine CA.out.mono ?_
  rintro _ wq ⟨rfl, hwq⟩
  obtain rfl := hwq.symm
  go_wp2_with fail
  refine CB.out.mono ?_
  rintro _ wq ⟨rfl, hwq⟩
  obtain rfl := hwq.symm
  have M2 := M1
  have F2 := hide (FIN.out _ col HV.out (Fr.refl _ _) none 0 (Ig.nil _) (fun x hx => by cases hx))
  clear CA FIN x0 x1 x2
  go_wp2_with (refine wpList_store_row rfl 34 _ _ rfl (w.heap.size + 1) _ rfl rfl 34 _ M2.out sizeAns rfl (by simp [Value.oneCell']) ?_)
  refine bodyPost_ret (v := .agg _) (results_cell_row Tryz.results6 _ _ (w.heap.size + 1) 34 _ (0, 0) _ rfl (setRow_heap _ _ _ _ _ _ M2.out) Tryz.underlying34 rfl sizeAns) rfl ?_
  exact F2.out _
set_option maxHeartbeats 4000000 in
set_option maxRecDepth 8000 in
theorem askM_12 (w : World) (b : Nat) (P : Po) (col : Nat → Nat) (h : Pl w b P col) (hm : P.mark + 1 ≤ 17592186044416) (n st : Int) (am : Option Addr) (nm cm : Nat) (M : List Int) (hM : Ir w am M) (hnm : nm = M.length) (hml : M.length ≤ 8796093022208) (k : Int) (hk : ∀ i : Int, 0 ≤ i → i ≤ 11 → k ≠ i) :
    Calls Tryz.prog 6 #[.pointer (some ⟨b, 0, none⟩), .agg #[.int .i64 k, .int .i64 n, .int .i64 st], .slice am nm cm] w fun e w' => AskM w col b (⟨0, 0, P.canUndo (agoV M n), [], 0⟩) (P.undo (agoV M n)) e w' := by
  have V := hide (bt (al w (.cells #[.int .i64 k, .int .i64 n, .int .i64 st] 37)) (al _ (.cells #[.int .i64 0, .int .i64 0, .bool false, .slice none 0 0, .int .i64 0] 34)))
  have hx := (al (w.alloc (.cells #[.int .i64 k, .int .i64 n, .int .i64 st] 37)) (.cells #[.int .i64 0, .int .i64 0, .bool false, .slice none 0 0, .int .i64 0] 34)).block w.heap.size (by rw [size_alloc]; omega) |>.trans (World.alloc_heap_new w (.cells #[.int .i64 k, .int .i64 n, .int .i64 st] 37))
  have x0 := cell_of_row _ _ 0 _ _ _ hx
  have x1 := cell_of_row _ _ 1 _ _ _ hx
  have x2 := cell_of_row _ _ 2 _ _ _ hx
  have M1 := hide (World.alloc_heap_new (w.alloc (.cells #[.int .i64 k, .int .i64 n, .int .i64 st] 37)) (.cells #[.int .i64 0, .int .i64 0, .bool false, .slice none 0 0, .int .i64 0] 34))
  rw [size_alloc] at M1
  have SZ := hide (show ((w.alloc (.cells #[.int .i64 k, .int .i64 n, .int .i64 st] 37)).alloc (.cells #[.int .i64 0, .int .i64 0, .bool false, .slice none 0 0, .int .i64 0] 34)).heap.size = w.heap.size + 2 by rw [size_alloc, size_alloc])
  have HV := hide (h.keep V.out)
  have H0 := hide h
  have CG := hide (show col (w.heap.size + 1) = 0 by
    by_cases e : col (w.heap.size + 1) = 0
    · exact e
    · have := h.lt _ e; omega)
  simp only [List.getElem?_toArray, List.getElem?_cons_zero, List.getElem?_cons_succ] at x0 x1 x2
  clear h hx
  have AG := hide fun (W : World) (hb : Below w.heap.size w W) => ago_any W am nm cm M (hM.keep hb) hnm hml n
  clear hM hnm hml
  have q0 : (k == 0) = false := by simp [hk 0 (by decide) (by decide)]
  have q1 : (k == 1) = false := by simp [hk 1 (by decide) (by decide)]
  have q2 : (k == 2) = false := by simp [hk 2 (by decide) (by decide)]
  have q3 : (k == 3) = false := by simp [hk 3 (by decide) (by decide)]
  have q4 : (k == 4) = false := by simp [hk 4 (by decide) (by decide)]
  have q5 : (k == 5) = false := by simp [hk 5 (by decide) (by decide)]
  have q6 : (k == 6) = false := by simp [hk 6 (by decide) (by decide)]
  have q7 : (k == 7) = false := by simp [hk 7 (by decide) (by decide)]
  have q8 : (k == 8) = false := by simp [hk 8 (by decide) (by decide)]
  have q9 : (k == 9) = false := by simp [hk 9 (by decide) (by decide)]
  have q10 : (k == 10) = false := by simp [hk 10 (by decide) (by decide)]
  have q11 : (k == 11) = false := by simp [hk 11 (by decide) (by decide)]
  have CA := hide (Undo_any _ b P col HV.out (agoV M n) (by omega))
  have FIN := hide fun (w2 : World) (c2 : Nat → Nat) (h2 : Pl w2 b (P.undo (agoV M n)) c2) f2 => askM_fin H0.out V.out SZ.out h2 f2 (⟨0, 0, P.canUndo (agoV M n), [], 0⟩)
  go_enter Tryz.func6, Tryz.ntmps6
  go_wp2_with fail
  refine (AG.out _ V.out).mono ?_
  rintro _ wq ⟨rfl, hwq⟩
  obtain rfl := hwq.symm
  go_wp2_with fail
  generalize World.alloc (World.alloc _ _) _ = v at *
  refine CA.out.mono ?_
  rintro _ w2 ⟨rfl, c2, h2, f2⟩
  have M2 := hide ((f2.b.block _ (by rw [SZ.out]; omega) (fun e => e CG.out)).trans M1.out)
  have F2 := hide (FIN.out w2 c2 h2 f2 none 0 (Ig.nil _) (fun x hx => by cases hx))
  clear h2 f2
  clear CA FIN x0 x1 x2
  go_wp2_with (refine wpList_store_row rfl 34 _ _ rfl (w.heap.size + 1) _ rfl rfl 34 _ M2.out sizeAns rfl (by simp [Value.oneCell']) ?_)
  refine bodyPost_ret (v := .agg _) (results_cell_row Tryz.results6 _ _ (w.heap.size + 1) 34 _ (0, 0) _ rfl (setRow_heap _ _ _ _ _ _ M2.out) Tryz.underlying34 rfl sizeAns) rfl ?_
  exact F2.out _
theorem askM_any (w : World) (b : Nat) (P : Po) (col : Nat → Nat) (h : Pl w b P col) (hm : P.mark + 1 ≤ 17592186044416) (am : Option Addr) (nm cm : Nat) (M : List Int) (hM : Ir w am M) (hnm : nm = M.length) (hml : M.length ≤ 8796093022208) (o : Ov) :
    Calls Tryz.prog 6 #[.pointer (some ⟨b, 0, none⟩), .agg #[.int .i64 o.1, .int .i64 o.2.1, .int .i64 o.2.2], .slice am nm cm] w fun e w' => AskM w col b (P.askM M o).1 (P.askM M o).2 e w' := by
  obtain ⟨k, n, st⟩ := o
  unfold Po.askM
  simp only
  by_cases hk : 0 ≤ k ∧ k ≤ 11
  · rw [if_pos hk]
    unfold Po.ask
    simp only
    by_cases h0 : k = 0
    · rw [if_pos h0]; subst h0; exact askM_0 w b P col h hm n st am nm cm
    rw [if_neg h0]
    by_cases h1 : k = 1
    · rw [if_pos h1]; subst h1; exact askM_1 w b P col h hm n st am nm cm
    rw [if_neg h1]
    by_cases h2 : k = 2
    · rw [if_pos h2]; subst h2; exact askM_2 w b P col h hm n st am nm cm
    rw [if_neg h2]
    by_cases h3 : k = 3
    · rw [if_pos h3]; subst h3; exact askM_3 w b P col h hm n st am nm cm
    rw [if_neg h3]
    by_cases h4 : k = 4
    · rw [if_pos h4]; subst h4; exact askM_4 w b P col h hm n st am nm cm
    rw [if_neg h4]
    by_cases h5 : k = 5
    · rw [if_pos h5]; subst h5; exact askM_5 w b P col h hm n st am nm cm
    rw [if_neg h5]
    by_cases h6 : k = 6
    · rw [if_pos h6]; subst h6; exact askM_6 w b P col h hm n st am nm cm
    rw [if_neg h6]
    by_cases h7 : k = 7
    · rw [if_pos h7]; subst h7; exact askM_7 w b P col h hm n st am nm cm
    rw [if_neg h7]
    by_cases h8 : k = 8
    · rw [if_pos h8]; subst h8; exact askM_8 w b P col h hm n st am nm cm
    rw [if_neg h8]
    by_cases h9 : k = 9
    · rw [if_pos h9]; subst h9; exact askM_9 w b P col h hm n st am nm cm
    rw [if_neg h9]
    by_cases h10 : k = 10
    · rw [if_pos h10]; subst h10; exact askM_10 w b P col h hm n st am nm cm
    rw [if_neg h10]
    by_cases h11 : k = 11
    · rw [if_pos h11]; subst h11; exact askM_11 w b P col h hm n st am nm cm
    rw [if_neg h11]
    omega
  · rw [if_neg hk]
    exact askM_12 w b P col h hm n st am nm cm M hM hnm hml k (fun i i0 i1 e => by omega)
end Go.Proofs.YtceeeofkigkpkaaGreat

namespace Go.Proofs.YtceeeofkigkpkaaGreat
set_option linter.unusedVariables false
open Go.RowKit

/-! ### told -/
def Told (w : World) (F : Nat → Prop) (q : Nat) (A : An) (P : Po) (e : Ending) (w' : World) : Prop :=
  ∃ a c F', e = .returned (.agg #[.int .i64 A.n, .int .i64 A.m, .bool A.is, .slice a A.l.length c, .int .i64 A.e]) ∧ Ir w' a A.l ∧ (∀ x, a = some x → w.heap.size ≤ x.block ∧ x.block < w'.heap.size ∧ ¬ F' x.block) ∧ Rl w' q P F' ∧ Gr w F w' F'
theorem told_fin {w v w2 : World} {q : Nat} {P0 P : Po} {F F2 : Nat → Prop} (h0 : Rl w q P0 F) (hv : Below w.heap.size w v) (hs : v.heap.size = w.heap.size + 2) (h2 : Rl w2 q P F2) (f2 : Gr v F w2 F2) (A : An) (a : Option Addr) (c : Nat) (hI : Ir w2 a A.l) (hn : ∀ x, a = some x → v.heap.size ≤ x.block ∧ x.block < w2.heap.size ∧ ¬ F2 x.block) (cs : Array Value) :
    Told w F q A P (.returned (.agg #[.int .i64 A.n, .int .i64 A.m, .bool A.is, .slice a A.l.length c, .int .i64 A.e])) (w2.setRow (w.heap.size + 1) cs) := by
  have cg : ¬ F2 (w.heap.size + 1) := fun e => by
    have := h0.lt _ ((f2.f _ (by omega)).1 e)
    omega
  have B := setRow_but w2 (w.heap.size + 1) cs
  refine ⟨a, c, F2, rfl, hI.but B fun x hx e => ?_, fun x hx => ⟨?_, ?_, (hn x hx).2.2⟩, h2.but B (fun k hk e => cg (by rw [← e]; exact hk)), ((Gr.keep hv).trans f2).b.trans B (fun k hk e => by omega), ((Gr.keep hv).trans f2).f⟩
  · have := (hn x hx).1; omega
  · have := (hn x hx).1; omega
  · rw [setRow_size]; exact (hn x hx).2.1
theorem own_far {v w2 : World} {q : Nat} {P : Po} {F : Nat → Prop} {a : Option Addr} {c : Nat} {l : List Int} (h : Rl v q P F) (hI : IOwn v w2 a c l) : ∀ x, a = some x → v.heap.size ≤ x.block ∧ x.block < w2.heap.size ∧ ¬ F x.block := fun x hx => by
  have h2 : v.heap.size ≤ x.block := by
    rcases hI.n x hx with ⟨y, hy, _⟩ | h2
    · cases hy
    · exact h2
  exact ⟨h2, hI.r.lt hx, fun e => by have := h.lt _ e; omega⟩
theorem Ir.take {w : World} {a : Option Addr} {l : List Int} (h : Ir w a l) (k : Nat) : Ir w a (l.take k) := by
  rcases h with rfl | ⟨b, off, rfl, hc⟩
  · exact .inl (by simp)
  · refine .inr ⟨b, off, rfl, fun i hi => ?_⟩
    rw [List.length_take] at hi
    rw [hc i (by omega)]
    simp [List.getD_eq_getElem?_getD, show i < k by omega]
theorem Ig.capI {w : World} {a : Option Addr} {cap : Nat} {l : List Int} (h : Ig w a cap l) : l.length ≤ cap := by
  rcases h.cases with ⟨rfl, rfl, rfl⟩ | ⟨g, cur, rfl, hg, h1, _⟩
  · exact Nat.le_refl _
  · exact h1
set_option maxHeartbeats 4000000 in
set_option maxRecDepth 8000 in
theorem told_0 (w : World) (q : Nat) (P : Po) (F : Nat → Prop) (h : Rl w q P F) (hm : P.mark + 1 ≤ 8796093022208) (n st : Int) (am : Option Addr) (nm cm : Nat) :
    Calls Tryz.prog 7 #[.pointer (some ⟨q, 0, none⟩), .agg #[.int .i64 0, .int .i64 n, .int .i64 st], .slice am nm cm] w fun e w' => Told w F q (⟨P.alloc.1.1, 0, false, [], P.alloc.1.2⟩) P.alloc.2 e w' := by
  have V := hide (bt (al w (.cells #[.int .i64 0, .int .i64 n, .int .i64 st] 37)) (al _ (.cells #[.int .i64 0, .int .i64 0, .bool false, .slice none 0 0, .int .i64 0] 34)))
  have hx := (al (w.alloc (.cells #[.int .i64 0, .int .i64 n, .int .i64 st] 37)) (.cells #[.int .i64 0, .int .i64 0, .bool false, .slice none 0 0, .int .i64 0] 34)).block w.heap.size (by rw [size_alloc]; omega) |>.trans (World.alloc_heap_new w (.cells #[.int .i64 0, .int .i64 n, .int .i64 st] 37))
  have x0 := cell_of_row _ _ 0 _ _ _ hx
  have x1 := cell_of_row _ _ 1 _ _ _ hx
  have x2 := cell_of_row _ _ 2 _ _ _ hx
  have M1 := hide (World.alloc_heap_new (w.alloc (.cells #[.int .i64 0, .int .i64 n, .int .i64 st] 37)) (.cells #[.int .i64 0, .int .i64 0, .bool false, .slice none 0 0, .int .i64 0] 34))
  rw [size_alloc] at M1
  have SZ := hide (show ((w.alloc (.cells #[.int .i64 0, .int .i64 n, .int .i64 st] 37)).alloc (.cells #[.int .i64 0, .int .i64 0, .bool false, .slice none 0 0, .int .i64 0] 34)).heap.size = w.heap.size + 2 by rw [size_alloc, size_alloc])
  have HV := hide (h.keep V.out)
  have H0 := hide h
  have CG := hide (show ¬ F (w.heap.size + 1) from fun e => by have := h.lt _ e; omega)
  simp only [List.getElem?_toArray, List.getElem?_cons_zero, List.getElem?_cons_succ] at x0 x1 x2
  clear h hx
  have CA := hide (qAlloc_any _ q P F HV.out hm)
  have FIN := hide fun (w2 : World) (F2 : Nat → Prop) (h2 : Rl w2 q P.alloc.2 F2) f2 => told_fin H0.out V.out SZ.out h2 f2 (⟨P.alloc.1.1, 0, false, [], P.alloc.1.2⟩)
  go_enter Tryz.func7, Tryz.ntmps7
  go_wp2_with fail
  generalize World.alloc (World.alloc _ _) _ = v at *
  refine CA.out.mono ?_
  rintro _ w2 ⟨rfl, F2, h2, f2⟩
  have M2 := hide ((f2.b.block _ (by rw [SZ.out]; omega) CG.out).trans M1.out)
  have F2 := hide (FIN.out w2 F2 h2 f2 none 0 (.inl rfl) (fun x hx => by cases hx))
  clear h2 f2
  clear CA FIN x0 x1 x2
  go_wp2_with (refine wpList_store_row rfl 34 _ _ rfl (w.heap.size + 1) _ rfl rfl 34 _ M2.out sizeAns rfl (by simp [Value.oneCell']) ?_)
  refine bodyPost_ret (v := .agg _) (results_cell_row Tryz.results7 _ _ (w.heap.size + 1) 34 _ (0, 0) _ rfl (setRow_heap _ _ _ _ _ _ M2.out) Tryz.underlying34 rfl sizeAns) rfl ?_
  exact F2.out _
set_option maxHeartbeats 4000000 in
set_option maxRecDepth 8000 in
theorem told_1 (w : World) (q : Nat) (P : Po) (F : Nat → Prop) (h : Rl w q P F) (hm : P.mark + 1 ≤ 8796093022208) (n st : Int) (am : Option Addr) (nm cm : Nat) :
    Calls Tryz.prog 7 #[.pointer (some ⟨q, 0, none⟩), .agg #[.int .i64 1, .int .i64 n, .int .i64 st], .slice am nm cm] w fun e w' => Told w F q (⟨0, 0, false, [], (P.inc n).1⟩) (P.inc n).2 e w' := by
  have V := hide (bt (al w (.cells #[.int .i64 1, .int .i64 n, .int .i64 st] 37)) (al _ (.cells #[.int .i64 0, .int .i64 0, .bool false, .slice none 0 0, .int .i64 0] 34)))
  have hx := (al (w.alloc (.cells #[.int .i64 1, .int .i64 n, .int .i64 st] 37)) (.cells #[.int .i64 0, .int .i64 0, .bool false, .slice none 0 0, .int .i64 0] 34)).block w.heap.size (by rw [size_alloc]; omega) |>.trans (World.alloc_heap_new w (.cells #[.int .i64 1, .int .i64 n, .int .i64 st] 37))
  have x0 := cell_of_row _ _ 0 _ _ _ hx
  have x1 := cell_of_row _ _ 1 _ _ _ hx
  have x2 := cell_of_row _ _ 2 _ _ _ hx
  have M1 := hide (World.alloc_heap_new (w.alloc (.cells #[.int .i64 1, .int .i64 n, .int .i64 st] 37)) (.cells #[.int .i64 0, .int .i64 0, .bool false, .slice none 0 0, .int .i64 0] 34))
  rw [size_alloc] at M1
  have SZ := hide (show ((w.alloc (.cells #[.int .i64 1, .int .i64 n, .int .i64 st] 37)).alloc (.cells #[.int .i64 0, .int .i64 0, .bool false, .slice none 0 0, .int .i64 0] 34)).heap.size = w.heap.size + 2 by rw [size_alloc, size_alloc])
  have HV := hide (h.keep V.out)
  have H0 := hide h
  have CG := hide (show ¬ F (w.heap.size + 1) from fun e => by have := h.lt _ e; omega)
  simp only [List.getElem?_toArray, List.getElem?_cons_zero, List.getElem?_cons_succ] at x0 x1 x2
  clear h hx
  have CA := hide (qInc_any _ q P F HV.out n hm)
  have FIN := hide fun (w2 : World) (F2 : Nat → Prop) (h2 : Rl w2 q (P.inc n).2 F2) f2 => told_fin H0.out V.out SZ.out h2 f2 (⟨0, 0, false, [], (P.inc n).1⟩)
  go_enter Tryz.func7, Tryz.ntmps7
  go_wp2_with fail
  generalize World.alloc (World.alloc _ _) _ = v at *
  refine CA.out.mono ?_
  rintro _ w2 ⟨rfl, F2, h2, f2⟩
  have M2 := hide ((f2.b.block _ (by rw [SZ.out]; omega) CG.out).trans M1.out)
  have F2 := hide (FIN.out w2 F2 h2 f2 none 0 (.inl rfl) (fun x hx => by cases hx))
  clear h2 f2
  clear CA FIN x0 x1 x2
  go_wp2_with (refine wpList_store_row rfl 34 _ _ rfl (w.heap.size + 1) _ rfl rfl 34 _ M2.out sizeAns rfl (by simp [Value.oneCell']) ?_)
  refine bodyPost_ret (v := .agg _) (results_cell_row Tryz.results7 _ _ (w.heap.size + 1) 34 _ (0, 0) _ rfl (setRow_heap _ _ _ _ _ _ M2.out) Tryz.underlying34 rfl sizeAns) rfl ?_
  exact F2.out _
set_option maxHeartbeats 4000000 in
set_option maxRecDepth 8000 in
theorem told_2 (w : World) (q : Nat) (P : Po) (F : Nat → Prop) (h : Rl w q P F) (hm : P.mark + 1 ≤ 8796093022208) (n st : Int) (am : Option Addr) (nm cm : Nat) :
    Calls Tryz.prog 7 #[.pointer (some ⟨q, 0, none⟩), .agg #[.int .i64 2, .int .i64 n, .int .i64 st], .slice am nm cm] w fun e w' => Told w F q (⟨(P.dec n).1.1, 0, false, [], (P.dec n).1.2⟩) (P.dec n).2 e w' := by
  have V := hide (bt (al w (.cells #[.int .i64 2, .int .i64 n, .int .i64 st] 37)) (al _ (.cells #[.int .i64 0, .int .i64 0, .bool false, .slice none 0 0, .int .i64 0] 34)))
  have hx := (al (w.alloc (.cells #[.int .i64 2, .int .i64 n, .int .i64 st] 37)) (.cells #[.int .i64 0, .int .i64 0, .bool false, .slice none 0 0, .int .i64 0] 34)).block w.heap.size (by rw [size_alloc]; omega) |>.trans (World.alloc_heap_new w (.cells #[.int .i64 2, .int .i64 n, .int .i64 st] 37))
  have x0 := cell_of_row _ _ 0 _ _ _ hx
  have x1 := cell_of_row _ _ 1 _ _ _ hx
  have x2 := cell_of_row _ _ 2 _ _ _ hx
  have M1 := hide (World.alloc_heap_new (w.alloc (.cells #[.int .i64 2, .int .i64 n, .int .i64 st] 37)) (.cells #[.int .i64 0, .int .i64 0, .bool false, .slice none 0 0, .int .i64 0] 34))
  rw [size_alloc] at M1
  have SZ := hide (show ((w.alloc (.cells #[.int .i64 2, .int .i64 n, .int .i64 st] 37)).alloc (.cells #[.int .i64 0, .int .i64 0, .bool false, .slice none 0 0, .int .i64 0] 34)).heap.size = w.heap.size + 2 by rw [size_alloc, size_alloc])
  have HV := hide (h.keep V.out)
  have H0 := hide h
  have CG := hide (show ¬ F (w.heap.size + 1) from fun e => by have := h.lt _ e; omega)
  simp only [List.getElem?_toArray, List.getElem?_cons_zero, List.getElem?_cons_succ] at x0 x1 x2
  clear h hx
  have CA := hide (qDec_any _ q P F HV.out n hm)
  have FIN := hide fun (w2 : World) (F2 : Nat → Prop) (h2 : Rl w2 q (P.dec n).2 F2) f2 => told_fin H0.out V.out SZ.out h2 f2 (⟨(P.dec n).1.1, 0, false, [], (P.dec n).1.2⟩)
  go_enter Tryz.func7, Tryz.ntmps7
  go_wp2_with fail
  generalize World.alloc (World.alloc _ _) _ = v at *
  refine CA.out.mono ?_
  rintro _ w2 ⟨rfl, F2, h2, f2⟩
  have M2 := hide ((f2.b.block _ (by rw [SZ.out]; omega) CG.out).trans M1.out)
  have F2 := hide (FIN.out w2 F2 h2 f2 none 0 (.inl rfl) (fun x hx => by cases hx))
  clear h2 f2
  clear CA FIN x0 x1 x2
  go_wp2_with (refine wpList_store_row rfl 34 _ _ rfl (w.heap.size + 1) _ rfl rfl 34 _ M2.out sizeAns rfl (by simp [Value.oneCell']) ?_)
  refine bodyPost_ret (v := .agg _) (results_cell_row Tryz.results7 _ _ (w.heap.size + 1) 34 _ (0, 0) _ rfl (setRow_heap _ _ _ _ _ _ M2.out) Tryz.underlying34 rfl sizeAns) rfl ?_
  exact F2.out _
set_option maxHeartbeats 4000000 in
set_option maxRecDepth 8000 in
theorem told_3 (w : World) (q : Nat) (P : Po) (F : Nat → Prop) (h : Rl w q P F) (hm : P.mark + 1 ≤ 8796093022208) (n st : Int) (am : Option Addr) (nm cm : Nat) :
    Calls Tryz.prog 7 #[.pointer (some ⟨q, 0, none⟩), .agg #[.int .i64 3, .int .i64 n, .int .i64 st], .slice am nm cm] w fun e w' => Told w F q (.num (P.count n)) P e w' := by
  have V := hide (bt (al w (.cells #[.int .i64 3, .int .i64 n, .int .i64 st] 37)) (al _ (.cells #[.int .i64 0, .int .i64 0, .bool false, .slice none 0 0, .int .i64 0] 34)))
  have hx := (al (w.alloc (.cells #[.int .i64 3, .int .i64 n, .int .i64 st] 37)) (.cells #[.int .i64 0, .int .i64 0, .bool false, .slice none 0 0, .int .i64 0] 34)).block w.heap.size (by rw [size_alloc]; omega) |>.trans (World.alloc_heap_new w (.cells #[.int .i64 3, .int .i64 n, .int .i64 st] 37))
  have x0 := cell_of_row _ _ 0 _ _ _ hx
  have x1 := cell_of_row _ _ 1 _ _ _ hx
  have x2 := cell_of_row _ _ 2 _ _ _ hx
  have M1 := hide (World.alloc_heap_new (w.alloc (.cells #[.int .i64 3, .int .i64 n, .int .i64 st] 37)) (.cells #[.int .i64 0, .int .i64 0, .bool false, .slice none 0 0, .int .i64 0] 34))
  rw [size_alloc] at M1
  have SZ := hide (show ((w.alloc (.cells #[.int .i64 3, .int .i64 n, .int .i64 st] 37)).alloc (.cells #[.int .i64 0, .int .i64 0, .bool false, .slice none 0 0, .int .i64 0] 34)).heap.size = w.heap.size + 2 by rw [size_alloc, size_alloc])
  have HV := hide (h.keep V.out)
  have H0 := hide h
  have CG := hide (show ¬ F (w.heap.size + 1) from fun e => by have := h.lt _ e; omega)
  simp only [List.getElem?_toArray, List.getElem?_cons_zero, List.getElem?_cons_succ] at x0 x1 x2
  clear h hx
  have CA := hide (qCount_any _ q P F HV.out n)
  have FIN := hide fun (w2 : World) (F2 : Nat → Prop) (h2 : Rl w2 q P F2) f2 => told_fin H0.out V.out SZ.out h2 f2 (.num (P.count n))
  go_enter Tryz.func7, Tryz.ntmps7
  go_wp2_with fail
  generalize World.alloc (World.alloc _ _) _ = v at *
  refine CA.out.mono ?_
  rintro _ wq ⟨rfl, hwq⟩
  obtain rfl := hwq.symm
  have M2 := M1
  have F2 := hide (FIN.out _ F HV.out (Gr.refl _ _) none 0 (.inl rfl) (fun x hx => by cases hx))
  clear CA FIN x0 x1 x2
  go_wp2_with (refine wpList_store_row rfl 34 _ _ rfl (w.heap.size + 1) _ rfl rfl 34 _ M2.out sizeAns rfl (by simp [Value.oneCell']) ?_)
  refine bodyPost_ret (v := .agg _) (results_cell_row Tryz.results7 _ _ (w.heap.size + 1) 34 _ (0, 0) _ rfl (setRow_heap _ _ _ _ _ _ M2.out) Tryz.underlying34 rfl sizeAns) rfl ?_
  exact F2.out _
set_option maxHeartbeats 4000000 in
set_option maxRecDepth 8000 in
theorem told_4 (w : World) (q : Nat) (P : Po) (F : Nat → Prop) (h : Rl w q P F) (hm : P.mark + 1 ≤ 8796093022208) (n st : Int) (am : Option Addr) (nm cm : Nat) :
    Calls Tryz.prog 7 #[.pointer (some ⟨q, 0, none⟩), .agg #[.int .i64 4, .int .i64 n, .int .i64 st], .slice am nm cm] w fun e w' => Told w F q (.num (P.state n : Nat)) P e w' := by
  have V := hide (bt (al w (.cells #[.int .i64 4, .int .i64 n, .int .i64 st] 37)) (al _ (.cells #[.int .i64 0, .int .i64 0, .bool false, .slice none 0 0, .int .i64 0] 34)))
  have hx := (al (w.alloc (.cells #[.int .i64 4, .int .i64 n, .int .i64 st] 37)) (.cells #[.int .i64 0, .int .i64 0, .bool false, .slice none 0 0, .int .i64 0] 34)).block w.heap.size (by rw [size_alloc]; omega) |>.trans (World.alloc_heap_new w (.cells #[.int .i64 4, .int .i64 n, .int .i64 st] 37))
  have x0 := cell_of_row _ _ 0 _ _ _ hx
  have x1 := cell_of_row _ _ 1 _ _ _ hx
  have x2 := cell_of_row _ _ 2 _ _ _ hx
  have M1 := hide (World.alloc_heap_new (w.alloc (.cells #[.int .i64 4, .int .i64 n, .int .i64 st] 37)) (.cells #[.int .i64 0, .int .i64 0, .bool false, .slice none 0 0, .int .i64 0] 34))
  rw [size_alloc] at M1
  have SZ := hide (show ((w.alloc (.cells #[.int .i64 4, .int .i64 n, .int .i64 st] 37)).alloc (.cells #[.int .i64 0, .int .i64 0, .bool false, .slice none 0 0, .int .i64 0] 34)).heap.size = w.heap.size + 2 by rw [size_alloc, size_alloc])
  have HV := hide (h.keep V.out)
  have H0 := hide h
  have CG := hide (show ¬ F (w.heap.size + 1) from fun e => by have := h.lt _ e; omega)
  simp only [List.getElem?_toArray, List.getElem?_cons_zero, List.getElem?_cons_succ] at x0 x1 x2
  clear h hx
  have CA := hide (qState_any _ q P F HV.out n)
  have FIN := hide fun (w2 : World) (F2 : Nat → Prop) (h2 : Rl w2 q P F2) f2 => told_fin H0.out V.out SZ.out h2 f2 (.num (P.state n : Nat))
  go_enter Tryz.func7, Tryz.ntmps7
  go_wp2_with fail
  generalize World.alloc (World.alloc _ _) _ = v at *
  refine CA.out.mono ?_
  rintro _ wq ⟨rfl, hwq⟩
  obtain rfl := hwq.symm
  have M2 := M1
  have F2 := hide (FIN.out _ F HV.out (Gr.refl _ _) none 0 (.inl rfl) (fun x hx => by cases hx))
  clear CA FIN x0 x1 x2
  go_wp2_with (refine wpList_store_row rfl 34 _ _ rfl (w.heap.size + 1) _ rfl rfl 34 _ M2.out sizeAns rfl (by simp [Value.oneCell']) ?_)
  refine bodyPost_ret (v := .agg _) (results_cell_row Tryz.results7 _ _ (w.heap.size + 1) 34 _ (0, 0) _ rfl (setRow_heap _ _ _ _ _ _ M2.out) Tryz.underlying34 rfl sizeAns) rfl ?_
  exact F2.out _
set_option maxHeartbeats 4000000 in
set_option maxRecDepth 8000 in
theorem told_5 (w : World) (q : Nat) (P : Po) (F : Nat → Prop) (h : Rl w q P F) (hm : P.mark + 1 ≤ 8796093022208) (n st : Int) (am : Option Addr) (nm cm : Nat) :
    Calls Tryz.prog 7 #[.pointer (some ⟨q, 0, none⟩), .agg #[.int .i64 5, .int .i64 n, .int .i64 st], .slice am nm cm] w fun e w' => Told w F q (.num ((P.pages n).length : Nat)) P e w' := by
  have V := hide (bt (al w (.cells #[.int .i64 5, .int .i64 n, .int .i64 st] 37)) (al _ (.cells #[.int .i64 0, .int .i64 0, .bool false, .slice none 0 0, .int .i64 0] 34)))
  have hx := (al (w.alloc (.cells #[.int .i64 5, .int .i64 n, .int .i64 st] 37)) (.cells #[.int .i64 0, .int .i64 0, .bool false, .slice none 0 0, .int .i64 0] 34)).block w.heap.size (by rw [size_alloc]; omega) |>.trans (World.alloc_heap_new w (.cells #[.int .i64 5, .int .i64 n, .int .i64 st] 37))
  have x0 := cell_of_row _ _ 0 _ _ _ hx
  have x1 := cell_of_row _ _ 1 _ _ _ hx
  have x2 := cell_of_row _ _ 2 _ _ _ hx
  have M1 := hide (World.alloc_heap_new (w.alloc (.cells #[.int .i64 5, .int .i64 n, .int .i64 st] 37)) (.cells #[.int .i64 0, .int .i64 0, .bool false, .slice none 0 0, .int .i64 0] 34))
  rw [size_alloc] at M1
  have SZ := hide (show ((w.alloc (.cells #[.int .i64 5, .int .i64 n, .int .i64 st] 37)).alloc (.cells #[.int .i64 0, .int .i64 0, .bool false, .slice none 0 0, .int .i64 0] 34)).heap.size = w.heap.size + 2 by rw [size_alloc, size_alloc])
  have HV := hide (h.keep V.out)
  have H0 := hide h
  have CG := hide (show ¬ F (w.heap.size + 1) from fun e => by have := h.lt _ e; omega)
  simp only [List.getElem?_toArray, List.getElem?_cons_zero, List.getElem?_cons_succ] at x0 x1 x2
  clear h hx
  have CA := hide (qTally_any _ q P F HV.out n)
  have FIN := hide fun (w2 : World) (F2 : Nat → Prop) (h2 : Rl w2 q P F2) f2 => told_fin H0.out V.out SZ.out h2 f2 (.num ((P.pages n).length : Nat))
  go_enter Tryz.func7, Tryz.ntmps7
  go_wp2_with fail
  generalize World.alloc (World.alloc _ _) _ = v at *
  refine CA.out.mono ?_
  rintro _ w2 ⟨rfl, hb⟩
  have M2 := hide ((hb.block _ (by rw [SZ.out]; omega)).trans M1.out)
  have F2 := hide (FIN.out w2 F (HV.out.keep hb) (Gr.keep hb) none 0 (.inl rfl) (fun x hx => by cases hx))
  clear hb
  clear CA FIN x0 x1 x2
  go_wp2_with (refine wpList_store_row rfl 34 _ _ rfl (w.heap.size + 1) _ rfl rfl 34 _ M2.out sizeAns rfl (by simp [Value.oneCell']) ?_)
  refine bodyPost_ret (v := .agg _) (results_cell_row Tryz.results7 _ _ (w.heap.size + 1) 34 _ (0, 0) _ rfl (setRow_heap _ _ _ _ _ _ M2.out) Tryz.underlying34 rfl sizeAns) rfl ?_
  exact F2.out _
set_option maxHeartbeats 4000000 in
set_option maxRecDepth 8000 in
theorem told_6 (w : World) (q : Nat) (P : Po) (F : Nat → Prop) (h : Rl w q P F) (hm : P.mark + 1 ≤ 8796093022208) (n st : Int) (am : Option Addr) (nm cm : Nat) :
    Calls Tryz.prog 7 #[.pointer (some ⟨q, 0, none⟩), .agg #[.int .i64 6, .int .i64 n, .int .i64 st], .slice am nm cm] w fun e w' => Told w F q (⟨0, 0, false, wl (P.pages n) st, 0⟩) P e w' := by
  have V := hide (bt (al w (.cells #[.int .i64 6, .int .i64 n, .int .i64 st] 37)) (al _ (.cells #[.int .i64 0, .int .i64 0, .bool false, .slice none 0 0, .int .i64 0] 34)))
  have hx := (al (w.alloc (.cells #[.int .i64 6, .int .i64 n, .int .i64 st] 37)) (.cells #[.int .i64 0, .int .i64 0, .bool false, .slice none 0 0, .int .i64 0] 34)).block w.heap.size (by rw [size_alloc]; omega) |>.trans (World.alloc_heap_new w (.cells #[.int .i64 6, .int .i64 n, .int .i64 st] 37))
  have x0 := cell_of_row _ _ 0 _ _ _ hx
  have x1 := cell_of_row _ _ 1 _ _ _ hx
  have x2 := cell_of_row _ _ 2 _ _ _ hx
  have M1 := hide (World.alloc_heap_new (w.alloc (.cells #[.int .i64 6, .int .i64 n, .int .i64 st] 37)) (.cells #[.int .i64 0, .int .i64 0, .bool false, .slice none 0 0, .int .i64 0] 34))
  rw [size_alloc] at M1
  have SZ := hide (show ((w.alloc (.cells #[.int .i64 6, .int .i64 n, .int .i64 st] 37)).alloc (.cells #[.int .i64 0, .int .i64 0, .bool false, .slice none 0 0, .int .i64 0] 34)).heap.size = w.heap.size + 2 by rw [size_alloc, size_alloc])
  have HV := hide (h.keep V.out)
  have H0 := hide h
  have CG := hide (show ¬ F (w.heap.size + 1) from fun e => by have := h.lt _ e; omega)
  simp only [List.getElem?_toArray, List.getElem?_cons_zero, List.getElem?_cons_succ] at x0 x1 x2
  clear h hx
  by_cases hst : 0 ≤ st ∧ st < ((P.pages n).length : Int)
  · have ew : wl (P.pages n) st = (P.pages n).take st.toNat := by unfold wl; rw [if_neg (by omega)]
    rw [ew]
    obtain ⟨k, rfl⟩ : ∃ k : Nat, st = (k : Int) := ⟨st.toNat, by omega⟩
    rw [Int.toNat_natCast]
    have g1 : decide ((0 : Int) ≤ (k : Int)) = true := decide_eq_true (by omega)
    have g2 : decide ((k : Int) < ((P.pages n).length : Int)) = true := decide_eq_true hst.2
    have g3 : k < (P.pages n).length := by omega
    have CA := hide (qPages_any _ q P F HV.out n)
    have FIN := hide fun (w2 : World) (F2 : Nat → Prop) (h2 : Rl w2 q P F2) f2 => told_fin H0.out V.out SZ.out h2 f2 (⟨0, 0, false, (P.pages n).take k, 0⟩)
    go_enter Tryz.func7, Tryz.ntmps7
    go_wp2_with fail
    generalize World.alloc (World.alloc _ _) _ = v at *
    refine CA.out.mono ?_
    rintro _ w2 ⟨a2, d2, rfl, hI⟩
    have M2 := hide ((hI.b.block _ (by rw [SZ.out]; omega)).trans M1.out)
    have F2 := hide (FIN.out w2 F (HV.out.keep hI.b) (Gr.keep hI.b) a2 d2 (hI.r.ir.take _) (own_far HV.out hI))
    have hcap : (P.pages n).length ≤ d2 := hI.r.capI
    have hkc : (k : Int) ≤ (d2 : Int) := by omega
    have xx2 : w2.cell? ⟨w.heap.size, 2, none⟩ = _ := (hI.b.cell (p := ⟨w.heap.size, 2, none⟩) (block_lt_of_cell x2)).trans x2
    clear hI
    have F2 : Hid (∀ cs, Told w F q ⟨0, 0, false, (P.pages n).take k, 0⟩ P (.returned (.agg #[.int .i64 0, .int .i64 0, .bool false, .slice a2 k d2, .int .i64 0])) (w2.setRow (w.heap.size + 1) cs)) := fun cs => by
      have t := F2.out cs
      try dsimp only at t
      rwa [show ((P.pages n).take k).length = k by rw [List.length_take]; omega] at t
    clear CA FIN x0 x1 x2
    go_wp2_with (refine wpList_store_row rfl 34 _ _ rfl (w.heap.size + 1) _ rfl rfl 34 _ M2.out sizeAns rfl (by simp [Value.oneCell']) ?_)
    refine bodyPost_ret (v := .agg _) (results_cell_row Tryz.results7 _ _ (w.heap.size + 1) 34 _ (0, 0) _ rfl (setRow_heap _ _ _ _ _ _ M2.out) Tryz.underlying34 rfl sizeAns) rfl ?_
    exact F2.out _
  · have ew : wl (P.pages n) st = P.pages n := by
      unfold wl
      split
      · rfl
      · exact List.take_of_length_le (by omega)
    rw [ew]
    rcases (show st < 0 ∨ (0 ≤ st ∧ ((P.pages n).length : Int) ≤ st) by omega) with hs0 | ⟨hs0, hs1⟩
    · have g1 : decide ((0 : Int) ≤ st) = false := decide_eq_false (by omega)
      have g3 : ¬ (0 : Int) ≤ st := by omega
      have CA := hide (qPages_any _ q P F HV.out n)
      have FIN := hide fun (w2 : World) (F2 : Nat → Prop) (h2 : Rl w2 q P F2) f2 => told_fin H0.out V.out SZ.out h2 f2 (⟨0, 0, false, P.pages n, 0⟩)
      go_enter Tryz.func7, Tryz.ntmps7
      go_wp2_with fail
      generalize World.alloc (World.alloc _ _) _ = v at *
      refine CA.out.mono ?_
      rintro _ w2 ⟨a2, d2, rfl, hI⟩
      have M2 := hide ((hI.b.block _ (by rw [SZ.out]; omega)).trans M1.out)
      have F2 := hide (FIN.out w2 F (HV.out.keep hI.b) (Gr.keep hI.b) a2 d2 hI.r.ir (own_far HV.out hI))
      have xx2 : w2.cell? ⟨w.heap.size, 2, none⟩ = _ := (hI.b.cell (p := ⟨w.heap.size, 2, none⟩) (block_lt_of_cell x2)).trans x2
      clear hI
      clear CA FIN x0 x1 x2
      go_wp2_with (refine wpList_store_row rfl 34 _ _ rfl (w.heap.size + 1) _ rfl rfl 34 _ M2.out sizeAns rfl (by simp [Value.oneCell']) ?_)
      refine bodyPost_ret (v := .agg _) (results_cell_row Tryz.results7 _ _ (w.heap.size + 1) 34 _ (0, 0) _ rfl (setRow_heap _ _ _ _ _ _ M2.out) Tryz.underlying34 rfl sizeAns) rfl ?_
      exact F2.out _
    · have g1 : decide ((0 : Int) ≤ st) = true := decide_eq_true hs0
      have g2 : decide (st < ((P.pages n).length : Int)) = false := decide_eq_false (by omega)
      have g3 : ¬ st < ((P.pages n).length : Int) := by omega
      have CA := hide (qPages_any _ q P F HV.out n)
      have FIN := hide fun (w2 : World) (F2 : Nat → Prop) (h2 : Rl w2 q P F2) f2 => told_fin H0.out V.out SZ.out h2 f2 (⟨0, 0, false, P.pages n, 0⟩)
      go_enter Tryz.func7, Tryz.ntmps7
      go_wp2_with fail
      generalize World.alloc (World.alloc _ _) _ = v at *
      refine CA.out.mono ?_
      rintro _ w2 ⟨a2, d2, rfl, hI⟩
      have M2 := hide ((hI.b.block _ (by rw [SZ.out]; omega)).trans M1.out)
      have F2 := hide (FIN.out w2 F (HV.out.keep hI.b) (Gr.keep hI.b) a2 d2 hI.r.ir (own_far HV.out hI))
      have xx2 : w2.cell? ⟨w.heap.size, 2, none⟩ = _ := (hI.b.cell (p := ⟨w.heap.size, 2, none⟩) (block_lt_of_cell x2)).trans x2
      clear hI
      clear CA FIN x0 x1 x2
      go_wp2_with (refine wpList_store_row rfl 34 _ _ rfl (w.heap.size + 1) _ rfl rfl 34 _ M2.out sizeAns rfl (by simp [Value.oneCell']) ?_)
      refine bodyPost_ret (v := .agg _) (results_cell_row Tryz.results7 _ _ (w.heap.size + 1) 34 _ (0, 0) _ rfl (setRow_heap _ _ _ _ _ _ M2.out) Tryz.underlying34 rfl sizeAns) rfl ?_
      exact F2.out _
set_option maxHeartbeats 4000000 in
set_option maxRecDepth 8000 in
theorem told_7 (w : World) (q : Nat) (P : Po) (F : Nat → Prop) (h : Rl w q P F) (hm : P.mark + 1 ≤ 8796093022208) (n st : Int) (am : Option Addr) (nm cm : Nat) :
    Calls Tryz.prog 7 #[.pointer (some ⟨q, 0, none⟩), .agg #[.int .i64 7, .int .i64 n, .int .i64 st], .slice am nm cm] w fun e w' => Told w F q (⟨0, 0, false, P.counts, 0⟩) P e w' := by
  have V := hide (bt (al w (.cells #[.int .i64 7, .int .i64 n, .int .i64 st] 37)) (al _ (.cells #[.int .i64 0, .int .i64 0, .bool false, .slice none 0 0, .int .i64 0] 34)))
  have hx := (al (w.alloc (.cells #[.int .i64 7, .int .i64 n, .int .i64 st] 37)) (.cells #[.int .i64 0, .int .i64 0, .bool false, .slice none 0 0, .int .i64 0] 34)).block w.heap.size (by rw [size_alloc]; omega) |>.trans (World.alloc_heap_new w (.cells #[.int .i64 7, .int .i64 n, .int .i64 st] 37))
  have x0 := cell_of_row _ _ 0 _ _ _ hx
  have x1 := cell_of_row _ _ 1 _ _ _ hx
  have x2 := cell_of_row _ _ 2 _ _ _ hx
  have M1 := hide (World.alloc_heap_new (w.alloc (.cells #[.int .i64 7, .int .i64 n, .int .i64 st] 37)) (.cells #[.int .i64 0, .int .i64 0, .bool false, .slice none 0 0, .int .i64 0] 34))
  rw [size_alloc] at M1
  have SZ := hide (show ((w.alloc (.cells #[.int .i64 7, .int .i64 n, .int .i64 st] 37)).alloc (.cells #[.int .i64 0, .int .i64 0, .bool false, .slice none 0 0, .int .i64 0] 34)).heap.size = w.heap.size + 2 by rw [size_alloc, size_alloc])
  have HV := hide (h.keep V.out)
  have H0 := hide h
  have CG := hide (show ¬ F (w.heap.size + 1) from fun e => by have := h.lt _ e; omega)
  simp only [List.getElem?_toArray, List.getElem?_cons_zero, List.getElem?_cons_succ] at x0 x1 x2
  clear h hx
  have CA := hide (qCounts_any _ q P F HV.out)
  have FIN := hide fun (w2 : World) (F2 : Nat → Prop) (h2 : Rl w2 q P F2) f2 => told_fin H0.out V.out SZ.out h2 f2 (⟨0, 0, false, P.counts, 0⟩)
  go_enter Tryz.func7, Tryz.ntmps7
  go_wp2_with fail
  generalize World.alloc (World.alloc _ _) _ = v at *
  refine CA.out.mono ?_
  rintro _ w2 ⟨a2, d2, rfl, hI⟩
  have M2 := hide ((hI.b.block _ (by rw [SZ.out]; omega)).trans M1.out)
  have F2 := hide (FIN.out w2 F (HV.out.keep hI.b) (Gr.keep hI.b) a2 d2 hI.r.ir (own_far HV.out hI))
  clear hI
  clear CA FIN x0 x1 x2
  go_wp2_with (refine wpList_store_row rfl 34 _ _ rfl (w.heap.size + 1) _ rfl rfl 34 _ M2.out sizeAns rfl (by simp [Value.oneCell']) ?_)
  refine bodyPost_ret (v := .agg _) (results_cell_row Tryz.results7 _ _ (w.heap.size + 1) 34 _ (0, 0) _ rfl (setRow_heap _ _ _ _ _ _ M2.out) Tryz.underlying34 rfl sizeAns) rfl ?_
  exact F2.out _
set_option maxHeartbeats 4000000 in
set_option maxRecDepth 8000 in
theorem told_8 (w : World) (q : Nat) (P : Po) (F : Nat → Prop) (h : Rl w q P F) (hm : P.mark + 1 ≤ 8796093022208) (n st : Int) (am : Option Addr) (nm cm : Nat) :
    Calls Tryz.prog 7 #[.pointer (some ⟨q, 0, none⟩), .agg #[.int .i64 8, .int .i64 n, .int .i64 st], .slice am nm cm] w fun e w' => Told w F q (.num (P.mark : Nat)) P e w' := by
  have V := hide (bt (al w (.cells #[.int .i64 8, .int .i64 n, .int .i64 st] 37)) (al _ (.cells #[.int .i64 0, .int .i64 0, .bool false, .slice none 0 0, .int .i64 0] 34)))
  have hx := (al (w.alloc (.cells #[.int .i64 8, .int .i64 n, .int .i64 st] 37)) (.cells #[.int .i64 0, .int .i64 0, .bool false, .slice none 0 0, .int .i64 0] 34)).block w.heap.size (by rw [size_alloc]; omega) |>.trans (World.alloc_heap_new w (.cells #[.int .i64 8, .int .i64 n, .int .i64 st] 37))
  have x0 := cell_of_row _ _ 0 _ _ _ hx
  have x1 := cell_of_row _ _ 1 _ _ _ hx
  have x2 := cell_of_row _ _ 2 _ _ _ hx
  have M1 := hide (World.alloc_heap_new (w.alloc (.cells #[.int .i64 8, .int .i64 n, .int .i64 st] 37)) (.cells #[.int .i64 0, .int .i64 0, .bool false, .slice none 0 0, .int .i64 0] 34))
  rw [size_alloc] at M1
  have SZ := hide (show ((w.alloc (.cells #[.int .i64 8, .int .i64 n, .int .i64 st] 37)).alloc (.cells #[.int .i64 0, .int .i64 0, .bool false, .slice none 0 0, .int .i64 0] 34)).heap.size = w.heap.size + 2 by rw [size_alloc, size_alloc])
  have HV := hide (h.keep V.out)
  have H0 := hide h
  have CG := hide (show ¬ F (w.heap.size + 1) from fun e => by have := h.lt _ e; omega)
  simp only [List.getElem?_toArray, List.getElem?_cons_zero, List.getElem?_cons_succ] at x0 x1 x2
  clear h hx
  have CA := hide (qMark_any _ q P F HV.out)
  have FIN := hide fun (w2 : World) (F2 : Nat → Prop) (h2 : Rl w2 q P F2) f2 => told_fin H0.out V.out SZ.out h2 f2 (.num (P.mark : Nat))
  go_enter Tryz.func7, Tryz.ntmps7
  go_wp2_with fail
  generalize World.alloc (World.alloc _ _) _ = v at *
  refine CA.out.mono ?_
  rintro _ wq ⟨rfl, hwq⟩
  obtain rfl := hwq.symm
  have M2 := M1
  have F2 := hide (FIN.out _ F HV.out (Gr.refl _ _) none 0 (.inl rfl) (fun x hx => by cases hx))
  clear CA FIN x0 x1 x2
  go_wp2_with (refine wpList_store_row rfl 34 _ _ rfl (w.heap.size + 1) _ rfl rfl 34 _ M2.out sizeAns rfl (by simp [Value.oneCell']) ?_)
  refine bodyPost_ret (v := .agg _) (results_cell_row Tryz.results7 _ _ (w.heap.size + 1) 34 _ (0, 0) _ rfl (setRow_heap _ _ _ _ _ _ M2.out) Tryz.underlying34 rfl sizeAns) rfl ?_
  exact F2.out _
set_option maxHeartbeats 4000000 in
set_option maxRecDepth 8000 in
theorem told_9 (w : World) (q : Nat) (P : Po) (F : Nat → Prop) (h : Rl w q P F) (hm : P.mark + 1 ≤ 8796093022208) (n st : Int) (am : Option Addr) (nm cm : Nat) :
    Calls Tryz.prog 7 #[.pointer (some ⟨q, 0, none⟩), .agg #[.int .i64 9, .int .i64 n, .int .i64 st], .slice am nm cm] w fun e w' => Told w F q (⟨0, 0, P.canUndo n, [], 0⟩) (P.undo n) e w' := by
  have V := hide (bt (al w (.cells #[.int .i64 9, .int .i64 n, .int .i64 st] 37)) (al _ (.cells #[.int .i64 0, .int .i64 0, .bool false, .slice none 0 0, .int .i64 0] 34)))
  have hx := (al (w.alloc (.cells #[.int .i64 9, .int .i64 n, .int .i64 st] 37)) (.cells #[.int .i64 0, .int .i64 0, .bool false, .slice none 0 0, .int .i64 0] 34)).block w.heap.size (by rw [size_alloc]; omega) |>.trans (World.alloc_heap_new w (.cells #[.int .i64 9, .int .i64 n, .int .i64 st] 37))
  have x0 := cell_of_row _ _ 0 _ _ _ hx
  have x1 := cell_of_row _ _ 1 _ _ _ hx
  have x2 := cell_of_row _ _ 2 _ _ _ hx
  have M1 := hide (World.alloc_heap_new (w.alloc (.cells #[.int .i64 9, .int .i64 n, .int .i64 st] 37)) (.cells #[.int .i64 0, .int .i64 0, .bool false, .slice none 0 0, .int .i64 0] 34))
  rw [size_alloc] at M1
  have SZ := hide (show ((w.alloc (.cells #[.int .i64 9, .int .i64 n, .int .i64 st] 37)).alloc (.cells #[.int .i64 0, .int .i64 0, .bool false, .slice none 0 0, .int .i64 0] 34)).heap.size = w.heap.size + 2 by rw [size_alloc, size_alloc])
  have HV := hide (h.keep V.out)
  have H0 := hide h
  have CG := hide (show ¬ F (w.heap.size + 1) from fun e => by have := h.lt _ e; omega)
  simp only [List.getElem?_toArray, List.getElem?_cons_zero, List.getElem?_cons_succ] at x0 x1 x2
  clear h hx
  have CA := hide (qUndo_any _ q P F HV.out n (by omega))
  have FIN := hide fun (w2 : World) (F2 : Nat → Prop) (h2 : Rl w2 q (P.undo n) F2) f2 => told_fin H0.out V.out SZ.out h2 f2 (⟨0, 0, P.canUndo n, [], 0⟩)
  go_enter Tryz.func7, Tryz.ntmps7
  go_wp2_with fail
  generalize World.alloc (World.alloc _ _) _ = v at *
  refine CA.out.mono ?_
  rintro _ w2 ⟨rfl, F2, h2, f2⟩
  have M2 := hide ((f2.b.block _ (by rw [SZ.out]; omega) CG.out).trans M1.out)
  have F2 := hide (FIN.out w2 F2 h2 f2 none 0 (.inl rfl) (fun x hx => by cases hx))
  clear h2 f2
  clear CA FIN x0 x1 x2
  go_wp2_with (refine wpList_store_row rfl 34 _ _ rfl (w.heap.size + 1) _ rfl rfl 34 _ M2.out sizeAns rfl (by simp [Value.oneCell']) ?_)
  refine bodyPost_ret (v := .agg _) (results_cell_row Tryz.results7 _ _ (w.heap.size + 1) 34 _ (0, 0) _ rfl (setRow_heap _ _ _ _ _ _ M2.out) Tryz.underlying34 rfl sizeAns) rfl ?_
  exact F2.out _
set_option maxHeartbeats 4000000 in
set_option maxRecDepth 8000 in
theorem told_10 (w : World) (q : Nat) (P : Po) (F : Nat → Prop) (h : Rl w q P F) (hm : P.mark + 1 ≤ 8796093022208) (n st : Int) (am : Option Addr) (nm cm : Nat) :
    Calls Tryz.prog 7 #[.pointer (some ⟨q, 0, none⟩), .agg #[.int .i64 10, .int .i64 n, .int .i64 st], .slice am nm cm] w fun e w' => Told w F q (.num 0) P.settle e w' := by
  have V := hide (bt (al w (.cells #[.int .i64 10, .int .i64 n, .int .i64 st] 37)) (al _ (.cells #[.int .i64 0, .int .i64 0, .bool false, .slice none 0 0, .int .i64 0] 34)))
  have hx := (al (w.alloc (.cells #[.int .i64 10, .int .i64 n, .int .i64 st] 37)) (.cells #[.int .i64 0, .int .i64 0, .bool false, .slice none 0 0, .int .i64 0] 34)).block w.heap.size (by rw [size_alloc]; omega) |>.trans (World.alloc_heap_new w (.cells #[.int .i64 10, .int .i64 n, .int .i64 st] 37))
  have x0 := cell_of_row _ _ 0 _ _ _ hx
  have x1 := cell_of_row _ _ 1 _ _ _ hx
  have x2 := cell_of_row _ _ 2 _ _ _ hx
  have M1 := hide (World.alloc_heap_new (w.alloc (.cells #[.int .i64 10, .int .i64 n, .int .i64 st] 37)) (.cells #[.int .i64 0, .int .i64 0, .bool false, .slice none 0 0, .int .i64 0] 34))
  rw [size_alloc] at M1
  have SZ := hide (show ((w.alloc (.cells #[.int .i64 10, .int .i64 n, .int .i64 st] 37)).alloc (.cells #[.int .i64 0, .int .i64 0, .bool false, .slice none 0 0, .int .i64 0] 34)).heap.size = w.heap.size + 2 by rw [size_alloc, size_alloc])
  have HV := hide (h.keep V.out)
  have H0 := hide h
  have CG := hide (show ¬ F (w.heap.size + 1) from fun e => by have := h.lt _ e; omega)
  simp only [List.getElem?_toArray, List.getElem?_cons_zero, List.getElem?_cons_succ] at x0 x1 x2
  clear h hx
  have CA := hide (qSettle_any _ q P F HV.out)
  have FIN := hide fun (w2 : World) (F2 : Nat → Prop) (h2 : Rl w2 q P.settle F2) f2 => told_fin H0.out V.out SZ.out h2 f2 (.num 0)
  go_enter Tryz.func7, Tryz.ntmps7
  go_wp2_with fail
  generalize World.alloc (World.alloc _ _) _ = v at *
  refine CA.out.mono ?_
  rintro _ w2 ⟨rfl, F2, h2, f2⟩
  have M2 := hide ((f2.b.block _ (by rw [SZ.out]; omega) CG.out).trans M1.out)
  have F2 := hide (FIN.out w2 F2 h2 f2 none 0 (.inl rfl) (fun x hx => by cases hx))
  clear h2 f2
  clear CA FIN x0 x1 x2
  go_wp2_with (refine wpList_store_row rfl 34 _ _ rfl (w.heap.size + 1) _ rfl rfl 34 _ M2.out sizeAns rfl (by simp [Value.oneCell']) ?_)
  refine bodyPost_ret (v := .agg _) (results_cell_row Tryz.results7 _ _ (w.heap.size + 1) 34 _ (0, 0) _ rfl (setRow_heap _ _ _ _ _ _ M2.out) Tryz.underlying34 rfl sizeAns) rfl ?_
  exact F2.out _
set_option maxHeartbeats 4000000 in
set_option maxRecDepth 8000 in
theorem told_11 (w : World) (q : Nat) (P : Po) (F : Nat → Prop) (h : Rl w q P F) (hm : P.mark + 1 ≤ 8796093022208) (n st : Int) (am : Option Addr) (nm cm : Nat) :
    Calls Tryz.prog 7 #[.pointer (some ⟨q, 0, none⟩), .agg #[.int .i64 11, .int .i64 n, .int .i64 st], .slice am nm cm] w fun e w' => Told w F q (⟨(P.pg.length : Nat), P.rf, false, [], 0⟩) P e w' := by
  have V := hide (bt (al w (.cells #[.int .i64 11, .int .i64 n, .int .i64 st] 37)) (al _ (.cells #[.int .i64 0, .int .i64 0, .bool false, .slice none 0 0, .int .i64 0] 34)))
  have hx := (al (w.alloc (.cells #[.int .i64 11, .int .i64 n, .int .i64 st] 37)) (.cells #[.int .i64 0, .int .i64 0, .bool false, .slice none 0 0, .int .i64 0] 34)).block w.heap.size (by rw [size_alloc]; omega) |>.trans (World.alloc_heap_new w (.cells #[.int .i64 11, .int .i64 n, .int .i64 st] 37))
  have x0 := cell_of_row _ _ 0 _ _ _ hx
  have x1 := cell_of_row _ _ 1 _ _ _ hx
  have x2 := cell_of_row _ _ 2 _ _ _ hx
  have M1 := hide (World.alloc_heap_new (w.alloc (.cells #[.int .i64 11, .int .i64 n, .int .i64 st] 37)) (.cells #[.int .i64 0, .int .i64 0, .bool false, .slice none 0 0, .int .i64 0] 34))
  rw [size_alloc] at M1
  have SZ := hide (show ((w.alloc (.cells #[.int .i64 11, .int .i64 n, .int .i64 st] 37)).alloc (.cells #[.int .i64 0, .int .i64 0, .bool false, .slice none 0 0, .int .i64 0] 34)).heap.size = w.heap.size + 2 by rw [size_alloc, size_alloc])
  have HV := hide (h.keep V.out)
  have H0 := hide h
  have CG := hide (show ¬ F (w.heap.size + 1) from fun e => by have := h.lt _ e; omega)
  simp only [List.getElem?_toArray, List.getElem?_cons_zero, List.getElem?_cons_succ] at x0 x1 x2
  clear h hx
  have CA := hide (qLen_any _ q P F HV.out)
  have CB := hide (qRefs_any _ q P F HV.out)
  have FIN := hide fun (w2 : World) (F2 : Nat → Prop) (h2 : Rl w2 q P F2) f2 => told_fin H0.out V.out SZ.out h2 f2 (⟨(P.pg.length : Nat), P.rf, false, [], 0⟩)
  go_enter Tryz.func7, Tryz.ntmps7
  go_wp2_with fail
  generalize World.alloc (World.alloc _ _) _ = v at *
  refine CA.out.mono ?_
  rintro _ wq ⟨rfl, hwq⟩
  obtain rfl := hwq.symm
  go_wp2_with fail
  refine CB.out.mono ?_
  rintro _ wq ⟨rfl, hwq⟩
  obtain rfl := hwq.symm
  have M2 := M1
  have F2 := hide (FIN.out _ F HV.out (Gr.refl _ _) none 0 (.inl rfl) (fun x hx => by cases hx))
  clear CA FIN x0 x1 x2
  go_wp2_with (refine wpList_store_row rfl 34 _ _ rfl (w.heap.size + 1) _ rfl rfl 34 _ M2.out sizeAns rfl (by simp [Value.oneCell']) ?_)
  refine bodyPost_ret (v := .agg _) (results_cell_row Tryz.results7 _ _ (w.heap.size + 1) 34 _ (0, 0) _ rfl (setRow_heap _ _ _ _ _ _ M2.out) Tryz.underlying34 rfl sizeAns) rfl ?_
  exact F2.out _
set_option maxHeartbeats 4000000 in
set_option maxRecDepth 8000 in
theorem told_12 (w : World) (q : Nat) (P : Po) (F : Nat → Prop) (h : Rl w q P F) (hm : P.mark + 1 ≤ 8796093022208) (n st : Int) (am : Option Addr) (nm cm : Nat) (M : List Int) (hM : Ir w am M) (hnm : nm = M.length) (hml : M.length ≤ 8796093022208) (k : Int) (hk : ∀ i : Int, 0 ≤ i → i ≤ 11 → k ≠ i) :
    Calls Tryz.prog 7 #[.pointer (some ⟨q, 0, none⟩), .agg #[.int .i64 k, .int .i64 n, .int .i64 st], .slice am nm cm] w fun e w' => Told w F q (⟨0, 0, P.canUndo (agoV M n), [], 0⟩) (P.undo (agoV M n)) e w' := by
  have V := hide (bt (al w (.cells #[.int .i64 k, .int .i64 n, .int .i64 st] 37)) (al _ (.cells #[.int .i64 0, .int .i64 0, .bool false, .slice none 0 0, .int .i64 0] 34)))
  have hx := (al (w.alloc (.cells #[.int .i64 k, .int .i64 n, .int .i64 st] 37)) (.cells #[.int .i64 0, .int .i64 0, .bool false, .slice none 0 0, .int .i64 0] 34)).block w.heap.size (by rw [size_alloc]; omega) |>.trans (World.alloc_heap_new w (.cells #[.int .i64 k, .int .i64 n, .int .i64 st] 37))
  have x0 := cell_of_row _ _ 0 _ _ _ hx
  have x1 := cell_of_row _ _ 1 _ _ _ hx
  have x2 := cell_of_row _ _ 2 _ _ _ hx
  have M1 := hide (World.alloc_heap_new (w.alloc (.cells #[.int .i64 k, .int .i64 n, .int .i64 st] 37)) (.cells #[.int .i64 0, .int .i64 0, .bool false, .slice none 0 0, .int .i64 0] 34))
  rw [size_alloc] at M1
  have SZ := hide (show ((w.alloc (.cells #[.int .i64 k, .int .i64 n, .int .i64 st] 37)).alloc (.cells #[.int .i64 0, .int .i64 0, .bool false, .slice none 0 0, .int .i64 0] 34)).heap.size = w.heap.size + 2 by rw [size_alloc, size_alloc])
  have HV := hide (h.keep V.out)
  have H0 := hide h
  have CG := hide (show ¬ F (w.heap.size + 1) from fun e => by have := h.lt _ e; omega)
  simp only [List.getElem?_toArray, List.getElem?_cons_zero, List.getElem?_cons_succ] at x0 x1 x2
  clear h hx
  have AG := hide fun (W : World) (hb : Below w.heap.size w W) => ago_any W am nm cm M (hM.keep hb) hnm hml n
  clear hM hnm hml
  have q0 : (k == 0) = false := by simp [hk 0 (by decide) (by decide)]
  have q1 : (k == 1) = false := by simp [hk 1 (by decide) (by decide)]
  have q2 : (k == 2) = false := by simp [hk 2 (by decide) (by decide)]
  have q3 : (k == 3) = false := by simp [hk 3 (by decide) (by decide)]
  have q4 : (k == 4) = false := by simp [hk 4 (by decide) (by decide)]
  have q5 : (k == 5) = false := by simp [hk 5 (by decide) (by decide)]
  have q6 : (k == 6) = false := by simp [hk 6 (by decide) (by decide)]
  have q7 : (k == 7) = false := by simp [hk 7 (by decide) (by decide)]
  have q8 : (k == 8) = false := by simp [hk 8 (by decide) (by decide)]
  have q9 : (k == 9) = false := by simp [hk 9 (by decide) (by decide)]
  have q10 : (k == 10) = false := by simp [hk 10 (by decide) (by decide)]
  have q11 : (k == 11) = false := by simp [hk 11 (by decide) (by decide)]
  have CA := hide (qUndo_any _ q P F HV.out (agoV M n) (by omega))
  have FIN := hide fun (w2 : World) (F2 : Nat → Prop) (h2 : Rl w2 q (P.undo (agoV M n)) F2) f2 => told_fin H0.out V.out SZ.out h2 f2 (⟨0, 0, P.canUndo (agoV M n), [], 0⟩)
  go_enter Tryz.func7, Tryz.ntmps7
  go_wp2_with fail
  refine (AG.out _ V.out).mono ?_
  rintro _ wq ⟨rfl, hwq⟩
  obtain rfl := hwq.symm
  go_wp2_with fail
  generalize World.alloc (World.alloc _ _) _ = v at *
  refine CA.out.mono ?_
  rintro _ w2 ⟨rfl, F2, h2, f2⟩
  have M2 := hide ((f2.b.block _ (by rw [SZ.out]; omega) CG.out).trans M1.out)
  have F2 := hide (FIN.out w2 F2 h2 f2 none 0 (.inl rfl) (fun x hx => by cases hx))
  clear h2 f2
  clear CA FIN x0 x1 x2
  go_wp2_with (refine wpList_store_row rfl 34 _ _ rfl (w.heap.size + 1) _ rfl rfl 34 _ M2.out sizeAns rfl (by simp [Value.oneCell']) ?_)
  refine bodyPost_ret (v := .agg _) (results_cell_row Tryz.results7 _ _ (w.heap.size + 1) 34 _ (0, 0) _ rfl (setRow_heap _ _ _ _ _ _ M2.out) Tryz.underlying34 rfl sizeAns) rfl ?_
  exact F2.out _
theorem told_any (w : World) (q : Nat) (P : Po) (F : Nat → Prop) (h : Rl w q P F) (hm : P.mark + 1 ≤ 8796093022208) (am : Option Addr) (nm cm : Nat) (M : List Int) (hM : Ir w am M) (hnm : nm = M.length) (hml : M.length ≤ 8796093022208) (o : Ov) :
    Calls Tryz.prog 7 #[.pointer (some ⟨q, 0, none⟩), .agg #[.int .i64 o.1, .int .i64 o.2.1, .int .i64 o.2.2], .slice am nm cm] w fun e w' => Told w F q (P.askM M o).1 (P.askM M o).2 e w' := by
  obtain ⟨k, n, st⟩ := o
  unfold Po.askM
  simp only
  by_cases hk : 0 ≤ k ∧ k ≤ 11
  · rw [if_pos hk]
    unfold Po.ask
    simp only
    by_cases h0 : k = 0
    · rw [if_pos h0]; subst h0; exact told_0 w q P F h hm n st am nm cm
    rw [if_neg h0]
    by_cases h1 : k = 1
    · rw [if_pos h1]; subst h1; exact told_1 w q P F h hm n st am nm cm
    rw [if_neg h1]
    by_cases h2 : k = 2
    · rw [if_pos h2]; subst h2; exact told_2 w q P F h hm n st am nm cm
    rw [if_neg h2]
    by_cases h3 : k = 3
    · rw [if_pos h3]; subst h3; exact told_3 w q P F h hm n st am nm cm
    rw [if_neg h3]
    by_cases h4 : k = 4
    · rw [if_pos h4]; subst h4; exact told_4 w q P F h hm n st am nm cm
    rw [if_neg h4]
    by_cases h5 : k = 5
    · rw [if_pos h5]; subst h5; exact told_5 w q P F h hm n st am nm cm
    rw [if_neg h5]
    by_cases h6 : k = 6
    · rw [if_pos h6]; subst h6; exact told_6 w q P F h hm n st am nm cm
    rw [if_neg h6]
    by_cases h7 : k = 7
    · rw [if_pos h7]; subst h7; exact told_7 w q P F h hm n st am nm cm
    rw [if_neg h7]
    by_cases h8 : k = 8
    · rw [if_pos h8]; subst h8; exact told_8 w q P F h hm n st am nm cm
    rw [if_neg h8]
    by_cases h9 : k = 9
    · rw [if_pos h9]; subst h9; exact told_9 w q P F h hm n st am nm cm
    rw [if_neg h9]
    by_cases h10 : k = 10
    · rw [if_pos h10]; subst h10; exact told_10 w q P F h hm n st am nm cm
    rw [if_neg h10]
    by_cases h11 : k = 11
    · rw [if_pos h11]; subst h11; exact told_11 w q P F h hm n st am nm cm
    rw [if_neg h11]
    omega
  · rw [if_neg hk]
    exact told_12 w q P F h hm n st am nm cm M hM hnm hml k (fun i i0 i1 e => by omega)
end Go.Proofs.YtceeeofkigkpkaaGreat
