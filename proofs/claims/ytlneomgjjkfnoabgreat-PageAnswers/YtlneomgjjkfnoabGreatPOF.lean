import Derived.Test.YtlneomgjjkfnoabGreatPOE
namespace Go.Proofs.YtlneomgjjkfnoabGreat
open Go.RowKit

theorem Bx.ct_page {w : World} {g : Nat} {no gen : Int} {p : Pv} (h : Bx w 62 g (ctc no gen p)) : w.rangeAt g 2 p.cs.toList := by
  intro j u hj
  have hlt : j < 5 := (List.getElem?_eq_some_iff.1 hj).1
  rw [cell_of_row _ _ _ _ _ _ h]
  match j, hlt with
  | 0, _ => simpa [Pv.cs, ctc] using hj
  | 1, _ => simpa [Pv.cs, ctc] using hj
  | 2, _ => simpa [Pv.cs, ctc] using hj
  | 3, _ => simpa [Pv.cs, ctc] using hj
  | 4, _ => simpa [Pv.cs, ctc] using hj
theorem rd_items_le {l : List Nat} (hb : B8 l) (h : 14 ≤ l.length) : (rdAll ⟨l, 0⟩).1.page.items.length ≤ 255 := by
  unfold rdAll
  rw [rd_head h]
  unfold rdBody
  dsimp only
  split
  · unfold rdPart
    simp only [Nat.reduceEqDiff, ↓reduceIte]
    rw [rdItems_length]
    have := RS.get_lt (k := 1) (s := ⟨l.drop 14, 0⟩) (drop_b8 hb 14)
    omega
  · split
    · unfold rdPart
      simp only [Nat.reduceEqDiff, ↓reduceIte]
      simp
    · simp
theorem five_set {w : World} {g : Nat} {t : TypeId} {o0 o1 o2 o3 o4 : Value} (h : Bx w t g #[o0, o1, o2, o3, o4]) (v0 v1 v2 v3 v4 : Value) :
    Bx (((((w.setCell ⟨g, 0, none⟩ v0).setCell ⟨g, 1, none⟩ v1).setCell ⟨g, 2, none⟩ v2).setCell ⟨g, 3, none⟩ v3).setCell ⟨g, 4, none⟩ v4).drew t g #[v0, v1, v2, v3, v4] ∧
    But (fun k => k = g) w (((((w.setCell ⟨g, 0, none⟩ v0).setCell ⟨g, 1, none⟩ v1).setCell ⟨g, 2, none⟩ v2).setCell ⟨g, 3, none⟩ v3).setCell ⟨g, 4, none⟩ v4).drew := by
  have h5 := ((((h.setc 0 v0).setc 1 v1).setc 2 v2).setc 3 v3).setc 4 v4
  have e : ((((#[o0, o1, o2, o3, o4].setIfInBounds 0 v0).setIfInBounds 1 v1).setIfInBounds 2 v2).setIfInBounds 3 v3).setIfInBounds 4 v4 = #[v0, v1, v2, v3, v4] := by simp
  rw [e] at h5
  have b0 := (But.refl (fun k => k = g) w).setCell (p := ⟨g, 0, none⟩) (fun _ => rfl) v0
  have b1 := b0.setCell (p := ⟨g, 1, none⟩) (fun _ => rfl) v1
  have b2 := b1.setCell (p := ⟨g, 2, none⟩) (fun _ => rfl) v2
  have b3 := b2.setCell (p := ⟨g, 3, none⟩) (fun _ => rfl) v3
  have b4 := b3.setCell (p := ⟨g, 4, none⟩) (fun _ => rfl) v4
  exact ⟨h5.keep (dr2 _), b4.drew⟩
set_option maxRecDepth 8000 in
set_option maxHeartbeats 6400000 in
theorem Decode_go (w : World) (no : Int) (a : Option Addr) (c : Nat) (b : List Nat) (hB : Bs w a b) (hi : isNum no = true) (hl : b.length = 512) (hc : 512 ≤ c) (hs : numV (b.drop 508) = M.of (b.take 508)) :
    Calls Tryz.prog 21 #[.int .i64 no, .slice a 512 c] w (DecQ w no b) := by
  obtain ⟨bk, off, rfl, _⟩ := hB.at (j := 0) (by omega)
  have HFI := hide (dec_fin hB.1 hl hi hs)
  have HER := hide (fun (h : decE no b ≠ 0) w' hb => decQ_err (w := w) (w' := w') (no := no) (b := b) h hb)
  have HOK := hide (fun (h : decE no b = 0) => (show (rdAll ⟨b.take 508, 0⟩).1.page = decP no b ∧ (rdAll ⟨b.take 508, 0⟩).1.gen = (decG no b : Int) from by
    have h2 := rd_same hi (decE_zero h).2.2.2.2
    unfold decP decG
    rw [if_pos h, if_pos h]
    exact h2))
  have IN := hide fun w1 => isNumber_any w1 no
  rw [hi] at IN
  have SU := hide fun (w1 : World) (hb : Below w.heap.size w w1) => Open_yes w1 (some ⟨bk, off, none⟩) c b (hB.keep hb) hl hc hs
  have ht : (b.take 508).length = 508 := by rw [List.length_take]; omega
  have HIL := hide (rd_items_le (l := b.take 508) (hB.take 508).1 (by omega))
  have M0 := hide (Bx.new w 27 Pv.zero.cs)
  clear hi hl hB hs ht
  generalize b.take 508 = D at *
  unfold Pv.zero Pv.cs at M0
  simp only [List.length_nil] at M0
  go_enter Tryz.func21, Tryz.ntmps21
  go_wp2_with (go_at_call 32; refine (IN.out _).mono ?_; rintro y w1 ⟨rfl, hww⟩; obtain rfl := hww.symm)
  refine (SU.out _ (al _ _)).mono ?_
  rintro y v ⟨rb, rfl, hk, hrb, hbv⟩
  have T2 := hide (bt (al w _) hbv)
  have M2 := hide (M0.out.keep hbv)
  have HRB := hide (show w.heap.size + 1 ≤ rb from by rw [size_alloc] at hrb; exact hrb)
  have R3 : Hid (Rc v (v.alloc (.cells (ctc 0 0 Pv.zero) 62)) rb v.heap.size ⟨D, 0⟩ Ct.zero) := ⟨Pv.zero, rfl, hk.keep (al _ _), content_new v, Pn.zero _ _⟩
  clear hk hrb hbv M0 IN SU
  have RD := hide fun (w1 : World) (h : Rc v w1 rb v.heap.size ⟨D, 0⟩ Ct.zero) => read_any v w1 rb v.heap.size ⟨D, 0⟩ h (Nat.le_refl _)
  simp only [ctc, Pv.zero, List.length_nil] at R3
  go_wp2_with fail
  refine (RD.out _ R3.out).mono ?_
  rintro y w4 ⟨rfl, hR, hU⟩
  have R4 := hide hR
  have HU := hide (show But (Bc rb v.heap.size) v w4 from (But.ofBelow (al v _)).c3 hU)
  clear hR hU R3 RD
  generalize rdAll ⟨D, 0⟩ = R at *
  obtain ⟨CT, SN⟩ := R
  obtain ⟨cno, cgen, cpg⟩ := CT
  dsimp only at *
  obtain ⟨P, hpg, hR⟩ := R4.out
  dsimp only at hpg hR
  subst hpg
  have R5 := hide hR
  clear hR R4
  go_wp2_with fail
  refine (kZeros R5.out.k).mono ?_
  rintro y w5 ⟨rfl, hk5, hb5⟩
  have R6 := hide (R5.out.call (Nat.le_refl _) hk5 hb5)
  have HU := hide (HU.out.c3 (But.c1 (cb := v.heap.size) hb5))
  clear hk5 hb5 R5
  generalize SN.zeros = SZ at *
  have HPI := hide (R6.out.p.pi (by have h := HIL.out; have h2 : P.pg.items.length = P.items.length := (by simp [Pv.pg]); omega))
  have FA := hide (faults_any w5)
  have H0 : Hid (Kt w5 w5.heap.size (w5.alloc (.cells #[.int .i64 0] 34)) 0) := ⟨Bx.new w5 34 #[.int .i64 0], al _ _, Nat.le_refl _⟩
  have TN := hide fun (w1 : World) (e : Nat) (hk : Kt w5 w5.heap.size w1 e) (wrong : Bool) (xi : Int) (hx : 0 ≤ xi) => tell_any w5 w1 w5.heap.size e 62 v.heap.size _ hk (R6.out.c.keep hk.b) (by have := R6.out.c.lt; omega) wrong xi xi.toNat (by omega)
  have CK := hide fun (w1 : World) (hb : Below w5.heap.size w5 w1) => Check_any w1 P (HPI.out.keep hb)
  have EN := hide fun (w1 : World) (hb : Below w5.heap.size w5 w1) => kEnd (R6.out.k.keep hb)
  have CC := hide fun (w1 : World) (hb : Below w5.heap.size w5 w1) => Bx.ct (R6.out.c.keep hb)
  unfold tv fv at FA
  obtain ⟨kind, level, aI, cI, items, aD, cD, data, next⟩ := P
  simp only [Pv.vl, Pv.cs] at CK
  dsimp only at CC
  go_wp2_with fail
  refine FA.out.mono ?_
  rintro y w6 ⟨rfl, hw6⟩
  obtain rfl := hw6.symm
  clear hw6 FA
  have H := hide H0.out
  obtain ⟨c0, c1, c2, c3, c4, c5, c6⟩ := CC.out _ H.out.b
  go_wp2_with (first | (go_at_call 71; refine (TN.out _ _ H.out _ _ (by decide)).mono ?_; rintro y w7 ⟨rfl, hk, _, _⟩; have H := hide hk; obtain ⟨c0, c1, c2, c3, c4, c5, c6⟩ := CC.out _ hk.b; clear hk) | (go_at_call 41; refine (EN.out _ H.out.b).mono ?_; rintro y w7 ⟨rfl, hww⟩; obtain rfl := hww.symm) | (go_at_call 33; refine (isGeneration_any _ _).mono ?_; rintro y w7 ⟨rfl, hww⟩; obtain rfl := hww.symm) | (go_at_call 24; refine (CK.out _ H.out.b).mono ?_; rintro y w7 ⟨rfl, hb7⟩; have H := hide (H.out.keep hb7); obtain ⟨c0, c1, c2, c3, c4, c5, c6⟩ := CC.out _ H.out.b; clear hb7) | fail)
  rw [HFI.out] at H
  have HM := hide fun (w9 : World) (hb : Below w5.heap.size w5 w9) => (show Bx w9 27 w.heap.size #[.int .i64 0, .int .i64 0, .slice none 0 0, .slice none 0 0, .int .i64 0] from (M2.out.but HU.out (by have h1 := HRB.out; have h2 := M2.out.lt; unfold Bc; omega)).keep hb)
  have HBW := hide (show Below w.heap.size w w5 from ((But.ofBelow (S := fun _ => False) T2.out).trans HU.out fun x hx e => by have h1 := HRB.out; have h2 := T2.out.size; unfold Bc at e; omega).below fun _ _ h => h)
  have PP := hide R6.out.p
  have hvw : v.heap.size ≠ w.heap.size := by have := M2.out.lt; omega
  have hwv : w.heap.size ≠ v.heap.size := by omega
  have HSV := hide T2.out.size
  clear HFI TN CK EN CC H0 HPI M2 T2 HU R6 HRB
  refine (first_any _ _ _ H.out.c).mono ?_
  rintro y w9 ⟨rfl, hww⟩
  obtain rfl := hww.symm
  clear hww
  by_cases hE : decE no b = 0
  · obtain ⟨hP1, hP2⟩ := HOK.out hE
    rw [hE] at H ⊢
    have HD := hide (show ∀ w', Pn w w' ⟨kind, level, aI, cI, items, aD, cD, data, next⟩ → Below w.heap.size w w' → DecQ w no b (.returned (.tuple #[Pv.vl ⟨kind, level, aI, cI, items, aD, cD, data, next⟩, .int .i64 cgen, .int .i64 0])) w' from fun w' h1 h2 => ⟨_, by rw [hE, ← hP2]; rfl, hP1, h1, by have h := HIL.out; simpa [Pv.pg] using h, h2⟩)
    clear hP1 hP2 HOK HER hE
    go_wp2
    have MB := HM.out _ H.out.b
    have m0 := MB.cell 0 rfl
    have m1 := MB.cell 1 rfl
    have m2 := MB.cell 2 rfl
    have m3 := MB.cell 3 rfl
    have m4 := MB.cell 4 rfl
    have g0 : _ = false := frozen_of_row _ w.heap.size 0 _ _ MB
    have g1 : _ = false := frozen_of_row _ w.heap.size 1 _ _ MB
    have g2 : _ = false := frozen_of_row _ w.heap.size 2 _ _ MB
    have g3 : _ = false := frozen_of_row _ w.heap.size 3 _ _ MB
    have g4 : _ = false := frozen_of_row _ w.heap.size 4 _ _ MB
    have F5 := hide (five_set MB (.int .i64 kind) (.int .i64 level) (.slice aI items.length cI) (.slice aD data.length cD) (.int .i64 next))
    go_region
    go_wp2
    refine bodyPost_ret (v := .tuple #[.agg _, _, _]) (results_cell_two Tryz.results21 _ _ w.heap.size 27 _ (0, 0) _ rfl F5.out.1 Tryz.underlying27 rfl sizePage) rfl ?_
    refine HD.out _ ((((PP.out.keep H.out.b).but F5.out.2 fun k hk => by subst hk; exact ⟨27, _, MB, by decide, by decide⟩).pre HSV.out)) ?_
    exact ((But.ofBelow (S := fun _ => False) (bt HBW.out H.out.b)).trans F5.out.2 fun x hx e => by omega).below fun _ _ h => h
  · have hE' : (((decE no b : Nat) : Int) == 0) = false := by simpa using hE
    have HD := hide (HER.out hE)
    clear HOK HER hE
    generalize decE no b = er at *
    go_wp2_with (refine wpList_store_row rfl 27 _ _ rfl w.heap.size _ rfl rfl 27 _ (HM.out _ H.out.b) sizePage rfl (by simp [Value.oneCell']) ?_)
    refine bodyPost_ret (v := .tuple #[.agg _, _, _]) (results_cell_two Tryz.results21 _ _ w.heap.size 27 _ (0, 0) _ rfl (setRow_heap _ _ _ _ _ _ (HM.out _ H.out.b)) Tryz.underlying27 rfl sizePage) rfl ?_
    exact HD.out _ (below_setRow (bt HBW.out H.out.b) (Nat.le_refl _) _)
theorem Decode_any (w : World) (no : Int) (a : Option Addr) (n c : Nat) (b : List Nat) (hB : Bs w a b) (hn : n = b.length) (hc : b.length ≤ c) :
    Calls Tryz.prog 21 #[.int .i64 no, .slice a n c] w (DecQ w no b) := by
  cases hi : isNum no with
  | false => exact Decode_no w no a n c b hi
  | true =>
    by_cases hl : b.length = 512
    · obtain rfl : n = 512 := by omega
      by_cases hs : numV (b.drop 508) = M.of (b.take 508)
      · exact Decode_go w no a c b hB hi hl (by omega) hs
      · exact Decode_sum w no a c b hB hi hl (by omega) hs
    · exact Decode_len w no a n c b hn hi hl
end Go.Proofs.YtlneomgjjkfnoabGreat
