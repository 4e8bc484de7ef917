import Derived.Test.YtdfhalhllmnnbaaEAD
namespace Go.Proofs.Ytdfhalhllmnnbaa
set_option linter.unusedVariables false
open Go.RowKit

/-! ### PoolLeavesWhatLasts -/
theorem pcounts_len (P : Po) : P.counts.length = P.pg.length := by unfold Po.counts; rw [List.length_map]
theorem Np.away {w w1 : World} {b : Nat} {P : Po} {col : Nat → Nat} (h : Np w w1 b P col) {k : Nat} (hk : w1.heap.size ≤ k) : col k = 0 := by
  by_cases e : col k = 0
  · exact e
  · have := h.p.lt k e; omega
/-- a page that does not last had the count 0 when it was last settled -/
def Lt (P : Po) (K : List Int) : Prop := K.length = P.pg.length ∧ ∀ i, i < P.pg.length → (P.pg.getD i Pg.zero).2 = false → K.getD i 0 = 0
theorem act_two (P : Po) (n : Nat) (c : Int) (i : Nat) : ((P.act n c).pg.getD i Pg.zero).2 = (P.pg.getD i Pg.zero).2 := by
  show ((P.pg.set (n - 1) (c, (P.pg.getD (n - 1) Pg.zero).2)).getD i Pg.zero).2 = _
  simp only [List.getD_eq_getElem?_getD, List.getElem?_set]
  by_cases e : n - 1 = i
  · subst e
    by_cases h : n - 1 < P.pg.length
    · simp [h]
    · simp [h]
  · simp [e]
theorem Lt.act {P : Po} {K : List Int} (h : Lt P K) (n : Nat) (c : Int) : Lt (P.act n c) K := by
  have e : (P.act n c).pg.length = P.pg.length := List.length_set
  exact ⟨by rw [e]; exact h.1, fun i hi h2 => h.2 i (by rw [e] at hi; exact hi) (by rw [act_two] at h2; exact h2)⟩
theorem Lt.alloc {P : Po} {K : List Int} (h : Lt P K) : Lt P.alloc.2 K := by
  unfold Po.alloc
  split
  · exact h
  · exact h.act _ _
theorem Lt.step {P : Po} {K : List Int} (h : Lt P K) (o : Ov) (h10 : o.1 ≠ 10) : Lt (P.step o) K := by
  unfold Po.step
  by_cases h0 : o.1 = 0
  · rw [if_pos h0]; exact h.alloc
  rw [if_neg h0]
  by_cases h1 : o.1 = 1
  · rw [if_pos h1]
    unfold Po.inc
    split
    · exact h
    · split
      · exact h
      · exact h.act _ _
  rw [if_neg h1]
  by_cases h2 : o.1 = 2
  · rw [if_pos h2]
    unfold Po.dec
    split
    · exact h
    · exact h.act _ _
  rw [if_neg h2, if_neg h10]
  exact h
theorem Lt.counts {P : Po} (h : P.Ok) (hs : ∀ x ∈ P.pg, x.2 = decide (0 < x.1)) : Lt P P.counts := by
  refine ⟨pcounts_len P, fun i hi h2 => ?_⟩
  have m := getD_memP hi
  have e : P.counts.getD i 0 = (P.pg.getD i Pg.zero).1 := by unfold Po.counts; simp [hi]
  rw [e]
  have a := hs _ m
  rw [h2] at a
  have b := (h.cs _ m).1
  have := of_decide_eq_false a.symm
  omega
theorem Lt.start {r : Int} {C : List Int} (h : (Po.start r C).Ok) : Lt (Po.start r C) (Po.start r C).counts := Lt.counts h fun x hx => by
  obtain ⟨c, _, rfl⟩ := List.mem_map.1 (show x ∈ C.map _ from hx)
  rfl
theorem Lt.settle {P : Po} (h : P.Ok) : Lt P.settle P.settle.counts := Lt.counts h.settle fun x hx => by
  obtain ⟨c, _, rfl⟩ := List.mem_map.1 (show x ∈ P.pg.map _ from hx)
  rfl
theorem pages_one (P : Po) : P.pages 1 = pagesOf P.pg 1 := by unfold Po.pages; rw [if_pos (by decide)]; rfl
theorem alloc_none {P : Po} (h : P.pages 1 = []) : P.alloc = ((0, 12), P) := by
  rw [pages_one] at h; unfold Po.alloc; rw [h]
theorem alloc_some {P : Po} {K : List Int} (hL : Lt P K) {x : Int} {t : List Int} (h : P.pages 1 = x :: t) : P.alloc.1.1 = x ∧ P.alloc.1.2 = 0 ∧ 1 ≤ x ∧ x ≤ P.pg.length ∧ K.getD (x - 1).toNat 0 = 0 ∧ P.alloc.2.count x = 1 ∧ P.alloc.2.state x = 3 := by
  rw [pages_one] at h
  have e : P.alloc = ((x, 0), P.act x.toNat 1) := by unfold Po.alloc; rw [h]
  obtain ⟨z1, z2, z3⟩ := inS_iff.1 ((mem_pagesOf P.pg 1 x).1 (by rw [h]; exact List.mem_cons_self))
  obtain ⟨n, rfl⟩ : ∃ n : Nat, x = (n : Int) := ⟨x.toNat, by omega⟩
  rw [Int.toNat_natCast] at e
  have hn : n - 1 < P.pg.length := by omega
  have ez : ((n : Int) - 1).toNat = n - 1 := by omega
  rw [ez] at z3
  have two : (P.pg.getD (n - 1) Pg.zero).2 = false := by
    unfold stt at z3
    cases hb : (P.pg.getD (n - 1) Pg.zero).2 with
    | false => rfl
    | true => rw [hb] at z3; split at z3 <;> simp at z3
  have ha : (P.act n 1).pg.getD (n - 1) Pg.zero = (1, false) := by
    show (P.pg.set (n - 1) (1, (P.pg.getD (n - 1) Pg.zero).2)).getD (n - 1) Pg.zero = _
    rw [two, List.getD_eq_getElem?_getD, List.getElem?_set_self hn]; rfl
  have hl : (P.act n 1).pg.length = P.pg.length := List.length_set
  have hh : (P.act n 1).has n = true := Po.has_iff.2 ⟨by omega, by rw [hl]; omega⟩
  rw [e, ez]
  refine ⟨rfl, rfl, z1, z2, hL.2 _ hn two, ?_, ?_⟩
  · show (P.act n 1).count n = 1
    unfold Po.count
    rw [if_pos hh, ez, ha]
  · show (P.act n 1).state n = 3
    unfold Po.state
    rw [if_pos hh, ez, ha]; rfl
/-- a row of numbers apart from a pool -/
structure Lk (W : World) (c : Nat → Nat) (a : Option Addr) (d : Nat) (K : List Int) : Prop where
  r : Ig W a d K
  o : ∀ x, a = some x → c x.block = 0
theorem Lk.step {W W' : World} {c c' : Nat → Nat} {a : Option Addr} {d : Nat} {K : List Int} (h : Lk W c a d K) (f : Fr W c W' c') : Lk W' c' a d K := ⟨h.r.but f.b (fun x hx hc => hc (h.o x hx)), fun x hx => (f.c _ (h.r.lt hx)).trans (h.o x hx)⟩
theorem Lk.keep {W W' : World} {c : Nat → Nat} {a : Option Addr} {d : Nat} {K : List Int} (h : Lk W c a d K) (hb : Below W.heap.size W W') : Lk W' c a d K := ⟨h.r.keep hb, h.o⟩
theorem Lk.of {w W W' : World} {b : Nat} {P : Po} {c : Nat → Nat} {a : Option Addr} {d : Nat} {K : List Int} (h : Np w W b P c) (hI : IOwn W W' a d K) : Lk W' c a d K := ⟨hI.r, fun x hx => h.away (by
  rcases hI.n x hx with ⟨y, hy, _⟩ | h2
  · cases hy
  · exact h2)⟩
set_option maxHeartbeats 8000000 in
set_option maxRecDepth 8000 in
theorem poolLeaves_any (w : World) (l : Bool) (n r : Int) (a : Option Addr) (cap : Nat) (C : List Int) (hC : Ir w a C) (hN : C.length ≤ 17592186043904) (aF : Option Addr) (cF : Nat) (T : List Ov) (hT : Oq w aF T) (hTl : T.length ≤ 5864062014805) :
    Calls Try.prog 5 #[.agg #[.bool l, .int .i64 n, .int .i64 r, .slice a C.length cap], .slice aF T.length cF] w fun e w' => e = .returned (.bool true) ∧ Below w.heap.size w w' := by
  have aw := al w (.cells #[.bool l, .int .i64 n, .int .i64 r, .slice a C.length cap] 24)
  have FX := hide (fixed_any (w.alloc (.cells #[.bool l, .int .i64 n, .int .i64 r, .slice a C.length cap] 24)))
  have bx := World.alloc_heap_new w (.cells #[.bool l, .int .i64 n, .int .i64 r, .slice a C.length cap] 24)
  have BX := hide (show ∀ W, Below (w.alloc (.cells #[.bool l, .int .i64 n, .int .i64 r, .slice a C.length cap] 24)).heap.size (w.alloc (.cells #[.bool l, .int .i64 n, .int .i64 r, .slice a C.length cap] 24)) W → W.cell? ⟨w.heap.size, 0, none⟩ = some (.bool l) ∧ W.cell? ⟨w.heap.size, 1, none⟩ = some (.int .i64 n) ∧ W.cell? ⟨w.heap.size, 2, none⟩ = some (.int .i64 r) ∧ W.cell? ⟨w.heap.size, 3, none⟩ = some (.slice a C.length cap) from fun W hb => by
    have h := (hb.block w.heap.size (Array.getElem?_eq_some_iff.1 bx).1).trans bx
    rw [cell_of_row _ _ _ _ _ _ h, cell_of_row _ _ _ _ _ _ h, cell_of_row _ _ _ _ _ _ h, cell_of_row _ _ _ _ _ _ h]
    exact ⟨rfl, rfl, rfl, rfl⟩)
  have MD := hide fun (W : World) (hb : Below w.heap.size w W) => made_any W l n r a C.length cap C (hC.keep hb) rfl (by omega)
  have HT := hide hT
  have AW := hide aw
  obtain ⟨m, hm⟩ : ∃ m, T.length = m := ⟨_, rfl⟩
  have HM := hide hm
  rw [hm] at hTl ⊢
  generalize C.length = k at *
  clear aw bx hC hT hm
  go_enter Try.func5, Try.ntmps5
  go_wp2_with fail
  generalize w.alloc (.cells #[.bool l, .int .i64 n, .int .i64 r, .slice a k cap] 24) = W0 at *
  refine FX.out.mono ?_
  rintro _ w1 ⟨rfl, hb⟩
  obtain ⟨x0, x1, x2, x3⟩ := BX.out _ hb
  have B1 := hide (bt AW.out hb)
  clear hb FX BX
  go_wp2_with fail
  refine (MD.out _ B1.out).mono ?_
  rintro e w2 (⟨-, rfl, hb2⟩ | ⟨-, b, q, col, cb, lb, rfl, hT2⟩)
  · have B2 := hide (bt B1.out hb2)
    clear hb2 MD x0 x1 x2 x3
    go_wp2
    go_ret
    exact ⟨rfl, B2.out⟩
  have H0 := hide (show Np w w2 b (Po.start r (cnB l n C)) col from ⟨hT2.np.p, bt B1.out hT2.np.b, fun k hk => by have := hT2.np.n k hk; have := B1.out.size; omega⟩)
  have LT0 := hide (Lt.start hT2.np.p.ok)
  clear hT2 MD x0 x1 x2 x3
  obtain ⟨P0, hP0⟩ : ∃ P0, Po.start r (cnB l n C) = P0 := ⟨_, rfl⟩
  have M0 : P0.mark = 0 := by rw [← hP0]; rfl
  rw [hP0] at H0 LT0
  clear hP0
  have CN := hide (Counts_any w2 b P0 col H0.out.p)
  go_wp2_with fail
  refine CN.out.mono ?_
  rintro _ w3 ⟨a3, d3, rfl, hI⟩
  have L3 := hide (Lk.of H0.out hI)
  have H3 := hide (H0.out.keep hI.b)
  clear hI CN H0
  go_wp2_with fail
  go_loopw [8, 9, 10, 11, 12, 13] (fun s i _ _ _ _ wr => ∃ (j : Nat) (c' : Nat → Nat) (a' : Option Addr) (d' : Nat) (K : List Int), j ≤ m ∧ i = .int .i64 (j : Int) ∧ s = .slice a' K.length d' ∧ Np w wr b (P0.play (T.take j)) c' ∧ Lk wr c' a' d' K ∧ Lt (P0.play (T.take j)) K) (fun _ i _ _ _ _ _ => m - (intOf i).toNat)
  case atStart => exact ⟨0, col, a3, d3, _, Nat.zero_le _, rfl, rfl, H3.out, L3.out, LT0.out⟩
  case round =>
    clear H3 L3 LT0
    obtain ⟨j, c', a', d', K, hj, rfl, rfl, hNp, hLk, hLt⟩ := hrel
    have H := hide hNp
    have LK := hide hLk
    have LT := hide hLt
    obtain ⟨kn, hkn⟩ : ∃ kn, K.length = kn := ⟨_, rfl⟩
    have HK := hide hkn
    rw [hkn]
    clear hNp hLk hLt hkn
    by_cases hlt : j < m
    · have hjl : j < T.length := by rw [HM.out]; exact hlt
      obtain ⟨b1, o1, rfl, t0, t1, t2⟩ := (HT.out.keep H.out.b).at hjl
      have hmk := P0.play_mark (T.take j)
      rw [List.length_take, M0] at hmk
      have PS := hide (Po.play_snoc (P := P0) hjl)
      have hji : (j : Int) < (m : Int) := by omega
      obtain ⟨ov, hov⟩ : ∃ ov, T.getD j Ov.zero = ov := ⟨_, rfl⟩
      rw [hov] at t0 t1 t2 PS
      obtain ⟨o0, o2, o3⟩ := ov
      simp only at t0 t1 t2
      clear hov
      obtain ⟨P, hP⟩ : ∃ P, P0.play (T.take j) = P := ⟨_, rfl⟩
      rw [hP] at H LT PS hmk
      clear hP
      have aw := al wr (.cells #[.int .i64 o0, .int .i64 o2, .int .i64 o3] 35)
      have bx := World.alloc_heap_new wr (.cells #[.int .i64 o0, .int .i64 o2, .int .i64 o3] 35)
      have BX := hide bx
      have AWY := hide (H.out.away (Nat.le_refl _))
      have H1 := hide (H.out.keep aw)
      have LK1 := hide (LK.out.keep aw)
      have SZ := hide (Array.getElem?_eq_some_iff.1 bx).1
      clear aw bx LK
      by_cases h0 : o0 = 0
      · subst h0
        have ST : P.step (0, o2, o3) = P.alloc.2 := by unfold Po.step; rw [if_pos rfl]
        rw [ST] at PS
        have WK := hide (walked_any _ b P c' H1.out.p 1 (-1))
        rw [wl_all] at WK
        clear ST BX AWY SZ
        go_wp2_with fail
        refine WK.out.mono ?_
        rintro _ w4 ⟨a4, d4, rfl, hI⟩
        have L4 := hide (Lk.of H1.out hI)
        have H4 := hide (H1.out.keep hI.b)
        have LK4 := hide (LK1.out.keep hI.b)
        clear hI WK H1 LK1 t0 t1 t2
        have AL := hide (Alloc_any w4 b P c' H4.out.p (by have := P.ac_mark; omega))
        cases hF : P.pages 1 with
        | nil =>
          have LA := hide LT.out.alloc
          rw [alloc_none hF] at AL PS LA
          simp only [List.length_nil]
          clear hF L4
          go_wp2_with fail
          refine AL.out.mono ?_
          rintro _ w5 ⟨rfl, c5, h5, f5⟩
          have H5 := hide (H4.out.step h5 f5)
          have LK5 := hide (LK4.out.step f5)
          clear h5 f5 AL H4 LK4
          go_wp2
          go_roundw
          case rel => exact ⟨j + 1, c5, a', d', K, by omega, by go_num, by rw [HK.out], by rw [PS.out]; exact H5.out, LK5.out, by rw [PS.out]; exact LA.out⟩
          case measure => simp [intOf]; omega
        | cons x t =>
          have LA := hide LT.out.alloc
          obtain ⟨f1, f2, f3, f4, f5, f6, f7⟩ := alloc_some LT.out hF
          have hx2 := H4.out.p.ok.l2
          have hKl := LT.out.1
          rw [HK.out] at hKl
          rw [f1, f2] at AL
          rw [hF] at L4
          generalize P.alloc.2 = P1 at *
          obtain ⟨tl, htl⟩ : ∃ tl, (x :: t).length = tl + 1 := ⟨_, rfl⟩
          have htl2 : tl ≤ 65536 := by
            have := Po.pages_len H4.out.p.ok 1
            rw [hF, htl] at this; omega
          have HTL := hide htl
          rw [htl]
          clear hF f1 f2 htl
          obtain ⟨z, rfl⟩ : ∃ z : Nat, x = (z : Int) + 1 := ⟨(x - 1).toNat, by omega⟩
          rw [show ((z : Int) + 1 - 1).toNat = z by omega] at f5
          have hzk : (z : Int) < (kn : Int) := by omega
          have hkk : kn ≤ 65536 := by omega
          clear hKl f3 f4 hx2
          go_wp2_with fail
          refine AL.out.mono ?_
          rintro _ w5 ⟨rfl, c5, h5, f9⟩
          have H5 := hide (H4.out.step h5 f9)
          have LK5 := hide (LK4.out.step f9)
          have L5 := hide (L4.out.step f9)
          clear h5 f9 AL H4 LK4 L4
          obtain ⟨b4, o4, rfl, m4⟩ := L5.out.r.ir.at (j := 0) (by rw [HTL.out]; omega)
          obtain ⟨b6, o6, rfl, m6⟩ := LK5.out.r.ir.at (j := z) (by rw [HK.out]; omega)
          rw [f5] at m6
          rw [Nat.add_zero, List.getD_cons_zero] at m4
          have CO := hide (Count_pl w5 b P1 c5 H5.out.p ((z : Int) + 1))
          have STT := hide (State_pl w5 b P1 c5 H5.out.p ((z : Int) + 1))
          rw [f6] at CO
          rw [f7] at STT
          clear f5 f6 f7 L5
          have e2 : (((tl : Int) + 1) == 0) = false := by simp; omega
          have e3 : (((z : Int) + 1) != ((z : Int) + 1)) = false := by simp
          have e4 : decide ((z : Int) + 1 < 1) = false := decide_eq_false (by omega)
          have e5 : decide ((kn : Int) < (z : Int) + 1) = false := decide_eq_false (by omega)
          have e6 : ¬ (kn : Int) < (z : Int) + 1 := by omega
          have e7 : ¬ (z : Int) + 1 < 1 := by omega
          have s1 : IntKind.i64.wrap (z : Int) = (z : Int) := wrapI (by omega) (by omega)
          have s2 : wrap64 (z : Int) = (z : Int) := by unfold wrap64; omega
          go_wp2_with fail
          refine CO.out.mono ?_
          rintro _ wq ⟨rfl, hwq⟩
          obtain rfl := hwq.symm
          go_wp2_with fail
          refine STT.out.mono ?_
          rintro _ w6 ⟨rfl, hb⟩
          have H6 := hide (H5.out.keep hb)
          have LK6 := hide (LK5.out.keep hb)
          clear hb
          go_wp2
          go_roundw
          case rel => exact ⟨j + 1, c5, some ⟨b6, o6, none⟩, d', K, by omega, by go_num, by rw [HK.out], by rw [PS.out]; exact H6.out, LK6.out, by rw [PS.out]; exact LA.out⟩
          case measure => simp [intOf]; omega
      · have e0 : (o0 != 0) = true := by simp [h0]
        have AC := hide (acted_any _ b P c' H1.out.p (o0, o2, o3) (by omega))
        rw [← PS.out] at AC
        go_wp2_with fail
        refine AC.out.mono ?_
        rintro _ w3 ⟨rfl, c3, h3, f3⟩
        have cx : w3.cell? ⟨wr.heap.size, 0, none⟩ = some (.int .i64 o0) := by
          have h := (f3.b.block wr.heap.size SZ.out (fun h => h AWY.out)).trans BX.out
          rw [cell_of_row _ _ _ _ _ _ h]; rfl
        have H3 := hide (H1.out.step h3 f3)
        have LK3 := hide (LK1.out.step f3)
        clear h3 f3 AC t0 t1 t2 BX AWY SZ H1 LK1
        by_cases h10 : o0 = 10
        · subst h10
          have ST : P.step (10, o2, o3) = P.settle := by unfold Po.step; simp
          have LS := hide (Lt.settle H.out.p.ok)
          rw [ST] at PS
          rw [← PS.out] at LS
          have CN := hide (Counts_any w3 b _ c3 H3.out.p)
          clear ST
          go_wp2_with fail
          refine CN.out.mono ?_
          rintro _ w4 ⟨a4, d4, rfl, hI⟩
          have L4 := hide (Lk.of H3.out hI)
          have H4 := hide (H3.out.keep hI.b)
          clear hI CN
          go_wp2
          go_roundw
          case rel => exact ⟨j + 1, c3, a4, d4, _, by omega, by go_num, rfl, H4.out, L4.out, LS.out⟩
          case measure => simp [intOf]; omega
        · have e1 : (o0 == 10) = false := by simp [h10]
          have LS := hide (LT.out.step (o0, o2, o3) h10)
          rw [← PS.out] at LS
          go_wp2
          go_roundw
          case rel => exact ⟨j + 1, c3, a', d', K, by omega, by go_num, by rw [HK.out], H3.out, LK3.out, LS.out⟩
          case measure => simp [intOf]; omega
    · obtain rfl : j = m := by omega
      go_wp2
      go_ret
      exact ⟨rfl, H.out.b⟩
end Go.Proofs.Ytdfhalhllmnnbaa
