import Derived.Test.YtbhigodjbfoeoaaGreatWpHR
import Derived.Test.YtbhigodjbfoeoaaGreatWpHQ
import Derived.Test.YtbhigodjbfoeoaaGreatWpEN
namespace Go.Proofs.YtbhigodjbfoeoaaGreat
set_option linter.unusedVariables false
set_option linter.unusedSimpArgs false
open Go.RowKit
theorem Vw.counts {w : World} {b : Nat} {S : Vs} {pb mb : Nat} {pc col : Nat → Nat} (h : Vw w b S pb mb pc col) : Calls Tryz.prog 12 #[.pointer (some ⟨pb, 0, none⟩)] w fun e w' => ∃ a c, e = .returned (.slice a S.X.P.counts.length c) ∧ Q.IOwn w w' a c S.X.P.counts := by
  obtain ⟨ac, cc, aa, ca, hq⟩ := h
  exact Q.Counts_any w pb _ _ hq.pool
theorem Vw.tally {w : World} {b : Nat} {S : Vs} {pb mb : Nat} {pc col : Nat → Nat} (h : Vw w b S pb mb pc col) : Calls Tryz.prog 23 #[.pointer (some ⟨pb, 0, none⟩), .int .i64 1] w fun e w' => e = .returned (.int .i64 (((S.X.P.pages 1).length : Nat) : Int)) ∧ Below w.heap.size w w' := by
  obtain ⟨ac, cc, aa, ca, hq⟩ := h
  exact Q.Tally_any w pb _ _ hq.pool 1
theorem Vw.clen {w : World} {b : Nat} {S : Vs} {pb mb : Nat} {pc col : Nat → Nat} (h : Vw w b S pb mb pc col) : S.X.P.counts.length ≤ 65536 := by
  have := h.ok.l2
  unfold Q.Po.counts
  rw [List.length_map]; exact this
theorem Vw.lb {w : World} {b : Nat} {S : Vs} {pb mb : Nat} {pc col : Nat → Nat} (h : Vw w b S pb mb pc col) : b < w.heap.size := by
  obtain ⟨aa, ca, hx⟩ := h.vx
  exact hx.lb
/-- what is held at the head of the loop -/
structure Bh (w : World) (b pb mb : Nat) (S0 S1 : Vs) (x : Iv) (l : List Nat) (xb : Nat) (aB aC : Option Addr) (cB cC : List Int) (wx : World) (j : Nat) (S : Vs) (pc col : Nat → Nat) : Prop where
  k : Bk w b pb mb x xb aB aC cB cC wx S pc col
  st : Sto wx col S x l
  sim : Sim S.X S1.X
  la : S.al.length ≤ 20 * (j + 1)
  lm : S.X.P.mark ≤ 20 * (j + 1)
  lc : S.X.ch.length ≤ 20 * (j + 1)
theorem Bh.keep {w : World} {b pb mb : Nat} {S0 S1 : Vs} {x : Iv} {l : List Nat} {xb : Nat} {aB aC : Option Addr} {cB cC : List Int} {wx wy : World} {j : Nat} {S : Vs} {pc col : Nat → Nat} (h : Bh w b pb mb S0 S1 x l xb aB aC cB cC wx j S pc col) (hb : Below wx.heap.size wx wy) : Bh w b pb mb S0 S1 x l xb aB aC cB cC wy j S pc col :=
  ⟨h.k.keep hb, h.st.keep hb, h.sim, h.la, h.lm, h.lc⟩
theorem Bh.next {w : World} {b pb mb : Nat} {S0 S1 : Vs} {x : Iv} {l : List Nat} {xb : Nat} {aB aC : Option Addr} {cB cC : List Int} {wx : World} {j : Nat} {S : Vs} {pc col : Nat → Nat} (h : Bh w b pb mb S0 S1 x l xb aB aC cB cC wx j S pc col) : Bh w b pb mb S0 S1 x l xb aB aC cB cC wx (j + 1) S pc col :=
  ⟨h.k, h.st, h.sim, by have := h.la; omega, by have := h.lm; omega, by have := h.lc; omega⟩
/-- a vault call that leaves all as it was -/
theorem Bh.same {w : World} {b pb mb : Nat} {S0 S1 : Vs} {x : Iv} {l : List Nat} {xb : Nat} {aB aC : Option Addr} {cB cC : List Int} {wx wy : World} {j : Nat} {S : Vs} {pc col pc' col' : Nat → Nat} (h : Bh w b pb mb S0 S1 x l xb aB aC cB cC wx j S pc col) (hf : Vf wx col wy col') (hv : Vw wy b S pb mb pc' col') : Bh w b pb mb S0 S1 x l xb aB aC cB cC wy j S pc' col' :=
  ⟨h.k.go hf hv rfl h.k.fine, h.st.go hf (fun _ _ => ⟨rfl, rfl⟩), h.sim, h.la, h.lm, h.lc⟩
set_option maxHeartbeats 32000000 in
set_option maxRecDepth 16000 in
theorem blobBack_main (w : World) (p : Nat) (hp1 : 1 ≤ p) (hp2 : p ≤ 300) (ak : Option Addr) (ck : Nat) (key : List Nat) (hK : Bs w ak key) (av : Option Addr) (cv : Nat) (l : List Nat) (hV : Bs w av l) (hcv : l.length ≤ cv) (a1 : Option Addr) (c1 : Nat) (T : List Br) (hT : Bl w a1 T) (hN : T.length ≤ 200) :
    Calls Tryz.prog 6 #[.int .i64 (p : Int), .slice ak key.length ck, .slice av l.length cv, .slice a1 T.length c1] w fun e w' => e = .returned (.bool true) ∧ Below w.heap.size w w' := by
  have FX := hide (fixed13_any w)
  have NW := hide fun (W : World) => vNew_yes W (p : Int) 2 (by simp [Q.fits]; omega)
  have HT := hide hT
  have HK := hide hK
  have HV := hide hV
  have OK : Hid (∀ x, ak = some x → 1 ≤ key.length → x.block < w.heap.size) := fun x hx hl => by
    obtain ⟨g, o, e, hc⟩ := hK.at (j := 0) (by omega)
    rw [hx] at e
    cases e
    exact block_lt_of_cell hc
  have OV : Hid (32 < l.length → ∀ x, av = some x → x.block < w.heap.size) := fun hl x hx => by
    obtain ⟨g, o, e, hc⟩ := hV.at (j := 0) (by omega)
    rw [hx] at e
    cases e
    exact block_lt_of_cell hc
  have HCV := hide hcv
  have N6 : Hid (N64 ((l.length : Nat) : Int)) := by show _ ∧ _; have := hV.2.1; omega
  have PG := hide fun (W : World) => bPages_any W ((l.length : Nat) : Int) N6.out
  simp only [np_bpn l] at PG
  have hkn : key.length ≤ 9223372036854775807 := hK.2.1
  have hln : l.length ≤ 9223372036854775807 := hV.2.1
  clear hT hK hV hcv N6
  obtain ⟨tl, htl⟩ : ∃ tl, T.length = tl := ⟨_, rfl⟩
  have HTL := hide htl
  rw [htl] at hN ⊢
  clear htl
  obtain ⟨kn, hk⟩ : ∃ kn, key.length = kn := ⟨_, rfl⟩
  have HKN := hide hk
  rw [hk] at hkn ⊢
  clear hk
  obtain ⟨ln, hl⟩ : ∃ ln, l.length = ln := ⟨_, rfl⟩
  have HLN := hide hl
  rw [hl] at hln ⊢
  simp only [hl] at PG
  clear hl
  obtain ⟨q, hq⟩ : ∃ q, np l = q := ⟨_, rfl⟩
  have HQ := hide hq
  simp only [hq] at PG
  clear hq
  have e1 : decide ((p : Int) < 1) = false := decide_eq_false (by omega)
  have e2 : decide ((300 : Int) < (p : Int)) = false := decide_eq_false (by omega)
  have e3 : decide ((200 : Int) < (tl : Int)) = false := decide_eq_false (by omega)
  go_enter Tryz.func6, Tryz.ntmps6
  go_wp2_with fail
  refine FX.out.mono ?_
  rintro _ w1 ⟨rfl, hb1⟩
  have B1 := hide hb1
  clear hb1 FX
  go_wp2_with fail
  refine (NW.out w1).mono ?_
  rintro _ w2 ⟨b, rfl, pb, mb, pc, col, hV, hb2, hcol⟩
  obtain ⟨S0, hS0⟩ : ∃ S0, Vs.start (Q.Po.start 2 (List.replicate (p : Int).toNat 0)) = S0 := ⟨_, rfl⟩
  rw [hS0] at hV
  have V0 := hide hV
  have OLD : Hid (∀ k, k < w.heap.size → col k = 0) := fun k hk => by
      by_cases h0 : col k = 0
      · exact h0
      · have := hcol k h0; have := B1.out.size; omega
  have B2 := hide (bt B1.out hb2)
  have F0 : Hid (Fine S0.X.f ∧ S0.fl = 0 ∧ S0.al.length = 0 ∧ S0.X.P.mark = 0 ∧ S0.X.ch.length = 0 ∧ (S0.X.P.pages 1).length = p) := by
    rw [← hS0]
    exact ⟨fun k q e => (by cases e), rfl, rfl, rfl, rfl, by show ((Q.Po.start 2 (List.replicate (p : Int).toNat 0)).pages 1).length = p; rw [Int.toNat_natCast]; exact start_free 2 p⟩
  clear hV hb2 hcol NW B1 hS0
  have c0 := V0.out.c0
  have lb := V0.out.lb
  have CN := hide V0.out.counts
  go_wp2_with fail
  refine CN.out.mono ?_
  rintro _ w3 ⟨aB, capB, rfl, hO⟩
  have RB := hide hO.r.ir
  have NB : Hid (∀ y, aB = some y → S0.X.P.counts ≠ [] → col y.block = 0) := fun y hy _ => by
    rcases hO.n y hy with ⟨_, e, _⟩ | e
    · cases e
    · exact V0.out.z e
  have V3 := hide (V0.out.keep hO.b)
  have B3 := hide (bt B2.out hO.b)
  have CL := hide V0.out.clen
  clear hO CN c0 lb V0 B2
  obtain ⟨cB, hcB⟩ : ∃ cB, S0.X.P.counts = cB := ⟨_, rfl⟩
  have HCB := hide hcB
  rw [hcB] at RB NB CL ⊢
  clear hcB
  obtain ⟨cn, hcn⟩ : ∃ cn, cB.length = cn := ⟨_, rfl⟩
  have HCN := hide hcn
  rw [hcn] at CL ⊢
  clear hcn
  have hcl := CL.out
  by_cases hk24 : kn < 1 ∨ 24 < kn
  · as_aux_lemma =>
    have KY := hide (Store_key w3 (.pointer (some ⟨b, 0, none⟩)) ak av kn ck ln cv (by omega))
    by_cases hk0 : kn < 1
    · have d1 : decide ((kn : Int) < 1) = true := decide_eq_true (by omega)
      go_wp2_with fail
      refine KY.out.mono ?_
      rintro _ w4 ⟨rfl, hb4⟩
      have V4 := hide (V3.out.keep hb4)
      have B4 := hide (bt B3.out hb4)
      have R4 := hide (RB.out.keep hb4)
      clear hb4
      have ZV : Hid (Iv.zero.vl = .agg #[.slice none 0 0, .slice none 0 0, .int .i64 0, .int .i64 0]) := rfl
      rw [ZV.out]
      have A5 := hide (al w4 (.cells #[.slice none 0 0, .slice none 0 0, .int .i64 0, .int .i64 0] 34))
      have V5 := hide (V4.out.keep A5.out)
      have B5 := hide (bt B4.out A5.out)
      have R5 := hide (R4.out.keep A5.out)
      have c0 := V4.out.c0
      have lb := V4.out.lb
      have CN := hide V5.out.counts
      rw [HCB.out, HCN.out] at CN
      go_wp2_with fail
      refine CN.out.mono ?_
      rintro _ w6 ⟨a6, c6, rfl, hO⟩
      have EQ := hide (Q.EqInts_same w6 a6 aB cn cn c6 capB cB hO.r.ir (R5.out.keep hO.b) HCN.out.symm HCN.out.symm (by have := HCN.out; omega))
      have B6 := hide (bt B5.out hO.b)
      clear hO CN c0
      go_wp2_with fail
      refine EQ.out.mono ?_
      rintro _ w7 ⟨rfl, hb7⟩
      have B7 := hide (bt B6.out hb7)
      clear hb7
      go_wp2_with fail
      go_ret
      exact ⟨rfl, B7.out⟩
    · have d1 : decide ((kn : Int) < 1) = false := decide_eq_false (by omega)
      have d2 : decide ((24 : Int) < (kn : Int)) = true := decide_eq_true (by omega)
      go_wp2_with fail
      refine KY.out.mono ?_
      rintro _ w4 ⟨rfl, hb4⟩
      have V4 := hide (V3.out.keep hb4)
      have B4 := hide (bt B3.out hb4)
      have R4 := hide (RB.out.keep hb4)
      clear hb4
      have ZV : Hid (Iv.zero.vl = .agg #[.slice none 0 0, .slice none 0 0, .int .i64 0, .int .i64 0]) := rfl
      rw [ZV.out]
      have A5 := hide (al w4 (.cells #[.slice none 0 0, .slice none 0 0, .int .i64 0, .int .i64 0] 34))
      have V5 := hide (V4.out.keep A5.out)
      have B5 := hide (bt B4.out A5.out)
      have R5 := hide (R4.out.keep A5.out)
      have c0 := V4.out.c0
      have lb := V4.out.lb
      have CN := hide V5.out.counts
      rw [HCB.out, HCN.out] at CN
      go_wp2_with fail
      refine CN.out.mono ?_
      rintro _ w6 ⟨a6, c6, rfl, hO⟩
      have EQ := hide (Q.EqInts_same w6 a6 aB cn cn c6 capB cB hO.r.ir (R5.out.keep hO.b) HCN.out.symm HCN.out.symm (by have := HCN.out; omega))
      have B6 := hide (bt B5.out hO.b)
      clear hO CN c0
      go_wp2_with fail
      refine EQ.out.mono ?_
      rintro _ w7 ⟨rfl, hb7⟩
      have B7 := hide (bt B6.out hb7)
      clear hb7
      go_wp2_with fail
      go_ret
      exact ⟨rfl, B7.out⟩
  by_cases hl38 : 3840 < ln
  · as_aux_lemma =>
    have KY := hide (Store_val w3 (.pointer (some ⟨b, 0, none⟩)) ak av kn ck ln cv (by omega) (by omega) hl38)
    have d1 : decide ((3840 : Int) < (ln : Int)) = true := decide_eq_true (by omega)
    go_wp2_with fail
    refine KY.out.mono ?_
    rintro _ w4 ⟨rfl, hb4⟩
    have V4 := hide (V3.out.keep hb4)
    have B4 := hide (bt B3.out hb4)
    have R4 := hide (RB.out.keep hb4)
    clear hb4
    have ZV : Hid (Iv.zero.vl = .agg #[.slice none 0 0, .slice none 0 0, .int .i64 0, .int .i64 0]) := rfl
    rw [ZV.out]
    have A5 := hide (al w4 (.cells #[.slice none 0 0, .slice none 0 0, .int .i64 0, .int .i64 0] 34))
    have V5 := hide (V4.out.keep A5.out)
    have B5 := hide (bt B4.out A5.out)
    have R5 := hide (R4.out.keep A5.out)
    have c0 := V4.out.c0
    have lb := V4.out.lb
    have CN := hide V5.out.counts
    rw [HCB.out, HCN.out] at CN
    go_wp2_with fail
    refine CN.out.mono ?_
    rintro _ w6 ⟨a6, c6, rfl, hO⟩
    have EQ := hide (Q.EqInts_same w6 a6 aB cn cn c6 capB cB hO.r.ir (R5.out.keep hO.b) HCN.out.symm HCN.out.symm (by have := HCN.out; omega))
    have B6 := hide (bt B5.out hO.b)
    clear hO CN c0
    go_wp2_with fail
    refine EQ.out.mono ?_
    rintro _ w7 ⟨rfl, hb7⟩
    have B7 := hide (bt B6.out hb7)
    clear hb7
    go_wp2_with fail
    go_ret
    exact ⟨rfl, B7.out⟩
  have d1 : decide ((kn : Int) < 1) = false := decide_eq_false (by omega)
  have d2 : decide ((24 : Int) < (kn : Int)) = false := decide_eq_false (by omega)
  have d3 : decide ((3840 : Int) < (ln : Int)) = false := decide_eq_false (by omega)
  have q8 : q ≤ 8 := by rw [← HQ.out]; exact np_le (by rw [HLN.out]; omega)
  have SA := hide (Store_all w3 b S0 pb mb pc col V3.out ak ck key (HK.out.keep B3.out) (fun x hx => OLD.out _ (OK.out x hx (by rw [HKN.out]; omega))) (by rw [HKN.out]; omega) (by rw [HKN.out]; omega) av cv l (HV.out.keep B3.out) (fun hl x hx => OLD.out _ (OV.out hl x hx)) HCV.out (by rw [HLN.out]; omega) F0.out.1 (by have := F0.out; omega) (by have := F0.out; omega) (by have := F0.out; omega) (by have := F0.out; omega))
  rw [HKN.out, HLN.out, HQ.out] at SA
  have OK0 := hide V3.out.ok
  have hl39 : ln ≤ 3840 := by omega
  clear hk24 hl38
  go_wp2_with fail
  refine SA.out.mono ?_
  rintro _ w4 ⟨pc4, col4, hF, (⟨S1, x, rfl, xk, xr, xc, hSt, hSp, hBy, hV⟩ | ⟨rfl, hfr, hV⟩)⟩
  rotate_left
  · have V4 := hide hV
    have B4 : Hid (Below w.heap.size w w4) := ((But.ofBelow (S := fun k => 1 ≤ col k ∧ col k ≤ 5) B3.out).trans hF.b (fun _ _ e => e)).below (fun k hk e => by rw [OLD.out k hk] at e; omega)
    have R4 := hide (RB.out.but hF.b (fun y hy hl e => by rw [NB.out y hy hl] at e; omega))
    have dqn : p < q := by have := F0.out; omega
    have dq : decide ((p : Int) < (q : Int)) = true := decide_eq_true (by omega)
    clear hV hF SA hfr
    have ZV : Hid (Iv.zero.vl = .agg #[.slice none 0 0, .slice none 0 0, .int .i64 0, .int .i64 0]) := rfl
    rw [ZV.out]
    have A5 := hide (al w4 (.cells #[.slice none 0 0, .slice none 0 0, .int .i64 0, .int .i64 0] 34))
    have V5 := hide (V4.out.keep A5.out)
    have B5 := hide (bt B4.out A5.out)
    have R5 := hide (R4.out.keep A5.out)
    have c0 := V4.out.c0
    have lb := V4.out.lb
    have CN := hide V5.out.counts
    rw [HCB.out, HCN.out] at CN
    go_wp2_with fail
    refine (PG.out _).mono ?_
    rintro _ wq ⟨rfl, hwq⟩
    rw [hwq]
    clear hwq
    go_wp2_with fail
    refine CN.out.mono ?_
    rintro _ w6 ⟨a6, c6, rfl, hO⟩
    have EQ := hide (Q.EqInts_same w6 a6 aB cn cn c6 capB cB hO.r.ir (R5.out.keep hO.b) HCN.out.symm HCN.out.symm (by have := HCN.out; omega))
    have B6 := hide (bt B5.out hO.b)
    clear hO CN c0
    go_wp2_with fail
    refine EQ.out.mono ?_
    rintro _ w7 ⟨rfl, hb7⟩
    have B7 := hide (bt B6.out hb7)
    clear hb7
    go_wp2_with fail
    go_ret
    exact ⟨rfl, B7.out⟩
  have V4 := hide hV
  have xs : x.size = (ln : Int) := by rw [hSt.size, HLN.out]
  have xl : x.key.length = kn := by rw [xk, HKN.out]
  obtain ⟨vn, hvn⟩ : ∃ vn, x.val.length = vn := ⟨_, rfl⟩
  have XV : Hid (x.vl = .agg #[.slice x.aK kn x.cK, .slice x.aV vn x.cV, .int .i64 x.child, .int .i64 (ln : Int)]) := by show _ = _; unfold Iv.vl Iv.cs; rw [xl, xs, hvn]
  have XC : Hid (x.cs = #[.slice x.aK kn x.cK, .slice x.aV vn x.cV, .int .i64 x.child, .int .i64 (ln : Int)]) := by show _ = _; unfold Iv.cs; rw [xl, xs, hvn]
  have XS := hide xs
  have XK := hide xk
  have XR := hide xr
  have ST4 := hide hSt
  have SP := hide hSp
  have BY := hide hBy
  have A5 := hide (al w4 (.cells x.cs 34))
  have X5 := hide (heap_alloc_new w4 (.cells x.cs 34))
  have K5 : Hid (Bk w b pb mb x w4.heap.size aB none cB [] (w4.alloc (.cells x.cs 34)) S1 pc4 col4) := by
    have sz := B3.out.size
    refine ⟨hV.keep A5.out, fun k hk => (hF.c k (by omega)).trans (OLD.out k hk), ?_, hSp.fl.trans F0.out.2.1, Ve.fine hSp.v F0.out.1, X5.out, hV.z (Nat.le_refl _), (RB.out.but hF.b (fun y hy hl e => by rw [NB.out y hy hl] at e; omega)).keep A5.out, fun y hy hl => (hF.c _ (ir_lt RB.out hy hl)).trans (NB.out y hy hl), .inl rfl, fun y hy => by cases hy⟩
    exact bt (((But.ofBelow (S := fun k => 1 ≤ col k ∧ col k ≤ 5) B3.out).trans hF.b (fun _ _ e => e)).below (fun k hk e => by rw [OLD.out k hk] at e; omega)) A5.out
  have ST5 := hide (ST4.out.keep A5.out)
  have XR5 := hide (XR.out.keep A5.out)
  have xbl : w4.heap.size < (w4.alloc (.cells x.cs 34)).heap.size := (Array.getElem?_eq_some_iff.1 X5.out).1
  have FR : Hid ((S1.X.P.pages 1).length + q = p) := by show _ = _; rw [SP.out.fr]; exact F0.out.2.2.2.2.2
  have BD : Hid (S1.al.length ≤ 20 ∧ S1.X.P.mark ≤ 20 ∧ S1.X.ch.length ≤ 20) := by show _ ∧ _ ∧ _; have := F0.out; have := SP.out.la; have := SP.out.lm; have := SP.out.lc; omega
  clear hF hV hSt hSp hBy xk xr xc xs xl hvn SA ST4 XR V4 V3 RB NB OLD A5 X5 B3 OK OV F0
  rw [XV.out]
  rw [XC.out] at K5 ST5 XR5 xbl
  go_wp2_with fail
  generalize (w4.alloc (.cells #[.slice x.aK kn x.cK, .slice x.aV vn x.cV, .int .i64 x.child, .int .i64 (ln : Int)] 34)) = w5 at *
  generalize w4.heap.size = xb at *
  have BX5 := hide K5.out.box
  rw [XC.out] at BX5
  obtain ⟨x0, x1, x2, x3⟩ := four13 BX5.out
  refine (PG.out _).mono ?_
  rintro _ wq ⟨rfl, hwq⟩
  rw [hwq]
  clear hwq
  have c0 := K5.out.v.c0
  have lb := K5.out.v.lb
  have TA := hide K5.out.v.tally
  obtain ⟨fr, hfr⟩ : ∃ fr, (S1.X.P.pages 1).length = fr := ⟨_, rfl⟩
  rw [hfr] at TA FR
  clear hfr
  have ef : ((fr : Int) != (p : Int) - (q : Int)) = false := by have := FR.out; simp; omega
  have en : ((ln : Int) != (ln : Int)) = false := by simp
  go_wp2_with fail
  refine TA.out.mono ?_
  rintro _ w6 ⟨rfl, hb6⟩
  have K6 := hide (K5.out.keep hb6)
  have ST6 := hide (ST5.out.keep hb6)
  have XR6 := hide (XR5.out.keep hb6)
  have BX6 := hide K6.out.box
  rw [XC.out] at BX6
  have KB8 : Hid (B8 key) := HK.out.1
  have EQ := hide (EqBytes_same w6 x.aK ak kn kn x.cK ck key (XR6.out.bs KB8.out XR6.out.len_le) (HK.out.keep K6.out.bel) HKN.out.symm HKN.out.symm)
  clear hb6 K5 ST5 XR5 BX5 x0 x1 x2 x3 c0 lb TA xbl
  obtain ⟨x0, x1, x2, x3⟩ := four13 BX6.out
  go_wp2_with fail
  refine EQ.out.mono ?_
  rintro _ w7 ⟨rfl, hb7⟩
  have K7 := hide (K6.out.keep hb7)
  have ST7 := hide (ST6.out.keep hb7)
  have CN := hide K7.out.v.counts
  have c0 := K7.out.v.c0
  have lb := K7.out.v.lb
  clear hb7 K6 ST6 XR6 BX6 x0 x1 x2 x3 EQ
  go_wp2_with fail
  refine CN.out.mono ?_
  rintro _ w8 ⟨aC, capC, rfl, hO⟩
  obtain ⟨cC, hcC⟩ : ∃ cC, S1.X.P.counts = cC := ⟨_, rfl⟩
  have HCC := hide hcC
  rw [hcC] at hO ⊢
  clear hcC
  have H8 : Hid (Bh w b pb mb S0 S1 x l xb aB aC cB cC w8 0 S1 pc4 col4) := by
    have k := K7.out.keep hO.b
    refine ⟨⟨k.v, k.old, k.bel, k.fl, k.fine, k.box, k.bc, k.rb, k.rbc, hO.r.ir, fun y hy _ => ?_⟩, ST7.out.keep hO.b, Sim.refl _, ?_, ?_, ?_⟩
    · rcases hO.n y hy with ⟨_, e, _⟩ | e
      · cases e
      · exact K7.out.v.z e
    · have := BD.out; omega
    · have := BD.out; omega
    · have := BD.out; omega
  have CL2 : Hid (cC.length ≤ 65536) := by show _ ≤ _; rw [← HCC.out]; exact K7.out.v.clen
  clear hO K7 ST7 CN c0 lb BD
  obtain ⟨cm, hcm⟩ : ∃ cm, cC.length = cm := ⟨_, rfl⟩
  have HCM := hide hcm
  rw [hcm] at CL2 ⊢
  clear hcm
  have hcl2 := CL2.out
  have hcv : ∀ (W : World) (C : Array Value) (n c g : Nat), W.heap.size = g → (convert 32 32 (.slice (some ⟨g, 0, none⟩) n c)).run Tryz.prog (W.alloc (.cells C 5)) = .ok (.slice (some ⟨g, 0, none⟩) n c) (W.alloc (.cells C 5 (C.size, C.size + 1))) := by
    intro W C n c g hg
    subst hg
    exact Lib.run_convert_bytes_const W 32 5 C n c Tryz.underlying32 Tryz.underlying5
  go_wp2_with fail
  go_loopw [16] (fun vj wx => ∃ (j : Nat) (S : Vs) (pc col : Nat → Nat), j ≤ tl ∧ vj = .int .i64 (j : Int) ∧ Bh w b pb mb S0 S1 x l xb aB aC cB cC wx j S pc col) (fun vj _ => tl - (intOf vj).toNat)
  case atStart => exact ⟨0, S1, pc4, col4, Nat.zero_le _, rfl, H8.out⟩
  case round =>
    clear H8
    obtain ⟨j, S, pc5, col5, hj, rfl, hH⟩ := hrel
    have HH := hide hH
    clear hH
    by_cases hlt : j < tl
    · have hji : (j : Int) < (tl : Int) := by omega
      have hjT : j < T.length := by rw [HTL.out]; exact hlt
      obtain ⟨g1, off, rfl, cKw⟩ := HT.out.c j hjT
      have MT : Hid (T.getD j Br0 ∈ T) := by show _ ∈ _; simp [hjT]
      obtain ⟨t, ht⟩ : ∃ t, T.getD j Br0 = t := ⟨_, rfl⟩
      rw [ht] at cKw MT
      clear ht
      have BTW := hide (HT.out.r t MT.out).1
      have hct := (HT.out.r t MT.out).2
      have OT : Hid (32 < t.l.length → ∀ x, t.a = some x → x.block < w.heap.size) := fun hl x hx => by
        obtain ⟨g, o, e, hc⟩ := BTW.out.at (j := 0) (by omega)
        rw [hx] at e
        cases e
        exact block_lt_of_cell hc
      obtain ⟨ta, tc, tlst⟩ := t
      unfold bv at cKw
      simp only at cKw BTW hct OT MT
      have cK := (HH.out.k.bel.cell (p := ⟨g1, off + j, none⟩) (block_lt_of_cell cKw)).trans cKw
      have glt : g1 < wr.heap.size := block_lt_of_cell cK
      have A0 := hide (al wr (.cells #[.int .u8 111] 5 (1, 2)))
      have X0 := hide (heap_alloc_new wr (.cells #[.int .u8 111] 5 (1, 2)))
      have KB : Hid (Bs (wr.alloc (.cells #[.int .u8 111] 5 (1, 2))) (some ⟨wr.heap.size, 0, none⟩) [111]) := ⟨fun x hx => by have := List.mem_singleton.1 hx; omega, by decide, .inr ⟨_, _, rfl, fun i hi => by
        have : i = 0 := by simpa using hi
        subst this
        rw [cell_of_row _ _ _ _ _ _ X0.out]; rfl⟩⟩
      have P0 := hide (HH.out.keep A0.out)
      have SV := hide fun (s : Nat) (hs : 3840 < s) => Store_val (wr.alloc (.cells #[.int .u8 111] 5 (1, 2))) (.pointer (some ⟨b, 0, none⟩)) (some ⟨wr.heap.size, 0, none⟩) ta 1 1 s tc (by decide) (by decide) hs
      have SA := hide fun (hl : tlst.length ≤ 3840) => Store_all (wr.alloc (.cells #[.int .u8 111] 5 (1, 2))) b S pb mb pc5 col5 P0.out.k.v (some ⟨wr.heap.size, 0, none⟩) 1 [111] KB.out (fun x hx => by cases hx; exact HH.out.k.v.z (Nat.le_refl _)) (by decide) (by decide) ta tc tlst (BTW.out.keep P0.out.k.bel) (fun hl x hx => P0.out.k.old _ (OT.out hl x hx)) hct hl P0.out.k.fine (by have := P0.out.k.fl; have := P0.out.la; omega) (by have := P0.out.la; omega) (by have := P0.out.lm; omega) (by have := P0.out.lc; omega)
      simp only [List.length_cons, List.length_nil, Nat.zero_add] at SA
      have NQ := hide fun (h : tlst.length ≤ 3840) => np_le h
      obtain ⟨n, hn⟩ : ∃ n, tlst.length = n := ⟨_, rfl⟩
      have HN := hide hn
      simp only [hn] at SA cK hct NQ cKw
      clear hn hct KB X0 cKw
      have hnb : n ≤ 9223372036854775807 := by have := BTW.out.2.1; rw [HN.out] at this; exact this
      by_cases hv : n ≤ 3840
      · have S1a := hide (SA.out hv)
        clear SA SV
        go_wp2_with fail
        refine S1a.out.mono ?_
        rintro _ w9 ⟨pc9, col9, hF, (⟨S', y, rfl, yk, yr, yc, hSt, hSp, hBy, hV⟩ | ⟨rfl, hfr, hV⟩)⟩
        · as_aux_lemma =>
          have n8 : np tlst ≤ 8 := NQ.out hv
          have K9 := hide (P0.out.k.go hF hV hSp.fl (Ve.fine hSp.v P0.out.k.fine))
          have T9 := hide (P0.out.st.go hF (fun z hz => ⟨(hSp.st z hz).1, by rw [(hSp.st z hz).2]⟩))
          have F9 := hide hF
          have SP := hide hSp
          have BY2 := hide hBy
          have YS : Hid (y.size = ((tlst.length : Nat) : Int)) := hSt.size
          clear hF hV hSt hSp hBy yk yr yc S1a cK glt NQ
          have YV : Hid (y.vl = .agg #[.slice y.aK y.key.length y.cK, .slice y.aV y.val.length y.cV, .int .i64 y.child, .int .i64 y.size]) := rfl
          rw [YV.out]
          have A10 := hide (al w9 (.cells y.cs 34))
          have X10 := hide (heap_alloc_new w9 (.cells y.cs 34))
          have K10 := hide (K9.out.keep A10.out)
          have T10 := hide (T9.out.keep A10.out)
          have BX := hide K9.out.box
          rw [XC.out] at BX
          obtain ⟨x0, x1, x2, x3⟩ := four13 BX.out
          have xbl : xb < w9.heap.size := (Array.getElem?_eq_some_iff.1 BX.out).1
          have LD := hide (Load_all _ b S' pb mb pc9 col9 K10.out.v x l T10.out)
          rw [XV.out, HLN.out] at LD
          simp only [Iv.cs] at LD A10 X10 K10 T10
          go_wp2_with fail
          refine LD.out.mono ?_
          rintro _ w11 ⟨ar, cr, rfl, hO⟩
          have K11 := hide (K10.out.keep hO.b)
          have B11 := hide (bt A10.out hO.b)
          have X11 := hide (blk13 X10.out hO.b)
          have EQ := hide (EqBytes_same w11 ar av ln ln cr cv l (hO.r.bs HV.out.1 hO.r.len_le) (HV.out.keep K11.out.bel) HLN.out.symm HLN.out.symm)
          clear hO LD x0 x1 x2 x3 xbl BX K10 T10 A10 X10
          go_wp2_with fail
          refine EQ.out.mono ?_
          rintro _ w12 ⟨rfl, hb12⟩
          have K12 := hide (K11.out.keep hb12)
          have B12 := hide (bt B11.out hb12)
          have X12 := hide (blk13 X11.out hb12)
          obtain ⟨z0, z1, z2, z3⟩ := four13 X12.out
          have ybl : w9.heap.size < w12.heap.size := (Array.getElem?_eq_some_iff.1 X12.out).1
          have RL := hide (Release_all w12 b S S' S' pb mb pc9 col9 K12.out.v (Sim.refl _) y tlst P0.out.k.v.ok BY2.out YS.out K12.out.fine (by have := SP.out.lm; have := P0.out.lm; omega) (by have := SP.out.lc; have := P0.out.lc; omega) (by have := SP.out.la; have := P0.out.la; omega) (by rw [HN.out]; exact hv))
          rw [YV.out] at RL
          clear hb12 EQ K11 B11 X11
          go_wp2_with fail
          refine RL.out.mono ?_
          rintro _ w13 ⟨rfl, S'', pc13, col13, hV, hF, hsim, hfl, hfi, hm, hc, ha⟩
          have H13 : Hid (Bh w b pb mb S0 S1 x l xb aB aC cB cC w13 (j + 1) S'' pc13 col13) := ⟨K12.out.go hF hV hfl hfi, P0.out.st.go (F9.out.trans ((Vf.keep B12.out).trans hF)) hsim.stays, hsim.trans P0.out.sim, by have := P0.out.la; have := SP.out.la; omega, by have := P0.out.lm; have := SP.out.lm; omega, by have := P0.out.lc; have := SP.out.lc; omega⟩
          clear hF hV hsim hfl hfi hm hc ha RL K12 X12 z0 z1 z2 z3 ybl B12
          have CN := hide H13.out.k.v.counts
          have c0 := H13.out.k.v.c0
          have lb := H13.out.k.v.lb
          rw [H13.out.sim.counts, HCC.out, HCM.out] at CN
          go_wp2_with fail
          refine CN.out.mono ?_
          rintro _ w14 ⟨a14, c14, rfl, hO⟩
          have H14 := hide (H13.out.keep hO.b)
          have EQ := hide (Q.EqInts_same w14 a14 aC cm cm c14 capC cC hO.r.ir H14.out.k.rc HCM.out.symm HCM.out.symm (by have := HCM.out; omega))
          clear hO CN c0 lb
          go_wp2_with fail
          refine EQ.out.mono ?_
          rintro _ w15 ⟨rfl, hb15⟩
          have H15 := hide (H14.out.keep hb15)
          clear hb15 EQ
          go_wp2_with fail
          go_roundw
          case rel => exact ⟨j + 1, _, _, _, by omega, by go_num, H15.out⟩
          case measure => simp [intOf]; omega
        · have H9 := hide (P0.out.same hF hV).next
          clear hF hV hfr S1a cK glt NQ
          as_aux_lemma =>
            have ZV : Hid (Iv.zero.vl = .agg #[.slice none 0 0, .slice none 0 0, .int .i64 0, .int .i64 0]) := rfl
            rw [ZV.out]
            have A10 := hide (al w9 (.cells #[.slice none 0 0, .slice none 0 0, .int .i64 0, .int .i64 0] 34))
            have H10 := hide (H9.out.keep A10.out)
            have BX := hide H9.out.k.box
            rw [XC.out] at BX
            obtain ⟨x0, x1, x2, x3⟩ := four13 BX.out
            have xbl : xb < w9.heap.size := (Array.getElem?_eq_some_iff.1 BX.out).1
            have LD := hide (Load_all _ b S pb mb pc9 col9 H10.out.k.v x l H10.out.st)
            rw [XV.out, HLN.out] at LD
            go_wp2_with fail
            refine LD.out.mono ?_
            rintro _ w11 ⟨ar, cr, rfl, hO⟩
            have H11 := hide (H10.out.keep hO.b)
            have EQ := hide (EqBytes_same w11 ar av ln ln cr cv l (hO.r.bs HV.out.1 hO.r.len_le) (HV.out.keep H11.out.k.bel) HLN.out.symm HLN.out.symm)
            clear hO LD x0 x1 x2 x3 xbl BX H10 A10
            go_wp2_with fail
            refine EQ.out.mono ?_
            rintro _ w12 ⟨rfl, hb12⟩
            have H12 := hide (H11.out.keep hb12)
            clear hb12 EQ H11
            have CN := hide H12.out.k.v.counts
            have c0 := H12.out.k.v.c0
            have lb := H12.out.k.v.lb
            rw [H12.out.sim.counts, HCC.out, HCM.out] at CN
            go_wp2_with fail
            refine CN.out.mono ?_
            rintro _ w14 ⟨a14, c14, rfl, hO⟩
            have H14 := hide (H12.out.keep hO.b)
            have EQ := hide (Q.EqInts_same w14 a14 aC cm cm c14 capC cC hO.r.ir H14.out.k.rc HCM.out.symm HCM.out.symm (by have := HCM.out; omega))
            clear hO CN c0 lb
            go_wp2_with fail
            refine EQ.out.mono ?_
            rintro _ w15 ⟨rfl, hb15⟩
            have H15 := hide (H14.out.keep hb15)
            clear hb15 EQ
            go_wp2_with fail
            go_roundw
            case rel => exact ⟨j + 1, _, _, _, by omega, by go_num, H15.out⟩
            case measure => simp [intOf]; omega
      · have S1a := hide (SV.out n (by omega))
        clear SA SV
        go_wp2_with fail
        refine S1a.out.mono ?_
        rintro _ w9 ⟨rfl, hb9⟩
        have H9 := hide (P0.out.keep hb9).next
        clear hb9 S1a cK glt NQ
        obtain ⟨pc9, hpc9⟩ : ∃ pc9, pc5 = pc9 := ⟨_, rfl⟩
        obtain ⟨col9, hcol9⟩ : ∃ col9, col5 = col9 := ⟨_, rfl⟩
        rw [hpc9, hcol9] at H9
        clear hpc9 hcol9
        as_aux_lemma =>
          have ZV : Hid (Iv.zero.vl = .agg #[.slice none 0 0, .slice none 0 0, .int .i64 0, .int .i64 0]) := rfl
          rw [ZV.out]
          have A10 := hide (al w9 (.cells #[.slice none 0 0, .slice none 0 0, .int .i64 0, .int .i64 0] 34))
          have H10 := hide (H9.out.keep A10.out)
          have BX := hide H9.out.k.box
          rw [XC.out] at BX
          obtain ⟨x0, x1, x2, x3⟩ := four13 BX.out
          have xbl : xb < w9.heap.size := (Array.getElem?_eq_some_iff.1 BX.out).1
          have LD := hide (Load_all _ b S pb mb pc9 col9 H10.out.k.v x l H10.out.st)
          rw [XV.out, HLN.out] at LD
          go_wp2_with fail
          refine LD.out.mono ?_
          rintro _ w11 ⟨ar, cr, rfl, hO⟩
          have H11 := hide (H10.out.keep hO.b)
          have EQ := hide (EqBytes_same w11 ar av ln ln cr cv l (hO.r.bs HV.out.1 hO.r.len_le) (HV.out.keep H11.out.k.bel) HLN.out.symm HLN.out.symm)
          clear hO LD x0 x1 x2 x3 xbl BX H10 A10
          go_wp2_with fail
          refine EQ.out.mono ?_
          rintro _ w12 ⟨rfl, hb12⟩
          have H12 := hide (H11.out.keep hb12)
          clear hb12 EQ H11
          have CN := hide H12.out.k.v.counts
          have c0 := H12.out.k.v.c0
          have lb := H12.out.k.v.lb
          rw [H12.out.sim.counts, HCC.out, HCM.out] at CN
          go_wp2_with fail
          refine CN.out.mono ?_
          rintro _ w14 ⟨a14, c14, rfl, hO⟩
          have H14 := hide (H12.out.keep hO.b)
          have EQ := hide (Q.EqInts_same w14 a14 aC cm cm c14 capC cC hO.r.ir H14.out.k.rc HCM.out.symm HCM.out.symm (by have := HCM.out; omega))
          clear hO CN c0 lb
          go_wp2_with fail
          refine EQ.out.mono ?_
          rintro _ w15 ⟨rfl, hb15⟩
          have H15 := hide (H14.out.keep hb15)
          clear hb15 EQ
          go_wp2_with fail
          go_roundw
          case rel => exact ⟨j + 1, _, _, _, by omega, by go_num, H15.out⟩
          case measure => simp [intOf]; omega
    · as_aux_lemma =>
      obtain rfl : j = tl := by omega
      have BX := hide HH.out.k.box
      rw [XC.out] at BX
      obtain ⟨x0, x1, x2, x3⟩ := four13 BX.out
      have xbl : xb < wr.heap.size := (Array.getElem?_eq_some_iff.1 BX.out).1
      have RL := hide (Release_all wr b S0 S1 S pb mb pc5 col5 HH.out.k.v HH.out.sim x l OK0.out BY.out (by rw [HLN.out]; exact XS.out) HH.out.k.fine (by have := HH.out.lm; omega) (by have := HH.out.lc; omega) (by have := HH.out.la; omega) (by rw [HLN.out]; omega))
      rw [XV.out] at RL
      go_wp2_with fail
      refine RL.out.mono ?_
      rintro _ w13 ⟨rfl, S2, pc13, col13, hV, hF, hsim, hfl, hfi, _, _, _⟩
      have K13 := hide (HH.out.k.go hF hV hfl hfi)
      have SM := hide hsim
      have LDD : Hid (∀ W : World, Below w13.heap.size w13 W → Calls Tryz.prog 24 #[.pointer (some ⟨b, 0, none⟩), x.vl] W fun e w' => ∃ (a : Option Addr) (n c : Nat) (er : Int), e = .returned (.tuple #[.slice a n c, .int .i64 er]) ∧ (q = 0 ∧ er = 0 ∨ 0 < q ∧ er = 15) ∧ Below W.heap.size W w') := by
        intro W hb
        rcases HH.out.st.v with ⟨h1, h2, h3, h4⟩ | ⟨h1, h2⟩
        · have r13 := h3.but hF.b (fun y hy e => by rw [h4 y hy] at e; omega)
          have rW := r13.keep hb
          refine (Load_short W (.pointer (some ⟨b, 0, none⟩)) x (by rw [h2]; exact rW.bs HV.out.1 rW.len_le) (by rw [h2]; exact h1) (by rw [h2, HLN.out]; exact XS.out)).mono ?_
          rintro _ w' ⟨a, c, rfl, hO⟩
          exact ⟨a, _, c, 0, rfl, .inl ⟨by rw [← HQ.out]; exact if_pos h1, rfl⟩, hO.b⟩
        · have hq : q = kp l := by rw [← HQ.out]; exact if_neg (by omega)
          have hsp : Spo l (kp l) S0 (kp l) S1 x.child := by
            rcases BY.out with ⟨b1, _⟩ | ⟨_, b2⟩
            · omega
            · exact b2
          have h38 : l.length ≤ 3840 := by rw [HLN.out]; omega
          refine (Load_gone W b S2 pb mb pc13 col13 (hV.keep hb) x ln (by rw [← HLN.out]; exact h1) (by omega) XS.out ?_).mono ?_
          · rw [hsim.count]
            exact spo_zero (m := (l.length - 1) / 480) OK0.out (show 480 * (kp l - 1) < l.length by unfold kp; omega) hsp
          · rintro _ w' ⟨rfl, hb'⟩
            exact ⟨none, 0, 0, 15, rfl, .inr ⟨by rw [hq]; unfold kp; omega, rfl⟩, hb'⟩
      rw [XV.out] at LDD
      have BX13 := hide K13.out.box
      rw [XC.out] at BX13
      clear hF hV hsim hfl hfi RL x0 x1 x2 x3 xbl BX HH
      have CN := hide K13.out.v.counts
      have c0 := K13.out.v.c0
      have lb := K13.out.v.lb
      rw [SM.out.counts, HCB.out, HCN.out] at CN
      go_wp2_with fail
      refine CN.out.mono ?_
      rintro _ w14 ⟨a14, c14, rfl, hO⟩
      have K14 := hide (K13.out.keep hO.b)
      have EQ := hide (Q.EqInts_same w14 a14 aB cn cn c14 capB cB hO.r.ir K14.out.rb HCN.out.symm HCN.out.symm (by have := HCN.out; omega))
      have B14 := hide hO.b
      clear hO CN c0 lb
      go_wp2_with fail
      refine EQ.out.mono ?_
      rintro _ w15 ⟨rfl, hb15⟩
      have K15 := hide (K14.out.keep hb15)
      have X15 := hide (blk13 BX13.out (bt B14.out hb15))
      have LD := hide (LDD.out _ (bt B14.out hb15))
      clear hb15 EQ B14 K14
      obtain ⟨x0, x1, x2, x3⟩ := four13 X15.out
      have xbl : xb < w15.heap.size := (Array.getElem?_eq_some_iff.1 X15.out).1
      go_wp2_with fail
      refine LD.out.mono ?_
      rintro _ w16 ⟨a16, n16, c16, er, rfl, her, hb16⟩
      have B16 := hide (bt K15.out.bel hb16)
      clear hb16 LD x0 x1 x2 x3 xbl
      rcases her with ⟨rfl, rfl⟩ | ⟨hq0, rfl⟩
      · go_wp2_with fail
        go_ret
        exact ⟨rfl, B16.out⟩
      · have e0 : ((q : Int) == 0) = false := by simp; omega
        have e9 : decide ((0 : Int) < (q : Int)) = true := decide_eq_true (by omega)
        go_wp2_with fail
        go_ret
        exact ⟨rfl, B16.out⟩
end Go.Proofs.YtbhigodjbfoeoaaGreat
