import Derived.Test.YtbhigodjbfoeoaaGreatHP
namespace Go.Proofs.YtbhigodjbfoeoaaGreat
set_option linter.unusedVariables false
set_option linter.unusedSimpArgs false
open Go.RowKit
theorem Bl.keep {w w' : World} {a : Option Addr} {T : List Br} (h : Bl w a T) (hb : Below w.heap.size w w') : Bl w' a T := ⟨fun j hj => by
    obtain ⟨b, off, e, hc⟩ := h.c j hj
    exact ⟨b, off, e, (hb.cell (p := ⟨b, off + j, none⟩) (block_lt_of_cell hc)).trans hc⟩, fun t ht => ⟨(h.r t ht).1.keep hb, (h.r t ht).2⟩⟩
theorem item_cells {W : World} {g : Nat} {x : Iv} {t : TypeId} (h : W.heap[g]? = some (.cells x.cs t (0, 0))) : ∀ j u, x.cs.toList[j]? = some u → W.cell? ((⟨g, 0, none⟩ : Addr).add j) = some u := by
  intro j u hu
  rw [Addr.add_mid, Nat.zero_add, cell_of_row _ _ _ _ _ _ h, ← hu]
  simp
theorem wrapU8 (k : Int) : 0 ≤ IntKind.u8.wrap k ∧ IntKind.u8.wrap k < 256 := by
  unfold IntKind.wrap
  simp only [IntKind.signed, IntKind.bits]
  constructor <;> simp <;> omega
theorem one_cell {W : World} {g : Nat} {v : Value} {t : TypeId} (h : W.heap[g]? = some (.cells #[v] t (0, 0))) : W.cell? ⟨g, 0, none⟩ = some v := by
  rw [cell_of_row _ _ _ _ _ _ h]; rfl
theorem map_getD_l (M : List Br) (i : Nat) : (M.map Br.l).getD i [] = (M.getD i Br0).l := by
  simp only [List.getD_eq_getElem?_getD, List.getElem?_map]
  cases M[i]? <;> rfl
theorem key_bs {W : World} {g : Nat} {k : Int} (h0 : 0 ≤ k) (h1 : k < 256) (h : W.heap[g]? = some (.cells #[.int .u8 k, .int .u8 1] 5 (0, 0))) : Bs W (some ⟨g, 0, none⟩) [k.toNat, 1] := by
  refine ⟨fun x hx => ?_, by simp, .inr ⟨g, 0, rfl, fun i hi => ?_⟩⟩
  · simp at hx; rcases hx with rfl | rfl <;> omega
  · have : i = 0 ∨ i = 1 := by simp at hi; omega
    rcases this with rfl | rfl
    · rw [cell_of_row _ _ _ _ _ _ h]
      show some (Value.int .u8 k) = some (.int .u8 ((k.toNat : Nat) : Int))
      rw [Int.toNat_of_nonneg h0]
    · rw [cell_of_row _ _ _ _ _ _ h]; rfl
set_option maxHeartbeats 32000000 in
set_option maxRecDepth 16000 in
theorem blobApart_main (w : World) (p : Nat) (hp1 : 1 ≤ p) (hp2 : p ≤ 300) (a1 : Option Addr) (c1 : Nat) (T : List Br) (hT : Bl w a1 T) (hN : T.length ≤ 300) :
    Calls Tryz.prog 7 #[.int .i64 (p : Int), .slice a1 T.length c1] w fun e w' => e = .returned (.bool true) ∧ Below w.heap.size w w' := by
  have FX := hide (fixed13_any w)
  have NW := hide fun (W : World) => vNew_yes W (p : Int) 2 (by simp [Q.fits]; omega)
  have HT := hide hT
  clear hT
  obtain ⟨tl, htl⟩ : ∃ tl, T.length = tl := ⟨_, rfl⟩
  have HTL := hide htl
  rw [htl] at hN ⊢
  clear htl
  have e1 : decide ((p : Int) < 1) = false := decide_eq_false (by omega)
  have e2 : decide ((300 : Int) < (p : Int)) = false := decide_eq_false (by omega)
  have e3 : decide ((300 : Int) < (tl : Int)) = false := decide_eq_false (by omega)
  go_enter Tryz.func7, Tryz.ntmps7
  go_wp2_with fail
  refine FX.out.mono ?_
  rintro _ w1 ⟨rfl, hb1⟩
  have B1 := hide hb1
  clear hb1 FX
  go_wp2_with fail
  refine (NW.out w1).mono ?_
  rintro _ w2 ⟨b, rfl, pb, mb, pc, col, hV, hb2, hcol⟩
  have AP0 : Hid (Ap w b pb mb p w2 0 (Vs.start (Q.Po.start 2 (List.replicate (p : Int).toNat 0))) pc col none 0 [] [] none 0 [] 0) := by
    refine ⟨hV, fun k hk => ?_, bt B1.out hb2, Jw.nil _, fun y hy => (by cases hy), Ar.nil _, fun y hy => (by cases hy), rfl, fun i hi => absurd hi (Nat.not_lt_zero _), ?_, rfl, Nat.zero_le _, Nat.zero_le _, Nat.zero_le _, fun k q e => (by cases e)⟩
    · by_cases h0 : col k = 0
      · exact h0
      · have := hcol k h0; have := B1.out.size; omega
    · show ((Q.Po.start 2 (List.replicate (p : Int).toNat 0)).pages 1).length + 0 = p
      rw [Int.toNat_natCast, start_free]; rfl
  clear hV hb2 hcol NW B1
  go_wp2_with fail
  go_loopw [7, 8, 9, 10] (fun vi vt vk vj wx => ∃ (j : Nat) (S : Vs) (pc col : Nat → Nat) (aI : Option Addr) (cI : Nat) (L : List Iv) (aT : Option Addr) (cT : Nat) (M : List Br) (tk nl nm : Nat), j ≤ tl ∧ vi = .slice aI nl cI ∧ vt = .slice aT nm cT ∧ vk = .int .i64 (tk : Int) ∧ vj = .int .i64 (j : Int) ∧ nl = L.length ∧ nm = M.length ∧ (∀ m ∈ M, m ∈ T) ∧ L.length ≤ j ∧ tk ≤ p ∧ Ap w b pb mb p wx j S pc col aI cI L (M.map Br.l) aT cT M tk) (fun _ _ _ vj _ => tl - (intOf vj).toNat)
  case atStart => exact ⟨0, _, pc, col, none, 0, [], none, 0, [], 0, 0, 0, Nat.zero_le _, rfl, rfl, rfl, rfl, rfl, rfl, fun m hm => absurd hm (by simp), Nat.zero_le _, Nat.zero_le _, AP0.out⟩
  case round =>
    clear AP0
    obtain ⟨j, S, pc, col, aI, cI, L, aT, cT, M, tk, nl, nm, hj, rfl, rfl, rfl, rfl, hnl, hnm, hM, hL, htk, hA⟩ := hrel
    have AA := hide hA
    have HM := hide hM
    have HNL := hide hnl
    have HNM := hide hnm
    have hnl2 : nl ≤ 300 := by omega
    have hnm2 : nm ≤ 300 := by
      have := hA.len
      rw [List.length_map] at this
      omega
    have HL := hide hL
    clear hA hM hnl hnm hL
    by_cases hlt : j < tl
    · have hji : (j : Int) < (tl : Int) := by omega
      have hjT : j < T.length := by rw [HTL.out]; exact hlt
      have BL := hide (HT.out.keep AA.out.bel)
      obtain ⟨g1, off, rfl, cK⟩ := BL.out.c j hjT
      have MT : Hid (T.getD j Br0 ∈ T) := by show _ ∈ _; simp [hjT]
      obtain ⟨t, ht⟩ : ∃ t, T.getD j Br0 = t := ⟨_, rfl⟩
      rw [ht] at cK MT
      clear ht
      obtain ⟨hBt, hct⟩ := BL.out.r t MT.out
      have BT := hide hBt
      have OT : Hid (32 < t.l.length → ∀ x, t.a = some x → x.block < w.heap.size) := fun hl x hx => by
        obtain ⟨g, o, e, hc⟩ := (HT.out.r t MT.out).1.at (j := 0) (by omega)
        rw [hx] at e
        cases e
        exact block_lt_of_cell hc
      clear hBt
      obtain ⟨ta, tc, tlst⟩ := t
      unfold bv at cK
      simp only at cK BT hct OT MT
      have glt : g1 < wr.heap.size := block_lt_of_cell cK
      -- the key
      obtain ⟨kb, hkb⟩ : ∃ kb, IntKind.u8.wrap (j : Int) = kb := ⟨_, rfl⟩
      have hkb0 : Hid (0 ≤ kb ∧ kb < 256) := by show _ ∧ _; rw [← hkb]; exact wrapU8 _
      have A0 := hide (al wr (.cells #[.int .u8 kb, .int .u8 1] 5))
      have X0 := hide (heap_alloc_new wr (.cells #[.int .u8 kb, .int .u8 1] 5))
      have KB := hide (key_bs hkb0.out.1 hkb0.out.2 X0.out)
      have SV := hide fun (s : Nat) (hs : 3840 < s) => Store_val (wr.alloc (.cells #[.int .u8 kb, .int .u8 1] 5)) (.pointer (some ⟨b, 0, none⟩)) (some ⟨wr.heap.size, 0, none⟩) ta 2 2 s tc (by decide) (by decide) hs
      have A1 := hide (AA.out.keep A0.out)
      have SA := hide fun (hl : tlst.length ≤ 3840) => Store_all (wr.alloc (.cells #[.int .u8 kb, .int .u8 1] 5)) b S pb mb pc col A1.out.v (some ⟨wr.heap.size, 0, none⟩) 2 [kb.toNat, 1] KB.out (fun x hx => by cases hx; exact AA.out.v.z (Nat.le_refl _)) (by simp) (by simp) ta tc tlst (BT.out.keep A0.out) (fun hl x hx => AA.out.old _ (OT.out hl x hx)) hct hl AA.out.fine (by have := AA.out.fl; have := AA.out.la; omega) (by have := AA.out.la; omega) (by have := AA.out.lm; omega) (by have := AA.out.lc; omega)
      have NP := hide (np_bpn tlst)
      have NQ := hide fun (h : tlst.length ≤ 3840) => np_le h
      have N6 : Hid (N64 ((tlst.length : Nat) : Int)) := by show _ ∧ _; have := BT.out.2.1; omega
      have PG := hide fun (W : World) => bPages_any W ((tlst.length : Nat) : Int) N6.out
      simp only [NP.out] at PG
      simp only [List.length_cons, List.length_nil, Nat.zero_add] at SA
      have HLN : Hid (tlst.length = tlst.length) := rfl
      obtain ⟨n, hn⟩ : ∃ n, tlst.length = n := ⟨_, rfl⟩
      have HN := hide hn
      simp only [hn] at SA PG cK hct NQ
      obtain ⟨q, hq⟩ : ∃ q, np tlst = q := ⟨_, rfl⟩
      have HQ := hide hq
      simp only [hq] at SA PG NQ
      clear hn hq hct
      have hnb : n ≤ 9223372036854775807 := by have := BT.out.2.1; rw [HN.out] at this; exact this
      have CKW : Hid (∀ W : World, Below w.heap.size w W → W.cell? ⟨g1, off + j, none⟩ = some (.slice ta n tc) ∧ g1 < W.heap.size) := fun W hb => by
        obtain ⟨g2, off2, e, hc⟩ := HT.out.c j hjT
        cases e
        have hc1 := (AA.out.bel.cell (p := ⟨g1, off + j, none⟩) (block_lt_of_cell hc)).symm.trans cK
        exact ⟨(hb.cell (p := ⟨g1, off + j, none⟩) (block_lt_of_cell hc)).trans hc1, Nat.lt_of_lt_of_le (block_lt_of_cell hc) hb.size⟩
      by_cases hv : n ≤ 3840
      · have d9 : decide ((n : Int) ≤ 3840) = true := decide_eq_true (by omega)
        have S1 := hide (SA.out hv)
        have hq8 : q ≤ 8 := NQ.out hv
        clear SA SV NQ
        go_wp2_with fail
        refine S1.out.mono ?_
        rintro _ w3 ⟨pc', col', hF, (⟨S', x, rfl, xk, xr, xc, hSt, hSp, _, hV⟩ | ⟨rfl, hfr, hV⟩)⟩
        · have A2 := hide (A1.out.stored hF hV hSp hq8)
          have ST := hide hSt
          clear hF hV hSp hSt xk xr xc S1 cK A1 A0 X0 KB
          have XV : Hid (x.vl = .agg #[.slice x.aK x.key.length x.cK, .slice x.aV x.val.length x.cV, .int .i64 x.child, .int .i64 x.size]) := rfl
          rw [XV.out]
          have A3 := hide (al w3 (.cells x.cs 34))
          have X3 := hide (heap_alloc_new w3 (.cells x.cs 34))
          have A4 := hide (al (w3.alloc (.cells x.cs 34)) (.cells x.cs 34))
          have X4 := hide (heap_alloc_new (w3.alloc (.cells x.cs 34)) (.cells x.cs 34))
          rw [size_alloc] at X4
          have C4 := hide (item_cells X4.out)
          have P4 := hide (A2.out.keep (bt A3.out A4.out))
          have T4 := hide (ST.out.keep (bt A3.out A4.out))
          clear A2 ST A3 X3 A4 X4
          simp only [Iv.cs] at C4 P4 T4
          go_wp2_with (at_builtin; refine wpList_apJ rfl _ _ rfl aI nl cI L rfl HNL.out P4.out.it ⟨w3.heap.size + 1, 0, none⟩ 1 x rfl C4.out (by have := HNL.out; omega) ?_)
          intro g c' w5 hJ hNw hg
          have A5 := hide (P4.out.item T4.out hJ hNw (But.inA hg))
          clear hJ hNw hg P4 T4 C4
          obtain ⟨cK5, gl5⟩ := CKW.out w5 A5.out.bel
          have A6 := hide (al w5 (.cells #[.slice ta n tc] 32))
          have X6 := hide (one_cell (heap_alloc_new w5 (.cells #[.slice ta n tc] 32)))
          have P6 := hide (A5.out.keep A6.out)
          have L6 : Hid (nm = (M.map bv).length) := by show _ = _; rw [List.length_map]; exact HNM.out
          go_wp2_with (at_builtin; refine wpList_apRows rfl _ _ rfl aT nm cT (M.map bv) rfl L6.out P6.out.tx ⟨w5.heap.size, 0, none⟩ 1 (.slice ta n tc) rfl X6.out rfl (by have := L6.out; omega) ?_)
          intro g7 c7 w7 hJ hNw hg
          have A7 := hide (P6.out.text (x := ⟨ta, tc, tlst⟩) (by unfold bv; simp only [HN.out]; exact hJ) hNw (But.inA hg))
          clear hJ hNw hg P6 X6 A6 A5 cK5 gl5
          obtain ⟨cK7, gl7⟩ := CKW.out w7 A7.out.bel
          go_wp2_with fail
          refine (PG.out w7).mono ?_
          rintro _ w8 ⟨rfl, hw8⟩
          rw [hw8]
          clear hw8 cK7 gl7
          have TQ : Hid (tk + q ≤ p) := by show _ ≤ _; have := A7.out.fr; omega
          have tq := TQ.out
          go_wp2_with fail
          go_roundw
          case rel => exact ⟨j + 1, S', pc', col', some ⟨g, 0, none⟩, c', L ++ [x], some ⟨g7, 0, none⟩, c7, M ++ [⟨ta, tc, tlst⟩], tk + q, nl + 1, nm + 1, by omega, rfl, rfl, by go_num, by go_num, by rw [List.length_append, HNL.out]; rfl, by rw [List.length_append, HNM.out]; rfl, fun m hm => by
              rcases List.mem_append.1 hm with hm | hm
              · exact HM.out m hm
              · rw [List.mem_singleton.1 hm]; exact MT.out, by rw [List.length_append]; have := HL.out; simp; omega, TQ.out, by rw [List.map_append]; exact A7.out⟩
          case measure => simp [intOf]; omega
        · have A2 := hide ((A1.out.stored hF hV (Stp.zero S) (Nat.zero_le _)))
          have FR : Hid (p - tk < q) := by show _ < _; have := AA.out.fr; omega
          have dq : decide ((q : Int) ≤ (p : Int) - (tk : Int)) = false := decide_eq_false (by have := FR.out; omega)
          clear hF hV hfr S1 cK A1 A0 X0 KB
          have ZV : Hid (Iv.zero.vl = .agg #[.slice none 0 0, .slice none 0 0, .int .i64 0, .int .i64 0]) := rfl
          rw [ZV.out]
          have A3 := hide (al w3 (.cells #[.slice none 0 0, .slice none 0 0, .int .i64 0, .int .i64 0] 34))
          have P3 := hide (A2.out.keep A3.out)
          obtain ⟨cK3, gl3⟩ := CKW.out w3 A2.out.bel
          go_wp2_with fail
          refine (PG.out _).mono ?_
          rintro _ w8 ⟨rfl, hw8⟩
          rw [hw8]
          clear hw8
          go_wp2_with fail
          go_roundw
          case rel => exact ⟨j + 1, S, pc', col', aI, cI, L, aT, cT, M, tk, nl, nm, by omega, rfl, rfl, rfl, by go_num, HNL.out, HNM.out, HM.out, by have := HL.out; omega, htk, P3.out⟩
          case measure => simp [intOf]; omega
      · have d9 : decide ((n : Int) ≤ 3840) = false := decide_eq_false (by omega)
        have S1 := hide (SV.out n (by omega))
        clear SA SV NQ
        go_wp2_with fail
        refine S1.out.mono ?_
        rintro _ w3 ⟨rfl, hb3⟩
        have A2 := hide ((A1.out.keep hb3).more)
        clear S1 hb3 cK A1 A0 X0 KB
        have ZV : Hid (Iv.zero.vl = .agg #[.slice none 0 0, .slice none 0 0, .int .i64 0, .int .i64 0]) := rfl
        rw [ZV.out]
        have A3 := hide (al w3 (.cells #[.slice none 0 0, .slice none 0 0, .int .i64 0, .int .i64 0] 34))
        have P3 := hide (A2.out.keep A3.out)
        obtain ⟨cK3, gl3⟩ := CKW.out w3 A2.out.bel
        go_wp2_with fail
        go_roundw
        case rel => exact ⟨j + 1, S, pc, col, aI, cI, L, aT, cT, M, tk, nl, nm, by omega, rfl, rfl, rfl, by go_num, HNL.out, HNM.out, HM.out, by have := HL.out; omega, htk, P3.out⟩
        case measure => simp [intOf]; omega
    · obtain rfl : j = tl := by omega
      have VW := hide AA.out.v
      go_wp2_with fail
      go_loopw [13] (fun vi wx => ∃ i : Nat, i ≤ nl ∧ vi = .int .i64 (i : Int) ∧ Below wr.heap.size wr wx) (fun vi _ => nl - (intOf vi).toNat)
      case atStart => exact ⟨0, Nat.zero_le _, rfl, Below.refl _ _⟩
      case round =>
        obtain ⟨i, hi, rfl, hbx⟩ := hrel
        have BX := hide hbx
        have P1 := hide (AA.out.keep hbx)
        clear hbx
        by_cases hil : i < nl
        · have hii : (i : Int) < (nl : Int) := by omega
          have hiL : i < L.length := by have := HNL.out; omega
          have hiM : i < M.length := by have := P1.out.len; rw [List.length_map] at this; omega
          have hinm : i < nm := by rw [HNM.out]; exact hiM
          have hinm2 : (i : Int) < (nm : Int) := by omega
          have SI := hide (P1.out.sto i hiL)
          rw [map_getD_l] at SI
          obtain ⟨gI, rfl⟩ : ∃ g, aI = some ⟨g, 0, none⟩ := by
            rcases P1.out.it.cases with ⟨_, _, h0⟩ | ⟨g, cur, h0, _⟩
            · rw [h0] at hiL; exact absurd hiL (Nat.not_lt_zero _)
            · exact ⟨g, h0⟩
          obtain ⟨⟨y0, y1, y2, y3⟩, _⟩ := P1.out.it.item4 hiL
          obtain ⟨gT, rfl, cT1⟩ := P1.out.tx.cell (i := i) (v := bv (M.getD i Br0)) (by simp [hiM])
          have MI : Hid (M.getD i Br0 ∈ T) := HM.out _ (by simp [hiM])
          have BI := hide fun (W : World) (hb : Below w.heap.size w W) => (HT.out.keep hb).r _ MI.out
          obtain ⟨t, ht⟩ : ∃ t, M.getD i Br0 = t := ⟨_, rfl⟩
          obtain ⟨x, hx⟩ : ∃ x, L.getD i Iv.zero = x := ⟨_, rfl⟩
          rw [ht] at SI cT1 BI
          rw [hx] at SI y0 y1 y2 y3
          have LD := hide (Load_all wr b S pb mb pc col P1.out.v x t.l SI.out)
          have XV : x.vl = .agg #[.slice x.aK x.key.length x.cK, .slice x.aV x.val.length x.cV, .int .i64 x.child, .int .i64 x.size] := rfl
          rw [XV] at LD
          unfold bv at cT1
          have gTl : gT < wr.heap.size := block_lt_of_cell cT1
          clear ht hx XV
          go_wp2_with fail
          refine LD.out.mono ?_
          rintro _ w3 ⟨ar, cr, rfl, hO⟩
          have P3 := hide (P1.out.keep hO.b)
          have B3 := hide (bt BX.out hO.b)
          have cT3 := (hO.b.cell (p := ⟨gT, i, none⟩) gTl).trans cT1
          have gT3 : gT < w3.heap.size := Nat.lt_of_lt_of_le gTl hO.b.size
          have b8 : B8 t.l := (BI.out w3 P3.out.bel).1.1
          have EQ := hide (EqBytes_same w3 ar t.a t.l.length t.l.length cr t.c t.l (hO.r.bs b8 hO.r.len_le) (BI.out w3 P3.out.bel).1 rfl rfl)
          clear hO LD y0 y1 y2 y3 cT1 gTl
          go_wp2_with fail
          refine EQ.out.mono ?_
          rintro _ w4 ⟨rfl, hb4⟩
          have B4 := hide (bt B3.out hb4)
          clear hb4
          go_wp2_with fail
          go_roundw
          case rel => exact ⟨i + 1, by omega, by go_num, B4.out⟩
          case measure => simp [intOf]; omega
        · obtain rfl : i = nl := by omega
          have c0 := P1.out.v.c0
          have FR := hide P1.out.fr
          have BB := hide P1.out.bel
          have TA := hide (show Calls Tryz.prog 23 #[.pointer (some ⟨pb, 0, none⟩), .int .i64 1] wr fun e w' => e = .returned (.int .i64 (((S.X.P.pages 1).length : Nat) : Int)) ∧ Below wr.heap.size wr w' from by
            obtain ⟨ac, cc, aa, ca, hq⟩ := P1.out.v
            exact Q.Tally_any wr pb _ _ hq.pool 1)
          obtain ⟨fr, hfr⟩ : ∃ fr, (S.X.P.pages 1).length = fr := ⟨_, rfl⟩
          rw [hfr] at TA FR
          clear hfr
          have ef : ((fr : Int) == (p : Int) - (tk : Int)) = true := by have := FR.out; simp; omega
          go_wp2_with fail
          refine TA.out.mono ?_
          rintro _ w5 ⟨rfl, hb5⟩
          have B5 := hide (bt BB.out hb5)
          clear hb5
          go_wp2_with fail
          go_ret
          exact ⟨by first | rfl | simp [ef], B5.out⟩
end Go.Proofs.YtbhigodjbfoeoaaGreat
