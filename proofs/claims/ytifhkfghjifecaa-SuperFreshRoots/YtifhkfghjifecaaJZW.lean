import Derived.Test.YtifhkfghjifecaaJZX
namespace Go.Proofs.Ytifhkfghjifecaa
open Go.RowKit

theorem rw_at {w : World} {g cap : Nat} {l : List Nat} (h : Rw w (some ⟨g, 0, none⟩) cap l) {k : Nat} (hk : k < l.length) : (∃ v, w.cell? ⟨g, k, none⟩ = some v) ∧ w.frozen? ⟨g, k, none⟩ = false := by
  rcases h.cases with ⟨h0, _⟩ | ⟨g', cur, h0, hg, h1, h2, h3, h4⟩
  · cases h0
  · cases h0
    exact ⟨⟨_, (cell_of_row _ _ _ _ _ _ hg).trans (Array.getElem?_eq_getElem (by omega))⟩, frozen_of_row _ _ _ _ _ hg⟩
set_option maxRecDepth 100000 in
set_option maxHeartbeats 8000000 in
theorem superFreshRoots_any (w : World) (a : Option Addr) (c : Nat) (p : List Nat) (hB : Bs w a p) (hN : p.length + 64 ≤ 140737488355328) (hC : p.length ≤ c) (a2 : Option Addr) (c2 : Nat) (q : List Nat) (hB2 : Bs w a2 q) (hN2 : q.length + 64 ≤ 140737488355328) (_ : q.length ≤ c2) :
    Calls Try.prog 3 #[.slice a p.length c, .slice a2 q.length c2] w fun e w' => e = .returned (.bool true) ∧ Below w.heap.size w w' := by
  have SP := hide (Spare_any w a p.length c p hB rfl (by omega))
  have CB := hide fun (w1 : World) (hb : Below w.heap.size w w1) => CopyBytes_any w1 a2 q.length c2 q (hB2.keep hb) rfl (by omega)
  have DE := hide fun (w1 : World) (a1 : Option Addr) (c1 : Nat) (h : Bs w1 a1 p) (hc : p.length ≤ c1) => Decode_any w1 a1 p.length c1 p h rfl hc
  have DQ := hide fun (w1 : World) (a1 : Option Addr) (c1 : Nat) (h : Bs w1 a1 q) (hc : q.length ≤ c1) => Decode_any w1 a1 q.length c1 q h rfl hc
  have RD := hide fun (w1 : World) (hb : Below w.heap.size w w1) => rDecode_any w1 a p.length c p (hB.keep hb) rfl hC
  have KE := hide fun (w1 : World) (hb : Below w.heap.size w w1) (hR : w1.rowIs w.heap.size 5 (p.length + 64) (spF p)) => Kept_any w1 w.heap.size (p.length + 64) a p.length p.length c p hR (hB.keep hb) rfl rfl rfl (by omega)
  have SB := hide fun (w1 : World) (hR : w1.rowIs w.heap.size 5 (p.length + 64) (spF p)) => spare_bs hR (by omega) hB.1 hB.2.1
  have ES := hide fun (w1 : World) (a1 a2 : Option Addr) (c1 c2 : Nat) (h1 : Js w1 a1 (deS p).rs) (h2 : Js w1 a2 (deS p).rs) => EqSuper_same w1 (deS p) a1 a2 c1 c2 h1 h2 (by have := deS_small (b := p); omega)
  have LS := hide (deS_small (b := p))
  have LT := hide (deS_small (b := q))
  have H8 := hide hB.1
  have H82 := hide hB2.1
  have HQ := hide hB2
  have HN := hide hN
  have HLE : Hid (p.length ≤ p.length + 64) := by show _ ≤ _; omega
  unfold DeQ at DE RD DQ
  have hee : ((deE p : Int) == (deE p : Int)) = true := by simp
  clear hB hB2 hN hN2 hC
  generalize deE p = e at *
  generalize deS p = s at *
  generalize deE q = eq at *
  generalize deS q = t at *
  unfold suv suC at *
  go_enter Try.func3, Try.ntmps3
  go_wp2_with fail
  refine SP.out.mono ?_
  rintro y w1 ⟨rfl, hR, hb⟩
  have HL := hide hb
  have HR := hide hR
  have FM := hide (FamJ.nil w w1)
  clear hb hR SP
  go_wp2_with fail
  refine (DE.out _ _ _ (SB.out _ HR.out) HLE.out).mono ?_
  rintro y w2 ⟨a3, c3, rfl, hO⟩
  have hbx := bt hO.b (al w2 (.cells #[.int .i64 s.gen, .int .i64 s.bl, .int .i64 s.cl, .int .i64 s.rf, .int .i64 s.nx, .slice a3 s.rs.length c3] 28))
  have FM := hide ((FM.out.snoc HL.out hO).keep (al w2 (.cells #[.int .i64 s.gen, .int .i64 s.bl, .int .i64 s.cl, .int .i64 s.rf, .int .i64 s.nx, .slice a3 s.rs.length c3] 28)))
  have HL := hide (bt HL.out hbx)
  have HR := hide (rowIs_below HR.out hbx)
  have HB6 := hide (Bx.new w2 28 #[.int .i64 s.gen, .int .i64 s.bl, .int .i64 s.cl, .int .i64 s.rf, .int .i64 s.nx, .slice a3 s.rs.length c3])
  clear hO hbx
  go_wp2_with fail
  generalize w2.alloc (.cells #[.int .i64 s.gen, .int .i64 s.bl, .int .i64 s.cl, .int .i64 s.rf, .int .i64 s.nx, .slice a3 s.rs.length c3] 28) = W2 at *
  generalize w2.heap.size = g6 at *
  refine (CB.out _ HL.out).mono ?_
  rintro y w3 ⟨a9, c9, rfl, hRw, hNw, hbw⟩
  have hOw : Own W2 w3 a9 c9 q := ⟨hRw, hNw, hbw⟩
  have O9 := hide hOw
  have FM := hide (FM.out.keep hbw)
  have HL := hide (bt HL.out hbw)
  have HR := hide (rowIs_below HR.out hbw)
  have HB6 := hide (HB6.out.keep hbw)
  clear hRw hNw hbw hOw CB
  go_wp2_with fail
  refine (DQ.out _ _ _ (O9.out.bs H82.out) O9.out.r.cap).mono ?_
  rintro y w4 ⟨a4, c4, rfl, hO⟩
  have hbx := bt hO.b (al w4 (.cells #[.int .i64 t.gen, .int .i64 t.bl, .int .i64 t.cl, .int .i64 t.rf, .int .i64 t.nx, .slice a4 t.rs.length c4] 28))
  have FM := hide ((FM.out.snoc HL.out hO).keep (al w4 (.cells #[.int .i64 t.gen, .int .i64 t.bl, .int .i64 t.cl, .int .i64 t.rf, .int .i64 t.nx, .slice a4 t.rs.length c4] 28)))
  have HL := hide (bt HL.out hbx)
  have HR := hide (rowIs_below HR.out hbx)
  have HB6 := hide (HB6.out.keep hbx)
  have HB8 := hide (Bx.new w4 28 #[.int .i64 t.gen, .int .i64 t.bl, .int .i64 t.cl, .int .i64 t.rf, .int .i64 t.nx, .slice a4 t.rs.length c4])
  clear hO hbx DQ O9
  go_wp2_with fail
  generalize w4.alloc (.cells #[.int .i64 t.gen, .int .i64 t.bl, .int .i64 t.cl, .int .i64 t.rf, .int .i64 t.nx, .slice a4 t.rs.length c4] 28) = W4 at *
  generalize w4.heap.size = g8 at *
  refine (DE.out _ _ _ (SB.out _ HR.out) HLE.out).mono ?_
  rintro y w5 ⟨a5, c5, rfl, hO⟩
  have hbx := bt hO.b (al w5 (.cells #[.int .i64 s.gen, .int .i64 s.bl, .int .i64 s.cl, .int .i64 s.rf, .int .i64 s.nx, .slice a5 s.rs.length c5] 28))
  have FM := hide ((FM.out.snoc HL.out hO).keep (al w5 (.cells #[.int .i64 s.gen, .int .i64 s.bl, .int .i64 s.cl, .int .i64 s.rf, .int .i64 s.nx, .slice a5 s.rs.length c5] 28)))
  have HL := hide (bt HL.out hbx)
  have HR := hide (rowIs_below HR.out hbx)
  have HB6 := hide (HB6.out.keep hbx)
  have HB8 := hide (HB8.out.keep hbx)
  have HB10 := hide (Bx.new w5 28 #[.int .i64 s.gen, .int .i64 s.bl, .int .i64 s.cl, .int .i64 s.rf, .int .i64 s.nx, .slice a5 s.rs.length c5])
  clear hO hbx DE SB
  go_wp2_with fail
  generalize w5.alloc (.cells #[.int .i64 s.gen, .int .i64 s.bl, .int .i64 s.cl, .int .i64 s.rf, .int .i64 s.nx, .slice a5 s.rs.length c5] 28) = W5 at *
  generalize w5.heap.size = g10 at *
  refine (RD.out _ HL.out).mono ?_
  rintro y w6 ⟨a6, c6, rfl, hO⟩
  have hbx := bt hO.b (al w6 (.cells #[.int .i64 s.gen, .int .i64 s.bl, .int .i64 s.cl, .int .i64 s.rf, .int .i64 s.nx, .slice a6 s.rs.length c6] 28))
  have N6 : Hid (g6 < w6.heap.size) := (Array.getElem?_eq_some_iff.1 (HB6.out.keep hO.b)).1
  have N8 : Hid (g8 < w6.heap.size) := (Array.getElem?_eq_some_iff.1 (HB8.out.keep hO.b)).1
  have N10 : Hid (g10 < w6.heap.size) := (Array.getElem?_eq_some_iff.1 (HB10.out.keep hO.b)).1
  have N12 : Hid (w.heap.size ≤ w6.heap.size) := (bt HL.out hO.b).size
  have FM := hide (FM.out.keep hbx)
  have J12 := hide (hO.r.qs.keep (al w6 (.cells #[.int .i64 s.gen, .int .i64 s.bl, .int .i64 s.cl, .int .i64 s.rf, .int .i64 s.nx, .slice a6 s.rs.length c6] 28)))
  have HL := hide (bt HL.out hbx)
  have HR := hide (rowIs_below HR.out hbx)
  have HB6 := hide (HB6.out.keep hbx)
  have HB8 := hide (HB8.out.keep hbx)
  have HB10 := hide (HB10.out.keep hbx)
  have HB12 := hide (Bx.new w6 28 #[.int .i64 s.gen, .int .i64 s.bl, .int .i64 s.cl, .int .i64 s.rf, .int .i64 s.nx, .slice a6 s.rs.length c6])
  clear hO hbx RD
  have X6 : Hid (Js (w6.alloc (.cells #[.int .i64 s.gen, .int .i64 s.bl, .int .i64 s.cl, .int .i64 s.rf, .int .i64 s.nx, .slice a6 s.rs.length c6] 28)) a3 s.rs) := (FM.out.own ⟨a3, c3, s.rs⟩ (by simp)).r.qs
  have X10 : Hid (Js (w6.alloc (.cells #[.int .i64 s.gen, .int .i64 s.bl, .int .i64 s.cl, .int .i64 s.rf, .int .i64 s.nx, .slice a6 s.rs.length c6] 28)) a5 s.rs) := (FM.out.own ⟨a5, c5, s.rs⟩ (by simp)).r.qs
  have HX : Hid (_ ∧ _) := ⟨su_six (u := s) (a := a3) (c := c3) HB6.out, su_six (u := s) (a := a6) (c := c6) HB12.out⟩
  obtain ⟨⟨x0, x1, x2, x3, x4, x5⟩, y0, y1, y2, y3, y4, y5⟩ := HX.out
  clear HX
  go_wp2_with fail
  generalize w6.alloc (.cells #[.int .i64 s.gen, .int .i64 s.bl, .int .i64 s.cl, .int .i64 s.rf, .int .i64 s.nx, .slice a6 s.rs.length c6] 28) = W6 at *
  generalize w6.heap.size = g12 at *
  refine (ES.out _ _ _ _ _ X6.out J12.out).mono ?_
  rintro y w7 ⟨rfl, hb⟩
  have FM := hide (FM.out.keep hb)
  have HL := hide (bt HL.out hb)
  have HR := hide (rowIs_below HR.out hb)
  have HB6 := hide (HB6.out.keep hb)
  have HB8 := hide (HB8.out.keep hb)
  have HB10 := hide (HB10.out.keep hb)
  have HB12 := hide (HB12.out.keep hb)
  have J12 := hide (J12.out.keep hb)
  have X10 := hide (X10.out.keep hb)
  clear hb X6 x0 x1 x2 x3 x4 x5 y0 y1 y2 y3 y4 y5
  obtain ⟨x0, x1, x2, x3, x4, x5⟩ := su_six (u := s) (a := a5) (c := c5) HB10.out
  obtain ⟨y0, y1, y2, y3, y4, y5⟩ := su_six (u := s) (a := a6) (c := c6) HB12.out
  go_wp2_with fail
  refine (ES.out _ _ _ _ _ X10.out J12.out).mono ?_
  rintro y w8 ⟨rfl, hb⟩
  have FM := hide (FM.out.keep hb)
  have HL := hide (bt HL.out hb)
  have HR := hide (rowIs_below HR.out hb)
  have HB6 := hide (HB6.out.keep hb)
  have HB8 := hide (HB8.out.keep hb)
  have HB10 := hide (HB10.out.keep hb)
  have HB12 := hide (HB12.out.keep hb)
  have J12 := hide (J12.out.keep hb)
  clear hb X10 ES x0 x1 x2 x3 x4 x5 y0 y1 y2 y3 y4 y5
  go_wp2_with fail
  refine (KE.out _ HL.out HR.out).mono ?_
  rintro y w9 ⟨rfl, hb⟩
  have GZ : Hid (Gz w w9 g6 g8 g10 g12 #[.int .i64 s.gen, .int .i64 s.bl, .int .i64 s.cl, .int .i64 s.rf, .int .i64 s.nx, .slice a3 s.rs.length c3] #[.int .i64 t.gen, .int .i64 t.bl, .int .i64 t.cl, .int .i64 t.rf, .int .i64 t.nx, .slice a4 t.rs.length c4] #[.int .i64 s.gen, .int .i64 s.bl, .int .i64 s.cl, .int .i64 s.rf, .int .i64 s.nx, .slice a5 s.rs.length c5] #[.int .i64 s.gen, .int .i64 s.bl, .int .i64 s.cl, .int .i64 s.rf, .int .i64 s.nx, .slice a6 s.rs.length c6] p.length p _) := ⟨HB6.out.keep hb, HB8.out.keep hb, HB10.out.keep hb, HB12.out.keep hb, rowIs_rw (rowIs_below HR.out hb) rfl (by unfold maxLen; have := HN.out; omega), rfl, H8.out, FM.out.keep hb, bt HL.out hb⟩
  clear hb KE FM HL HR HB6 HB8 HB10 HB12 J12 H8 hee
  go_wp2_with fail
  generalize hT : ([] ++ [⟨a3, c3, s.rs⟩] ++ [⟨a4, c4, t.rs⟩] ++ [⟨a5, c5, s.rs⟩] : List Rr) = T at *
  have HTT := hide hT
  clear hT
  generalize hn : p.length = n at *
  clear hn
  generalize hm : q.length = m at *
  have HMM := hide hm
  clear hm
  as_aux_lemma =>
  go_loopw [14] (fun z wx => ∃ (j : Nat) (X : List Nat), j ≤ n ∧ z = .int .i64 j ∧ Gz w wx g6 g8 g10 g12 #[.int .i64 s.gen, .int .i64 s.bl, .int .i64 s.cl, .int .i64 s.rf, .int .i64 s.nx, .slice a3 s.rs.length c3] #[.int .i64 t.gen, .int .i64 t.bl, .int .i64 t.cl, .int .i64 t.rf, .int .i64 t.nx, .slice a4 t.rs.length c4] #[.int .i64 s.gen, .int .i64 s.bl, .int .i64 s.cl, .int .i64 s.rf, .int .i64 s.nx, .slice a5 s.rs.length c5] #[.int .i64 s.gen, .int .i64 s.bl, .int .i64 s.cl, .int .i64 s.rf, .int .i64 s.nx, .slice a6 s.rs.length c6] n X T) (fun z _ => n - (intOf z).toNat)
  case atStart => exact ⟨0, _, Nat.zero_le _, rfl, GZ.out⟩
  case round =>
  obtain ⟨j, X, hj, rfl, hH⟩ := hrel
  clear GZ
  have H := hide hH
  clear hH
  by_cases hlt : j < n ∧ j < m
  · obtain ⟨hln, hlm⟩ := hlt
    have hlni : (j : Int) < (n : Int) := by omega
    have hlmi : (j : Int) < (m : Int) := by omega
    obtain ⟨⟨v0, e0⟩, f0⟩ := rw_at H.out.x (k := j) (by rw [H.out.xl]; exact hln)
    obtain ⟨bk, off, rfl, hc⟩ := (HQ.out.keep H.out.b).at (j := j) (by have := HMM.out; omega)
    have hv : q.getD j 0 < 256 := by rw [getD_at q (by have := HMM.out; omega)]; exact HQ.out.1 _ (List.getElem_mem _)
    have HS := hide (H.out.set j hv)
    generalize q.getD j 0 = v at *
    have hbn := HN.out
    go_wp2
    go_roundw
    all_goals first
      | (simp [intOf]; omega)
      | exact ⟨j + 1, _, by omega, by go_num, HS.out⟩
  · have hxl := H.out.xl
    have BSX := hide (H.out.x.bs H.out.x8 (by have := HN.out; omega))
    have DX := hide fun (w1 : World) (hb : Below wr.heap.size wr w1) => Decode_any w1 (some ⟨w.heap.size, 0, none⟩) n (n + 64) X (BSX.out.keep hb) hxl.symm (by omega)
    have RX := hide fun (w1 : World) (hb : Below wr.heap.size wr w1) => rDecode_any w1 (some ⟨w.heap.size, 0, none⟩) n (n + 64) X (BSX.out.keep hb) hxl.symm (by omega)
    have ES := hide fun (w1 : World) (a1 a2 : Option Addr) (c1 c2 : Nat) (h1 : Js w1 a1 (deS X).rs) (h2 : Js w1 a2 (deS X).rs) => EqSuper_same w1 (deS X) a1 a2 c1 c2 h1 h2 (by have := deS_small (b := X); omega)
    have LX := hide (deS_small (b := X))
    unfold DeQ at DX RX
    unfold suv suC at DX RX ES
    have hee : ((deE X : Int) == (deE X : Int)) = true := by simp
    have hex : n = j ∨ ((j : Int) < (n : Int) ∧ (m : Int) ≤ (j : Int)) := by
      by_cases h1 : j < n
      · exact .inr ⟨by omega, by omega⟩
      · exact .inl (by omega)
    clear hlt hxl BSX
    generalize deE X = eX at *
    generalize deS X = u at *
    rcases hex with rfl | ⟨h1, h2⟩
    all_goals
      as_aux_lemma =>
      go_wp2_with fail
      refine (DX.out _ (Below.refl _ _)).mono ?_
      rintro y w10 ⟨a7, c7, rfl, hO⟩
      have N15 : Hid (g12 < w10.heap.size) := (Array.getElem?_eq_some_iff.1 (H.out.b12.keep hO.b)).1
      have hbx := bt hO.b (al w10 (.cells #[.int .i64 u.gen, .int .i64 u.bl, .int .i64 u.cl, .int .i64 u.rf, .int .i64 u.nx, .slice a7 u.rs.length c7] 28))
      have FM := hide ((H.out.f.snoc H.out.b hO).keep (al w10 (.cells #[.int .i64 u.gen, .int .i64 u.bl, .int .i64 u.cl, .int .i64 u.rf, .int .i64 u.nx, .slice a7 u.rs.length c7] 28)))
      have J7 := hide (hO.r.qs.keep (al w10 (.cells #[.int .i64 u.gen, .int .i64 u.bl, .int .i64 u.cl, .int .i64 u.rf, .int .i64 u.nx, .slice a7 u.rs.length c7] 28)))
      have H := hide (H.out.keep hbx)
      have HW := hide hbx
      have B15 := hide (Bx.new w10 28 #[.int .i64 u.gen, .int .i64 u.bl, .int .i64 u.cl, .int .i64 u.rf, .int .i64 u.nx, .slice a7 u.rs.length c7])
      clear hO hbx DX
      try clear h1 h2
      go_wp2_with fail
      generalize w10.alloc (.cells #[.int .i64 u.gen, .int .i64 u.bl, .int .i64 u.cl, .int .i64 u.rf, .int .i64 u.nx, .slice a7 u.rs.length c7] 28) = W10 at *
      generalize w10.heap.size = g15 at *
      refine (RX.out _ HW.out).mono ?_
      rintro y w11 ⟨a8, c8, rfl, hO⟩
      have H := hide (H.out.keep hO.b)
      have FM := hide (FM.out.keep hO.b)
      have J7 := hide (J7.out.keep hO.b)
      have J8 := hide hO.r
      have B15 := hide (B15.out.keep hO.b)
      clear hO RX HW
      go_wp2_with
        (refine wpList_store_row rfl 28 _ _ rfl g12 _ rfl rfl 28 _ H.out.b12 sizeSuper rfl (by simp [Value.oneCell']) ?_
         have hSB := but_setRow w11 g12 #[.int .i64 u.gen, .int .i64 u.bl, .int .i64 u.cl, .int .i64 u.rf, .int .i64 u.nx, .slice a8 u.rs.length c8]
         have K6 := hide (H.out.b6.but hSB (by have := N6.out; omega))
         have K8 := hide (H.out.b8.but hSB (by have := N8.out; omega))
         have K10 := hide (H.out.b10.but hSB (by have := N10.out; omega))
         have K15 := hide (B15.out.but hSB (by have := N15.out; omega))
         have K12 : Hid (Bx (w11.setRow g12 #[.int .i64 u.gen, .int .i64 u.bl, .int .i64 u.cl, .int .i64 u.rf, .int .i64 u.nx, .slice a8 u.rs.length c8]) 28 g12 #[.int .i64 u.gen, .int .i64 u.bl, .int .i64 u.cl, .int .i64 u.rf, .int .i64 u.nx, .slice a8 u.rs.length c8]) := setRow_heap _ _ _ _ _ _ H.out.b12
         have FM := hide (FM.out.but hSB (below_setRow H.out.b N12.out _) fun t ht x hx e => ((FM.out.own t ht).r.off H.out.b12 (by decide) x.block (by rw [hx]; rfl)) e)
         have HL := hide (below_setRow H.out.b N12.out #[.int .i64 u.gen, .int .i64 u.bl, .int .i64 u.cl, .int .i64 u.rf, .int .i64 u.nx, .slice a8 u.rs.length c8])
         have J8 := hide (J8.out.but hSB fun x hx e => J8.out.off H.out.b12 (by decide) x.block (by rw [hx]; rfl) e).qs
         have J7 := hide (FM.out.own ⟨a7, c7, u.rs⟩ (by simp)).r.qs
         clear hSB B15 H
         generalize w11.setRow g12 #[.int .i64 u.gen, .int .i64 u.bl, .int .i64 u.cl, .int .i64 u.rf, .int .i64 u.nx, .slice a8 u.rs.length c8] = W12 at *
         obtain ⟨x0, x1, x2, x3, x4, x5⟩ := su_six (u := u) (a := a7) (c := c7) K15.out
         obtain ⟨y0, y1, y2, y3, y4, y5⟩ := su_six (u := u) (a := a8) (c := c8) K12.out)
      refine (ES.out _ _ _ _ _ J7.out J8.out).mono ?_
      rintro y w12 ⟨rfl, hb⟩
      have FM := hide (FM.out.keep hb)
      have HL := hide (bt HL.out hb)
      have d6 : w12.cell? ⟨g6, 5, none⟩ = some (.slice a3 s.rs.length c3) := (K6.out.keep hb).cell 5 rfl
      have d8 : w12.cell? ⟨g8, 5, none⟩ = some (.slice a4 t.rs.length c4) := (K8.out.keep hb).cell 5 rfl
      have d10 : w12.cell? ⟨g10, 5, none⟩ = some (.slice a5 s.rs.length c5) := (K10.out.keep hb).cell 5 rfl
      have d15 : w12.cell? ⟨g15, 5, none⟩ = some (.slice a7 u.rs.length c7) := (K15.out.keep hb).cell 5 rfl
      clear hb J7 J8 ES x0 x1 x2 x3 x4 x5 y0 y1 y2 y3 y4 y5 K6 K8 K10 K12 K15
      rw [← HTT.out] at FM
      have AP : Hid (Calls Try.prog 10 #[.slice (some ⟨w12.heap.size, 0, none⟩) 4 4] (w12.alloc (.cells #[.slice a3 s.rs.length c3, .slice a4 t.rs.length c4, .slice a5 s.rs.length c5, .slice a7 u.rs.length c7] 26)) fun x w' => x = .returned (.bool true) ∧ Below w.heap.size w w') := by
        refine apart_fam _ w [⟨a3, c3, s.rs⟩, ⟨a4, c4, t.rs⟩, ⟨a5, c5, s.rs⟩, ⟨a7, c7, u.rs⟩] (some ⟨w12.heap.size, 0, none⟩) 4 (FM.out.keep (al w12 (.cells #[.slice a3 s.rs.length c3, .slice a4 t.rs.length c4, .slice a5 s.rs.length c5, .slice a7 u.rs.length c7] 26))) (bt HL.out (al w12 (.cells #[.slice a3 s.rs.length c3, .slice a4 t.rs.length c4, .slice a5 s.rs.length c5, .slice a7 u.rs.length c7] 26))) (Aj.mk (Bx.new w12 26 #[.slice a3 s.rs.length c3, .slice a4 t.rs.length c4, .slice a5 s.rs.length c5, .slice a7 u.rs.length c7]) (Nat.le_refl _) (by decide) rfl rfl) (by simp) (fun z hz => ?_)
        have h5 := LS.out
        have h6 := LT.out
        have h7 := LX.out
        simp only [List.mem_cons, List.not_mem_nil, or_false] at hz
        rcases hz with rfl | rfl | rfl | rfl <;> dsimp only <;> omega
      go_wp2_with fail
      refine AP.out.mono ?_
      rintro y w14 ⟨rfl, hb⟩
      have HL := hide hb
      clear hb AP d6 d8 d10 d15
      go_wp2_with fail
      refine (works_any _).mono ?_
      rintro y w15 ⟨rfl, hb⟩
      have HL := hide (bt HL.out hb)
      clear hb
      go_wp2
      go_ret
      exact ⟨rfl, HL.out⟩
end Go.Proofs.Ytifhkfghjifecaa
