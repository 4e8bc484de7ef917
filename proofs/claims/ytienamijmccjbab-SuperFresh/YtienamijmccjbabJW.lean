import Derived.Test.YtienamijmccjbabJV
namespace Go.Proofs.Ytienamijmccjbab
open Go.RowKit

theorem enB_len (s : Su) : (enB s).length ≤ 512 := by
  unfold enB
  split
  · rename_i h0; rw [lay_length (chE_ok h0).l]; exact Nat.le_refl _
  · simp
set_option maxRecDepth 8000 in
set_option maxHeartbeats 6400000 in
theorem superFresh_any (w : World) (s : Su) (a : Option Addr) (c : Nat) (hJ : Js w a s.rs) (hN : s.rs.length ≤ 4398046510976) (_ : s.rs.length ≤ c) (t : Su) (a2 : Option Addr) (c2 : Nat) (hJ2 : Js w a2 t.rs) (hN2 : t.rs.length ≤ 4398046510976) (_ : t.rs.length ≤ c2) :
    Calls Try.prog 6 #[.agg (suC s a c), .agg (suC t a2 c2)] w fun e w' => e = .returned (.bool true) ∧ Below w.heap.size w w' := by
  have HL := hide (bt (al w (.cells (suC s a c) 28)) (al _ (.cells (suC t a2 c2) 28)))
  have HB2 := hide ((Bx.new w 28 (suC s a c)).keep (al _ (.cells (suC t a2 c2) 28)))
  have HB3 : Hid (Bx ((w.alloc (.cells (suC s a c) 28)).alloc (.cells (suC t a2 c2) 28)) 28 (w.heap.size + 1) (suC t a2 c2)) := by
    have h := Bx.new (w.alloc (.cells (suC s a c) 28)) 28 (suC t a2 c2)
    rwa [size_alloc] at h
  have HJ := hide hJ
  have HJ2 := hide hJ2
  have SP := hide fun (w1 : World) (hb : Below w.heap.size w w1) => spare_any w1 s a c (hJ.keep hb) hN
  have SQ := hide fun (w1 : World) (hb : Below w.heap.size w w1) => spare_any w1 t a2 c2 (hJ2.keep hb) hN2
  have EN := hide fun (w1 : World) (a1 : Option Addr) (c1 : Nat) (h : Js w1 a1 s.rs) => Encode_any w1 s a1 c1 h (by omega)
  have ET := hide fun (w1 : World) (a1 : Option Addr) (c1 : Nat) (h : Js w1 a1 t.rs) => Encode_any w1 t a1 c1 h (by omega)
  have RE := hide fun (w1 : World) (hb : Below w.heap.size w w1) => rEncode_any w1 s a c (hJ.keep hb)
  have KE := hide fun (w1 : World) (hb : Below w.heap.size w w1) (g : Nat) (h : Jw w1 (some ⟨g, 0, none⟩) (s.rs.length + 2) (spW s.rs)) => kept_any w1 s g a c h (hJ.keep hb) hN
  unfold EnQ at EN RE ET
  have hl5 := enB_len s
  have hl6 := enB_len t
  have H8 := hide (enB_b8 s)
  have H8t := hide (enB_b8 t)
  have EB := hide fun (w1 : World) (a1 a2 : Option Addr) (c1 c2 : Nat) (h1 : Bs w1 a1 (enB s)) (h2 : Bs w1 a2 (enB s)) => EqBytes_same w1 a1 a2 (enB s).length (enB s).length c1 c2 (enB s) h1 h2 rfl rfl
  have hee : ((chE s : Int) == (chE s : Int)) = true := by simp
  have HN := hide hN
  clear hJ hJ2 hN hN2
  generalize chE s = e at *
  generalize enB s = B at *
  generalize chE t = et at *
  generalize enB t = Bt at *
  have HL5 := hide hl5
  have HL6 := hide hl6
  clear hl5 hl6
  unfold suv suC at *
  go_enter Try.func6, Try.ntmps6
  go_wp2_with fail
  generalize (w.alloc (.cells #[.int .i64 s.gen, .int .i64 s.bl, .int .i64 s.cl, .int .i64 s.rf, .int .i64 s.nx, .slice a s.rs.length c] 28)).alloc (.cells #[.int .i64 t.gen, .int .i64 t.bl, .int .i64 t.cl, .int .i64 t.rf, .int .i64 t.nx, .slice a2 t.rs.length c2] 28) = W0 at *
  refine (SP.out _ HL.out).mono ?_
  rintro y w1 ⟨g1, rfl, hS⟩
  have hbx := bt hS.b (al w1 (.cells #[.int .i64 s.gen, .int .i64 s.bl, .int .i64 s.cl, .int .i64 s.rf, .int .i64 s.nx, .slice (some ⟨g1, 0, none⟩) s.rs.length (s.rs.length + 2)] 28))
  have HX := hide (Sx.pre HL.out (hS.keep (al w1 (.cells #[.int .i64 s.gen, .int .i64 s.bl, .int .i64 s.cl, .int .i64 s.rf, .int .i64 s.nx, .slice (some ⟨g1, 0, none⟩) s.rs.length (s.rs.length + 2)] 28))))
  have HL := hide (bt HL.out hbx)
  have HB2 := hide (HB2.out.keep hbx)
  have HB3 := hide (HB3.out.keep hbx)
  have HB5 := hide (Bx.new w1 28 #[.int .i64 s.gen, .int .i64 s.bl, .int .i64 s.cl, .int .i64 s.rf, .int .i64 s.nx, .slice (some ⟨g1, 0, none⟩) s.rs.length (s.rs.length + 2)])
  clear hS hbx SP
  go_wp2_with fail
  generalize w1.alloc (.cells #[.int .i64 s.gen, .int .i64 s.bl, .int .i64 s.cl, .int .i64 s.rf, .int .i64 s.nx, .slice (some ⟨g1, 0, none⟩) s.rs.length (s.rs.length + 2)] 28) = W1 at *
  generalize w1.heap.size = g5 at *
  refine (EN.out _ _ _ HX.out.js).mono ?_
  rintro y w2 ⟨a3, c3, rfl, hO⟩
  have FM := hide (Fam.one (Own.pre HL.out hO) H8.out)
  have HL := hide (bt HL.out hO.b)
  have HB2 := hide (HB2.out.keep hO.b)
  have HB3 := hide (HB3.out.keep hO.b)
  have HB5 := hide (HB5.out.keep hO.b)
  have HX := hide (HX.out.keep hO.b)
  clear hO
  go_wp2_with (refine wpList_load_row rfl 28 _ rfl (w.heap.size + 1) rfl 28 _ (0, 0) _ HB3.out Try.underlying28 rfl sizeSuper ?_)
  refine (SQ.out _ HL.out).mono ?_
  rintro y w3 ⟨g7, rfl, hS⟩
  have HT := hide hS.js
  have FM := hide (FM.out.keep hS.b)
  have HL := hide (bt HL.out hS.b)
  have HB2 := hide (HB2.out.keep hS.b)
  have HB3 := hide (HB3.out.keep hS.b)
  have HB5 := hide (HB5.out.keep hS.b)
  have HX := hide (HX.out.keep hS.b)
  clear hS SQ
  go_wp2_with fail
  refine (ET.out _ _ _ HT.out).mono ?_
  rintro y w4 ⟨a4, c4, rfl, hO⟩
  have FM := hide (FM.out.snoc HL.out hO H8t.out)
  have HL := hide (bt HL.out hO.b)
  have HB2 := hide (HB2.out.keep hO.b)
  have HB3 := hide (HB3.out.keep hO.b)
  have HB5 := hide (HB5.out.keep hO.b)
  have HX := hide (HX.out.keep hO.b)
  clear hO ET HT
  go_wp2_with (refine wpList_load_row rfl 28 _ rfl g5 rfl 28 _ (0, 0) _ HB5.out Try.underlying28 rfl sizeSuper ?_)
  refine (EN.out _ _ _ HX.out.js).mono ?_
  rintro y w5 ⟨a5, c5, rfl, hO⟩
  have FM := hide (FM.out.snoc HL.out hO H8.out)
  have HL := hide (bt HL.out hO.b)
  have HB2 := hide (HB2.out.keep hO.b)
  have HB3 := hide (HB3.out.keep hO.b)
  have HB5 := hide (HB5.out.keep hO.b)
  have HX := hide (HX.out.keep hO.b)
  clear hO EN
  go_wp2_with (refine wpList_load_row rfl 28 _ rfl w.heap.size rfl 28 _ (0, 0) _ HB2.out Try.underlying28 rfl sizeSuper ?_)
  refine (RE.out _ HL.out).mono ?_
  rintro y w6 ⟨a6, c6, rfl, hO⟩
  have O6 := hide (hO.bs H8.out)
  have FM := hide (FM.out.keep hO.b)
  have HL := hide (bt HL.out hO.b)
  have HB2 := hide (HB2.out.keep hO.b)
  have HB3 := hide (HB3.out.keep hO.b)
  have HB5 := hide (HB5.out.keep hO.b)
  have HX := hide (HX.out.keep hO.b)
  clear hO RE
  have O3 := hide ((FM.out.own _ (by simp : (⟨a3, c3, B⟩ : Br) ∈ _)).1.bs H8.out)
  have O5 := hide ((FM.out.own _ (by simp : (⟨a5, c5, B⟩ : Br) ∈ _)).1.bs H8.out)
  go_wp2_with fail
  refine (EB.out _ _ _ _ _ O3.out O6.out).mono ?_
  rintro y w7 ⟨rfl, hb⟩
  have FM := hide (FM.out.keep hb)
  have HL := hide (bt HL.out hb)
  have HB2 := hide (HB2.out.keep hb)
  have HB3 := hide (HB3.out.keep hb)
  have HB5 := hide (HB5.out.keep hb)
  have HX := hide (HX.out.keep hb)
  have O5 := hide (O5.out.keep hb)
  have O6 := hide (O6.out.keep hb)
  clear hb O3
  go_wp2_with fail
  refine (EB.out _ _ _ _ _ O5.out O6.out).mono ?_
  rintro y w8 ⟨rfl, hb⟩
  have FM := hide (FM.out.keep hb)
  have HL := hide (bt HL.out hb)
  have HB2 := hide (HB2.out.keep hb)
  have HB3 := hide (HB3.out.keep hb)
  have HB5 := hide (HB5.out.keep hb)
  have HX := hide (HX.out.keep hb)
  obtain ⟨x0, x1, x2, x3, x4, x5⟩ := su_six (u := s) (a := a) (c := c) HB2.out
  obtain ⟨y0, y1, y2, y3, y4, y5⟩ := su_six (u := s) (a := some ⟨g1, 0, none⟩) (c := s.rs.length + 2) HB5.out
  clear hb O5 O6 EB
  go_wp2_with fail
  refine (KE.out _ HL.out _ HX.out.j).mono ?_
  rintro y w9 ⟨rfl, hb⟩
  have FZ : Hid (Fz w w9 s t a2 c2 g1 g5 _ (spW s.rs)) := ⟨HB3.out.keep hb, HB5.out.keep hb, HX.out.j.keep hb, spW_length _, FM.out.keep hb, bt HL.out hb, HX.out.n⟩
  clear hb KE x0 x1 x2 x3 x4 x5 y0 y1 y2 y3 y4 y5 FM HL HB2 HB3 HB5 HX HJ
  go_wp2_with fail
  clear hee H8 H8t
  generalize hT : ([⟨a3, c3, B⟩] ++ [⟨a4, c4, Bt⟩] ++ [⟨a5, c5, B⟩] : List Br) = T at *
  have HTT := hide hT
  clear hT
  generalize hn : s.rs.length = n at *
  have HNN := hide hn
  clear hn
  generalize hm : t.rs.length = m at *
  have HMM := hide hm
  clear hm
  go_loopw [14] (fun q wx => ∃ (j : Nat) (Y : List Ro), j ≤ n ∧ q = .int .i64 j ∧ Fz w wx s t a2 c2 g1 g5 T Y) (fun q _ => n - (intOf q).toNat)
  case atStart => exact ⟨0, _, Nat.zero_le _, rfl, FZ.out⟩
  case round =>
  obtain ⟨j, Y, hj, rfl, hH⟩ := hrel
  clear FZ
  have H := hide hH
  clear hH
  have hY : Y.length = n + 2 := by rw [H.out.yl, HNN.out]
  have d5 : wr.cell? ⟨g5, 5, none⟩ = some (.slice (some ⟨g1, 0, none⟩) n (n + 2)) := by
    have h : wr.cell? ⟨g5, 5, none⟩ = some (.slice (some ⟨g1, 0, none⟩) s.rs.length (s.rs.length + 2)) := H.out.b5.cell 5 rfl
    rwa [HNN.out] at h
  have c3' : wr.cell? ⟨w.heap.size + 1, 5, none⟩ = some (.slice a2 m c2) := by
    have h : wr.cell? ⟨w.heap.size + 1, 5, none⟩ = some (.slice a2 t.rs.length c2) := H.out.b3.cell 5 rfl
    rwa [HMM.out] at h
  by_cases hlt : j < n ∧ j < m
  · obtain ⟨hln, hlm⟩ := hlt
    have hlni : (j : Int) < (n : Int) := by omega
    have hlmi : (j : Int) < (m : Int) := by omega
    obtain ⟨⟨v0, e0⟩, ⟨v1, e1⟩, ⟨v2, e2⟩, ⟨v3, e3⟩, f0, f1, f2, f3⟩ := H.out.facts (k := j) (by omega)
    obtain ⟨bk, off, rfl, hr4⟩ := (HJ2.out.keep H.out.b).at (r := j) (by have := HMM.out; omega)
    obtain ⟨q0, q1, q2, q3⟩ := range4 hr4
    clear hr4
    generalize t.rs.getD j ro0 = r at *
    have HS := hide ((H.out.set j r).keep (dr2 _))
    rw [nest4r] at HS
    go_wp2_with fail
    go_region
    all_goals
      have hbn := HN.out
      clear e0 e1 e2 e3 f0 f1 f2 f3 q0 q1 q2 q3 d5 c3'
      go_wp2
      go_roundw
    all_goals first
      | (simp [intOf]; omega)
      | exact ⟨j + 1, _, by omega, by go_num, HS.out⟩
  · obtain ⟨M, hM, hJM⟩ : ∃ M : List Ro, M.length = n ∧ Js wr (some ⟨g1, 0, none⟩) M := ⟨Y.take n, by rw [List.length_take]; omega, by
      have h := H.out.y
      rw [← List.take_append_drop n Y] at h
      exact h.pre.qs⟩
    have HBM : Hid (Bx wr 28 g5 #[.int .i64 s.gen, .int .i64 s.bl, .int .i64 s.cl, .int .i64 s.rf, .int .i64 s.nx, .slice (some ⟨g1, 0, none⟩) n (n + 2)]) := by
      have h := H.out.b5
      unfold suC at h
      rw [HNN.out] at h
      exact h
    have CS := hide fun (w1 : World) (hb : Below wr.heap.size wr w1) => CopySuper_any w1 ⟨s.gen, s.bl, s.cl, s.rf, s.nx, M⟩ (some ⟨g1, 0, none⟩) (n + 2) (hJM.keep hb) (by show M.length ≤ _; have := HN.out; omega)
    have E2 := hide fun (w1 : World) (hb : Below wr.heap.size wr w1) => Encode_any w1 ⟨s.gen, s.bl, s.cl, s.rf, s.nx, M⟩ (some ⟨g1, 0, none⟩) (n + 2) (hJM.keep hb) (by show M.length ≤ _; have := HN.out; omega)
    have R2 := hide fun (w1 : World) (a1 : Option Addr) (c1 : Nat) (h : Js w1 a1 M) => rEncode_any w1 ⟨s.gen, s.bl, s.cl, s.rf, s.nx, M⟩ a1 c1 h
    unfold EnQ at E2 R2
    have HL7 := hide (enB_len ⟨s.gen, s.bl, s.cl, s.rf, s.nx, M⟩)
    have H8m := hide (enB_b8 ⟨s.gen, s.bl, s.cl, s.rf, s.nx, M⟩)
    have EBm := hide fun (w1 : World) (a1 a2 : Option Addr) (c1 c2 : Nat) (h1 : Bs w1 a1 (enB ⟨s.gen, s.bl, s.cl, s.rf, s.nx, M⟩)) (h2 : Bs w1 a2 (enB ⟨s.gen, s.bl, s.cl, s.rf, s.nx, M⟩)) => EqBytes_same w1 a1 a2 (enB ⟨s.gen, s.bl, s.cl, s.rf, s.nx, M⟩).length (enB ⟨s.gen, s.bl, s.cl, s.rf, s.nx, M⟩).length c1 c2 (enB ⟨s.gen, s.bl, s.cl, s.rf, s.nx, M⟩) h1 h2 rfl rfl
    have hee : ((chE ⟨s.gen, s.bl, s.cl, s.rf, s.nx, M⟩ : Int) == (chE ⟨s.gen, s.bl, s.cl, s.rf, s.nx, M⟩ : Int)) = true := by simp
    unfold suv suC at CS E2 R2
    dsimp only at CS E2 R2
    rw [hM] at CS E2 R2
    clear hM hJM hY
    generalize chE ⟨s.gen, s.bl, s.cl, s.rf, s.nx, M⟩ = eM at *
    generalize enB ⟨s.gen, s.bl, s.cl, s.rf, s.nx, M⟩ = B2 at *
    have hex : n = j ∨ ((j : Int) < (n : Int) ∧ (m : Int) ≤ (j : Int)) := by
      by_cases h1 : j < n
      · exact .inr ⟨by omega, by omega⟩
      · exact .inl (by omega)
    clear hlt
    rcases hex with rfl | ⟨h1, h2⟩
    all_goals
      go_wp2_with (refine wpList_load_row rfl 28 _ rfl g5 rfl 28 _ (0, 0) _ HBM.out Try.underlying28 rfl sizeSuper ?_)
      refine (CS.out _ (Below.refl _ _)).mono ?_
      rintro y w10 ⟨a8, c8, rfl, hO⟩
      have hb10 := bt hO.b (al w10 (.cells #[.int .i64 s.gen, .int .i64 s.bl, .int .i64 s.cl, .int .i64 s.rf, .int .i64 s.nx, .slice a8 n c8] 28))
      have H10 := hide (H.out.keep hb10)
      have HBM := hide (HBM.out.keep hb10)
      have HB10 := hide hb10
      have J10 := hide (hO.r.qs.keep (al w10 (.cells #[.int .i64 s.gen, .int .i64 s.bl, .int .i64 s.cl, .int .i64 s.rf, .int .i64 s.nx, .slice a8 n c8] 28)))
      have B15 := hide (Bx.new w10 28 #[.int .i64 s.gen, .int .i64 s.bl, .int .i64 s.cl, .int .i64 s.rf, .int .i64 s.nx, .slice a8 n c8])
      clear hO hb10 CS d5 c3'
      try clear h1 h2
      go_wp2_with (refine wpList_load_row rfl 28 _ rfl g5 rfl 28 _ (0, 0) _ HBM.out Try.underlying28 rfl sizeSuper ?_)
      generalize w10.alloc (.cells #[.int .i64 s.gen, .int .i64 s.bl, .int .i64 s.cl, .int .i64 s.rf, .int .i64 s.nx, .slice a8 n c8] 28) = W10 at *
      generalize w10.heap.size = g15 at *
      refine (E2.out _ HB10.out).mono ?_
      rintro y w11 ⟨a9, c9, rfl, hO⟩
      have FM := hide (H10.out.f.snoc H10.out.b hO H8m.out)
      have HL := hide (bt H10.out.b hO.b)
      have J11 := hide (J10.out.keep hO.b)
      have B15 := hide (B15.out.keep hO.b)
      have O9 := hide (hO.bs H8m.out)
      clear hO E2 H10 J10
      go_wp2_with (refine wpList_load_row rfl 28 _ rfl g15 rfl 28 _ (0, 0) _ B15.out Try.underlying28 rfl sizeSuper ?_)
      refine (R2.out _ _ _ J11.out).mono ?_
      rintro y w12 ⟨a7, c7, rfl, hO⟩
      have FM := hide (FM.out.keep hO.b)
      have HL := hide (bt HL.out hO.b)
      have O9 := hide (O9.out.keep hO.b)
      have O7 := hide (hO.bs H8m.out)
      clear hO R2 J11
      go_wp2_with fail
      refine (EBm.out _ _ _ _ _ O9.out O7.out).mono ?_
      rintro y w13 ⟨rfl, hb⟩
      have hal := bt hb (al w13 (.cells #[.slice a3 B.length c3, .slice a4 Bt.length c4, .slice a5 B.length c5, .slice a9 B2.length c9] 22))
      have HL := hide (bt HL.out hal)
      have FM := hide (FM.out.keep hal)
      rw [← HTT.out] at FM
      have AP : Hid (Calls Try.prog 23 #[.slice (some ⟨w13.heap.size, 0, none⟩) 4 4] (w13.alloc (.cells #[.slice a3 B.length c3, .slice a4 Bt.length c4, .slice a5 B.length c5, .slice a9 B2.length c9] 22)) fun x w' => x = .returned (.bool true) ∧ Below w.heap.size w w') := by
        refine Apart_fam _ w [⟨a3, c3, B⟩, ⟨a4, c4, Bt⟩, ⟨a5, c5, B⟩, ⟨a9, c9, B2⟩] (some ⟨w13.heap.size, 0, none⟩) 4 FM.out HL.out (Ar.mk (Bx.new w13 22 #[.slice a3 B.length c3, .slice a4 Bt.length c4, .slice a5 B.length c5, .slice a9 B2.length c9]) (Nat.le_refl _) (by decide) rfl rfl) (by simp) (fun u hu => ?_)
        have h5 := HL5.out
        have h6 := HL6.out
        have h7 := HL7.out
        simp only [List.mem_cons, List.not_mem_nil, or_false] at hu
        rcases hu with rfl | rfl | rfl | rfl <;> dsimp only <;> omega
      clear hb hal O9 O7 EBm
      go_wp2_with fail
      refine AP.out.mono ?_
      rintro y w14 ⟨rfl, hb⟩
      have HL := hide hb
      clear hb AP
      go_wp2_with fail
      refine (works_any _).mono ?_
      rintro y w15 ⟨rfl, hb⟩
      have HL := hide (bt HL.out hb)
      clear hb
      go_wp2
      go_ret
      exact ⟨rfl, HL.out⟩
end Go.Proofs.Ytienamijmccjbab
