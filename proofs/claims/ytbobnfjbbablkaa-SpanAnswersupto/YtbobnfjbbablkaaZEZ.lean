import Derived.Test.YtbobnfjbbablkaaZFC
namespace Go.Proofs.Ytbobnfjbbablkaa
open Go.RowKit

set_option maxRecDepth 100000 in
set_option maxHeartbeats 25600000 in
theorem spanAnswers_any (w : World) (a0 : Option Addr) (c0 : Nat) (L : List Ov) (hO : Oz w a0 L) :
    Calls Try.prog 3 #[.slice a0 L.length c0] w fun e w' => e = .returned (.bool true) ∧ Below w.heap.size w w' := by
  have HO := hide hO
  have hLl := hO.2.1
  have FX := hide fixed_any
  clear hO
  go_enter Try.func3, Try.ntmps3
  go_wp2_with fail
  refine (FX.out _).mono ?_
  rintro e w1 ⟨rfl, hb⟩
  have HB1 := hide hb
  clear hb
  go_wp2
  go_loopw [3, 4, 5, 6, 7, 8, 9, 10] (fun i _ _ _ _ _ _ _ wx => ∃ j : Nat, j ≤ L.length ∧ i = .int .i64 j ∧ Below w.heap.size w wx) (fun i _ _ _ _ _ _ _ _ => L.length - (intOf i).toNat)
  case atStart => exact ⟨0, Nat.zero_le _, rfl, HB1.out⟩
  case round =>
    obtain ⟨j, hj, rfl, hG⟩ := hrel
    have HG := hide hG
    clear hG
    have hj1 := w64 (j := j) (by omega)
    by_cases hlt : j < L.length
    · have hi1 : (j : Int) < (L.length : Int) := by omega
      obtain ⟨b, off, hab, hr0⟩ := HO.out.at hlt
      have hoo := HO.out.1 _ (getD_memO hlt)
      generalize L.getD j Ov.zero = o at *
      have TN := hide (Tn.of hr0)
      have TNR := hide fun W (hb : Below wr.heap.size wr W) => TN.out.keep (bt HG.out hb)
      subst hab
      clear hr0
      have HOI := hide fun W (hb : Below wr.heap.size wr W) => hoo.1.keep (bt HG.out hb)
      have HOB := hide hoo.2
      have SHO := hide (ans_sh hoo.1 hoo.2)
      clear hoo
      obtain ⟨t0, t1, t2, t3, t4, t5, t6, t7, t8, t9⟩ := TNR.out _ (Below.refl _ _)
      have CSP := hide (gspared_any wr o (HOI.out _ (Below.refl _ _)) HOB.out)
      unfold Ov.cs at CSP
      go_wp2_with fail
      refine CSP.out.mono ?_
      rintro e w2 ⟨p, rfl, hsp⟩
      have SP := hide hsp
      have PE := hide (ans_eq hsp.kd hsp.A hsp.B hsp.R hsp.S hsp.M)
      have OBP := hide (hsp.ob HOB.out)
      clear hsp CSP
      clear t0 t1 t2 t3 t4 t5 t6 t7 t8 t9
      have hb2 := SP.out.f.b
      obtain ⟨t0, t1, t2, t3, t4, t5, t6, t7, t8, t9⟩ := TNR.out _ hb2
      have hbl := block_lt_of_cell t0
      dsimp only at hbl
      clear hb2
      have CTO := hide (gtold_any (w2.alloc (.cells p.cs 29)) o (HOI.out _ (bt SP.out.f.b (al _ _))) HOB.out)
      unfold Ov.cs at CTO
      unfold Av.cs at CTO
      (try unfold Ov.cs)
      go_wp2_with fail
      refine CTO.out.mono ?_
      rintro e w3 ⟨want, rfl, hwt, ewt⟩
      have HWT : Hid (Aw (w2.alloc (.cells p.cs 29)) w3 want) := hwt
      have EWT := hide ewt
      clear hwt ewt CTO
      clear t0 t1 t2 t3 t4 t5 t6 t7 t8 t9 hbl
      have M4a := hide (blk_keep (heap_alloc_new w2 (.cells p.cs 29)) HWT.out.b)
      obtain ⟨k0, k1, k2, k3, k4, k5, k6, k7, k8, k9⟩ := ten_ov M4a.out
      have hkl := block_lt_of_cell k0
      dsimp only at hkl
      have CA1 := hide (gasked_any (w3.alloc (.cells want.cs 32)) p (((SP.out.keep (al _ _)).keep (bt HWT.out.b (al _ _))).oi OBP.out.m) OBP.out)
      unfold Ov.cs at CA1
      (try unfold Av.cs at CA1)
      (try unfold Av.cs)
      go_wp2_with fail
      refine CA1.out.mono ?_
      rintro e w4 ⟨a, rfl, ha, ea⟩
      have HA : Hid (Ao (w3.alloc (.cells want.cs 32)) w4 a) := ha
      have EA := hide (ea.trans PE.out)
      clear ha ea CA1
      clear k0 k1 k2 k3 k4 k5 k6 k7 k8 k9 hkl
      have M4b := hide (blk_keep M4a.out (bt (al w3 _) HA.out.q.b))
      obtain ⟨k0, k1, k2, k3, k4, k5, k6, k7, k8, k9⟩ := ten_ov M4b.out
      have hkl := block_lt_of_cell k0
      dsimp only at hkl
      have CA2 := hide (gasked_any (w4.alloc (.cells a.cs 32)) p (((SP.out.keep (al _ _)).keep (bt (bt HWT.out.b (al w3 _)) (bt HA.out.q.b (al _ _)))).oi OBP.out.m) OBP.out)
      unfold Ov.cs at CA2
      (try unfold Av.cs at CA2)
      (try unfold Av.cs)
      go_wp2_with fail
      refine CA2.out.mono ?_
      rintro e w5 ⟨bb, rfl, hbb, ebb⟩
      have HBB : Hid (Ao (w4.alloc (.cells a.cs 32)) w5 bb) := hbb
      have EB := hide (ebb.trans PE.out)
      clear hbb ebb CA2
      clear k0 k1 k2 k3 k4 k5 k6 k7 k8 k9 hkl
      have L0 := hide (LA.make SP.out HWT.out HA.out HBB.out)
      (try unfold Av.cs)
      clear M4a M4b SP HWT HA HBB
      go_wp2
      skip
      obtain ⟨V1, hV1⟩ : ∃ V1 : World, V1 = w2.alloc (.cells p.cs 29) := ⟨_, rfl⟩
      rw [← hV1] at L0
      clear hV1
      have L0b : Hid (LA wr V1 (w5.alloc (.cells #[.int .i64 bb.n, .bool bb.is, .slice bb.aK bb.k.length bb.cK, .slice bb.aM bb.M.length bb.cM] 32)) o p want a bb w2.heap.size w3.heap.size w4.heap.size w5.heap.size) := L0.out
      clear L0
      generalize w5.alloc (.cells #[.int .i64 bb.n, .bool bb.is, .slice bb.aK bb.k.length bb.cK, .slice bb.aM bb.M.length bb.cM] 32) = W5 at *
      have L1 := hide (L0b.out.keep (drew1' W5))
      clear L0b
      have SM1 := hide fun W (h : LA wr V1 W o p want a bb w2.heap.size w3.heap.size w4.heap.size w5.heap.size) => gsame_any W a want h.a.aw.k h.a.aw.m h.w.k h.w.m (EA.out.trans EWT.out.symm)
      have SM2 := hide fun W (h : LA wr V1 W o p want a bb w2.heap.size w3.heap.size w4.heap.size w5.heap.size) => gsame_any W bb want h.b.aw.k h.b.aw.m h.w.k h.w.m (EB.out.trans EWT.out.symm)
      have KP := hide fun W (h : LA wr V1 W o p want a bb w2.heap.size w3.heap.size w4.heap.size w5.heap.size) => gkept_any W wr p o h.sp (HOI.out _ h.sp.f.b) HOB.out
      have SPO := hide fun W (h : LA wr V1 W o p want a bb w2.heap.size w3.heap.size w4.heap.size w5.heap.size) => gspoil_any W wr p h.sp.fam h.sp.qw (h.sp.oi OBP.out.m) OBP.out h.sp.short
      unfold Av.cs at SM1 SM2
      unfold Ov.cs at KP SPO
      have S1 := And.intro (four_av L1.out.m6) (And.intro (four_av L1.out.m5) (And.intro (four_av L1.out.m7) (And.intro (ten_ov L1.out.m4) (TNR.out _ L1.out.sp.f.b))))
      go_region_held3 (fun w' => (w'.cell? ⟨w4.heap.size, 0, none⟩ = some (.int .i64 a.n) ∧ w'.cell? ⟨w4.heap.size, 1, none⟩ = some (.bool a.is) ∧ w'.cell? ⟨w4.heap.size, 2, none⟩ = some (.slice a.aK a.k.length a.cK) ∧ w'.cell? ⟨w4.heap.size, 3, none⟩ = some (.slice a.aM a.M.length a.cM)) ∧ (w'.cell? ⟨w3.heap.size, 0, none⟩ = some (.int .i64 want.n) ∧ w'.cell? ⟨w3.heap.size, 1, none⟩ = some (.bool want.is) ∧ w'.cell? ⟨w3.heap.size, 2, none⟩ = some (.slice want.aK want.k.length want.cK) ∧ w'.cell? ⟨w3.heap.size, 3, none⟩ = some (.slice want.aM want.M.length want.cM)) ∧ (w'.cell? ⟨w5.heap.size, 0, none⟩ = some (.int .i64 bb.n) ∧ w'.cell? ⟨w5.heap.size, 1, none⟩ = some (.bool bb.is) ∧ w'.cell? ⟨w5.heap.size, 2, none⟩ = some (.slice bb.aK bb.k.length bb.cK) ∧ w'.cell? ⟨w5.heap.size, 3, none⟩ = some (.slice bb.aM bb.M.length bb.cM)) ∧ (w'.cell? ⟨w2.heap.size, 0, none⟩ = some (.int .i64 p.kd) ∧ w'.cell? ⟨w2.heap.size, 1, none⟩ = some (.slice p.aA p.A.length p.cA) ∧ w'.cell? ⟨w2.heap.size, 2, none⟩ = some (.slice p.aB p.B.length p.cB) ∧ w'.cell? ⟨w2.heap.size, 3, none⟩ = some (.slice p.R.aL p.R.lo.length p.R.cL) ∧ w'.cell? ⟨w2.heap.size, 4, none⟩ = some (.slice p.R.aH p.R.hi.length p.R.cH) ∧ w'.cell? ⟨w2.heap.size, 5, none⟩ = some (.bool p.R.op) ∧ w'.cell? ⟨w2.heap.size, 6, none⟩ = some (.slice p.S.aL p.S.lo.length p.S.cL) ∧ w'.cell? ⟨w2.heap.size, 7, none⟩ = some (.slice p.S.aH p.S.hi.length p.S.cH) ∧ w'.cell? ⟨w2.heap.size, 8, none⟩ = some (.bool p.S.op) ∧ w'.cell? ⟨w2.heap.size, 9, none⟩ = some (.slice p.aM p.M.length p.cM)) ∧ (w'.cell? ⟨b, off + j * 10, none⟩ = some (.int .i64 o.kd) ∧ w'.cell? ⟨b, off + j * 10 + 1, none⟩ = some (.slice o.aA o.A.length o.cA) ∧ w'.cell? ⟨b, off + j * 10 + 2, none⟩ = some (.slice o.aB o.B.length o.cB) ∧ w'.cell? ⟨b, off + j * 10 + 3, none⟩ = some (.slice o.R.aL o.R.lo.length o.R.cL) ∧ w'.cell? ⟨b, off + j * 10 + 4, none⟩ = some (.slice o.R.aH o.R.hi.length o.R.cH) ∧ w'.cell? ⟨b, off + j * 10 + 5, none⟩ = some (.bool o.R.op) ∧ w'.cell? ⟨b, off + j * 10 + 6, none⟩ = some (.slice o.S.aL o.S.lo.length o.S.cL) ∧ w'.cell? ⟨b, off + j * 10 + 7, none⟩ = some (.slice o.S.aH o.S.hi.length o.S.cH) ∧ w'.cell? ⟨b, off + j * 10 + 8, none⟩ = some (.bool o.S.op) ∧ w'.cell? ⟨b, off + j * 10 + 9, none⟩ = some (.slice o.aM o.M.length o.cM)))
        (with_reducible exact S1)
        (first | (go_at_call 13; with_reducible refine (SM1.out _ L1.out).mono ?_; rintro e w6 ⟨rfl, hb⟩; have L1 := hide (L1.out.keep hb); have S1 := And.intro (four_av L1.out.m6) (And.intro (four_av L1.out.m5) (And.intro (four_av L1.out.m7) (And.intro (ten_ov L1.out.m4) (TNR.out _ L1.out.sp.f.b)))); clear hb) | (go_at_call 13; with_reducible refine (SM2.out _ L1.out).mono ?_; rintro e w7 ⟨rfl, hb⟩; have L1 := hide (L1.out.keep hb); have S1 := And.intro (four_av L1.out.m6) (And.intro (four_av L1.out.m5) (And.intro (four_av L1.out.m7) (And.intro (ten_ov L1.out.m4) (TNR.out _ L1.out.sp.f.b)))); clear hb) | (go_at_call 14; with_reducible refine (KP.out _ L1.out).mono ?_; rintro e w8 ⟨rfl, hb⟩; have L1 := hide (L1.out.keep hb); have S1 := And.intro (four_av L1.out.m6) (And.intro (four_av L1.out.m5) (And.intro (four_av L1.out.m7) (And.intro (ten_ov L1.out.m4) (TNR.out _ L1.out.sp.f.b)))); clear hb))
      clear S1
      obtain ⟨k0, k1, k2, k3, k4, k5, k6, k7, k8, k9⟩ := ten_ov L1.out.m4
      go_wp2_with fail
      refine (SPO.out _ L1.out).mono ?_
      rintro e w9 ⟨rfl, p', hi', ho', hc', hbut⟩
      have L2 := hide (L1.out.spoil hi' ho' hc' hbut)
      clear hi' ho' hc' hbut L1 SM1 SM2 KP SPO
      clear k0 k1 k2 k3 k4 k5 k6 k7 k8 k9
      obtain ⟨k0, k1, k2, k3, k4, k5, k6, k7, k8, k9⟩ := ten_ov L2.out.m4
      have CCO := hide (gcopied_any w9 p' L2.out.i L2.out.o)
      unfold Ov.cs at CCO
      go_wp2_with fail
      refine CCO.out.mono ?_
      rintro e w10 ⟨now, rfl, hcp, hb10⟩
      have L3 := hide (L2.out.keep hb10)
      have NI := hide hcp.i
      have NO := hide (hcp.ob L2.out.o)
      have NE := hide (ans_eq hcp.kd hcp.A hcp.B hcp.R hcp.S hcp.M)
      clear hcp hb10 CCO L2
      clear k0 k1 k2 k3 k4 k5 k6 k7 k8 k9
      obtain ⟨k0, k1, k2, k3, k4, k5, k6, k7, k8, k9⟩ := ten_ov L3.out.m4
      have hkl := block_lt_of_cell k0
      dsimp only at hkl
      have CA3 := hide (gasked_any (w10.alloc (.cells now.cs 29)) p' (L3.out.i.keep (al _ _)) L3.out.o)
      have SHP := hide (ans_sh L3.out.i L3.out.o)
      unfold Ov.cs at CA3
      unfold Av.cs at CA3
      (try unfold Ov.cs)
      go_wp2_with fail
      refine CA3.out.mono ?_
      rintro e w11 ⟨c, rfl, hc, ec⟩
      have L4 := hide (LC.make L3.out NI.out hc)
      have EC := hide ec
      clear hc ec CA3 L3 NI k0 k1 k2 k3 k4 k5 k6 k7 k8 k9 hkl
      (try unfold Av.cs)
      go_wp2
      have L4b : Hid (LC wr (w11.alloc (.cells #[.int .i64 c.n, .bool c.is, .slice c.aK c.k.length c.cK, .slice c.aM c.M.length c.cM] 32)) p' now want a bb c w2.heap.size w3.heap.size w4.heap.size w5.heap.size w10.heap.size w11.heap.size) := L4.out
      clear L4
      generalize w11.alloc (.cells #[.int .i64 c.n, .bool c.is, .slice c.aK c.k.length c.cK, .slice c.aM c.M.length c.cM] 32) = W11 at *
      have L5 := hide (L4b.out.keep (drew1' W11))
      clear L4b
      have TO2 := hide fun W (h : LC wr W p' now want a bb c w2.heap.size w3.heap.size w4.heap.size w5.heap.size w10.heap.size w11.heap.size) => gtold_any W now h.n NO.out
      have SM0 := hide fun W (h : LC wr W p' now want a bb c w2.heap.size w3.heap.size w4.heap.size w5.heap.size w10.heap.size w11.heap.size) (t : Av) (hk : Bs W t.aK t.k) (hm : Qs W t.aM t.M) (he : t.an = now.ans) => gsame_any W c t h.c.aw.k h.c.aw.m hk hm (EC.out.trans (NE.out.symm.trans he.symm))
      have SM1 := hide fun W (h : LC wr W p' now want a bb c w2.heap.size w3.heap.size w4.heap.size w5.heap.size w10.heap.size w11.heap.size) => gsame_any W a want h.l.a.aw.k h.l.a.aw.m h.l.w.k h.l.w.m (EA.out.trans EWT.out.symm)
      have SM2 := hide fun W (h : LC wr W p' now want a bb c w2.heap.size w3.heap.size w4.heap.size w5.heap.size w10.heap.size w11.heap.size) => gsame_any W bb want h.l.b.aw.k h.l.b.aw.m h.l.w.k h.l.w.m (EB.out.trans EWT.out.symm)
      have LI1 := hide fun W (h : LC wr W p' now want a bb c w2.heap.size w3.heap.size w4.heap.size w5.heap.size w10.heap.size w11.heap.size) => glists_any W a h.l.a.aw.m h.l.a.s
      have LI2 := hide fun W (h : LC wr W p' now want a bb c w2.heap.size w3.heap.size w4.heap.size w5.heap.size w10.heap.size w11.heap.size) => glists_any W bb h.l.b.aw.m h.l.b.s
      have LI3 := hide fun W (h : LC wr W p' now want a bb c w2.heap.size w3.heap.size w4.heap.size w5.heap.size w10.heap.size w11.heap.size) => glists_any W c h.c.aw.m h.c.s
      unfold Ov.cs at TO2
      unfold Av.cs at TO2 SM0 SM1 SM2 LI1 LI2 LI3
      have S1 := And.intro (four_av L5.out.m9) (And.intro (ten_ov L5.out.m8) (And.intro (four_av L5.out.l.m6) (And.intro (four_av L5.out.l.m5) (four_av L5.out.l.m7))))
      go_region_held3 (fun w' => (w'.cell? ⟨w11.heap.size, 0, none⟩ = some (.int .i64 c.n) ∧ w'.cell? ⟨w11.heap.size, 1, none⟩ = some (.bool c.is) ∧ w'.cell? ⟨w11.heap.size, 2, none⟩ = some (.slice c.aK c.k.length c.cK) ∧ w'.cell? ⟨w11.heap.size, 3, none⟩ = some (.slice c.aM c.M.length c.cM)) ∧ (w'.cell? ⟨w10.heap.size, 0, none⟩ = some (.int .i64 now.kd) ∧ w'.cell? ⟨w10.heap.size, 1, none⟩ = some (.slice now.aA now.A.length now.cA) ∧ w'.cell? ⟨w10.heap.size, 2, none⟩ = some (.slice now.aB now.B.length now.cB) ∧ w'.cell? ⟨w10.heap.size, 3, none⟩ = some (.slice now.R.aL now.R.lo.length now.R.cL) ∧ w'.cell? ⟨w10.heap.size, 4, none⟩ = some (.slice now.R.aH now.R.hi.length now.R.cH) ∧ w'.cell? ⟨w10.heap.size, 5, none⟩ = some (.bool now.R.op) ∧ w'.cell? ⟨w10.heap.size, 6, none⟩ = some (.slice now.S.aL now.S.lo.length now.S.cL) ∧ w'.cell? ⟨w10.heap.size, 7, none⟩ = some (.slice now.S.aH now.S.hi.length now.S.cH) ∧ w'.cell? ⟨w10.heap.size, 8, none⟩ = some (.bool now.S.op) ∧ w'.cell? ⟨w10.heap.size, 9, none⟩ = some (.slice now.aM now.M.length now.cM)) ∧ (w'.cell? ⟨w4.heap.size, 0, none⟩ = some (.int .i64 a.n) ∧ w'.cell? ⟨w4.heap.size, 1, none⟩ = some (.bool a.is) ∧ w'.cell? ⟨w4.heap.size, 2, none⟩ = some (.slice a.aK a.k.length a.cK) ∧ w'.cell? ⟨w4.heap.size, 3, none⟩ = some (.slice a.aM a.M.length a.cM)) ∧ (w'.cell? ⟨w3.heap.size, 0, none⟩ = some (.int .i64 want.n) ∧ w'.cell? ⟨w3.heap.size, 1, none⟩ = some (.bool want.is) ∧ w'.cell? ⟨w3.heap.size, 2, none⟩ = some (.slice want.aK want.k.length want.cK) ∧ w'.cell? ⟨w3.heap.size, 3, none⟩ = some (.slice want.aM want.M.length want.cM)) ∧ (w'.cell? ⟨w5.heap.size, 0, none⟩ = some (.int .i64 bb.n) ∧ w'.cell? ⟨w5.heap.size, 1, none⟩ = some (.bool bb.is) ∧ w'.cell? ⟨w5.heap.size, 2, none⟩ = some (.slice bb.aK bb.k.length bb.cK) ∧ w'.cell? ⟨w5.heap.size, 3, none⟩ = some (.slice bb.aM bb.M.length bb.cM)))
        (with_reducible exact S1)
        (first | (go_at_call 11; with_reducible refine (TO2.out _ L5.out).mono ?_; rintro e w12 ⟨t, rfl, ht, et⟩; have L5 := hide (L5.out.keep ht.b); have TK := hide ht.k; have TM := hide ht.m; have TE := hide et; have S1 := And.intro (four_av L5.out.m9) (And.intro (ten_ov L5.out.m8) (And.intro (four_av L5.out.l.m6) (And.intro (four_av L5.out.l.m5) (four_av L5.out.l.m7)))); clear ht et) | (go_at_call 13; with_reducible refine (SM0.out _ L5.out t TK.out TM.out TE.out).mono ?_; rintro e w13 ⟨rfl, hb⟩; have L5 := hide (L5.out.keep hb); have S1 := And.intro (four_av L5.out.m9) (And.intro (ten_ov L5.out.m8) (And.intro (four_av L5.out.l.m6) (And.intro (four_av L5.out.l.m5) (four_av L5.out.l.m7)))); clear hb) | (go_at_call 13; with_reducible refine (SM1.out _ L5.out).mono ?_; rintro e w14 ⟨rfl, hb⟩; have L5 := hide (L5.out.keep hb); have S1 := And.intro (four_av L5.out.m9) (And.intro (ten_ov L5.out.m8) (And.intro (four_av L5.out.l.m6) (And.intro (four_av L5.out.l.m5) (four_av L5.out.l.m7)))); clear hb) | (go_at_call 13; with_reducible refine (SM2.out _ L5.out).mono ?_; rintro e w15 ⟨rfl, hb⟩; have L5 := hide (L5.out.keep hb); have S1 := And.intro (four_av L5.out.m9) (And.intro (ten_ov L5.out.m8) (And.intro (four_av L5.out.l.m6) (And.intro (four_av L5.out.l.m5) (four_av L5.out.l.m7)))); clear hb))
      clear S1 TO2 SM0 SM1 SM2 TK TM TE
      go_wp2
      have LZ := hide (L5.out.keep (drew1' _))
      have L6 := LZ
      have S1 := And.intro (four_av L6.out.l.m6) (four_av L6.out.l.m7)
      clear L5
      have la := LZ.out.l.a.s
      have lb := LZ.out.l.b.s
      have lc := LZ.out.c.s
      have LEN1 : Hid (1 + 2 * a.M.length = ((ra a).map bv).length) := by show _ = _; rw [List.length_map, ra_len]
      have LEN2 : Hid (1 + 2 * bb.M.length = ((ra bb).map bv).length) := by show _ = _; rw [List.length_map, ra_len]
      have LEN3 : Hid (1 + 2 * a.M.length + (1 + 2 * bb.M.length) = ((ra a ++ ra bb).map bv).length) := by show _ = _; rw [List.length_map, List.length_append, ra_len, ra_len]
      have LEN4 : Hid (1 + 2 * c.M.length = ((ra c).map bv).length) := by show _ = _; rw [List.length_map, ra_len]
      have LEN5 : Hid (1 + 2 * a.M.length + (1 + 2 * bb.M.length) + (1 + 2 * c.M.length) = (ra a ++ ra bb ++ ra c).length) := by show _ = _; rw [List.length_append, List.length_append, ra_len, ra_len, ra_len]
      have SZ1 : Hid ((((ra a).map bv).length + ((ra bb).map bv).length) * 24 ≤ 140737488355328) := by show _ ≤ _; rw [← LEN1.out, ← LEN2.out]; omega
      have SZ2 : Hid ((((ra a ++ ra bb).map bv).length + ((ra c).map bv).length) * 24 ≤ 140737488355328) := by show _ ≤ _; rw [← LEN3.out, ← LEN4.out]; omega
      have SZ3 : Hid ((ra a ++ ra bb ++ ra c).length ≤ 6291459) := by show _ ≤ _; rw [← LEN5.out]; omega
      have PO2 : Hid (0 < ((ra bb).map bv).length) := by show _ < _; rw [← LEN2.out]; omega
      have PO4 : Hid (0 < ((ra c).map bv).length) := by show _ < _; rw [← LEN4.out]; omega
      clear la lb lc
      generalize 1 + 2 * a.M.length = na at *
      generalize 1 + 2 * bb.M.length = nb at *
      generalize 1 + 2 * c.M.length = nc at *
      go_region_held3 (fun w' => (w'.cell? ⟨w4.heap.size, 0, none⟩ = some (.int .i64 a.n) ∧ w'.cell? ⟨w4.heap.size, 1, none⟩ = some (.bool a.is) ∧ w'.cell? ⟨w4.heap.size, 2, none⟩ = some (.slice a.aK a.k.length a.cK) ∧ w'.cell? ⟨w4.heap.size, 3, none⟩ = some (.slice a.aM a.M.length a.cM)) ∧ (w'.cell? ⟨w5.heap.size, 0, none⟩ = some (.int .i64 bb.n) ∧ w'.cell? ⟨w5.heap.size, 1, none⟩ = some (.bool bb.is) ∧ w'.cell? ⟨w5.heap.size, 2, none⟩ = some (.slice bb.aK bb.k.length bb.cK) ∧ w'.cell? ⟨w5.heap.size, 3, none⟩ = some (.slice bb.aM bb.M.length bb.cM)))
        (with_reducible exact S1)
        (first | (go_at_call 17; with_reducible refine (LI1.out _ L6.out).mono ?_; rintro e w16 ⟨g1, ct1, rfl, hx⟩; have X1 := hide hx; have L6 := hide (L6.out.keep hx.b); have S1 := And.intro (four_av L6.out.l.m6) (four_av L6.out.l.m7); clear hx) | (go_at_call 17; with_reducible refine (LI2.out _ L6.out).mono ?_; rintro e w17 ⟨g2, ct2, rfl, hx⟩; have X2 := hide hx; have X1 := hide (X1.out.keep hx.b); have L6 := hide (L6.out.keep hx.b); have S1 := And.intro (four_av L6.out.l.m6) (four_av L6.out.l.m7); clear hx) | (refine step_apArL rfl _ _ rfl (some ⟨g1, 0, none⟩) na ct1 ((ra a).map bv) (by simp [Act.eval]) LEN1.out X1.out.r ⟨g2, 0, none⟩ nb ct2 ((ra bb).map bv) (by simp [Act.eval]) LEN2.out X2.out.r.each (bv_one _) PO2.out SZ1.out ?_; intro g3 cap3 w18 hR hN hg; have X3 := hide (X1.out.step (Below.refl _ _) hR hN hg); have L6 := hide (LZ.out.keep X3.out.b); have S1 := And.intro (four_av L6.out.l.m6) (four_av L6.out.l.m7); clear hR hN hg))
      clear S1 X1 X2 LI1 LI2
      obtain ⟨k0, k1, k2, k3⟩ := four_av L6.out.m9
      go_wp2_with fail
      refine (LI3.out _ L6.out).mono ?_
      rintro e w19 ⟨g4, ct4, rfl, hx⟩
      have X4 := hide hx
      have X5 := hide (X3.out.keep hx.b)
      have L7 := hide L6.out
      have XB := hide hx.b
      clear hx k0 k1 k2 k3 X3
      go_wp2_with (at_builtin; refine wpList_apArL rfl _ _ rfl (some ⟨g3, 0, none⟩) (na + nb) cap3 ((ra a ++ ra bb).map bv) rfl LEN3.out X5.out.r ⟨g4, 0, none⟩ nc ct4 ((ra c).map bv) rfl LEN4.out X4.out.r.each (bv_one _) PO4.out SZ2.out ?_)
      intro g5 cap5 w20 hR hN hg
      have X6 := hide (X5.out.step (U := ra c) (Below.refl _ _) (by rw [List.map_append, List.append_assoc]; exact hR) hN hg)
      clear hR hN hg X5 X4 LI3 L6 L7 XB
      have AP := hide (Apart_fam w20 wr a bb c g5 cap5 (LZ.out.keep X6.out.b).f X6.out.r SZ3.out (by rw [EA.out]; exact SHO.out) (by rw [EB.out]; exact SHO.out) (by rw [EC.out]; exact SHP.out))
      rw [← LEN5.out] at AP
      go_wp2_with fail
      refine AP.out.mono ?_
      rintro e w21 ⟨rfl, hbz⟩
      have HBZ := hide (bt HG.out hbz)
      clear hbz
      go_wp2
      go_roundw
      case rel => exact ⟨j + 1, by omega, by first | (go_num; done) | exact congrArg (Value.int IntKind.i64) (by omega), HBZ.out⟩
      case measure => first | exact meas_up _ _ _ hj1 hlt | exact meas_up _ _ _ rfl hlt | (simp [intOf]; omega)
    · obtain rfl : j = L.length := by omega
      go_wp2
      go_ret
      exact ⟨rfl, HG.out⟩
end Go.Proofs.Ytbobnfjbbablkaa
