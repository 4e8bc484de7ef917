import Derived.Test.YtlneomgjjkfnoabGreatPYOX
import Derived.Laws.BitsAllLaws
namespace Go.Proofs.YtlneomgjjkfnoabGreat
open Go.RowKit

set_option maxRecDepth 100000 in
set_option maxHeartbeats 25600000 in
theorem pageAnswers_any (w : World) (a0 : Option Addr) (c0 : Nat) (L : List Ov) (hO : Oz w a0 L) :
    Calls Tryz.prog 3 #[.slice a0 L.length c0] w fun e w' => e = .returned (.bool true) ∧ Below w.heap.size w w' := by
  have HO := hide hO
  have hLl := hO.2.1
  have FX := hide fixed_any
  clear hO
  go_enter Tryz.func3, Tryz.ntmps3
  go_wp2_with fail
  refine (FX.out _).mono ?_
  rintro e w1 ⟨rfl, hb⟩
  have HB1 := hide hb
  clear hb
  go_wp2
  go_loopw [3, 4, 5, 6, 7, 8, 9, 10, 11, 12, 13, 14] (fun i _ _ _ _ _ _ _ _ _ _ _ wx => ∃ j : Nat, j ≤ L.length ∧ i = .int .i64 j ∧ Below w.heap.size w wx) (fun i _ _ _ _ _ _ _ _ _ _ _ _ => L.length - (intOf i).toNat)
  case atStart => exact ⟨0, Nat.zero_le _, rfl, HB1.out⟩
  case round =>
    obtain ⟨j, hj, rfl, hG⟩ := hrel
    have HG := hide hG
    clear hG
    by_cases hlt : j < L.length
    · have hi1 : (j : Int) < (L.length : Int) := by omega
      have hj1 : j + 1 ≤ L.length := by omega
      obtain ⟨b, off, hab, hr0⟩ := HO.out.at hlt
      have hoo := HO.out.1 _ (getD_memO hlt)
      generalize L.getD j Ov.zero = o at *
      obtain ⟨kd, no, gen, ⟨kind, level, aI, cI, items, aD, cD, data, next⟩, aB, cB, B⟩ := o
      obtain ⟨t0, t1, t2, t3, t4, t5, t6, t7, t8⟩ := range9 (fun k u hu => (HG.out.cell (p := ⟨b, off + j * 9 + k, none⟩) (block_lt_of_cell (hr0 k u hu))).trans (hr0 k u hu))
      subst hab
      clear hr0
      dsimp only at t0 t1 t2 t3 t4 t5 t6 t7 t8
      have HOI := hide fun W (hb : Below wr.heap.size wr W) => hoo.1.keep (bt HG.out hb)
      have HOC := hide hoo.2
      have HO1 := hide hoo.1
      have hi20 : items.length ≤ 2199023255489 := hoo.1.p.it.2.1
      have hB20 : B.length ≤ 9223372036854775807 := hoo.1.b.2.1
      clear hoo
      have A0 := hide (al wr (.cells #[.int .i64 kd, .int .i64 no, .int .i64 gen, .int .i64 kind, .int .i64 level, .slice aI items.length cI, .slice aD data.length cD, .int .i64 next, .slice aB B.length cB] 29))
      have M4 : Hid (Bx (wr.alloc (.cells #[.int .i64 kd, .int .i64 no, .int .i64 gen, .int .i64 kind, .int .i64 level, .slice aI items.length cI, .slice aD data.length cD, .int .i64 next, .slice aB B.length cB] 29)) 29 wr.heap.size #[.int .i64 kd, .int .i64 no, .int .i64 gen, .int .i64 kind, .int .i64 level, .slice aI items.length cI, .slice aD data.length cD, .int .i64 next, .slice aB B.length cB]) := Bx.new _ _ _
      have SZ0 : Hid ((wr.alloc (.cells #[.int .i64 kd, .int .i64 no, .int .i64 gen, .int .i64 kind, .int .i64 level, .slice aI items.length cI, .slice aD data.length cD, .int .i64 next, .slice aB B.length cB] 29)).heap.size = wr.heap.size + 1) := size_alloc _ _
      by_cases h65 : 65536 < items.length
      · have h65i : (65536 : Int) < (items.length : Int) := by omega
        go_wp2
        go_roundw
        case rel => exact ⟨j + 1, hj1, by first | (go_num; done) | exact congrArg (Value.int IntKind.i64) (by omega), bt HG.out A0.out⟩
        case measure => first | exact meas_up _ _ _ rfl hlt | (simp [intOf]; omega)
      · by_cases hlB : 1048576 < B.length
        · have h65i : decide ((65536 : Int) < (items.length : Int)) = false := by simp; omega
          have hlg : (1048576 : Int) < (B.length : Int) := by omega
          go_wp2
          go_roundw
          case rel => exact ⟨j + 1, hj1, by first | (go_num; done) | exact congrArg (Value.int IntKind.i64) (by omega), bt HG.out A0.out⟩
          case measure => first | exact meas_up _ _ _ rfl hlt | (simp [intOf]; omega)
        · have h65i : decide ((65536 : Int) < (items.length : Int)) = false := by simp; omega
          have hB20 : B.length ≤ 1048576 := by omega
          have HOB : Hid (Ob ⟨kd, no, gen, ⟨kind, level, aI, cI, items, aD, cD, data, next⟩, aB, cB, B⟩) := ⟨HOC.out.d, by show items.length ≤ 1048576; omega, HOC.out.x, by show B.length ≤ 1048576; omega⟩
          have SHO := hide (ans_sh HO1.out HOB.out)
          clear HOC HO1
          have hlg : decide ((1048576 : Int) < (B.length : Int)) = false := by simp; omega
          go_wp2
          clear t0 t1 t2 t3 t4 t5 t6 t7 t8 h65i hlg
          generalize wr.alloc (.cells #[.int .i64 kd, .int .i64 no, .int .i64 gen, .int .i64 kind, .int .i64 level, .slice aI items.length cI, .slice aD data.length cD, .int .i64 next, .slice aB B.length cB] 29) = B0 at *
          have N9 := hide fun (W : World) (hb : Below B0.heap.size B0 W) => Bx.nine (o := ⟨kd, no, gen, ⟨kind, level, aI, cI, items, aD, cD, data, next⟩, aB, cB, B⟩) (M4.out.keep hb)
          have Z9 := hide fun (W : World) (k : Nat) (h : Bx W 29 k (Ov.cs Ov.zero)) => And.intro (Bx.nine (o := Ov.zero) h) (fr9 h)
          have XZ : Hid (Bx (B0.alloc (.cells (Ov.cs Ov.zero) 29)).drew 29 B0.heap.size (Ov.cs Ov.zero)) := (Bx.new B0 29 (Ov.cs Ov.zero)).keep (dr2 _)
          have SP := hide fun (w1 : World) (hb : Below B0.heap.size B0 w1) => SparePage_any w1 (Ov.p ⟨kd, no, gen, ⟨kind, level, aI, cI, items, aD, cD, data, next⟩, aB, cB, B⟩) (HOI.out _ (bt A0.out hb)).p HOB.out.d HOB.out.i HOB.out.x
          have SB := hide fun (w1 : World) (hb : Below B0.heap.size B0 w1) => Spare_at w1 aB B.length cB B (HOI.out _ (bt A0.out hb)).b rfl (by omega)
          unfold Pv.vl at SP
          dsimp only [Pv.cs] at SP
          dsimp only [Ov.cs, Ov.zero, Pv.zero, List.length_nil] at N9 Z9 XZ
          have T0 := hide (dr2 B0)
          have T0b := hide ((al B0 (.cells #[.int .i64 0, .int .i64 0, .int .i64 0, .int .i64 0, .int .i64 0, .slice none 0 0, .slice none 0 0, .int .i64 0, .slice none 0 0] 29)).drew)
          have C0 := N9.out _ T0.out
          have C0b := N9.out _ T0b.out
          go_cut [5] from 38 to 50 (fun pp wx => ∃ (g5 : Nat) (p : Ov), pp = .pointer (some ⟨g5, 0, none⟩) ∧ So B0 wx ⟨kd, no, gen, ⟨kind, level, aI, cI, items, aD, cD, data, next⟩, aB, cB, B⟩ p ∧ Bx wx 29 g5 p.cs)
          case first =>
            go_region_held3 (fun w' => w'.cell? ⟨wr.heap.size, 0, none⟩ = some (.int .i64 kd) ∧ w'.cell? ⟨wr.heap.size, 1, none⟩ = some (.int .i64 no) ∧ w'.cell? ⟨wr.heap.size, 2, none⟩ = some (.int .i64 gen) ∧ w'.cell? ⟨wr.heap.size, 3, none⟩ = some (.int .i64 kind) ∧ w'.cell? ⟨wr.heap.size, 4, none⟩ = some (.int .i64 level) ∧ w'.cell? ⟨wr.heap.size, 5, none⟩ = some (.slice aI items.length cI) ∧ w'.cell? ⟨wr.heap.size, 6, none⟩ = some (.slice aD data.length cD) ∧ w'.cell? ⟨wr.heap.size, 7, none⟩ = some (.int .i64 next) ∧ w'.cell? ⟨wr.heap.size, 8, none⟩ = some (.slice aB B.length cB))
              (first | with_reducible exact C0 | with_reducible exact C0b | with_reducible exact C1 | with_reducible exact C1a _ | with_reducible exact C2 | with_reducible exact C2a _ | with_reducible exact CS _ _ _ _ _ _ _ _ _)
              (first | (go_at_call 6; with_reducible refine (SP.out _ T0.out).mono ?_; rintro e w1 ⟨q, rfl, hs⟩; have T1 := hide (bt T0.out hs.b); have H1 := hide (Sp.pre T0.out hs); have C1 := N9.out _ T1.out; have C1a := fun o => N9.out _ (bt T1.out (al w1 o)); clear hs) | (go_at_call 6; with_reducible refine (SP.out _ T0b.out).mono ?_; rintro e w1 ⟨q, rfl, hs⟩; have T1 := hide (bt T0b.out hs.b); have H1 := hide (Sp.pre T0b.out hs); have X3 := hide (XZ.out.keep hs.b); have C1 := N9.out _ T1.out; clear hs) | (go_at_call 7; with_reducible refine (SB.out _ T1.out).mono ?_; rintro e w2 ⟨gB, rfl, hs2, hg2, hl2, hb2⟩; have T2 := hide (bt T1.out hb2); have H2 := hide (So.of (o := ⟨kd, no, gen, ⟨kind, level, aI, cI, items, aD, cD, data, next⟩, aB, cB, B⟩) H1.out hs2 hg2 hb2); have C2 := N9.out _ T2.out; have C2a := fun o => N9.out _ (bt T2.out (al w2 o)); (try (have X4 := hide (X3.out.keep hb2); obtain ⟨⟨y0, y1, y2, y3, y4, y5, y6, y7, y8⟩, f0, f1, f2, f3, f4, f5, f6, f7, f8⟩ := Z9.out _ _ X4.out; have CS := fun (v0 v1 v2 v3 v4 v5 v6 v7 v8 : Value) => N9.out _ (below_set9 T2.out (Nat.le_refl _) v0 v1 v2 v3 v4 v5 v6 v7 v8))); clear hs2 hg2 hl2 hb2) | (go_at_call 7; with_reducible refine (SB.out _ (bt T1.out (al w1 _))).mono ?_; rintro e w2 ⟨gB, rfl, hs2, hg2, hl2, hb2⟩; have T2 := hide (bt (bt T1.out (al w1 _)) hb2); have H2 := hide (So.of (o := ⟨kd, no, gen, ⟨kind, level, aI, cI, items, aD, cD, data, next⟩, aB, cB, B⟩) (H1.out.keep (al w1 _)) hs2 hg2 hb2); have C2 := N9.out _ T2.out; have X4 := hide ((show Bx (w1.alloc (.cells #[.int .i64 0, .int .i64 0, .int .i64 0, .int .i64 0, .int .i64 0, .slice none 0 0, .slice none 0 0, .int .i64 0, .slice none 0 0] 29)) 29 w1.heap.size #[.int .i64 0, .int .i64 0, .int .i64 0, .int .i64 0, .int .i64 0, .slice none 0 0, .slice none 0 0, .int .i64 0, .slice none 0 0] from Bx.new _ _ _).keep hb2); obtain ⟨⟨y0, y1, y2, y3, y4, y5, y6, y7, y8⟩, f0, f1, f2, f3, f4, f5, f6, f7, f8⟩ := Z9.out _ _ X4.out; have CS := fun (v0 v1 v2 v3 v4 v5 v6 v7 v8 : Value) => N9.out _ (below_set9 T2.out T1.out.size v0 v1 v2 v3 v4 v5 v6 v7 v8); clear hs2 hg2 hl2 hb2))
            · go_wp2_with fail
              go_meet
              case rel => exact ⟨w2.heap.size, ⟨kd, no, gen, q, some ⟨gB, 0, none⟩, B.length + 64, B⟩, rfl, H2.out.keep (al _ _), Bx.new _ _ _⟩
            · clear y0 y1 y2 y3 y4 y5 y6 y7 y8 f0 f1 f2 f3 f4 f5 f6 f7 f8
              go_wp2_with fail
              go_meet
              case rel => exact ⟨w1.heap.size, ⟨kd, no, gen, q, some ⟨gB, 0, none⟩, B.length + 64, B⟩, rfl, H2.out.box X4.out (by decide) (by decide) T1.out.size (but_set9 _ _ _ _ _ _ _ _ _ _ _), bx_set9 X4.out _ _ _ _ _ _ _ _ _⟩
            · clear y0 y1 y2 y3 y4 y5 y6 y7 y8 f0 f1 f2 f3 f4 f5 f6 f7 f8
              go_wp2_with fail
              go_meet
              case rel => exact ⟨B0.heap.size, ⟨kd, no, gen, q, some ⟨gB, 0, none⟩, B.length + 64, B⟩, rfl, H2.out.box X4.out (by decide) (by decide) (Nat.le_refl _) (but_set9 _ _ _ _ _ _ _ _ _ _ _), bx_set9 X4.out _ _ _ _ _ _ _ _ _⟩
          case rest =>
            obtain ⟨g5, p, rfl, hSo, hM5⟩ := hcut
            have SO := hide hSo
            have M5 := hide hM5
            have PE := hide hSo.ans
            have OBP := hide (hSo.ob HOB.out)
            clear hSo hM5 C0 C0b T0 T0b XZ Z9 SP SB
            obtain ⟨t0, t1, t2, t3, t4, t5, t6, t7, t8⟩ := N9.out _ SO.out.b
            have CTO := hide (told_any wc ⟨kd, no, gen, ⟨kind, level, aI, cI, items, aD, cD, data, next⟩, aB, cB, B⟩ (HOI.out _ (bt A0.out SO.out.b)))
            unfold Ov.cs at CTO
            unfold Av.cs at CTO
            dsimp only at CTO
            go_wp2_with fail
            refine CTO.out.mono ?_
            rintro e w2 ⟨want, rfl, hwt, ewt⟩
            have HWT : Hid (Ao wc w2 want) := hwt
            have EWT := hide ewt
            clear hwt ewt CTO t0 t1 t2 t3 t4 t5 t6 t7 t8
            have M5a := hide (M5.out.keep HWT.out.b)
            obtain ⟨k0, k1, k2, k3, k4, k5, k6, k7, k8⟩ := Bx.nine M5a.out
            have hkl := block_lt_of_cell k0
            dsimp only at hkl
            have CA1 := hide (asked_any (w2.alloc (.cells want.cs 36)) p ((SO.out.keep (bt HWT.out.b (al _ _))).oi (HOI.out _ (bt A0.out SO.out.b)) HOB.out))
            unfold Ov.cs at CA1
            unfold Av.cs at CA1
            (try unfold Av.cs)
            go_wp2_with fail
            refine CA1.out.mono ?_
            rintro e w3 ⟨a, rfl, ha, ea⟩
            have HA : Hid (Ao (w2.alloc (.cells want.cs 36)) w3 a) := ha
            have EA := hide (ea.trans PE.out)
            clear ha ea CA1 k0 k1 k2 k3 k4 k5 k6 k7 k8 hkl
            have M5b := hide (M5a.out.keep (bt (al w2 _) HA.out.b))
            obtain ⟨k0, k1, k2, k3, k4, k5, k6, k7, k8⟩ := Bx.nine M5b.out
            have hkl := block_lt_of_cell k0
            dsimp only at hkl
            have CA2 := hide (asked_any (w3.alloc (.cells a.cs 36)) p ((SO.out.keep (bt (bt HWT.out.b (al w2 _)) (bt HA.out.b (al w3 _)))).oi (HOI.out _ (bt A0.out SO.out.b)) HOB.out))
            unfold Ov.cs at CA2
            unfold Av.cs at CA2
            (try unfold Av.cs)
            go_wp2_with fail
            refine CA2.out.mono ?_
            rintro e w4 ⟨bb, rfl, hbb, ebb⟩
            have HBB : Hid (Ao (w3.alloc (.cells a.cs 36)) w4 bb) := hbb
            have EB := hide (ebb.trans PE.out)
            clear hbb ebb CA2 k0 k1 k2 k3 k4 k5 k6 k7 k8 hkl
            have L0 := hide (LA.make (o := ⟨kd, no, gen, ⟨kind, level, aI, cI, items, aD, cD, data, next⟩, aB, cB, B⟩) SO.out (M4.out.keep SO.out.b) M5.out HWT.out HA.out HBB.out)
            (try unfold Av.cs)
            clear M5a M5b M5 SO HWT HA HBB
            have L1 : Hid (LA B0 wc (w4.alloc (.cells #[.int .i64 bb.p.kind, .int .i64 bb.p.level, .slice bb.p.aI bb.p.items.length bb.p.cI, .slice bb.p.aD bb.p.data.length bb.p.cD, .int .i64 bb.p.next, .int .i64 bb.n, .slice bb.aB bb.b.length bb.cB, .slice bb.aL bb.l.length bb.cL, .int .i64 bb.e] 36)) ⟨kd, no, gen, ⟨kind, level, aI, cI, items, aD, cD, data, next⟩, aB, cB, B⟩ p want a bb wr.heap.size g5 w2.heap.size w3.heap.size w4.heap.size) := L0.out
            clear L0
            obtain ⟨k0, k1, k2, k3, k4, k5, k6, k7, k8⟩ := Bx.ans L1.out.m7
            obtain ⟨x0, x1, x2, x3, x4, x5, x6, x7, x8⟩ := Bx.ans L1.out.m6
            go_wp2_with fail
            generalize w4.alloc (.cells #[.int .i64 bb.p.kind, .int .i64 bb.p.level, .slice bb.p.aI bb.p.items.length bb.p.cI, .slice bb.p.aD bb.p.data.length bb.p.cD, .int .i64 bb.p.next, .int .i64 bb.n, .slice bb.aB bb.b.length bb.cB, .slice bb.aL bb.l.length bb.cL, .int .i64 bb.e] 36) = W5 at *
            have SM1 := hide fun W (h : LA B0 wc W ⟨kd, no, gen, ⟨kind, level, aI, cI, items, aD, cD, data, next⟩, aB, cB, B⟩ p want a bb wr.heap.size g5 w2.heap.size w3.heap.size w4.heap.size) => same_ao h.fa h.fw (EA.out.trans EWT.out.symm)
            have SM2 := hide fun W (h : LA B0 wc W ⟨kd, no, gen, ⟨kind, level, aI, cI, items, aD, cD, data, next⟩, aB, cB, B⟩ p want a bb wr.heap.size g5 w2.heap.size w3.heap.size w4.heap.size) => same_ao h.fb h.fw (EB.out.trans EWT.out.symm)
            have KP := hide fun W (h : LA B0 wc W ⟨kd, no, gen, ⟨kind, level, aI, cI, items, aD, cD, data, next⟩, aB, cB, B⟩ p want a bb wr.heap.size g5 w2.heap.size w3.heap.size w4.heap.size) => KeptPage_any W B0 (Ov.p ⟨kd, no, gen, ⟨kind, level, aI, cI, items, aD, cD, data, next⟩, aB, cB, B⟩) p.p (HOI.out _ (bt A0.out h.so.b)).p h.so.sp HOB.out.i
            have KB := hide fun W (h : LA B0 wc W ⟨kd, no, gen, ⟨kind, level, aI, cI, items, aD, cD, data, next⟩, aB, cB, B⟩ p want a bb wr.heap.size g5 w2.heap.size w3.heap.size w4.heap.size) => kept_eq (d := cB) h.so.eb h.so.sb (HOI.out _ (bt A0.out h.so.b)).b
            have LP := hide fun W (h : LA B0 wc W ⟨kd, no, gen, ⟨kind, level, aI, cI, items, aD, cD, data, next⟩, aB, cB, B⟩ p want a bb wr.heap.size g5 w2.heap.size w3.heap.size w4.heap.size) => ListsOfPage_any W p.p (h.so.oi (HOI.out _ (bt A0.out h.so.b)) HOB.out).p.it OBP.out.i
            unfold Av.cs at SM1 SM2
            unfold Pv.vl at KP LP
            dsimp only [Pv.cs] at KP KB LP
            refine (SM1.out _ L1.out).mono ?_
            rintro e w5 ⟨rfl, hb⟩
            have L2 := hide (L1.out.keep hb)
            clear hb L1 SM1 k0 k1 k2 k3 k4 k5 k6 k7 k8 x0 x1 x2 x3 x4 x5 x6 x7 x8
            obtain ⟨k0, k1, k2, k3, k4, k5, k6, k7, k8⟩ := Bx.ans L2.out.m8
            obtain ⟨x0, x1, x2, x3, x4, x5, x6, x7, x8⟩ := Bx.ans L2.out.m6
            go_wp2_with fail
            refine (SM2.out _ L2.out).mono ?_
            rintro e w6 ⟨rfl, hb⟩
            have L3 := hide (L2.out.keep hb)
            clear hb L2 SM2 k0 k1 k2 k3 k4 k5 k6 k7 k8 x0 x1 x2 x3 x4 x5 x6 x7 x8
            obtain ⟨k0, k1, k2, k3, k4, k5, k6, k7, k8⟩ := Bx.nine L3.out.m5
            obtain ⟨x0, x1, x2, x3, x4, x5, x6, x7, x8⟩ := Bx.nine L3.out.m4
            dsimp only at x0 x1 x2 x3 x4 x5 x6 x7 x8
            go_wp2_with fail
            refine (KP.out _ L3.out).mono ?_
            rintro e w7 ⟨rfl, hb⟩
            have L4 := hide (L3.out.keep hb)
            clear hb L3 KP k0 k1 k2 k3 k4 k5 k6 k7 k8 x0 x1 x2 x3 x4 x5 x6 x7 x8
            obtain ⟨k0, k1, k2, k3, k4, k5, k6, k7, k8⟩ := Bx.nine L4.out.m5
            obtain ⟨x0, x1, x2, x3, x4, x5, x6, x7, x8⟩ := Bx.nine L4.out.m4
            dsimp only at x0 x1 x2 x3 x4 x5 x6 x7 x8
            go_wp2_with fail
            refine (KB.out _ L4.out).mono ?_
            rintro e w8 ⟨rfl, hb⟩
            have L5 := hide (L4.out.keep hb)
            clear hb L4 KB k0 k1 k2 k3 k4 k5 k6 k7 k8 x0 x1 x2 x3 x4 x5 x6 x7 x8
            obtain ⟨k0, k1, k2, k3, k4, k5, k6, k7, k8⟩ := Bx.nine L5.out.m5
            go_wp2_with fail
            refine (LP.out _ L5.out).mono ?_
            rintro e w9 ⟨g1, ct1, rfl, hx⟩
            have X1 := hide hx
            clear hx LP k0 k1 k2 k3 k4 k5 k6 k7 k8
            obtain ⟨k0, k1, k2, k3, k4, k5, k6, k7, k8⟩ := Bx.nine (L5.out.keep X1.out.b).m5
            have LEN1 : Hid (1 + 2 * p.p.items.length = ((rp p.p).map bv).length) := by show _ = _; rw [List.length_map, rp_len]
            have SZ1 : Hid ((((rp p.p).map bv).length + 1) * 24 ≤ 140737488355328) := by show _ ≤ _; have := OBP.out.i; rw [← LEN1.out]; omega
            have LEN2 : Hid (1 + 2 * p.p.items.length + 1 = (ro p).length) := (ro_len p).symm
            go_wp2_with (at_builtin; refine wpList_apArL rfl _ _ rfl (some ⟨g1, 0, none⟩) (1 + 2 * p.p.items.length) ct1 ((rp p.p).map bv) rfl LEN1.out (X1.out.r.keep (al w9 _)) ⟨_, 0, none⟩ 1 1 [bv ⟨p.aB, p.cB, p.B⟩] rfl rfl (lists_b1 w9 _ _ rfl) (lists_one1 _) (Nat.succ_pos 0) SZ1.out ?_)
            intro g9 cap9 w10 hR hN hg
            have X2 : Hid (Ax w8 w10 (some ⟨g9, 0, none⟩) cap9 (ro p)) := X1.out.step (U := [⟨p.aB, p.cB, p.B⟩]) (al w9 _) hR hN hg
            have L6 := hide (L5.out.keep X2.out.b)
            clear hR hN hg X1 L5 k0 k1 k2 k3 k4 k5 k6 k7 k8 LEN1 SZ1
            go_wp2
            have HGB := hide (bt HG.out A0.out)
            have EKD := hide (And.intro L6.out.so.kd (And.intro L6.out.so.no L6.out.so.gen))
            have OIP := hide (L6.out.so.oi (HOI.out _ (bt A0.out L6.out.so.b)) HOB.out)
            have JWP := hide L6.out.so.sp.jw
            clear HOI HOB N9 M4 A0 HG SZ0 HB1 FX HO
            generalize wr.heap.size = g4 at *
            generalize w2.heap.size = g6 at *
            generalize w3.heap.size = g7 at *
            generalize w4.heap.size = g8 at *
            obtain ⟨n, hn⟩ : ∃ n, n = 1 + 2 * p.p.items.length + 1 := ⟨_, rfl⟩
            have hNe : n = (ro p).length := hn.trans LEN2.out
            have hnb : n ≤ 2097158 := by have := OBP.out.i; omega
            rw [← hn]
            clear hn
            have FM := hide L6.out.so.f.f
            have HLL : Hid (∀ i, i < n → (tL (ro p) i).length ≤ 140737488355264) := fun i hi => L6.out.so.short _ (t_mem (T := ro p) (i := i) (by omega))
            have HL8 : Hid (∀ i, i < n → B8 (tL (ro p) i)) := fun i hi => (FM.out.own _ (t_mem (T := ro p) (i := i) (by omega))).2
            have HR0 := hide FM.out.rowsG
            have HD := hide FM.out.distG
            have ARR : Hid (∀ wx, But (InRows n (tA (ro p))) w10 wx → ∀ i, i < n → wx.cell? ⟨g9, i, none⟩ = some (.slice (tA (ro p) i) (tL (ro p) i).length (tC (ro p) i))) := by
              intro wx hb i hi
              obtain ⟨g', e', hc'⟩ := (X2.out.r.but hb (by
                rintro x hx ⟨q, hq, y, hy, e⟩
                exact X2.out.r.ne (HR0.out q (by rw [← hNe]; exact hq)) hx hy e.symm)).cell (bv_get (ro p) (i := i) (by rw [← hNe]; exact hi))
              cases e'
              exact hc'
            rw [← hNe] at HR0 HD
            have HNE := hide hNe
            obtain ⟨TA, hTA⟩ : ∃ TA, TA = tA (ro p) := ⟨_, rfl⟩
            obtain ⟨TC, hTC⟩ : ∃ TC, TC = tC (ro p) := ⟨_, rfl⟩
            obtain ⟨TLL, hTL⟩ : ∃ TLL, TLL = tL (ro p) := ⟨_, rfl⟩
            rw [← hTA] at HR0 HD ARR
            rw [← hTC] at HR0 ARR
            rw [← hTL] at HR0 HLL HL8 ARR
            have HTA := hide hTA
            have HTC := hide hTC
            have HTL := hide hTL
            clear hTA hTC hTL hNe LEN2 X2
            go_loopw [10, 11] (fun i _ wx => ∃ (j2 : Nat) (G : Nat → List Nat), j2 ≤ n ∧ i = .int .i64 j2 ∧ ((∀ i, i < n → (G i).length = (TLL i).length ∧ B8 (G i)) ∧ RowsG wx n TA TC G ∧ But (InRows n TA) w10 wx)) (fun i _ _ => n - (intOf i).toNat)
            case atStart => exact ⟨0, TLL, Nat.zero_le _, rfl, fun i hi => ⟨rfl, HL8.out i hi⟩, HR0.out, But.refl _ _⟩
            case round =>
              obtain ⟨j2, G, hj2, rfl, hG⟩ := hrel
              have HG := hide hG
              clear hG
              by_cases hlt2 : j2 < n
              · have hi2 : (j2 : Int) < (n : Int) := by omega
                have hj21 : j2 + 1 ≤ n := by omega
                have hc := ARR.out _ HG.out.2.2 j2 hlt2
                have hlj := HLL.out j2 hlt2
                go_wp2
                go_loopw [11] (fun k' wx => ∃ (k : Nat) (G : Nat → List Nat), k ≤ (TLL j2).length ∧ k' = .int .i64 k ∧ ((∀ i, i < n → (G i).length = (TLL i).length ∧ B8 (G i)) ∧ RowsG wx n TA TC G ∧ But (InRows n TA) w10 wx)) (fun k' _ => (TLL j2).length - (intOf k').toNat)
                case atStart => exact ⟨0, G, Nat.zero_le _, rfl, HG.out⟩
                case round =>
                  clear hc
                  obtain ⟨k, G2, hk, rfl, hG2⟩ := hrel
                  have HG2 := hide hG2
                  clear hG2
                  have hc := ARR.out _ HG2.out.2.2 j2 hlt2
                  by_cases hlk : k < (TLL j2).length
                  · have hik : (k : Int) < ((TLL j2).length : Int) := by omega
                    have hkk : k + 1 ≤ (TLL j2).length := by omega
                    have hrow := HG2.out.2.1 j2 hlt2
                    have hrl := (HG2.out.1 j2 hlt2).1
                    obtain ⟨g, hAj, _, _⟩ := hrow.addr2 (by omega)
                    rw [hAj] at hc hrow
                    have hcg := hrow.cell (i := k) (by omega)
                    have hfg := hrow.thaw k
                    have h8 := getD_lt (HG2.out.1 j2 hlt2).2 k
                    have HAJ := hide hAj
                    clear hAj hrow hrl
                    generalize (G2 j2).getD k 0 = x at *
                    obtain ⟨z, hz, hz8⟩ : ∃ z : Nat, bits .xor .u8 ((x : Nat) : Int) 85 = ((z : Nat) : Int) ∧ z < 256 := ⟨x ^^^ 85, u8_xor_nat x 85 h8 (by decide), Nat.xor_lt_two_pow (n := 8) h8 (by decide)⟩
                    go_wp2
                    go_region
                    clear hc hcg hfg
                    go_wp2
                    go_roundw
                    case rel => exact ⟨k + 1, fun i => if i = j2 then (G2 j2).set k z else G2 i, hkk, by first | (go_num; done) | exact congrArg (Value.int IntKind.i64) (by omega), set_all HG2.out.1 hz8, fun i hi => HG2.out.2.1.set HD.out hlt2 HAJ.out k z i hi, (HG2.out.2.2.setCell (p := ⟨g, k, none⟩) (fun _ => ⟨j2, hlt2, _, HAJ.out, rfl⟩) _).drew⟩
                    case measure => first | exact meas_up _ _ _ rfl hlk | (simp [intOf]; omega)
                  · obtain rfl : k = (TLL j2).length := by omega
                    go_wp2
                    go_roundw
                    case rel => exact ⟨j2 + 1, G2, hj21, by first | (go_num; done) | exact congrArg (Value.int IntKind.i64) (by omega), HG2.out⟩
                    case measure => first | exact meas_up _ _ _ rfl hlt2 | (simp [intOf]; omega)
              · obtain rfl : j2 = n := by omega
                have E1 : Hid ((∀ i, i < (ro p).length → (G i).length = (tL (ro p) i).length ∧ B8 (G i)) ∧ RowsG wr (ro p).length (tA (ro p)) (tC (ro p)) G ∧ But (InRows (ro p).length (tA (ro p))) w10 wr) := by
                  show _ ∧ _
                  rw [← HTA.out, ← HTC.out, ← HTL.out, ← HNE.out]
                  exact HG.out
                have L7 := hide (by
                  obtain ⟨k1, k2, k3⟩ := spo_oi FM.out JWP.out OIP.out OBP.out E1.out.1 E1.out.2.1 E1.out.2.2
                  exact L6.out.spoil k1 k2 k3 E1.out.2.2)
                have EK2 : Hid ((spo p G).kd = kd ∧ (spo p G).no = no ∧ (spo p G).gen = gen) := EKD.out
                obtain ⟨p', hp'⟩ : ∃ p', p' = spo p G := ⟨_, rfl⟩
                rw [← hp'] at L7 EK2
                clear hp' E1 HTA HTC HTL HNE HG ARR HR0 HD HL8 HLL FM L6 OIP OBP JWP EKD PE
                have SHP := hide (ans_sh L7.out.oi L7.out.ob)
                have N7 := hide (show ∀ W, LB B0 W ⟨kd, no, gen, ⟨kind, level, aI, cI, items, aD, cD, data, next⟩, aB, cB, B⟩ p' want a bb g4 g5 g6 g7 g8 → W.cell? ⟨g4, 0, none⟩ = some (.int .i64 kd) ∧ W.cell? ⟨g4, 1, none⟩ = some (.int .i64 no) ∧ W.cell? ⟨g4, 2, none⟩ = some (.int .i64 gen) ∧ W.cell? ⟨g5, 3, none⟩ = some (.int .i64 p'.p.kind) ∧ W.cell? ⟨g5, 4, none⟩ = some (.int .i64 p'.p.level) ∧ W.cell? ⟨g5, 5, none⟩ = some (.slice p'.p.aI p'.p.items.length p'.p.cI) ∧ W.cell? ⟨g5, 6, none⟩ = some (.slice p'.p.aD p'.p.data.length p'.p.cD) ∧ W.cell? ⟨g5, 7, none⟩ = some (.int .i64 p'.p.next) ∧ W.cell? ⟨g5, 8, none⟩ = some (.slice p'.aB p'.B.length p'.cB) from fun W h => (by
                  obtain ⟨c0', c1', c2', _⟩ := Bx.nine h.m4
                  obtain ⟨_, _, _, c3', c4', c5', c6', c7', c8'⟩ := Bx.nine h.m5
                  exact ⟨c0', c1', c2', c3', c4', c5', c6', c7', c8'⟩))
                have CP := hide fun W (h : LB B0 W ⟨kd, no, gen, ⟨kind, level, aI, cI, items, aD, cD, data, next⟩, aB, cB, B⟩ p' want a bb g4 g5 g6 g7 g8) => CopyPage_pn W p'.p h.oi.p h.ob.d h.ob.i h.ob.x
                have CB := hide fun W (h : LB B0 W ⟨kd, no, gen, ⟨kind, level, aI, cI, items, aD, cD, data, next⟩, aB, cB, B⟩ p' want a bb g4 g5 g6 g7 g8) => CopyBytes_at W p'.aB p'.B.length p'.cB p'.B h.oi.b rfl (by have := h.ob.b; omega)
                unfold Pv.vl at CP
                dsimp only [Pv.cs] at CP
                have Z9 := hide fun (W : World) (k : Nat) (h : Bx W 29 k (Ov.cs Ov.zero)) => And.intro (Bx.nine (o := Ov.zero) h) (fr9 h)
                have XZ : Hid (Bx (wr.alloc (.cells (Ov.cs Ov.zero) 29)).drew 29 wr.heap.size (Ov.cs Ov.zero)) := (Bx.new wr 29 (Ov.cs Ov.zero)).keep (dr2 _)
                dsimp only [Ov.cs, Ov.zero, Pv.zero, List.length_nil] at Z9 XZ
                have T0 := hide (dr2 wr)
                have T0b := hide ((al wr (.cells #[.int .i64 0, .int .i64 0, .int .i64 0, .int .i64 0, .int .i64 0, .slice none 0 0, .slice none 0 0, .int .i64 0, .slice none 0 0] 29)).drew)
                have C0 := N7.out _ (L7.out.keep T0.out)
                have C0b := N7.out _ (L7.out.keep T0b.out)
                have B8P : Hid (B8 p'.B) := L7.out.oi.b.1
                have IP := hide L7.out.ob.i
                go_wp2
                go_cut [12] from 120 to 132 (fun pp wx => ∃ (g12 : Nat) (now : Ov), pp = .pointer (some ⟨g12, 0, none⟩) ∧ LB B0 wx ⟨kd, no, gen, ⟨kind, level, aI, cI, items, aD, cD, data, next⟩, aB, cB, B⟩ p' want a bb g4 g5 g6 g7 g8 ∧ Nw wr wx now p' ∧ Bx wx 29 g12 now.cs)
                case first =>
                  go_region_held3 (fun w' => w'.cell? ⟨g4, 0, none⟩ = some (.int .i64 kd) ∧ w'.cell? ⟨g4, 1, none⟩ = some (.int .i64 no) ∧ w'.cell? ⟨g4, 2, none⟩ = some (.int .i64 gen) ∧ w'.cell? ⟨g5, 3, none⟩ = some (.int .i64 p'.p.kind) ∧ w'.cell? ⟨g5, 4, none⟩ = some (.int .i64 p'.p.level) ∧ w'.cell? ⟨g5, 5, none⟩ = some (.slice p'.p.aI p'.p.items.length p'.p.cI) ∧ w'.cell? ⟨g5, 6, none⟩ = some (.slice p'.p.aD p'.p.data.length p'.p.cD) ∧ w'.cell? ⟨g5, 7, none⟩ = some (.int .i64 p'.p.next) ∧ w'.cell? ⟨g5, 8, none⟩ = some (.slice p'.aB p'.B.length p'.cB))
                    (first | with_reducible exact C0 | with_reducible exact C0b | with_reducible exact C1 | with_reducible exact C1a _ | with_reducible exact C2 | with_reducible exact C2a _ | with_reducible exact CS _ _ _ _ _ _ _ _ _)
                    (first | (go_at_call 14; with_reducible refine (CP.out _ (L7.out.keep T0.out)).mono ?_; rintro e w11 ⟨q, rfl, hpn, hl, he, hb1⟩; have T1 := hide (bt T0.out hb1); have PQ := hide (hpn.pre T0.out.size); have HL := hide hl; have HE := hide he; have C1 := N7.out _ (L7.out.keep T1.out); have C1a := fun o => N7.out _ (L7.out.keep (bt T1.out (al w11 o))); clear hpn hl he hb1) | (go_at_call 14; with_reducible refine (CP.out _ (L7.out.keep T0b.out)).mono ?_; rintro e w11 ⟨q, rfl, hpn, hl, he, hb1⟩; have T1 := hide (bt T0b.out hb1); have PQ := hide (hpn.pre T0b.out.size); have HL := hide hl; have HE := hide he; have X3 := hide (XZ.out.keep hb1); have C1 := N7.out _ (L7.out.keep T1.out); clear hpn hl he hb1) | (go_at_call 15; with_reducible refine (CB.out _ (L7.out.keep (bt T1.out (al w11 _)))).mono ?_; rintro e w12 ⟨gB, dB, rfl, o2⟩; have T2 := hide (bt (bt T1.out (al w11 _)) o2.b); have NN := hide (Nw.of (kd := kd) (no := no) (gen := gen) (PQ.out.keep (al w11 _)) HL.out IP.out HE.out o2 B8P.out EK2.out.1.symm EK2.out.2.1.symm EK2.out.2.2.symm); have C2 := N7.out _ (L7.out.keep T2.out); have X4 := hide ((show Bx (w11.alloc (.cells #[.int .i64 0, .int .i64 0, .int .i64 0, .int .i64 0, .int .i64 0, .slice none 0 0, .slice none 0 0, .int .i64 0, .slice none 0 0] 29)) 29 w11.heap.size #[.int .i64 0, .int .i64 0, .int .i64 0, .int .i64 0, .int .i64 0, .slice none 0 0, .slice none 0 0, .int .i64 0, .slice none 0 0] from Bx.new _ _ _).keep o2.b); obtain ⟨⟨y0, y1, y2, y3, y4, y5, y6, y7, y8⟩, f0, f1, f2, f3, f4, f5, f6, f7, f8⟩ := Z9.out _ _ X4.out; have CS := fun (v0 v1 v2 v3 v4 v5 v6 v7 v8 : Value) => N7.out _ (L7.out.keep (below_set9 T2.out T1.out.size v0 v1 v2 v3 v4 v5 v6 v7 v8)); have TS := hide fun (v0 v1 v2 v3 v4 v5 v6 v7 v8 : Value) => below_set9 T2.out T1.out.size v0 v1 v2 v3 v4 v5 v6 v7 v8; clear o2) | (go_at_call 15; with_reducible refine (CB.out _ (L7.out.keep T1.out)).mono ?_; rintro e w12 ⟨gB, dB, rfl, o2⟩; have T2 := hide (bt T1.out o2.b); have NN := hide (Nw.of (kd := kd) (no := no) (gen := gen) PQ.out HL.out IP.out HE.out o2 B8P.out EK2.out.1.symm EK2.out.2.1.symm EK2.out.2.2.symm); have C2 := N7.out _ (L7.out.keep T2.out); have C2a := fun o => N7.out _ (L7.out.keep (bt T2.out (al w12 o))); (try (have X4 := hide (X3.out.keep o2.b); obtain ⟨⟨y0, y1, y2, y3, y4, y5, y6, y7, y8⟩, f0, f1, f2, f3, f4, f5, f6, f7, f8⟩ := Z9.out _ _ X4.out; have CS := fun (v0 v1 v2 v3 v4 v5 v6 v7 v8 : Value) => N7.out _ (L7.out.keep (below_set9 T2.out (Nat.le_refl _) v0 v1 v2 v3 v4 v5 v6 v7 v8)); have TS := hide fun (v0 v1 v2 v3 v4 v5 v6 v7 v8 : Value) => below_set9 T2.out (Nat.le_refl _) v0 v1 v2 v3 v4 v5 v6 v7 v8)); clear o2))
                  · go_wp2_with fail
                    go_meet
                    case rel => exact ⟨w12.heap.size, ⟨kd, no, gen, q, gB, dB, p'.B⟩, rfl, L7.out.keep (bt T2.out (al _ _)), NN.out.keep (al _ _), Bx.new _ _ _⟩
                  · clear y0 y1 y2 y3 y4 y5 y6 y7 y8 f0 f1 f2 f3 f4 f5 f6 f7 f8
                    go_wp2_with fail
                    go_meet
                    case rel => exact ⟨w11.heap.size, ⟨kd, no, gen, q, gB, dB, p'.B⟩, rfl, L7.out.keep (TS.out _ _ _ _ _ _ _ _ _), NN.out.box X4.out (by decide) (by decide) (but_set9 _ _ _ _ _ _ _ _ _ _ _), bx_set9 X4.out _ _ _ _ _ _ _ _ _⟩
                  · clear y0 y1 y2 y3 y4 y5 y6 y7 y8 f0 f1 f2 f3 f4 f5 f6 f7 f8
                    go_wp2_with fail
                    go_meet
                    case rel => exact ⟨wr.heap.size, ⟨kd, no, gen, q, gB, dB, p'.B⟩, rfl, L7.out.keep (TS.out _ _ _ _ _ _ _ _ _), NN.out.box X4.out (by decide) (by decide) (but_set9 _ _ _ _ _ _ _ _ _ _ _), bx_set9 X4.out _ _ _ _ _ _ _ _ _⟩
                case rest =>
                  obtain ⟨g12, now, rfl, hl, hnw, hm⟩ := hcut
                  have L8 := hide hl
                  have NW := hide hnw
                  have M12 := hide hm
                  clear hl hnw hm C0 C0b T0 T0b XZ Z9 CP CB N7 L7 B8P IP EK2
                  obtain ⟨k0, k1, k2, k3, k4, k5, k6, k7, k8⟩ := Bx.nine L8.out.m5
                  have CA3 := hide (asked_any wc p' L8.out.oi)
                  unfold Ov.cs at CA3
                  unfold Av.cs at CA3
                  go_wp2_with fail
                  refine CA3.out.mono ?_
                  rintro e w13 ⟨c, rfl, hc, ec⟩
                  have L9 := hide (LC.make L8.out NW.out.oi M12.out hc)
                  have EC := hide ec
                  have NE := hide NW.out.e
                  clear hc ec CA3 L8 NW M12 k0 k1 k2 k3 k4 k5 k6 k7 k8
                  (try unfold Av.cs)
                  have L9b : Hid (LC B0 (w13.alloc (.cells #[.int .i64 c.p.kind, .int .i64 c.p.level, .slice c.p.aI c.p.items.length c.p.cI, .slice c.p.aD c.p.data.length c.p.cD, .int .i64 c.p.next, .int .i64 c.n, .slice c.aB c.b.length c.cB, .slice c.aL c.l.length c.cL, .int .i64 c.e] 36)) ⟨kd, no, gen, ⟨kind, level, aI, cI, items, aD, cD, data, next⟩, aB, cB, B⟩ p' now want a bb c g4 g5 g6 g7 g8 g12 w13.heap.size) := L9.out
                  clear L9
                  go_wp2
                  generalize w13.alloc (.cells #[.int .i64 c.p.kind, .int .i64 c.p.level, .slice c.p.aI c.p.items.length c.p.cI, .slice c.p.aD c.p.data.length c.p.cD, .int .i64 c.p.next, .int .i64 c.n, .slice c.aB c.b.length c.cB, .slice c.aL c.l.length c.cL, .int .i64 c.e] 36) = W11 at *
                  generalize w13.heap.size = g13 at *
                  have L5 := hide (L9b.out.keep (dr2 W11))
                  clear L9b
                  have TO2 := hide fun W (h : LC B0 W ⟨kd, no, gen, ⟨kind, level, aI, cI, items, aD, cD, data, next⟩, aB, cB, B⟩ p' now want a bb c g4 g5 g6 g7 g8 g12 g13) => told_any W now h.n
                  have SM0 := hide fun W (h : LC B0 W ⟨kd, no, gen, ⟨kind, level, aI, cI, items, aD, cD, data, next⟩, aB, cB, B⟩ p' now want a bb c g4 g5 g6 g7 g8 g12 g13) (V : World) (t : Av) (ht : Ao V W t) (he : t.an = now.ans) => same_ao h.fc ht (EC.out.trans (NE.out.symm.trans he.symm))
                  have SM1 := hide fun W (h : LC B0 W ⟨kd, no, gen, ⟨kind, level, aI, cI, items, aD, cD, data, next⟩, aB, cB, B⟩ p' now want a bb c g4 g5 g6 g7 g8 g12 g13) => same_ao h.l.fa h.l.fw (EA.out.trans EWT.out.symm)
                  have SM2 := hide fun W (h : LC B0 W ⟨kd, no, gen, ⟨kind, level, aI, cI, items, aD, cD, data, next⟩, aB, cB, B⟩ p' now want a bb c g4 g5 g6 g7 g8 g12 g13) => same_ao h.l.fb h.l.fw (EB.out.trans EWT.out.symm)
                  have LI1 := hide fun W (h : LC B0 W ⟨kd, no, gen, ⟨kind, level, aI, cI, items, aD, cD, data, next⟩, aB, cB, B⟩ p' now want a bb c g4 g5 g6 g7 g8 g12 g13) => lists_any W a h.l.fa.pi.it h.l.fa.s
                  have LI2 := hide fun W (h : LC B0 W ⟨kd, no, gen, ⟨kind, level, aI, cI, items, aD, cD, data, next⟩, aB, cB, B⟩ p' now want a bb c g4 g5 g6 g7 g8 g12 g13) => lists_any W bb h.l.fb.pi.it h.l.fb.s
                  have LI3 := hide fun W (h : LC B0 W ⟨kd, no, gen, ⟨kind, level, aI, cI, items, aD, cD, data, next⟩, aB, cB, B⟩ p' now want a bb c g4 g5 g6 g7 g8 g12 g13) => lists_any W c h.fc.pi.it h.fc.s
                  unfold Ov.cs at TO2
                  unfold Av.cs at TO2 SM0 SM1 SM2 LI1 LI2 LI3
                  have S1 := And.intro (Bx.ans L5.out.m10) (And.intro (Bx.nine L5.out.m9) (And.intro (Bx.ans L5.out.l.m7) (And.intro (Bx.ans L5.out.l.m6) (Bx.ans L5.out.l.m8))))
                  go_region_held3 (fun w' => (w'.cell? ⟨g13, 0, none⟩ = some (.int .i64 c.p.kind) ∧ w'.cell? ⟨g13, 1, none⟩ = some (.int .i64 c.p.level) ∧ w'.cell? ⟨g13, 2, none⟩ = some (.slice c.p.aI c.p.items.length c.p.cI) ∧ w'.cell? ⟨g13, 3, none⟩ = some (.slice c.p.aD c.p.data.length c.p.cD) ∧ w'.cell? ⟨g13, 4, none⟩ = some (.int .i64 c.p.next) ∧ w'.cell? ⟨g13, 5, none⟩ = some (.int .i64 c.n) ∧ w'.cell? ⟨g13, 6, none⟩ = some (.slice c.aB c.b.length c.cB) ∧ w'.cell? ⟨g13, 7, none⟩ = some (.slice c.aL c.l.length c.cL) ∧ w'.cell? ⟨g13, 8, none⟩ = some (.int .i64 c.e)) ∧ (w'.cell? ⟨g12, 0, none⟩ = some (.int .i64 now.kd) ∧ w'.cell? ⟨g12, 1, none⟩ = some (.int .i64 now.no) ∧ w'.cell? ⟨g12, 2, none⟩ = some (.int .i64 now.gen) ∧ w'.cell? ⟨g12, 3, none⟩ = some (.int .i64 now.p.kind) ∧ w'.cell? ⟨g12, 4, none⟩ = some (.int .i64 now.p.level) ∧ w'.cell? ⟨g12, 5, none⟩ = some (.slice now.p.aI now.p.items.length now.p.cI) ∧ w'.cell? ⟨g12, 6, none⟩ = some (.slice now.p.aD now.p.data.length now.p.cD) ∧ w'.cell? ⟨g12, 7, none⟩ = some (.int .i64 now.p.next) ∧ w'.cell? ⟨g12, 8, none⟩ = some (.slice now.aB now.B.length now.cB)) ∧ (w'.cell? ⟨g7, 0, none⟩ = some (.int .i64 a.p.kind) ∧ w'.cell? ⟨g7, 1, none⟩ = some (.int .i64 a.p.level) ∧ w'.cell? ⟨g7, 2, none⟩ = some (.slice a.p.aI a.p.items.length a.p.cI) ∧ w'.cell? ⟨g7, 3, none⟩ = some (.slice a.p.aD a.p.data.length a.p.cD) ∧ w'.cell? ⟨g7, 4, none⟩ = some (.int .i64 a.p.next) ∧ w'.cell? ⟨g7, 5, none⟩ = some (.int .i64 a.n) ∧ w'.cell? ⟨g7, 6, none⟩ = some (.slice a.aB a.b.length a.cB) ∧ w'.cell? ⟨g7, 7, none⟩ = some (.slice a.aL a.l.length a.cL) ∧ w'.cell? ⟨g7, 8, none⟩ = some (.int .i64 a.e)) ∧ (w'.cell? ⟨g6, 0, none⟩ = some (.int .i64 want.p.kind) ∧ w'.cell? ⟨g6, 1, none⟩ = some (.int .i64 want.p.level) ∧ w'.cell? ⟨g6, 2, none⟩ = some (.slice want.p.aI want.p.items.length want.p.cI) ∧ w'.cell? ⟨g6, 3, none⟩ = some (.slice want.p.aD want.p.data.length want.p.cD) ∧ w'.cell? ⟨g6, 4, none⟩ = some (.int .i64 want.p.next) ∧ w'.cell? ⟨g6, 5, none⟩ = some (.int .i64 want.n) ∧ w'.cell? ⟨g6, 6, none⟩ = some (.slice want.aB want.b.length want.cB) ∧ w'.cell? ⟨g6, 7, none⟩ = some (.slice want.aL want.l.length want.cL) ∧ w'.cell? ⟨g6, 8, none⟩ = some (.int .i64 want.e)) ∧ (w'.cell? ⟨g8, 0, none⟩ = some (.int .i64 bb.p.kind) ∧ w'.cell? ⟨g8, 1, none⟩ = some (.int .i64 bb.p.level) ∧ w'.cell? ⟨g8, 2, none⟩ = some (.slice bb.p.aI bb.p.items.length bb.p.cI) ∧ w'.cell? ⟨g8, 3, none⟩ = some (.slice bb.p.aD bb.p.data.length bb.p.cD) ∧ w'.cell? ⟨g8, 4, none⟩ = some (.int .i64 bb.p.next) ∧ w'.cell? ⟨g8, 5, none⟩ = some (.int .i64 bb.n) ∧ w'.cell? ⟨g8, 6, none⟩ = some (.slice bb.aB bb.b.length bb.cB) ∧ w'.cell? ⟨g8, 7, none⟩ = some (.slice bb.aL bb.l.length bb.cL) ∧ w'.cell? ⟨g8, 8, none⟩ = some (.int .i64 bb.e)))
                    (with_reducible exact S1)
                    (first | (go_at_call 8; with_reducible refine (TO2.out _ L5.out).mono ?_; rintro e w14 ⟨t, rfl, ht, et⟩; have L5 := hide (L5.out.keep ht.b); have TK := hide ht; have TE := hide et; have S1 := And.intro (Bx.ans L5.out.m10) (And.intro (Bx.nine L5.out.m9) (And.intro (Bx.ans L5.out.l.m7) (And.intro (Bx.ans L5.out.l.m6) (Bx.ans L5.out.l.m8)))); clear ht et) | (go_at_call 10; with_reducible refine (SM0.out _ L5.out _ t TK.out TE.out).mono ?_; rintro e w15 ⟨rfl, hb⟩; have L5 := hide (L5.out.keep hb); have S1 := And.intro (Bx.ans L5.out.m10) (And.intro (Bx.nine L5.out.m9) (And.intro (Bx.ans L5.out.l.m7) (And.intro (Bx.ans L5.out.l.m6) (Bx.ans L5.out.l.m8)))); clear hb) | (go_at_call 10; with_reducible refine (SM1.out _ L5.out).mono ?_; rintro e w16 ⟨rfl, hb⟩; have L5 := hide (L5.out.keep hb); have S1 := And.intro (Bx.ans L5.out.m10) (And.intro (Bx.nine L5.out.m9) (And.intro (Bx.ans L5.out.l.m7) (And.intro (Bx.ans L5.out.l.m6) (Bx.ans L5.out.l.m8)))); clear hb) | (go_at_call 10; with_reducible refine (SM2.out _ L5.out).mono ?_; rintro e w17 ⟨rfl, hb⟩; have L5 := hide (L5.out.keep hb); have S1 := And.intro (Bx.ans L5.out.m10) (And.intro (Bx.nine L5.out.m9) (And.intro (Bx.ans L5.out.l.m7) (And.intro (Bx.ans L5.out.l.m6) (Bx.ans L5.out.l.m8)))); clear hb))
                  clear S1 TO2 SM0 SM1 SM2 TK TE
                  go_wp2
                  have LZ := hide (L5.out.keep (dr2 _))
                  have L6 := LZ
                  have S1 := And.intro (Bx.ans L6.out.l.m7) (Bx.ans L6.out.l.m8)
                  clear L5
                  have la := LZ.out.l.fa.s
                  have lb := LZ.out.l.fb.s
                  have lc := LZ.out.fc.s
                  have LEN1 : Hid (1 + 2 * a.p.items.length + 1 = ((ra a).map bv).length) := by show _ = _; rw [List.length_map, ra_len]
                  have LEN2 : Hid (1 + 2 * bb.p.items.length + 1 = ((ra bb).map bv).length) := by show _ = _; rw [List.length_map, ra_len]
                  have LEN3 : Hid (1 + 2 * a.p.items.length + 1 + (1 + 2 * bb.p.items.length + 1) = ((ra a ++ ra bb).map bv).length) := by show _ = _; rw [List.length_map, List.length_append, ra_len, ra_len]
                  have LEN4 : Hid (1 + 2 * c.p.items.length + 1 = ((ra c).map bv).length) := by show _ = _; rw [List.length_map, ra_len]
                  have LEN5 : Hid (1 + 2 * a.p.items.length + 1 + (1 + 2 * bb.p.items.length + 1) + (1 + 2 * c.p.items.length + 1) = (ra a ++ ra bb ++ ra c).length) := by show _ = _; rw [List.length_append, List.length_append, ra_len, ra_len, ra_len]
                  have SZ1 : Hid ((((ra a).map bv).length + ((ra bb).map bv).length) * 24 ≤ 140737488355328) := by show _ ≤ _; rw [← LEN1.out, ← LEN2.out]; omega
                  have SZ2 : Hid ((((ra a ++ ra bb).map bv).length + ((ra c).map bv).length) * 24 ≤ 140737488355328) := by show _ ≤ _; rw [← LEN3.out, ← LEN4.out]; omega
                  have SZ3 : Hid ((ra a ++ ra bb ++ ra c).length ≤ 6291459) := by show _ ≤ _; rw [← LEN5.out]; omega
                  have PO2 : Hid (0 < ((ra bb).map bv).length) := by show _ < _; rw [← LEN2.out]; omega
                  have PO4 : Hid (0 < ((ra c).map bv).length) := by show _ < _; rw [← LEN4.out]; omega
                  clear la lb lc
                  generalize 1 + 2 * a.p.items.length + 1 = na at *
                  generalize 1 + 2 * bb.p.items.length + 1 = nb at *
                  generalize 1 + 2 * c.p.items.length + 1 = nc at *
                  go_region_held3 (fun w' => (w'.cell? ⟨g7, 0, none⟩ = some (.int .i64 a.p.kind) ∧ w'.cell? ⟨g7, 1, none⟩ = some (.int .i64 a.p.level) ∧ w'.cell? ⟨g7, 2, none⟩ = some (.slice a.p.aI a.p.items.length a.p.cI) ∧ w'.cell? ⟨g7, 3, none⟩ = some (.slice a.p.aD a.p.data.length a.p.cD) ∧ w'.cell? ⟨g7, 4, none⟩ = some (.int .i64 a.p.next) ∧ w'.cell? ⟨g7, 5, none⟩ = some (.int .i64 a.n) ∧ w'.cell? ⟨g7, 6, none⟩ = some (.slice a.aB a.b.length a.cB) ∧ w'.cell? ⟨g7, 7, none⟩ = some (.slice a.aL a.l.length a.cL) ∧ w'.cell? ⟨g7, 8, none⟩ = some (.int .i64 a.e)) ∧ (w'.cell? ⟨g8, 0, none⟩ = some (.int .i64 bb.p.kind) ∧ w'.cell? ⟨g8, 1, none⟩ = some (.int .i64 bb.p.level) ∧ w'.cell? ⟨g8, 2, none⟩ = some (.slice bb.p.aI bb.p.items.length bb.p.cI) ∧ w'.cell? ⟨g8, 3, none⟩ = some (.slice bb.p.aD bb.p.data.length bb.p.cD) ∧ w'.cell? ⟨g8, 4, none⟩ = some (.int .i64 bb.p.next) ∧ w'.cell? ⟨g8, 5, none⟩ = some (.int .i64 bb.n) ∧ w'.cell? ⟨g8, 6, none⟩ = some (.slice bb.aB bb.b.length bb.cB) ∧ w'.cell? ⟨g8, 7, none⟩ = some (.slice bb.aL bb.l.length bb.cL) ∧ w'.cell? ⟨g8, 8, none⟩ = some (.int .i64 bb.e)))
                    (with_reducible exact S1)
                    (first | (go_at_call 16; with_reducible refine (LI1.out _ L6.out).mono ?_; rintro e w18 ⟨g1, ct1, rfl, hx⟩; have X1 := hide hx; have L6 := hide (L6.out.keep hx.b); have S1 := And.intro (Bx.ans L6.out.l.m7) (Bx.ans L6.out.l.m8); clear hx) | (go_at_call 16; with_reducible refine (LI2.out _ L6.out).mono ?_; rintro e w19 ⟨g2, ct2, rfl, hx⟩; have X2 := hide hx; have X1 := hide (X1.out.keep hx.b); have L6 := hide (L6.out.keep hx.b); have S1 := And.intro (Bx.ans L6.out.l.m7) (Bx.ans L6.out.l.m8); clear hx) | (refine step_apArL rfl _ _ rfl (some ⟨g1, 0, none⟩) na ct1 ((ra a).map bv) (by simp [Act.eval]) LEN1.out X1.out.r ⟨g2, 0, none⟩ nb ct2 ((ra bb).map bv) (by simp [Act.eval]) LEN2.out X2.out.r.each (bv_one _) PO2.out SZ1.out ?_; intro g3 cap3 w20 hR hN hg; have X3 := hide (X1.out.step (Below.refl _ _) hR hN hg); have L6 := hide (LZ.out.keep X3.out.b); have S1 := And.intro (Bx.ans L6.out.l.m7) (Bx.ans L6.out.l.m8); clear hR hN hg))
                  clear S1 X1 X2 LI1 LI2
                  obtain ⟨k0, k1, k2, k3, k4, k5, k6, k7, k8⟩ := Bx.ans L6.out.m10
                  go_wp2_with fail
                  refine (LI3.out _ L6.out).mono ?_
                  rintro e w21 ⟨g14, ct4, rfl, hx⟩
                  have X4 := hide hx
                  have X5 := hide (X3.out.keep hx.b)
                  clear hx k0 k1 k2 k3 k4 k5 k6 k7 k8 X3
                  go_wp2_with (at_builtin; refine wpList_apArL rfl _ _ rfl (some ⟨g3, 0, none⟩) (na + nb) cap3 ((ra a ++ ra bb).map bv) rfl LEN3.out X5.out.r ⟨g14, 0, none⟩ nc ct4 ((ra c).map bv) rfl LEN4.out X4.out.r.each (bv_one _) PO4.out SZ2.out ?_)
                  intro g15 cap5 w22 hR hN hg
                  have X6 := hide (X5.out.step (U := ra c) (Below.refl _ _) (by rw [List.map_append, List.append_assoc]; exact hR) hN hg)
                  clear hR hN hg X5 X4 LI3 L6
                  have LF := hide (LZ.out.keep X6.out.b)
                  have HSA : Hid (Sh a.an) := by show Sh _; rw [EA.out]; exact SHO.out
                  have HSB : Hid (Sh bb.an) := by show Sh _; rw [EB.out]; exact SHO.out
                  have HSC : Hid (Sh c.an) := by show Sh _; rw [EC.out]; exact SHP.out
                  have AP := hide (Apart_fam w22 B0 a bb c g15 cap5 LF.out.f LF.out.l.fw.b X6.out.r SZ3.out HSA.out HSB.out HSC.out)
                  rw [← LEN5.out] at AP
                  go_wp2_with fail
                  refine AP.out.mono ?_
                  rintro e w23 ⟨rfl, hbut, hbz⟩
                  rw [LEN5.out] at hbut
                  have KX := hide fun (g : Nat) (cs : Array Value) (h : Bx w22 36 g cs) => h.but hbut fun ⟨i, hi, x, hx, e⟩ => (LF.out.f.own _ (t_mem hi)).1.r.nty h (by decide) hx e
                  have M7 := hide (KX.out _ _ LF.out.l.m7)
                  have M8 := hide (KX.out _ _ LF.out.l.m8)
                  have M10 := hide (KX.out _ _ LF.out.m10)
                  have I1 := hide (LF.out.l.fa.l.bytes LF.out.f hbut hbz)
                  have I2 := hide (LF.out.l.fb.l.bytes LF.out.f hbut hbz)
                  have I3 := hide (LF.out.fc.l.bytes LF.out.f hbut hbz)
                  obtain ⟨k0, k1, k2, k3, k4, k5, k6, k7, k8⟩ := Bx.ans M7.out
                  obtain ⟨x0, x1, x2, x3, x4, x5, x6, x7, x8⟩ := Bx.ans M8.out
                  obtain ⟨z0, z1, z2, z3, z4, z5, z6, z7, z8⟩ := Bx.ans M10.out
                  have A23 := hide (al w23 (.cells #[.slice a.aL a.l.length a.cL, .slice bb.aL bb.l.length bb.cL, .slice c.aL c.l.length c.cL] 33))
                  have AI := hide (ApartInts3 (w23.alloc (.cells #[.slice a.aL a.l.length a.cL, .slice bb.aL bb.l.length bb.cL, .slice c.aL c.l.length c.cL] 33)) B0 a bb c w23.heap.size (heap_alloc_new _ _) (I1.out.keep A23.out) (I2.out.keep A23.out) (I3.out.keep A23.out) LF.out.l.li LF.out.la LF.out.lb HSA.out HSB.out HSC.out)
                  clear hbut hbz KX M7 M8 M10 I1 I2 I3 AP LF LZ X6
                  go_wp2_with fail
                  refine AI.out.mono ?_
                  rintro e w24 ⟨rfl, hbz⟩
                  have HBZ := hide (bt HGB.out hbz)
                  clear hbz
                  go_wp2
                  go_roundw
                  case rel => exact ⟨j + 1, hj1, by first | (go_num; done) | exact congrArg (Value.int IntKind.i64) (by omega), HBZ.out⟩
                  case measure => first | exact meas_up _ _ _ rfl hlt | (simp [intOf]; omega)
    · obtain rfl : j = L.length := by omega
      go_wp2
      go_ret
      exact ⟨rfl, HG.out⟩
end Go.Proofs.YtlneomgjjkfnoabGreat
