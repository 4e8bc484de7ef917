import Derived.Test.YtpolajblmbjnfaaPMY
import Derived.Test.YtpolajblmbjnfaaPQD
import Derived.Test.YtpolajblmbjnfaaPQE
namespace Go.Proofs.Ytpolajblmbjnfaa
open Go.RowKit

theorem encB_b8 {no gen : Int} {p : Pg} (h : p.b8) : B8 (encB no gen p) := by
  unfold encB
  split
  · exact summed_b8 (body_b8 h no gen)
  · intro x hx; cases hx
set_option maxRecDepth 16000 in
set_option maxHeartbeats 6400000 in
theorem pageEncode_any (w : World) (no : Int) (_ : N64 no) (gen : Int) (_ : N64 gen) (p : Pv) (hP : Pi w p) :
    Calls Try.prog 4 #[.int .i64 no, .int .i64 gen, .agg p.cs] w fun e w' => e = .returned (.bool true) ∧ Below w.heap.size w w' := by
  have E1 := hide fun (w1 : World) (hb : Below w.heap.size w w1) => Encode_any w1 no gen p (hP.keep hb)
  have E2 := hide fun (w1 : World) (hb : Below w.heap.size w w1) => iEncode_any w1 no gen p (hP.keep hb)
  have A0 := hide (al w (.cells p.cs 25))
  have CP := hide fun (w1 : World) (hb : Below (w.alloc (.cells p.cs 25)).heap.size (w.alloc (.cells p.cs 25)) w1) => Bx.page ((Bx.new w 25 p.cs).keep hb)
  have H8 := hide (encB_b8 (no := no) (gen := gen) hP.b8)
  generalize encB no gen p.pg = eb at *
  generalize encE no gen p.pg = ee at *
  clear hP
  obtain ⟨kind, level, aI, cI, items, aD, cD, data, next⟩ := p
  unfold Pv.vl at E1 E2
  simp only [Pv.cs] at *
  obtain ⟨k0, k1, k2, k3, k4⟩ := CP.out _ (Below.refl _ _)
  go_enter Try.func4, Try.ntmps4
  go_wp2_with fail
  refine (E1.out _ A0.out).mono ?_
  rintro e w1 ⟨a1, c1, rfl, h1⟩
  have B1 := hide h1.b
  have S1 := hide (h1.bs H8.out)
  clear E1 h1 k0 k1 k2 k3 k4
  obtain ⟨k0, k1, k2, k3, k4⟩ := CP.out _ B1.out
  go_wp2_with fail
  refine (E2.out _ (bt A0.out B1.out)).mono ?_
  rintro e w2 ⟨a2, c2, rfl, h2⟩
  have B2 := hide h2.b
  have S2 := hide (h2.bs H8.out)
  have F2 := hide (fixed_any w2)
  clear E2 h2 k0 k1 k2 k3 k4
  go_wp2_with fail
  refine F2.out.mono ?_
  rintro e w3 ⟨rfl, hb3⟩
  have Q := hide (EqBytes_same w3 a1 a2 eb.length eb.length c1 c2 eb (S1.out.keep (bt B2.out hb3)) (S2.out.keep hb3) rfl rfl)
  have B3 := hide (bt A0.out (bt B1.out (bt B2.out hb3)))
  clear hb3 F2 S1 S2
  go_wp2_with fail
  refine Q.out.mono ?_
  rintro e w4 ⟨rfl, hb4⟩
  have B4 := hide (bt B3.out hb4)
  clear hb4
  go_wp2
  go_ret
  exact ⟨rfl, B4.out⟩
end Go.Proofs.Ytpolajblmbjnfaa
