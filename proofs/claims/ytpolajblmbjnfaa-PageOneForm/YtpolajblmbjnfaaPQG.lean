import Derived.Test.YtpolajblmbjnfaaPQD
import Derived.Test.YtpolajblmbjnfaaPQE
namespace Go.Proofs.Ytpolajblmbjnfaa
open Go.RowKit

set_option maxRecDepth 16000 in
set_option maxHeartbeats 3200000 in
theorem pageOneForm_any (w : World) (no : Int) (_ : N64 no) (a : Option Addr) (cap : Nat) (l : List Nat) (hB : Bs w a l) (_ : l.length + 64 ≤ 140737488355328) (hC : l.length ≤ cap) :
    Calls Try.prog 7 #[.int .i64 no, .slice a l.length cap] w fun e w' => e = .returned (.bool true) ∧ Below w.heap.size w w' := by
  have HB := hide hB
  have DE := hide fun (w1 : World) (hb : Below w.heap.size w w1) => Decode_any w1 no a l.length cap l (hB.keep hb) rfl hC
  have FX := hide (fixed_any w)
  clear hB hC
  go_enter Try.func7, Try.ntmps7
  go_wp2_with fail
  refine FX.out.mono ?_
  rintro e w1 ⟨rfl, hb1⟩
  have B1 := hide hb1
  have D1 := hide (DE.out _ hb1)
  clear hb1 DE FX
  go_wp2_with fail
  refine D1.out.mono ?_
  rintro y w3 ⟨Q, rfl, hQ, hpn, hql, hb3⟩
  have B3 := hide (bt B1.out hb3)
  have IQ := hide (hpn.pi (by omega))
  have QC := hide (Bx.new w3 25 Q.cs)
  by_cases hz : decE no l = 0
  · obtain ⟨q1, q2, q3, q4⟩ := dec_enc hz
    have he : encE no (decG no l) Q.pg = 0 := encE_zero.2 ⟨q1, q2, by rw [hQ]; exact q3⟩
    have hbk : encB no (decG no l) Q.pg = l := by unfold encB; rw [if_pos he, hQ]; exact q4
    have EN := hide fun (w4 : World) (hb : Below (w3.alloc (.cells Q.cs 25)).heap.size (w3.alloc (.cells Q.cs 25)) w4) => Encode_any w4 no (decG no l) Q (IQ.out.keep (bt (al _ _) hb))
    rw [he, hbk] at EN
    rw [hz]
    have CP := hide (Bx.page QC.out)
    clear he hbk q1 q2 q3 q4 hz hQ hpn hql hb3 D1 QC IQ B1
    generalize decG no l = gn at *
    obtain ⟨kind, level, aI, cI, items, aD, cD, data, next⟩ := Q
    unfold Pv.vl at EN
    simp only [Pv.cs, Pv.vl] at *
    have A3 := hide (al w3 (.cells #[.int .i64 kind, .int .i64 level, .slice aI items.length cI, .slice aD data.length cD, .int .i64 next] 25))
    obtain ⟨k0, k1, k2, k3, k4⟩ := CP.out
    go_wp2_with fail
    refine (EN.out _ (Below.refl _ _)).mono ?_
    rintro e w4 ⟨a4, c4, rfl, h4⟩
    have B4 := hide (bt (bt B3.out A3.out) h4.b)
    have Q := hide (EqBytes_same w4 a a4 l.length l.length cap c4 l (HB.out.keep B4.out) (h4.r.bs HB.out.1 HB.out.2.1) rfl rfl)
    clear h4 EN k0 k1 k2 k3 k4 CP
    go_wp2_with fail
    refine Q.out.mono ?_
    rintro e w5 ⟨rfl, hb5⟩
    have B5 := hide (bt B4.out hb5)
    clear hb5
    go_wp2
    go_ret
    exact ⟨rfl, B5.out⟩
  · have hzf : (((decE no l : Nat) : Int) != 0) = true := by simpa using hz
    have hzg : ¬ ((decE no l : Nat) : Int) = 0 := by omega
    have A3 := hide (bt B3.out (al w3 (.cells Q.cs 25)))
    clear hz hQ hpn hql hb3 D1 QC IQ B1 B3
    generalize decE no l = c at *
    generalize decG no l = gn at *
    obtain ⟨kind, level, aI, cI, items, aD, cD, data, next⟩ := Q
    simp only [Pv.cs, Pv.vl] at *
    go_wp2
    go_ret
    exact ⟨rfl, A3.out⟩
end Go.Proofs.Ytpolajblmbjnfaa
