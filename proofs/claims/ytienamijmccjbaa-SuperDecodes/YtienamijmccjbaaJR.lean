import Derived.Test.YtienamijmccjbaaJQ
import Derived.Test.YtienamijmccjbaaIX
import Derived.Test.YtienamijmccjbaaVB
namespace Go.Proofs.Ytienamijmccjbaa
open Go.RowKit

theorem deS_small {b : List Nat} : (deS b).rs.length ≤ 16 := by
  by_cases h : deE b = 0
  · rw [deS_eq h]
    show (rRs (b.take 508) (nv (b.take 508) 25 1)).length ≤ 16
    rw [rRs_length]
    exact (okD_iff.1 (deE_zero.1 h).2.2).1
  · rw [deS_no h]
    exact Nat.zero_le _
set_option maxRecDepth 8000 in
set_option maxHeartbeats 6400000 in
theorem superDecodes_any (w : World) (a : Option Addr) (c : Nat) (b : List Nat) (hB : Bs w a b) (hN : b.length + 64 ≤ 140737488355328) (hC : b.length ≤ c) :
    Calls Try.prog 7 #[.slice a b.length c] w fun e w' => e = .returned (.bool true) ∧ Below w.heap.size w w' := by
  have SP := hide (Spare_any w a b.length c b hB rfl (by omega))
  have DE := hide fun (w1 : World) (a1 : Option Addr) (c1 : Nat) (h : Bs w1 a1 b) (hc : b.length ≤ c1) => Decode_any w1 a1 b.length c1 b h rfl hc
  have RD := hide fun (w1 : World) (hb : Below w.heap.size w w1) => rDecode_any w1 a b.length c b (hB.keep hb) rfl hC
  have KE := hide fun (w1 : World) (hb : Below w.heap.size w w1) (hR : w1.rowIs w.heap.size 5 (b.length + 64) (spF b)) => Kept_any w1 w.heap.size (b.length + 64) a b.length b.length c b hR (hB.keep hb) rfl rfl rfl (by omega)
  have SB := hide fun (w1 : World) (hR : w1.rowIs w.heap.size 5 (b.length + 64) (spF b)) => spare_bs hR (by omega) hB.1 hB.2.1
  have ES := hide fun (w1 : World) (a1 a2 : Option Addr) (c1 c2 : Nat) (h1 : Js w1 a1 (deS b).rs) (h2 : Js w1 a2 (deS b).rs) => EqSuper_same w1 (deS b) a1 a2 c1 c2 h1 h2 (by have := deS_small (b := b); omega)
  unfold DeQ at DE RD
  have HC : Hid (b.length ≤ b.length + 64) := by show _ ≤ _; omega
  have hee : ((deE b : Int) == (deE b : Int)) = true := by simp
  clear hB hN hC
  generalize deE b = e at *
  generalize deS b = s at *
  unfold suv suC at *
  go_enter Try.func7, Try.ntmps7
  go_wp2_with fail
  refine SP.out.mono ?_
  rintro y w1 ⟨rfl, hR, hb⟩
  have HL := hide hb
  have HR := hide hR
  clear hb hR SP
  go_wp2_with fail
  refine (DE.out _ _ _ (SB.out _ HR.out) HC.out).mono ?_
  rintro y w2 ⟨a2, c2, rfl, hO⟩
  have J2 := hide (hO.r.qs.keep (al w2 (.cells (suC s a2 c2) 39)))
  have HL := hide (bt HL.out (bt hO.b (al w2 (.cells (suC s a2 c2) 39))))
  have HR := hide (rowIs_below (rowIs_below HR.out hO.b) (al w2 (.cells (suC s a2 c2) 39)))
  have B2 := hide (Bx.new w2 39 (suC s a2 c2))
  clear hO DE SB HC
  unfold suC at J2 HL HR B2
  go_wp2_with fail
  generalize w2.alloc (.cells #[.int .i64 s.gen, .int .i64 s.bl, .int .i64 s.cl, .int .i64 s.rf, .int .i64 s.nx, .slice a2 s.rs.length c2] 39) = W2 at *
  generalize w2.heap.size = g2 at *
  refine (RD.out _ HL.out).mono ?_
  rintro y w3 ⟨a3, c3, rfl, hO⟩
  have J3 := hide (hO.r.qs.keep (al w3 (.cells (suC s a3 c3) 39)))
  have J2 := hide ((J2.out.keep hO.b).keep (al w3 (.cells (suC s a3 c3) 39)))
  have HL := hide (bt HL.out (bt hO.b (al w3 (.cells (suC s a3 c3) 39))))
  have HR := hide (rowIs_below (rowIs_below HR.out hO.b) (al w3 (.cells (suC s a3 c3) 39)))
  obtain ⟨x0, x1, x2, x3, x4, x5⟩ := su_six (u := s) (a := a2) (c := c2) (B2.out.keep hO.b)
  have hg2 : g2 < w3.heap.size := (Array.getElem?_eq_some_iff.1 (B2.out.keep hO.b)).1
  clear hO RD B2
  unfold suC at *
  go_wp2_with fail
  refine (ES.out _ _ _ _ _ J2.out J3.out).mono ?_
  rintro y w4 ⟨rfl, hb⟩
  have HL := hide (bt HL.out hb)
  have HR := hide (rowIs_below HR.out hb)
  clear hb ES x0 x1 x2 x3 x4 x5 hg2
  go_wp2_with fail
  refine (KE.out _ HL.out HR.out).mono ?_
  rintro y w5 ⟨rfl, hb⟩
  have HL := hide (bt HL.out hb)
  clear hb KE
  go_wp2_with fail
  refine (works_any _).mono ?_
  rintro y w6 ⟨rfl, hb⟩
  have HL := hide (bt HL.out hb)
  clear hb
  go_wp2
  go_ret
  exact ⟨rfl, HL.out⟩
end Go.Proofs.Ytienamijmccjbaa
