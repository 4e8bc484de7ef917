import Derived.Test.YtienamijmccjbabIX
namespace Go.Proofs.Ytienamijmccjbab
open Go.RowKit

set_option maxRecDepth 8000 in
set_option maxHeartbeats 3200000 in
theorem superOneForm_any (w : World) (a : Option Addr) (c : Nat) (b : List Nat) (hB : Bs w a b) (hN : b.length + 64 ≤ 140737488355328) (hC : b.length ≤ c) :
    Calls Try.prog 3 #[.slice a b.length c] w fun e w' => e = .returned (.bool true) ∧ Below w.heap.size w w' := by
  have CB := hide fun (w1 : World) (hb : Below w.heap.size w w1) => CopyBytes_any w1 a b.length c b (hB.keep hb) rfl (by omega)
  have DE := hide fun (w1 : World) (a1 : Option Addr) (c1 : Nat) (h : Bs w1 a1 b) (hc : b.length ≤ c1) => Decode_any w1 a1 b.length c1 b h rfl hc
  unfold DeQ at DE
  have HC := hide hC
  clear hC
  by_cases h0 : deE b = 0
  · obtain ⟨hf1, hf2⟩ := de_form hB.1 h0
    have hl512 := (deE_zero.1 h0).1
    have EN := hide fun (w1 : World) (a1 : Option Addr) (c1 : Nat) (h : Js w1 a1 (deS b).rs) => Encode_any w1 (deS b) a1 c1 h (by have := (chE_ok hf2).l; omega)
    unfold EnQ at EN
    rw [enB_ok hf2, hf1, hf2] at EN
    have CH := hide fun (w1 : World) (a1 : Option Addr) (c1 : Nat) (h : Js w1 a1 (deS b).rs) => Check_any w1 (deS b) a1 c1 h (by have := (chE_ok hf2).l; omega)
    rw [hf2] at CH
    have EB := hide fun (w1 : World) (hb : Below w.heap.size w w1) (a1 : Option Addr) (c1 : Nat) (h : Bs w1 a1 b) => EqBytes_same w1 a a1 b.length b.length c c1 b (hB.keep hb) h rfl rfl
    have HB8 := hide hB.1
    rw [h0] at DE
    clear h0 hf1 hf2 hB hl512
    generalize deS b = s at *
    unfold suv suC at *
    go_enter Try.func3, Try.ntmps3
    go_wp2_with fail
    refine (works_any _).mono ?_
    rintro y w1 ⟨rfl, hb⟩
    have HL := hide hb
    clear hb
    go_wp2_with fail
    refine (CB.out _ HL.out).mono ?_
    rintro y w2 ⟨a2, c2, rfl, hR, hNw, hbw⟩
    have hO : Own w1 w2 a2 c2 b := ⟨hR, hNw, hbw⟩
    have O2 := hide hO
    clear hR hNw hbw
    have HL := hide (bt HL.out hO.b)
    clear hO CB
    go_wp2_with fail
    refine (DE.out _ a2 c2 (O2.out.bs HB8.out) O2.out.r.cap).mono ?_
    rintro y w3 ⟨a3, c3, rfl, hO⟩
    have J3 := hide ((hO.r.qs).keep (al w3 (.cells (suC s a3 c3) 28)))
    have HL := hide (bt HL.out (bt hO.b (al w3 (.cells (suC s a3 c3) 28))))
    have HBX := hide (Bx.new w3 28 (suC s a3 c3))
    clear hO DE
    unfold suC at *
    go_wp2_with fail
    generalize w3.alloc (.cells #[.int .i64 s.gen, .int .i64 s.bl, .int .i64 s.cl, .int .i64 s.rf, .int .i64 s.nx, .slice a3 s.rs.length c3] 28) = W3 at *
    refine (EN.out _ _ _ J3.out).mono ?_
    rintro y w4 ⟨a4, c4, rfl, hO⟩
    have O4 := hide hO
    have HL := hide (bt HL.out hO.b)
    have J4 := hide (J3.out.keep hO.b)
    have HBX := hide (HBX.out.keep hO.b)
    clear hO EN J3
    go_wp2_with fail
    refine (EB.out _ HL.out _ _ (O4.out.bs HB8.out)).mono ?_
    rintro y w5 ⟨rfl, hb⟩
    have HL := hide (bt HL.out hb)
    have J4 := hide (J4.out.keep hb)
    obtain ⟨x0, x1, x2, x3, x4, x5⟩ := su_six (HBX.out.keep hb)
    clear hb EB
    go_wp2_with fail
    refine (CH.out _ _ _ J4.out).mono ?_
    rintro y w6 ⟨rfl, hb⟩
    have HL := hide (bt HL.out hb)
    clear hb x0 x1 x2 x3 x4 x5
    go_wp2
    go_ret
    exact ⟨rfl, HL.out⟩
  · have h0' : ((deE b : Int) == 0) = false := by simpa using h0
    have h0'' : ¬ deE b = 0 := h0
    have HB8 := hide hB.1
    clear h0 hB
    generalize deE b = e at *
    generalize deS b = s at *
    unfold suv suC at *
    go_enter Try.func3, Try.ntmps3
    go_wp2_with fail
    refine (works_any _).mono ?_
    rintro y w1 ⟨rfl, hb⟩
    have HL := hide hb
    clear hb
    go_wp2_with fail
    refine (CB.out _ HL.out).mono ?_
    rintro y w2 ⟨a2, c2, rfl, hR, hNw, hbw⟩
    have hO : Own w1 w2 a2 c2 b := ⟨hR, hNw, hbw⟩
    have O2 := hide hO
    clear hR hNw hbw
    have HL := hide (bt HL.out hO.b)
    clear hO CB
    go_wp2_with fail
    refine (DE.out _ a2 c2 (O2.out.bs HB8.out) O2.out.r.cap).mono ?_
    rintro y w3 ⟨a3, c3, rfl, hO⟩
    have HL := hide (bt HL.out hO.b)
    clear hO DE
    go_wp2
    go_ret
    exact ⟨rfl, HL.out.alloc HL.out.size _⟩
end Go.Proofs.Ytienamijmccjbab
