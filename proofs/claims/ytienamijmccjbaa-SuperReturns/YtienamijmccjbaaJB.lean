import Derived.Test.YtienamijmccjbaaIY
namespace Go.Proofs.Ytienamijmccjbaa
open Go.RowKit

set_option maxRecDepth 8000 in
set_option maxHeartbeats 3200000 in
theorem superReturns_any (w : World) (s : Su) (a : Option Addr) (c : Nat) (hJ : Js w a s.rs) (hN : s.rs.length ≤ 4398046510976) (_ : s.rs.length ≤ c) :
    Calls Try.prog 8 #[.agg (suC s a c)] w fun e w' => e = .returned (.bool true) ∧ Below w.heap.size w w' := by
  have HA := hide (al w (.cells (suC s a c) 39))
  have HB := hide (Bx.new w 39 (suC s a c))
  have HJ := hide hJ
  have SP := hide fun (w1 : World) (hb : Below w.heap.size w w1) => spare_any w1 s a c (hJ.keep hb) hN
  have CH := hide fun (w1 : World) (hb : Below w.heap.size w w1) => Check_any w1 s a c (hJ.keep hb) (by omega)
  have EN := hide fun (w1 : World) (a1 : Option Addr) (c1 : Nat) (h : Js w1 a1 s.rs) => Encode_any w1 s a1 c1 h (by omega)
  unfold EnQ at EN
  clear hJ
  by_cases h0 : chE s = 0
  · have hok := chE_ok h0
    have hll := lay_length hok.l
    have DE := hide fun (w1 : World) (a1 : Option Addr) (c1 : Nat) (h : Bs w1 a1 (lay s)) (hc : 512 ≤ c1) => Decode_any w1 a1 512 c1 (lay s) h hll.symm (by rw [hll]; exact hc)
    unfold DeQ at DE
    rw [(de_back h0).1, (de_back h0).2] at DE
    have EQ := hide fun (w1 : World) (a1 b1 : Option Addr) (c1 d1 : Nat) (h1 : Js w1 a1 s.rs) (h2 : Js w1 b1 s.rs) => EqSuper_same w1 s a1 b1 c1 d1 h1 h2 (by omega)
    rw [enB_ok h0, h0, hll] at EN
    rw [h0] at CH
    have HLL := hide hll
    clear h0 hok hll hN
    unfold suv suC at *
    go_enter Try.func8, Try.ntmps8
    go_wp2_with fail
    refine (works_any _).mono ?_
    rintro y w1 ⟨rfl, hb⟩
    have HL := hide (bt HA.out hb)
    have HB := hide (HB.out.keep hb)
    clear hb
    go_wp2_with (refine wpList_load_row rfl 39 _ rfl w.heap.size rfl 39 _ (0, 0) _ HB.out Try.underlying39 rfl sizeSuper ?_)
    refine (SP.out _ HL.out).mono ?_
    rintro y w2 ⟨g2, rfl, hS⟩
    have HL := hide (bt HL.out hS.b)
    have HB := hide (HB.out.keep hS.b)
    have J2 := hide hS.js
    clear hS SP
    go_wp2_with fail
    refine (EN.out _ _ _ J2.out).mono ?_
    rintro y w3 ⟨a3, c3, rfl, hO⟩
    have HL := hide (bt HL.out hO.b)
    have HB := hide (HB.out.keep hO.b)
    have O3 := hide hO
    clear hO EN J2
    go_wp2_with (refine wpList_load_row rfl 39 _ rfl w.heap.size rfl 39 _ (0, 0) _ HB.out Try.underlying39 rfl sizeSuper ?_)
    refine (CH.out _ HL.out).mono ?_
    rintro y w4 ⟨rfl, hb⟩
    have HL := hide (bt HL.out hb)
    have HB := hide (HB.out.keep hb)
    have O4 := hide (O3.out.keep hb)
    clear hb CH O3
    go_wp2_with fail
    refine (DE.out _ _ _ (O4.out.bs (lay_b8 s)) (by have := O4.out.r.cap; rw [HLL.out] at this; exact this)).mono ?_
    rintro y w5 ⟨a5, c5, rfl, hO⟩
    have J5 := hide ((hO.r.qs).keep (al w5 (.cells (suC s a5 c5) 39)))
    have HL := hide (bt HL.out (bt hO.b (al w5 (.cells (suC s a5 c5) 39))))
    have HB := hide ((HB.out.keep hO.b).keep (al w5 (.cells (suC s a5 c5) 39)))
    have HB5 := hide (Bx.new w5 39 (suC s a5 c5))
    have hwl := (HB.out.lt)
    clear hO DE O4 hwl
    unfold suC at *
    obtain ⟨x0, x1, x2, x3, x4, x5⟩ := su_six (u := s) (a := a) (c := c) HB.out
    go_wp2_with fail
    generalize w5.alloc (.cells #[.int .i64 s.gen, .int .i64 s.bl, .int .i64 s.cl, .int .i64 s.rf, .int .i64 s.nx, .slice a5 s.rs.length c5] 39) = W5 at *
    refine (EQ.out _ a a5 c c5 (HJ.out.keep HL.out) J5.out).mono ?_
    rintro y w6 ⟨rfl, hb⟩
    have HL := hide (bt HL.out hb)
    clear hb EQ x0 x1 x2 x3 x4 x5
    go_wp2
    go_ret
    exact ⟨rfl, HL.out⟩
  · rw [enB_no h0] at EN
    have h0' : ((chE s : Int) == 0) = false := by simpa using h0
    have h0'' : ¬ chE s = 0 := h0
    clear h0 hN
    generalize chE s = e at *
    have hee : ((e : Int) == (e : Int)) = true := by simp
    unfold suv suC at *
    go_enter Try.func8, Try.ntmps8
    go_wp2_with fail
    refine (works_any _).mono ?_
    rintro y w1 ⟨rfl, hb⟩
    have HL := hide (bt HA.out hb)
    have HB := hide (HB.out.keep hb)
    clear hb
    go_wp2_with (refine wpList_load_row rfl 39 _ rfl w.heap.size rfl 39 _ (0, 0) _ HB.out Try.underlying39 rfl sizeSuper ?_)
    refine (SP.out _ HL.out).mono ?_
    rintro y w2 ⟨g2, rfl, hS⟩
    have HL := hide (bt HL.out hS.b)
    have HB := hide (HB.out.keep hS.b)
    have J2 := hide hS.js
    clear hS SP
    go_wp2_with fail
    refine (EN.out _ _ _ J2.out).mono ?_
    rintro y w3 ⟨a3, c3, rfl, hO⟩
    have HL := hide (bt HL.out hO.b)
    have HB := hide (HB.out.keep hO.b)
    clear hO EN J2
    go_wp2_with (refine wpList_load_row rfl 39 _ rfl w.heap.size rfl 39 _ (0, 0) _ HB.out Try.underlying39 rfl sizeSuper ?_)
    refine (CH.out _ HL.out).mono ?_
    rintro y w4 ⟨rfl, hb⟩
    have HL := hide (bt HL.out hb)
    clear hb CH
    go_wp2
    go_ret
    exact ⟨rfl, HL.out⟩
end Go.Proofs.Ytienamijmccjbaa
