import Derived.Test.YtienamijmccjbaaJK
import Derived.Test.YtienamijmccjbaaJJ
namespace Go.Proofs.Ytienamijmccjbaa
open Go.RowKit

set_option maxRecDepth 8000 in
set_option maxHeartbeats 6400000 in
theorem superEncodes_any (w : World) (s : Su) (a : Option Addr) (c : Nat) (hJ : Js w a s.rs) (hN : s.rs.length ≤ 4398046510976) (_ : s.rs.length ≤ c) :
    Calls Try.prog 6 #[.agg (suC s a c)] w fun e w' => e = .returned (.bool true) ∧ Below w.heap.size w w' := by
  have HA := hide (al w (.cells (suC s a c) 39))
  have HB := hide (Bx.new w 39 (suC s a c))
  have SP := hide fun (w1 : World) (hb : Below w.heap.size w w1) => spare_any w1 s a c (hJ.keep hb) hN
  have EN := hide fun (w1 : World) (a1 : Option Addr) (c1 : Nat) (h : Js w1 a1 s.rs) => Encode_any w1 s a1 c1 h (by omega)
  have RE := hide fun (w1 : World) (hb : Below w.heap.size w w1) => rEncode_any w1 s a c (hJ.keep hb)
  have KE := hide fun (w1 : World) (hb : Below w.heap.size w w1) (g : Nat) (h : Jw w1 (some ⟨g, 0, none⟩) (s.rs.length + 2) (spW s.rs)) => kept_any w1 s g a c h (hJ.keep hb) hN
  unfold EnQ at EN RE
  have hl5 : (enB s).length ≤ 512 := by
    unfold enB
    split
    · rename_i h0; rw [lay_length (chE_ok h0).l]; exact Nat.le_refl _
    · simp
  have EB := hide fun (w1 : World) (a1 a2 : Option Addr) (c1 c2 : Nat) (h1 : Bs w1 a1 (enB s)) (h2 : Bs w1 a2 (enB s)) => EqBytes_same w1 a1 a2 (enB s).length (enB s).length c1 c2 (enB s) h1 h2 rfl rfl
  have H8 := hide (enB_b8 s)
  have hee : ((chE s : Int) == (chE s : Int)) = true := by simp
  clear hJ hN
  generalize chE s = e at *
  generalize enB s = B at *
  unfold suv suC at *
  go_enter Try.func6, Try.ntmps6
  go_wp2_with fail
  refine (SP.out _ HA.out).mono ?_
  rintro y w1 ⟨g1, rfl, hS⟩
  have HL := hide (bt HA.out (bt hS.b (al w1 (.cells (suC s (some ⟨g1, 0, none⟩) (s.rs.length + 2)) 39))))
  have HB := hide ((HB.out.keep hS.b).keep (al w1 (.cells (suC s (some ⟨g1, 0, none⟩) (s.rs.length + 2)) 39)))
  have HX := hide (hS.keep (al w1 (.cells (suC s (some ⟨g1, 0, none⟩) (s.rs.length + 2)) 39)))
  have HBX := hide (Bx.new w1 39 (suC s (some ⟨g1, 0, none⟩) (s.rs.length + 2)))
  clear hS SP
  unfold suC at HL HB HX HBX
  go_wp2_with fail
  generalize w1.alloc (.cells #[.int .i64 s.gen, .int .i64 s.bl, .int .i64 s.cl, .int .i64 s.rf, .int .i64 s.nx, .slice (some ⟨g1, 0, none⟩) s.rs.length (s.rs.length + 2)] 39) = W1 at *
  refine (EN.out _ _ _ HX.out.js).mono ?_
  rintro y w2 ⟨a2, c2, rfl, hO⟩
  have O2 := hide hO
  have HL := hide (bt HL.out hO.b)
  have HB := hide (HB.out.keep hO.b)
  have HBX := hide (HBX.out.keep hO.b)
  have HX := hide (HX.out.keep hO.b)
  clear hO EN
  go_wp2_with (refine wpList_load_row rfl 39 _ rfl w.heap.size rfl 39 _ (0, 0) _ HB.out Try.underlying39 rfl sizeSuper ?_)
  refine (RE.out _ HL.out).mono ?_
  rintro y w3 ⟨a3, c3, rfl, hO⟩
  have O3 := hide hO
  have O2 := hide (O2.out.keep hO.b)
  have HL := hide (bt HL.out hO.b)
  have HB := hide (HB.out.keep hO.b)
  have HBX := hide (HBX.out.keep hO.b)
  have HX := hide (HX.out.keep hO.b)
  clear hO RE
  go_wp2_with fail
  refine (EB.out _ _ _ _ _ (O2.out.bs H8.out) (O3.out.bs H8.out)).mono ?_
  rintro y w4 ⟨rfl, hb⟩
  have HL := hide (bt HL.out hb)
  have HX := hide (HX.out.keep hb)
  obtain ⟨x0, x1, x2, x3, x4, x5⟩ := su_six (u := s) (a := a) (c := c) (HB.out.keep hb)
  obtain ⟨y0, y1, y2, y3, y4, y5⟩ := su_six (u := s) (a := some ⟨g1, 0, none⟩) (c := s.rs.length + 2) (HBX.out.keep hb)
  clear hb EB
  go_wp2_with fail
  refine (KE.out _ HL.out _ HX.out.j).mono ?_
  rintro y w5 ⟨rfl, hb⟩
  have HL := hide (bt HL.out hb)
  clear hb KE x0 x1 x2 x3 x4 x5 y0 y1 y2 y3 y4 y5
  go_wp2_with fail
  refine (works_any _).mono ?_
  rintro y w6 ⟨rfl, hb⟩
  have HL := hide (bt HL.out hb)
  clear hb
  go_wp2
  go_ret
  exact ⟨rfl, HL.out⟩
end Go.Proofs.Ytienamijmccjbaa
