import Derived.Test.YtbhigodjbfoeoaaGreatWpHK
namespace Go.Proofs.YtbhigodjbfoeoaaGreat
set_option linter.unusedVariables false
set_option linter.unusedSimpArgs false
open Go.RowKit
set_option maxHeartbeats 8000000 in
set_option maxRecDepth 8000 in
/-- a short value is told -/
theorem Load_short (w : World) (v : Value) (x : Iv) (hx : Bs w x.aV x.val) (h1 : x.val.length ≤ 32) (hz : x.size = (x.val.length : Int)) :
    Calls Tryz.prog 24 #[v, x.vl] w fun e w' => ∃ (a : Option Addr) (c : Nat), e = .returned (.tuple #[.slice a x.val.length c, .int .i64 0]) ∧ Own w w' a c x.val := by
  have A0 := hide (al w (.cells x.cs 34))
  have X0 := hide (heap_alloc_new w (.cells x.cs 34))
  have CL := hide (Clone_own (w.alloc (.cells x.cs 34)) x.aV x.cV x.val (hx.keep A0.out) (by omega))
  clear hx
  obtain ⟨xK, xcK, xkey, xV, xcV, xval, xch, xsz⟩ := x
  simp only at hz h1
  subst hz
  unfold Iv.vl
  simp only [Iv.cs] at A0 X0 CL ⊢
  obtain ⟨s, hs⟩ : ∃ s, xval.length = s := ⟨_, rfl⟩
  rw [hs] at h1 CL A0 X0 ⊢
  clear hs
  have d1 : decide ((s : Int) < 0) = false := decide_eq_false (by omega)
  have d2 : decide ((3840 : Int) < (s : Int)) = false := decide_eq_false (by omega)
  have d3 : decide ((32 : Int) < (s : Int)) = false := decide_eq_false (by omega)
  have d4 : ((s : Int) != (s : Int)) = false := by simp
  obtain ⟨x0, x1, x2, x3⟩ := four13 X0.out
  go_enter Tryz.func24, Tryz.ntmps24
  go_wp2_with fail
  refine CL.out.mono ?_
  rintro _ w3 ⟨a, c, rfl, hO⟩
  have OO : Hid (Own w w3 a c xval) := ⟨hO.r, hO.n.mono A0.out.size, bt A0.out hO.b⟩
  clear hO
  go_wp2_with fail
  refine bodyPost_ret (results_tmp2 rfl _ _ _) rfl ?_
  exact ⟨a, c, rfl, OO.out⟩
end Go.Proofs.YtbhigodjbfoeoaaGreat
