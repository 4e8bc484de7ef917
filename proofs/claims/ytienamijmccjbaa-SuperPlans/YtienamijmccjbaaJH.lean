import Derived.Test.YtienamijmccjbaaJG
namespace Go.Proofs.Ytienamijmccjbaa
open Go.RowKit

set_option maxRecDepth 8000 in
set_option maxHeartbeats 3200000 in
theorem plans_go (w : World) (b c r p k f e : Int) (he : plE b c r = e) (hp : plA b c r = .agg #[.int .i64 p, .int .i64 k, .int .i64 f]) : Calls Try.prog 3 #[.agg #[.int .i64 b, .int .i64 c, .int .i64 r]] w fun y w' => y = .returned (.bool true) ∧ Below w.heap.size w w' := by
  have HA := hide (al w (.cells #[.int .i64 b, .int .i64 c, .int .i64 r] 23))
  have HB := hide (Bx.new w 23 #[.int .i64 b, .int .i64 c, .int .i64 r])
  have PL := hide fun w1 => Plan_any w1 b c r
  have RP := hide fun w1 => rPlan_any w1 b c r
  rw [he, hp] at PL RP
  unfold cfv at PL RP
  have hq := eq_plan p k f p k f
  have hqe : e3 p k f p k f = true := e3_iff.2 ⟨rfl, rfl, rfl⟩
  simp only [hqe] at hq
  have hee : (e == e) = true := by simp
  clear he hp hqe
  go_enter Try.func3, Try.ntmps3
  go_wp2_with fail
  refine (PL.out _).mono ?_
  rintro y w1 ⟨rfl, hb⟩
  have HL := hide (bt HA.out (bt hb (al w1 (.cells #[.int .i64 p, .int .i64 k, .int .i64 f] 25))))
  have HB := hide ((HB.out.keep hb).keep (al w1 (.cells #[.int .i64 p, .int .i64 k, .int .i64 f] 25)))
  have HP := hide (Bx.new w1 25 #[.int .i64 p, .int .i64 k, .int .i64 f])
  clear hb PL
  go_wp2_with (refine wpList_load_row rfl 23 _ rfl w.heap.size rfl 23 _ (0, 0) _ HB.out Try.underlying23 rfl sizeCfg ?_)
  generalize w1.alloc (.cells #[.int .i64 p, .int .i64 k, .int .i64 f] 25) = W1 at *
  refine (RP.out _).mono ?_
  rintro y w2 ⟨rfl, hb⟩
  have HL := hide (bt HL.out (bt hb (al w2 (.cells #[.int .i64 p, .int .i64 k, .int .i64 f] 25))))
  have HP := hide ((HP.out.keep hb).keep (al w2 (.cells #[.int .i64 p, .int .i64 k, .int .i64 f] 25)))
  have x0 := HP.out.cell 0 rfl
  have x1 := HP.out.cell 1 rfl
  have x2 := HP.out.cell 2 rfl
  clear hb RP
  go_wp2_with fail
  generalize w2.alloc (.cells #[.int .i64 p, .int .i64 k, .int .i64 f] 25) = W2 at *
  refine (works_any _).mono ?_
  rintro y w3 ⟨rfl, hb⟩
  have HL := hide (bt HL.out hb)
  clear hb x0 x1 x2
  go_wp2
  go_ret
  exact ⟨rfl, HL.out⟩
theorem superPlans_any (w : World) (b c r : Int) (_ : N64 b) (_ : N64 c) (_ : N64 r) : Calls Try.prog 3 #[.agg #[.int .i64 b, .int .i64 c, .int .i64 r]] w fun y w' => y = .returned (.bool true) ∧ Below w.heap.size w w' := by
  cases hm : mayB b c r with
  | false => exact plans_go w b c r 0 0 0 1 (by unfold plE; rw [hm]; rfl) (by unfold plA; rw [hm]; rfl)
  | true => exact plans_go w b c r (pgs b) (bnk b) (fsb b) 0 (by unfold plE; rw [hm]; rfl) (by unfold plA; rw [hm]; rfl)
end Go.Proofs.Ytienamijmccjbaa
