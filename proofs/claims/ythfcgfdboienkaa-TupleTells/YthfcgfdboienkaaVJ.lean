import Derived.Test.YthfcgfdboienkaaVF
import Derived.Test.YthfcgfdboienkaaVE
import Derived.Test.YthfcgfdboienkaaVG
namespace Go.Proofs.Ythfcgfdboienkaa
open Go.RowKit

set_option maxHeartbeats 1600000 in
theorem dSame_any (w : World) (v : VV) (hv : v.ok) : Calls Try.prog 14 #[.agg v.rc] w fun e w' => e = .returned (.agg v.same.rc) ∧ Below w.heap.size w w' := by
  have V := hide (dValid_any · v)
  have O1 := hide (done_any · v.real hv.r)
  have O2 := hide (done_any · v.re hv.re)
  have O3 := hide (done_any · v.im hv.im)
  have BB : ∀ o o2 o3, Below w.heap.size w (((w.alloc o).alloc o2).alloc o3) := fun o o2 o3 => (((Below.refl w.heap.size w).alloc (Nat.le_refl _) o).alloc (by rw [size_alloc]; omega) o2).alloc (by rw [size_alloc, size_alloc]; omega) o3
  unfold VV.same
  clear hv
  cases hvv : v.valid with
  | false =>
    rw [if_neg (by decide)]
    rw [hvv] at V
    unfold VV.rc VV.zero at *
    rw [show (ByteArray.empty : ByteArray) = ⟨#[]⟩ from rfl]
    go_enter Try.func14, Try.ntmps14
    go_wp2_with fail
    refine (V.out _).mono ?_
    rintro e w1 ⟨rfl, o, rfl⟩
    go_wp2
    refine bodyPost_ret (v := .agg _) (by simp [results, Try.results14, go_sem]) rfl ⟨rfl, BB _ _ _⟩
  | true =>
    rw [if_pos rfl]
    rw [hvv] at V
    unfold VV.rc at *
    go_enter Try.func14, Try.ntmps14
    go_wp2_with fail
    refine (V.out _).mono ?_
    rintro e w1 ⟨rfl, o, rfl⟩
    go_wp2_with fail
    refine (O1.out _).mono ?_
    rintro e w1 ⟨rfl, rfl⟩
    go_wp2_with fail
    refine (O2.out _).mono ?_
    rintro e w1 ⟨rfl, rfl⟩
    go_wp2_with fail
    refine (O3.out _).mono ?_
    rintro e w1 ⟨rfl, rfl⟩
    go_wp2
    refine bodyPost_ret (v := .agg _) (by simp [results, Try.results14, go_sem]) rfl ⟨rfl, BB _ _ _⟩
end Go.Proofs.Ythfcgfdboienkaa
