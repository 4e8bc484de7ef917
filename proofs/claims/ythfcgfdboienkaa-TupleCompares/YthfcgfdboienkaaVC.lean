import Derived.Test.YthfcgfdboienkaaVB
import Derived.Laws.Externs
namespace Go.Proofs.Ythfcgfdboienkaa
open Go.RowKit

theorem call_f64bits (b : Nat) (w : World) : (callFunc 32 #[.float .f64 b]).run Try.prog w = .ok (.value (.int .u64 (b : Int))) w := by
  rw [run_callFunc_extern Try.func32 (by kernel_rfl) (by kernel_rfl) (by kernel_rfl) (e := Extern.MathFloatBits.float64bits) (by kernel_rfl)]
  rfl
theorem call_f64from (b : Nat) (w : World) : (callFunc 48 #[.int .u64 (b : Int)]).run Try.prog w = .ok (.value (.float .f64 b)) w := by
  rw [run_callFunc_extern Try.func48 (by kernel_rfl) (by kernel_rfl) (by kernel_rfl) (e := Extern.MathFloatBits.float64frombits) (by kernel_rfl)]
  rfl
theorem st_float (w : World) (a : Addr) (b : Nat) (m : Mode) : (store a (.float .f64 b) m).run Try.prog w = stored Try.prog w a (.float .f64 b) m := run_store Try.prog w a _ m rfl
theorem st_complex (w : World) (a : Addr) (b c : Nat) (m : Mode) : (store a (.complex .f64 b c) m).run Try.prog w = stored Try.prog w a (.complex .f64 b c) m := run_store Try.prog w a _ m rfl
def VV.pc (v : VV) : Array Value := #[.int .i64 v.kind, .bool v.bool, .int .i64 v.int, .float .f64 v.real, .complex .f64 v.re v.im, .string v.text]
def VV.rc (v : VV) : Array Value := #[.int .i64 v.kind, .bool v.bool, .int .i64 v.int, .int .u64 (v.real : Int), .int .u64 (v.re : Int), .int .u64 (v.im : Int), .string v.text]

theorem real64_any (w : World) (x : Nat) : Calls Try.prog 30 #[.int .u64 (x : Int)] w fun e w' => e = .returned (.float .f64 x) ∧ w' = w := by
  have hf := call_f64from
  go_enter Try.func30, Try.ntmps30
  go_wp2
  go_ret
  exact ⟨rfl, rfl⟩
theorem noBits_any (w : World) (x : Nat) : Calls Try.prog 31 #[.float .f64 x] w fun e w' => e = .returned (.bool (decide (x = 0))) ∧ w' = w := by
  have hf := call_f64bits
  go_enter Try.func31, Try.ntmps31
  go_wp2
  go_ret
  exact ⟨by simp [Bool.beq_eq_decide_eq]; first | done | (congr 1; rw [decide_eq_decide]; omega), rfl⟩

set_option maxHeartbeats 1600000 in
theorem value_any (w : World) (v : VV) : Calls Try.prog 9 #[.agg v.rc] w fun e w' => e = .returned (.agg v.pc) ∧ Below w.heap.size w w' := by
  have R := hide real64_any
  have sf := st_float
  have sc := st_complex
  unfold VV.rc VV.pc
  go_enter Try.func9, Try.ntmps9
  go_wp2
  go_region_held3 (fun w' => w'.cell? ⟨w.heap.size, 0, none⟩ = some (.int .i64 v.kind) ∧ w'.cell? ⟨w.heap.size, 1, none⟩ = some (.bool v.bool) ∧ w'.cell? ⟨w.heap.size, 2, none⟩ = some (.int .i64 v.int) ∧ w'.cell? ⟨w.heap.size, 3, none⟩ = some (.int .u64 (v.real : Int)) ∧ w'.cell? ⟨w.heap.size, 4, none⟩ = some (.int .u64 (v.re : Int)) ∧ w'.cell? ⟨w.heap.size, 5, none⟩ = some (.int .u64 (v.im : Int)) ∧ w'.cell? ⟨w.heap.size, 6, none⟩ = some (.string v.text))
    (simp)
    (first | (go_at_call 30; refine (R.out _ _).mono ?_; rintro e w2 ⟨rfl, rfl⟩))
  go_wp2
  refine bodyPost_ret (v := .agg _) (by simp [results, Try.results9, go_sem]) rfl ⟨rfl, ?_⟩
  exact (((Below.refl w.heap.size w).alloc (Nat.le_refl _) _).alloc (by rw [size_alloc]; omega) _).drew
set_option maxHeartbeats 1600000 in
theorem bits_any (w : World) (v : VV) : Calls Try.prog 12 #[.agg v.pc] w fun e w' => e = .returned (.agg v.rc) ∧ Below w.heap.size w w' := by
  have R := call_f64bits
  have sf := st_float
  have sc := st_complex
  unfold VV.rc VV.pc
  go_enter Try.func12, Try.ntmps12
  go_wp2
  go_region_held3 (fun w' => w'.cell? ⟨w.heap.size, 0, none⟩ = some (.int .i64 v.kind) ∧ w'.cell? ⟨w.heap.size, 1, none⟩ = some (.bool v.bool) ∧ w'.cell? ⟨w.heap.size, 2, none⟩ = some (.int .i64 v.int) ∧ w'.cell? ⟨w.heap.size, 3, none⟩ = some (.float .f64 v.real) ∧ w'.cell? ⟨w.heap.size, 4, none⟩ = some (.complex .f64 v.re v.im) ∧ w'.cell? ⟨w.heap.size, 5, none⟩ = some (.string v.text))
    (simp)
    (first | fail)
  all_goals (go_wp2; refine bodyPost_ret (v := .agg _) (by simp [results, Try.results12, go_sem]) rfl ⟨rfl, ?_⟩; exact (((Below.refl w.heap.size w).alloc (Nat.le_refl _) _).alloc (by rw [size_alloc]; omega) _).drew)
end Go.Proofs.Ythfcgfdboienkaa
