import Derived.Test.YtlkjpljfbmploaaWD
import Derived.Laws.Cover3
namespace Go.Proofs.Ytlkjpljfbmploaa
open Go.RowKit

theorem run_eql_slice_nil (a : Option Addr) (l c : Nat) (w : World) : (binOp .eql 33 (.slice a l c) (.slice none 0 0)).run Try.prog w = .ok (.bool a.isNone) w := by
  simp only [binOp]
  simp [run_equal_slice_nil w 33 5 a l c Try.underlying33]

set_option maxHeartbeats 800000 in
theorem Clone_any (w : World) (aa : Option Addr) (n capa : Nat) (p : List Nat) (hB : Bs w aa p) (hn : n = p.length) (hlen : p.length ≤ 140737488355328) :
    Calls Try.prog 44 #[.slice aa n capa] w fun x w' => ∃ a' cap', x = .returned (.slice a' n cap') ∧ Rw w' a' cap' p ∧ New w none a' ∧ Below w.heap.size w w' := by
  subst hn
  cases aa with
  | none =>
    obtain rfl : p = [] := by
      rcases hB.2.2 with h | ⟨b, off, h, _⟩
      · exact h
      · cases h
    clear hB
    have hq := run_eql_slice_nil none
    go_enter Try.func44, Try.ntmps44
    go_wp2
    go_ret
    exact ⟨none, 0, rfl, Rw.nil _, New.none _ _, Below.refl _ _⟩
  | some x =>
    have HB := hide hB
    clear hB
    have hq := run_eql_slice_nil (some x)
    go_enter Try.func44, Try.ntmps44
    go_wp2_with (at_builtin; refine wpList_apB rfl _ _ rfl (some ⟨w.heap.size, 0, none⟩) 0 0 [] rfl rfl (Rw.mk (cur := #[]) (heap_alloc_new _ _) (Nat.le_refl _) (Nat.zero_le _) rfl rfl) (some x) p.length capa p rfl rfl (HB.out.keep ((Below.refl _ _).alloc (Nat.le_refl _) _)) (by simpa using hlen) ?_)
    intro a' cap' w2 hR hN hg _
    have hb : Below w.heap.size w w2 := (But.grown (S := fun k => k = w.heap.size) ((But.refl _ w).alloc _) hg (by intro k hk _; simpa using hk.symm)).below (by intro k hk e; omega)
    have hN2 : New w none a' := by
      intro y hy
      rcases hN y hy with ⟨z, hz, e⟩ | h
      · simp only [Option.some.injEq] at hz
        subst hz
        exact .inr (by show _ ≤ y.block; rw [← e]; exact Nat.le_refl _)
      · rw [size_alloc] at h; exact .inr (by omega)
    have HR := hide hR
    clear hR hN hg
    go_wp2
    go_ret
    exact ⟨a', cap', by simp, HR.out, hN2, hb⟩

theorem Len_any (w : World) (b : Nat) (a : Option Addr) (cap : Nat) (s : WS) (h : Wt 68 w b a cap s) :
    Calls Try.prog 25 #[.pointer (some ⟨b, 0, none⟩)] w fun x w' => x = .returned (.int .i64 (s.l.length : Int)) ∧ w' = w := by
  have c1 := h.c1
  clear h
  go_enter Try.func25, Try.ntmps25
  go_wp2
  go_ret
  exact ⟨rfl, rfl⟩

set_option maxHeartbeats 800000 in
theorem Done_ok (w : World) (b : Nat) (a : Option Addr) (cap : Nat) (s : WS) (h : Wt 68 w b a cap s) (he : s.e = 0) :
    Calls Try.prog 24 #[.pointer (some ⟨b, 0, none⟩)] w fun x w' => ∃ a' cap', x = .returned (.tuple #[.slice a' s.l.length cap', .int .i64 0]) ∧ Rw w' a' cap' s.l ∧ New w none a' ∧ Below w.heap.size w w' := by
  have c1 := h.c1
  have c2 := h.c2
  rw [he] at c2
  have H := hide h
  clear h he
  go_enter Try.func24, Try.ntmps24
  go_wp2_with fail
  refine (Clone_any w a s.l.length cap s.l (H.out.2.1.bs H.out.2.2.2.2 H.out.2.1.len_le) rfl (by have := H.out.2.2.1; have := H.out.2.2.2.1; omega)).mono ?_
  rintro e w1 ⟨a', cap', rfl, hR, hN, hb⟩
  have HR := hide hR
  clear hR
  go_wp2
  go_ret2
  exact ⟨a', cap', rfl, HR.out, hN, hb⟩
set_option maxHeartbeats 800000 in
theorem Done_err (w : World) (b : Nat) (a : Option Addr) (cap : Nat) (s : WS) (h : Wt 68 w b a cap s) (he : s.e ≠ 0) :
    Calls Try.prog 24 #[.pointer (some ⟨b, 0, none⟩)] w fun x w' => x = .returned (.tuple #[.slice none 0 0, .int .i64 (s.e : Int)]) ∧ Below w.heap.size w w' := by
  have c2 := h.c2
  have hz : (((s.e : Nat) : Int) == 0) = false := by simp; omega
  have hz2 : (((s.e : Nat) : Int) != 0) = true := by simp; omega
  clear h he
  go_enter Try.func24, Try.ntmps24
  go_wp2
  go_region
  all_goals go_wp2
  all_goals go_ret2
  all_goals exact ⟨rfl, (Below.refl _ _).drew⟩

def clamp (m : Int) : Nat := (min (max m 0) 16777216).toNat
theorem clamp_ok (m : Int) : (⟨clamp m, [], 0⟩ : WS).ok := ⟨by show (min (max m 0) 16777216).toNat ≤ _; omega, Nat.zero_le _, by simp⟩
theorem newWt (T : TypeId) (w : World) (m x : Int) (hx : x = clamp m) : Wt T (w.alloc (.cells #[.int .i64 x, .slice none 0 0, .int .i64 0] T)) w.heap.size none 0 ⟨clamp m, [], 0⟩ :=
  ⟨by subst hx; exact heap_alloc_new _ _, Rw.nil _, clamp_ok m⟩
set_option maxHeartbeats 800000 in
theorem NewWriter_any (w : World) (m : Int) :
    Calls Try.prog 7 #[.int .i64 m] w fun x w' => x = .returned (.pointer (some ⟨w.heap.size, 0, none⟩)) ∧ Wt 68 w' w.heap.size none 0 ⟨clamp m, [], 0⟩ ∧ Below w.heap.size w w' := by
  go_enter Try.func7, Try.ntmps7
  go_wp2
  all_goals go_ret
  all_goals exact ⟨rfl, newWt _ _ _ _ (by unfold clamp; omega), (Below.refl _ _).alloc (Nat.le_refl _) _⟩
set_option maxHeartbeats 800000 in
theorem rNewWriter_any (w : World) (m : Int) :
    Calls Try.prog 8 #[.int .i64 m] w fun x w' => x = .returned (.pointer (some ⟨w.heap.size, 0, none⟩)) ∧ Wt 65 w' w.heap.size none 0 ⟨clamp m, [], 0⟩ ∧ Below w.heap.size w w' := by
  go_enter Try.func8, Try.ntmps8
  go_wp2
  all_goals go_ret
  all_goals exact ⟨rfl, newWt _ _ _ _ (by unfold clamp; omega), (Below.refl _ _).alloc (Nat.le_refl _) _⟩

end Go.Proofs.Ytlkjpljfbmploaa
