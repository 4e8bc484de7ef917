import Derived.Test.YtifhkfghjifecaaPRX
import Derived.Test.YtifhkfghjifecaaNK
namespace Go.Proofs.Ytifhkfghjifecaa
open Go.RowKit

/-! ### a reader whose memory lies below v -/
structure Rk (v w : World) (b : Nat) (s : RS) : Prop where
  r : ∃ a cap, Rd w b a cap s ∧ ∀ k, Ft b a k → k < v.heap.size
  u : But (fun k => k = b) v w
section
variable {v w w' : World} {b : Nat} {s s' : RS}
theorem Rk.did {a : Option Addr} (h : Rk v w b s) (ha : ∀ k, Ft b a k → k < v.heap.size) (hd : DidR w w' b a s') : Rk v w' b s' ∧ But (fun k => k = b) w w' := by
  obtain ⟨a', cap', h1, h2, h3⟩ := hd
  refine ⟨⟨⟨a', cap', h1, ?_⟩, h.u.trans h3 fun _ _ h => h⟩, h3⟩
  rintro k (rfl | ⟨x, hx, rfl⟩)
  · exact ha k (.inl rfl)
  · obtain ⟨y, hy, e⟩ := h2 x hx
    rw [← e]; exact ha _ (.inr ⟨y, hy, rfl⟩)
theorem Rk.but {S : Nat → Prop} (h : Rk v w b s) (hb : But S w w') (hS : ∀ k, S k → v.heap.size ≤ k) : Rk v w' b s := by
  obtain ⟨a, cap, h1, h2⟩ := h.r
  exact ⟨⟨a, cap, h1.but hb fun k hk hs => by have := h2 k hk; have := hS k hs; omega, h2⟩, h.u.trans hb fun x hx hs => by have := hS x hs; omega⟩
theorem Rk.keep (h : Rk v w b s) (hb : Below w.heap.size w w') : Rk v w' b s := h.but (S := fun _ => False) (But.ofBelow hb) fun _ h => h.elim
theorem Rk.b8 (h : Rk v w b s) : B8 s.l := by
  obtain ⟨a, cap, h1, h2⟩ := h.r
  exact h1.2.1.1
theorem Rk.blt (h : Rk v w b s) : b < v.heap.size := by
  obtain ⟨a, cap, h1, h2⟩ := h.r
  exact h2 b (.inl rfl)
theorem Rk.type (h : Rk v w b s) : ∃ cs, w.heap[b]? = some (.cells cs 76 (0, 0)) := by
  obtain ⟨a, cap, h1, h2⟩ := h.r
  exact ⟨_, h1.1⟩
theorem Rk.ne (h : Rk v w b s) {a : Option Addr} {c : Nat} {l : List Nat} (hr : Rw w a c l) {x : Addr} (hx : a = some x) : x.block ≠ b := by
  intro e
  obtain ⟨cs, ht⟩ := h.type
  rcases hr.cases with ⟨rfl, _⟩ | ⟨g, cur, rfl, hg, _⟩
  · cases hx
  · cases hx
    dsimp only at e
    subst e
    rw [hg] at ht
    simp only [Option.some.injEq, Obj.cells.injEq] at ht
    exact absurd ht.2.1 (by decide)
theorem kZeros (h : Rk v w b s) : Calls Try.prog 14 #[.pointer (some ⟨b, 0, none⟩)] w fun e w' => e = .returned (.tuple #[]) ∧ Rk v w' b s.zeros ∧ But (fun k => k = b) w w' := by
  obtain ⟨a, cap, h1, h2⟩ := h.r
  refine (Zeros_any w b a cap s h1).mono ?_
  rintro e w' ⟨rfl, k3⟩
  obtain ⟨k4, k5⟩ := h.did h2 k3
  exact ⟨rfl, k4, k5⟩
theorem kEnd (h : Rk v w b s) : Calls Try.prog 16 #[.pointer (some ⟨b, 0, none⟩)] w fun e w' => e = .returned (.int .i64 (s.fin : Int)) ∧ w' = w := by
  obtain ⟨a, cap, h1, h2⟩ := h.r
  exact End_any w b a cap s h1
theorem kGet8 (h : Rk v w b s) : Calls Try.prog 32 #[.pointer (some ⟨b, 0, none⟩)] w fun e w' => e = .returned (.int .u8 ((s.get 1).1 : Int)) ∧ Rk v w' b (s.get 1).2 ∧ But (fun k => k = b) w w' := by
  obtain ⟨a, cap, h1, h2⟩ := h.r
  by_cases hf : s.fail (1 : Nat) = 0
  · obtain ⟨he, _, hl⟩ := RS.fail_zero hf
    refine (Get8_ok w b a cap s h1 he (by omega)).mono ?_
    rintro e w' ⟨rfl, k3⟩
    obtain ⟨k4, k5⟩ := h.did h2 k3
    have e1 : s.get 1 = (numV (s.l.take 1), ⟨s.l.drop 1, 0⟩) := by unfold RS.get; rw [if_neg (by rw [hf]; simp)]
    rw [e1]
    rw [he] at k4
    exact ⟨rfl, k4, k5⟩
  · refine (Get8_pan w b a cap s h1 hf).mono ?_
    rintro e w' ⟨rfl, k3⟩
    obtain ⟨k4, k5⟩ := h.did h2 k3
    have e1 : s.get 1 = (0, ⟨s.l, s.fail (1 : Nat)⟩) := by unfold RS.get; rw [if_pos hf]
    rw [e1]
    exact ⟨rfl, k4, k5⟩
theorem kGet32 (h : Rk v w b s) : Calls Try.prog 28 #[.pointer (some ⟨b, 0, none⟩)] w fun e w' => e = .returned (.int .u32 ((s.get 4).1 : Int)) ∧ Rk v w' b (s.get 4).2 ∧ But (fun k => k = b) w w' := by
  obtain ⟨a, cap, h1, h2⟩ := h.r
  by_cases hf : s.fail (4 : Nat) = 0
  · obtain ⟨he, _, hl⟩ := RS.fail_zero hf
    refine (Get32_ok w b a cap s h1 he (by omega)).mono ?_
    rintro e w' ⟨rfl, k3⟩
    obtain ⟨k4, k5⟩ := h.did h2 k3
    have e1 : s.get 4 = (numV (s.l.take 4), ⟨s.l.drop 4, 0⟩) := by unfold RS.get; rw [if_neg (by rw [hf]; simp)]
    rw [e1]
    rw [he] at k4
    exact ⟨rfl, k4, k5⟩
  · refine (Get32_pan w b a cap s h1 hf).mono ?_
    rintro e w' ⟨rfl, k3⟩
    obtain ⟨k4, k5⟩ := h.did h2 k3
    have e1 : s.get 4 = (0, ⟨s.l, s.fail (4 : Nat)⟩) := by unfold RS.get; rw [if_pos hf]
    rw [e1]
    exact ⟨rfl, k4, k5⟩
theorem kGet64 (h : Rk v w b s) : Calls Try.prog 31 #[.pointer (some ⟨b, 0, none⟩)] w fun e w' => e = .returned (.int .u64 ((s.get 8).1 : Int)) ∧ Rk v w' b (s.get 8).2 ∧ But (fun k => k = b) w w' := by
  obtain ⟨a, cap, h1, h2⟩ := h.r
  by_cases hf : s.fail (8 : Nat) = 0
  · obtain ⟨he, _, hl⟩ := RS.fail_zero hf
    refine (Get64_ok w b a cap s h1 he (by omega)).mono ?_
    rintro e w' ⟨rfl, k3⟩
    obtain ⟨k4, k5⟩ := h.did h2 k3
    have e1 : s.get 8 = (numV (s.l.take 8), ⟨s.l.drop 8, 0⟩) := by unfold RS.get; rw [if_neg (by rw [hf]; simp)]
    rw [e1]
    rw [he] at k4
    exact ⟨rfl, k4, k5⟩
  · refine (Get64_pan w b a cap s h1 hf).mono ?_
    rintro e w' ⟨rfl, k3⟩
    obtain ⟨k4, k5⟩ := h.did h2 k3
    have e1 : s.get 8 = (0, ⟨s.l, s.fail (8 : Nat)⟩) := by unfold RS.get; rw [if_pos hf]
    rw [e1]
    exact ⟨rfl, k4, k5⟩
end
theorem kNew (w : World) (aa : Option Addr) (n capa : Nat) (p : List Nat) (hB : Bs w aa p) (hn : n = p.length) (hlen : p.length ≤ 140737488355328) (h0 : p ≠ []) : Calls Try.prog 29 #[.slice aa n capa] w fun e w' => ∃ b, e = .returned (.pointer (some ⟨b, 0, none⟩)) ∧ Rk w' w' b ⟨p, 0⟩ ∧ w.heap.size ≤ b ∧ Below w.heap.size w w' := by
  refine (NewReader_any w aa n capa p hB hn hlen).mono ?_
  rintro e w' ⟨b, a, cap, rfl, h1, h2, h3, h4⟩
  refine ⟨b, rfl, ⟨⟨a, cap, h1, ?_⟩, But.refl _ _⟩, h2, h4⟩
  rintro k (rfl | ⟨x, hx, rfl⟩)
  · exact h1.lt
  · exact h1.2.1.lt hx h0
end Go.Proofs.Ytifhkfghjifecaa
