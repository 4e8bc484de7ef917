import Derived.Test.YtcdigmhlpeeogaaUK
namespace Go.Proofs.Ytcdigmhlpeeogaa
open Go.RowKit

set_option maxHeartbeats 2000000 in
set_option maxRecDepth 20000 in
theorem Replace_none (w : World) (a : Option Addr) (cap : Nat) (A B : List Rn) (hR : Vw w a cap (A ++ B)) (av : Option Addr) (cv : Nat) (V : List Rn) (hV : Vw w av cv V) (hne : ∀ x y, a = some x → av = some y → x.block ≠ y.block) (hl : A.length + B.length + V.length ≤ 8589934592) :
    Calls Try.prog 24 #[.slice a ((A.length + B.length : Nat)) cap, .int .i64 ((A.length : Nat) : Int), .int .i64 ((A.length : Nat) : Int), .slice av V.length cv] w fun e w' =>
      ∃ a' cap', e = .returned (.slice a' ((A.length + V.length + B.length : Nat)) cap') ∧ Vw w' a' cap' (A ++ V ++ B) ∧ New w a a' ∧ But (InA a) w w' := by
  have hcl := hR.len
  rw [List.length_append] at hcl
  unfold maxLen at hcl
  obtain ⟨hc1, hc2⟩ := hcl
  have C := hide (Insert_any w a cap A B hR av cv V hV hne hl)
  obtain ⟨nS, hS⟩ : ∃ m : Nat, m = A.length + B.length := ⟨_, rfl⟩
  have l1 : A.length ≤ nS := by omega
  have l2 : A.length ≤ cap := by omega
  rw [← hS] at C ⊢
  generalize A.length + V.length + B.length = nT at *
  generalize A.length = nA at *
  generalize V.length = nV at *
  clear hS hl hR hV hc1 hne
  by_cases hcz : cap = nA
  · subst hcz
    go_enter Try.func24, Try.ntmps24
    go_wp2_with fail
    refine C.out.mono ?_
    rintro e w1 ⟨a', cap', rfl, h1, h2, h3⟩
    go_wp2
    go_ret
    exact ⟨a', cap', rfl, h1, h2, h3⟩
  · skip
    go_enter Try.func24, Try.ntmps24
    go_wp2_with fail
    refine C.out.mono ?_
    rintro e w1 ⟨a', cap', rfl, h1, h2, h3⟩
    go_wp2
    go_ret
    exact ⟨a', cap', rfl, h1, h2, h3⟩
end Go.Proofs.Ytcdigmhlpeeogaa
