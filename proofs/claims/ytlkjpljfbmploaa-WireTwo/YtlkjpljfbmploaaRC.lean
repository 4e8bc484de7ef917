import Derived.Test.YtlkjpljfbmploaaRB
namespace Go.Proofs.Ytlkjpljfbmploaa
open Go.RowKit

set_option maxHeartbeats 1600000 in
theorem RShort_ok (w : World) (b : Nat) (a : Option Addr) (cap : Nat) (s : RS) (most : Int) (n : Nat) (h : Rd w b a cap s) (he : s.e = 0) (hhd : s.l.headD 0 = n) (hm : (n : Int) ≤ most) (hl : 1 + n ≤ s.l.length) (hn : n < 256) :
    Calls Try.prog 53 #[.pointer (some ⟨b, 0, none⟩), .int .i64 most] w fun x w' => ∃ a' cap', x = .returned (.slice a' n cap') ∧ Rw w' a' cap' ((s.l.drop 1).take n) ∧ New w none a' ∧ DidR w w' b a ⟨s.l.drop (1 + n), s.e⟩ := by
  have hmf := mkf
  have hb0 : Below w.heap.size w (w.alloc (.cells #[.pointer (some ⟨b, 0, none⟩)] 40)) := (Below.refl _ _).alloc (Nat.le_refl _) _
  have HLT := hide h.lt
  have H := hide (h.keep hb0)
  have HB0 := hide hb0
  have hpos : 0 < s.l.length := by omega
  have A := hide (ahead_ok _ b a cap s 1 H.out he hpos)
  have A2 := hide (ahead_ok _ b a cap s (1 + n) H.out he hl)
  obtain ⟨g, off, rfl, hc⟩ : ∃ g off, a = some ⟨g, off, none⟩ ∧ (w.alloc (.cells #[.pointer (some ⟨b, 0, none⟩)] 40)).cell? ⟨g, off, none⟩ = some (.int .u8 (n : Int)) := by
    rcases H.out.2.1.2.2 with h0 | ⟨g, off, rfl, hc⟩
    · rw [h0] at hpos; simp at hpos
    · refine ⟨g, off, rfl, ?_⟩
      have := hc 0 hpos
      rw [Nat.add_zero] at this
      rw [this, ← hhd]
      cases hl : s.l with
      | nil => rw [hl] at hpos; simp at hpos
      | cons x r => rfl
  have hlenk : ((s.l.drop 1).take n).length = n := by rw [List.length_take, List.length_drop]; omega
  have hcl := h.2.2.1
  have hcm := h.2.2.2.1
  unfold maxLen at hcm
  have hw64 : IntKind.i64.wrap (n : Int) = (n : Int) := wrapI (by omega) (by omega)
  have hadd : IntKind.i64.wrap (1 + (n : Int)) = ((1 + n : Nat) : Int) := by rw [wrapI (by omega) (by omega)]; omega
  have hI0 : ¬ most < (n : Int) := by omega
  have hI1 : (1 : Int) ≤ ((1 + n : Nat) : Int) := by omega
  have hI2 : ((1 + n : Nat) : Int) ≤ (cap : Int) := by omega
  have hI3 : (cap : Int) ≤ 9223372036854775807 := by omega
  have hsub : 1 + n - 1 = n := by omega
  have HK := hide hl
  have C : ∀ cap2, Hid (Calls Try.prog 44 #[.slice (if cap = 1 then some ⟨g, off, none⟩ else some ⟨g, off + 1, none⟩) n cap2] (w.alloc (.cells #[.pointer (some ⟨b, 0, none⟩)] 40)) fun x w' => ∃ a' cap', x = .returned (.slice a' n cap') ∧ Rw w' a' cap' ((s.l.drop 1).take n) ∧ New (w.alloc (.cells #[.pointer (some ⟨b, 0, none⟩)] 40)) none a' ∧ Below (w.alloc (.cells #[.pointer (some ⟨b, 0, none⟩)] 40)).heap.size (w.alloc (.cells #[.pointer (some ⟨b, 0, none⟩)] 40)) w') := by
    intro cap2
    refine hide (Clone_any _ _ n cap2 ((s.l.drop 1).take n) ?_ hlenk.symm (by rw [hlenk]; omega))
    by_cases hc1 : cap = 1
    · rw [if_pos hc1]
      have hn0 : n = 0 := by omega
      subst hn0
      rw [List.take_zero]
      exact Bs.empty _ _
    · rw [if_neg hc1]
      exact (H.out.2.1.drop 1).take n
  clear h he hhd hm hl hpos hlenk hb0 hcl hcm
  go_enter_defers Try.func53, Try.ntmps53
  go_wp2_with (first | (go_at_call_of 62 (Value.int IntKind.i64 1); refine A.out.mono ?_; rintro e w1 ⟨rfl, hw1⟩; subst w1) | (go_at_call 62; refine A2.out.mono ?_; rintro e w1 ⟨rfl, hw1⟩; subst w1))
  all_goals (
    first
    | (have C1 := (C 0).out; rw [if_pos (by assumption)] at C1; refine C1.mono ?_)
    | (have C1 := (C (cap - 1)).out; rw [if_neg (by assumption)] at C1; refine C1.mono ?_)
    clear C
    rintro e w2 ⟨a', cap', rfl, hR, hN, hb⟩
    have hp : w2.cell? ⟨w.heap.size, 0, none⟩ = some (.pointer (some ⟨b, 0, none⟩)) := by
      rw [hb.cell (p := ⟨w.heap.size, 0, none⟩) (by rw [size_alloc]; exact Nat.lt_succ_self _)]; simp
    have PS := hide (pass_any w2 b (some ⟨g, off, none⟩) cap s (1 + n) (H.out.keep hb) HK.out)
    have HR := hide hR
    have HNW := hide hN
    have HBB := hide hb
    clear hR hN hb
    go_wp2_with fail
    refine PS.out.mono ?_
    rintro e w3 ⟨rfl, h3⟩
    have H3 := hide h3
    clear h3
    go_wp2
    refine leaves_cons (f := 78) (args := #[.pointer (some ⟨w.heap.size, 0, none⟩)]) (by simp) (by simp [go_sem]) ?_
    refine (catch_idle_pRShortC _ ⟨w.heap.size, 0, none⟩).mono ?_
    rintro e u' w'' ⟨rfl, rfl, rfl⟩
    have hNN : New w none a' := HNW.out.mono (by rw [size_alloc]; omega)
    have G1 := HR.out.didR hNN HLT.out H3.out
    have G2 := DidR.pre (bt HB0.out HBB.out) H3.out
    simp only [Leaves, settle]
    exact ⟨_, results_tmp rfl _ _ _, a', cap', rfl, G1, hNN, G2⟩)

theorem RShort_any (w : World) (b : Nat) (a : Option Addr) (cap : Nat) (s : RS) (most : Int) (h : Rd w b a cap s) :
    Calls Try.prog 53 #[.pointer (some ⟨b, 0, none⟩), .int .i64 most] w fun x w' => ∃ a' cap', x = .returned (.slice a' (s.short most).1.length cap') ∧ Rw w' a' cap' (s.short most).1 ∧ New w none a' ∧ DidR w w' b a (s.short most).2 := by
  by_cases hf : s.shortE most ≠ 0
  · refine (RShort_pan w b a cap s most h hf).mono ?_
    rintro e w1 ⟨rfl, h1⟩
    unfold RS.short
    rw [if_pos hf]
    exact ⟨none, 0, rfl, Rw.nil _, New.none _ _, h1⟩
  · have h0 : s.shortE most = 0 := by omega
    unfold RS.shortE at h0
    by_cases h1 : s.fail 1 ≠ 0
    · rw [if_pos h1] at h0; exact absurd h0 h1
    · rw [if_neg h1] at h0
      by_cases hm : most < ((s.l.headD 0 : Nat) : Int)
      · rw [if_pos hm] at h0; cases h0
      · rw [if_neg hm] at h0
        obtain ⟨he, _, hl⟩ := RS.fail_zero h0
        have hhd : s.l.headD 0 < 256 := by
          cases hl' : s.l with
          | nil => simp
          | cons x r => exact h.2.1.1 x (by rw [hl']; simp)
        have hlen : ((s.l.drop 1).take (s.l.headD 0)).length = s.l.headD 0 := by rw [List.length_take, List.length_drop]; omega
        unfold RS.short
        rw [if_neg hf]
        dsimp only
        rw [hlen]
        have R := RShort_ok w b a cap s most (s.l.headD 0) h he rfl (by omega) (by omega) hhd
        rw [he] at R
        exact R

theorem Left_any (w : World) (b : Nat) (a : Option Addr) (cap : Nat) (s : RS) (h : Rd w b a cap s) :
    Calls Try.prog 29 #[.pointer (some ⟨b, 0, none⟩)] w fun x w' => x = .returned (.int .i64 (s.l.length : Int)) ∧ w' = w := by
  have c0 := h.c0
  clear h
  go_enter Try.func29, Try.ntmps29
  go_wp2
  go_ret
  exact ⟨rfl, rfl⟩
theorem Err_any (w : World) (b : Nat) (a : Option Addr) (cap : Nat) (s : RS) (h : Rd w b a cap s) :
    Calls Try.prog 57 #[.pointer (some ⟨b, 0, none⟩)] w fun x w' => x = .returned (.int .i64 (s.e : Int)) ∧ w' = w := by
  have c1 := h.c1
  clear h
  go_enter Try.func57, Try.ntmps57
  go_wp2
  go_ret
  exact ⟨rfl, rfl⟩
def RS.fin (s : RS) : Nat := if s.e ≠ 0 then s.e else if s.l.length = 0 then 0 else 3
theorem End_any (w : World) (b : Nat) (a : Option Addr) (cap : Nat) (s : RS) (h : Rd w b a cap s) :
    Calls Try.prog 28 #[.pointer (some ⟨b, 0, none⟩)] w fun x w' => x = .returned (.int .i64 (s.fin : Int)) ∧ w' = w := by
  have c0 := h.c0
  have c1 := h.c1
  unfold RS.fin
  clear h
  by_cases he : s.e = 0
  · rw [he] at c1
    rw [if_neg (by omega)]
    clear he
    by_cases hl : s.l.length = 0
    · rw [if_pos hl]
      rw [hl] at c0
      clear hl
      go_enter Try.func28, Try.ntmps28
      go_wp2
      go_ret
      exact ⟨rfl, rfl⟩
    · rw [if_neg hl]
      have hp : (0 : Int) < (s.l.length : Int) := by omega
      clear hl
      go_enter Try.func28, Try.ntmps28
      go_wp2
      go_ret
      exact ⟨rfl, rfl⟩
  · rw [if_pos he]
    have hz : (((s.e : Nat) : Int) == 0) = false := by simp; omega
    clear he
    go_enter Try.func28, Try.ntmps28
    go_wp2
    go_ret
    exact ⟨rfl, rfl⟩

set_option maxHeartbeats 800000 in
theorem NewReader_any (w : World) (aa : Option Addr) (n capa : Nat) (p : List Nat) (hB : Bs w aa p) (hn : n = p.length) (hlen : p.length ≤ 140737488355328) :
    Calls Try.prog 12 #[.slice aa n capa] w fun x w' => ∃ b a cap, x = .returned (.pointer (some ⟨b, 0, none⟩)) ∧ Rd w' b a cap ⟨p, 0⟩ ∧ w.heap.size ≤ b ∧ New w none a ∧ Below w.heap.size w w' := by
  subst hn
  have C := hide (Clone_any w aa p.length capa p hB rfl hlen)
  have HB := hide hB
  clear hB
  go_enter Try.func12, Try.ntmps12
  go_wp2_with fail
  refine C.out.mono ?_
  rintro e w1 ⟨a', cap', rfl, hR, hN, hb⟩
  have HR := hide hR
  clear hR
  go_wp2
  go_ret
  have hR2 := HR.out.keep ((Below.refl _ w1).alloc (Nat.le_refl _) (.cells #[.slice a' p.length cap', .int .i64 0] 78))
  refine ⟨w1.heap.size, a', cap', rfl, ⟨heap_alloc_new _ _, hR2.bs HB.out.1 HB.out.2.1, ?_, ?_, hlen, ?_, ?_⟩, hb.size, hN, hb.alloc hb.size _⟩
  · rcases HR.out.cases with ⟨rfl, rfl, rfl⟩ | ⟨g, cur, rfl, hg, h1, h2, h3, h4⟩
    · exact Nat.le_refl _
    · exact h1
  · rcases HR.out.cases with ⟨rfl, rfl, rfl⟩ | ⟨g, cur, rfl, hg, h1, h2, h3, h4⟩
    · exact Nat.zero_le _
    · exact h2
  · intro h
    rcases HR.out.cases with ⟨_, rfl, _⟩ | ⟨g, cur, rfl, hg, h1, h2, h3, h4⟩
    · rfl
    · cases h
  · intro x hx
    have hlt := HR.out.lt hx
    rcases HR.out.cases with ⟨rfl, _, _⟩ | ⟨g, cur, rfl, hg, h1, h2, h3, h4⟩
    · cases hx
    · simp only [Option.some.injEq] at hx
      subst hx
      exact ⟨rfl, by show g ≠ _; have : g < w1.heap.size := hlt; omega⟩
end Go.Proofs.Ytlkjpljfbmploaa
