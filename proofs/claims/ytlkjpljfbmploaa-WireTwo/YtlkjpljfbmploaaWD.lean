import Derived.Test.YtlkjpljfbmploaaWC
import Derived.Test.YtlkjpljfbmploaaWZ
namespace Go.Proofs.Ytlkjpljfbmploaa
open Go.RowKit

theorem Did.step {T : TypeId} {w w1 w2 : World} {b : Nat} {a a1 : Option Addr} {cap1 : Nat} {s1 s2 : WS} (h : Wt T w1 b a1 cap1 s1 ∧ New w a a1 ∧ But (Ft b a) w w1) (k : Did T w1 w2 b a1 s2) : Did T w w2 b a s2 := by
  obtain ⟨h1, h2, h3⟩ := h
  obtain ⟨a2, cap2, k1, k2, k3⟩ := k
  refine ⟨a2, cap2, k1, h2.trans k2 h3.size, h3.trans k3 ?_⟩
  rintro x hx (rfl | ⟨y, hy, e⟩)
  · exact .inl rfl
  · rcases h2 y hy with ⟨z, hz, e2⟩ | h4
    · exact .inr ⟨z, hz, e2.trans e⟩
    · omega

set_option maxHeartbeats 800000 in
theorem Short_any (w : World) (b : Nat) (a : Option Addr) (cap : Nat) (s : WS) (aa : Option Addr) (n capa : Nat) (p : List Nat) (h : Wt 68 w b a cap s) (hB : Bs w aa p) (hn : n = p.length) (hsep : ∀ x, aa = some x → p ≠ [] → ¬ Ft b a x.block) :
    Calls Try.prog 39 #[.pointer (some ⟨b, 0, none⟩), .slice aa n capa] w fun x w' => x = .returned (.tuple #[]) ∧ Did 68 w w' b a (s.short p) := by
  subst hn
  have hm := h.2.2.1
  have H := hide h
  have HB := hide hB
  have HM := hide hm
  have HL := hide hB.2.1
  have HS := hide hsep
  clear h hB hm hsep
  by_cases h255 : 255 < p.length
  · have hi : (255 : Int) < (p.length : Int) := by omega
    by_cases he : s.e = 0
    · rw [show s.short p = s.err 3 by unfold WS.short; rw [if_neg (by omega), if_pos h255]]
      have HE := hide he
      clear he h255
      go_enter Try.func39, Try.ntmps39
      go_wp2_with fail
      refine (fail_ok _ b a cap s 3 H.out HE.out).mono ?_
      rintro e w1 ⟨rfl, h1, hb1⟩
      have H1 := hide h1
      clear h1
      go_wp2
      refine bodyPost_ret (results_none rfl _ _ _) rfl ?_
      exact ⟨rfl, Did.same H1.out (hb1.toFt a)⟩
    · rw [show s.short p = s by unfold WS.short; rw [if_pos he]]
      have HE := hide he
      clear he h255
      go_enter Try.func39, Try.ntmps39
      go_wp2_with fail
      refine (fail_err _ b a cap s 3 H.out HE.out).mono ?_
      rintro e w1 ⟨rfl, rfl⟩
      go_wp2
      refine bodyPost_ret (results_none rfl _ _ _) rfl ?_
      exact ⟨rfl, Did.same H.out (But.refl _ _)⟩
  · have hi : ¬ (255 : Int) < (p.length : Int) := by omega
    have hadd : IntKind.i64.wrap (1 + (p.length : Int)) = 1 + (p.length : Int) := wrapI (by omega) (by omega)
    have hw8 : IntKind.u8.wrap (p.length : Int) = ((p.length : Nat) : Int) := by rw [IntKind.wrap_u8']; omega
    have H255 := hide h255
    clear h255
    by_cases he : s.e = 0
    · have HE := hide he
      rw [show s.short p = s.put (p.length :: p) by unfold WS.short; rw [if_neg (by omega), if_neg H255.out]]
      by_cases hf : s.l.length + (p.length :: p).length ≤ s.most
      · rw [WS.put_fits he hf]
        have HF := hide hf
        clear hf he
        go_enter Try.func39, Try.ntmps39
        go_wp2_with fail
        refine (takes_yes _ b a cap s _ H.out HE.out (by have := HF.out; rw [List.length_cons] at this; omega)).mono ?_
        rintro e w1 ⟨rfl, hb1⟩
        have H1 := hide (H.out.keep hb1)
        have HB1 := hide (HB.out.keep hb1)
        have c1 := H1.out.c1
        have hlt := H1.out.lt
        go_wp2_with (at_builtin; refine wpList_ap1 rfl _ _ rfl a s.l.length cap s.l rfl rfl (H1.out.2.1.keep ((Below.refl _ _).alloc (Nat.le_refl _) _)) ⟨w1.heap.size, 0, none⟩ 1 p.length rfl ?c1 (by have := HF.out; have := HM.out; rw [List.length_cons] at *; omega) ?_)
        try case c1 => simp
        intro g cap' w2 hR hN hg _
        obtain ⟨d1, e1, G⟩ := (H1.out.alloc _).after (n := s.l.length + 1) (by decide) hR hN hg (by intro x hx; simp at hx; subst hx; have := H255.out; omega) (by have := HF.out; simp at this ⊢; omega) HE.out rfl
        have HB2 := hide (((HB1.out.keep ((Below.refl _ _).alloc (Nat.le_refl _) _))).but G.out.2.2 HS.out)
        clear hR hN hg c1
        go_wp2_with (at_builtin; refine wpList_apB rfl _ _ rfl (some ⟨g, 0, none⟩) (s.l.length + 1) cap' (s.l ++ [p.length]) rfl (by simp) G.out.1.2.1 aa p.length capa p rfl rfl HB2.out (by have := HF.out; have := HM.out; simp at *; omega) ?_)
        intro a3 cap3 w3 hR3 hN3 hg3 _
        have hR3 : Rw w3 a3 cap3 ((s.l ++ [p.length]) ++ p) := by simpa using hR3
        obtain ⟨d3, e3, G3⟩ := G.out.1.after (n := s.l.length + 1 + p.length) (by decide) hR3 hN3 hg3 HB.out.1 (by have := HF.out; simp at this ⊢; omega) rfl (by simp)
        clear hR3 hN3 hg3 d1 e1
        go_wp2
        go_end0
        refine ⟨rfl, Did.pre (hb1.alloc hb1.size _) (Did.step G.out ⟨a3, cap3, ?_⟩)⟩
        have h := G3.out
        simp only [List.append_assoc, List.cons_append, List.nil_append] at h
        exact h
      · rw [WS.put_many he (by omega)]
        have HF := hide hf
        clear hf he
        go_enter Try.func39, Try.ntmps39
        go_wp2_with fail
        refine (takes_no _ b a cap s _ H.out HE.out (by have := HF.out; rw [List.length_cons] at this; omega)).mono ?_
        rintro e w1 ⟨rfl, h1, hb1⟩
        have H1 := hide h1
        clear h1
        go_wp2
        go_end0
        exact ⟨rfl, Did.same H1.out (hb1.toFt a)⟩
    · rw [show s.short p = s by unfold WS.short; rw [if_pos he]]
      have HE := hide he
      clear he
      go_enter Try.func39, Try.ntmps39
      go_wp2_with fail
      refine (takes_err _ b a cap s _ H.out HE.out).mono ?_
      rintro e w1 ⟨rfl, hb1⟩
      go_wp2
      go_end0
      exact ⟨rfl, Did.same (H.out.keep hb1) (But.ofBelow hb1)⟩
end Go.Proofs.Ytlkjpljfbmploaa
