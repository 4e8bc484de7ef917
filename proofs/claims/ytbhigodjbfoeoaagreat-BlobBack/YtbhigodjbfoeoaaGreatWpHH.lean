import Derived.Test.YtbhigodjbfoeoaaGreatWpHXA
import Derived.Test.YtbhigodjbfoeoaaGreatWpGXD
namespace Go.Proofs.YtbhigodjbfoeoaaGreat
set_option linter.unusedVariables false
set_option linter.unusedSimpArgs false
open Go.RowKit
/-- what was begun is undone -/
theorem vUndo_st (w : World) (b : Nat) (S : Vs) (pb mb : Nat) (pc col : Nat → Nat) (h : Vw w b S pb mb pc col) (S0 : Vs) (hv : Ve S0.X S.X) (hfn : Fine S0.X.f) (hfl : S.fl = S0.fl) (hal : S = S0 ∨ ∃ A, S.al = S0.al ++ (S0.X.P.mark, S0.X.ch.length) :: A) (hm : S.fl + S.al.length ≤ 9223372036854775807) (hk : S.X.P.mark ≤ 9223372036854775807) :
    Calls Tryz.prog 90 #[.pointer (some ⟨b, 0, none⟩), .int .i64 ((S0.fl + S0.al.length : Nat) : Int)] w fun x w' => x = .returned (.bool true) ∧ ∃ pc' col', Vw w' b S0 pb mb pc' col' ∧ Vf w col w' col' := by
  obtain ⟨ac, cc, aa, ca, hq⟩ := h
  rcases hal with rfl | ⟨A, hA⟩
  · exact (vUndo_same w b _ _ _ pc col hq hm).mono fun _ _ ⟨e, hb⟩ => ⟨e, pc, col, ⟨ac, cc, aa, ca, hq.keep hb⟩, Vf.keep hb⟩
  · have ht : S0.al.length < S.al.length := by rw [hA, List.length_append, List.length_cons]; omega
    have hg : S.al.getD S0.al.length (0, 0) = (S0.X.P.mark, S0.X.ch.length) := by rw [hA]; simp
    have hbk := hv.back hfn
    unfold Vm.back at hbk
    have e1 : S.X.P.undo ((S0.X.P.mark : Nat) : Int) = S0.X.P := congrArg Vm.P hbk
    have e2 : unl S.X.f (S.X.ch.drop S0.X.ch.length) = S0.X.f := congrArg Vm.f hbk
    have e3 : S.X.ch.take S0.X.ch.length = S0.X.ch := congrArg Vm.ch hbk
    have e4 : S.al.take S0.al.length = S0.al := by rw [hA, List.take_left' rfl]
    have U := vUndo_yes w b _ _ _ pc col hq S0.al.length hm ht (by show (S.al.getD S0.al.length (0, 0)).2 ≤ S.X.ch.length; rw [hg]; exact hv.ch) hk
    rw [hfl] at U
    refine U.mono fun _ w' ⟨e, pc', col', hq', hf⟩ => ⟨e, pc', col', ⟨ac, cc, aa, ca, ?_⟩, hf⟩
    have hq2 : Vq w' b (S.X.P.undo (((S.al.getD S0.al.length (0, 0)).1 : Nat) : Int)) S0.fl ⟨pb, mb, unl S.X.f (S.X.ch.drop (S.al.getD S0.al.length (0, 0)).2), ac, cc, S.X.ch.take (S.al.getD S0.al.length (0, 0)).2, aa, ca, S.al.take S0.al.length⟩ pc' col' := hq'
    rw [hg, e4] at hq2
    simp only at hq2
    rw [e1, e2, e3] at hq2
    exact hq2
set_option maxHeartbeats 4000000 in
theorem spreadC_undo (w : World) (b : Nat) (S : Vs) (pb mb : Nat) (pc col : Nat → Nat) (h : Vw w b S pb mb pc col) (S0 : Vs) (hv : Ve S0.X S.X) (hfn : Fine S0.X.f) (hfl : S.fl = S0.fl) (hal : S = S0 ∨ ∃ A, S.al = S0.al ++ (S0.X.P.mark, S0.X.ch.length) :: A) (hm : S.fl + S.al.length ≤ 9223372036854775807) (hk : S.X.P.mark ≤ 9223372036854775807) (e : Int) (he : e ≠ 0) (pe pv pg : Addr) (h1 : w.cell? pe = some (.int .i64 e)) (h2 : w.cell? pv = some (.pointer (some ⟨b, 0, none⟩))) (h3 : w.cell? pg = some (.int .i64 ((S0.fl + S0.al.length : Nat) : Int))) :
    CallsD Tryz.prog 89 #[.pointer (some pe), .pointer (some pv), .pointer (some pg)] .returning w fun x u' w' => u' = .returning ∧ (x = .returned (.tuple #[]) ∧ ∃ pc' col', Vw w' b S0 pb mb pc' col' ∧ Vf w col w' col') := by
  have UN := hide (vUndo_st w b S pb mb pc col h S0 hv hfn hfl hal hm hk)
  clear h hv hfn hfl hal hm hk
  generalize ((S0.fl + S0.al.length : Nat) : Int) = z at *
  have hne : (e != 0) = true := by simpa using he
  go_enter_d Tryz.func89, Tryz.ntmps89
  go_wp2_with fail
  refine UN.out.mono ?_
  rintro _ w2 ⟨rfl, pc', col', hV, hF⟩
  go_wp2_with fail
  go_end0
  exact ⟨rfl, pc', col', hV, hF⟩
end Go.Proofs.YtbhigodjbfoeoaaGreat
