import Derived.Test.YticcpkdhfdefpaaNF
import Derived.Stop.BytesEq
namespace Go.Proofs.Yticcpkdhfdefpaa
open Go.RowKit

theorem bank_eqL {gen : Int} {C : List Int} (h : enE gen C = 0) : enL gen C = bank gen.toNat (nats C) := by unfold enL; rw [if_pos h]
theorem none_eqL {gen : Int} {C : List Int} (h : enE gen C ≠ 0) : enL gen C = [] := by unfold enL; rw [if_neg h]
theorem bank_one {gen : Nat} {cs : List Nat} : ∀ b ∈ bank gen cs, b.length = 512 ∧ B8 b := by
  intro b hb
  obtain ⟨i, _, rfl⟩ := List.mem_map.1 hb
  refine ⟨bbk_length ?_, bbk_b8 _ _ _ _⟩
  rw [chunk_length]; exact cin_le _ _
/-- what Encode answers -/
def EnQ (w : World) (gen : Int) (C : List Int) (y : Ending) (w' : World) : Prop := ∃ a c T, y = .returned (.tuple #[.slice a T.length c, .int .i64 (enE gen C : Int)]) ∧ T.map Br.l = enL gen C ∧ Lb w w' a c T
theorem enQ_err {w w' : World} {gen : Int} {C : List Int} (h : enE gen C ≠ 0) (hb : Below w.heap.size w w') : EnQ w gen C (.returned (.tuple #[.slice none 0 0, .int .i64 (enE gen C : Int)])) w' :=
  ⟨none, 0, [], rfl, by rw [none_eqL h]; rfl, Lb.nil w hb⟩
set_option maxRecDepth 8000 in
set_option maxHeartbeats 3200000 in
theorem Encode_any (w : World) (gen : Int) (a : Option Addr) (c : Nat) (C : List Int) (hI : Ir w a C) (hl : C.length ≤ 17592186044415) :
    Calls Try.prog 11 #[.int .i64 gen, .slice a C.length c] w (EnQ w gen C) := by
  have IG := hide fun w1 => nGen_any w1 gen
  cases hg : isGen gen with
  | false =>
    have h1 : enE gen C = 1 := by unfold enE; rw [if_pos hg]
    have HD := hide (fun w' hb => enQ_err (w := w) (w' := w') (gen := gen) (C := C) (by rw [h1]; decide) hb)
    rw [h1] at HD
    rw [hg] at IG
    clear h1 hg
    go_enter Try.func11, Try.ntmps11
    go_wp2_with (go_at_call 26; refine (IG.out _).mono ?_; rintro y w1 ⟨rfl, hww⟩; obtain rfl := hww.symm)
    go_ret2
    exact HD.out _ (Below.refl _ _)
  | true =>
    by_cases hm : 65536 < C.length
    · have h1 : enE gen C = 4 := by unfold enE; rw [if_neg (by rw [hg]; simp), if_pos hm]
      have HD := hide (fun w' hb => enQ_err (w := w) (w' := w') (gen := gen) (C := C) (by rw [h1]; decide) hb)
      rw [h1] at HD
      rw [hg] at IG
      have hmi : (65536 : Int) < (C.length : Int) := by omega
      clear h1 hg
      go_enter Try.func11, Try.ntmps11
      go_wp2_with (go_at_call 26; refine (IG.out _).mono ?_; rintro y w1 ⟨rfl, hww⟩; obtain rfl := hww.symm)
      go_ret2
      exact HD.out _ (Below.refl _ _)
    · have hmi : (C.length : Int) ≤ 65536 := by omega
      have CF := hide (ContainsFunc_any w a c C hI hl)
      cases hb : C.any badC with
      | true =>
        have h1 : enE gen C = 13 := by unfold enE; rw [if_neg (by rw [hg]; simp), if_neg hm, if_pos hb]
        have HD := hide (fun w' hb => enQ_err (w := w) (w' := w') (gen := gen) (C := C) (by rw [h1]; decide) hb)
        rw [h1] at HD
        rw [hg] at IG
        rw [hb] at CF
        clear h1 hg hb
        unfold fNo at CF
        go_enter Try.func11, Try.ntmps11
        go_wp2_with (first | (go_at_call 26; refine (IG.out _).mono ?_; rintro y w1 ⟨rfl, hww⟩; obtain rfl := hww.symm) | (go_at_call 27; refine CF.out.mono ?_; rintro y w1 ⟨rfl, hb1⟩; have T1 := hide hb1; clear hb1))
        go_ret2
        exact HD.out _ T1.out
      | false =>
        have h1 : enE gen C = 0 := by unfold enE; rw [if_neg (by rw [hg]; simp), if_neg hm, if_neg (by rw [hb]; simp)]
        obtain ⟨_, _, hc⟩ := enE_zero.1 h1
        obtain ⟨g0, g1⟩ := isGen_iff.1 hg
        obtain ⟨g, rfl⟩ : ∃ g : Nat, gen = (g : Int) := ⟨gen.toNat, by omega⟩
        have HL := hide (bank_eqL h1)
        have BO := hide fun (w1 : World) (hb : Below w.heap.size w w1) => blocksOf_any w1 g a c C (hI.keep hb) (by omega) (by omega) hc
        have HN : Hid (∀ T : List Br, T.map Br.l = bank g (nats C) → T.length = nbl C.length) := by
          intro T hT
          have := congrArg List.length hT
          rwa [List.length_map, bank_length, nats_length] at this
        rw [hg] at IG
        rw [hb] at CF
        have HE := hide h1
        clear hg hb h1 hc
        unfold fNo at CF
        go_enter Try.func11, Try.ntmps11
        go_wp2_with (first | (go_at_call 26; refine (IG.out _).mono ?_; rintro y w1 ⟨rfl, hww⟩; obtain rfl := hww.symm) | (go_at_call 27; refine CF.out.mono ?_; rintro y w1 ⟨rfl, hb1⟩; have T1 := hide hb1; clear hb1) | (go_at_call 29; refine (BO.out _ T1.out).mono ?_; rintro y w2 ⟨a2, c2, T, rfl, hT, hLb⟩; have HT := hide hT; have L := hide hLb; clear hT hLb))
        go_ret2
        refine ⟨a2, c2, T, ?_, by rw [HL.out]; exact HT.out, Lb.pre T1.out L.out⟩
        rw [HE.out, HN.out T HT.out]
        rfl
end Go.Proofs.Yticcpkdhfdefpaa
