import Derived.Test.YtlkjpljfbmploaaWE
import Derived.Lib.AppendZerosOnto
namespace Go.Proofs.Ytlkjpljfbmploaa
open Go.RowKit

theorem zeroCells_u8 (k : Nat) : Builtin.zeroCells (Value.int .u8 0).cells k = (vb (List.replicate k 0)).toArray := by
  apply Array.ext
  · simp [Builtin.zeroCells, Value.cells, vb]
  · intro i h1 h2
    simp only [Builtin.zeroCells, Value.cells, vb, Array.getElem_map, List.getElem_toArray, List.getElem_map, List.getElem_replicate]
    simp [Nat.mod_one]
theorem run_apZ (w : World) (ty : TypeId) (a : Option Addr) (n cap : Nat) (l : List Nat) (hn : n = l.length) (hR : Rw w a cap l) (m : Nat) (hlen : l.length + m ≤ 140737488355328) :
    ∃ a' cap' w', (Builtin.append_ #[33, 3] ty #[.slice a n cap, .int .i64 (m : Int)]).run Try.prog w = .ok (.slice a' (n + m) cap') w' ∧
      Rw w' a' cap' (l ++ List.replicate m 0) ∧ New w a a' ∧ w.grownBy w' (a.map Addr.block) := by
  subst hn
  obtain ⟨i0, hi, hz0, hz1, hz2⟩ := info_parts infoU8
  have hw : IntKind.i64.wrap (m : Int) = m := wrapI (by omega) (by omega)
  have hneg : ¬ ((m : Int) < 0) := by omega
  have h48i : ¬ (281474976710656 < (m : Int)) := by omega
  by_cases h0 : m = 0
  · subst h0
    refine ⟨a, cap, w, ?_, by simpa using hR, New.refl _ _, ⟨rfl, rfl, rfl, Nat.le_refl _, fun _ _ _ => rfl⟩⟩
    rcases hR.cases with ⟨rfl, rfl, rfl⟩ | ⟨g, cur, rfl, hg, h1, h2, h3, h4⟩
    · simp [Builtin.append_, run_underlying Try.underlying33, run_underlying Try.underlying3, sizeOf, typeInfo, hi, hz2, asInt, asIntOf, IntKind.wrap_i64]
    · simp [Builtin.append_, run_underlying Try.underlying33, run_underlying Try.underlying3, sizeOf, typeInfo, hi, hz2, asInt, asIntOf, IntKind.wrap_i64, h1, storeCells]
  · have hvl : (vb (List.replicate m 0)).length = m := by rw [vb_length, List.length_replicate]
    have hll : (l ++ List.replicate m 0).length = l.length + m := by rw [List.length_append, List.length_replicate]
    by_cases hroom : l.length + m ≤ cap
    · rcases hR.cases with ⟨rfl, rfl, rfl⟩ | ⟨g, cur, rfl, hg, h1, h2, h3, h4⟩
      · simp at hroom; omega
      · have hst := run_storeCells_at Try.prog g (l.length * 1) 5 (vb (List.replicate m 0)) 0 cur w hg (by rw [hvl]; omega) (vb_one _)
        simp only [Nat.add_zero, Nat.mul_one] at hst
        generalize hC : (List.take l.length cur.toList ++ vb (List.replicate m 0) ++ List.drop (l.length + (vb (List.replicate m 0)).length) cur.toList).toArray = C at hst
        have hCs : C.size = cap := by rw [← hC]; simp [hvl]; omega
        have hCt : C.toList.take (l ++ List.replicate m 0).length = vb (l ++ List.replicate m 0) := by
          rw [← hC, h4, ← vb_append]
          rw [← vb_length (l ++ List.replicate m 0)]
          exact List.take_left
        refine ⟨some ⟨g, 0, none⟩, cap, w.setRow g C, ?_, Rw.mk (setRow_heap w g cur _ _ _ hg) (by rw [hll]; exact hroom) h2 hCs hCt, New.refl _ _, ⟨rfl, rfl, rfl, by simp, fun k _ hk => setRow_other w g k _ (fun e => hk (by simp [e]))⟩⟩
        simp [Builtin.append_, run_underlying Try.underlying33, run_underlying Try.underlying3, sizeOf, typeInfo, zeroValue, hi, hz0, hz1, hz2, asInt, asIntOf, hw, hneg, h48i, h0, hroom, zeroCells_u8, Addr.add_lit, hst]
    · have hold : (Builtin.firstCells i0.size l.length (.slice a l.length cap)).run Try.prog w.drew = .ok (vb l).toArray w.drew := by
        rw [hz1]
        rcases hR.cases with ⟨rfl, rfl, rfl⟩ | ⟨g, cur, rfl, hg, h1, h2, h3, h4⟩
        · rfl
        · refine run_firstCells_some w.drew 1 l.length _ l.length cap (vb l) (by rw [vb_length, Nat.mul_one]) ?_
          intro j u hj
          have hlt : j < l.length := by
            have := (List.getElem?_eq_some_iff.1 hj).1
            rwa [vb_length] at this
          rw [vb_get l j hlt, Option.some.injEq] at hj
          subst hj
          have ea : (⟨g, 0, none⟩ : Addr).add j = ⟨g, j, none⟩ := by unfold Addr.add; split <;> simp_all
          rw [ea]
          exact hR.cell hlt
      have hr := Lib.run_append_grow_zeros (P := Try.prog) w 33 3 ty 5 i0 (.int .u8 0) .i64 .i64 Try.underlying33 Try.underlying3 hi hz0 a l.length cap (vb l) hold m (by omega) (by omega) (by omega) (by omega) (by rw [hz2]; omega) (growslice_fits (by omega) (by rw [hz2]; omega))
      refine ⟨some ⟨w.heap.size, 0, none⟩, _, _, hr, Rw.mk (heap_alloc_new w.drew _) (by rw [hll]; exact grownCap_ge w _ _ _) (grownCap_le_maxLen w _ _ _ (by unfold maxLen; omega)) ?_ ?_, fun x hx => .inr (by simp only [Option.some.injEq] at hx; subst hx; exact Nat.le_refl _), ⟨rfl, rfl, rfl, by simp, fun k hk _ => heap_alloc_old w.drew _ hk⟩⟩
      · have := grownCap_ge w (l.length + m) cap 5
        simp only [zeroCells_u8, Array.size_append, List.size_toArray, vb_length, List.length_replicate]
        omega
      · simp only [zeroCells_u8, Array.toList_append]
        rw [← vb_append, ← vb_length (l ++ List.replicate m 0)]
        exact List.take_left
theorem wpList_apZ {w : World} {ops : Array Oper} {rest : List Oper} {o : Oper} {a : Act} {Q : Exit → Act → World → Prop} (hgd : o.guard = none) (s x : Operand)
    (ho : o.op = .call { callee := .builtin .append, args := #[s, x], argTypes := #[33, 3] }) (ao : Option Addr) (n cap : Nat) (l : List Nat) (hs : a.eval s = .slice ao n cap) (hn : n = l.length) (hR : Rw w ao cap l)
    (m : Nat) (hx : a.eval x = .int .i64 (m : Int)) (hlen : l.length + m ≤ 140737488355328)
    (h : ∀ a' cap' w', Rw w' a' cap' (l ++ List.replicate m 0) → New w ao a' → w.grownBy w' (ao.map Addr.block) → wpList Try.prog ops Q rest (a.put o.dst (.slice a' (n + m) cap')) w') : wpList Try.prog ops Q (o :: rest) a w := by
  obtain ⟨a', cap', w', hr, h1, h2, h3⟩ := run_apZ w o.type ao n cap l hn hR m hlen
  exact Lib.wpList_append_run w hgd s x 33 3 ho _ _ hs hx _ _ hr (h a' cap' w' h1 h2 h3)

set_option maxHeartbeats 800000 in
theorem Fill_any (w : World) (b : Nat) (a : Option Addr) (cap : Nat) (s : WS) (n : Int) (h : Wt 68 w b a cap s) (hn : n ≤ 9223372036854775807) :
    Calls Try.prog 23 #[.pointer (some ⟨b, 0, none⟩), .int .i64 n] w fun x w' => x = .returned (.tuple #[]) ∧ Did 68 w w' b a (s.fill n) := by
  have c1 := h.c1
  have hm := h.2.2.1
  have hl := h.2.2.2.1
  have H := hide h
  have HM := hide hm
  have HL := hide hl
  clear h hm hl
  by_cases hlt : n < (s.l.length : Int)
  · by_cases he : s.e = 0
    · rw [show s.fill n = s.err 3 by unfold WS.fill; rw [if_neg (by omega), if_pos hlt]]
      have HE := hide he
      clear he
      go_enter Try.func23, Try.ntmps23
      go_wp2_with fail
      refine (fail_ok _ b a cap s 3 H.out HE.out).mono ?_
      rintro e w1 ⟨rfl, h1, hb1⟩
      have H1 := hide h1
      clear h1
      go_wp2
      refine bodyPost_ret (results_none rfl _ _ _) rfl ?_
      exact ⟨rfl, Did.same H1.out (hb1.toFt a)⟩
    · rw [show s.fill n = s by unfold WS.fill; rw [if_pos he]]
      have HE := hide he
      clear he
      go_enter Try.func23, Try.ntmps23
      go_wp2_with fail
      refine (fail_err _ b a cap s 3 H.out HE.out).mono ?_
      rintro e w1 ⟨rfl, rfl⟩
      go_wp2
      refine bodyPost_ret (results_none rfl _ _ _) rfl ?_
      exact ⟨rfl, Did.same H.out (But.refl _ _)⟩
  · obtain ⟨m, rfl⟩ : ∃ m : Nat, n = (s.l.length : Int) + (m : Int) := ⟨(n - s.l.length).toNat, by omega⟩
    have hsub : IntKind.i64.wrap ((s.l.length : Int) + (m : Int) - (s.l.length : Int)) = (m : Int) := by rw [wrapI (by omega) (by omega)]; omega
    have hlt2 : decide ((s.l.length : Int) + (m : Int) < (s.l.length : Int)) = false := by simp; omega
    have HLT := hide hlt
    clear hlt
    by_cases he : s.e = 0
    · have HE := hide he
      by_cases hf : s.l.length + m ≤ s.most
      · rw [show s.fill ((s.l.length : Int) + (m : Int)) = ⟨s.most, s.l ++ List.replicate m 0, 0⟩ by
          unfold WS.fill; rw [if_neg (by omega), if_neg HLT.out, if_neg (by omega), show ((s.l.length : Int) + (m : Int)).toNat - s.l.length = m by omega]]
        have HF := hide hf
        clear hf he
        go_enter Try.func23, Try.ntmps23
        go_wp2_with fail
        refine (takes_yes _ b a cap s _ H.out HE.out (by have := HF.out; omega)).mono ?_
        rintro e w1 ⟨rfl, hb1⟩
        have H1 := hide (H.out.keep hb1)
        have d1 := H1.out.c1
        clear c1
        go_wp2_with (at_builtin; refine wpList_apZ rfl _ _ rfl a s.l.length cap s.l rfl rfl H1.out.2.1 m rfl (by have := HF.out; have := HM.out; omega) ?_)
        intro a' cap' w2 hR hN hg
        obtain ⟨d2, e2, G⟩ := H1.out.after (n := s.l.length + m) (by decide) hR hN hg (by intro x hx; rw [List.mem_replicate] at hx; omega) (by rw [List.length_replicate]; exact HF.out) HE.out (by rw [List.length_replicate])
        clear hR hN hg d1
        go_wp2
        go_end0
        exact ⟨rfl, Did.pre hb1 ⟨_, _, G.out⟩⟩
      · rw [show s.fill ((s.l.length : Int) + (m : Int)) = s.err 4 by unfold WS.fill; rw [if_neg (by omega), if_neg HLT.out, if_pos (by omega)]]
        have HF := hide hf
        clear hf he
        go_enter Try.func23, Try.ntmps23
        go_wp2_with fail
        refine (takes_no _ b a cap s _ H.out HE.out (by have := HF.out; omega)).mono ?_
        rintro e w1 ⟨rfl, h1, hb1⟩
        have H1 := hide h1
        clear h1
        go_wp2
        go_end0
        exact ⟨rfl, Did.same H1.out (hb1.toFt a)⟩
    · rw [show s.fill ((s.l.length : Int) + (m : Int)) = s by unfold WS.fill; rw [if_pos he]]
      have HE := hide he
      clear he
      go_enter Try.func23, Try.ntmps23
      go_wp2_with fail
      refine (takes_err _ b a cap s _ H.out HE.out).mono ?_
      rintro e w1 ⟨rfl, hb1⟩
      go_wp2
      go_end0
      exact ⟨rfl, Did.same (H.out.keep hb1) (But.ofBelow hb1)⟩
end Go.Proofs.Ytlkjpljfbmploaa
