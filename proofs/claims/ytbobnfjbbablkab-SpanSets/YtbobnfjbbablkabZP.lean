import Derived.Test.YtbobnfjbbablkabZO
namespace Go.Proofs.Ytbobnfjbbablkab
open Go.RowKit

set_option maxRecDepth 100000 in
set_option maxHeartbeats 400000 in
theorem Cover_any (w : World) (a : Option Addr) (n c : Nat) (L : List Rv) (hQ : Qs w a L) (hn : n = L.length) (hlen : L.length < 4294967296) :
    Calls Try.prog 19 #[.slice a n c] w fun e w' => ∃ a' c' C, e = .returned (.slice a' (List.length C) c') ∧ Lst w w' a' c' C ∧ C.map Rv.fm = cover (L.map Rv.rg) := by
  subst hn
  have RF := hide (risingForms_any w a L.length c L hQ rfl hlen)
  have HB8 : Hid (∀ r ∈ L.map Rv.rg, r.b8) := fun r hr => by
    obtain ⟨x, hx, rfl⟩ := List.mem_map.1 hr
    exact (hQ.1 x hx).b8
  have FL := hide (forms_len L)
  clear hQ
  go_enter Try.func19, Try.ntmps19
  go_wp2_with fail
  refine RF.out.mono ?_
  rintro e w1 ⟨af, cf, F, rfl, hL, hp, hs⟩
  have HL := hide hL
  have HV := hide (cov_cover HB8.out (fs := F.map Rv.fm) (fun f => hp.mem_iff) hs)
  have hF : F.length < 4294967296 := by
    have := hp.length_eq
    rw [List.length_map] at this
    have := FL.out
    omega
  have hFI : ((F.length : Nat) : Int) < 4294967296 := by omega
  clear hL hp hs RF FL HB8
  go_wp2
  go_loopw [3, 5, 6, 10] (fun v _ _ i wx => ∃ (j : Nat) (aj : Option Addr) (cj : Nat) (C : List Rv), j ≤ F.length ∧ i = .int .i64 j ∧ v = .slice aj (List.length C) cj ∧ Cv w1 wx F j aj cj C) (fun _ _ _ i _ => F.length - (intOf i).toNat)
  case atStart => exact ⟨0, none, 0, [], Nat.zero_le _, rfl, rfl, QOwn.nil w1 (Below.refl _ _), List.Sublist.refl _, fun r hr => (List.not_mem_nil hr).elim, rfl, Nat.le_refl _⟩
  case round =>
    obtain ⟨j, aj, cj, C, hj, rfl, rfl, hG⟩ := hrel
    have HG := hide hG
    clear hG
    by_cases hlt : j < F.length
    · have hi : (j : Int) < (F.length : Int) := by omega
      have hj1 := w64 (j := j) (by omega)
      have hb1 := HG.out.q.b
      obtain ⟨b, off, rfl, hr⟩ := (HL.out.keep hb1).cell hlt (by omega)
      obtain ⟨k0, k1, k2⟩ := range3 hr
      have HFI : Hid (Ri wr (F.getD j Rv.zero)) := (HL.out.keep hb1).f.ri _ (getD_memR hlt)
      have HFM : Hid ((F.getD j Rv.zero).op = decide ((F.getD j Rv.zero).hi = [])) := HL.out.m _ (getD_memR hlt)
      have hCl : C.length < 4294967296 := by have := HG.out.n; omega
      clear hr hb1
      generalize hf : F.getD j Rv.zero = f at *
      have HF := hide hf
      clear hf
      rcases List.eq_nil_or_concat C with hC | ⟨C0, l, hC⟩
      · subst hC
        obtain ⟨aL, cL, lo, aH, cH, hi', op⟩ := f
        dsimp only at *
        go_wp2
        go_quiet (fail)
        go_wp2_with (at_builtin; refine wpList_apQ rfl _ _ rfl aj 0 cj [] rfl rfl (HG.out.q.r.keep (bt (bt (al _ _) (drN _ _)) (al _ _))) ⟨wr.heap.size + 1, 0, none⟩ 1 ⟨aL, cL, lo, aH, cH, hi', op⟩ rfl (built_drawn wr ⟨aL, cL, lo, aH, cH, hi', op⟩ _ 24 24) (by decide) ?_)
        intro g cap' w3 hR hN hg
        have HST := hide (HG.out.add hlt HF.out HFM.out (HG.out.q.step (bt (bt (al _ _) (drN _ _)) (al _ _)) hR hN hg) rfl)
        clear hR hN hg
        go_wp2
        go_roundw
        case rel => exact ⟨j + 1, _, cap', _, by omega, by first | (go_num; done) | exact congrArg (Value.int IntKind.i64) (by omega), by first | rfl | simp, HST.out⟩
        case measure => first | exact meas_up _ _ _ hj1 hlt | exact meas_up _ _ _ rfl hlt | (simp [intOf]; omega)
      · rw [List.concat_eq_append] at hC
        subst hC
        obtain ⟨gc, rfl, hcap, hmx⟩ := HG.out.q.r.addr (by simp)
        have HLI : Hid (Ri wr l) := (HL.out.keep HG.out.q.b).f.sub (HG.out.s.trans (by
          conv => rhs; rw [← List.take_append_drop j F, rowsOf_append]
          exact List.sublist_append_left _ _)) |>.ri l (by simp)
        have HLM := hide (HG.out.m l (by simp))
        have HN2 : Hid (∀ v : Rv, (C0 ++ [v]).length = (C0 ++ [l]).length) := fun v => by simp
        generalize hN : (C0 ++ [l]).length = N at *
        have hN' : N = C0.length + 1 := by rw [← hN]; simp
        have hNs : IntKind.i64.wrap ((N : Int) - 1) = ((C0.length : Nat) : Int) := by rw [wrapI (by omega) (by omega)]; omega
        have hNl : ((C0.length : Nat) : Int) < (N : Int) := by omega
        have hN0 : (0 : Int) ≤ ((C0.length : Nat) : Int) := by omega
        have HNN := hide hN
        have HNB : Hid ((C0 ++ [l]).length + 1 ≤ 4294967296) := by show _ ≤ _; omega
        have HNP := hide hN'
        clear hN hN'
        have s0 := HG.out.q.r.last
        have RE := hide fun w2 (hb : Below wr.heap.size wr w2) => reaches_any w2 l f.aL f.lo.length f.cL f.lo (HLI.out.keep hb) (HFI.out.bl.keep hb) rfl
        have PR := hide fun w2 (hb : Below wr.heap.size wr w2) => prolonged_any w2 l f (HLI.out.keep hb) (HFI.out.keep hb)
        rw [reach_fm HLM.out] at RE
        unfold Rv.val at RE PR
        cases hre : reach l.fm f.lo with
        | true =>
          rw [hre] at RE
          have HRE := hide hre
          clear hre
          obtain ⟨aL, cL, lo, aH, cH, hi', op⟩ := f
          obtain ⟨bL, dL, ko, bH, dH, ki, oq⟩ := l
          dsimp only [Rv.cs] at *
          go_wp2
          have T0 : Hid (Below wr.heap.size wr (wr.alloc (.cells #[.slice aL lo.length cL, .slice aH hi'.length cH, .bool op] 24)).drew) := (al _ _).drew
          have S0 : ((wr.alloc (.cells #[.slice aL lo.length cL, .slice aH hi'.length cH, .bool op] 24)).drew.cell? ⟨gc, C0.length * 3, none⟩ = some (.slice bL ko.length dL) ∧ (wr.alloc (.cells #[.slice aL lo.length cL, .slice aH hi'.length cH, .bool op] 24)).drew.cell? ⟨gc, C0.length * 3 + 1, none⟩ = some (.slice bH ki.length dH) ∧ (wr.alloc (.cells #[.slice aL lo.length cL, .slice aH hi'.length cH, .bool op] 24)).drew.cell? ⟨gc, C0.length * 3 + 2, none⟩ = some (.bool oq)) ∧ (wr.alloc (.cells #[.slice aL lo.length cL, .slice aH hi'.length cH, .bool op] 24)).drew.cell? ⟨wr.heap.size, 0, none⟩ = some (.slice aL lo.length cL) ∧ (wr.alloc (.cells #[.slice aL lo.length cL, .slice aH hi'.length cH, .bool op] 24)).drew.cell? ⟨wr.heap.size, 1, none⟩ = some (.slice aH hi'.length cH) ∧ (wr.alloc (.cells #[.slice aL lo.length cL, .slice aH hi'.length cH, .bool op] 24)).drew.cell? ⟨wr.heap.size, 2, none⟩ = some (.bool op) := ⟨o3_keep s0 T0.out, by simp, by simp, by simp⟩
          have S1 := S0
          go_region_held3 (fun w' => (w'.cell? ⟨gc, C0.length * 3, none⟩ = some (.slice bL ko.length dL) ∧ w'.cell? ⟨gc, C0.length * 3 + 1, none⟩ = some (.slice bH ki.length dH) ∧ w'.cell? ⟨gc, C0.length * 3 + 2, none⟩ = some (.bool oq)) ∧ w'.cell? ⟨wr.heap.size, 0, none⟩ = some (.slice aL lo.length cL) ∧ w'.cell? ⟨wr.heap.size, 1, none⟩ = some (.slice aH hi'.length cH) ∧ w'.cell? ⟨wr.heap.size, 2, none⟩ = some (.bool op))
            (first | with_reducible exact S0 | with_reducible exact S1)
            (first | (go_at_call 34; refine (RE.out _ T0.out).mono ?_; rintro e w4 ⟨rfl, hb⟩; have S1 := And.intro (o3_keep S0.1 hb) (three_keep S0.2 hb); have T1 := hide (bt T0.out hb); clear hb))
          clear S0 k0 k1 k2 s0
          obtain ⟨⟨n0, n1, n2⟩, m0, m1, m2⟩ := S1
          have HPQ : Hid (∀ wy, QOwn w1 wy (some ⟨gc, 0, none⟩) cj (C0 ++ [prolR ⟨bL, dL, ko, bH, dH, ki, oq⟩ ⟨aL, cL, lo, aH, cH, hi', op⟩]) → Cv w1 wy F (j + 1) (some ⟨gc, 0, none⟩) cj (C0 ++ [prolR ⟨bL, dL, ko, bH, dH, ki, oq⟩ ⟨aL, cL, lo, aH, cH, hi', op⟩])) := fun wy hq => HG.out.pro hlt HF.out HFM.out hq HRE.out
          generalize prolR ⟨bL, dL, ko, bH, dH, ki, oq⟩ ⟨aL, cL, lo, aH, cH, hi', op⟩ = pq at *
          go_wp2
          go_region_with (go_at_call 35; refine (PR.out _ T1.out.drew).mono ?_; rintro e w5 ⟨rfl, hb⟩; have Q5 := hide (HG.out.q.keep (bt T1.out.drew hb)); obtain ⟨p0, p1, p2⟩ := Q5.out.r.last; have f0 := Q5.out.r.thaw (C0.length * 3); have f1 := Q5.out.r.thaw (C0.length * 3 + 1); have f2 := Q5.out.r.thaw (C0.length * 3 + 2); clear hb)
          all_goals
            have HQ5 := hide (HPQ.out _ (by have := Q5.out.setv C0.length pq; rw [set_last] at this; exact this))
            clear n0 n1 n2 m0 m1 m2 p0 p1 p2 f0 f1 f2 HPQ
            go_wp2
            go_roundw
            case rel => exact ⟨j + 1, _, cj, _, by omega, by first | (go_num; done) | exact congrArg (Value.int IntKind.i64) (by omega), by rw [HN2.out], HQ5.out⟩
            case measure => first | exact meas_up _ _ _ hj1 hlt | exact meas_up _ _ _ rfl hlt | (simp [intOf]; omega)
        | false =>
          rw [hre] at RE
          have HRE := hide hre
          clear hre
          obtain ⟨aL, cL, lo, aH, cH, hi', op⟩ := f
          obtain ⟨bL, dL, ko, bH, dH, ki, oq⟩ := l
          dsimp only [Rv.cs] at *
          go_wp2
          have T0 : Hid (Below wr.heap.size wr (wr.alloc (.cells #[.slice aL lo.length cL, .slice aH hi'.length cH, .bool op] 24)).drew) := (al _ _).drew
          have S0 : ((wr.alloc (.cells #[.slice aL lo.length cL, .slice aH hi'.length cH, .bool op] 24)).drew.cell? ⟨gc, C0.length * 3, none⟩ = some (.slice bL ko.length dL) ∧ (wr.alloc (.cells #[.slice aL lo.length cL, .slice aH hi'.length cH, .bool op] 24)).drew.cell? ⟨gc, C0.length * 3 + 1, none⟩ = some (.slice bH ki.length dH) ∧ (wr.alloc (.cells #[.slice aL lo.length cL, .slice aH hi'.length cH, .bool op] 24)).drew.cell? ⟨gc, C0.length * 3 + 2, none⟩ = some (.bool oq)) ∧ (wr.alloc (.cells #[.slice aL lo.length cL, .slice aH hi'.length cH, .bool op] 24)).drew.cell? ⟨wr.heap.size, 0, none⟩ = some (.slice aL lo.length cL) ∧ (wr.alloc (.cells #[.slice aL lo.length cL, .slice aH hi'.length cH, .bool op] 24)).drew.cell? ⟨wr.heap.size, 1, none⟩ = some (.slice aH hi'.length cH) ∧ (wr.alloc (.cells #[.slice aL lo.length cL, .slice aH hi'.length cH, .bool op] 24)).drew.cell? ⟨wr.heap.size, 2, none⟩ = some (.bool op) := ⟨o3_keep s0 T0.out, by simp, by simp, by simp⟩
          have S1 := S0
          go_region_held3 (fun w' => (w'.cell? ⟨gc, C0.length * 3, none⟩ = some (.slice bL ko.length dL) ∧ w'.cell? ⟨gc, C0.length * 3 + 1, none⟩ = some (.slice bH ki.length dH) ∧ w'.cell? ⟨gc, C0.length * 3 + 2, none⟩ = some (.bool oq)) ∧ w'.cell? ⟨wr.heap.size, 0, none⟩ = some (.slice aL lo.length cL) ∧ w'.cell? ⟨wr.heap.size, 1, none⟩ = some (.slice aH hi'.length cH) ∧ w'.cell? ⟨wr.heap.size, 2, none⟩ = some (.bool op))
            (first | with_reducible exact S0 | with_reducible exact S1)
            (first | (go_at_call 34; refine (RE.out _ T0.out).mono ?_; rintro e w4 ⟨rfl, hb⟩; have S1 := And.intro (o3_keep S0.1 hb) (three_keep S0.2 hb); have T1 := hide (bt T0.out hb); clear hb))
          clear S0 k0 k1 k2 s0
          obtain ⟨_, m0, m1, m2⟩ := S1
          go_wp2_with (at_builtin; refine wpList_apQ rfl _ _ rfl (some ⟨gc, 0, none⟩) N cj (C0 ++ [⟨bL, dL, ko, bH, dH, ki, oq⟩]) rfl HNN.out.symm (HG.out.q.r.keep (bt T1.out (al _ _))) ⟨w4.heap.size, 0, none⟩ 1 ⟨aL, cL, lo, aH, cH, hi', op⟩ rfl (built_at ⟨aL, cL, lo, aH, cH, hi', op⟩ 24 rfl) HNB.out ?_)
          intro g cap' w3 hR hN hg
          have hR' : Qw w3 (some ⟨g, 0, none⟩) cap' (C0 ++ [⟨bL, dL, ko, bH, dH, ki, oq⟩] ++ [⟨aL, cL, lo, aH, cH, hi', op⟩]) := by rw [List.append_assoc]; exact hR
          have HST := hide (HG.out.add hlt HF.out HFM.out (HG.out.q.step (bt T1.out (al _ _)) hR' hN hg) (by rw [List.map_append, List.map_singleton]; exact stp_far HRE.out))
          clear hR hR' hN hg
          go_wp2
          go_roundw
          case rel => exact ⟨j + 1, _, cap', _, by omega, by first | (go_num; done) | exact congrArg (Value.int IntKind.i64) (by omega), by rw [List.length_append, HNN.out]; rfl, HST.out⟩
          case measure => first | exact meas_up _ _ _ hj1 hlt | exact meas_up _ _ _ rfl hlt | (simp [intOf]; omega)
    · obtain rfl : j = F.length := by omega
      go_wp2
      go_ret
      have h := HG.out
      have hs := h.s
      have hv := h.v
      rw [List.take_length] at hs hv
      refine ⟨aj, cj, C, rfl, ⟨⟨h.q.r, h.q.n.mono HL.out.q.b.size, bt HL.out.q.b h.q.b⟩, ((HL.out.keep h.q.b).f.sub hs), h.m⟩, ?_⟩
      rw [hv, HV.out]
end Go.Proofs.Ytbobnfjbbablkab
