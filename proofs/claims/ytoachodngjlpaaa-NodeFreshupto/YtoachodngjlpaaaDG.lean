import Derived.Test.YtoachodngjlpaaaDM
namespace Go.Proofs.Ytoachodngjlpaaa
set_option linter.unusedVariables false
set_option linter.unusedSimpArgs false
open Go.RowKit

theorem cmp_lt {a b : List Nat} (h : a < b) : cmpB a b = -1 := cmpB_m1.2 h
theorem cmp_gt {a b : List Nat} (h : b < a) : cmpB a b = 1 := cmpB_p1.2 h
theorem cmp_eq {a b : List Nat} (h1 : ¬ a < b) (h2 : ¬ b < a) : cmpB a b = 0 := by rw [cmpB_ord, if_neg h1, if_neg h2]
theorem cmp_same {a b : List Nat} (h1 : ¬ a < b) (h2 : ¬ b < a) : a = b := by grind
/-! ### Search -/
set_option maxHeartbeats 3200000 in
set_option maxRecDepth 8000 in
theorem Search_any (w : World) (p : Pv) (ak : Option Addr) (ck : Nat) (k : List Nat) (hP : Pi w p) (hB : Bs w ak k) :
    Calls Try.prog 32 #[p.vl, .slice ak k.length ck] w fun e w' => e = .returned (.tuple #[.int .i64 ((srch k p.pg.items : Nat) : Int), .bool (hasK k p.pg.items)]) ∧ Below w.heap.size w w' := by
  obtain ⟨kind, level, aI, cI, L, aD, cD, data, next⟩ := p
  have HJ := hide hP.it
  have hL := hP.it.2.1
  have BB := hide hB
  have AT := hide fun (j : Nat) (h1 : j ≤ L.length) (h2 : ∀ i, i < j → (L.getD i Iv.zero).key < k) (h3 : j = L.length ∨ ¬ (L.getD j Iv.zero).key < k) => srch_at k (L.map Iv.it) j (by simpa using h1) (fun i hi => by rw [it_getD]; exact h2 i hi) (h3.imp (fun e => by simpa using e) (fun e => by rw [it_getD]; exact e))
  unfold Pv.vl Pv.pg
  simp only [Pv.cs] at *
  have A0 := hide (al w (.cells #[.int .i64 kind, .int .i64 level, .slice aI L.length cI, .slice aD data.length cD, .int .i64 next] 25))
  have X0 := hide (heap_alloc_new w (.cells #[.int .i64 kind, .int .i64 level, .slice aI L.length cI, .slice aD data.length cD, .int .i64 next] 25))
  obtain ⟨n, hn⟩ : ∃ n, L.length = n := ⟨_, rfl⟩
  have HN := hide hn
  have KL := hide fun (r : List Nat → Int → Prop) => (True.intro)
  rw [hn] at hL A0 X0 ⊢
  clear hP hB hn KL
  go_enter Try.func32, Try.ntmps32
  go_wp2
  generalize (w.alloc (.cells #[.int .i64 kind, .int .i64 level, .slice aI n cI, .slice aD data.length cD, .int .i64 next] 25)) = w1 at *
  go_loopw [12] (fun i wr => ∃ j : Nat, j ≤ n ∧ i = .int .i64 (j : Int) ∧ (∀ i, i < j → (L.getD i Iv.zero).key < k) ∧ Below w.heap.size w wr ∧ wr.heap[w.heap.size]? = some (.cells #[.int .i64 kind, .int .i64 level, .slice aI n cI, .slice aD data.length cD, .int .i64 next] 25 (0, 0))) (fun i _ => n - (intOf i).toNat)
  case atStart => exact ⟨0, Nat.zero_le _, rfl, fun i hi => absurd hi (Nat.not_lt_zero _), A0.out, X0.out⟩
  case round =>
    obtain ⟨j, hj, rfl, hU, hb, hx⟩ := hrel
    have UU := hide hU
    have B1 := hide hb
    have X1 := hide hx
    by_cases hlt : j < n
    · have hjI : (j : Int) < (n : Int) := by omega
      have hjL : j < L.length := by rw [HN.out]; exact hlt
      obtain ⟨bI, off, rfl, hr⟩ := (HJ.out.keep hb).at hjL
      obtain ⟨k0, k1, k2, k3⟩ := range4 hr
      have II := hide ((HJ.out.1 _ (getD_memR hjL)).keep hb)
      have A1 := hide (al wr (.cells (L.getD j Iv.zero).cs 29))
      have CC := hide (sCompare_any (wr.alloc (.cells (L.getD j Iv.zero).cs 29)) (L.getD j Iv.zero).aK ak (L.getD j Iv.zero).key.length (L.getD j Iv.zero).cK k.length ck _ k (II.out.bk.keep A1.out) (BB.out.keep (bt hb A1.out)) rfl rfl)
      have EK : Hid ((L.map Iv.it).getD j It.zero = (L.getD j Iv.zero).it) := it_getD L j
      have B2 := hide (bt hb A1.out)
      have X2 := hide (blk_keep hx A1.out)
      clear hU hb hx hr
      by_cases hl : (L.getD j Iv.zero).key < k
      · have U2 : Hid (∀ i, i < j + 1 → (L.getD i Iv.zero).key < k) := fun i hi => by
          by_cases e : i = j
          · rw [e]; exact hl
          · exact UU.out i (by omega)
        rw [cmp_lt hl] at CC
        clear hl II EK
        generalize L.getD j Iv.zero = v at *
        obtain ⟨aK, cK, key, aV, cV, val, child, size⟩ := v
        simp only [Iv.cs] at k0 k1 k2 k3 A1 CC B2 X2
        go_wp2_with (go_at_call 36; refine CC.out.mono ?_; rintro _ _ ⟨rfl, rfl⟩)
        go_roundw
        case rel => exact ⟨j + 1, by omega, by go_num, U2.out, B2.out, X2.out⟩
        case measure => simp [intOf]; omega
      · have ES := AT.out j (by omega) UU.out (.inr hl)
        have SL : Hid (srch k (L.map Iv.it) = j) := ES
        by_cases hg : k < (L.getD j Iv.zero).key
        · have HK : Hid (hasK k (L.map Iv.it) = false) := by
            show _ = _
            have : ¬ (L.getD j Iv.zero).it.key = k := fun e => by
              have e : (L.getD j Iv.zero).key = k := e
              rw [e] at hg
              exact absurd hg (by grind)
            unfold hasK
            rw [ES, EK.out, decide_eq_false this, Bool.and_false]
          rw [cmp_gt hg] at CC
          clear hl hg II EK ES
          generalize L.getD j Iv.zero = v at *
          obtain ⟨aK, cK, key, aV, cV, val, child, size⟩ := v
          simp only [Iv.cs] at k0 k1 k2 k3 A1 CC B2 X2
          go_wp2_with (go_at_call 36; refine CC.out.mono ?_; rintro _ _ ⟨rfl, rfl⟩)
          refine bodyPost_ret (results_tmp2 Try.results32 _ _ _) rfl ?_
          exact ⟨by rw [SL.out, HK.out]; rfl, B2.out⟩
        · have HK : Hid (hasK k (L.map Iv.it) = true) := by
            show _ = _
            have e : (L.getD j Iv.zero).it.key = k := cmp_same hl hg
            unfold hasK
            rw [ES, EK.out, e]
            simp [hjL]
          rw [cmp_eq hl hg] at CC
          clear hl hg II EK ES
          generalize L.getD j Iv.zero = v at *
          obtain ⟨aK, cK, key, aV, cV, val, child, size⟩ := v
          simp only [Iv.cs] at k0 k1 k2 k3 A1 CC B2 X2
          go_wp2_with (go_at_call 36; refine CC.out.mono ?_; rintro _ _ ⟨rfl, rfl⟩)
          refine bodyPost_ret (results_tmp2 Try.results32 _ _ _) rfl ?_
          exact ⟨by rw [SL.out, HK.out]; rfl, B2.out⟩
    · obtain rfl : j = n := by omega
      have ES := AT.out j (by rw [HN.out]; exact Nat.le_refl _) UU.out (.inl HN.out.symm)
      have SL : Hid (srch k (L.map Iv.it) = j) := ES
      have HK : Hid (hasK k (L.map Iv.it) = false) := by
        show _ = _
        simp [hasK, ES, HN.out]
      obtain ⟨x0, x1, x2, x3, x4⟩ := cells5 hx
      clear hU hb hx ES
      go_wp2
      refine bodyPost_ret (results_tmp2 Try.results32 _ _ _) rfl ?_
      exact ⟨by rw [SL.out, HK.out]; rfl, B1.out⟩
/-! ### pieces of a page -/
theorem Js.take {w : World} {a : Option Addr} {L : List Iv} (h : Js w a L) (n : Nat) : Js w a (L.take n) := by
  refine ⟨fun r hr => h.1 r (List.mem_of_mem_take hr), Nat.le_trans (by rw [List.length_take]; omega) h.2.1, ?_⟩
  rcases h.2.2 with rfl | ⟨b, off, e, hc⟩
  · exact .inl (by simp)
  · refine .inr ⟨b, off, e, fun r hr => ?_⟩
    rw [List.length_take] at hr
    have := hc r (by omega)
    have e2 : (L.take n).getD r Iv.zero = L.getD r Iv.zero := by simp [List.getElem?_take, show r < n by omega]
    rw [e2]
    exact this
theorem Js.drop {w : World} {b off : Nat} {L : List Iv} (h : Js w (some ⟨b, off, none⟩) L) (n : Nat) : Js w (some ⟨b, off + n * 4, none⟩) (L.drop n) := by
  refine ⟨fun r hr => h.1 r (List.mem_of_mem_drop hr), Nat.le_trans (by rw [List.length_drop]; omega) h.2.1, ?_⟩
  rcases h.2.2 with rfl | ⟨b', off', e, hc⟩
  · exact .inl (by simp)
  · cases e
    refine .inr ⟨b, off + n * 4, rfl, fun r hr => ?_⟩
    rw [List.length_drop] at hr
    have := hc (n + r) (by omega)
    have e2 : (L.drop n).getD r Iv.zero = L.getD (n + r) Iv.zero := by simp
    rw [e2, show off + n * 4 + r * 4 = off + (n + r) * 4 by omega]
    exact this
theorem Js.nil (w : World) (a : Option Addr) : Js w a [] := ⟨fun _ h => (List.not_mem_nil h).elim, Nat.zero_le _, .inl rfl⟩
theorem has_any (w : World) (p : Pv) (i : Int) : Calls Try.prog 25 #[p.vl, .int .i64 i] w fun e w' => e = .returned (.bool (decide (0 ≤ i) && decide (i < (p.items.length : Int)))) ∧ Below w.heap.size w w' := by
  obtain ⟨kind, level, aI, cI, L, aD, cD, data, next⟩ := p
  unfold Pv.vl
  simp only [Pv.cs]
  have A0 := hide (al w (.cells #[.int .i64 kind, .int .i64 level, .slice aI L.length cI, .slice aD data.length cD, .int .i64 next] 25))
  generalize L.length = n at *
  by_cases h1 : 0 ≤ i
  · by_cases h2 : i < (n : Int)
    · go_enter Try.func25, Try.ntmps25
      go_wp2
      go_ret
      exact ⟨by simp [h1, h2], A0.out⟩
    · go_enter Try.func25, Try.ntmps25
      go_wp2
      go_ret
      exact ⟨by simp [h1, h2], A0.out⟩
  · go_enter Try.func25, Try.ntmps25
    go_wp2
    go_ret
    exact ⟨by simp; omega, A0.out⟩
theorem first_any (w : World) (p : Pv) (n : Nat) (hP : Pi w p) (hn : n ≤ p.items.length) : Calls Try.prog 22 #[p.vl, .int .i64 (n : Int)] w fun e w' => ∃ a, e = .returned (.slice a n n) ∧ Js w' a (p.items.take n) ∧ Below w.heap.size w w' := by
  obtain ⟨kind, level, aI, cI, L, aD, cD, data, next⟩ := p
  have HJ := hide fun (W : World) (hb : Below w.heap.size w W) => (hP.it.take n).keep hb
  have hL := hP.it.2.1
  have hc := hP.ci
  have h0 : aI = none → L = [] := fun e => by
    rcases hP.it.2.2 with h | ⟨b, off, h, _⟩
    · exact h
    · rw [show (Pv.mk kind level aI cI L aD cD data next).aI = aI from rfl, e] at h
      cases h
  unfold Pv.vl
  simp only [Pv.cs] at *
  have A0 := hide (al w (.cells #[.int .i64 kind, .int .i64 level, .slice aI L.length cI, .slice aD data.length cD, .int .i64 next] 25))
  clear hP
  cases aI with
  | none =>
    obtain rfl := h0 rfl
    obtain rfl : n = 0 := by simpa using hn
    clear h0
    go_enter Try.func22, Try.ntmps22
    go_wp2
    go_ret
    exact ⟨_, rfl, HJ.out _ A0.out, A0.out⟩
  | some x =>
    clear h0
    generalize L.length = m at *
    go_enter Try.func22, Try.ntmps22
    go_wp2
    go_ret
    exact ⟨_, rfl, HJ.out _ A0.out, A0.out⟩
theorem from_any (w : World) (p : Pv) (n : Nat) (hP : Pi w p) (hn : n ≤ p.items.length) : Calls Try.prog 24 #[p.vl, .int .i64 (n : Int)] w fun e w' => ∃ a c, e = .returned (.slice a (p.items.length - n) c) ∧ Js w' a (p.items.drop n) ∧ Below w.heap.size w w' := by
  obtain ⟨kind, level, aI, cI, L, aD, cD, data, next⟩ := p
  have hL := hP.it.2.1
  have hc := hP.ci
  have HJ := hide hP.it
  have h0 := hP.it.2.2
  unfold Pv.vl
  simp only [Pv.cs] at *
  have A0 := hide fun (cs : Array Value) => al w (.cells cs 25)
  clear hP
  cases aI with
  | none =>
    obtain rfl : L = [] := by
      rcases h0 with h | ⟨b, off, h, _⟩
      · exact h
      · cases h
    obtain rfl : n = 0 := by simpa using hn
    clear h0
    go_enter Try.func24, Try.ntmps24
    go_wp2
    go_ret
    exact ⟨_, _, rfl, Js.nil _ _, A0.out _⟩
  | some x =>
    by_cases hn1 : n = L.length
    · have HD : Hid (L.drop n = []) := List.drop_eq_nil_of_le (by omega)
      clear h0
      generalize L.length = m at *
      subst hn1
      go_enter Try.func24, Try.ntmps24
      go_wp2
      all_goals
        go_ret
        exact ⟨_, ⟨_, rfl⟩, by rw [HD.out]; exact Js.nil _ _, A0.out _⟩
    · rcases h0 with h | ⟨b, off, h, _⟩
      · rw [h] at hn hn1
        simp at hn
        exact absurd (by simpa using hn) hn1
      · cases h
        have HD := hide fun (W : World) (hb : Below w.heap.size w W) => (HJ.out.drop n).keep hb
        have hlt : n < L.length := by omega
        generalize L.length = m at *
        have hI : (n : Int) < (m : Int) := by omega
        go_enter Try.func24, Try.ntmps24
        go_wp2
        all_goals
          go_ret
          first
            | exact ⟨_, ⟨_, rfl⟩, HD.out _ (A0.out _), A0.out _⟩
            | exact ⟨_, _, rfl, HD.out _ (A0.out _), A0.out _⟩
theorem one_any (w : World) (x : Iv) (hI : Ii w x) : Calls Try.prog 23 #[x.vl] w fun e w' => ∃ g, e = .returned (.slice (some ⟨g, 0, none⟩) 1 1) ∧ Js w' (some ⟨g, 0, none⟩) [x] ∧ Below w.heap.size w w' := by
  have A1 := hide (bt (al w (.cells x.cs 29)) (al (w.alloc (.cells x.cs 29)) (.cells x.cs 29)))
  have HJ : Hid (Js ((w.alloc (.cells x.cs 29)).alloc (.cells x.cs 29)) (some ⟨w.heap.size + 1, 0, none⟩) [x]) := by
    refine ⟨fun r hr => ?_, by simp, .inr ⟨w.heap.size + 1, 0, rfl, fun r hr => ?_⟩⟩
    · rw [List.mem_singleton.1 hr]; exact hI.keep A1.out
    · obtain rfl : r = 0 := by simpa using hr
      have k := heap_alloc_new (w.alloc (.cells x.cs 29)) (.cells x.cs 29)
      rw [size_alloc] at k
      intro j u hu
      rw [cell_of_row _ _ _ _ _ _ k]
      simpa using hu
  clear hI
  obtain ⟨aK, cK, key, aV, cV, val, child, size⟩ := x
  unfold Iv.vl
  simp only [Iv.cs] at *
  go_enter Try.func23, Try.ntmps23
  go_wp2
  go_ret
  exact ⟨_, rfl, HJ.out, A1.out⟩
end Go.Proofs.Ytoachodngjlpaaa
