import Derived.Test.YtoachodngjlpaaaDG
namespace Go.Proofs.Ytoachodngjlpaaa
set_option linter.unusedVariables false
set_option linter.unusedSimpArgs false
open Go.RowKit

/-! ### Route -/
def rouV (g : Nat) : Value := .func (.func 37) #[] #[.pointer (some ⟨g, 0, none⟩)]
set_option maxHeartbeats 400000 in
theorem rouF_any (w : World) (g : Nat) (ak : Option Addr) (ck : Nat) (k : List Nat) (x : Iv) (hg : w.cell? ⟨g, 0, none⟩ = some (.slice ak k.length ck)) (hB : Bs w ak k) (hX : Ii w x) :
    Calls Try.prog 37 #[x.vl, .pointer (some ⟨g, 0, none⟩)] w fun e w' => e = .returned (.bool (decide (0 < cmpB x.key k))) ∧ Below w.heap.size w w' := by
  have HA := hide (al w (.cells x.cs 29))
  have hg' := (HA.out.cell (p := ⟨g, 0, none⟩) (block_lt_of_cell hg)).trans hg
  have CC := hide (sCompare_any (w.alloc (.cells x.cs 29)) x.aK ak x.key.length x.cK k.length ck _ k (hX.bk.keep HA.out) (hB.keep HA.out) rfl rfl)
  obtain ⟨aK, cK, key, aV, cV, val, child, size⟩ := x
  unfold Iv.vl
  simp only [Iv.cs] at *
  clear hg hB hX
  generalize cmpB key k = z at *
  go_enter Try.func37, Try.ntmps37
  go_wp2_with (go_at_call 36; refine CC.out.mono ?_; rintro _ _ ⟨rfl, rfl⟩)
  all_goals
    go_ret
    exact ⟨by first | rfl | (simp_all; done) | (simp; omega), HA.out⟩
set_option maxRecDepth 8000 in
set_option maxHeartbeats 1600000 in
theorem Index_rou (w : World) (a : Option Addr) (c : Nat) (L : List Iv) (hI : Js w a L) (g : Nat) (ak : Option Addr) (ck : Nat) (k : List Nat) (hg : w.cell? ⟨g, 0, none⟩ = some (.slice ak k.length ck)) (hB : Bs w ak k) :
    Calls Try.prog 38 #[.slice a L.length c, rouV g] w fun y w' => y = .returned (.int .i64 (if upto k (L.map Iv.it) < L.length then ((upto k (L.map Iv.it) : Nat) : Int) else -1)) ∧ Below w.heap.size w w' := by
  have HI := hide hI
  have hL := hI.2.1
  have CF := hide fun (w1 : World) (hb : Below w.heap.size w w1) (t : Iv) (ht : Ii w1 t) => rouF_any w1 g ak ck k t ((hb.cell (p := ⟨g, 0, none⟩) (block_lt_of_cell hg)).trans hg) (hB.keep hb) ht
  have AT := hide fun (j : Nat) (h1 : j ≤ L.length) (h2 : ∀ i, i < j → (L.getD i Iv.zero).key ≤ k) (h3 : j = L.length ∨ ¬ (L.getD j Iv.zero).key ≤ k) => upto_at k (L.map Iv.it) j (by simpa using h1) (fun i hi => by rw [it_getD]; exact h2 i hi) (h3.imp (fun e => by simpa using e) (fun e => by rw [it_getD]; exact e))
  obtain ⟨n, hn⟩ : ∃ n, L.length = n := ⟨_, rfl⟩
  have HN := hide hn
  obtain ⟨z, hz⟩ : ∃ z, (if upto k (L.map Iv.it) < L.length then ((upto k (L.map Iv.it) : Nat) : Int) else -1) = z := ⟨_, rfl⟩
  have HZ := hide hz
  rw [hz]
  rw [hn] at hL ⊢
  clear hI hg hB hn hz
  unfold rouV
  go_enter Try.func38, Try.ntmps38
  go_wp2
  go_loopw [8] (fun q wx => ∃ j : Nat, j ≤ n ∧ q = .int .i64 j ∧ (∀ i, i < j → (L.getD i Iv.zero).key ≤ k) ∧ Below w.heap.size w wx) (fun q _ => n - (intOf q).toNat)
  case atStart => exact ⟨0, Nat.zero_le _, rfl, fun k hk => by omega, Below.refl _ _⟩
  case round =>
    obtain ⟨j, hj, rfl, hN, hB⟩ := hrel
    have UN := hide hN
    have HB := hide hB
    clear hN hB
    by_cases hlt : j < n
    · have hlti : (j : Int) < (n : Int) := by omega
      have hjL : j < L.length := by rw [HN.out]; exact hlt
      obtain ⟨b1, o1, rfl, cA⟩ := (HI.out.keep HB.out).at hjL
      have HC := hide cA
      have CT := hide (CF.out _ HB.out (L.getD j Iv.zero) ((HI.out.1 _ (getD_memR hjL)).keep HB.out))
      by_cases hx : (L.getD j Iv.zero).key ≤ k
      · have HNN : Hid (∀ i, i < j + 1 → (L.getD i Iv.zero).key ≤ k) := by
          intro i hi
          by_cases e : i = j
          · rw [e]; exact hx
          · exact UN.out i (by omega)
        rw [decide_eq_false (show ¬ 0 < cmpB (L.getD j Iv.zero).key k from by have := cmpB_le.2 hx; omega)] at CT
        clear hx cA
        generalize L.getD j Iv.zero = t at *
        go_wp2_with (first | (refine wpList_load_mid rfl 29 _ rfl b1 (o1 + j * 4) (by simp [Act.eval]) t.cs.toList _ HC.out Try.underlying29 rfl sizeItem ?_) | (go_at_call 37; refine CT.out.mono ?_; rintro y w1 ⟨rfl, hb⟩; have HB := hide (bt HB.out hb); clear hb))
        go_roundw
        case rel => exact ⟨j + 1, by omega, by go_num, HNN.out, HB.out⟩
        case measure => simp [intOf]; omega
      · have ES : Hid (z = (j : Int)) := by
          show _ = _
          rw [← HZ.out, AT.out j (by omega) UN.out (.inr hx), if_pos hjL]
        rw [decide_eq_true (show 0 < cmpB (L.getD j Iv.zero).key k from cmpB_pos.2 (List.not_le.1 hx))] at CT
        clear hx cA
        generalize L.getD j Iv.zero = t at *
        go_wp2_with (first | (refine wpList_load_mid rfl 29 _ rfl b1 (o1 + j * 4) (by simp [Act.eval]) t.cs.toList _ HC.out Try.underlying29 rfl sizeItem ?_) | (go_at_call 37; refine CT.out.mono ?_; rintro y w1 ⟨rfl, hb⟩; have HB := hide (bt HB.out hb); clear hb))
        go_ret
        exact ⟨by rw [ES.out]; rfl, HB.out⟩
    · obtain rfl : j = n := by omega
      have ES : Hid (z = -1) := by
        show _ = _
        rw [← HZ.out, AT.out j (by rw [HN.out]; exact Nat.le_refl _) UN.out (.inl HN.out.symm), if_neg (by rw [HN.out]; omega)]
      go_wp2
      go_ret
      exact ⟨by rw [ES.out]; rfl, HB.out⟩
set_option maxRecDepth 8000 in
set_option maxHeartbeats 1600000 in
theorem Route_any (w : World) (p : Pv) (ak : Option Addr) (ck : Nat) (k : List Nat) (hP : Pi w p) (hB : Bs w ak k) :
    Calls Try.prog 33 #[p.vl, .slice ak k.length ck] w fun e w' => e = .returned (.int .i64 ((rout k p.pg.items : Nat) : Int)) ∧ Below w.heap.size w w' := by
  obtain ⟨kind, level, aI, cI, L, aD, cD, data, next⟩ := p
  have HJ := hide hP.it
  have hL := hP.it.2.1
  have hc := hP.ci
  have h0 := hP.it.2.2
  unfold Pv.vl Pv.pg
  simp only [Pv.cs] at *
  have A1 := hide (bt (al w (.cells #[.int .i64 kind, .int .i64 level, .slice aI L.length cI, .slice aD data.length cD, .int .i64 next] 25)) (al (w.alloc (.cells #[.int .i64 kind, .int .i64 level, .slice aI L.length cI, .slice aD data.length cD, .int .i64 next] 25)) (.cells #[.slice ak k.length ck] 23)))
  by_cases hl : L = []
  · subst hl
    clear h0 hP
    go_enter Try.func33, Try.ntmps33
    go_wp2
    go_ret
    exact ⟨rfl, A1.out⟩
  · obtain ⟨b, off, rfl⟩ : ∃ b off, aI = some ⟨b, off, none⟩ := by
      rcases h0 with h | ⟨b, off, h, _⟩
      · exact absurd h hl
      · exact ⟨b, off, h⟩
    have hpos : 0 < L.length := List.length_pos_iff.2 hl
    have E2 := heap_alloc_new (w.alloc (.cells #[.int .i64 kind, .int .i64 level, .slice (some ⟨b, off, none⟩) L.length cI, .slice aD data.length cD, .int .i64 next] 25)) (.cells #[.slice ak k.length ck] 23)
    rw [size_alloc] at E2
    have cg := cell_of_row _ (w.heap.size + 1) 0 _ _ _ E2
    have CI := hide fun (a : Option Addr) (c : Nat) (hj : Js w a (L.drop 1)) => Index_rou _ a c (L.drop 1) (hj.keep A1.out) (w.heap.size + 1) ak ck k cg (hB.keep A1.out)
    have LE : Hid ((L.drop 1).length = L.length - 1) := by show _ = _; simp
    rw [LE.out] at CI
    have RZ : Hid (rout k (L.map Iv.it) = upto k ((L.drop 1).map Iv.it)) := by show _ = _; unfold rout; rw [List.map_drop]
    have UL : Hid (upto k ((L.drop 1).map Iv.it) ≤ L.length - 1) := by
      show _ ≤ _
      have := upto_le k ((L.drop 1).map Iv.it)
      rwa [List.length_map, LE.out] at this
    have JD := hide (HJ.out.drop 1)
    rw [RZ.out]
    generalize upto k ((L.drop 1).map Iv.it) = u at *
    clear RZ LE HJ hP h0 hl E2 cg
    obtain ⟨m, hm⟩ : ∃ m, L.length = m + 1 := ⟨L.length - 1, by omega⟩
    rw [hm] at A1 CI UL hc hL hpos ⊢
    simp only [Nat.add_sub_cancel] at CI UL
    unfold rouV at CI
    have JN := hide fun (a : Option Addr) => (show m = 0 → Js w a (L.drop 1) from fun e => by
      have : L.drop 1 = [] := List.drop_eq_nil_of_le (by omega)
      rw [this]; exact Js.nil _ _)
    clear hm
    have hmI : ¬ ((m : Int) + 1 = 0) := by omega
    by_cases hu : u < m
    · rw [if_pos hu] at CI
      go_enter Try.func33, Try.ntmps33
      go_wp2_with (go_at_call 38; refine (CI.out _ _ (by first | exact JD.out | (simpa using JD.out) | exact JN.out _ (by omega))).mono ?_; rintro _ w2 ⟨rfl, h2⟩)
      all_goals
        go_ret
        exact ⟨rfl, bt A1.out h2⟩
    · obtain rfl : u = m := by have := UL.out; omega
      rw [if_neg hu] at CI
      clear hu
      by_cases hc1 : cI = 1
      · subst hc1
        obtain rfl : u = 0 := by omega
        simp only [Nat.zero_add] at A1 CI ⊢
        clear hc hL hpos hmI UL
        go_enter Try.func33, Try.ntmps33
        go_wp2_with (go_at_call 38; refine (CI.out _ _ (JN.out _ rfl)).mono ?_; rintro _ w2 ⟨rfl, h2⟩)
        all_goals
          go_ret
          exact ⟨rfl, bt A1.out h2⟩
      · have hc2 : 1 < cI := by omega
        have hc3 : (1 : Int) < (cI : Int) := by omega
        go_enter Try.func33, Try.ntmps33
        go_wp2_with (go_at_call 38; refine (CI.out _ _ JD.out).mono ?_; rintro _ w2 ⟨rfl, h2⟩)
        all_goals
          go_ret
          exact ⟨rfl, bt A1.out h2⟩
end Go.Proofs.Ytoachodngjlpaaa
