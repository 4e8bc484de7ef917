import Derived.Test.YtlflcdjaknnfaabKHB
namespace Go.Proofs.Ytlflcdjaknnfaab
open Go.RowKit
open Go.ChangeMaps (setBlock)

theorem infoWtn3 : (Try.prog.info? 77).map (fun i => (i.zero, i.size, i.bytes)) = some (some (.agg #[.int .i64 0, .slice none 0 0]), 2, 32) := by kernel_rfl
/-- a write of the document's -/
def hw (j g c : Nat) : List Value := [.int .i64 (j : Int), .slice (some ⟨g, 0, none⟩) 512 c]
/-- a write of the document's is appended -/
theorem run_apH (w : World) (a : Option Addr) (n cap : Nat) (U : Uns) (A : List (Nat × Nat)) (hA : A.length = U.length) (hn : n = U.length) (hR : w.ownsRow 0 77 2 (.slice a n cap) n (hU U A)) (ad : Addr) (c j g2 c2 : Nat) (b : List Nat)
    (hc : ∀ m v, (hw j g2 c2)[m]? = some v → w.cell? (ad.add m) = some v) (hlen : U.length + 1 ≤ 268435456) (ty : TypeId) :
    ∃ g cap' w', (Builtin.append_ #[50, 50] ty #[.slice a n cap, .slice (some ad) 1 c]).run Try.prog w = .ok (.slice (some ⟨g, 0, none⟩) (n + 1) cap') w' ∧
      w'.ownsRow 0 77 2 (.slice (some ⟨g, 0, none⟩) (n + 1) cap') (n + 1) (hU (U ++ [(j, b)]) (A ++ [(g2, c2)])) ∧ w.grownBy w' (a.map Addr.block) ∧ (a.map Addr.block = some g ∨ g = w.heap.size) ∧ g < w'.heap.size := by
  subst hn
  obtain ⟨i0, hi, hz0, hz1, hz2⟩ := info_parts infoWtn3
  obtain ⟨g, cap', w', hr, h1, h2, h3, h4⟩ := run_append_lies (P := Try.prog) w 50 ty 0 77 i0 _ 2 32 Try.underlying50 hi hz0 hz1 hz2 (by rfl) (by decide) (.slice a U.length cap) U.length (hU U A) hR ad 1 c (hw j g2 c2) rfl hc (by intro u hu; simp only [hw, List.mem_cons, List.not_mem_nil, or_false] at hu; rcases hu with rfl | rfl <;> rfl) (by decide) (by unfold maxLen; omega) (by omega) (Nat.zero_le _) w.heap.size rfl
  rw [ob_eq] at h2 h3
  exact ⟨g, cap', w', hr, by rw [hU_snoc hA]; exact h1, h2, h3, h4⟩
theorem own_row_ne {w : World} {e s n : Nat} {a : Option Addr} {m c : Nat} {C : List Value} {g cap : Nat} {l : List Nat} (h : w.ownsRow 0 e s (.slice a m c) n C) (hr : Rw w (some ⟨g, 0, none⟩) cap l) (hne : 5 ≠ e) : ∀ x, a = some x → x.block ≠ g := by
  rcases hr.cases with ⟨e, _⟩ | ⟨g', cur, e, hg, _⟩
  · cases e
  · cases e
    exact own_ne h (D := cur.toList) (by simpa using hg) hne
section
variable {F : Nat → Prop} {w w' : World} {q la lc : Nat} {wa : Option Addr} {wc : Nat} {A : List (Nat × Nat)} {S : Sd}
/-- a write is one of those that were not synced -/
theorem HkAt.wrote (h : HkAt F w q la lc wa wc A S) {w4 w5 : World} {g cap' j g2 c2 : Nat} {b : List Nat} (hb4 : Below w.heap.size w w4) (hr : Rw w4 (some ⟨g2, 0, none⟩) c2 b) (hg2 : w.heap.size ≤ g2)
    (hg : w4.grownBy w5 (wa.map Addr.block)) (ho : w5.ownsRow 0 77 2 (.slice (some ⟨g, 0, none⟩) (S.uns.length + 1) cap') (S.uns.length + 1) (hU (S.uns ++ [(j, b)]) (A ++ [(g2, c2)]))) (hl : wa.map Addr.block = some g ∨ g = w4.heap.size) (hgl : g < w5.heap.size)
    (hj : j < S.n) (hb : Blk b) (hw1 : S.wr + 1 ≤ 4611686018427387904) (hu1 : S.uns.length + 1 ≤ 268435456) :
    w5.heap[q]? = some (.cells (hc S la lc wa wc).toArray 52 (0, 0)) ∧
    ∀ W, W = (w5.setCell ⟨q, 1, none⟩ (.slice (some ⟨g, 0, none⟩) (S.uns.length + 1) cap')).setCell ⟨q, 4, none⟩ (.int .i64 ((S.wr : Int) + 1)) →
      HkAt (ext F w W) W q la lc (some ⟨g, 0, none⟩) cap' (A ++ [(g2, c2)]) (S.wrote j b) ∧ But F w W := by
  have hT : But (fun k => wa.map Addr.block = some k) w w5 := ((But.ofBelow hb4 : But (fun k => wa.map Addr.block = some k) w w4)).grown hg (fun k hk _ => hk)
  have hT4 : But (fun k => wa.map Addr.block = some k) w4 w5 := (But.refl _ w4).grown hg (fun k hk _ => hk)
  have hnu : ∀ k, (∀ x, wa = some x → x.block ≠ k) → wa.map Addr.block ≠ some k := by
    intro k hk e
    obtain ⟨x, hx, e2⟩ := map_some e
    exact hk x hx e2
  have hq := h.lt _ h.fq
  have hs4 := hb4.size
  have hs5 := hT.size
  have nq : wa.map Addr.block ≠ some q := hnu q h.nw
  have nl : wa.map Addr.block ≠ some la := hnu la (own_row_ne h.u h.l (by decide))
  have hq5 : w5.heap[q]? = some (.cells (hc S la lc wa wc).toArray 52 (0, 0)) := (hT.block q hq nq).trans h.blk
  refine ⟨hq5, fun W hW => ?_⟩
  have hF5 : But F w w5 := hT.mono (fun k _ hk => by
    obtain ⟨x, hx, e⟩ := map_some hk
    exact e ▸ h.fw x hx)
  have hb5 : But (· = q) w5 W := by rw [hW]; exact (set_but w5 q 1 _).trans (set_but _ q 4 _) (fun _ _ h => h)
  have hsW : W.heap.size = w5.heap.size := by rw [hW, set_size, set_size]
  have hg2l : g2 < w4.heap.size := hr.lt rfl
  have hgp : g ≠ q := by
    intro e
    subst e
    rcases hl with e | e
    · exact nq e
    · omega
  have hfg : ext F w W g := by
    rcases hl with e | e
    · obtain ⟨y, hy, e2⟩ := map_some e
      exact .inl (e2 ▸ h.fw y hy)
    · exact .inr ⟨by omega, by omega⟩
  refine ⟨{ ok := h.ok.wrote hj hb hw1 hu1, blk := ?_, l := ?_, u := ?_, a := ?_, r := ?_, fq := .inl h.fq, fl := .inl h.fl, fw := ?_, lt := ext_lt h.lt (by omega) }, hF5.trans hb5 (fun _ _ e => e ▸ h.fq)⟩
  · rw [hW, set_blk (set_blk hq5)]
    have hi : (S.wrote j b).img = S.img := rfl
    simp [hc, Sd.wrote, Sd.img]
  · exact (h.l.but hT (fun x hx => by cases hx; exact nl)).but hb5 (fun x hx => by cases hx; exact h.nl)
  · show W.ownsRow 0 77 2 (.slice _ (S.uns ++ [(j, b)]).length _) (S.uns ++ [(j, b)]).length _
    rw [List.length_append, List.length_singleton]
    exact own_but ho hb5 (fun x hx => by cases hx; exact hgp)
  · show (A ++ [(g2, c2)]).length = (S.uns ++ [(j, b)]).length
    simp [h.a]
  · intro i u x h1 h2
    have h1 : (S.uns ++ [(j, b)])[i]? = some u := h1
    by_cases hi : i < S.uns.length
    · rw [List.getElem?_append_left hi] at h1
      rw [List.getElem?_append_left (by rw [h.a]; exact hi)] at h2
      obtain ⟨r1, r2, r3⟩ := h.r i u x h1 h2
      have hne : wa.map Addr.block ≠ some x.1 := hnu x.1 (own_row_ne h.u r1 (by decide))
      exact ⟨(r1.but hT (fun y hy => by cases hy; exact hne)).but hb5 (fun y hy => by cases hy; exact h.na h1 h2), r2, .inl r3⟩
    · rw [List.getElem?_append_right (by omega)] at h1
      rw [List.getElem?_append_right (by rw [h.a]; omega)] at h2
      have hi0 : i - S.uns.length = 0 := by
        have := (List.getElem?_eq_some_iff.1 h1).1
        simp at this
        omega
      rw [hi0] at h1
      rw [h.a, hi0] at h2
      cases h1
      cases h2
      have hla := h.lt _ h.fl
      have hne : wa.map Addr.block ≠ some g2 := by
        intro e
        obtain ⟨y, hy, e2⟩ := map_some e
        have := h.lt _ (h.fw y hy)
        omega
      refine ⟨(hr.but hT4 (fun y hy => by cases hy; exact hne)).but hb5 (fun y hy => by cases hy; show g2 ≠ q; omega), by show g2 ≠ la; omega, .inr ⟨hg2, ?_⟩⟩
      have := hT4.size
      show g2 < _
      omega
  · intro x hx
    cases hx
    exact hfg
theorem HkAt.ext0 (h : HkAt F w q la lc wa wc A S) {v : World} (hs : v.heap.size ≤ w.heap.size) (hv : ∀ k, F k → k < v.heap.size) : HkAt (ext F v w) w q la lc wa wc A S := h.mono (fun _ h => .inl h) (ext_lt hv hs)
set_option maxHeartbeats 2000000 in
theorem hwrite_done (h : HkAt F w q la lc wa wc A S) (j : Nat) (hj : j < S.n) (a : Option Addr) (c : Nat) (b : List Nat) (hB : Bs w a b) (hk : Blk b) (hA : ∀ x, a = some x → b ≠ [] → ¬ F x.block) (hU : S.uns.length + 1 ≤ 268435456) (hW : S.wr + 1 ≤ 4611686018427387904) (hp : S.pow = true) (ha : S.acts = true) :
    Calls Try.prog 10 #[.pointer (some ⟨q, 0, none⟩), .int .i64 (j : Int), .slice a 512 c] w fun e w' => e = .returned (.int .i64 0) ∧ Hk (ext F w w') w' q (S.act.wrote j b) ∧ But F w w' := by
  have c4 : w.cell? ⟨q, 2, none⟩ = some (.bool true) := by rw [← hp]; exact h.cell 2
  have hhas : S.has (j : Int) = true := Sd.has_iff.2 ⟨by omega, by omega⟩
  have H1 := hide (hhas_any h (j : Int))
  rw [hhas] at H1
  have H2 := hide (hact_any h)
  rw [ha] at H2
  have HL0 := hide h.lt
  have HB := hide hB
  have HL := hide (show S.act.uns.length + 1 ≤ 268435456 ∧ S.act.wr + 1 ≤ 4611686018427387904 ∧ j < S.act.n from ⟨by rw [Sd.act_uns]; exact hU, by rw [Sd.act_wr]; exact hW, by rw [Sd.act_n]; exact hj⟩)
  generalize hS1 : S.act = S1 at *
  clear h hhas hp ha hB hS1 hU hW
  go_enter Try.func10, Try.ntmps10
  go_wp2_with (first | (go_at_call 42; refine H1.out.mono ?_; rintro e w1 ⟨rfl, e1⟩; have e1 := e1.symm; subst e1) | (go_at_call 43; refine H2.out.mono ?_; rintro e w1 ⟨rfl, h1⟩; have HD1 := hide h1; clear h1))
  have s0 : w1.drew.cell? ⟨q, 1, none⟩ = some (.slice wa S1.uns.length wc) := (HD1.out.1.keep (drw w1)).cell 1
  have hlt2 : q < w1.drew.heap.size := block_lt_of_cell s0
  have C1 := hide (CopyBytes_any w1.drew a 512 c b ((HB.out.but HD1.out.2 (fun x hx h0 => hA x hx h0)).keep (drw w1)) hk.1.symm (by rw [hk.1]; omega))
  have HPST : Hid (∀ w3 a2 c2, Below w1.drew.heap.size w1.drew w3 → Rw w3 a2 c2 b → New w1.drew none a2 → ∃ g2, a2 = some ⟨g2, 0, none⟩ ∧ ∃ g cp w5, (Builtin.append_ #[50, 50] 50 #[.slice wa S1.uns.length wc, .slice (some ⟨w3.heap.size, 0, none⟩) 1 1]).run Try.prog (w3.alloc (.cells #[.int .i64 (j : Int), .slice (some ⟨g2, 0, none⟩) 512 c2] 77)) = .ok (.slice (some ⟨g, 0, none⟩) (S1.uns.length + 1) cp) w5 ∧
      w5.cell? ⟨q, 1, none⟩ = some (.slice wa S1.uns.length wc) ∧ w5.frozen? ⟨q, 1, none⟩ = false ∧ w5.cell? ⟨q, 4, none⟩ = some (.int .i64 (S1.wr : Int)) ∧ w5.frozen? ⟨q, 4, none⟩ = false ∧
      Hid (∀ W, W = (w5.setCell ⟨q, 1, none⟩ (.slice (some ⟨g, 0, none⟩) (S1.uns.length + 1) cp)).setCell ⟨q, 4, none⟩ (.int .i64 ((S1.wr : Int) + 1)) → Hk (ext F w1 W) W q (S1.wrote j b) ∧ But F w1 W)) := by
    intro w3 a2 c2 hb3 hr3 hn3
    obtain ⟨l1, l2, l3⟩ := HL.out
    rcases hr3.cases with ⟨_, _, e0⟩ | ⟨g2, cur, rfl, _⟩
    · have := hk.1
      rw [e0] at this
      cases this
    · have hg2 : w1.heap.size ≤ g2 := by
        rcases hn3 _ rfl with ⟨y, hy, _⟩ | h
        · cases hy
        · exact h
      have hb4 : Below w1.heap.size w1 (w3.alloc (.cells #[.int .i64 (j : Int), .slice (some ⟨g2, 0, none⟩) 512 c2] 77)) := bt (bt (drw w1) hb3) (al _ _)
      have hD := HD1.out.1
      obtain ⟨g, cp, w5, r1, r2, r3, r4, r5⟩ := run_apH (w3.alloc (.cells #[.int .i64 (j : Int), .slice (some ⟨g2, 0, none⟩) 512 c2] 77)) wa S1.uns.length wc S1.uns A hD.a rfl (own_but hD.u (T := fun _ => False) (But.ofBelow hb4) (fun _ _ h => h)) ⟨w3.heap.size, 0, none⟩ 1 j g2 c2 b (by
        intro m v hv
        rw [Addr.add_mid, cell_of_row _ _ _ _ _ _ (heap_alloc_last w3 _)]
        simpa [hw] using hv) l1 50
      obtain ⟨q1, q2⟩ := hD.wrote hb4 (hr3.keep (al _ _)) hg2 r3 r2 r4 r5 l3 hk l2 l1
      exact ⟨g2, rfl, g, cp, w5, r1, by rw [cell_of_row _ _ _ _ _ _ q1]; rfl, frozen_of_row _ _ _ _ _ q1, by rw [cell_of_row _ _ _ _ _ _ q1]; rfl, frozen_of_row _ _ _ _ _ q1, fun W hW => ⟨⟨_, _, _, _, _, (q2 W hW).1⟩, (q2 W hW).2⟩⟩
  have hwr := w64 (j := S1.wr) (by have := HL.out.2.1; omega)
  have HX := hide HD1.out.2
  clear HB HL HD1 H1 H2 c4
  go_region_law
    (first
      | (refine step_run rfl _ _ 50 rfl _ _ _ (by simp [Act.eval]) (by simp [Act.eval]) hrun ?_)
      | (refine step_call rfl 8 _ _ rfl (enters_of Try.func8 (by kernel_rfl) rfl) _ (by first | (simp [Act.eval]; done) | simp [Act.eval, Act.put]) C1.out ?_; rintro e w3 ⟨a2, c2, rfl, hr3, hn3, hb3⟩; refine ⟨_, rfl, ?_⟩; have s3 := (hb3.cell (p := ⟨q, 1, none⟩) hlt2).trans s0; obtain ⟨g2, rfl, g, cp, w5, hrun, x1, x2, x3, x4, x5⟩ := HPST.out w3 a2 c2 hb3 hr3 hn3; have s4 := ((al w3 (.cells #[.int .i64 (j : Int), .slice (some ⟨g2, 0, none⟩) 512 c2] 77)).cell (p := ⟨q, 1, none⟩) (block_lt_of_cell s3)).trans s3; clear hb3 hr3 hn3))
  all_goals
    go_wp2
    go_ret
    have q := x5.out _ rfl
    exact ⟨rfl, q.1.mono (fun k hk => by
      rcases hk with h | h
      · exact .inl h
      · exact .inr ⟨Nat.le_trans HX.out.size h.1, h.2⟩) (ext_lt HL0.out (Nat.le_trans HX.out.size q.2.size)), HX.out.trans q.2 (fun _ _ h => h)⟩
set_option maxHeartbeats 2000000 in
theorem hWrite_any (h : HkAt F w q la lc wa wc A S) (i : Int) (a : Option Addr) (n c : Nat) (b : List Nat) (hB : Bs w a b) (hn : n = b.length) (hA : ∀ x, a = some x → b ≠ [] → ¬ F x.block) (hU : S.uns.length + 1 ≤ 268435456) (hW : S.wr + 1 ≤ 4611686018427387904) :
    Calls Try.prog 10 #[.pointer (some ⟨q, 0, none⟩), .int .i64 i, .slice a n c] w fun e w' => e = .returned (.int .i64 (S.writeE i b : Int)) ∧ Hk (ext F w w') w' q (S.write i b) ∧ But F w w' := by
  have c4 : w.cell? ⟨q, 2, none⟩ = some (.bool S.pow) := h.cell 2
  have H1 := hide (hhas_any h i)
  have HE := hide (show Hk (ext F w w) w q S ∧ But F w w from ⟨⟨_, _, _, _, _, h.ext0 (Nat.le_refl _) h.lt⟩, But.refl _ _⟩)
  cases hp : S.pow with
  | false =>
    have e1 : S.writeE i b = 17 := by unfold Sd.writeE; rw [if_pos hp]
    have e2 : S.write i b = S := by unfold Sd.write; rw [if_pos hp]
    rw [e1, e2]
    rw [hp] at c4
    clear h H1 hB hn hA hU hW e1 e2 hp
    go_enter Try.func10, Try.ntmps10
    go_wp2
    go_ret
    exact ⟨rfl, HE.out⟩
  | true =>
    rw [hp] at c4
    cases hh : S.has i with
    | false =>
      have e1 : S.writeE i b = 16 := by unfold Sd.writeE; rw [if_neg (by rw [hp]; decide), if_pos hh]
      have e2 : S.write i b = S := by unfold Sd.write; rw [if_neg (by rw [hp]; decide), if_pos hh]
      rw [hh] at H1
      rw [e1, e2]
      clear h hB hn hA hU hW e1 e2 hp hh
      go_enter Try.func10, Try.ntmps10
      go_wp2_with (go_at_call 42; refine H1.out.mono ?_; rintro e w1 ⟨rfl, e1⟩; have e1 := e1.symm; subst e1)
      go_ret
      exact ⟨rfl, HE.out⟩
    | true =>
      rw [hh] at H1
      by_cases hl : b.length = 512
      · cases ha : S.acts with
        | false =>
          have e1 : S.writeE i b = 17 := by unfold Sd.writeE; rw [if_neg (by rw [hp]; decide), if_neg (by rw [hh]; decide), if_neg (by simpa using hl), if_pos ha]
          have e2 : S.write i b = S.act := by unfold Sd.write; rw [if_neg (by rw [hp]; decide), if_neg (by rw [hh]; decide), if_neg (by simpa using hl), if_pos ha]
          have H2 := hide (hact_any h)
          have HL := hide h.lt
          rw [ha] at H2
          rw [e1, e2]
          obtain rfl : n = 512 := by omega
          clear h hB hn hA hU hW e1 e2 hp hh ha
          generalize S.act = S1 at *
          go_enter Try.func10, Try.ntmps10
          go_wp2_with (first | (go_at_call 42; refine H1.out.mono ?_; rintro e w1 ⟨rfl, e1⟩; have e1 := e1.symm; subst e1) | (go_at_call 43; refine H2.out.mono ?_; rintro e w1 ⟨rfl, h1⟩; have HD1 := hide h1; clear h1))
          go_ret
          exact ⟨rfl, ⟨_, _, _, _, _, HD1.out.1.ext0 HD1.out.2.size HL.out⟩, HD1.out.2⟩
        | true =>
          obtain ⟨h0, hn0⟩ := Sd.has_iff.1 hh
          obtain ⟨j, rfl⟩ : ∃ j : Nat, i = (j : Int) := ⟨i.toNat, by omega⟩
          have e1 : S.writeE (j : Int) b = 0 := by unfold Sd.writeE; rw [if_neg (by rw [hp]; decide), if_neg (by rw [hh]; decide), if_neg (by simpa using hl), if_neg (by rw [ha]; decide)]
          have e2 : S.write (j : Int) b = S.act.wrote j b := by unfold Sd.write; rw [if_neg (by rw [hp]; decide), if_neg (by rw [hh]; decide), if_neg (by simpa using hl), if_neg (by rw [ha]; decide)]; rfl
          rw [e1, e2]
          obtain rfl : n = 512 := by omega
          exact hwrite_done h j (by omega) a c b hB ⟨hl, hB.1⟩ hA hU hW hp ha
      · have e1 : S.writeE i b = 1 := by unfold Sd.writeE; rw [if_neg (by rw [hp]; decide), if_neg (by rw [hh]; decide), if_pos hl]
        have e2 : S.write i b = S := by unfold Sd.write; rw [if_neg (by rw [hp]; decide), if_neg (by rw [hh]; decide), if_pos hl]
        have hne : ((n : Int) == 512) = false := eqf (by omega)
        have hne2 : ¬ (n : Int) = 512 := by omega
        rw [e1, e2]
        clear h hB hn hA hU hW e1 e2 hp hh
        go_enter Try.func10, Try.ntmps10
        go_wp2_with (go_at_call 42; refine H1.out.mono ?_; rintro e w1 ⟨rfl, e1⟩; have e1 := e1.symm; subst e1)
        go_ret
        exact ⟨rfl, HE.out⟩
end
end Go.Proofs.Ytlflcdjaknnfaab
