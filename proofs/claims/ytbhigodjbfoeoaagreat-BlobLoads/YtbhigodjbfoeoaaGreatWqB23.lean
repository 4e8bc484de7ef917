import Derived.Test.YtbhigodjbfoeoaaGreatWqB22
section
namespace Go.Proofs.YtbhigodjbfoeoaaGreat
set_option linter.unusedVariables false
set_option linter.unusedSimpArgs false
open Go.RowKit
def nlv (z : Int) (p : Pv) : Value := .agg #[.int .i64 z, .int .i64 p.kind, .int .i64 p.level, .slice p.aI p.items.length p.cI, .slice p.aD p.data.length p.cD, .int .i64 p.next]
def flay (f : Int → Option Pv) (z : Int) (q : Pv) : Int → Option Pv := fun k => if k = z then some q else f k
theorem six_cells {W : World} {g : Nat} {v0 v1 v2 v3 v4 v5 : Value} {t : TypeId} (h : W.heap[g]? = some (.cells #[v0, v1, v2, v3, v4, v5] t (0, 0))) : W.cell? ⟨g, 0, none⟩ = some v0 ∧ W.cell? ⟨g, 1, none⟩ = some v1 ∧ W.cell? ⟨g, 2, none⟩ = some v2 ∧ W.cell? ⟨g, 3, none⟩ = some v3 ∧ W.cell? ⟨g, 4, none⟩ = some v4 ∧ W.cell? ⟨g, 5, none⟩ = some v5 := by
  refine ⟨?_, ?_, ?_, ?_, ?_, ?_⟩ <;> (rw [cell_of_row _ _ _ _ _ _ h]; rfl)
theorem Vw.look2 {w : World} {b : Nat} {S : Vs} {pb mb : Nat} {pc col : Nat → Nat} (h : Vw w b S pb mb pc col) (z : Int) : (Instr.lookup 46 (.map (some mb)) (.int .i64 z) true).run Tryz.prog w = .ok (.tuple #[(S.X.on z).vl, .bool (S.X.f z).isSome]) w := by
  obtain ⟨ac, cc, aa, ca, h⟩ := h
  have k := h.mp.look undMapp undInt Pv.zero.vl (Tryz.zeroValue93 w) z true
  rw [k]
  simp only [if_true]
  unfold Vm.on
  cases S.X.f z <;> rfl
theorem Vw.c1 {w : World} {b : Nat} {S : Vs} {pb mb : Nat} {pc col : Nat → Nat} (h : Vw w b S pb mb pc col) : w.cell? ⟨b, 1, none⟩ = some (.map (some mb)) := by
  obtain ⟨ac, cc, aa, ca, h⟩ := h
  exact h.cells.2.1
theorem Vw.laid {w w5 : World} {b : Nat} {S : Vs} {pb mb : Nat} {pc col : Nat → Nat} (h : Vw w b S pb mb pc col) (z : Int) (q : Pv) (hb : Below w.heap.size w w5) (hq : Pn w w5 q) (hl : q.items.length ≤ 2199023255489) :
    ∃ w6, (Instr.mapUpdate 46 (.map (some mb)) (.int .i64 z) q.vl).run Tryz.prog w5 = .ok () w6 ∧ (∃ col', Vw w6 b ⟨⟨S.X.P, flay S.X.f z q, S.X.ch⟩, S.al, S.fl⟩ pb mb pc col' ∧ Vf w col w6 col') ∧ But (fun k => k = mb) w5 w6 ∧ w6.heap.size = w5.heap.size := by
  obtain ⟨aa, ca, hx⟩ := h.vx
  obtain ⟨p1, f1⟩ := hx.page hb
  obtain ⟨ac, cc, v1⟩ := p1
  obtain ⟨w6, hr, hm, hB, hs⟩ := v1.mp.store undMapp undInt z q.vl
  refine ⟨w6, hr, ⟨paint col w w5 6, ⟨ac, cc, aa, ca, ?_⟩, f1.trans ⟨?_, fun _ _ => rfl⟩⟩, hB, hs⟩
  · have e : (fun k => (flay S.X.f z q k).map Pv.vl) = mput (fun k => (S.X.f k).map Pv.vl) z q.vl := by
      funext k
      unfold flay mput
      split <;> rfl
    refine v1.mapped (f' := flay S.X.f z q) (by rw [e]; exact hm) hB (fun k p hp => ?_)
    unfold flay at hp
    split at hp
    · cases hp; exact hq.pz hl
    · exact v1.fz k p hp
  · exact hB.mono (fun k hk e => by
      have e : k = mb := e
      rw [e]
      have := v1.cm
      show 1 ≤ _ ∧ _ ≤ 5
      rw [show paint col w w5 6 mb = 2 from this]
      decide)
def VLd (w w' : World) (e : Ending) (b : Nat) (S : Vs) (pb mb : Nat) (pc col : Nat → Nat) (z : Int) (p : Pv) : Prop :=
      (∃ er : Nat, er ≠ 0 ∧ e = .returned (.int .i64 ((er : Nat) : Int)) ∧ (if ¬ 0 < S.X.P.count z then 15 else if (S.X.f z).isSome = true then 10 else p.pg.check) = er ∧ Below w.heap.size w w') ∨
      (0 < S.X.P.count z ∧ (S.X.f z).isSome = false ∧ p.pg.check = 0 ∧ e = .returned (.int .i64 0) ∧ ∃ (q : Pv) (col' : Nat → Nat), q.pg = p.pg ∧ Vw w' b ⟨⟨S.X.P, flay S.X.f z q, S.X.ch⟩, S.al, S.fl⟩ pb mb pc col' ∧ Vf w col w' col')
set_option maxHeartbeats 16000000 in
set_option maxRecDepth 8000 in
theorem vload_any (w : World) (b : Nat) (S : Vs) (pb mb : Nat) (pc col : Nat → Nat) (h : Vw w b S pb mb pc col) (z : Int) (p : Pv) (hP : Pi w p) :
    Calls Tryz.prog 59 #[.pointer (some ⟨b, 0, none⟩), nlv z p] w fun e w' => VLd w w' e b S pb mb pc col z p := by
  have A0 := hide (al w (.cells #[.int .i64 z, .int .i64 p.kind, .int .i64 p.level, .slice p.aI p.items.length p.cI, .slice p.aD p.data.length p.cD, .int .i64 p.next] 107))
  have X0 := hide (heap_alloc_new w (.cells #[.int .i64 z, .int .i64 p.kind, .int .i64 p.level, .slice p.aI p.items.length p.cI, .slice p.aD p.data.length p.cD, .int .i64 p.next] 107))
  unfold nlv
  have HV := hide h
  have HP := hide hP
  clear h hP
  have V0 := hide (HV.out.keep A0.out)
  have TH := hide (there_st _ b S pb mb pc col V0.out z)
  by_cases hc : 0 < S.X.P.count z
  · rw [decide_eq_true hc] at TH
    have HC := hide hc
    clear hc
    go_enter Tryz.func59, Tryz.ntmps59
    go_wp2_with fail
    refine TH.out.mono ?_
    rintro _ wq ⟨rfl, hwq⟩
    rw [hwq]
    clear hwq TH
    go_upto_region 3 with fail
    generalize hw1 : (w.alloc (.cells #[.int .i64 z, .int .i64 p.kind, .int .i64 p.level, .slice p.aI p.items.length p.cI, .slice p.aD p.data.length p.cD, .int .i64 p.next] 107)) = w1 at *
    clear hw1
    have lx : w.heap.size < w1.heap.size := (Array.getElem?_eq_some_iff.1 X0.out).1
    generalize w.heap.size = xb at X0 lx ⊢
    have SS : Hid (∀ W : World, Below w1.heap.size w1 W → W.cell? ⟨b, 1, none⟩ = some (.map (some mb)) ∧ W.cell? ⟨xb, 0, none⟩ = some (.int .i64 z) ∧ (Instr.lookup 46 (.map (some mb)) (.int .i64 z) true).run Tryz.prog W = .ok (.tuple #[(S.X.on z).vl, .bool (S.X.f z).isSome]) W) := fun W hb => ⟨(V0.out.keep hb).c1, (six_cells (blk13 X0.out hb)).1, (V0.out.keep hb).look2 z⟩
    have DR := hide (dr2 w1)
    obtain ⟨bo, hbo⟩ : ∃ bo, (S.X.f z).isSome = bo := ⟨_, rfl⟩
    simp only [hbo] at SS
    have HBO := hide hbo
    clear hbo
    have OV : Hid ((S.X.on z).vl = .agg (S.X.on z).cs) := rfl
    simp only [OV.out] at SS
    refine wp_region_held_drew (S := fun W => W.cell? ⟨b, 1, none⟩ = some (.map (some mb)) ∧ W.cell? ⟨xb, 0, none⟩ = some (.int .i64 z) ∧ (Instr.lookup 46 (.map (some mb)) (.int .i64 z) true).run Tryz.prog W = .ok (.tuple #[.agg (S.X.on z).cs, .bool bo]) W) (by kernel_rfl) (SS.out _ DR.out) (fun hHeld => ?_)
    refine wpAnyH_take (i := 0) (v := ?vaa0) rfl (by kernel_rfl) (by kernel_rfl) (by kernel_rfl) (fun _ _ _ h => h) (Or.inl ⟨by rfl, ?hya0⟩) (by assumption) ?raa0
    case hya0 => (intro wq hSw; (try dsimp only at hSw); obtain ⟨e1, e2, e3⟩ := hSw; go_simp <;> with_reducible rfl)
    try simp only [Act.put, List.getElem_toArray, List.getElem_cons_zero, List.setIfInBounds_toArray, List.set_cons_zero, List.set_cons_succ]
    refine wpAnyH_take (i := 1) (v := ?vaa1) rfl (by kernel_rfl) (by kernel_rfl) (by kernel_rfl) (fun _ _ _ h => h) (Or.inl ⟨by rfl, ?hya1⟩) (by assumption) ?raa1
    case hya1 => (intro wq hSw; (try dsimp only at hSw); obtain ⟨e1, e2, e3⟩ := hSw; go_simp <;> with_reducible rfl)
    try simp only [Act.put, List.getElem_toArray, List.getElem_cons_zero, List.getElem_cons_succ, List.setIfInBounds_toArray, List.set_cons_zero, List.set_cons_succ]
    refine wpAnyH_take (i := 2) (v := ?vaa2) rfl (by kernel_rfl) (by kernel_rfl) (by kernel_rfl) (fun _ _ _ h => h) (Or.inl ⟨by rfl, ?hya2⟩) (by assumption) ?raa2
    case hya2 => (intro wq hSw; (try dsimp only at hSw); obtain ⟨e1, e2, e3⟩ := hSw; go_simp <;> with_reducible rfl)
    try simp only [Act.put, List.getElem_toArray, List.getElem_cons_zero, List.getElem_cons_succ, List.setIfInBounds_toArray, List.set_cons_zero, List.set_cons_succ]
    refine wpAnyH_take (i := 3) (v := ?vaa3) rfl (by kernel_rfl) (by kernel_rfl) (by kernel_rfl) (fun _ _ _ h => h) (Or.inl ⟨by rfl, ?hya3⟩) (by assumption) ?raa3
    case hya3 => (intro wq hSw; (try dsimp only at hSw); obtain ⟨e1, e2, e3⟩ := hSw; go_simp <;> with_reducible rfl)
    try simp only [Act.put, List.getElem_toArray, List.getElem_cons_zero, List.getElem_cons_succ, List.setIfInBounds_toArray, List.set_cons_zero, List.set_cons_succ]
    refine wpAnyH_take (i := 4) (v := ?vaa4) rfl (by kernel_rfl) (by kernel_rfl) (by kernel_rfl) (fun _ _ _ h => h) (Or.inl ⟨by rfl, ?hya4⟩) (by assumption) ?raa4
    case hya4 => (intro wq hSw; (try dsimp only at hSw); obtain ⟨e1, e2, e3⟩ := hSw; go_simp <;> with_reducible rfl)
    try simp only [Act.put, List.getElem_toArray, List.getElem_cons_zero, List.getElem_cons_succ, List.setIfInBounds_toArray, List.set_cons_zero, List.set_cons_succ]
    refine wpAnyH_take (i := 5) (v := ?vaa5) rfl (by kernel_rfl) (by kernel_rfl) (by kernel_rfl) (fun _ _ _ h => h) (Or.inl ⟨by rfl, ?hya5⟩) (by assumption) ?raa5
    case hya5 => (intro wq hSw; (try dsimp only at hSw); obtain ⟨e1, e2, e3⟩ := hSw; go_simp <;> with_reducible rfl)
    try simp only [Act.put, List.getElem_toArray, List.getElem_cons_zero, List.getElem_cons_succ, List.setIfInBounds_toArray, List.set_cons_zero, List.set_cons_succ]
    refine wpAnyH_take (i := 6) (v := ?vaa6) rfl (by kernel_rfl) (by kernel_rfl) (by kernel_rfl) (fun _ _ _ h => h) (Or.inl ⟨by rfl, ?hya6⟩) (by assumption) ?raa6
    case hya6 => (intro wq hSw; (try dsimp only at hSw); obtain ⟨e1, e2, e3⟩ := hSw; go_simp <;> with_reducible rfl)
    try simp only [Act.put, List.getElem_toArray, List.getElem_cons_zero, List.getElem_cons_succ, List.setIfInBounds_toArray, List.set_cons_zero, List.set_cons_succ]
    refine wpAnyH_take (i := 7) (v := ?vaa7) rfl (by kernel_rfl) (by kernel_rfl) (by kernel_rfl) (fun _ _ _ h => h) (Or.inl ⟨by rfl, ?hya7⟩) (by assumption) ?raa7
    case hya7 => (intro wq hSw; (try dsimp only at hSw); obtain ⟨e1, e2, e3⟩ := hSw; go_simp <;> with_reducible rfl)
    try simp only [Act.put, List.getElem_toArray, List.getElem_cons_zero, List.getElem_cons_succ, List.setIfInBounds_toArray, List.set_cons_zero, List.set_cons_succ]
    refine wpAnyH_take (i := 8) (v := ?vaa8) rfl (by kernel_rfl) (by kernel_rfl) (by kernel_rfl) (fun _ _ _ h => h) (Or.inl ⟨by rfl, ?hya8⟩) (by assumption) ?raa8
    case hya8 => (intro wq hSw; (try dsimp only at hSw); obtain ⟨e1, e2, e3⟩ := hSw; go_simp <;> with_reducible rfl)
    try simp only [Act.put, List.getElem_toArray, List.getElem_cons_zero, List.getElem_cons_succ, List.setIfInBounds_toArray, List.set_cons_zero, List.set_cons_succ]
    refine wpAnyH_take (i := 9) (v := ?vaa9) rfl (by kernel_rfl) (by kernel_rfl) (by kernel_rfl) (fun _ _ _ h => h) (Or.inl ⟨by rfl, ?hya9⟩) (by assumption) ?raa9
    case hya9 => (intro wq hSw; (try dsimp only at hSw); obtain ⟨e1, e2, e3⟩ := hSw; go_simp <;> with_reducible rfl)
    try simp only [Act.put, List.getElem_toArray, List.getElem_cons_zero, List.getElem_cons_succ, List.setIfInBounds_toArray, List.set_cons_zero, List.set_cons_succ]
    have A1 := hide (bt DR.out (al w1.drew (.cells #[.int .i64 0, .int .i64 0, .slice none 0 0, .slice none 0 0, .int .i64 0] 93)))
    have X1 := hide (heap_alloc_new w1.drew (.cells #[.int .i64 0, .int .i64 0, .slice none 0 0, .slice none 0 0, .int .i64 0] 93))
    refine wpAnyH_ready (rs := [10]) (by kernel_rfl) (by simp) ?_
    refine AllReadyH.cons rfl (fun K hK => ?_) AllReadyH.nil
    go_simp
    refine hK.out _ _ (SS.out _ A1.out) (fun hHeld => ?_)
    clear hK K
    try simp only [Act.put, List.getElem_toArray, List.getElem_cons_zero, List.getElem_cons_succ, List.setIfInBounds_toArray, List.set_cons_zero, List.set_cons_succ]
    have DSW : (w1.drew.alloc (.cells #[.int .i64 0, .int .i64 0, .slice none 0 0, .slice none 0 0, .int .i64 0] 93)) = (w1.alloc (.cells #[.int .i64 0, .int .i64 0, .slice none 0 0, .slice none 0 0, .int .i64 0] 93)).drew := rfl
    rw [DSW] at A1 X1
    clear DSW
    generalize hw2 : (w1.alloc (.cells #[.int .i64 0, .int .i64 0, .slice none 0 0, .slice none 0 0, .int .i64 0] 93)).drew = w2 at *
    clear hw2
    have A2 := hide (below_row (S.X.on z).cs A1.out (Nat.le_refl _))
    refine wpAnyH_ready (rs := [11]) (by kernel_rfl) (by simp) ?_
    refine AllReadyH.cons rfl (fun K hK => ?_) AllReadyH.nil
    rw [if_pos (by rfl)]
    refine wp_store_row 93 _ _ rfl w1.heap.size _ rfl rfl 93 _ X1.out sizePage rfl (by simp [Pv.cs, Value.oneCell']) ?_
    refine hK.out _ _ (SS.out _ A2.out) (fun hHeld => ?_)
    clear hK K
    try simp only [Act.put, List.getElem_toArray, List.getElem_cons_zero, List.getElem_cons_succ, List.setIfInBounds_toArray, List.set_cons_zero, List.set_cons_succ]
    refine wpAnyH_take (i := 12) (v := ?vab12) rfl (by kernel_rfl) (by kernel_rfl) (by kernel_rfl) (fun _ _ _ h => h) (Or.inl ⟨by rfl, ?hyb12⟩) (by assumption) ?rab12
    case hyb12 => (intro wq hSw; (try dsimp only at hSw); obtain ⟨e1, e2, e3⟩ := hSw; go_simp <;> with_reducible rfl)
    try simp only [Act.put, List.getElem_toArray, List.getElem_cons_zero, List.getElem_cons_succ, List.setIfInBounds_toArray, List.set_cons_zero, List.set_cons_succ]
    refine wpAnyH_done (by kernel_rfl) ?_ _
    clear hHeld DR
    have X2 := hide (blk13 X0.out A2.out)
    have V2 := hide (V0.out.keep A2.out)
    have B2 := hide (bt A0.out A2.out)
    generalize hw3 : w2.setRow w1.heap.size (S.X.on z).cs = w3 at *
    have P2 := hide (HP.out.keep B2.out)
    clear hw3 A2 SS V0 X0 X1 A1
    cases bo with
    | true =>
      go_wp2_with fail
      go_ret
      exact .inl ⟨10, by decide, rfl, by rw [if_neg (fun e => e HC.out), if_pos HBO.out], B2.out⟩
    | false =>
      obtain ⟨y0, y1, y2, y3, y4, y5⟩ := six_cells X2.out
      have CK := hide (Check_any w3 p P2.out)
      have PV : Hid (p.vl = .agg #[.int .i64 p.kind, .int .i64 p.level, .slice p.aI p.items.length p.cI, .slice p.aD p.data.length p.cD, .int .i64 p.next]) := rfl
      rw [PV.out] at CK
      obtain ⟨ck, hck⟩ : ∃ c, p.pg.check = c := ⟨_, rfl⟩
      have HCK := hide hck
      rw [hck] at CK
      clear hck
      by_cases hc0 : ck = 0
      · subst hc0
        go_wp2_with fail
        refine CK.out.mono ?_
        rintro _ w4 ⟨rfl, hb4⟩
        have X4 := hide (blk13 X2.out hb4)
        have V4 := hide (V2.out.keep hb4)
        have B4 := hide (bt B2.out hb4)
        have P4 := hide (P2.out.keep hb4)
        clear hb4 CK X2 V2 y0 y1 y2 y3 y4 y5 B2 P2
        have DR := hide (dr2 w4)
        have SS : Hid (∀ W : World, Below w4.heap.size w4 W → W.cell? ⟨b, 1, none⟩ = some (.map (some mb)) ∧ W.cell? ⟨xb, 0, none⟩ = some (.int .i64 z) ∧ W.cell? ⟨xb, 1, none⟩ = some (.int .i64 p.kind) ∧ W.cell? ⟨xb, 2, none⟩ = some (.int .i64 p.level) ∧ W.cell? ⟨xb, 3, none⟩ = some (.slice p.aI p.items.length p.cI) ∧ W.cell? ⟨xb, 4, none⟩ = some (.slice p.aD p.data.length p.cD) ∧ W.cell? ⟨xb, 5, none⟩ = some (.int .i64 p.next)) := fun W hb => ⟨(V4.out.keep hb).c1, six_cells (blk13 X4.out hb)⟩
        obtain ⟨sm, si⟩ := sml_ps (p := p) (.inl HCK.out)
        have CP := hide (copyOf_any w4.drew p (P4.out.keep DR.out) sm.1 sm.2)
        rw [PV.out] at CP
        have SI := hide si
        clear sm si
        go_upto_region 9 with fail
        refine wp_region_held_drew (S := fun W => W.cell? ⟨b, 1, none⟩ = some (.map (some mb)) ∧ W.cell? ⟨xb, 0, none⟩ = some (.int .i64 z) ∧ W.cell? ⟨xb, 1, none⟩ = some (.int .i64 p.kind) ∧ W.cell? ⟨xb, 2, none⟩ = some (.int .i64 p.level) ∧ W.cell? ⟨xb, 3, none⟩ = some (.slice p.aI p.items.length p.cI) ∧ W.cell? ⟨xb, 4, none⟩ = some (.slice p.aD p.data.length p.cD) ∧ W.cell? ⟨xb, 5, none⟩ = some (.int .i64 p.next)) (by kernel_rfl) (SS.out _ DR.out) (fun hHeld => ?_)
        refine wpAnyH_take (i := 0) (v := ?vac0) rfl (by kernel_rfl) (by kernel_rfl) (by kernel_rfl) (fun _ _ _ h => h) (Or.inl ⟨by rfl, ?hyc0⟩) (by assumption) ?rac0
        case hyc0 => (intro wq hSw; (try dsimp only at hSw); obtain ⟨e1, e2, e3, e4, e5, e6, e7⟩ := hSw; go_simp <;> with_reducible rfl)
        try simp only [Act.put, List.getElem_toArray, List.getElem_cons_zero, List.setIfInBounds_toArray, List.set_cons_zero, List.set_cons_succ]
        refine wpAnyH_take (i := 1) (v := ?vac1) rfl (by kernel_rfl) (by kernel_rfl) (by kernel_rfl) (fun _ _ _ h => h) (Or.inl ⟨by rfl, ?hyc1⟩) (by assumption) ?rac1
        case hyc1 => (intro wq hSw; (try dsimp only at hSw); obtain ⟨e1, e2, e3, e4, e5, e6, e7⟩ := hSw; go_simp <;> with_reducible rfl)
        try simp only [Act.put, List.getElem_toArray, List.getElem_cons_zero, List.getElem_cons_succ, List.setIfInBounds_toArray, List.set_cons_zero, List.set_cons_succ]
        refine wpAnyH_take (i := 2) (v := ?vac2) rfl (by kernel_rfl) (by kernel_rfl) (by kernel_rfl) (fun _ _ _ h => h) (Or.inl ⟨by rfl, ?hyc2⟩) (by assumption) ?rac2
        case hyc2 => (intro wq hSw; (try dsimp only at hSw); obtain ⟨e1, e2, e3, e4, e5, e6, e7⟩ := hSw; go_simp <;> with_reducible rfl)
        try simp only [Act.put, List.getElem_toArray, List.getElem_cons_zero, List.getElem_cons_succ, List.setIfInBounds_toArray, List.set_cons_zero, List.set_cons_succ]
        refine wpAnyH_take (i := 3) (v := ?vac3) rfl (by kernel_rfl) (by kernel_rfl) (by kernel_rfl) (fun _ _ _ h => h) (Or.inl ⟨by rfl, ?hyc3⟩) (by assumption) ?rac3
        case hyc3 => (intro wq hSw; (try dsimp only at hSw); obtain ⟨e1, e2, e3, e4, e5, e6, e7⟩ := hSw; go_simp <;> with_reducible rfl)
        try simp only [Act.put, List.getElem_toArray, List.getElem_cons_zero, List.getElem_cons_succ, List.setIfInBounds_toArray, List.set_cons_zero, List.set_cons_succ]
        refine wpAnyH_take (i := 4) (v := ?vac4) rfl (by kernel_rfl) (by kernel_rfl) (by kernel_rfl) (fun _ _ _ h => h) (Or.inl ⟨by rfl, ?hyc4⟩) (by assumption) ?rac4
        case hyc4 => (intro wq hSw; (try dsimp only at hSw); obtain ⟨e1, e2, e3, e4, e5, e6, e7⟩ := hSw; go_simp <;> with_reducible rfl)
        try simp only [Act.put, List.getElem_toArray, List.getElem_cons_zero, List.getElem_cons_succ, List.setIfInBounds_toArray, List.set_cons_zero, List.set_cons_succ]
        refine wpAnyH_take (i := 5) (v := ?vac5) rfl (by kernel_rfl) (by kernel_rfl) (by kernel_rfl) (fun _ _ _ h => h) (Or.inl ⟨by rfl, ?hyc5⟩) (by assumption) ?rac5
        case hyc5 => (intro wq hSw; (try dsimp only at hSw); obtain ⟨e1, e2, e3, e4, e5, e6, e7⟩ := hSw; go_simp <;> with_reducible rfl)
        try simp only [Act.put, List.getElem_toArray, List.getElem_cons_zero, List.getElem_cons_succ, List.setIfInBounds_toArray, List.set_cons_zero, List.set_cons_succ]
        refine wpAnyH_take (i := 6) (v := ?vac6) rfl (by kernel_rfl) (by kernel_rfl) (by kernel_rfl) (fun _ _ _ h => h) (Or.inl ⟨by rfl, ?hyc6⟩) (by assumption) ?rac6
        case hyc6 => (intro wq hSw; (try dsimp only at hSw); obtain ⟨e1, e2, e3, e4, e5, e6, e7⟩ := hSw; go_simp <;> with_reducible rfl)
        try simp only [Act.put, List.getElem_toArray, List.getElem_cons_zero, List.getElem_cons_succ, List.setIfInBounds_toArray, List.set_cons_zero, List.set_cons_succ]
        refine wpAnyH_take (i := 7) (v := ?vac7) rfl (by kernel_rfl) (by kernel_rfl) (by kernel_rfl) (fun _ _ _ h => h) (Or.inl ⟨by rfl, ?hyc7⟩) (by assumption) ?rac7
        case hyc7 => (intro wq hSw; (try dsimp only at hSw); obtain ⟨e1, e2, e3, e4, e5, e6, e7⟩ := hSw; go_simp <;> with_reducible rfl)
        try simp only [Act.put, List.getElem_toArray, List.getElem_cons_zero, List.getElem_cons_succ, List.setIfInBounds_toArray, List.set_cons_zero, List.set_cons_succ]
        refine wpAnyH_ready (rs := [8]) (by kernel_rfl) (by simp) ?_
        refine AllReadyH.cons rfl (fun K hK => ?_) AllReadyH.nil
        go_simp
        refine CP.out.mono ?_
        rintro _ w5 ⟨q, rfl, hP5, hg5, hb5⟩
        have N5 := hide (hP5.pre (v' := w4) (Nat.le_refl _))
        have G5 := hide hg5
        have B5 := hide (bt DR.out hb5)
        clear hP5 hg5 hb5
        go_wp2_with fail
        refine hK.out _ _ (SS.out _ B5.out) (fun hHeld => ?_)
        clear hK K
        try simp only [Act.put, List.getElem_toArray, List.getElem_cons_zero, List.getElem_cons_succ, List.setIfInBounds_toArray, List.set_cons_zero, List.set_cons_succ]
        have LQ : Hid (q.items.length ≤ 2199023255489) := by
          have e := congrArg (fun g : Pg => g.items.length) G5.out
          simp only [Pv.pg, List.length_map] at e
          show _ ≤ _
          rw [e]
          exact Nat.le_trans SI.out (by decide)
        obtain ⟨w6, hr6, ⟨col6, hv6, hf6⟩, hB6, hs6⟩ := V4.out.laid z q B5.out N5.out LQ.out
        have V6 := hide hv6
        have F6 := hide ((Vf.keep B4.out).trans hf6)
        have S6 : Hid (w6.cell? ⟨b, 1, none⟩ = some (.map (some mb)) ∧ w6.heap[xb]? = some (.cells #[.int .i64 z, .int .i64 p.kind, .int .i64 p.level, .slice p.aI p.items.length p.cI, .slice p.aD p.data.length p.cD, .int .i64 p.next] 107 (0, 0))) := ⟨hv6.c1, hB6.same (blk13 X4.out B5.out) (fun e => by
          have e : xb = mb := e
          obtain ⟨ac, cc, aa, ca, hq⟩ := V4.out.keep B5.out
          obtain ⟨es, cl, hm, _⟩ := hq.mp
          have := blk13 X4.out B5.out
          rw [e] at this
          rw [show (w5.heap[mb]? = some (.map es cl)) from hm] at this
          cases this)⟩
        have VL : Hid (q.vl = .agg q.cs) := rfl
        rw [VL.out] at hr6
        try rw [VL.out]
        clear hv6 hf6 hB6 hs6
        refine wpAnyH_ready (rs := [9]) (by kernel_rfl) (by simp) ?_
        refine AllReadyH.cons rfl (fun K hK => ?_) AllReadyH.nil
        go_simp
        refine hK.out _ _ ⟨S6.out.1, six_cells S6.out.2⟩ (fun hHeld => ?_)
        clear hK K
        try simp only [Act.put, List.getElem_toArray, List.getElem_cons_zero, List.getElem_cons_succ, List.setIfInBounds_toArray, List.set_cons_zero, List.set_cons_succ]
        refine wpAnyH_done (by kernel_rfl) ?_ _
        clear hHeld DR SS CP hr6
        go_wp2_with fail
        go_ret
        exact .inr ⟨HC.out, HBO.out, HCK.out, rfl, q, col6, G5.out, V6.out, F6.out⟩
      · have c0 : ((ck : Int) != 0) = true := by simpa using hc0
        go_wp2_with fail
        refine CK.out.mono ?_
        rintro _ w4 ⟨rfl, hb4⟩
        have B4 := hide (bt B2.out hb4)
        clear hb4 CK y0 y1 y2 y3 y4 y5
        go_wp2_with fail
        go_ret
        exact .inl ⟨ck, hc0, rfl, by rw [if_neg (fun e => e HC.out), if_neg (by rw [HBO.out]; decide)]; exact HCK.out, B4.out⟩
  · rw [decide_eq_false hc] at TH
    have HC := hide hc
    clear hc
    go_enter Tryz.func59, Tryz.ntmps59
    go_wp2_with fail
    refine TH.out.mono ?_
    rintro _ wq ⟨rfl, hwq⟩
    rw [hwq]
    clear hwq TH
    go_wp2_with fail
    go_ret
    exact .inl ⟨15, by decide, rfl, by rw [if_pos (show ¬ 0 < S.X.P.count z from by have := HC.out; omega)], A0.out⟩
end Go.Proofs.YtbhigodjbfoeoaaGreat
end
section
namespace Go.Proofs.YtbhigodjbfoeoaaGreat
set_option linter.unusedVariables false
set_option linter.unusedSimpArgs false
open Go.RowKit
open Go.MapKept
theorem nodup_le : ∀ (l m : List Int), l.Nodup → (∀ x ∈ l, x ∈ m) → l.length ≤ m.length
  | [], m, _, _ => Nat.zero_le _
  | a :: t, m, hn, hs => by
    have hn' := List.nodup_cons.1 hn
    have ha := hs a List.mem_cons_self
    have ih := nodup_le t (m.erase a) hn'.2 (fun x hx => (List.mem_erase_of_ne (fun e => hn'.1 (by rw [← e]; exact hx))).2 (hs x (List.mem_cons_of_mem _ hx)))
    rw [List.length_erase_of_mem ha] at ih
    have : 0 < m.length := List.length_pos_of_mem ha
    simp only [List.length_cons]
    omega
def keyI (e : MapEntry) : Int := match e.key with
  | .int _ k => k
  | _ => 0
theorem Mo.count {es : Array MapEntry} {clock : Nat} {f : Int → Option Value} (h : Mo es clock f) (ks : List Int) (hn : ks.Nodup) (hk : ∀ k, (f k).isSome = true ↔ k ∈ ks) : es.size = ks.length := by
  have hkey : ∀ e ∈ es.toList, e.key = .int .i64 (keyI e) ∧ (f (keyI e)).isSome = true := fun e he => by
    obtain ⟨k, e1, e2⟩ := h.key e he
    have : keyI e = k := by unfold keyI; rw [e1]
    rw [this]
    exact ⟨e1, by rw [e2]; rfl⟩
  obtain ⟨_, _, h3⟩ := h.st
  have e1 : es.toList.map (·.key) = (es.toList.map keyI).map (fun k => Value.int .i64 k) := by
    rw [List.map_map]
    exact List.map_congr_left (fun e he => (hkey e he).1)
  have n1 : (es.toList.map keyI).Nodup := by
    have h4 : (es.toList.map (·.key)).Nodup := h3
    rw [e1] at h4
    exact List.Pairwise.imp (fun hne e => hne (by rw [e])) (List.pairwise_map.1 h4)
  have a1 := nodup_le (es.toList.map keyI) ks n1 (fun x hx => by
    obtain ⟨e, he, rfl⟩ := List.mem_map.1 hx
    exact (hk _).1 (hkey e he).2)
  have a2 := nodup_le ks (es.toList.map keyI) hn (fun x hx => by
    have hs := (hk x).2 hx
    cases e : f x with
    | none => rw [e] at hs; cases hs
    | some v =>
      obtain ⟨en, he, hke⟩ := h.has x v e
      refine List.mem_map.2 ⟨en, he, ?_⟩
      unfold keyI
      rw [hke])
  rw [List.length_map] at a1 a2
  have : es.toList.length = es.size := Array.length_toList
  omega
theorem count_more {α : Type} (p q : α → Bool) : ∀ l : List α, (∀ x ∈ l, p x = true → q x = true) → l.countP q = l.countP p + l.countP (fun x => q x && !p x)
  | [], _ => rfl
  | x :: t, h => by
    have ih := count_more p q t (fun y hy => h y (List.mem_cons_of_mem _ hy))
    have hx := h x List.mem_cons_self
    simp only [List.countP_cons, ih]
    cases hp : p x <;> cases hq : q x
    · simp
    · simp; omega
    · rw [hp, hq] at hx; exact absurd (hx rfl) (by decide)
    · simp; omega
def keysOf (n : Nat) (f : Int → Option Pv) : List Int := ((List.range n).filter fun i : Nat => (f ((i : Int) + 1)).isSome).map fun i => ((i : Nat) : Int) + 1
theorem keysOf_nodup (n : Nat) (f : Int → Option Pv) : (keysOf n f).Nodup := by
  unfold keysOf
  refine List.pairwise_map.2 ?_
  refine List.Pairwise.imp (R := fun a b : Nat => a ≠ b) ?_ (List.Pairwise.filter _ List.nodup_range)
  intro a b hne e
  have e2 : ((a : Nat) : Int) + 1 = ((b : Nat) : Int) + 1 := e
  exact hne (by omega)
theorem keysOf_mem {n : Nat} {f : Int → Option Pv} (hf : ∀ k, (f k).isSome = true → 1 ≤ k ∧ k ≤ n) (k : Int) : (f k).isSome = true ↔ k ∈ keysOf n f := by
  unfold keysOf
  constructor
  · intro h
    obtain ⟨h1, h2⟩ := hf k h
    refine List.mem_map.2 ⟨(k - 1).toNat, List.mem_filter.2 ⟨List.mem_range.2 (by omega), ?_⟩, by omega⟩
    rw [show (((k - 1).toNat : Nat) : Int) + 1 = k by omega]
    exact h
  · intro h
    obtain ⟨i, hi, e⟩ := List.mem_map.1 h
    rw [← e]
    exact (List.mem_filter.1 hi).2
theorem held_len (r : Int) (C : List Int) : ((Q.Po.start r C).pages 4).length = (List.range C.length).countP (fun i => decide (0 < C.getD i 0)) ∨ ∃ c ∈ C, c < 0 := by
  by_cases hneg : ∃ c ∈ C, c < 0
  · exact .inr hneg
  · refine .inl ?_
    have hp : ∀ c ∈ C, 0 ≤ c := fun c hc => by
      by_cases h : c < 0
      · exact absurd ⟨c, hc, h⟩ hneg
      · omega
    show (if (1 : Int) ≤ 4 ∧ (4 : Int) ≤ 4 then _ else _ : List Int).length = _
    rw [if_pos (by omega)]
    show (Q.pagesOf _ 4).length = _
    unfold Q.pagesOf
    rw [List.length_map, ← List.countP_eq_length_filter]
    show List.countP _ (List.range ((Q.Po.start r C).pg.length)) = _
    have hl : (Q.Po.start r C).pg.length = C.length := by unfold Q.Po.start; exact List.length_map _
    rw [hl]
    refine List.countP_congr (fun i hi => ?_)
    have hi := List.mem_range.1 hi
    have e : (Q.Po.start r C).pg.getD i Q.Pg.zero = (C.getD i 0, decide (0 < C.getD i 0)) := by unfold Q.Po.start; simp [hi]
    rw [e]
    have := hp (C.getD i 0) (by simp [hi])
    unfold Q.stt
    by_cases h0 : C.getD i 0 = 0
    · rw [if_pos (show (C.getD i 0, decide (0 < C.getD i 0)).1 = 0 from h0), h0]
      simp
    · rw [if_neg (show ¬ (C.getD i 0, decide (0 < C.getD i 0)).1 = 0 from h0)]
      have h1 : 0 < C.getD i 0 := by omega
      simp only [decide_eq_true h1]
      simp
theorem fewer_iff {r : Int} {C : List Int} {f : Int → Option Pv} {g : Int → Option Pg} (hb : badC r C = false) (hf : ∀ k, (f k).isSome = true → 0 < cntOf C k) (hg : ∀ k, (g k).isSome = (f k).isSome) : decide ((keysOf C.length f).length < ((Q.Po.start r C).pages 4).length) = lacks C g := by
  have hp : ¬ ∃ c ∈ C, c < 0 := by
    rintro ⟨c, hc, h0⟩
    unfold badC at hb
    rw [List.any_eq_false] at hb
    exact hb c hc (by simp [h0])
  have e1 := (held_len r C).resolve_right hp
  have e2 : (keysOf C.length f).length = (List.range C.length).countP (fun i : Nat => (f ((i : Int) + 1)).isSome) := by
    unfold keysOf
    rw [List.length_map, List.countP_eq_length_filter]
  have e3 := count_more (fun i : Nat => (f ((i : Int) + 1)).isSome) (fun i : Nat => decide (0 < C.getD i 0)) (List.range C.length) (fun i hi h => by
    have hi := List.mem_range.1 hi
    have := hf _ h
    unfold cntOf at this
    rw [if_pos (by omega), show ((i : Int) + 1 - 1).toNat = i by omega] at this
    exact decide_eq_true this)
  rw [e1, e2, e3]
  unfold lacks
  cases hl : (List.range C.length).any (fun i => decide (0 < C.getD i 0) && (g ((i : Int) + 1)).isNone) with
  | true =>
    obtain ⟨i, hi, h⟩ := List.any_eq_true.1 hl
    refine decide_eq_true ?_
    have : 0 < (List.range C.length).countP (fun i : Nat => decide (0 < C.getD i 0) && !(f ((i : Int) + 1)).isSome) := List.countP_pos_iff.2 ⟨i, hi, by
      rw [Bool.and_eq_true] at h ⊢
      refine ⟨h.1, ?_⟩
      rw [← hg]
      cases e : g ((i : Int) + 1) with
      | none => rfl
      | some v => rw [e] at h; exact absurd h.2 (by simp)⟩
    omega
  | false =>
    refine decide_eq_false ?_
    have : (List.range C.length).countP (fun i : Nat => decide (0 < C.getD i 0) && !(f ((i : Int) + 1)).isSome) = 0 := List.countP_eq_zero.2 (fun i hi h => by
      have := List.any_eq_false.1 hl i hi
      apply this
      rw [Bool.and_eq_true] at h ⊢
      refine ⟨h.1, ?_⟩
      have h2 := h.2
      rw [← hg] at h2
      cases e : g ((i : Int) + 1) with
      | none => rfl
      | some v => rw [e] at h2; exact absurd h2 (by simp))
    omega
end Go.Proofs.YtbhigodjbfoeoaaGreat
end
