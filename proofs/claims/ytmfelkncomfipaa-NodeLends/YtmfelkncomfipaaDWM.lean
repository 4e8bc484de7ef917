import Derived.Test.YtmfelkncomfipaaDWG
import Derived.Test.YtmfelkncomfipaaDWD
import Derived.Test.YtmfelkncomfipaaDLA
namespace Go.Proofs.Ytmfelkncomfipaa
set_option linter.unusedVariables false
set_option linter.unusedSimpArgs false
open Go.RowKit
theorem prt_le {l r : Pg} : (prt l r).l.items.length ≤ l.items.length ∧ (prt l r).r.items.length ≤ r.items.length + 1 := by
  unfold prt
  split
  · refine ⟨Nat.le_refl _, ?_⟩
    simp only [Pg.wi, List.length_cons, List.length_drop]
    omega
  · split
    · exact ⟨Nat.le_refl _, Nat.le_succ _⟩
    · exact ⟨Nat.zero_le _, Nat.zero_le _⟩
theorem lend_le {l r : Pg} {s : List Nat} {t : Bool} (h1 : l.items.length ≤ 2199023255488) (h2 : r.items.length ≤ 2199023255488) : (lend l r s t).l.items.length ≤ 2199023255520 ∧ (lend l r s t).r.items.length ≤ 2199023255520 := by
  have hj : (jnd l r s).length = l.items.length + (r.items.length - 1 + 1) := by unfold jnd; rw [List.length_append, List.length_cons, List.length_drop]
  have e : lend l r s t = Hv.none ∨ lend l r s t = prt (l.wi ((jnd l r s).take (l.items.length - 1))) (r.wi ((jnd l r s).drop (l.items.length - 1))) ∨ lend l r s t = prt (l.wi ((jnd l r s).take (l.items.length + 1))) (r.wi ((jnd l r s).drop (l.items.length + 1))) := by
    unfold lend
    by_cases h : alk l r = true ∧ (if t then mayL l.items.length r.items.length else mayL r.items.length l.items.length) = true
    · rw [if_pos h]
      cases t
      · exact Or.inr (Or.inr rfl)
      · exact Or.inr (Or.inl rfl)
    · rw [if_neg h]
      exact Or.inl rfl
  rcases e with e | e | e
  · rw [e]; exact ⟨Nat.zero_le _, Nat.zero_le _⟩
  · rw [e]
    refine ⟨Nat.le_trans prt_le.1 ?_, Nat.le_trans prt_le.2 ?_⟩
    · simp only [Pg.wi, List.length_take]; omega
    · simp only [Pg.wi, List.length_drop, hj]; omega
  · rw [e]
    refine ⟨Nat.le_trans prt_le.1 ?_, Nat.le_trans prt_le.2 ?_⟩
    · simp only [Pg.wi, List.length_take]; omega
    · simp only [Pg.wi, List.length_drop, hj]; omega
theorem Pn.piG {v w : World} {P : Pv} (h : Pn v w P) {L : Pg} (e : P.pg = L) (hl : L.items.length ≤ 2199023255520) : Pi w P := h.pi (by
  rw [← e, show P.pg.items.length = P.items.length from List.length_map _] at hl
  exact hl)
set_option maxHeartbeats 64000000 in
set_option maxRecDepth 16000 in
theorem nodeLends_of (rLend_any : ∀ (w : World) (l r : Pv) (aS : Option Addr) (cs : Nat) (s : List Nat) (t : Bool) (hl : Pj w l) (hr : Pj w r) (hB : Bs w aS s) (hc : s.length ≤ cs) (hsl : s.length ≤ 140737488355264), Calls Try.prog 10 #[l.vl, r.vl, .slice aS s.length cs, .bool t] w fun e w' => ∃ (q1 q2 : Pv) (a : Option Addr) (c : Nat), e = .returned (.tuple #[q1.vl, q2.vl, .slice a (lend l.pg r.pg s t).s.length c, .bool (lend l.pg r.pg s t).ok]) ∧ Pi w' q1 ∧ Pi w' q2 ∧ Bs w' a (lend l.pg r.pg s t).s ∧ q1.pg = (lend l.pg r.pg s t).l ∧ q2.pg = (lend l.pg r.pg s t).r ∧ Below w.heap.size w w') (w : World) (v : Tv) (hT : Tj w v) :
    Calls Try.prog 3 #[v.vl] w fun e w' => e = .returned (.bool true) ∧ Below w.heap.size w w' := by
  have A0 := hide (al w (.cells v.cs 27))
  have X0 := hide (heap_alloc_new w (.cells v.cs 27))
  have TJ := hide (hT.keep A0.out)
  clear hT
  obtain ⟨l, r, aS, cS, s, t⟩ := v
  unfold Tv.vl
  simp only [Tv.cs] at A0 X0 TJ ⊢
  go_enter Try.func3, Try.ntmps3
  go_wp2_with fail
  generalize (w.alloc (.cells #[.int .i64 l.kind, .int .i64 l.level, .slice l.aI l.items.length l.cI, .slice l.aD l.data.length l.cD, .int .i64 l.next, .int .i64 r.kind, .int .i64 r.level, .slice r.aI r.items.length r.cI, .slice r.aD r.data.length r.cD, .int .i64 r.next, .slice aS s.length cS, .bool t] 27)) = w1 at *
  have hw1 : w.heap.size < w1.heap.size := (Array.getElem?_eq_some_iff.1 X0.out).1
  have BX := hide fun (W : World) (hb : Below w1.heap.size w1 W) => blk_keep X0.out hb
  have SS := hide fun (W : World) (hb : Below w1.heap.size w1 W) => cells12 (blk_keep X0.out hb)
  have SP1 := hide fun (W : World) (hb : Below w1.heap.size w1 W) => (TJ.out.l.keep hb).spare
  have SP2 := hide fun (W : World) (hb : Below w1.heap.size w1 W) => (TJ.out.r.keep hb).spare
  have SP3 := hide fun (W : World) (hb : Below w1.heap.size w1 W) => Spare_at W aS s.length cS s (TJ.out.b.keep hb) rfl TJ.out.n
  unfold Pv.vl at SP1 SP2
  simp only [Pv.cs] at SP1 SP2
  have D1 := hide (dr2 w1)
  go_cut [3, 4, 5] from 14 to 22 (fun p3 p4 v5 wx => ∃ (gA gB : Nat) (x y : Pv) (gk : Nat), p3 = .pointer (some ⟨gA, 0, none⟩) ∧ p4 = .pointer (some ⟨gB, 0, none⟩) ∧ v5 = .slice (some ⟨gk, 0, none⟩) s.length (s.length + 64) ∧ Nj w1 wx l r s x y gk gA gB)
  case first =>
    refine wp_region_held_drew (S := fun W => W.cell? ⟨w.heap.size, 0, none⟩ = some (.int .i64 l.kind) ∧ W.cell? ⟨w.heap.size, 1, none⟩ = some (.int .i64 l.level) ∧ W.cell? ⟨w.heap.size, 2, none⟩ = some (.slice l.aI l.items.length l.cI) ∧ W.cell? ⟨w.heap.size, 3, none⟩ = some (.slice l.aD l.data.length l.cD) ∧ W.cell? ⟨w.heap.size, 4, none⟩ = some (.int .i64 l.next) ∧ W.cell? ⟨w.heap.size, 5, none⟩ = some (.int .i64 r.kind) ∧ W.cell? ⟨w.heap.size, 6, none⟩ = some (.int .i64 r.level) ∧ W.cell? ⟨w.heap.size, 7, none⟩ = some (.slice r.aI r.items.length r.cI) ∧ W.cell? ⟨w.heap.size, 8, none⟩ = some (.slice r.aD r.data.length r.cD) ∧ W.cell? ⟨w.heap.size, 9, none⟩ = some (.int .i64 r.next) ∧ W.cell? ⟨w.heap.size, 10, none⟩ = some (.slice aS s.length cS) ∧ W.cell? ⟨w.heap.size, 11, none⟩ = some (.bool t)) (by kernel_rfl) (SS.out _ D1.out) (fun hHeld => ?_)
    refine wpAnyH_take (i := 0) (v := ?vaq0) rfl (by kernel_rfl) (by kernel_rfl) (by kernel_rfl) (fun _ _ _ h => h) (Or.inl ⟨by rfl, ?hyq0⟩) (by assumption) ?raq0
    case hyq0 => (intro wq hSw; (try dsimp only at hSw); obtain ⟨e0, e1, e2, e3, e4, e5, e6, e7, e8, e9, e10, e11⟩ := hSw; go_simp <;> with_reducible rfl)
    try simp only [Act.put, List.getElem_toArray, List.getElem_cons_zero, List.setIfInBounds_toArray, List.set_cons_zero, List.set_cons_succ]
    refine wpAnyH_take (i := 1) (v := ?vaq1) rfl (by kernel_rfl) (by kernel_rfl) (by kernel_rfl) (fun _ _ _ h => h) (Or.inl ⟨by rfl, ?hyq1⟩) (by assumption) ?raq1
    case hyq1 => (intro wq hSw; (try dsimp only at hSw); obtain ⟨e0, e1, e2, e3, e4, e5, e6, e7, e8, e9, e10, e11⟩ := hSw; go_simp <;> with_reducible rfl)
    try simp only [Act.put, List.getElem_toArray, List.getElem_cons_zero, List.getElem_cons_succ, List.setIfInBounds_toArray, List.set_cons_zero, List.set_cons_succ]
    refine wpAnyH_take (i := 3) (v := ?vaq3) rfl (by kernel_rfl) (by kernel_rfl) (by kernel_rfl) (fun _ _ _ h => h) (Or.inl ⟨by rfl, ?hyq3⟩) (by assumption) ?raq3
    case hyq3 => (intro wq hSw; (try dsimp only at hSw); obtain ⟨e0, e1, e2, e3, e4, e5, e6, e7, e8, e9, e10, e11⟩ := hSw; go_simp <;> with_reducible rfl)
    try simp only [Act.put, List.getElem_toArray, List.getElem_cons_zero, List.getElem_cons_succ, List.setIfInBounds_toArray, List.set_cons_zero, List.set_cons_succ]
    refine wpAnyH_take (i := 4) (v := ?vaq4) rfl (by kernel_rfl) (by kernel_rfl) (by kernel_rfl) (fun _ _ _ h => h) (Or.inl ⟨by rfl, ?hyq4⟩) (by assumption) ?raq4
    case hyq4 => (intro wq hSw; (try dsimp only at hSw); obtain ⟨e0, e1, e2, e3, e4, e5, e6, e7, e8, e9, e10, e11⟩ := hSw; go_simp <;> with_reducible rfl)
    try simp only [Act.put, List.getElem_toArray, List.getElem_cons_zero, List.getElem_cons_succ, List.setIfInBounds_toArray, List.set_cons_zero, List.set_cons_succ]
    refine wpAnyH_take (i := 6) (v := ?vaq6) rfl (by kernel_rfl) (by kernel_rfl) (by kernel_rfl) (fun _ _ _ h => h) (Or.inl ⟨by rfl, ?hyq6⟩) (by assumption) ?raq6
    case hyq6 => (intro wq hSw; (try dsimp only at hSw); obtain ⟨e0, e1, e2, e3, e4, e5, e6, e7, e8, e9, e10, e11⟩ := hSw; go_simp <;> with_reducible rfl)
    try simp only [Act.put, List.getElem_toArray, List.getElem_cons_zero, List.getElem_cons_succ, List.setIfInBounds_toArray, List.set_cons_zero, List.set_cons_succ]
    refine wpAnyH_take (i := 7) (v := ?vaq7) rfl (by kernel_rfl) (by kernel_rfl) (by kernel_rfl) (fun _ _ _ h => h) (Or.inl ⟨by rfl, ?hyq7⟩) (by assumption) ?raq7
    case hyq7 => (intro wq hSw; (try dsimp only at hSw); obtain ⟨e0, e1, e2, e3, e4, e5, e6, e7, e8, e9, e10, e11⟩ := hSw; go_simp <;> with_reducible rfl)
    try simp only [Act.put, List.getElem_toArray, List.getElem_cons_zero, List.getElem_cons_succ, List.setIfInBounds_toArray, List.set_cons_zero, List.set_cons_succ]
    have BB := D1
    clear D1
    generalize w1.drew = v0 at *
    refine wpAnyH_ready (rs := [2, 9, 10]) (by kernel_rfl) (by simp) ?_
    refine (AllReadyH.cons rfl (fun K hK => ?_) (AllReadyH.cons rfl (fun K hK => ?_) (AllReadyH.cons rfl (fun K hK => ?_) AllReadyH.nil)))
    · go_simp
      refine (SP1.out _ BB.out).mono ?_
      rintro _ v1 ⟨x, rfl, hS⟩
      have hb := hS.b
      have SX := hide (Sp.pre BB.out hS)
      replace BB := hide (bt BB.out hb)
      clear hS hb
      go_wp2_with fail
      refine hK.out _ _ (SS.out _ BB.out) (fun hHeld => ?_)
      clear hK K
      try simp only [Act.put, List.getElem_toArray, List.getElem_cons_zero, List.getElem_cons_succ, List.setIfInBounds_toArray, List.set_cons_zero, List.set_cons_succ]
      refine wpAnyH_ready (rs := [5, 9, 10]) (by kernel_rfl) (by simp) ?_
      refine (AllReadyH.cons rfl (fun K hK => ?_) (AllReadyH.cons rfl (fun K hK => ?_) (AllReadyH.cons rfl (fun K hK => ?_) AllReadyH.nil)))
      · go_simp
        refine (SP2.out _ BB.out).mono ?_
        rintro _ v2 ⟨y, rfl, hS⟩
        have hb := hS.b
        have SY := hide (Sp.pre BB.out hS)
        replace SX := hide (SX.out.keep hb)
        replace BB := hide (bt BB.out hb)
        clear hS hb
        go_wp2_with fail
        refine hK.out _ _ (SS.out _ BB.out) (fun hHeld => ?_)
        clear hK K
        try simp only [Act.put, List.getElem_toArray, List.getElem_cons_zero, List.getElem_cons_succ, List.setIfInBounds_toArray, List.set_cons_zero, List.set_cons_succ]
        refine wpAnyH_ready (rs := [8, 9, 10]) (by kernel_rfl) (by simp) ?_
        refine (AllReadyH.cons rfl (fun K hK => ?_) (AllReadyH.cons rfl (fun K hK => ?_) (AllReadyH.cons rfl (fun K hK => ?_) AllReadyH.nil)))
        · go_simp
          refine (SP3.out _ BB.out).mono ?_
          rintro _ v3 ⟨gk, rfl, hS, -, -, hb⟩
          have SK := hide hS
          replace SX := hide (SX.out.keep hb)
          replace SY := hide (SY.out.keep hb)
          replace BB := hide (bt BB.out hb)
          clear hS hb
          go_wp2_with fail
          refine hK.out _ _ (SS.out _ BB.out) (fun hHeld => ?_)
          clear hK K
          try simp only [Act.put, List.getElem_toArray, List.getElem_cons_zero, List.getElem_cons_succ, List.setIfInBounds_toArray, List.set_cons_zero, List.set_cons_succ]
          refine wpAnyH_ready (rs := [9, 10]) (by kernel_rfl) (by simp) ?_
          refine (AllReadyH.cons rfl (fun K hK => ?_) (AllReadyH.cons rfl (fun K hK => ?_) AllReadyH.nil))
          · go_simp
            have AL := hide (al v3 (.cells #[.int .i64 0, .int .i64 0, .slice none 0 0, .slice none 0 0, .int .i64 0] 25))
            have LA : Hid (w1.heap.size ≤ v3.heap.size) := BB.out.size
            replace SX := hide (SX.out.keep AL.out)
            replace SY := hide (SY.out.keep AL.out)
            replace SK := hide (SK.out.keep AL.out)
            replace BB := hide (bt BB.out AL.out)
            have XA := hide (heap_alloc_new v3 (.cells #[.int .i64 0, .int .i64 0, .slice none 0 0, .slice none 0 0, .int .i64 0] 25))
            refine hK.out _ _ (SS.out _ BB.out) (fun hHeld => ?_)
            clear hK K AL
            try simp only [Act.put, List.getElem_toArray, List.getElem_cons_zero, List.getElem_cons_succ, List.setIfInBounds_toArray, List.set_cons_zero, List.set_cons_succ]
            generalize (v3.alloc (.cells #[.int .i64 0, .int .i64 0, .slice none 0 0, .slice none 0 0, .int .i64 0] 25)) = v4 at *
            generalize v3.heap.size = gA at *
            refine wpAnyH_ready (rs := [10]) (by kernel_rfl) (by simp) ?_
            refine (AllReadyH.cons rfl (fun K hK => ?_) AllReadyH.nil)
            · go_simp
              have AL := hide (al v4 (.cells #[.int .i64 0, .int .i64 0, .slice none 0 0, .slice none 0 0, .int .i64 0] 25))
              have LB : Hid (w1.heap.size ≤ v4.heap.size) := BB.out.size
              have NE : Hid (gA ≠ v4.heap.size) := by have := (Array.getElem?_eq_some_iff.1 XA.out).1; show _ ≠ _; omega
              replace SX := hide (SX.out.keep AL.out)
              replace SY := hide (SY.out.keep AL.out)
              replace SK := hide (SK.out.keep AL.out)
              replace XA := hide (blk_keep XA.out AL.out)
              replace BB := hide (bt BB.out AL.out)
              have XB := hide (heap_alloc_new v4 (.cells #[.int .i64 0, .int .i64 0, .slice none 0 0, .slice none 0 0, .int .i64 0] 25))
              refine hK.out _ _ (SS.out _ BB.out) (fun hHeld => ?_)
              clear hK K AL
              try simp only [Act.put, List.getElem_toArray, List.getElem_cons_zero, List.getElem_cons_succ, List.setIfInBounds_toArray, List.set_cons_zero, List.set_cons_succ]
              generalize (v4.alloc (.cells #[.int .i64 0, .int .i64 0, .slice none 0 0, .slice none 0 0, .int .i64 0] 25)) = v5 at *
              generalize v4.heap.size = gB at *
              have hAne : w.heap.size ≠ gA := by have := LA.out; omega
              have hBne : w.heap.size ≠ gB := by have := LB.out; omega
              refine wpAnyH_ready (rs := [11]) (by kernel_rfl) (by simp) ?_
              refine AllReadyH.cons rfl (fun K hK => ?_) AllReadyH.nil
              rw [if_pos (by rfl)]
              have XB1 := hide (row_far (W := v5) (g := gA) #[.int .i64 x.kind, .int .i64 x.level, .slice x.aI x.items.length x.cI, .slice x.aD x.data.length x.cD, .int .i64 x.next] XB.out (Ne.symm NE.out))
              refine wp_store_row 25 _ _ rfl gA _ rfl rfl 25 _ XA.out sizePage rfl (by simp [Value.oneCell']) ?_
              refine hK.out _ _ (cells12 (row_far _ (BX.out _ BB.out) hAne)) (fun hHeld => ?_)
              clear hK K
              try simp only [Act.put, List.getElem_toArray, List.getElem_cons_zero, List.getElem_cons_succ, List.setIfInBounds_toArray, List.set_cons_zero, List.set_cons_succ]
              refine wpAnyH_ready (rs := [12]) (by kernel_rfl) (by simp) ?_
              refine AllReadyH.cons rfl (fun K hK => ?_) AllReadyH.nil
              rw [if_pos (by rfl)]
              refine wp_store_row 25 _ _ rfl gB _ rfl rfl 25 _ XB1.out sizePage rfl (by simp [Value.oneCell']) ?_
              refine hK.out _ _ (cells12 (row_far _ (row_far _ (BX.out _ BB.out) hAne) hBne)) (fun hHeld => ?_)
              clear hK K
              try simp only [Act.put, List.getElem_toArray, List.getElem_cons_zero, List.getElem_cons_succ, List.setIfInBounds_toArray, List.set_cons_zero, List.set_cons_succ]
              refine wpAnyH_take (i := 13) (v := ?vaq1234513) rfl (by kernel_rfl) (by kernel_rfl) (by kernel_rfl) (fun _ _ _ h => h) (Or.inl ⟨by rfl, ?hyq1234513⟩) (by assumption) ?raq1234513
              case hyq1234513 => (intro wq hSw; (try dsimp only at hSw); obtain ⟨e0, e1, e2, e3, e4, e5, e6, e7, e8, e9, e10, e11⟩ := hSw; go_simp <;> with_reducible rfl)
              try simp only [Act.put, List.getElem_toArray, List.getElem_cons_zero, List.getElem_cons_succ, List.setIfInBounds_toArray, List.set_cons_zero, List.set_cons_succ]
              refine wpAnyH_done (by kernel_rfl) ?_ _
              clear hHeld
              go_wp2_with fail
              go_meet
              case rel => exact ⟨gA, gB, x, y, gk, rfl, rfl, rfl, ⟨row_far _ (setRow_heap _ _ _ _ _ _ XA.out) NE.out, setRow_heap _ _ _ _ _ _ XB1.out, (SX.out.row XA.out LA.out _).row XB1.out LB.out _, (SY.out.row XA.out LA.out _).row XB1.out LB.out _, (SK.out.row XA.out _).row XB1.out _, below_row _ (below_row _ BB.out LA.out) LB.out⟩⟩
          · go_simp
            have AL := hide (al v3 (.cells #[.int .i64 0, .int .i64 0, .slice none 0 0, .slice none 0 0, .int .i64 0] 25))
            have LB : Hid (w1.heap.size ≤ v3.heap.size) := BB.out.size
            replace SX := hide (SX.out.keep AL.out)
            replace SY := hide (SY.out.keep AL.out)
            replace SK := hide (SK.out.keep AL.out)
            replace BB := hide (bt BB.out AL.out)
            have XB := hide (heap_alloc_new v3 (.cells #[.int .i64 0, .int .i64 0, .slice none 0 0, .slice none 0 0, .int .i64 0] 25))
            refine hK.out _ _ (SS.out _ BB.out) (fun hHeld => ?_)
            clear hK K AL
            try simp only [Act.put, List.getElem_toArray, List.getElem_cons_zero, List.getElem_cons_succ, List.setIfInBounds_toArray, List.set_cons_zero, List.set_cons_succ]
            generalize (v3.alloc (.cells #[.int .i64 0, .int .i64 0, .slice none 0 0, .slice none 0 0, .int .i64 0] 25)) = v6 at *
            generalize v3.heap.size = gB at *
            refine wpAnyH_ready (rs := [9]) (by kernel_rfl) (by simp) ?_
            refine (AllReadyH.cons rfl (fun K hK => ?_) AllReadyH.nil)
            · go_simp
              have AL := hide (al v6 (.cells #[.int .i64 0, .int .i64 0, .slice none 0 0, .slice none 0 0, .int .i64 0] 25))
              have LA : Hid (w1.heap.size ≤ v6.heap.size) := BB.out.size
              have NE : Hid (v6.heap.size ≠ gB) := by have := (Array.getElem?_eq_some_iff.1 XB.out).1; show _ ≠ _; omega
              replace SX := hide (SX.out.keep AL.out)
              replace SY := hide (SY.out.keep AL.out)
              replace SK := hide (SK.out.keep AL.out)
              replace XB := hide (blk_keep XB.out AL.out)
              replace BB := hide (bt BB.out AL.out)
              have XA := hide (heap_alloc_new v6 (.cells #[.int .i64 0, .int .i64 0, .slice none 0 0, .slice none 0 0, .int .i64 0] 25))
              refine hK.out _ _ (SS.out _ BB.out) (fun hHeld => ?_)
              clear hK K AL
              try simp only [Act.put, List.getElem_toArray, List.getElem_cons_zero, List.getElem_cons_succ, List.setIfInBounds_toArray, List.set_cons_zero, List.set_cons_succ]
              generalize (v6.alloc (.cells #[.int .i64 0, .int .i64 0, .slice none 0 0, .slice none 0 0, .int .i64 0] 25)) = v7 at *
              generalize v6.heap.size = gA at *
              have hAne : w.heap.size ≠ gA := by have := LA.out; omega
              have hBne : w.heap.size ≠ gB := by have := LB.out; omega
              refine wpAnyH_ready (rs := [11]) (by kernel_rfl) (by simp) ?_
              refine AllReadyH.cons rfl (fun K hK => ?_) AllReadyH.nil
              rw [if_pos (by rfl)]
              have XB1 := hide (row_far (W := v7) (g := gA) #[.int .i64 x.kind, .int .i64 x.level, .slice x.aI x.items.length x.cI, .slice x.aD x.data.length x.cD, .int .i64 x.next] XB.out (Ne.symm NE.out))
              refine wp_store_row 25 _ _ rfl gA _ rfl rfl 25 _ XA.out sizePage rfl (by simp [Value.oneCell']) ?_
              refine hK.out _ _ (cells12 (row_far _ (BX.out _ BB.out) hAne)) (fun hHeld => ?_)
              clear hK K
              try simp only [Act.put, List.getElem_toArray, List.getElem_cons_zero, List.getElem_cons_succ, List.setIfInBounds_toArray, List.set_cons_zero, List.set_cons_succ]
              refine wpAnyH_ready (rs := [12]) (by kernel_rfl) (by simp) ?_
              refine AllReadyH.cons rfl (fun K hK => ?_) AllReadyH.nil
              rw [if_pos (by rfl)]
              refine wp_store_row 25 _ _ rfl gB _ rfl rfl 25 _ XB1.out sizePage rfl (by simp [Value.oneCell']) ?_
              refine hK.out _ _ (cells12 (row_far _ (row_far _ (BX.out _ BB.out) hAne) hBne)) (fun hHeld => ?_)
              clear hK K
              try simp only [Act.put, List.getElem_toArray, List.getElem_cons_zero, List.getElem_cons_succ, List.setIfInBounds_toArray, List.set_cons_zero, List.set_cons_succ]
              refine wpAnyH_take (i := 13) (v := ?vaq1236713) rfl (by kernel_rfl) (by kernel_rfl) (by kernel_rfl) (fun _ _ _ h => h) (Or.inl ⟨by rfl, ?hyq1236713⟩) (by assumption) ?raq1236713
              case hyq1236713 => (intro wq hSw; (try dsimp only at hSw); obtain ⟨e0, e1, e2, e3, e4, e5, e6, e7, e8, e9, e10, e11⟩ := hSw; go_simp <;> with_reducible rfl)
              try simp only [Act.put, List.getElem_toArray, List.getElem_cons_zero, List.getElem_cons_succ, List.setIfInBounds_toArray, List.set_cons_zero, List.set_cons_succ]
              refine wpAnyH_done (by kernel_rfl) ?_ _
              clear hHeld
              go_wp2_with fail
              go_meet
              case rel => exact ⟨gA, gB, x, y, gk, rfl, rfl, rfl, ⟨row_far _ (setRow_heap _ _ _ _ _ _ XA.out) NE.out, setRow_heap _ _ _ _ _ _ XB1.out, (SX.out.row XA.out LA.out _).row XB1.out LB.out _, (SY.out.row XA.out LA.out _).row XB1.out LB.out _, (SK.out.row XA.out _).row XB1.out _, below_row _ (below_row _ BB.out LA.out) LB.out⟩⟩
        · go_simp
          have AL := hide (al v2 (.cells #[.int .i64 0, .int .i64 0, .slice none 0 0, .slice none 0 0, .int .i64 0] 25))
          have LA : Hid (w1.heap.size ≤ v2.heap.size) := BB.out.size
          replace SX := hide (SX.out.keep AL.out)
          replace SY := hide (SY.out.keep AL.out)
          replace BB := hide (bt BB.out AL.out)
          have XA := hide (heap_alloc_new v2 (.cells #[.int .i64 0, .int .i64 0, .slice none 0 0, .slice none 0 0, .int .i64 0] 25))
          refine hK.out _ _ (SS.out _ BB.out) (fun hHeld => ?_)
          clear hK K AL
          try simp only [Act.put, List.getElem_toArray, List.getElem_cons_zero, List.getElem_cons_succ, List.setIfInBounds_toArray, List.set_cons_zero, List.set_cons_succ]
          generalize (v2.alloc (.cells #[.int .i64 0, .int .i64 0, .slice none 0 0, .slice none 0 0, .int .i64 0] 25)) = v8 at *
          generalize v2.heap.size = gA at *
          refine wpAnyH_ready (rs := [8, 10]) (by kernel_rfl) (by simp) ?_
          refine (AllReadyH.cons rfl (fun K hK => ?_) (AllReadyH.cons rfl (fun K hK => ?_) AllReadyH.nil))
          · go_simp
            refine (SP3.out _ BB.out).mono ?_
            rintro _ v9 ⟨gk, rfl, hS, -, -, hb⟩
            have SK := hide hS
            replace SX := hide (SX.out.keep hb)
            replace SY := hide (SY.out.keep hb)
            replace XA := hide (blk_keep XA.out hb)
            replace BB := hide (bt BB.out hb)
            clear hS hb
            go_wp2_with fail
            refine hK.out _ _ (SS.out _ BB.out) (fun hHeld => ?_)
            clear hK K
            try simp only [Act.put, List.getElem_toArray, List.getElem_cons_zero, List.getElem_cons_succ, List.setIfInBounds_toArray, List.set_cons_zero, List.set_cons_succ]
            refine wpAnyH_ready (rs := [10]) (by kernel_rfl) (by simp) ?_
            refine (AllReadyH.cons rfl (fun K hK => ?_) AllReadyH.nil)
            · go_simp
              have AL := hide (al v9 (.cells #[.int .i64 0, .int .i64 0, .slice none 0 0, .slice none 0 0, .int .i64 0] 25))
              have LB : Hid (w1.heap.size ≤ v9.heap.size) := BB.out.size
              have NE : Hid (gA ≠ v9.heap.size) := by have := (Array.getElem?_eq_some_iff.1 XA.out).1; show _ ≠ _; omega
              replace SX := hide (SX.out.keep AL.out)
              replace SY := hide (SY.out.keep AL.out)
              replace SK := hide (SK.out.keep AL.out)
              replace XA := hide (blk_keep XA.out AL.out)
              replace BB := hide (bt BB.out AL.out)
              have XB := hide (heap_alloc_new v9 (.cells #[.int .i64 0, .int .i64 0, .slice none 0 0, .slice none 0 0, .int .i64 0] 25))
              refine hK.out _ _ (SS.out _ BB.out) (fun hHeld => ?_)
              clear hK K AL
              try simp only [Act.put, List.getElem_toArray, List.getElem_cons_zero, List.getElem_cons_succ, List.setIfInBounds_toArray, List.set_cons_zero, List.set_cons_succ]
              generalize (v9.alloc (.cells #[.int .i64 0, .int .i64 0, .slice none 0 0, .slice none 0 0, .int .i64 0] 25)) = v10 at *
              generalize v9.heap.size = gB at *
              have hAne : w.heap.size ≠ gA := by have := LA.out; omega
              have hBne : w.heap.size ≠ gB := by have := LB.out; omega
              refine wpAnyH_ready (rs := [11]) (by kernel_rfl) (by simp) ?_
              refine AllReadyH.cons rfl (fun K hK => ?_) AllReadyH.nil
              rw [if_pos (by rfl)]
              have XB1 := hide (row_far (W := v10) (g := gA) #[.int .i64 x.kind, .int .i64 x.level, .slice x.aI x.items.length x.cI, .slice x.aD x.data.length x.cD, .int .i64 x.next] XB.out (Ne.symm NE.out))
              refine wp_store_row 25 _ _ rfl gA _ rfl rfl 25 _ XA.out sizePage rfl (by simp [Value.oneCell']) ?_
              refine hK.out _ _ (cells12 (row_far _ (BX.out _ BB.out) hAne)) (fun hHeld => ?_)
              clear hK K
              try simp only [Act.put, List.getElem_toArray, List.getElem_cons_zero, List.getElem_cons_succ, List.setIfInBounds_toArray, List.set_cons_zero, List.set_cons_succ]
              refine wpAnyH_ready (rs := [12]) (by kernel_rfl) (by simp) ?_
              refine AllReadyH.cons rfl (fun K hK => ?_) AllReadyH.nil
              rw [if_pos (by rfl)]
              refine wp_store_row 25 _ _ rfl gB _ rfl rfl 25 _ XB1.out sizePage rfl (by simp [Value.oneCell']) ?_
              refine hK.out _ _ (cells12 (row_far _ (row_far _ (BX.out _ BB.out) hAne) hBne)) (fun hHeld => ?_)
              clear hK K
              try simp only [Act.put, List.getElem_toArray, List.getElem_cons_zero, List.getElem_cons_succ, List.setIfInBounds_toArray, List.set_cons_zero, List.set_cons_succ]
              refine wpAnyH_take (i := 13) (v := ?vaq12891013) rfl (by kernel_rfl) (by kernel_rfl) (by kernel_rfl) (fun _ _ _ h => h) (Or.inl ⟨by rfl, ?hyq12891013⟩) (by assumption) ?raq12891013
              case hyq12891013 => (intro wq hSw; (try dsimp only at hSw); obtain ⟨e0, e1, e2, e3, e4, e5, e6, e7, e8, e9, e10, e11⟩ := hSw; go_simp <;> with_reducible rfl)
              try simp only [Act.put, List.getElem_toArray, List.getElem_cons_zero, List.getElem_cons_succ, List.setIfInBounds_toArray, List.set_cons_zero, List.set_cons_succ]
              refine wpAnyH_done (by kernel_rfl) ?_ _
              clear hHeld
              go_wp2_with fail
              go_meet
              case rel => exact ⟨gA, gB, x, y, gk, rfl, rfl, rfl, ⟨row_far _ (setRow_heap _ _ _ _ _ _ XA.out) NE.out, setRow_heap _ _ _ _ _ _ XB1.out, (SX.out.row XA.out LA.out _).row XB1.out LB.out _, (SY.out.row XA.out LA.out _).row XB1.out LB.out _, (SK.out.row XA.out _).row XB1.out _, below_row _ (below_row _ BB.out LA.out) LB.out⟩⟩
          · go_simp
            have AL := hide (al v8 (.cells #[.int .i64 0, .int .i64 0, .slice none 0 0, .slice none 0 0, .int .i64 0] 25))
            have LB : Hid (w1.heap.size ≤ v8.heap.size) := BB.out.size
            have NE : Hid (gA ≠ v8.heap.size) := by have := (Array.getElem?_eq_some_iff.1 XA.out).1; show _ ≠ _; omega
            replace SX := hide (SX.out.keep AL.out)
            replace SY := hide (SY.out.keep AL.out)
            replace XA := hide (blk_keep XA.out AL.out)
            replace BB := hide (bt BB.out AL.out)
            have XB := hide (heap_alloc_new v8 (.cells #[.int .i64 0, .int .i64 0, .slice none 0 0, .slice none 0 0, .int .i64 0] 25))
            refine hK.out _ _ (SS.out _ BB.out) (fun hHeld => ?_)
            clear hK K AL
            try simp only [Act.put, List.getElem_toArray, List.getElem_cons_zero, List.getElem_cons_succ, List.setIfInBounds_toArray, List.set_cons_zero, List.set_cons_succ]
            generalize (v8.alloc (.cells #[.int .i64 0, .int .i64 0, .slice none 0 0, .slice none 0 0, .int .i64 0] 25)) = v11 at *
            generalize v8.heap.size = gB at *
            refine wpAnyH_ready (rs := [8]) (by kernel_rfl) (by simp) ?_
            refine (AllReadyH.cons rfl (fun K hK => ?_) AllReadyH.nil)
            · go_simp
              refine (SP3.out _ BB.out).mono ?_
              rintro _ v12 ⟨gk, rfl, hS, -, -, hb⟩
              have SK := hide hS
              replace SX := hide (SX.out.keep hb)
              replace SY := hide (SY.out.keep hb)
              replace XA := hide (blk_keep XA.out hb)
              replace XB := hide (blk_keep XB.out hb)
              replace BB := hide (bt BB.out hb)
              clear hS hb
              go_wp2_with fail
              refine hK.out _ _ (SS.out _ BB.out) (fun hHeld => ?_)
              clear hK K
              try simp only [Act.put, List.getElem_toArray, List.getElem_cons_zero, List.getElem_cons_succ, List.setIfInBounds_toArray, List.set_cons_zero, List.set_cons_succ]
              have hAne : w.heap.size ≠ gA := by have := LA.out; omega
              have hBne : w.heap.size ≠ gB := by have := LB.out; omega
              refine wpAnyH_ready (rs := [11]) (by kernel_rfl) (by simp) ?_
              refine AllReadyH.cons rfl (fun K hK => ?_) AllReadyH.nil
              rw [if_pos (by rfl)]
              have XB1 := hide (row_far (W := v12) (g := gA) #[.int .i64 x.kind, .int .i64 x.level, .slice x.aI x.items.length x.cI, .slice x.aD x.data.length x.cD, .int .i64 x.next] XB.out (Ne.symm NE.out))
              refine wp_store_row 25 _ _ rfl gA _ rfl rfl 25 _ XA.out sizePage rfl (by simp [Value.oneCell']) ?_
              refine hK.out _ _ (cells12 (row_far _ (BX.out _ BB.out) hAne)) (fun hHeld => ?_)
              clear hK K
              try simp only [Act.put, List.getElem_toArray, List.getElem_cons_zero, List.getElem_cons_succ, List.setIfInBounds_toArray, List.set_cons_zero, List.set_cons_succ]
              refine wpAnyH_ready (rs := [12]) (by kernel_rfl) (by simp) ?_
              refine AllReadyH.cons rfl (fun K hK => ?_) AllReadyH.nil
              rw [if_pos (by rfl)]
              refine wp_store_row 25 _ _ rfl gB _ rfl rfl 25 _ XB1.out sizePage rfl (by simp [Value.oneCell']) ?_
              refine hK.out _ _ (cells12 (row_far _ (row_far _ (BX.out _ BB.out) hAne) hBne)) (fun hHeld => ?_)
              clear hK K
              try simp only [Act.put, List.getElem_toArray, List.getElem_cons_zero, List.getElem_cons_succ, List.setIfInBounds_toArray, List.set_cons_zero, List.set_cons_succ]
              refine wpAnyH_take (i := 13) (v := ?vaq128111213) rfl (by kernel_rfl) (by kernel_rfl) (by kernel_rfl) (fun _ _ _ h => h) (Or.inl ⟨by rfl, ?hyq128111213⟩) (by assumption) ?raq128111213
              case hyq128111213 => (intro wq hSw; (try dsimp only at hSw); obtain ⟨e0, e1, e2, e3, e4, e5, e6, e7, e8, e9, e10, e11⟩ := hSw; go_simp <;> with_reducible rfl)
              try simp only [Act.put, List.getElem_toArray, List.getElem_cons_zero, List.getElem_cons_succ, List.setIfInBounds_toArray, List.set_cons_zero, List.set_cons_succ]
              refine wpAnyH_done (by kernel_rfl) ?_ _
              clear hHeld
              go_wp2_with fail
              go_meet
              case rel => exact ⟨gA, gB, x, y, gk, rfl, rfl, rfl, ⟨row_far _ (setRow_heap _ _ _ _ _ _ XA.out) NE.out, setRow_heap _ _ _ _ _ _ XB1.out, (SX.out.row XA.out LA.out _).row XB1.out LB.out _, (SY.out.row XA.out LA.out _).row XB1.out LB.out _, (SK.out.row XA.out _).row XB1.out _, below_row _ (below_row _ BB.out LA.out) LB.out⟩⟩
        · go_simp
          have AL := hide (al v2 (.cells #[.int .i64 0, .int .i64 0, .slice none 0 0, .slice none 0 0, .int .i64 0] 25))
          have LB : Hid (w1.heap.size ≤ v2.heap.size) := BB.out.size
          replace SX := hide (SX.out.keep AL.out)
          replace SY := hide (SY.out.keep AL.out)
          replace BB := hide (bt BB.out AL.out)
          have XB := hide (heap_alloc_new v2 (.cells #[.int .i64 0, .int .i64 0, .slice none 0 0, .slice none 0 0, .int .i64 0] 25))
          refine hK.out _ _ (SS.out _ BB.out) (fun hHeld => ?_)
          clear hK K AL
          try simp only [Act.put, List.getElem_toArray, List.getElem_cons_zero, List.getElem_cons_succ, List.setIfInBounds_toArray, List.set_cons_zero, List.set_cons_succ]
          generalize (v2.alloc (.cells #[.int .i64 0, .int .i64 0, .slice none 0 0, .slice none 0 0, .int .i64 0] 25)) = v13 at *
          generalize v2.heap.size = gB at *
          refine wpAnyH_ready (rs := [8, 9]) (by kernel_rfl) (by simp) ?_
          refine (AllReadyH.cons rfl (fun K hK => ?_) (AllReadyH.cons rfl (fun K hK => ?_) AllReadyH.nil))
          · go_simp
            refine (SP3.out _ BB.out).mono ?_
            rintro _ v14 ⟨gk, rfl, hS, -, -, hb⟩
            have SK := hide hS
            replace SX := hide (SX.out.keep hb)
            replace SY := hide (SY.out.keep hb)
            replace XB := hide (blk_keep XB.out hb)
            replace BB := hide (bt BB.out hb)
            clear hS hb
            go_wp2_with fail
            refine hK.out _ _ (SS.out _ BB.out) (fun hHeld => ?_)
            clear hK K
            try simp only [Act.put, List.getElem_toArray, List.getElem_cons_zero, List.getElem_cons_succ, List.setIfInBounds_toArray, List.set_cons_zero, List.set_cons_succ]
            refine wpAnyH_ready (rs := [9]) (by kernel_rfl) (by simp) ?_
            refine (AllReadyH.cons rfl (fun K hK => ?_) AllReadyH.nil)
            · go_simp
              have AL := hide (al v14 (.cells #[.int .i64 0, .int .i64 0, .slice none 0 0, .slice none 0 0, .int .i64 0] 25))
              have LA : Hid (w1.heap.size ≤ v14.heap.size) := BB.out.size
              have NE : Hid (v14.heap.size ≠ gB) := by have := (Array.getElem?_eq_some_iff.1 XB.out).1; show _ ≠ _; omega
              replace SX := hide (SX.out.keep AL.out)
              replace SY := hide (SY.out.keep AL.out)
              replace SK := hide (SK.out.keep AL.out)
              replace XB := hide (blk_keep XB.out AL.out)
              replace BB := hide (bt BB.out AL.out)
              have XA := hide (heap_alloc_new v14 (.cells #[.int .i64 0, .int .i64 0, .slice none 0 0, .slice none 0 0, .int .i64 0] 25))
              refine hK.out _ _ (SS.out _ BB.out) (fun hHeld => ?_)
              clear hK K AL
              try simp only [Act.put, List.getElem_toArray, List.getElem_cons_zero, List.getElem_cons_succ, List.setIfInBounds_toArray, List.set_cons_zero, List.set_cons_succ]
              generalize (v14.alloc (.cells #[.int .i64 0, .int .i64 0, .slice none 0 0, .slice none 0 0, .int .i64 0] 25)) = v15 at *
              generalize v14.heap.size = gA at *
              have hAne : w.heap.size ≠ gA := by have := LA.out; omega
              have hBne : w.heap.size ≠ gB := by have := LB.out; omega
              refine wpAnyH_ready (rs := [11]) (by kernel_rfl) (by simp) ?_
              refine AllReadyH.cons rfl (fun K hK => ?_) AllReadyH.nil
              rw [if_pos (by rfl)]
              have XB1 := hide (row_far (W := v15) (g := gA) #[.int .i64 x.kind, .int .i64 x.level, .slice x.aI x.items.length x.cI, .slice x.aD x.data.length x.cD, .int .i64 x.next] XB.out (Ne.symm NE.out))
              refine wp_store_row 25 _ _ rfl gA _ rfl rfl 25 _ XA.out sizePage rfl (by simp [Value.oneCell']) ?_
              refine hK.out _ _ (cells12 (row_far _ (BX.out _ BB.out) hAne)) (fun hHeld => ?_)
              clear hK K
              try simp only [Act.put, List.getElem_toArray, List.getElem_cons_zero, List.getElem_cons_succ, List.setIfInBounds_toArray, List.set_cons_zero, List.set_cons_succ]
              refine wpAnyH_ready (rs := [12]) (by kernel_rfl) (by simp) ?_
              refine AllReadyH.cons rfl (fun K hK => ?_) AllReadyH.nil
              rw [if_pos (by rfl)]
              refine wp_store_row 25 _ _ rfl gB _ rfl rfl 25 _ XB1.out sizePage rfl (by simp [Value.oneCell']) ?_
              refine hK.out _ _ (cells12 (row_far _ (row_far _ (BX.out _ BB.out) hAne) hBne)) (fun hHeld => ?_)
              clear hK K
              try simp only [Act.put, List.getElem_toArray, List.getElem_cons_zero, List.getElem_cons_succ, List.setIfInBounds_toArray, List.set_cons_zero, List.set_cons_succ]
              refine wpAnyH_take (i := 13) (v := ?vaq1213141513) rfl (by kernel_rfl) (by kernel_rfl) (by kernel_rfl) (fun _ _ _ h => h) (Or.inl ⟨by rfl, ?hyq1213141513⟩) (by assumption) ?raq1213141513
              case hyq1213141513 => (intro wq hSw; (try dsimp only at hSw); obtain ⟨e0, e1, e2, e3, e4, e5, e6, e7, e8, e9, e10, e11⟩ := hSw; go_simp <;> with_reducible rfl)
              try simp only [Act.put, List.getElem_toArray, List.getElem_cons_zero, List.getElem_cons_succ, List.setIfInBounds_toArray, List.set_cons_zero, List.set_cons_succ]
              refine wpAnyH_done (by kernel_rfl) ?_ _
              clear hHeld
              go_wp2_with fail
              go_meet
              case rel => exact ⟨gA, gB, x, y, gk, rfl, rfl, rfl, ⟨row_far _ (setRow_heap _ _ _ _ _ _ XA.out) NE.out, setRow_heap _ _ _ _ _ _ XB1.out, (SX.out.row XA.out LA.out _).row XB1.out LB.out _, (SY.out.row XA.out LA.out _).row XB1.out LB.out _, (SK.out.row XA.out _).row XB1.out _, below_row _ (below_row _ BB.out LA.out) LB.out⟩⟩
          · go_simp
            have AL := hide (al v13 (.cells #[.int .i64 0, .int .i64 0, .slice none 0 0, .slice none 0 0, .int .i64 0] 25))
            have LA : Hid (w1.heap.size ≤ v13.heap.size) := BB.out.size
            have NE : Hid (v13.heap.size ≠ gB) := by have := (Array.getElem?_eq_some_iff.1 XB.out).1; show _ ≠ _; omega
            replace SX := hide (SX.out.keep AL.out)
            replace SY := hide (SY.out.keep AL.out)
            replace XB := hide (blk_keep XB.out AL.out)
            replace BB := hide (bt BB.out AL.out)
            have XA := hide (heap_alloc_new v13 (.cells #[.int .i64 0, .int .i64 0, .slice none 0 0, .slice none 0 0, .int .i64 0] 25))
            refine hK.out _ _ (SS.out _ BB.out) (fun hHeld => ?_)
            clear hK K AL
            try simp only [Act.put, List.getElem_toArray, List.getElem_cons_zero, List.getElem_cons_succ, List.setIfInBounds_toArray, List.set_cons_zero, List.set_cons_succ]
            generalize (v13.alloc (.cells #[.int .i64 0, .int .i64 0, .slice none 0 0, .slice none 0 0, .int .i64 0] 25)) = v16 at *
            generalize v13.heap.size = gA at *
            refine wpAnyH_ready (rs := [8]) (by kernel_rfl) (by simp) ?_
            refine (AllReadyH.cons rfl (fun K hK => ?_) AllReadyH.nil)
            · go_simp
              refine (SP3.out _ BB.out).mono ?_
              rintro _ v17 ⟨gk, rfl, hS, -, -, hb⟩
              have SK := hide hS
              replace SX := hide (SX.out.keep hb)
              replace SY := hide (SY.out.keep hb)
              replace XA := hide (blk_keep XA.out hb)
              replace XB := hide (blk_keep XB.out hb)
              replace BB := hide (bt BB.out hb)
              clear hS hb
              go_wp2_with fail
              refine hK.out _ _ (SS.out _ BB.out) (fun hHeld => ?_)
              clear hK K
              try simp only [Act.put, List.getElem_toArray, List.getElem_cons_zero, List.getElem_cons_succ, List.setIfInBounds_toArray, List.set_cons_zero, List.set_cons_succ]
              have hAne : w.heap.size ≠ gA := by have := LA.out; omega
              have hBne : w.heap.size ≠ gB := by have := LB.out; omega
              refine wpAnyH_ready (rs := [11]) (by kernel_rfl) (by simp) ?_
              refine AllReadyH.cons rfl (fun K hK => ?_) AllReadyH.nil
              rw [if_pos (by rfl)]
              have XB1 := hide (row_far (W := v17) (g := gA) #[.int .i64 x.kind, .int .i64 x.level, .slice x.aI x.items.length x.cI, .slice x.aD x.data.length x.cD, .int .i64 x.next] XB.out (Ne.symm NE.out))
              refine wp_store_row 25 _ _ rfl gA _ rfl rfl 25 _ XA.out sizePage rfl (by simp [Value.oneCell']) ?_
              refine hK.out _ _ (cells12 (row_far _ (BX.out _ BB.out) hAne)) (fun hHeld => ?_)
              clear hK K
              try simp only [Act.put, List.getElem_toArray, List.getElem_cons_zero, List.getElem_cons_succ, List.setIfInBounds_toArray, List.set_cons_zero, List.set_cons_succ]
              refine wpAnyH_ready (rs := [12]) (by kernel_rfl) (by simp) ?_
              refine AllReadyH.cons rfl (fun K hK => ?_) AllReadyH.nil
              rw [if_pos (by rfl)]
              refine wp_store_row 25 _ _ rfl gB _ rfl rfl 25 _ XB1.out sizePage rfl (by simp [Value.oneCell']) ?_
              refine hK.out _ _ (cells12 (row_far _ (row_far _ (BX.out _ BB.out) hAne) hBne)) (fun hHeld => ?_)
              clear hK K
              try simp only [Act.put, List.getElem_toArray, List.getElem_cons_zero, List.getElem_cons_succ, List.setIfInBounds_toArray, List.set_cons_zero, List.set_cons_succ]
              refine wpAnyH_take (i := 13) (v := ?vaq1213161713) rfl (by kernel_rfl) (by kernel_rfl) (by kernel_rfl) (fun _ _ _ h => h) (Or.inl ⟨by rfl, ?hyq1213161713⟩) (by assumption) ?raq1213161713
              case hyq1213161713 => (intro wq hSw; (try dsimp only at hSw); obtain ⟨e0, e1, e2, e3, e4, e5, e6, e7, e8, e9, e10, e11⟩ := hSw; go_simp <;> with_reducible rfl)
              try simp only [Act.put, List.getElem_toArray, List.getElem_cons_zero, List.getElem_cons_succ, List.setIfInBounds_toArray, List.set_cons_zero, List.set_cons_succ]
              refine wpAnyH_done (by kernel_rfl) ?_ _
              clear hHeld
              go_wp2_with fail
              go_meet
              case rel => exact ⟨gA, gB, x, y, gk, rfl, rfl, rfl, ⟨row_far _ (setRow_heap _ _ _ _ _ _ XA.out) NE.out, setRow_heap _ _ _ _ _ _ XB1.out, (SX.out.row XA.out LA.out _).row XB1.out LB.out _, (SY.out.row XA.out LA.out _).row XB1.out LB.out _, (SK.out.row XA.out _).row XB1.out _, below_row _ (below_row _ BB.out LA.out) LB.out⟩⟩
      · go_simp
        have AL := hide (al v1 (.cells #[.int .i64 0, .int .i64 0, .slice none 0 0, .slice none 0 0, .int .i64 0] 25))
        have LA : Hid (w1.heap.size ≤ v1.heap.size) := BB.out.size
        replace SX := hide (SX.out.keep AL.out)
        replace BB := hide (bt BB.out AL.out)
        have XA := hide (heap_alloc_new v1 (.cells #[.int .i64 0, .int .i64 0, .slice none 0 0, .slice none 0 0, .int .i64 0] 25))
        refine hK.out _ _ (SS.out _ BB.out) (fun hHeld => ?_)
        clear hK K AL
        try simp only [Act.put, List.getElem_toArray, List.getElem_cons_zero, List.getElem_cons_succ, List.setIfInBounds_toArray, List.set_cons_zero, List.set_cons_succ]
        generalize (v1.alloc (.cells #[.int .i64 0, .int .i64 0, .slice none 0 0, .slice none 0 0, .int .i64 0] 25)) = v18 at *
        generalize v1.heap.size = gA at *
        refine wpAnyH_ready (rs := [5, 10]) (by kernel_rfl) (by simp) ?_
        refine (AllReadyH.cons rfl (fun K hK => ?_) (AllReadyH.cons rfl (fun K hK => ?_) AllReadyH.nil))
        · go_simp
          refine (SP2.out _ BB.out).mono ?_
          rintro _ v19 ⟨y, rfl, hS⟩
          have hb := hS.b
          have SY := hide (Sp.pre BB.out hS)
          replace SX := hide (SX.out.keep hb)
          replace XA := hide (blk_keep XA.out hb)
          replace BB := hide (bt BB.out hb)
          clear hS hb
          go_wp2_with fail
          refine hK.out _ _ (SS.out _ BB.out) (fun hHeld => ?_)
          clear hK K
          try simp only [Act.put, List.getElem_toArray, List.getElem_cons_zero, List.getElem_cons_succ, List.setIfInBounds_toArray, List.set_cons_zero, List.set_cons_succ]
          refine wpAnyH_ready (rs := [8, 10]) (by kernel_rfl) (by simp) ?_
          refine (AllReadyH.cons rfl (fun K hK => ?_) (AllReadyH.cons rfl (fun K hK => ?_) AllReadyH.nil))
          · go_simp
            refine (SP3.out _ BB.out).mono ?_
            rintro _ v20 ⟨gk, rfl, hS, -, -, hb⟩
            have SK := hide hS
            replace SX := hide (SX.out.keep hb)
            replace SY := hide (SY.out.keep hb)
            replace XA := hide (blk_keep XA.out hb)
            replace BB := hide (bt BB.out hb)
            clear hS hb
            go_wp2_with fail
            refine hK.out _ _ (SS.out _ BB.out) (fun hHeld => ?_)
            clear hK K
            try simp only [Act.put, List.getElem_toArray, List.getElem_cons_zero, List.getElem_cons_succ, List.setIfInBounds_toArray, List.set_cons_zero, List.set_cons_succ]
            refine wpAnyH_ready (rs := [10]) (by kernel_rfl) (by simp) ?_
            refine (AllReadyH.cons rfl (fun K hK => ?_) AllReadyH.nil)
            · go_simp
              have AL := hide (al v20 (.cells #[.int .i64 0, .int .i64 0, .slice none 0 0, .slice none 0 0, .int .i64 0] 25))
              have LB : Hid (w1.heap.size ≤ v20.heap.size) := BB.out.size
              have NE : Hid (gA ≠ v20.heap.size) := by have := (Array.getElem?_eq_some_iff.1 XA.out).1; show _ ≠ _; omega
              replace SX := hide (SX.out.keep AL.out)
              replace SY := hide (SY.out.keep AL.out)
              replace SK := hide (SK.out.keep AL.out)
              replace XA := hide (blk_keep XA.out AL.out)
              replace BB := hide (bt BB.out AL.out)
              have XB := hide (heap_alloc_new v20 (.cells #[.int .i64 0, .int .i64 0, .slice none 0 0, .slice none 0 0, .int .i64 0] 25))
              refine hK.out _ _ (SS.out _ BB.out) (fun hHeld => ?_)
              clear hK K AL
              try simp only [Act.put, List.getElem_toArray, List.getElem_cons_zero, List.getElem_cons_succ, List.setIfInBounds_toArray, List.set_cons_zero, List.set_cons_succ]
              generalize (v20.alloc (.cells #[.int .i64 0, .int .i64 0, .slice none 0 0, .slice none 0 0, .int .i64 0] 25)) = v21 at *
              generalize v20.heap.size = gB at *
              have hAne : w.heap.size ≠ gA := by have := LA.out; omega
              have hBne : w.heap.size ≠ gB := by have := LB.out; omega
              refine wpAnyH_ready (rs := [11]) (by kernel_rfl) (by simp) ?_
              refine AllReadyH.cons rfl (fun K hK => ?_) AllReadyH.nil
              rw [if_pos (by rfl)]
              have XB1 := hide (row_far (W := v21) (g := gA) #[.int .i64 x.kind, .int .i64 x.level, .slice x.aI x.items.length x.cI, .slice x.aD x.data.length x.cD, .int .i64 x.next] XB.out (Ne.symm NE.out))
              refine wp_store_row 25 _ _ rfl gA _ rfl rfl 25 _ XA.out sizePage rfl (by simp [Value.oneCell']) ?_
              refine hK.out _ _ (cells12 (row_far _ (BX.out _ BB.out) hAne)) (fun hHeld => ?_)
              clear hK K
              try simp only [Act.put, List.getElem_toArray, List.getElem_cons_zero, List.getElem_cons_succ, List.setIfInBounds_toArray, List.set_cons_zero, List.set_cons_succ]
              refine wpAnyH_ready (rs := [12]) (by kernel_rfl) (by simp) ?_
              refine AllReadyH.cons rfl (fun K hK => ?_) AllReadyH.nil
              rw [if_pos (by rfl)]
              refine wp_store_row 25 _ _ rfl gB _ rfl rfl 25 _ XB1.out sizePage rfl (by simp [Value.oneCell']) ?_
              refine hK.out _ _ (cells12 (row_far _ (row_far _ (BX.out _ BB.out) hAne) hBne)) (fun hHeld => ?_)
              clear hK K
              try simp only [Act.put, List.getElem_toArray, List.getElem_cons_zero, List.getElem_cons_succ, List.setIfInBounds_toArray, List.set_cons_zero, List.set_cons_succ]
              refine wpAnyH_take (i := 13) (v := ?vaq11819202113) rfl (by kernel_rfl) (by kernel_rfl) (by kernel_rfl) (fun _ _ _ h => h) (Or.inl ⟨by rfl, ?hyq11819202113⟩) (by assumption) ?raq11819202113
              case hyq11819202113 => (intro wq hSw; (try dsimp only at hSw); obtain ⟨e0, e1, e2, e3, e4, e5, e6, e7, e8, e9, e10, e11⟩ := hSw; go_simp <;> with_reducible rfl)
              try simp only [Act.put, List.getElem_toArray, List.getElem_cons_zero, List.getElem_cons_succ, List.setIfInBounds_toArray, List.set_cons_zero, List.set_cons_succ]
              refine wpAnyH_done (by kernel_rfl) ?_ _
              clear hHeld
              go_wp2_with fail
              go_meet
              case rel => exact ⟨gA, gB, x, y, gk, rfl, rfl, rfl, ⟨row_far _ (setRow_heap _ _ _ _ _ _ XA.out) NE.out, setRow_heap _ _ _ _ _ _ XB1.out, (SX.out.row XA.out LA.out _).row XB1.out LB.out _, (SY.out.row XA.out LA.out _).row XB1.out LB.out _, (SK.out.row XA.out _).row XB1.out _, below_row _ (below_row _ BB.out LA.out) LB.out⟩⟩
          · go_simp
            have AL := hide (al v19 (.cells #[.int .i64 0, .int .i64 0, .slice none 0 0, .slice none 0 0, .int .i64 0] 25))
            have LB : Hid (w1.heap.size ≤ v19.heap.size) := BB.out.size
            have NE : Hid (gA ≠ v19.heap.size) := by have := (Array.getElem?_eq_some_iff.1 XA.out).1; show _ ≠ _; omega
            replace SX := hide (SX.out.keep AL.out)
            replace SY := hide (SY.out.keep AL.out)
            replace XA := hide (blk_keep XA.out AL.out)
            replace BB := hide (bt BB.out AL.out)
            have XB := hide (heap_alloc_new v19 (.cells #[.int .i64 0, .int .i64 0, .slice none 0 0, .slice none 0 0, .int .i64 0] 25))
            refine hK.out _ _ (SS.out _ BB.out) (fun hHeld => ?_)
            clear hK K AL
            try simp only [Act.put, List.getElem_toArray, List.getElem_cons_zero, List.getElem_cons_succ, List.setIfInBounds_toArray, List.set_cons_zero, List.set_cons_succ]
            generalize (v19.alloc (.cells #[.int .i64 0, .int .i64 0, .slice none 0 0, .slice none 0 0, .int .i64 0] 25)) = v22 at *
            generalize v19.heap.size = gB at *
            refine wpAnyH_ready (rs := [8]) (by kernel_rfl) (by simp) ?_
            refine (AllReadyH.cons rfl (fun K hK => ?_) AllReadyH.nil)
            · go_simp
              refine (SP3.out _ BB.out).mono ?_
              rintro _ v23 ⟨gk, rfl, hS, -, -, hb⟩
              have SK := hide hS
              replace SX := hide (SX.out.keep hb)
              replace SY := hide (SY.out.keep hb)
              replace XA := hide (blk_keep XA.out hb)
              replace XB := hide (blk_keep XB.out hb)
              replace BB := hide (bt BB.out hb)
              clear hS hb
              go_wp2_with fail
              refine hK.out _ _ (SS.out _ BB.out) (fun hHeld => ?_)
              clear hK K
              try simp only [Act.put, List.getElem_toArray, List.getElem_cons_zero, List.getElem_cons_succ, List.setIfInBounds_toArray, List.set_cons_zero, List.set_cons_succ]
              have hAne : w.heap.size ≠ gA := by have := LA.out; omega
              have hBne : w.heap.size ≠ gB := by have := LB.out; omega
              refine wpAnyH_ready (rs := [11]) (by kernel_rfl) (by simp) ?_
              refine AllReadyH.cons rfl (fun K hK => ?_) AllReadyH.nil
              rw [if_pos (by rfl)]
              have XB1 := hide (row_far (W := v23) (g := gA) #[.int .i64 x.kind, .int .i64 x.level, .slice x.aI x.items.length x.cI, .slice x.aD x.data.length x.cD, .int .i64 x.next] XB.out (Ne.symm NE.out))
              refine wp_store_row 25 _ _ rfl gA _ rfl rfl 25 _ XA.out sizePage rfl (by simp [Value.oneCell']) ?_
              refine hK.out _ _ (cells12 (row_far _ (BX.out _ BB.out) hAne)) (fun hHeld => ?_)
              clear hK K
              try simp only [Act.put, List.getElem_toArray, List.getElem_cons_zero, List.getElem_cons_succ, List.setIfInBounds_toArray, List.set_cons_zero, List.set_cons_succ]
              refine wpAnyH_ready (rs := [12]) (by kernel_rfl) (by simp) ?_
              refine AllReadyH.cons rfl (fun K hK => ?_) AllReadyH.nil
              rw [if_pos (by rfl)]
              refine wp_store_row 25 _ _ rfl gB _ rfl rfl 25 _ XB1.out sizePage rfl (by simp [Value.oneCell']) ?_
              refine hK.out _ _ (cells12 (row_far _ (row_far _ (BX.out _ BB.out) hAne) hBne)) (fun hHeld => ?_)
              clear hK K
              try simp only [Act.put, List.getElem_toArray, List.getElem_cons_zero, List.getElem_cons_succ, List.setIfInBounds_toArray, List.set_cons_zero, List.set_cons_succ]
              refine wpAnyH_take (i := 13) (v := ?vaq11819222313) rfl (by kernel_rfl) (by kernel_rfl) (by kernel_rfl) (fun _ _ _ h => h) (Or.inl ⟨by rfl, ?hyq11819222313⟩) (by assumption) ?raq11819222313
              case hyq11819222313 => (intro wq hSw; (try dsimp only at hSw); obtain ⟨e0, e1, e2, e3, e4, e5, e6, e7, e8, e9, e10, e11⟩ := hSw; go_simp <;> with_reducible rfl)
              try simp only [Act.put, List.getElem_toArray, List.getElem_cons_zero, List.getElem_cons_succ, List.setIfInBounds_toArray, List.set_cons_zero, List.set_cons_succ]
              refine wpAnyH_done (by kernel_rfl) ?_ _
              clear hHeld
              go_wp2_with fail
              go_meet
              case rel => exact ⟨gA, gB, x, y, gk, rfl, rfl, rfl, ⟨row_far _ (setRow_heap _ _ _ _ _ _ XA.out) NE.out, setRow_heap _ _ _ _ _ _ XB1.out, (SX.out.row XA.out LA.out _).row XB1.out LB.out _, (SY.out.row XA.out LA.out _).row XB1.out LB.out _, (SK.out.row XA.out _).row XB1.out _, below_row _ (below_row _ BB.out LA.out) LB.out⟩⟩
        · go_simp
          have AL := hide (al v18 (.cells #[.int .i64 0, .int .i64 0, .slice none 0 0, .slice none 0 0, .int .i64 0] 25))
          have LB : Hid (w1.heap.size ≤ v18.heap.size) := BB.out.size
          have NE : Hid (gA ≠ v18.heap.size) := by have := (Array.getElem?_eq_some_iff.1 XA.out).1; show _ ≠ _; omega
          replace SX := hide (SX.out.keep AL.out)
          replace XA := hide (blk_keep XA.out AL.out)
          replace BB := hide (bt BB.out AL.out)
          have XB := hide (heap_alloc_new v18 (.cells #[.int .i64 0, .int .i64 0, .slice none 0 0, .slice none 0 0, .int .i64 0] 25))
          refine hK.out _ _ (SS.out _ BB.out) (fun hHeld => ?_)
          clear hK K AL
          try simp only [Act.put, List.getElem_toArray, List.getElem_cons_zero, List.getElem_cons_succ, List.setIfInBounds_toArray, List.set_cons_zero, List.set_cons_succ]
          generalize (v18.alloc (.cells #[.int .i64 0, .int .i64 0, .slice none 0 0, .slice none 0 0, .int .i64 0] 25)) = v24 at *
          generalize v18.heap.size = gB at *
          refine wpAnyH_ready (rs := [5]) (by kernel_rfl) (by simp) ?_
          refine (AllReadyH.cons rfl (fun K hK => ?_) AllReadyH.nil)
          · go_simp
            refine (SP2.out _ BB.out).mono ?_
            rintro _ v25 ⟨y, rfl, hS⟩
            have hb := hS.b
            have SY := hide (Sp.pre BB.out hS)
            replace SX := hide (SX.out.keep hb)
            replace XA := hide (blk_keep XA.out hb)
            replace XB := hide (blk_keep XB.out hb)
            replace BB := hide (bt BB.out hb)
            clear hS hb
            go_wp2_with fail
            refine hK.out _ _ (SS.out _ BB.out) (fun hHeld => ?_)
            clear hK K
            try simp only [Act.put, List.getElem_toArray, List.getElem_cons_zero, List.getElem_cons_succ, List.setIfInBounds_toArray, List.set_cons_zero, List.set_cons_succ]
            refine wpAnyH_ready (rs := [8]) (by kernel_rfl) (by simp) ?_
            refine (AllReadyH.cons rfl (fun K hK => ?_) AllReadyH.nil)
            · go_simp
              refine (SP3.out _ BB.out).mono ?_
              rintro _ v26 ⟨gk, rfl, hS, -, -, hb⟩
              have SK := hide hS
              replace SX := hide (SX.out.keep hb)
              replace SY := hide (SY.out.keep hb)
              replace XA := hide (blk_keep XA.out hb)
              replace XB := hide (blk_keep XB.out hb)
              replace BB := hide (bt BB.out hb)
              clear hS hb
              go_wp2_with fail
              refine hK.out _ _ (SS.out _ BB.out) (fun hHeld => ?_)
              clear hK K
              try simp only [Act.put, List.getElem_toArray, List.getElem_cons_zero, List.getElem_cons_succ, List.setIfInBounds_toArray, List.set_cons_zero, List.set_cons_succ]
              have hAne : w.heap.size ≠ gA := by have := LA.out; omega
              have hBne : w.heap.size ≠ gB := by have := LB.out; omega
              refine wpAnyH_ready (rs := [11]) (by kernel_rfl) (by simp) ?_
              refine AllReadyH.cons rfl (fun K hK => ?_) AllReadyH.nil
              rw [if_pos (by rfl)]
              have XB1 := hide (row_far (W := v26) (g := gA) #[.int .i64 x.kind, .int .i64 x.level, .slice x.aI x.items.length x.cI, .slice x.aD x.data.length x.cD, .int .i64 x.next] XB.out (Ne.symm NE.out))
              refine wp_store_row 25 _ _ rfl gA _ rfl rfl 25 _ XA.out sizePage rfl (by simp [Value.oneCell']) ?_
              refine hK.out _ _ (cells12 (row_far _ (BX.out _ BB.out) hAne)) (fun hHeld => ?_)
              clear hK K
              try simp only [Act.put, List.getElem_toArray, List.getElem_cons_zero, List.getElem_cons_succ, List.setIfInBounds_toArray, List.set_cons_zero, List.set_cons_succ]
              refine wpAnyH_ready (rs := [12]) (by kernel_rfl) (by simp) ?_
              refine AllReadyH.cons rfl (fun K hK => ?_) AllReadyH.nil
              rw [if_pos (by rfl)]
              refine wp_store_row 25 _ _ rfl gB _ rfl rfl 25 _ XB1.out sizePage rfl (by simp [Value.oneCell']) ?_
              refine hK.out _ _ (cells12 (row_far _ (row_far _ (BX.out _ BB.out) hAne) hBne)) (fun hHeld => ?_)
              clear hK K
              try simp only [Act.put, List.getElem_toArray, List.getElem_cons_zero, List.getElem_cons_succ, List.setIfInBounds_toArray, List.set_cons_zero, List.set_cons_succ]
              refine wpAnyH_take (i := 13) (v := ?vaq11824252613) rfl (by kernel_rfl) (by kernel_rfl) (by kernel_rfl) (fun _ _ _ h => h) (Or.inl ⟨by rfl, ?hyq11824252613⟩) (by assumption) ?raq11824252613
              case hyq11824252613 => (intro wq hSw; (try dsimp only at hSw); obtain ⟨e0, e1, e2, e3, e4, e5, e6, e7, e8, e9, e10, e11⟩ := hSw; go_simp <;> with_reducible rfl)
              try simp only [Act.put, List.getElem_toArray, List.getElem_cons_zero, List.getElem_cons_succ, List.setIfInBounds_toArray, List.set_cons_zero, List.set_cons_succ]
              refine wpAnyH_done (by kernel_rfl) ?_ _
              clear hHeld
              go_wp2_with fail
              go_meet
              case rel => exact ⟨gA, gB, x, y, gk, rfl, rfl, rfl, ⟨row_far _ (setRow_heap _ _ _ _ _ _ XA.out) NE.out, setRow_heap _ _ _ _ _ _ XB1.out, (SX.out.row XA.out LA.out _).row XB1.out LB.out _, (SY.out.row XA.out LA.out _).row XB1.out LB.out _, (SK.out.row XA.out _).row XB1.out _, below_row _ (below_row _ BB.out LA.out) LB.out⟩⟩
      · go_simp
        have AL := hide (al v1 (.cells #[.int .i64 0, .int .i64 0, .slice none 0 0, .slice none 0 0, .int .i64 0] 25))
        have LB : Hid (w1.heap.size ≤ v1.heap.size) := BB.out.size
        replace SX := hide (SX.out.keep AL.out)
        replace BB := hide (bt BB.out AL.out)
        have XB := hide (heap_alloc_new v1 (.cells #[.int .i64 0, .int .i64 0, .slice none 0 0, .slice none 0 0, .int .i64 0] 25))
        refine hK.out _ _ (SS.out _ BB.out) (fun hHeld => ?_)
        clear hK K AL
        try simp only [Act.put, List.getElem_toArray, List.getElem_cons_zero, List.getElem_cons_succ, List.setIfInBounds_toArray, List.set_cons_zero, List.set_cons_succ]
        generalize (v1.alloc (.cells #[.int .i64 0, .int .i64 0, .slice none 0 0, .slice none 0 0, .int .i64 0] 25)) = v27 at *
        generalize v1.heap.size = gB at *
        refine wpAnyH_ready (rs := [5, 9]) (by kernel_rfl) (by simp) ?_
        refine (AllReadyH.cons rfl (fun K hK => ?_) (AllReadyH.cons rfl (fun K hK => ?_) AllReadyH.nil))
        · go_simp
          refine (SP2.out _ BB.out).mono ?_
          rintro _ v28 ⟨y, rfl, hS⟩
          have hb := hS.b
          have SY := hide (Sp.pre BB.out hS)
          replace SX := hide (SX.out.keep hb)
          replace XB := hide (blk_keep XB.out hb)
          replace BB := hide (bt BB.out hb)
          clear hS hb
          go_wp2_with fail
          refine hK.out _ _ (SS.out _ BB.out) (fun hHeld => ?_)
          clear hK K
          try simp only [Act.put, List.getElem_toArray, List.getElem_cons_zero, List.getElem_cons_succ, List.setIfInBounds_toArray, List.set_cons_zero, List.set_cons_succ]
          refine wpAnyH_ready (rs := [8, 9]) (by kernel_rfl) (by simp) ?_
          refine (AllReadyH.cons rfl (fun K hK => ?_) (AllReadyH.cons rfl (fun K hK => ?_) AllReadyH.nil))
          · go_simp
            refine (SP3.out _ BB.out).mono ?_
            rintro _ v29 ⟨gk, rfl, hS, -, -, hb⟩
            have SK := hide hS
            replace SX := hide (SX.out.keep hb)
            replace SY := hide (SY.out.keep hb)
            replace XB := hide (blk_keep XB.out hb)
            replace BB := hide (bt BB.out hb)
            clear hS hb
            go_wp2_with fail
            refine hK.out _ _ (SS.out _ BB.out) (fun hHeld => ?_)
            clear hK K
            try simp only [Act.put, List.getElem_toArray, List.getElem_cons_zero, List.getElem_cons_succ, List.setIfInBounds_toArray, List.set_cons_zero, List.set_cons_succ]
            refine wpAnyH_ready (rs := [9]) (by kernel_rfl) (by simp) ?_
            refine (AllReadyH.cons rfl (fun K hK => ?_) AllReadyH.nil)
            · go_simp
              have AL := hide (al v29 (.cells #[.int .i64 0, .int .i64 0, .slice none 0 0, .slice none 0 0, .int .i64 0] 25))
              have LA : Hid (w1.heap.size ≤ v29.heap.size) := BB.out.size
              have NE : Hid (v29.heap.size ≠ gB) := by have := (Array.getElem?_eq_some_iff.1 XB.out).1; show _ ≠ _; omega
              replace SX := hide (SX.out.keep AL.out)
              replace SY := hide (SY.out.keep AL.out)
              replace SK := hide (SK.out.keep AL.out)
              replace XB := hide (blk_keep XB.out AL.out)
              replace BB := hide (bt BB.out AL.out)
              have XA := hide (heap_alloc_new v29 (.cells #[.int .i64 0, .int .i64 0, .slice none 0 0, .slice none 0 0, .int .i64 0] 25))
              refine hK.out _ _ (SS.out _ BB.out) (fun hHeld => ?_)
              clear hK K AL
              try simp only [Act.put, List.getElem_toArray, List.getElem_cons_zero, List.getElem_cons_succ, List.setIfInBounds_toArray, List.set_cons_zero, List.set_cons_succ]
              generalize (v29.alloc (.cells #[.int .i64 0, .int .i64 0, .slice none 0 0, .slice none 0 0, .int .i64 0] 25)) = v30 at *
              generalize v29.heap.size = gA at *
              have hAne : w.heap.size ≠ gA := by have := LA.out; omega
              have hBne : w.heap.size ≠ gB := by have := LB.out; omega
              refine wpAnyH_ready (rs := [11]) (by kernel_rfl) (by simp) ?_
              refine AllReadyH.cons rfl (fun K hK => ?_) AllReadyH.nil
              rw [if_pos (by rfl)]
              have XB1 := hide (row_far (W := v30) (g := gA) #[.int .i64 x.kind, .int .i64 x.level, .slice x.aI x.items.length x.cI, .slice x.aD x.data.length x.cD, .int .i64 x.next] XB.out (Ne.symm NE.out))
              refine wp_store_row 25 _ _ rfl gA _ rfl rfl 25 _ XA.out sizePage rfl (by simp [Value.oneCell']) ?_
              refine hK.out _ _ (cells12 (row_far _ (BX.out _ BB.out) hAne)) (fun hHeld => ?_)
              clear hK K
              try simp only [Act.put, List.getElem_toArray, List.getElem_cons_zero, List.getElem_cons_succ, List.setIfInBounds_toArray, List.set_cons_zero, List.set_cons_succ]
              refine wpAnyH_ready (rs := [12]) (by kernel_rfl) (by simp) ?_
              refine AllReadyH.cons rfl (fun K hK => ?_) AllReadyH.nil
              rw [if_pos (by rfl)]
              refine wp_store_row 25 _ _ rfl gB _ rfl rfl 25 _ XB1.out sizePage rfl (by simp [Value.oneCell']) ?_
              refine hK.out _ _ (cells12 (row_far _ (row_far _ (BX.out _ BB.out) hAne) hBne)) (fun hHeld => ?_)
              clear hK K
              try simp only [Act.put, List.getElem_toArray, List.getElem_cons_zero, List.getElem_cons_succ, List.setIfInBounds_toArray, List.set_cons_zero, List.set_cons_succ]
              refine wpAnyH_take (i := 13) (v := ?vaq12728293013) rfl (by kernel_rfl) (by kernel_rfl) (by kernel_rfl) (fun _ _ _ h => h) (Or.inl ⟨by rfl, ?hyq12728293013⟩) (by assumption) ?raq12728293013
              case hyq12728293013 => (intro wq hSw; (try dsimp only at hSw); obtain ⟨e0, e1, e2, e3, e4, e5, e6, e7, e8, e9, e10, e11⟩ := hSw; go_simp <;> with_reducible rfl)
              try simp only [Act.put, List.getElem_toArray, List.getElem_cons_zero, List.getElem_cons_succ, List.setIfInBounds_toArray, List.set_cons_zero, List.set_cons_succ]
              refine wpAnyH_done (by kernel_rfl) ?_ _
              clear hHeld
              go_wp2_with fail
              go_meet
              case rel => exact ⟨gA, gB, x, y, gk, rfl, rfl, rfl, ⟨row_far _ (setRow_heap _ _ _ _ _ _ XA.out) NE.out, setRow_heap _ _ _ _ _ _ XB1.out, (SX.out.row XA.out LA.out _).row XB1.out LB.out _, (SY.out.row XA.out LA.out _).row XB1.out LB.out _, (SK.out.row XA.out _).row XB1.out _, below_row _ (below_row _ BB.out LA.out) LB.out⟩⟩
          · go_simp
            have AL := hide (al v28 (.cells #[.int .i64 0, .int .i64 0, .slice none 0 0, .slice none 0 0, .int .i64 0] 25))
            have LA : Hid (w1.heap.size ≤ v28.heap.size) := BB.out.size
            have NE : Hid (v28.heap.size ≠ gB) := by have := (Array.getElem?_eq_some_iff.1 XB.out).1; show _ ≠ _; omega
            replace SX := hide (SX.out.keep AL.out)
            replace SY := hide (SY.out.keep AL.out)
            replace XB := hide (blk_keep XB.out AL.out)
            replace BB := hide (bt BB.out AL.out)
            have XA := hide (heap_alloc_new v28 (.cells #[.int .i64 0, .int .i64 0, .slice none 0 0, .slice none 0 0, .int .i64 0] 25))
            refine hK.out _ _ (SS.out _ BB.out) (fun hHeld => ?_)
            clear hK K AL
            try simp only [Act.put, List.getElem_toArray, List.getElem_cons_zero, List.getElem_cons_succ, List.setIfInBounds_toArray, List.set_cons_zero, List.set_cons_succ]
            generalize (v28.alloc (.cells #[.int .i64 0, .int .i64 0, .slice none 0 0, .slice none 0 0, .int .i64 0] 25)) = v31 at *
            generalize v28.heap.size = gA at *
            refine wpAnyH_ready (rs := [8]) (by kernel_rfl) (by simp) ?_
            refine (AllReadyH.cons rfl (fun K hK => ?_) AllReadyH.nil)
            · go_simp
              refine (SP3.out _ BB.out).mono ?_
              rintro _ v32 ⟨gk, rfl, hS, -, -, hb⟩
              have SK := hide hS
              replace SX := hide (SX.out.keep hb)
              replace SY := hide (SY.out.keep hb)
              replace XA := hide (blk_keep XA.out hb)
              replace XB := hide (blk_keep XB.out hb)
              replace BB := hide (bt BB.out hb)
              clear hS hb
              go_wp2_with fail
              refine hK.out _ _ (SS.out _ BB.out) (fun hHeld => ?_)
              clear hK K
              try simp only [Act.put, List.getElem_toArray, List.getElem_cons_zero, List.getElem_cons_succ, List.setIfInBounds_toArray, List.set_cons_zero, List.set_cons_succ]
              have hAne : w.heap.size ≠ gA := by have := LA.out; omega
              have hBne : w.heap.size ≠ gB := by have := LB.out; omega
              refine wpAnyH_ready (rs := [11]) (by kernel_rfl) (by simp) ?_
              refine AllReadyH.cons rfl (fun K hK => ?_) AllReadyH.nil
              rw [if_pos (by rfl)]
              have XB1 := hide (row_far (W := v32) (g := gA) #[.int .i64 x.kind, .int .i64 x.level, .slice x.aI x.items.length x.cI, .slice x.aD x.data.length x.cD, .int .i64 x.next] XB.out (Ne.symm NE.out))
              refine wp_store_row 25 _ _ rfl gA _ rfl rfl 25 _ XA.out sizePage rfl (by simp [Value.oneCell']) ?_
              refine hK.out _ _ (cells12 (row_far _ (BX.out _ BB.out) hAne)) (fun hHeld => ?_)
              clear hK K
              try simp only [Act.put, List.getElem_toArray, List.getElem_cons_zero, List.getElem_cons_succ, List.setIfInBounds_toArray, List.set_cons_zero, List.set_cons_succ]
              refine wpAnyH_ready (rs := [12]) (by kernel_rfl) (by simp) ?_
              refine AllReadyH.cons rfl (fun K hK => ?_) AllReadyH.nil
              rw [if_pos (by rfl)]
              refine wp_store_row 25 _ _ rfl gB _ rfl rfl 25 _ XB1.out sizePage rfl (by simp [Value.oneCell']) ?_
              refine hK.out _ _ (cells12 (row_far _ (row_far _ (BX.out _ BB.out) hAne) hBne)) (fun hHeld => ?_)
              clear hK K
              try simp only [Act.put, List.getElem_toArray, List.getElem_cons_zero, List.getElem_cons_succ, List.setIfInBounds_toArray, List.set_cons_zero, List.set_cons_succ]
              refine wpAnyH_take (i := 13) (v := ?vaq12728313213) rfl (by kernel_rfl) (by kernel_rfl) (by kernel_rfl) (fun _ _ _ h => h) (Or.inl ⟨by rfl, ?hyq12728313213⟩) (by assumption) ?raq12728313213
              case hyq12728313213 => (intro wq hSw; (try dsimp only at hSw); obtain ⟨e0, e1, e2, e3, e4, e5, e6, e7, e8, e9, e10, e11⟩ := hSw; go_simp <;> with_reducible rfl)
              try simp only [Act.put, List.getElem_toArray, List.getElem_cons_zero, List.getElem_cons_succ, List.setIfInBounds_toArray, List.set_cons_zero, List.set_cons_succ]
              refine wpAnyH_done (by kernel_rfl) ?_ _
              clear hHeld
              go_wp2_with fail
              go_meet
              case rel => exact ⟨gA, gB, x, y, gk, rfl, rfl, rfl, ⟨row_far _ (setRow_heap _ _ _ _ _ _ XA.out) NE.out, setRow_heap _ _ _ _ _ _ XB1.out, (SX.out.row XA.out LA.out _).row XB1.out LB.out _, (SY.out.row XA.out LA.out _).row XB1.out LB.out _, (SK.out.row XA.out _).row XB1.out _, below_row _ (below_row _ BB.out LA.out) LB.out⟩⟩
        · go_simp
          have AL := hide (al v27 (.cells #[.int .i64 0, .int .i64 0, .slice none 0 0, .slice none 0 0, .int .i64 0] 25))
          have LA : Hid (w1.heap.size ≤ v27.heap.size) := BB.out.size
          have NE : Hid (v27.heap.size ≠ gB) := by have := (Array.getElem?_eq_some_iff.1 XB.out).1; show _ ≠ _; omega
          replace SX := hide (SX.out.keep AL.out)
          replace XB := hide (blk_keep XB.out AL.out)
          replace BB := hide (bt BB.out AL.out)
          have XA := hide (heap_alloc_new v27 (.cells #[.int .i64 0, .int .i64 0, .slice none 0 0, .slice none 0 0, .int .i64 0] 25))
          refine hK.out _ _ (SS.out _ BB.out) (fun hHeld => ?_)
          clear hK K AL
          try simp only [Act.put, List.getElem_toArray, List.getElem_cons_zero, List.getElem_cons_succ, List.setIfInBounds_toArray, List.set_cons_zero, List.set_cons_succ]
          generalize (v27.alloc (.cells #[.int .i64 0, .int .i64 0, .slice none 0 0, .slice none 0 0, .int .i64 0] 25)) = v33 at *
          generalize v27.heap.size = gA at *
          refine wpAnyH_ready (rs := [5]) (by kernel_rfl) (by simp) ?_
          refine (AllReadyH.cons rfl (fun K hK => ?_) AllReadyH.nil)
          · go_simp
            refine (SP2.out _ BB.out).mono ?_
            rintro _ v34 ⟨y, rfl, hS⟩
            have hb := hS.b
            have SY := hide (Sp.pre BB.out hS)
            replace SX := hide (SX.out.keep hb)
            replace XA := hide (blk_keep XA.out hb)
            replace XB := hide (blk_keep XB.out hb)
            replace BB := hide (bt BB.out hb)
            clear hS hb
            go_wp2_with fail
            refine hK.out _ _ (SS.out _ BB.out) (fun hHeld => ?_)
            clear hK K
            try simp only [Act.put, List.getElem_toArray, List.getElem_cons_zero, List.getElem_cons_succ, List.setIfInBounds_toArray, List.set_cons_zero, List.set_cons_succ]
            refine wpAnyH_ready (rs := [8]) (by kernel_rfl) (by simp) ?_
            refine (AllReadyH.cons rfl (fun K hK => ?_) AllReadyH.nil)
            · go_simp
              refine (SP3.out _ BB.out).mono ?_
              rintro _ v35 ⟨gk, rfl, hS, -, -, hb⟩
              have SK := hide hS
              replace SX := hide (SX.out.keep hb)
              replace SY := hide (SY.out.keep hb)
              replace XA := hide (blk_keep XA.out hb)
              replace XB := hide (blk_keep XB.out hb)
              replace BB := hide (bt BB.out hb)
              clear hS hb
              go_wp2_with fail
              refine hK.out _ _ (SS.out _ BB.out) (fun hHeld => ?_)
              clear hK K
              try simp only [Act.put, List.getElem_toArray, List.getElem_cons_zero, List.getElem_cons_succ, List.setIfInBounds_toArray, List.set_cons_zero, List.set_cons_succ]
              have hAne : w.heap.size ≠ gA := by have := LA.out; omega
              have hBne : w.heap.size ≠ gB := by have := LB.out; omega
              refine wpAnyH_ready (rs := [11]) (by kernel_rfl) (by simp) ?_
              refine AllReadyH.cons rfl (fun K hK => ?_) AllReadyH.nil
              rw [if_pos (by rfl)]
              have XB1 := hide (row_far (W := v35) (g := gA) #[.int .i64 x.kind, .int .i64 x.level, .slice x.aI x.items.length x.cI, .slice x.aD x.data.length x.cD, .int .i64 x.next] XB.out (Ne.symm NE.out))
              refine wp_store_row 25 _ _ rfl gA _ rfl rfl 25 _ XA.out sizePage rfl (by simp [Value.oneCell']) ?_
              refine hK.out _ _ (cells12 (row_far _ (BX.out _ BB.out) hAne)) (fun hHeld => ?_)
              clear hK K
              try simp only [Act.put, List.getElem_toArray, List.getElem_cons_zero, List.getElem_cons_succ, List.setIfInBounds_toArray, List.set_cons_zero, List.set_cons_succ]
              refine wpAnyH_ready (rs := [12]) (by kernel_rfl) (by simp) ?_
              refine AllReadyH.cons rfl (fun K hK => ?_) AllReadyH.nil
              rw [if_pos (by rfl)]
              refine wp_store_row 25 _ _ rfl gB _ rfl rfl 25 _ XB1.out sizePage rfl (by simp [Value.oneCell']) ?_
              refine hK.out _ _ (cells12 (row_far _ (row_far _ (BX.out _ BB.out) hAne) hBne)) (fun hHeld => ?_)
              clear hK K
              try simp only [Act.put, List.getElem_toArray, List.getElem_cons_zero, List.getElem_cons_succ, List.setIfInBounds_toArray, List.set_cons_zero, List.set_cons_succ]
              refine wpAnyH_take (i := 13) (v := ?vaq12733343513) rfl (by kernel_rfl) (by kernel_rfl) (by kernel_rfl) (fun _ _ _ h => h) (Or.inl ⟨by rfl, ?hyq12733343513⟩) (by assumption) ?raq12733343513
              case hyq12733343513 => (intro wq hSw; (try dsimp only at hSw); obtain ⟨e0, e1, e2, e3, e4, e5, e6, e7, e8, e9, e10, e11⟩ := hSw; go_simp <;> with_reducible rfl)
              try simp only [Act.put, List.getElem_toArray, List.getElem_cons_zero, List.getElem_cons_succ, List.setIfInBounds_toArray, List.set_cons_zero, List.set_cons_succ]
              refine wpAnyH_done (by kernel_rfl) ?_ _
              clear hHeld
              go_wp2_with fail
              go_meet
              case rel => exact ⟨gA, gB, x, y, gk, rfl, rfl, rfl, ⟨row_far _ (setRow_heap _ _ _ _ _ _ XA.out) NE.out, setRow_heap _ _ _ _ _ _ XB1.out, (SX.out.row XA.out LA.out _).row XB1.out LB.out _, (SY.out.row XA.out LA.out _).row XB1.out LB.out _, (SK.out.row XA.out _).row XB1.out _, below_row _ (below_row _ BB.out LA.out) LB.out⟩⟩
    · go_simp
      have AL := hide (al v0 (.cells #[.int .i64 0, .int .i64 0, .slice none 0 0, .slice none 0 0, .int .i64 0] 25))
      have LA : Hid (w1.heap.size ≤ v0.heap.size) := BB.out.size
      replace BB := hide (bt BB.out AL.out)
      have XA := hide (heap_alloc_new v0 (.cells #[.int .i64 0, .int .i64 0, .slice none 0 0, .slice none 0 0, .int .i64 0] 25))
      refine hK.out _ _ (SS.out _ BB.out) (fun hHeld => ?_)
      clear hK K AL
      try simp only [Act.put, List.getElem_toArray, List.getElem_cons_zero, List.getElem_cons_succ, List.setIfInBounds_toArray, List.set_cons_zero, List.set_cons_succ]
      generalize (v0.alloc (.cells #[.int .i64 0, .int .i64 0, .slice none 0 0, .slice none 0 0, .int .i64 0] 25)) = v36 at *
      generalize v0.heap.size = gA at *
      refine wpAnyH_ready (rs := [2, 10]) (by kernel_rfl) (by simp) ?_
      refine (AllReadyH.cons rfl (fun K hK => ?_) (AllReadyH.cons rfl (fun K hK => ?_) AllReadyH.nil))
      · go_simp
        refine (SP1.out _ BB.out).mono ?_
        rintro _ v37 ⟨x, rfl, hS⟩
        have hb := hS.b
        have SX := hide (Sp.pre BB.out hS)
        replace XA := hide (blk_keep XA.out hb)
        replace BB := hide (bt BB.out hb)
        clear hS hb
        go_wp2_with fail
        refine hK.out _ _ (SS.out _ BB.out) (fun hHeld => ?_)
        clear hK K
        try simp only [Act.put, List.getElem_toArray, List.getElem_cons_zero, List.getElem_cons_succ, List.setIfInBounds_toArray, List.set_cons_zero, List.set_cons_succ]
        refine wpAnyH_ready (rs := [5, 10]) (by kernel_rfl) (by simp) ?_
        refine (AllReadyH.cons rfl (fun K hK => ?_) (AllReadyH.cons rfl (fun K hK => ?_) AllReadyH.nil))
        · go_simp
          refine (SP2.out _ BB.out).mono ?_
          rintro _ v38 ⟨y, rfl, hS⟩
          have hb := hS.b
          have SY := hide (Sp.pre BB.out hS)
          replace SX := hide (SX.out.keep hb)
          replace XA := hide (blk_keep XA.out hb)
          replace BB := hide (bt BB.out hb)
          clear hS hb
          go_wp2_with fail
          refine hK.out _ _ (SS.out _ BB.out) (fun hHeld => ?_)
          clear hK K
          try simp only [Act.put, List.getElem_toArray, List.getElem_cons_zero, List.getElem_cons_succ, List.setIfInBounds_toArray, List.set_cons_zero, List.set_cons_succ]
          refine wpAnyH_ready (rs := [8, 10]) (by kernel_rfl) (by simp) ?_
          refine (AllReadyH.cons rfl (fun K hK => ?_) (AllReadyH.cons rfl (fun K hK => ?_) AllReadyH.nil))
          · go_simp
            refine (SP3.out _ BB.out).mono ?_
            rintro _ v39 ⟨gk, rfl, hS, -, -, hb⟩
            have SK := hide hS
            replace SX := hide (SX.out.keep hb)
            replace SY := hide (SY.out.keep hb)
            replace XA := hide (blk_keep XA.out hb)
            replace BB := hide (bt BB.out hb)
            clear hS hb
            go_wp2_with fail
            refine hK.out _ _ (SS.out _ BB.out) (fun hHeld => ?_)
            clear hK K
            try simp only [Act.put, List.getElem_toArray, List.getElem_cons_zero, List.getElem_cons_succ, List.setIfInBounds_toArray, List.set_cons_zero, List.set_cons_succ]
            refine wpAnyH_ready (rs := [10]) (by kernel_rfl) (by simp) ?_
            refine (AllReadyH.cons rfl (fun K hK => ?_) AllReadyH.nil)
            · go_simp
              have AL := hide (al v39 (.cells #[.int .i64 0, .int .i64 0, .slice none 0 0, .slice none 0 0, .int .i64 0] 25))
              have LB : Hid (w1.heap.size ≤ v39.heap.size) := BB.out.size
              have NE : Hid (gA ≠ v39.heap.size) := by have := (Array.getElem?_eq_some_iff.1 XA.out).1; show _ ≠ _; omega
              replace SX := hide (SX.out.keep AL.out)
              replace SY := hide (SY.out.keep AL.out)
              replace SK := hide (SK.out.keep AL.out)
              replace XA := hide (blk_keep XA.out AL.out)
              replace BB := hide (bt BB.out AL.out)
              have XB := hide (heap_alloc_new v39 (.cells #[.int .i64 0, .int .i64 0, .slice none 0 0, .slice none 0 0, .int .i64 0] 25))
              refine hK.out _ _ (SS.out _ BB.out) (fun hHeld => ?_)
              clear hK K AL
              try simp only [Act.put, List.getElem_toArray, List.getElem_cons_zero, List.getElem_cons_succ, List.setIfInBounds_toArray, List.set_cons_zero, List.set_cons_succ]
              generalize (v39.alloc (.cells #[.int .i64 0, .int .i64 0, .slice none 0 0, .slice none 0 0, .int .i64 0] 25)) = v40 at *
              generalize v39.heap.size = gB at *
              have hAne : w.heap.size ≠ gA := by have := LA.out; omega
              have hBne : w.heap.size ≠ gB := by have := LB.out; omega
              refine wpAnyH_ready (rs := [11]) (by kernel_rfl) (by simp) ?_
              refine AllReadyH.cons rfl (fun K hK => ?_) AllReadyH.nil
              rw [if_pos (by rfl)]
              have XB1 := hide (row_far (W := v40) (g := gA) #[.int .i64 x.kind, .int .i64 x.level, .slice x.aI x.items.length x.cI, .slice x.aD x.data.length x.cD, .int .i64 x.next] XB.out (Ne.symm NE.out))
              refine wp_store_row 25 _ _ rfl gA _ rfl rfl 25 _ XA.out sizePage rfl (by simp [Value.oneCell']) ?_
              refine hK.out _ _ (cells12 (row_far _ (BX.out _ BB.out) hAne)) (fun hHeld => ?_)
              clear hK K
              try simp only [Act.put, List.getElem_toArray, List.getElem_cons_zero, List.getElem_cons_succ, List.setIfInBounds_toArray, List.set_cons_zero, List.set_cons_succ]
              refine wpAnyH_ready (rs := [12]) (by kernel_rfl) (by simp) ?_
              refine AllReadyH.cons rfl (fun K hK => ?_) AllReadyH.nil
              rw [if_pos (by rfl)]
              refine wp_store_row 25 _ _ rfl gB _ rfl rfl 25 _ XB1.out sizePage rfl (by simp [Value.oneCell']) ?_
              refine hK.out _ _ (cells12 (row_far _ (row_far _ (BX.out _ BB.out) hAne) hBne)) (fun hHeld => ?_)
              clear hK K
              try simp only [Act.put, List.getElem_toArray, List.getElem_cons_zero, List.getElem_cons_succ, List.setIfInBounds_toArray, List.set_cons_zero, List.set_cons_succ]
              refine wpAnyH_take (i := 13) (v := ?vaq363738394013) rfl (by kernel_rfl) (by kernel_rfl) (by kernel_rfl) (fun _ _ _ h => h) (Or.inl ⟨by rfl, ?hyq363738394013⟩) (by assumption) ?raq363738394013
              case hyq363738394013 => (intro wq hSw; (try dsimp only at hSw); obtain ⟨e0, e1, e2, e3, e4, e5, e6, e7, e8, e9, e10, e11⟩ := hSw; go_simp <;> with_reducible rfl)
              try simp only [Act.put, List.getElem_toArray, List.getElem_cons_zero, List.getElem_cons_succ, List.setIfInBounds_toArray, List.set_cons_zero, List.set_cons_succ]
              refine wpAnyH_done (by kernel_rfl) ?_ _
              clear hHeld
              go_wp2_with fail
              go_meet
              case rel => exact ⟨gA, gB, x, y, gk, rfl, rfl, rfl, ⟨row_far _ (setRow_heap _ _ _ _ _ _ XA.out) NE.out, setRow_heap _ _ _ _ _ _ XB1.out, (SX.out.row XA.out LA.out _).row XB1.out LB.out _, (SY.out.row XA.out LA.out _).row XB1.out LB.out _, (SK.out.row XA.out _).row XB1.out _, below_row _ (below_row _ BB.out LA.out) LB.out⟩⟩
          · go_simp
            have AL := hide (al v38 (.cells #[.int .i64 0, .int .i64 0, .slice none 0 0, .slice none 0 0, .int .i64 0] 25))
            have LB : Hid (w1.heap.size ≤ v38.heap.size) := BB.out.size
            have NE : Hid (gA ≠ v38.heap.size) := by have := (Array.getElem?_eq_some_iff.1 XA.out).1; show _ ≠ _; omega
            replace SX := hide (SX.out.keep AL.out)
            replace SY := hide (SY.out.keep AL.out)
            replace XA := hide (blk_keep XA.out AL.out)
            replace BB := hide (bt BB.out AL.out)
            have XB := hide (heap_alloc_new v38 (.cells #[.int .i64 0, .int .i64 0, .slice none 0 0, .slice none 0 0, .int .i64 0] 25))
            refine hK.out _ _ (SS.out _ BB.out) (fun hHeld => ?_)
            clear hK K AL
            try simp only [Act.put, List.getElem_toArray, List.getElem_cons_zero, List.getElem_cons_succ, List.setIfInBounds_toArray, List.set_cons_zero, List.set_cons_succ]
            generalize (v38.alloc (.cells #[.int .i64 0, .int .i64 0, .slice none 0 0, .slice none 0 0, .int .i64 0] 25)) = v41 at *
            generalize v38.heap.size = gB at *
            refine wpAnyH_ready (rs := [8]) (by kernel_rfl) (by simp) ?_
            refine (AllReadyH.cons rfl (fun K hK => ?_) AllReadyH.nil)
            · go_simp
              refine (SP3.out _ BB.out).mono ?_
              rintro _ v42 ⟨gk, rfl, hS, -, -, hb⟩
              have SK := hide hS
              replace SX := hide (SX.out.keep hb)
              replace SY := hide (SY.out.keep hb)
              replace XA := hide (blk_keep XA.out hb)
              replace XB := hide (blk_keep XB.out hb)
              replace BB := hide (bt BB.out hb)
              clear hS hb
              go_wp2_with fail
              refine hK.out _ _ (SS.out _ BB.out) (fun hHeld => ?_)
              clear hK K
              try simp only [Act.put, List.getElem_toArray, List.getElem_cons_zero, List.getElem_cons_succ, List.setIfInBounds_toArray, List.set_cons_zero, List.set_cons_succ]
              have hAne : w.heap.size ≠ gA := by have := LA.out; omega
              have hBne : w.heap.size ≠ gB := by have := LB.out; omega
              refine wpAnyH_ready (rs := [11]) (by kernel_rfl) (by simp) ?_
              refine AllReadyH.cons rfl (fun K hK => ?_) AllReadyH.nil
              rw [if_pos (by rfl)]
              have XB1 := hide (row_far (W := v42) (g := gA) #[.int .i64 x.kind, .int .i64 x.level, .slice x.aI x.items.length x.cI, .slice x.aD x.data.length x.cD, .int .i64 x.next] XB.out (Ne.symm NE.out))
              refine wp_store_row 25 _ _ rfl gA _ rfl rfl 25 _ XA.out sizePage rfl (by simp [Value.oneCell']) ?_
              refine hK.out _ _ (cells12 (row_far _ (BX.out _ BB.out) hAne)) (fun hHeld => ?_)
              clear hK K
              try simp only [Act.put, List.getElem_toArray, List.getElem_cons_zero, List.getElem_cons_succ, List.setIfInBounds_toArray, List.set_cons_zero, List.set_cons_succ]
              refine wpAnyH_ready (rs := [12]) (by kernel_rfl) (by simp) ?_
              refine AllReadyH.cons rfl (fun K hK => ?_) AllReadyH.nil
              rw [if_pos (by rfl)]
              refine wp_store_row 25 _ _ rfl gB _ rfl rfl 25 _ XB1.out sizePage rfl (by simp [Value.oneCell']) ?_
              refine hK.out _ _ (cells12 (row_far _ (row_far _ (BX.out _ BB.out) hAne) hBne)) (fun hHeld => ?_)
              clear hK K
              try simp only [Act.put, List.getElem_toArray, List.getElem_cons_zero, List.getElem_cons_succ, List.setIfInBounds_toArray, List.set_cons_zero, List.set_cons_succ]
              refine wpAnyH_take (i := 13) (v := ?vaq363738414213) rfl (by kernel_rfl) (by kernel_rfl) (by kernel_rfl) (fun _ _ _ h => h) (Or.inl ⟨by rfl, ?hyq363738414213⟩) (by assumption) ?raq363738414213
              case hyq363738414213 => (intro wq hSw; (try dsimp only at hSw); obtain ⟨e0, e1, e2, e3, e4, e5, e6, e7, e8, e9, e10, e11⟩ := hSw; go_simp <;> with_reducible rfl)
              try simp only [Act.put, List.getElem_toArray, List.getElem_cons_zero, List.getElem_cons_succ, List.setIfInBounds_toArray, List.set_cons_zero, List.set_cons_succ]
              refine wpAnyH_done (by kernel_rfl) ?_ _
              clear hHeld
              go_wp2_with fail
              go_meet
              case rel => exact ⟨gA, gB, x, y, gk, rfl, rfl, rfl, ⟨row_far _ (setRow_heap _ _ _ _ _ _ XA.out) NE.out, setRow_heap _ _ _ _ _ _ XB1.out, (SX.out.row XA.out LA.out _).row XB1.out LB.out _, (SY.out.row XA.out LA.out _).row XB1.out LB.out _, (SK.out.row XA.out _).row XB1.out _, below_row _ (below_row _ BB.out LA.out) LB.out⟩⟩
        · go_simp
          have AL := hide (al v37 (.cells #[.int .i64 0, .int .i64 0, .slice none 0 0, .slice none 0 0, .int .i64 0] 25))
          have LB : Hid (w1.heap.size ≤ v37.heap.size) := BB.out.size
          have NE : Hid (gA ≠ v37.heap.size) := by have := (Array.getElem?_eq_some_iff.1 XA.out).1; show _ ≠ _; omega
          replace SX := hide (SX.out.keep AL.out)
          replace XA := hide (blk_keep XA.out AL.out)
          replace BB := hide (bt BB.out AL.out)
          have XB := hide (heap_alloc_new v37 (.cells #[.int .i64 0, .int .i64 0, .slice none 0 0, .slice none 0 0, .int .i64 0] 25))
          refine hK.out _ _ (SS.out _ BB.out) (fun hHeld => ?_)
          clear hK K AL
          try simp only [Act.put, List.getElem_toArray, List.getElem_cons_zero, List.getElem_cons_succ, List.setIfInBounds_toArray, List.set_cons_zero, List.set_cons_succ]
          generalize (v37.alloc (.cells #[.int .i64 0, .int .i64 0, .slice none 0 0, .slice none 0 0, .int .i64 0] 25)) = v43 at *
          generalize v37.heap.size = gB at *
          refine wpAnyH_ready (rs := [5]) (by kernel_rfl) (by simp) ?_
          refine (AllReadyH.cons rfl (fun K hK => ?_) AllReadyH.nil)
          · go_simp
            refine (SP2.out _ BB.out).mono ?_
            rintro _ v44 ⟨y, rfl, hS⟩
            have hb := hS.b
            have SY := hide (Sp.pre BB.out hS)
            replace SX := hide (SX.out.keep hb)
            replace XA := hide (blk_keep XA.out hb)
            replace XB := hide (blk_keep XB.out hb)
            replace BB := hide (bt BB.out hb)
            clear hS hb
            go_wp2_with fail
            refine hK.out _ _ (SS.out _ BB.out) (fun hHeld => ?_)
            clear hK K
            try simp only [Act.put, List.getElem_toArray, List.getElem_cons_zero, List.getElem_cons_succ, List.setIfInBounds_toArray, List.set_cons_zero, List.set_cons_succ]
            refine wpAnyH_ready (rs := [8]) (by kernel_rfl) (by simp) ?_
            refine (AllReadyH.cons rfl (fun K hK => ?_) AllReadyH.nil)
            · go_simp
              refine (SP3.out _ BB.out).mono ?_
              rintro _ v45 ⟨gk, rfl, hS, -, -, hb⟩
              have SK := hide hS
              replace SX := hide (SX.out.keep hb)
              replace SY := hide (SY.out.keep hb)
              replace XA := hide (blk_keep XA.out hb)
              replace XB := hide (blk_keep XB.out hb)
              replace BB := hide (bt BB.out hb)
              clear hS hb
              go_wp2_with fail
              refine hK.out _ _ (SS.out _ BB.out) (fun hHeld => ?_)
              clear hK K
              try simp only [Act.put, List.getElem_toArray, List.getElem_cons_zero, List.getElem_cons_succ, List.setIfInBounds_toArray, List.set_cons_zero, List.set_cons_succ]
              have hAne : w.heap.size ≠ gA := by have := LA.out; omega
              have hBne : w.heap.size ≠ gB := by have := LB.out; omega
              refine wpAnyH_ready (rs := [11]) (by kernel_rfl) (by simp) ?_
              refine AllReadyH.cons rfl (fun K hK => ?_) AllReadyH.nil
              rw [if_pos (by rfl)]
              have XB1 := hide (row_far (W := v45) (g := gA) #[.int .i64 x.kind, .int .i64 x.level, .slice x.aI x.items.length x.cI, .slice x.aD x.data.length x.cD, .int .i64 x.next] XB.out (Ne.symm NE.out))
              refine wp_store_row 25 _ _ rfl gA _ rfl rfl 25 _ XA.out sizePage rfl (by simp [Value.oneCell']) ?_
              refine hK.out _ _ (cells12 (row_far _ (BX.out _ BB.out) hAne)) (fun hHeld => ?_)
              clear hK K
              try simp only [Act.put, List.getElem_toArray, List.getElem_cons_zero, List.getElem_cons_succ, List.setIfInBounds_toArray, List.set_cons_zero, List.set_cons_succ]
              refine wpAnyH_ready (rs := [12]) (by kernel_rfl) (by simp) ?_
              refine AllReadyH.cons rfl (fun K hK => ?_) AllReadyH.nil
              rw [if_pos (by rfl)]
              refine wp_store_row 25 _ _ rfl gB _ rfl rfl 25 _ XB1.out sizePage rfl (by simp [Value.oneCell']) ?_
              refine hK.out _ _ (cells12 (row_far _ (row_far _ (BX.out _ BB.out) hAne) hBne)) (fun hHeld => ?_)
              clear hK K
              try simp only [Act.put, List.getElem_toArray, List.getElem_cons_zero, List.getElem_cons_succ, List.setIfInBounds_toArray, List.set_cons_zero, List.set_cons_succ]
              refine wpAnyH_take (i := 13) (v := ?vaq363743444513) rfl (by kernel_rfl) (by kernel_rfl) (by kernel_rfl) (fun _ _ _ h => h) (Or.inl ⟨by rfl, ?hyq363743444513⟩) (by assumption) ?raq363743444513
              case hyq363743444513 => (intro wq hSw; (try dsimp only at hSw); obtain ⟨e0, e1, e2, e3, e4, e5, e6, e7, e8, e9, e10, e11⟩ := hSw; go_simp <;> with_reducible rfl)
              try simp only [Act.put, List.getElem_toArray, List.getElem_cons_zero, List.getElem_cons_succ, List.setIfInBounds_toArray, List.set_cons_zero, List.set_cons_succ]
              refine wpAnyH_done (by kernel_rfl) ?_ _
              clear hHeld
              go_wp2_with fail
              go_meet
              case rel => exact ⟨gA, gB, x, y, gk, rfl, rfl, rfl, ⟨row_far _ (setRow_heap _ _ _ _ _ _ XA.out) NE.out, setRow_heap _ _ _ _ _ _ XB1.out, (SX.out.row XA.out LA.out _).row XB1.out LB.out _, (SY.out.row XA.out LA.out _).row XB1.out LB.out _, (SK.out.row XA.out _).row XB1.out _, below_row _ (below_row _ BB.out LA.out) LB.out⟩⟩
      · go_simp
        have AL := hide (al v36 (.cells #[.int .i64 0, .int .i64 0, .slice none 0 0, .slice none 0 0, .int .i64 0] 25))
        have LB : Hid (w1.heap.size ≤ v36.heap.size) := BB.out.size
        have NE : Hid (gA ≠ v36.heap.size) := by have := (Array.getElem?_eq_some_iff.1 XA.out).1; show _ ≠ _; omega
        replace XA := hide (blk_keep XA.out AL.out)
        replace BB := hide (bt BB.out AL.out)
        have XB := hide (heap_alloc_new v36 (.cells #[.int .i64 0, .int .i64 0, .slice none 0 0, .slice none 0 0, .int .i64 0] 25))
        refine hK.out _ _ (SS.out _ BB.out) (fun hHeld => ?_)
        clear hK K AL
        try simp only [Act.put, List.getElem_toArray, List.getElem_cons_zero, List.getElem_cons_succ, List.setIfInBounds_toArray, List.set_cons_zero, List.set_cons_succ]
        generalize (v36.alloc (.cells #[.int .i64 0, .int .i64 0, .slice none 0 0, .slice none 0 0, .int .i64 0] 25)) = v46 at *
        generalize v36.heap.size = gB at *
        refine wpAnyH_ready (rs := [2]) (by kernel_rfl) (by simp) ?_
        refine (AllReadyH.cons rfl (fun K hK => ?_) AllReadyH.nil)
        · go_simp
          refine (SP1.out _ BB.out).mono ?_
          rintro _ v47 ⟨x, rfl, hS⟩
          have hb := hS.b
          have SX := hide (Sp.pre BB.out hS)
          replace XA := hide (blk_keep XA.out hb)
          replace XB := hide (blk_keep XB.out hb)
          replace BB := hide (bt BB.out hb)
          clear hS hb
          go_wp2_with fail
          refine hK.out _ _ (SS.out _ BB.out) (fun hHeld => ?_)
          clear hK K
          try simp only [Act.put, List.getElem_toArray, List.getElem_cons_zero, List.getElem_cons_succ, List.setIfInBounds_toArray, List.set_cons_zero, List.set_cons_succ]
          refine wpAnyH_ready (rs := [5]) (by kernel_rfl) (by simp) ?_
          refine (AllReadyH.cons rfl (fun K hK => ?_) AllReadyH.nil)
          · go_simp
            refine (SP2.out _ BB.out).mono ?_
            rintro _ v48 ⟨y, rfl, hS⟩
            have hb := hS.b
            have SY := hide (Sp.pre BB.out hS)
            replace SX := hide (SX.out.keep hb)
            replace XA := hide (blk_keep XA.out hb)
            replace XB := hide (blk_keep XB.out hb)
            replace BB := hide (bt BB.out hb)
            clear hS hb
            go_wp2_with fail
            refine hK.out _ _ (SS.out _ BB.out) (fun hHeld => ?_)
            clear hK K
            try simp only [Act.put, List.getElem_toArray, List.getElem_cons_zero, List.getElem_cons_succ, List.setIfInBounds_toArray, List.set_cons_zero, List.set_cons_succ]
            refine wpAnyH_ready (rs := [8]) (by kernel_rfl) (by simp) ?_
            refine (AllReadyH.cons rfl (fun K hK => ?_) AllReadyH.nil)
            · go_simp
              refine (SP3.out _ BB.out).mono ?_
              rintro _ v49 ⟨gk, rfl, hS, -, -, hb⟩
              have SK := hide hS
              replace SX := hide (SX.out.keep hb)
              replace SY := hide (SY.out.keep hb)
              replace XA := hide (blk_keep XA.out hb)
              replace XB := hide (blk_keep XB.out hb)
              replace BB := hide (bt BB.out hb)
              clear hS hb
              go_wp2_with fail
              refine hK.out _ _ (SS.out _ BB.out) (fun hHeld => ?_)
              clear hK K
              try simp only [Act.put, List.getElem_toArray, List.getElem_cons_zero, List.getElem_cons_succ, List.setIfInBounds_toArray, List.set_cons_zero, List.set_cons_succ]
              have hAne : w.heap.size ≠ gA := by have := LA.out; omega
              have hBne : w.heap.size ≠ gB := by have := LB.out; omega
              refine wpAnyH_ready (rs := [11]) (by kernel_rfl) (by simp) ?_
              refine AllReadyH.cons rfl (fun K hK => ?_) AllReadyH.nil
              rw [if_pos (by rfl)]
              have XB1 := hide (row_far (W := v49) (g := gA) #[.int .i64 x.kind, .int .i64 x.level, .slice x.aI x.items.length x.cI, .slice x.aD x.data.length x.cD, .int .i64 x.next] XB.out (Ne.symm NE.out))
              refine wp_store_row 25 _ _ rfl gA _ rfl rfl 25 _ XA.out sizePage rfl (by simp [Value.oneCell']) ?_
              refine hK.out _ _ (cells12 (row_far _ (BX.out _ BB.out) hAne)) (fun hHeld => ?_)
              clear hK K
              try simp only [Act.put, List.getElem_toArray, List.getElem_cons_zero, List.getElem_cons_succ, List.setIfInBounds_toArray, List.set_cons_zero, List.set_cons_succ]
              refine wpAnyH_ready (rs := [12]) (by kernel_rfl) (by simp) ?_
              refine AllReadyH.cons rfl (fun K hK => ?_) AllReadyH.nil
              rw [if_pos (by rfl)]
              refine wp_store_row 25 _ _ rfl gB _ rfl rfl 25 _ XB1.out sizePage rfl (by simp [Value.oneCell']) ?_
              refine hK.out _ _ (cells12 (row_far _ (row_far _ (BX.out _ BB.out) hAne) hBne)) (fun hHeld => ?_)
              clear hK K
              try simp only [Act.put, List.getElem_toArray, List.getElem_cons_zero, List.getElem_cons_succ, List.setIfInBounds_toArray, List.set_cons_zero, List.set_cons_succ]
              refine wpAnyH_take (i := 13) (v := ?vaq364647484913) rfl (by kernel_rfl) (by kernel_rfl) (by kernel_rfl) (fun _ _ _ h => h) (Or.inl ⟨by rfl, ?hyq364647484913⟩) (by assumption) ?raq364647484913
              case hyq364647484913 => (intro wq hSw; (try dsimp only at hSw); obtain ⟨e0, e1, e2, e3, e4, e5, e6, e7, e8, e9, e10, e11⟩ := hSw; go_simp <;> with_reducible rfl)
              try simp only [Act.put, List.getElem_toArray, List.getElem_cons_zero, List.getElem_cons_succ, List.setIfInBounds_toArray, List.set_cons_zero, List.set_cons_succ]
              refine wpAnyH_done (by kernel_rfl) ?_ _
              clear hHeld
              go_wp2_with fail
              go_meet
              case rel => exact ⟨gA, gB, x, y, gk, rfl, rfl, rfl, ⟨row_far _ (setRow_heap _ _ _ _ _ _ XA.out) NE.out, setRow_heap _ _ _ _ _ _ XB1.out, (SX.out.row XA.out LA.out _).row XB1.out LB.out _, (SY.out.row XA.out LA.out _).row XB1.out LB.out _, (SK.out.row XA.out _).row XB1.out _, below_row _ (below_row _ BB.out LA.out) LB.out⟩⟩
    · go_simp
      have AL := hide (al v0 (.cells #[.int .i64 0, .int .i64 0, .slice none 0 0, .slice none 0 0, .int .i64 0] 25))
      have LB : Hid (w1.heap.size ≤ v0.heap.size) := BB.out.size
      replace BB := hide (bt BB.out AL.out)
      have XB := hide (heap_alloc_new v0 (.cells #[.int .i64 0, .int .i64 0, .slice none 0 0, .slice none 0 0, .int .i64 0] 25))
      refine hK.out _ _ (SS.out _ BB.out) (fun hHeld => ?_)
      clear hK K AL
      try simp only [Act.put, List.getElem_toArray, List.getElem_cons_zero, List.getElem_cons_succ, List.setIfInBounds_toArray, List.set_cons_zero, List.set_cons_succ]
      generalize (v0.alloc (.cells #[.int .i64 0, .int .i64 0, .slice none 0 0, .slice none 0 0, .int .i64 0] 25)) = v50 at *
      generalize v0.heap.size = gB at *
      refine wpAnyH_ready (rs := [2, 9]) (by kernel_rfl) (by simp) ?_
      refine (AllReadyH.cons rfl (fun K hK => ?_) (AllReadyH.cons rfl (fun K hK => ?_) AllReadyH.nil))
      · go_simp
        refine (SP1.out _ BB.out).mono ?_
        rintro _ v51 ⟨x, rfl, hS⟩
        have hb := hS.b
        have SX := hide (Sp.pre BB.out hS)
        replace XB := hide (blk_keep XB.out hb)
        replace BB := hide (bt BB.out hb)
        clear hS hb
        go_wp2_with fail
        refine hK.out _ _ (SS.out _ BB.out) (fun hHeld => ?_)
        clear hK K
        try simp only [Act.put, List.getElem_toArray, List.getElem_cons_zero, List.getElem_cons_succ, List.setIfInBounds_toArray, List.set_cons_zero, List.set_cons_succ]
        refine wpAnyH_ready (rs := [5, 9]) (by kernel_rfl) (by simp) ?_
        refine (AllReadyH.cons rfl (fun K hK => ?_) (AllReadyH.cons rfl (fun K hK => ?_) AllReadyH.nil))
        · go_simp
          refine (SP2.out _ BB.out).mono ?_
          rintro _ v52 ⟨y, rfl, hS⟩
          have hb := hS.b
          have SY := hide (Sp.pre BB.out hS)
          replace SX := hide (SX.out.keep hb)
          replace XB := hide (blk_keep XB.out hb)
          replace BB := hide (bt BB.out hb)
          clear hS hb
          go_wp2_with fail
          refine hK.out _ _ (SS.out _ BB.out) (fun hHeld => ?_)
          clear hK K
          try simp only [Act.put, List.getElem_toArray, List.getElem_cons_zero, List.getElem_cons_succ, List.setIfInBounds_toArray, List.set_cons_zero, List.set_cons_succ]
          refine wpAnyH_ready (rs := [8, 9]) (by kernel_rfl) (by simp) ?_
          refine (AllReadyH.cons rfl (fun K hK => ?_) (AllReadyH.cons rfl (fun K hK => ?_) AllReadyH.nil))
          · go_simp
            refine (SP3.out _ BB.out).mono ?_
            rintro _ v53 ⟨gk, rfl, hS, -, -, hb⟩
            have SK := hide hS
            replace SX := hide (SX.out.keep hb)
            replace SY := hide (SY.out.keep hb)
            replace XB := hide (blk_keep XB.out hb)
            replace BB := hide (bt BB.out hb)
            clear hS hb
            go_wp2_with fail
            refine hK.out _ _ (SS.out _ BB.out) (fun hHeld => ?_)
            clear hK K
            try simp only [Act.put, List.getElem_toArray, List.getElem_cons_zero, List.getElem_cons_succ, List.setIfInBounds_toArray, List.set_cons_zero, List.set_cons_succ]
            refine wpAnyH_ready (rs := [9]) (by kernel_rfl) (by simp) ?_
            refine (AllReadyH.cons rfl (fun K hK => ?_) AllReadyH.nil)
            · go_simp
              have AL := hide (al v53 (.cells #[.int .i64 0, .int .i64 0, .slice none 0 0, .slice none 0 0, .int .i64 0] 25))
              have LA : Hid (w1.heap.size ≤ v53.heap.size) := BB.out.size
              have NE : Hid (v53.heap.size ≠ gB) := by have := (Array.getElem?_eq_some_iff.1 XB.out).1; show _ ≠ _; omega
              replace SX := hide (SX.out.keep AL.out)
              replace SY := hide (SY.out.keep AL.out)
              replace SK := hide (SK.out.keep AL.out)
              replace XB := hide (blk_keep XB.out AL.out)
              replace BB := hide (bt BB.out AL.out)
              have XA := hide (heap_alloc_new v53 (.cells #[.int .i64 0, .int .i64 0, .slice none 0 0, .slice none 0 0, .int .i64 0] 25))
              refine hK.out _ _ (SS.out _ BB.out) (fun hHeld => ?_)
              clear hK K AL
              try simp only [Act.put, List.getElem_toArray, List.getElem_cons_zero, List.getElem_cons_succ, List.setIfInBounds_toArray, List.set_cons_zero, List.set_cons_succ]
              generalize (v53.alloc (.cells #[.int .i64 0, .int .i64 0, .slice none 0 0, .slice none 0 0, .int .i64 0] 25)) = v54 at *
              generalize v53.heap.size = gA at *
              have hAne : w.heap.size ≠ gA := by have := LA.out; omega
              have hBne : w.heap.size ≠ gB := by have := LB.out; omega
              refine wpAnyH_ready (rs := [11]) (by kernel_rfl) (by simp) ?_
              refine AllReadyH.cons rfl (fun K hK => ?_) AllReadyH.nil
              rw [if_pos (by rfl)]
              have XB1 := hide (row_far (W := v54) (g := gA) #[.int .i64 x.kind, .int .i64 x.level, .slice x.aI x.items.length x.cI, .slice x.aD x.data.length x.cD, .int .i64 x.next] XB.out (Ne.symm NE.out))
              refine wp_store_row 25 _ _ rfl gA _ rfl rfl 25 _ XA.out sizePage rfl (by simp [Value.oneCell']) ?_
              refine hK.out _ _ (cells12 (row_far _ (BX.out _ BB.out) hAne)) (fun hHeld => ?_)
              clear hK K
              try simp only [Act.put, List.getElem_toArray, List.getElem_cons_zero, List.getElem_cons_succ, List.setIfInBounds_toArray, List.set_cons_zero, List.set_cons_succ]
              refine wpAnyH_ready (rs := [12]) (by kernel_rfl) (by simp) ?_
              refine AllReadyH.cons rfl (fun K hK => ?_) AllReadyH.nil
              rw [if_pos (by rfl)]
              refine wp_store_row 25 _ _ rfl gB _ rfl rfl 25 _ XB1.out sizePage rfl (by simp [Value.oneCell']) ?_
              refine hK.out _ _ (cells12 (row_far _ (row_far _ (BX.out _ BB.out) hAne) hBne)) (fun hHeld => ?_)
              clear hK K
              try simp only [Act.put, List.getElem_toArray, List.getElem_cons_zero, List.getElem_cons_succ, List.setIfInBounds_toArray, List.set_cons_zero, List.set_cons_succ]
              refine wpAnyH_take (i := 13) (v := ?vaq505152535413) rfl (by kernel_rfl) (by kernel_rfl) (by kernel_rfl) (fun _ _ _ h => h) (Or.inl ⟨by rfl, ?hyq505152535413⟩) (by assumption) ?raq505152535413
              case hyq505152535413 => (intro wq hSw; (try dsimp only at hSw); obtain ⟨e0, e1, e2, e3, e4, e5, e6, e7, e8, e9, e10, e11⟩ := hSw; go_simp <;> with_reducible rfl)
              try simp only [Act.put, List.getElem_toArray, List.getElem_cons_zero, List.getElem_cons_succ, List.setIfInBounds_toArray, List.set_cons_zero, List.set_cons_succ]
              refine wpAnyH_done (by kernel_rfl) ?_ _
              clear hHeld
              go_wp2_with fail
              go_meet
              case rel => exact ⟨gA, gB, x, y, gk, rfl, rfl, rfl, ⟨row_far _ (setRow_heap _ _ _ _ _ _ XA.out) NE.out, setRow_heap _ _ _ _ _ _ XB1.out, (SX.out.row XA.out LA.out _).row XB1.out LB.out _, (SY.out.row XA.out LA.out _).row XB1.out LB.out _, (SK.out.row XA.out _).row XB1.out _, below_row _ (below_row _ BB.out LA.out) LB.out⟩⟩
          · go_simp
            have AL := hide (al v52 (.cells #[.int .i64 0, .int .i64 0, .slice none 0 0, .slice none 0 0, .int .i64 0] 25))
            have LA : Hid (w1.heap.size ≤ v52.heap.size) := BB.out.size
            have NE : Hid (v52.heap.size ≠ gB) := by have := (Array.getElem?_eq_some_iff.1 XB.out).1; show _ ≠ _; omega
            replace SX := hide (SX.out.keep AL.out)
            replace SY := hide (SY.out.keep AL.out)
            replace XB := hide (blk_keep XB.out AL.out)
            replace BB := hide (bt BB.out AL.out)
            have XA := hide (heap_alloc_new v52 (.cells #[.int .i64 0, .int .i64 0, .slice none 0 0, .slice none 0 0, .int .i64 0] 25))
            refine hK.out _ _ (SS.out _ BB.out) (fun hHeld => ?_)
            clear hK K AL
            try simp only [Act.put, List.getElem_toArray, List.getElem_cons_zero, List.getElem_cons_succ, List.setIfInBounds_toArray, List.set_cons_zero, List.set_cons_succ]
            generalize (v52.alloc (.cells #[.int .i64 0, .int .i64 0, .slice none 0 0, .slice none 0 0, .int .i64 0] 25)) = v55 at *
            generalize v52.heap.size = gA at *
            refine wpAnyH_ready (rs := [8]) (by kernel_rfl) (by simp) ?_
            refine (AllReadyH.cons rfl (fun K hK => ?_) AllReadyH.nil)
            · go_simp
              refine (SP3.out _ BB.out).mono ?_
              rintro _ v56 ⟨gk, rfl, hS, -, -, hb⟩
              have SK := hide hS
              replace SX := hide (SX.out.keep hb)
              replace SY := hide (SY.out.keep hb)
              replace XA := hide (blk_keep XA.out hb)
              replace XB := hide (blk_keep XB.out hb)
              replace BB := hide (bt BB.out hb)
              clear hS hb
              go_wp2_with fail
              refine hK.out _ _ (SS.out _ BB.out) (fun hHeld => ?_)
              clear hK K
              try simp only [Act.put, List.getElem_toArray, List.getElem_cons_zero, List.getElem_cons_succ, List.setIfInBounds_toArray, List.set_cons_zero, List.set_cons_succ]
              have hAne : w.heap.size ≠ gA := by have := LA.out; omega
              have hBne : w.heap.size ≠ gB := by have := LB.out; omega
              refine wpAnyH_ready (rs := [11]) (by kernel_rfl) (by simp) ?_
              refine AllReadyH.cons rfl (fun K hK => ?_) AllReadyH.nil
              rw [if_pos (by rfl)]
              have XB1 := hide (row_far (W := v56) (g := gA) #[.int .i64 x.kind, .int .i64 x.level, .slice x.aI x.items.length x.cI, .slice x.aD x.data.length x.cD, .int .i64 x.next] XB.out (Ne.symm NE.out))
              refine wp_store_row 25 _ _ rfl gA _ rfl rfl 25 _ XA.out sizePage rfl (by simp [Value.oneCell']) ?_
              refine hK.out _ _ (cells12 (row_far _ (BX.out _ BB.out) hAne)) (fun hHeld => ?_)
              clear hK K
              try simp only [Act.put, List.getElem_toArray, List.getElem_cons_zero, List.getElem_cons_succ, List.setIfInBounds_toArray, List.set_cons_zero, List.set_cons_succ]
              refine wpAnyH_ready (rs := [12]) (by kernel_rfl) (by simp) ?_
              refine AllReadyH.cons rfl (fun K hK => ?_) AllReadyH.nil
              rw [if_pos (by rfl)]
              refine wp_store_row 25 _ _ rfl gB _ rfl rfl 25 _ XB1.out sizePage rfl (by simp [Value.oneCell']) ?_
              refine hK.out _ _ (cells12 (row_far _ (row_far _ (BX.out _ BB.out) hAne) hBne)) (fun hHeld => ?_)
              clear hK K
              try simp only [Act.put, List.getElem_toArray, List.getElem_cons_zero, List.getElem_cons_succ, List.setIfInBounds_toArray, List.set_cons_zero, List.set_cons_succ]
              refine wpAnyH_take (i := 13) (v := ?vaq505152555613) rfl (by kernel_rfl) (by kernel_rfl) (by kernel_rfl) (fun _ _ _ h => h) (Or.inl ⟨by rfl, ?hyq505152555613⟩) (by assumption) ?raq505152555613
              case hyq505152555613 => (intro wq hSw; (try dsimp only at hSw); obtain ⟨e0, e1, e2, e3, e4, e5, e6, e7, e8, e9, e10, e11⟩ := hSw; go_simp <;> with_reducible rfl)
              try simp only [Act.put, List.getElem_toArray, List.getElem_cons_zero, List.getElem_cons_succ, List.setIfInBounds_toArray, List.set_cons_zero, List.set_cons_succ]
              refine wpAnyH_done (by kernel_rfl) ?_ _
              clear hHeld
              go_wp2_with fail
              go_meet
              case rel => exact ⟨gA, gB, x, y, gk, rfl, rfl, rfl, ⟨row_far _ (setRow_heap _ _ _ _ _ _ XA.out) NE.out, setRow_heap _ _ _ _ _ _ XB1.out, (SX.out.row XA.out LA.out _).row XB1.out LB.out _, (SY.out.row XA.out LA.out _).row XB1.out LB.out _, (SK.out.row XA.out _).row XB1.out _, below_row _ (below_row _ BB.out LA.out) LB.out⟩⟩
        · go_simp
          have AL := hide (al v51 (.cells #[.int .i64 0, .int .i64 0, .slice none 0 0, .slice none 0 0, .int .i64 0] 25))
          have LA : Hid (w1.heap.size ≤ v51.heap.size) := BB.out.size
          have NE : Hid (v51.heap.size ≠ gB) := by have := (Array.getElem?_eq_some_iff.1 XB.out).1; show _ ≠ _; omega
          replace SX := hide (SX.out.keep AL.out)
          replace XB := hide (blk_keep XB.out AL.out)
          replace BB := hide (bt BB.out AL.out)
          have XA := hide (heap_alloc_new v51 (.cells #[.int .i64 0, .int .i64 0, .slice none 0 0, .slice none 0 0, .int .i64 0] 25))
          refine hK.out _ _ (SS.out _ BB.out) (fun hHeld => ?_)
          clear hK K AL
          try simp only [Act.put, List.getElem_toArray, List.getElem_cons_zero, List.getElem_cons_succ, List.setIfInBounds_toArray, List.set_cons_zero, List.set_cons_succ]
          generalize (v51.alloc (.cells #[.int .i64 0, .int .i64 0, .slice none 0 0, .slice none 0 0, .int .i64 0] 25)) = v57 at *
          generalize v51.heap.size = gA at *
          refine wpAnyH_ready (rs := [5]) (by kernel_rfl) (by simp) ?_
          refine (AllReadyH.cons rfl (fun K hK => ?_) AllReadyH.nil)
          · go_simp
            refine (SP2.out _ BB.out).mono ?_
            rintro _ v58 ⟨y, rfl, hS⟩
            have hb := hS.b
            have SY := hide (Sp.pre BB.out hS)
            replace SX := hide (SX.out.keep hb)
            replace XA := hide (blk_keep XA.out hb)
            replace XB := hide (blk_keep XB.out hb)
            replace BB := hide (bt BB.out hb)
            clear hS hb
            go_wp2_with fail
            refine hK.out _ _ (SS.out _ BB.out) (fun hHeld => ?_)
            clear hK K
            try simp only [Act.put, List.getElem_toArray, List.getElem_cons_zero, List.getElem_cons_succ, List.setIfInBounds_toArray, List.set_cons_zero, List.set_cons_succ]
            refine wpAnyH_ready (rs := [8]) (by kernel_rfl) (by simp) ?_
            refine (AllReadyH.cons rfl (fun K hK => ?_) AllReadyH.nil)
            · go_simp
              refine (SP3.out _ BB.out).mono ?_
              rintro _ v59 ⟨gk, rfl, hS, -, -, hb⟩
              have SK := hide hS
              replace SX := hide (SX.out.keep hb)
              replace SY := hide (SY.out.keep hb)
              replace XA := hide (blk_keep XA.out hb)
              replace XB := hide (blk_keep XB.out hb)
              replace BB := hide (bt BB.out hb)
              clear hS hb
              go_wp2_with fail
              refine hK.out _ _ (SS.out _ BB.out) (fun hHeld => ?_)
              clear hK K
              try simp only [Act.put, List.getElem_toArray, List.getElem_cons_zero, List.getElem_cons_succ, List.setIfInBounds_toArray, List.set_cons_zero, List.set_cons_succ]
              have hAne : w.heap.size ≠ gA := by have := LA.out; omega
              have hBne : w.heap.size ≠ gB := by have := LB.out; omega
              refine wpAnyH_ready (rs := [11]) (by kernel_rfl) (by simp) ?_
              refine AllReadyH.cons rfl (fun K hK => ?_) AllReadyH.nil
              rw [if_pos (by rfl)]
              have XB1 := hide (row_far (W := v59) (g := gA) #[.int .i64 x.kind, .int .i64 x.level, .slice x.aI x.items.length x.cI, .slice x.aD x.data.length x.cD, .int .i64 x.next] XB.out (Ne.symm NE.out))
              refine wp_store_row 25 _ _ rfl gA _ rfl rfl 25 _ XA.out sizePage rfl (by simp [Value.oneCell']) ?_
              refine hK.out _ _ (cells12 (row_far _ (BX.out _ BB.out) hAne)) (fun hHeld => ?_)
              clear hK K
              try simp only [Act.put, List.getElem_toArray, List.getElem_cons_zero, List.getElem_cons_succ, List.setIfInBounds_toArray, List.set_cons_zero, List.set_cons_succ]
              refine wpAnyH_ready (rs := [12]) (by kernel_rfl) (by simp) ?_
              refine AllReadyH.cons rfl (fun K hK => ?_) AllReadyH.nil
              rw [if_pos (by rfl)]
              refine wp_store_row 25 _ _ rfl gB _ rfl rfl 25 _ XB1.out sizePage rfl (by simp [Value.oneCell']) ?_
              refine hK.out _ _ (cells12 (row_far _ (row_far _ (BX.out _ BB.out) hAne) hBne)) (fun hHeld => ?_)
              clear hK K
              try simp only [Act.put, List.getElem_toArray, List.getElem_cons_zero, List.getElem_cons_succ, List.setIfInBounds_toArray, List.set_cons_zero, List.set_cons_succ]
              refine wpAnyH_take (i := 13) (v := ?vaq505157585913) rfl (by kernel_rfl) (by kernel_rfl) (by kernel_rfl) (fun _ _ _ h => h) (Or.inl ⟨by rfl, ?hyq505157585913⟩) (by assumption) ?raq505157585913
              case hyq505157585913 => (intro wq hSw; (try dsimp only at hSw); obtain ⟨e0, e1, e2, e3, e4, e5, e6, e7, e8, e9, e10, e11⟩ := hSw; go_simp <;> with_reducible rfl)
              try simp only [Act.put, List.getElem_toArray, List.getElem_cons_zero, List.getElem_cons_succ, List.setIfInBounds_toArray, List.set_cons_zero, List.set_cons_succ]
              refine wpAnyH_done (by kernel_rfl) ?_ _
              clear hHeld
              go_wp2_with fail
              go_meet
              case rel => exact ⟨gA, gB, x, y, gk, rfl, rfl, rfl, ⟨row_far _ (setRow_heap _ _ _ _ _ _ XA.out) NE.out, setRow_heap _ _ _ _ _ _ XB1.out, (SX.out.row XA.out LA.out _).row XB1.out LB.out _, (SY.out.row XA.out LA.out _).row XB1.out LB.out _, (SK.out.row XA.out _).row XB1.out _, below_row _ (below_row _ BB.out LA.out) LB.out⟩⟩
      · go_simp
        have AL := hide (al v50 (.cells #[.int .i64 0, .int .i64 0, .slice none 0 0, .slice none 0 0, .int .i64 0] 25))
        have LA : Hid (w1.heap.size ≤ v50.heap.size) := BB.out.size
        have NE : Hid (v50.heap.size ≠ gB) := by have := (Array.getElem?_eq_some_iff.1 XB.out).1; show _ ≠ _; omega
        replace XB := hide (blk_keep XB.out AL.out)
        replace BB := hide (bt BB.out AL.out)
        have XA := hide (heap_alloc_new v50 (.cells #[.int .i64 0, .int .i64 0, .slice none 0 0, .slice none 0 0, .int .i64 0] 25))
        refine hK.out _ _ (SS.out _ BB.out) (fun hHeld => ?_)
        clear hK K AL
        try simp only [Act.put, List.getElem_toArray, List.getElem_cons_zero, List.getElem_cons_succ, List.setIfInBounds_toArray, List.set_cons_zero, List.set_cons_succ]
        generalize (v50.alloc (.cells #[.int .i64 0, .int .i64 0, .slice none 0 0, .slice none 0 0, .int .i64 0] 25)) = v60 at *
        generalize v50.heap.size = gA at *
        refine wpAnyH_ready (rs := [2]) (by kernel_rfl) (by simp) ?_
        refine (AllReadyH.cons rfl (fun K hK => ?_) AllReadyH.nil)
        · go_simp
          refine (SP1.out _ BB.out).mono ?_
          rintro _ v61 ⟨x, rfl, hS⟩
          have hb := hS.b
          have SX := hide (Sp.pre BB.out hS)
          replace XA := hide (blk_keep XA.out hb)
          replace XB := hide (blk_keep XB.out hb)
          replace BB := hide (bt BB.out hb)
          clear hS hb
          go_wp2_with fail
          refine hK.out _ _ (SS.out _ BB.out) (fun hHeld => ?_)
          clear hK K
          try simp only [Act.put, List.getElem_toArray, List.getElem_cons_zero, List.getElem_cons_succ, List.setIfInBounds_toArray, List.set_cons_zero, List.set_cons_succ]
          refine wpAnyH_ready (rs := [5]) (by kernel_rfl) (by simp) ?_
          refine (AllReadyH.cons rfl (fun K hK => ?_) AllReadyH.nil)
          · go_simp
            refine (SP2.out _ BB.out).mono ?_
            rintro _ v62 ⟨y, rfl, hS⟩
            have hb := hS.b
            have SY := hide (Sp.pre BB.out hS)
            replace SX := hide (SX.out.keep hb)
            replace XA := hide (blk_keep XA.out hb)
            replace XB := hide (blk_keep XB.out hb)
            replace BB := hide (bt BB.out hb)
            clear hS hb
            go_wp2_with fail
            refine hK.out _ _ (SS.out _ BB.out) (fun hHeld => ?_)
            clear hK K
            try simp only [Act.put, List.getElem_toArray, List.getElem_cons_zero, List.getElem_cons_succ, List.setIfInBounds_toArray, List.set_cons_zero, List.set_cons_succ]
            refine wpAnyH_ready (rs := [8]) (by kernel_rfl) (by simp) ?_
            refine (AllReadyH.cons rfl (fun K hK => ?_) AllReadyH.nil)
            · go_simp
              refine (SP3.out _ BB.out).mono ?_
              rintro _ v63 ⟨gk, rfl, hS, -, -, hb⟩
              have SK := hide hS
              replace SX := hide (SX.out.keep hb)
              replace SY := hide (SY.out.keep hb)
              replace XA := hide (blk_keep XA.out hb)
              replace XB := hide (blk_keep XB.out hb)
              replace BB := hide (bt BB.out hb)
              clear hS hb
              go_wp2_with fail
              refine hK.out _ _ (SS.out _ BB.out) (fun hHeld => ?_)
              clear hK K
              try simp only [Act.put, List.getElem_toArray, List.getElem_cons_zero, List.getElem_cons_succ, List.setIfInBounds_toArray, List.set_cons_zero, List.set_cons_succ]
              have hAne : w.heap.size ≠ gA := by have := LA.out; omega
              have hBne : w.heap.size ≠ gB := by have := LB.out; omega
              refine wpAnyH_ready (rs := [11]) (by kernel_rfl) (by simp) ?_
              refine AllReadyH.cons rfl (fun K hK => ?_) AllReadyH.nil
              rw [if_pos (by rfl)]
              have XB1 := hide (row_far (W := v63) (g := gA) #[.int .i64 x.kind, .int .i64 x.level, .slice x.aI x.items.length x.cI, .slice x.aD x.data.length x.cD, .int .i64 x.next] XB.out (Ne.symm NE.out))
              refine wp_store_row 25 _ _ rfl gA _ rfl rfl 25 _ XA.out sizePage rfl (by simp [Value.oneCell']) ?_
              refine hK.out _ _ (cells12 (row_far _ (BX.out _ BB.out) hAne)) (fun hHeld => ?_)
              clear hK K
              try simp only [Act.put, List.getElem_toArray, List.getElem_cons_zero, List.getElem_cons_succ, List.setIfInBounds_toArray, List.set_cons_zero, List.set_cons_succ]
              refine wpAnyH_ready (rs := [12]) (by kernel_rfl) (by simp) ?_
              refine AllReadyH.cons rfl (fun K hK => ?_) AllReadyH.nil
              rw [if_pos (by rfl)]
              refine wp_store_row 25 _ _ rfl gB _ rfl rfl 25 _ XB1.out sizePage rfl (by simp [Value.oneCell']) ?_
              refine hK.out _ _ (cells12 (row_far _ (row_far _ (BX.out _ BB.out) hAne) hBne)) (fun hHeld => ?_)
              clear hK K
              try simp only [Act.put, List.getElem_toArray, List.getElem_cons_zero, List.getElem_cons_succ, List.setIfInBounds_toArray, List.set_cons_zero, List.set_cons_succ]
              refine wpAnyH_take (i := 13) (v := ?vaq506061626313) rfl (by kernel_rfl) (by kernel_rfl) (by kernel_rfl) (fun _ _ _ h => h) (Or.inl ⟨by rfl, ?hyq506061626313⟩) (by assumption) ?raq506061626313
              case hyq506061626313 => (intro wq hSw; (try dsimp only at hSw); obtain ⟨e0, e1, e2, e3, e4, e5, e6, e7, e8, e9, e10, e11⟩ := hSw; go_simp <;> with_reducible rfl)
              try simp only [Act.put, List.getElem_toArray, List.getElem_cons_zero, List.getElem_cons_succ, List.setIfInBounds_toArray, List.set_cons_zero, List.set_cons_succ]
              refine wpAnyH_done (by kernel_rfl) ?_ _
              clear hHeld
              go_wp2_with fail
              go_meet
              case rel => exact ⟨gA, gB, x, y, gk, rfl, rfl, rfl, ⟨row_far _ (setRow_heap _ _ _ _ _ _ XA.out) NE.out, setRow_heap _ _ _ _ _ _ XB1.out, (SX.out.row XA.out LA.out _).row XB1.out LB.out _, (SY.out.row XA.out LA.out _).row XB1.out LB.out _, (SK.out.row XA.out _).row XB1.out _, below_row _ (below_row _ BB.out LA.out) LB.out⟩⟩
  case rest =>
    obtain ⟨gA, gB, x, y, gk, rfl, rfl, rfl, hN⟩ := hcut
    have N0 := hide hN
    clear hN SP1 SP2 SP3 D1
    have PX := hide (N0.out.sx.pj TJ.out.l)
    have PY := hide (N0.out.sy.pj TJ.out.r)
    have CT := hide (Lend_any wc t x y (some ⟨gk, 0, none⟩) (s.length + 64) s PX.out.i PY.out.i N0.out.sk.bs (by omega) TJ.out.n PX.out.d PY.out.d PX.out.s PY.out.s PX.out.n PY.out.n)
    rw [N0.out.sx.e, N0.out.sy.e] at CT
    have RJ := hide fun (W : World) (hb : Below w1.heap.size w1 W) => rLend_any W l r aS cS s t (TJ.out.l.keep hb) (TJ.out.r.keep hb) (TJ.out.b.keep hb) TJ.out.c TJ.out.n
    have JL : Hid ((lend l.pg r.pg s t).l.items.length ≤ 2199023255520 ∧ (lend l.pg r.pg s t).r.items.length ≤ 2199023255520) := lend_le (by have := TJ.out.l.n; rw [show l.pg.items.length = l.items.length from List.length_map _]; exact this) (by have := TJ.out.r.n; rw [show r.pg.items.length = r.items.length from List.length_map _]; exact this)
    obtain ⟨Z, hZ⟩ : ∃ Z, lend l.pg r.pg s t = Z := ⟨_, rfl⟩
    rw [hZ] at CT RJ JL
    clear hZ
    unfold Pv.vl at CT RJ
    simp only [Pv.cs] at CT RJ
    obtain ⟨p0, p1, p2, p3, p4⟩ := cells5 N0.out.xa
    obtain ⟨q0, q1, q2, q3, q4⟩ := cells5 N0.out.xb
    obtain ⟨e0, e1, e2, e3, e4, e5, e6, e7, e8, e9, ea, eb⟩ := SS.out _ N0.out.b
    go_wp2_with fail
    refine CT.out.mono ?_
    rintro _ w2 ⟨a, b, aU, cU, rfl, hH, ea', eb'⟩
    have U := hide (two_blocks w2 (.cells #[.int .i64 a.kind, .int .i64 a.level, .slice a.aI a.items.length a.cI, .slice a.aD a.data.length a.cD, .int .i64 a.next] 25) (.cells #[.int .i64 b.kind, .int .i64 b.level, .slice b.aI b.items.length b.cI, .slice b.aD b.data.length b.cD, .int .i64 b.next] 25) (Below.refl _ _))
    have HH := hide (hH.keep U.out.2.2.1)
    have BC := hide (bt hH.b U.out.2.2.1)
    have Xa := hide U.out.1
    have Xb := hide U.out.2.1
    have Ea := hide ea'
    have Eb := hide eb'
    have Pa := hide (HH.out.p1.piG ea' JL.out.1)
    have Pb := hide (HH.out.p2.piG eb' JL.out.2)
    have SA := hide (HH.out.sp.1.bs HH.out.sp.2)
    have N1 := hide (N0.out.keep BC.out)
    clear hH ea' eb' CT p0 p1 p2 p3 p4 q0 q1 q2 q3 q4 U HH e0 e1 e2 e3 e4 e5 e6 e7 e8 e9 ea eb
    have CT := hide (RJ.out ((w2.alloc (.cells #[.int .i64 a.kind, .int .i64 a.level, .slice a.aI a.items.length a.cI, .slice a.aD a.data.length a.cD, .int .i64 a.next] 25)).alloc (.cells #[.int .i64 b.kind, .int .i64 b.level, .slice b.aI b.items.length b.cI, .slice b.aD b.data.length b.cD, .int .i64 b.next] 25)) N1.out.b)
    obtain ⟨e0, e1, e2, e3, e4, e5, e6, e7, e8, e9, ea, eb⟩ := SS.out _ N1.out.b
    go_wp2_with fail
    refine CT.out.mono ?_
    rintro _ w3 ⟨c, d, aT, cT, rfl, hc, hd, hs, ec, ed, hb⟩
    have U := hide (two_blocks w3 (.cells #[.int .i64 c.kind, .int .i64 c.level, .slice c.aI c.items.length c.cI, .slice c.aD c.data.length c.cD, .int .i64 c.next] 25) (.cells #[.int .i64 d.kind, .int .i64 d.level, .slice d.aI d.items.length d.cI, .slice d.aD d.data.length d.cD, .int .i64 d.next] 25) (Below.refl _ _))
    have BU := hide (bt hb U.out.2.2.1)
    have Pc := hide (hc.keep U.out.2.2.1)
    have Pd := hide (hd.keep U.out.2.2.1)
    have ST := hide (hs.keep U.out.2.2.1)
    have Ec := hide ec
    have Ed := hide ed
    have Xc := hide U.out.1
    have Xd := hide U.out.2.1
    replace Xa := hide (blk_keep Xa.out BU.out)
    replace Xb := hide (blk_keep Xb.out BU.out)
    replace Pa := hide (Pa.out.keep BU.out)
    replace Pb := hide (Pb.out.keep BU.out)
    replace SA := hide (SA.out.keep BU.out)
    have N2 := hide (N1.out.keep BU.out)
    clear hc hd hs ec ed hb CT U BU RJ e0 e1 e2 e3 e4 e5 e6 e7 e8 e9 ea eb N0 BC
    have CT := hide (EqPage_same ((w3.alloc (.cells #[.int .i64 c.kind, .int .i64 c.level, .slice c.aI c.items.length c.cI, .slice c.aD c.data.length c.cD, .int .i64 c.next] 25)).alloc (.cells #[.int .i64 d.kind, .int .i64 d.level, .slice d.aI d.items.length d.cI, .slice d.aD d.data.length d.cD, .int .i64 d.next] 25)) a c Pa.out Pc.out (by rw [Ea.out, Ec.out]))
    unfold Pv.vl at CT
    simp only [Pv.cs] at CT
    obtain ⟨p0, p1, p2, p3, p4⟩ := cells5 Xa.out
    obtain ⟨q0, q1, q2, q3, q4⟩ := cells5 Xc.out
    go_wp2_with fail
    refine CT.out.mono ?_
    rintro _ u0 ⟨rfl, hb⟩
    replace Xa := hide (blk_keep Xa.out hb)
    replace Xb := hide (blk_keep Xb.out hb)
    replace Xc := hide (blk_keep Xc.out hb)
    replace Xd := hide (blk_keep Xd.out hb)
    replace Pa := hide (Pa.out.keep hb)
    replace Pb := hide (Pb.out.keep hb)
    replace Pc := hide (Pc.out.keep hb)
    replace Pd := hide (Pd.out.keep hb)
    replace SA := hide (SA.out.keep hb)
    replace ST := hide (ST.out.keep hb)
    have N3 := hide (N2.out.keep hb)
    clear hb CT p0 p1 p2 p3 p4 q0 q1 q2 q3 q4
    have CT := hide (EqPage_same u0 b d Pb.out Pd.out (by rw [Eb.out, Ed.out]))
    unfold Pv.vl at CT
    simp only [Pv.cs] at CT
    obtain ⟨p0, p1, p2, p3, p4⟩ := cells5 Xb.out
    obtain ⟨q0, q1, q2, q3, q4⟩ := cells5 Xd.out
    go_wp2_with fail
    refine CT.out.mono ?_
    rintro _ u1 ⟨rfl, hb⟩
    replace Xa := hide (blk_keep Xa.out hb)
    replace Xb := hide (blk_keep Xb.out hb)
    replace Xc := hide (blk_keep Xc.out hb)
    replace Xd := hide (blk_keep Xd.out hb)
    replace Pa := hide (Pa.out.keep hb)
    replace Pb := hide (Pb.out.keep hb)
    replace Pc := hide (Pc.out.keep hb)
    replace Pd := hide (Pd.out.keep hb)
    replace SA := hide (SA.out.keep hb)
    replace ST := hide (ST.out.keep hb)
    have N4 := hide (N3.out.keep hb)
    clear hb CT p0 p1 p2 p3 p4 q0 q1 q2 q3 q4
    have CT := hide (EqBytes_same u1 aU aT Z.s.length Z.s.length cU cT Z.s SA.out ST.out rfl rfl)
    go_wp2_with fail
    refine CT.out.mono ?_
    rintro _ u2 ⟨rfl, hb⟩
    have N5 := hide (N4.out.keep hb)
    clear hb CT Xa Xb Xc Xd Pa Pb Pc Pd SA ST Ea Eb Ec Ed N1 N2 N3 N4
    have CT := hide (KeptPage_any u2 _ l x (TJ.out.l.keep N5.out.b).i N5.out.sx (Nat.le_trans (show l.items.length ≤ 2199023255488 from TJ.out.l.n) (by decide)))
    unfold Pv.vl at CT
    simp only [Pv.cs] at CT
    obtain ⟨p0, p1, p2, p3, p4⟩ := cells5 N5.out.xa
    obtain ⟨e0, e1, e2, e3, e4, e5, e6, e7, e8, e9, ea, eb⟩ := SS.out _ N5.out.b
    go_wp2_with fail
    refine CT.out.mono ?_
    rintro _ u3 ⟨rfl, hb⟩
    have N6 := hide (N5.out.keep hb)
    clear hb CT p0 p1 p2 p3 p4 e0 e1 e2 e3 e4 e5 e6 e7 e8 e9 ea eb N5
    have CT := hide (KeptPage_any u3 _ r y (TJ.out.r.keep N6.out.b).i N6.out.sy (Nat.le_trans (show r.items.length ≤ 2199023255488 from TJ.out.r.n) (by decide)))
    unfold Pv.vl at CT
    simp only [Pv.cs] at CT
    obtain ⟨p0, p1, p2, p3, p4⟩ := cells5 N6.out.xb
    obtain ⟨e0, e1, e2, e3, e4, e5, e6, e7, e8, e9, ea, eb⟩ := SS.out _ N6.out.b
    go_wp2_with fail
    refine CT.out.mono ?_
    rintro _ u4 ⟨rfl, hb⟩
    have N7 := hide (N6.out.keep hb)
    clear hb CT p0 p1 p2 p3 p4 e0 e1 e2 e3 e4 e5 e6 e7 e8 e9 ea eb N6
    have CT := hide (Kept_sl u4 (some ⟨gk, 0, none⟩) aS (s.length + 64) cS s N7.out.sk (TJ.out.b.keep N7.out.b))
    obtain ⟨e0, e1, e2, e3, e4, e5, e6, e7, e8, e9, ea, eb⟩ := SS.out _ N7.out.b
    go_wp2_with fail
    refine CT.out.mono ?_
    rintro _ u5 ⟨rfl, hb⟩
    have B6 := hide (bt A0.out (bt N7.out.b hb))
    clear hb CT e0 e1 e2 e3 e4 e5 e6 e7 e8 e9 ea eb N7
    go_wp2_with fail
    refine (works_any u5).mono ?_
    rintro _ u6 ⟨rfl, hb⟩
    have B7 := hide (bt B6.out hb)
    clear hb
    go_wp2_with fail
    go_ret
    exact ⟨rfl, B7.out⟩
end Go.Proofs.Ytmfelkncomfipaa
