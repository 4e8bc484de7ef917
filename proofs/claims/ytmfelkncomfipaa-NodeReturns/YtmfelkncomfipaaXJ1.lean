import Derived.Test.YtmfelkncomfipaaDYE
import Derived.Test.YtmfelkncomfipaaDYH
import Derived.Test.YtmfelkncomfipaaDLA
namespace Go.Proofs.Ytmfelkncomfipaa
set_option linter.unusedVariables false
set_option linter.unusedSimpArgs false
open Go.RowKit
/-- what was lent, in its boxes -/
structure Lr (v W : World) (Z : Hv) (a b : Pv) (aU : Option Addr) (cU gA gB : Nat) : Prop where
  xa : W.heap[gA]? = some (.cells a.cs 25 (0, 0))
  xb : W.heap[gB]? = some (.cells b.cs 25 (0, 0))
  h : Hq v W a b aU cU Z.s
  ea : a.pg = Z.l
  eb : b.pg = Z.r
theorem Lr.keep {v W W' : World} {Z : Hv} {a b : Pv} {aU : Option Addr} {cU gA gB : Nat} (h : Lr v W Z a b aU cU gA gB) (hb : Below W.heap.size W W') : Lr v W' Z a b aU cU gA gB := ⟨blk_keep h.xa hb, blk_keep h.xb hb, h.h.keep hb, h.ea, h.eb⟩
theorem Pj.ofFit {W : World} {q : Pv} {P : Pg} (e : q.pg = P) (hi : Pi W q) (hs : ∀ x ∈ P.items, x.key.length ≤ 24 ∧ x.val.length ≤ 3840) (hd : P.data = []) (hn : P.items.length ≤ 8) : Pj W q := by
  refine ⟨hi, Pn.datF e hd, ?_, Pn.smlF e hs⟩
  have := congrArg (fun p : Pg => p.items.length) e
  simp only [Pv.pg, List.length_map] at this
  rw [this]
  omega
theorem fld2 (W : World) (q : Pv) : (Instr.field 25 (.agg #[.int .i64 q.kind, .int .i64 q.level, .slice q.aI q.items.length q.cI, .slice q.aD q.data.length q.cD, .int .i64 q.next]) 2).run Try.prog W = .ok (.slice q.aI q.items.length q.cI) W := by kernel_rfl
theorem fld3 (W : World) (q : Pv) (n : Nat) : (Instr.field 25 (.agg #[.int .i64 q.kind, .int .i64 q.level, .slice q.aI n q.cI, .slice q.aD q.data.length q.cD, .int .i64 q.next]) 2).run Try.prog W = .ok (.slice q.aI n q.cI) W := by kernel_rfl
theorem Pn.piH {v w : World} {P : Pv} (h : Pn v w P) {L : Pg} (e : P.pg = L) (hl : L.items.length ≤ 2199023255520) : Pi w P := h.pi (by
  rw [← e, show P.pg.items.length = P.items.length from List.length_map _] at hl
  exact hl)
theorem pg_len {q : Pv} {P : Pg} (e : q.pg = P) : q.items.length = P.items.length := by rw [← e]; exact (List.length_map _).symm
set_option maxHeartbeats 64000000 in
set_option maxRecDepth 16000 in
theorem nodeReturns_any (w : World) (v : Tv) (hT : Tj w v) :
    Calls Try.prog 4 #[v.vl] w fun e w' => e = .returned (.bool true) ∧ Below w.heap.size w w' := by
  have A0 := hide (al w (.cells v.cs 27))
  have X0 := hide (heap_alloc_new w (.cells v.cs 27))
  have TJ := hide (hT.keep A0.out)
  clear hT
  obtain ⟨l, r, aS, cS, s, t⟩ := v
  unfold Tv.vl
  simp only [Tv.cs] at A0 X0 TJ ⊢
  have FT := hide fun (W : World) (hb : Below (w.alloc (.cells #[.int .i64 l.kind, .int .i64 l.level, .slice l.aI l.items.length l.cI, .slice l.aD l.data.length l.cD, .int .i64 l.next, .int .i64 r.kind, .int .i64 r.level, .slice r.aI r.items.length r.cI, .slice r.aD r.data.length r.cD, .int .i64 r.next, .slice aS s.length cS, .bool t] 27)).heap.size (w.alloc (.cells #[.int .i64 l.kind, .int .i64 l.level, .slice l.aI l.items.length l.cI, .slice l.aD l.data.length l.cD, .int .i64 l.next, .int .i64 r.kind, .int .i64 r.level, .slice r.aI r.items.length r.cI, .slice r.aD r.data.length r.cD, .int .i64 r.next, .slice aS s.length cS, .bool t] 27)) W) => fits_any W l r aS cS s (TJ.out.l.i.keep hb) (TJ.out.r.i.keep hb) (TJ.out.b.keep hb) (Nat.le_trans TJ.out.n (by decide))
  unfold Pv.vl at FT
  simp only [Pv.cs] at FT
  go_enter Try.func4, Try.ntmps4
  go_wp2_with fail
  generalize (w.alloc (.cells #[.int .i64 l.kind, .int .i64 l.level, .slice l.aI l.items.length l.cI, .slice l.aD l.data.length l.cD, .int .i64 l.next, .int .i64 r.kind, .int .i64 r.level, .slice r.aI r.items.length r.cI, .slice r.aD r.data.length r.cD, .int .i64 r.next, .slice aS s.length cS, .bool t] 27)) = w1 at *
  have hw1 : w.heap.size < w1.heap.size := (Array.getElem?_eq_some_iff.1 X0.out).1
  have BX := hide fun (W : World) (hb : Below w1.heap.size w1 W) => blk_keep X0.out hb
  have SS := hide fun (W : World) (hb : Below w1.heap.size w1 W) => cells12b (blk_keep X0.out hb)
  refine (works_any w1).mono ?_
  rintro _ w2 ⟨rfl, b2⟩
  have B2 := hide b2
  clear b2
  obtain ⟨e0, e1, e2, e3, e4, e5, e6, e7, e8, e9, ea, eb⟩ := SS.out _ B2.out
  go_wp2_with fail
  refine (FT.out _ B2.out).mono ?_
  rintro _ w3 ⟨bf, rfl, hbf, b3⟩
  have B3 := hide (bt B2.out b3)
  clear b3 B2 e0 e1 e2 e3 e4 e5 e6 e7 e8 e9 ea eb FT
  by_cases hF : Fit l.pg r.pg s
  · obtain rfl : bf = true := hbf.2 hF
    clear hbf
    have HP := hide (fit_pr hF TJ.out.l.i.keys8 TJ.out.r.i.keys8 TJ.out.b.1)
    have OK := hide (lend_ok t hF HP.out)
    have LB := hide fun (h1 : 2 ≤ gvn l.pg r.pg t) (h2 : tkn l.pg r.pg t < 8) => lend_back t hF TJ.out.l.i.keys8 TJ.out.r.i.keys8 TJ.out.b.1 h1 h2
    have FA := hide (fit_alk hF)
    have FZ := hide (fit_sml hF)
    have FF := hide hF
    have L1 : Hid (l.pg.items.length = l.items.length) := List.length_map _
    have L2 : Hid (r.pg.items.length = r.items.length) := List.length_map _
    clear hF
    have LK1 : l.items.length ≤ 8 := by rw [← L1.out]; exact FA.out.2.2.2.1
    have LK2 : r.items.length ≤ 8 := by rw [← L2.out]; exact FA.out.2.2.2.2
    have LJ1 : 1 ≤ l.items.length := by rw [← L1.out]; exact FA.out.2.1
    have LJ2 : 1 ≤ r.items.length := by rw [← L2.out]; exact FA.out.2.2.1
    obtain ⟨G, hG⟩ : ∃ G, (if t = true then l else r) = G := ⟨_, rfl⟩
    obtain ⟨Kp, hKp⟩ : ∃ Kp, (if t = true then r else l) = Kp := ⟨_, rfl⟩
    have GG : Hid (gvn l.pg r.pg t = G.items.length) := by
      show _ = _
      rw [← hG]
      unfold gvn
      cases t
      · exact L2.out
      · exact L1.out
    have KK : Hid (tkn l.pg r.pg t = Kp.items.length) := by
      show _ = _
      rw [← hKp]
      unfold tkn
      cases t
      · exact L1.out
      · exact L2.out
    have GV := hide fun (W : World) => gives_any W ⟨l, r, aS, cS, s, t⟩
    have TK := hide fun (W : World) => takes_any W ⟨l, r, aS, cS, s, t⟩
    simp only [hG] at GV
    simp only [hKp] at TK
    unfold Tv.vl Pv.vl at GV TK
    simp only [Tv.cs, Pv.cs] at GV TK
    have TK2 := hide fun (W : World) (a b : Pv) => takes_any W ⟨a, b, none, 0, [], t⟩
    have SP1 := hide fun (W : World) (hb : Below w1.heap.size w1 W) => (TJ.out.l.keep hb).copy
    have SP2 := hide fun (W : World) (hb : Below w1.heap.size w1 W) => (TJ.out.r.keep hb).copy
    have SP3 := hide fun (W : World) (hb : Below w1.heap.size w1 W) => CopyBytes_at W aS s.length cS s (TJ.out.b.keep hb) rfl TJ.out.n
    have S8 := hide TJ.out.b.1
    have LN := hide fun (W : World) (x y : Pv) (aK : Option Addr) (cK : Nat) (hb : Below w1.heap.size w1 W) (hx : Pj W x) (hy : Pj W y) (hk : Rw W aK cK s) (ex : x.pg = l.pg) (ey : y.pg = r.pg) => (show Calls Try.prog 9 #[x.vl, y.vl, .slice aK s.length cK, .bool t] W fun e w' => ∃ (q1 q2 : Pv) (a : Option Addr) (c : Nat), e = .returned (.tuple #[q1.vl, q2.vl, .slice a (lend l.pg r.pg s t).s.length c, .bool (lend l.pg r.pg s t).ok]) ∧ Hq W w' q1 q2 a c (lend l.pg r.pg s t).s ∧ q1.pg = (lend l.pg r.pg s t).l ∧ q2.pg = (lend l.pg r.pg s t).r from by
      have h := Lend_any W t x y aK cK s hx.i hy.i (hk.bs S8.out hk.len_le) hk.cap TJ.out.n hx.d hy.d hx.s hy.s hx.n hy.n
      rw [ex, ey] at h
      exact h)
    obtain ⟨Z, hZ⟩ : ∃ Z, lend l.pg r.pg s t = Z := ⟨_, rfl⟩
    simp only [hZ] at LN OK LB
    unfold Pv.vl at SP1 SP2 LN
    simp only [Pv.cs] at SP1 SP2 LN
    clear hZ hG hKp
    have FG := fun (W : World) => fld2 W G
    have FK := fun (W : World) => fld2 W Kp
    go_upto_region 5 with fail
    have D1 := hide (bt B3.out (dr2 w3))
    go_cut [3, 4, 5, 6] from 21 to 37 (fun p3 p4 v5 v6 wx => ∃ (gA gB : Nat) (a b : Pv) (aU : Option Addr) (cU : Nat), p3 = .pointer (some ⟨gA, 0, none⟩) ∧ p4 = .pointer (some ⟨gB, 0, none⟩) ∧ v5 = .slice aU Z.s.length cU ∧ v6 = .bool Z.ok ∧ Lr w1 wx Z a b aU cU gA gB)
    case first =>
      clear GV TK TK2 LB OK GG KK FA FZ FF HP
      refine wp_region_held_drew (S := fun W => W.cell? ⟨w.heap.size, 0, none⟩ = some (.int .i64 l.kind) ∧ W.cell? ⟨w.heap.size, 1, none⟩ = some (.int .i64 l.level) ∧ W.cell? ⟨w.heap.size, 2, none⟩ = some (.slice l.aI l.items.length l.cI) ∧ W.cell? ⟨w.heap.size, 3, none⟩ = some (.slice l.aD l.data.length l.cD) ∧ W.cell? ⟨w.heap.size, 4, none⟩ = some (.int .i64 l.next) ∧ W.cell? ⟨w.heap.size, 5, none⟩ = some (.int .i64 r.kind) ∧ W.cell? ⟨w.heap.size, 6, none⟩ = some (.int .i64 r.level) ∧ W.cell? ⟨w.heap.size, 7, none⟩ = some (.slice r.aI r.items.length r.cI) ∧ W.cell? ⟨w.heap.size, 8, none⟩ = some (.slice r.aD r.data.length r.cD) ∧ W.cell? ⟨w.heap.size, 9, none⟩ = some (.int .i64 r.next) ∧ W.cell? ⟨w.heap.size, 10, none⟩ = some (.slice aS s.length cS) ∧ W.cell? ⟨w.heap.size, 11, none⟩ = some (.bool t)) (by kernel_rfl) (SS.out _ D1.out) (fun hHeld => ?_)
      refine wpAnyH_take (i := 0) (v := ?vat0) rfl (by kernel_rfl) (by kernel_rfl) (by kernel_rfl) (fun _ _ _ h => h) (Or.inl ⟨by rfl, ?hyt0⟩) (by assumption) ?rat0
      case hyt0 => (intro wq hSw; (try dsimp only at hSw); obtain ⟨e0, e1, e2, e3, e4, e5, e6, e7, e8, e9, e10, e11⟩ := hSw; go_simp <;> with_reducible rfl)
      try simp only [Act.put, List.getElem_toArray, List.getElem_cons_zero, List.setIfInBounds_toArray, List.set_cons_zero, List.set_cons_succ]
      refine wpAnyH_take (i := 1) (v := ?vat1) rfl (by kernel_rfl) (by kernel_rfl) (by kernel_rfl) (fun _ _ _ h => h) (Or.inl ⟨by rfl, ?hyt1⟩) (by assumption) ?rat1
      case hyt1 => (intro wq hSw; (try dsimp only at hSw); obtain ⟨e0, e1, e2, e3, e4, e5, e6, e7, e8, e9, e10, e11⟩ := hSw; go_simp <;> with_reducible rfl)
      try simp only [Act.put, List.getElem_toArray, List.getElem_cons_zero, List.getElem_cons_succ, List.setIfInBounds_toArray, List.set_cons_zero, List.set_cons_succ]
      refine wpAnyH_take (i := 3) (v := ?vat3) rfl (by kernel_rfl) (by kernel_rfl) (by kernel_rfl) (fun _ _ _ h => h) (Or.inl ⟨by rfl, ?hyt3⟩) (by assumption) ?rat3
      case hyt3 => (intro wq hSw; (try dsimp only at hSw); obtain ⟨e0, e1, e2, e3, e4, e5, e6, e7, e8, e9, e10, e11⟩ := hSw; go_simp <;> with_reducible rfl)
      try simp only [Act.put, List.getElem_toArray, List.getElem_cons_zero, List.getElem_cons_succ, List.setIfInBounds_toArray, List.set_cons_zero, List.set_cons_succ]
      refine wpAnyH_take (i := 4) (v := ?vat4) rfl (by kernel_rfl) (by kernel_rfl) (by kernel_rfl) (fun _ _ _ h => h) (Or.inl ⟨by rfl, ?hyt4⟩) (by assumption) ?rat4
      case hyt4 => (intro wq hSw; (try dsimp only at hSw); obtain ⟨e0, e1, e2, e3, e4, e5, e6, e7, e8, e9, e10, e11⟩ := hSw; go_simp <;> with_reducible rfl)
      try simp only [Act.put, List.getElem_toArray, List.getElem_cons_zero, List.getElem_cons_succ, List.setIfInBounds_toArray, List.set_cons_zero, List.set_cons_succ]
      refine wpAnyH_take (i := 6) (v := ?vat6) rfl (by kernel_rfl) (by kernel_rfl) (by kernel_rfl) (fun _ _ _ h => h) (Or.inl ⟨by rfl, ?hyt6⟩) (by assumption) ?rat6
      case hyt6 => (intro wq hSw; (try dsimp only at hSw); obtain ⟨e0, e1, e2, e3, e4, e5, e6, e7, e8, e9, e10, e11⟩ := hSw; go_simp <;> with_reducible rfl)
      try simp only [Act.put, List.getElem_toArray, List.getElem_cons_zero, List.getElem_cons_succ, List.setIfInBounds_toArray, List.set_cons_zero, List.set_cons_succ]
      refine wpAnyH_take (i := 7) (v := ?vat7) rfl (by kernel_rfl) (by kernel_rfl) (by kernel_rfl) (fun _ _ _ h => h) (Or.inl ⟨by rfl, ?hyt7⟩) (by assumption) ?rat7
      case hyt7 => (intro wq hSw; (try dsimp only at hSw); obtain ⟨e0, e1, e2, e3, e4, e5, e6, e7, e8, e9, e10, e11⟩ := hSw; go_simp <;> with_reducible rfl)
      try simp only [Act.put, List.getElem_toArray, List.getElem_cons_zero, List.getElem_cons_succ, List.setIfInBounds_toArray, List.set_cons_zero, List.set_cons_succ]
      refine wpAnyH_take (i := 9) (v := ?vat9) rfl (by kernel_rfl) (by kernel_rfl) (by kernel_rfl) (fun _ _ _ h => h) (Or.inl ⟨by rfl, ?hyt9⟩) (by assumption) ?rat9
      case hyt9 => (intro wq hSw; (try dsimp only at hSw); obtain ⟨e0, e1, e2, e3, e4, e5, e6, e7, e8, e9, e10, e11⟩ := hSw; go_simp <;> with_reducible rfl)
      try simp only [Act.put, List.getElem_toArray, List.getElem_cons_zero, List.getElem_cons_succ, List.setIfInBounds_toArray, List.set_cons_zero, List.set_cons_succ]
      refine wpAnyH_take (i := 10) (v := ?vat10) rfl (by kernel_rfl) (by kernel_rfl) (by kernel_rfl) (fun _ _ _ h => h) (Or.inl ⟨by rfl, ?hyt10⟩) (by assumption) ?rat10
      case hyt10 => (intro wq hSw; (try dsimp only at hSw); obtain ⟨e0, e1, e2, e3, e4, e5, e6, e7, e8, e9, e10, e11⟩ := hSw; go_simp <;> with_reducible rfl)
      try simp only [Act.put, List.getElem_toArray, List.getElem_cons_zero, List.getElem_cons_succ, List.setIfInBounds_toArray, List.set_cons_zero, List.set_cons_succ]
      have BB := D1
      clear D1
      generalize w3.drew = v0 at *
      refine wpAnyH_ready (rs := [2, 17, 18]) (by kernel_rfl) (by simp) ?_
      refine (AllReadyH.cons rfl (fun K hK => ?_) (AllReadyH.cons rfl (fun K hK => ?_) (AllReadyH.cons rfl (fun K hK => ?_) AllReadyH.nil)))
      · go_simp
        refine (SP1.out _ BB.out).mono ?_
        rintro _ v1 ⟨x, rfl, hS, -, hE, hb⟩
        have SX := hide hS
        have EX := hide hE
        replace BB := hide (bt BB.out hb)
        clear hS hE hb
        go_wp2_with fail
        refine hK.out _ _ (SS.out _ BB.out) (fun hHeld => ?_)
        clear hK K
        try simp only [Act.put, List.getElem_toArray, List.getElem_cons_zero, List.getElem_cons_succ, List.setIfInBounds_toArray, List.set_cons_zero, List.set_cons_succ]
        refine wpAnyH_ready (rs := [5, 17, 18]) (by kernel_rfl) (by simp) ?_
        refine (AllReadyH.cons rfl (fun K hK => ?_) (AllReadyH.cons rfl (fun K hK => ?_) (AllReadyH.cons rfl (fun K hK => ?_) AllReadyH.nil)))
        · go_simp
          refine (SP2.out _ BB.out).mono ?_
          rintro _ v2 ⟨y, rfl, hS, -, hE, hb⟩
          have SY := hide hS
          have EY := hide hE
          replace SX := hide (SX.out.keep hb)
          replace BB := hide (bt BB.out hb)
          clear hS hE hb
          go_wp2_with fail
          refine hK.out _ _ (SS.out _ BB.out) (fun hHeld => ?_)
          clear hK K
          try simp only [Act.put, List.getElem_toArray, List.getElem_cons_zero, List.getElem_cons_succ, List.setIfInBounds_toArray, List.set_cons_zero, List.set_cons_succ]
          refine wpAnyH_ready (rs := [8, 17, 18]) (by kernel_rfl) (by simp) ?_
          refine (AllReadyH.cons rfl (fun K hK => ?_) (AllReadyH.cons rfl (fun K hK => ?_) (AllReadyH.cons rfl (fun K hK => ?_) AllReadyH.nil)))
          · go_simp
            refine (SP3.out _ BB.out).mono ?_
            rintro _ v3 ⟨aK, cK, rfl, hO⟩
            have hb := hO.b
            have SK := hide hO.r
            replace SX := hide (SX.out.keep hb)
            replace SY := hide (SY.out.keep hb)
            replace BB := hide (bt BB.out hb)
            clear hO hb
            go_wp2_with fail
            refine hK.out _ _ (SS.out _ BB.out) (fun hHeld => ?_)
            clear hK K
            try simp only [Act.put, List.getElem_toArray, List.getElem_cons_zero, List.getElem_cons_succ, List.setIfInBounds_toArray, List.set_cons_zero, List.set_cons_succ]
            refine wpAnyH_ready (rs := [11, 17, 18]) (by kernel_rfl) (by simp) ?_
            refine (AllReadyH.cons rfl (fun K hK => ?_) (AllReadyH.cons rfl (fun K hK => ?_) (AllReadyH.cons rfl (fun K hK => ?_) AllReadyH.nil)))
            · go_simp
              refine (LN.out _ x y aK cK BB.out SX.out SY.out SK.out EX.out EY.out).mono ?_
              rintro _ v4 ⟨a, b, aU, cU, rfl, hH, ha, hb2⟩
              have hb := hH.b
              have HQ := hide (hH.pre BB.out)
              have EA := hide ha
              have EB := hide hb2
              clear SX SY SK
              replace BB := hide (bt BB.out hb)
              clear hH ha hb2 hb
              go_wp2_with fail
              refine hK.out _ _ (SS.out _ BB.out) (fun hHeld => ?_)
              clear hK K
              try simp only [Act.put, List.getElem_toArray, List.getElem_cons_zero, List.getElem_cons_succ, List.setIfInBounds_toArray, List.set_cons_zero, List.set_cons_succ]
              refine wpAnyH_take (i := 12) (v := ?vat1234x12) rfl (by kernel_rfl) (by kernel_rfl) (by kernel_rfl) (fun _ _ _ h => h) (Or.inl ⟨by rfl, ?hyt1234x12⟩) (by assumption) ?rat1234x12
              case hyt1234x12 => (intro wq hSw; (try dsimp only at hSw); obtain ⟨e0, e1, e2, e3, e4, e5, e6, e7, e8, e9, e10, e11⟩ := hSw; go_simp <;> with_reducible rfl)
              try simp only [Act.put, List.getElem_toArray, List.getElem_cons_zero, List.getElem_cons_succ, List.setIfInBounds_toArray, List.set_cons_zero, List.set_cons_succ]
              refine wpAnyH_take (i := 13) (v := ?vat1234x13) rfl (by kernel_rfl) (by kernel_rfl) (by kernel_rfl) (fun _ _ _ h => h) (Or.inl ⟨by rfl, ?hyt1234x13⟩) (by assumption) ?rat1234x13
              case hyt1234x13 => (intro wq hSw; (try dsimp only at hSw); obtain ⟨e0, e1, e2, e3, e4, e5, e6, e7, e8, e9, e10, e11⟩ := hSw; go_simp <;> with_reducible rfl)
              try simp only [Act.put, List.getElem_toArray, List.getElem_cons_zero, List.getElem_cons_succ, List.setIfInBounds_toArray, List.set_cons_zero, List.set_cons_succ]
              refine wpAnyH_take (i := 14) (v := ?vat1234x14) rfl (by kernel_rfl) (by kernel_rfl) (by kernel_rfl) (fun _ _ _ h => h) (Or.inl ⟨by rfl, ?hyt1234x14⟩) (by assumption) ?rat1234x14
              case hyt1234x14 => (intro wq hSw; (try dsimp only at hSw); obtain ⟨e0, e1, e2, e3, e4, e5, e6, e7, e8, e9, e10, e11⟩ := hSw; go_simp <;> with_reducible rfl)
              try simp only [Act.put, List.getElem_toArray, List.getElem_cons_zero, List.getElem_cons_succ, List.setIfInBounds_toArray, List.set_cons_zero, List.set_cons_succ]
              refine wpAnyH_take (i := 15) (v := ?vat1234x15) rfl (by kernel_rfl) (by kernel_rfl) (by kernel_rfl) (fun _ _ _ h => h) (Or.inl ⟨by rfl, ?hyt1234x15⟩) (by assumption) ?rat1234x15
              case hyt1234x15 => (intro wq hSw; (try dsimp only at hSw); obtain ⟨e0, e1, e2, e3, e4, e5, e6, e7, e8, e9, e10, e11⟩ := hSw; go_simp <;> with_reducible rfl)
              try simp only [Act.put, List.getElem_toArray, List.getElem_cons_zero, List.getElem_cons_succ, List.setIfInBounds_toArray, List.set_cons_zero, List.set_cons_succ]
              refine wpAnyH_take (i := 16) (v := ?vat1234x16) rfl (by kernel_rfl) (by kernel_rfl) (by kernel_rfl) (fun _ _ _ h => h) (Or.inl ⟨by rfl, ?hyt1234x16⟩) (by assumption) ?rat1234x16
              case hyt1234x16 => (intro wq hSw; (try dsimp only at hSw); obtain ⟨e0, e1, e2, e3, e4, e5, e6, e7, e8, e9, e10, e11⟩ := hSw; go_simp <;> with_reducible rfl)
              try simp only [Act.put, List.getElem_toArray, List.getElem_cons_zero, List.getElem_cons_succ, List.setIfInBounds_toArray, List.set_cons_zero, List.set_cons_succ]
              refine wpAnyH_ready (rs := [17, 18]) (by kernel_rfl) (by simp) ?_
              refine (AllReadyH.cons rfl (fun K hK => ?_) (AllReadyH.cons rfl (fun K hK => ?_) AllReadyH.nil))
              · go_simp
                have AL := hide (al v4 (.cells #[.int .i64 0, .int .i64 0, .slice none 0 0, .slice none 0 0, .int .i64 0] 25))
                have LA : Hid (w1.heap.size ≤ v4.heap.size) := BB.out.size
                replace HQ := hide (HQ.out.keep AL.out)
                replace BB := hide (bt BB.out AL.out)
                have XA := hide (heap_alloc_new v4 (.cells #[.int .i64 0, .int .i64 0, .slice none 0 0, .slice none 0 0, .int .i64 0] 25))
                refine hK.out _ _ (SS.out _ BB.out) (fun hHeld => ?_)
                clear hK K AL
                try simp only [Act.put, List.getElem_toArray, List.getElem_cons_zero, List.getElem_cons_succ, List.setIfInBounds_toArray, List.set_cons_zero, List.set_cons_succ]
                generalize (v4.alloc (.cells #[.int .i64 0, .int .i64 0, .slice none 0 0, .slice none 0 0, .int .i64 0] 25)) = v5 at *
                generalize v4.heap.size = gA at *
                refine wpAnyH_ready (rs := [18]) (by kernel_rfl) (by simp) ?_
                refine (AllReadyH.cons rfl (fun K hK => ?_) AllReadyH.nil)
                · go_simp
                  have AL := hide (al v5 (.cells #[.int .i64 0, .int .i64 0, .slice none 0 0, .slice none 0 0, .int .i64 0] 25))
                  have LB : Hid (w1.heap.size ≤ v5.heap.size) := BB.out.size
                  have NE : Hid (gA ≠ v5.heap.size) := by have := (Array.getElem?_eq_some_iff.1 XA.out).1; show _ ≠ _; omega
                  replace HQ := hide (HQ.out.keep AL.out)
                  replace XA := hide (blk_keep XA.out AL.out)
                  replace BB := hide (bt BB.out AL.out)
                  have XB := hide (heap_alloc_new v5 (.cells #[.int .i64 0, .int .i64 0, .slice none 0 0, .slice none 0 0, .int .i64 0] 25))
                  refine hK.out _ _ (SS.out _ BB.out) (fun hHeld => ?_)
                  clear hK K AL
                  try simp only [Act.put, List.getElem_toArray, List.getElem_cons_zero, List.getElem_cons_succ, List.setIfInBounds_toArray, List.set_cons_zero, List.set_cons_succ]
                  generalize (v5.alloc (.cells #[.int .i64 0, .int .i64 0, .slice none 0 0, .slice none 0 0, .int .i64 0] 25)) = v6 at *
                  generalize v5.heap.size = gB at *
                  have hAne : w.heap.size ≠ gA := by have := LA.out; omega
                  have hBne : w.heap.size ≠ gB := by have := LB.out; omega
                  refine wpAnyH_ready (rs := [19]) (by kernel_rfl) (by simp) ?_
                  refine AllReadyH.cons rfl (fun K hK => ?_) AllReadyH.nil
                  rw [if_pos (by rfl)]
                  have XB1 := hide (row_far (W := v6) (g := gA) #[.int .i64 a.kind, .int .i64 a.level, .slice a.aI a.items.length a.cI, .slice a.aD a.data.length a.cD, .int .i64 a.next] XB.out (Ne.symm NE.out))
                  refine wp_store_row 25 _ _ rfl gA _ rfl rfl 25 _ XA.out sizePage rfl (by simp [Value.oneCell']) ?_
                  refine hK.out _ _ (cells12b (row_far _ (BX.out _ BB.out) hAne)) (fun hHeld => ?_)
                  clear hK K
                  try simp only [Act.put, List.getElem_toArray, List.getElem_cons_zero, List.getElem_cons_succ, List.setIfInBounds_toArray, List.set_cons_zero, List.set_cons_succ]
                  refine wpAnyH_ready (rs := [20]) (by kernel_rfl) (by simp) ?_
                  refine AllReadyH.cons rfl (fun K hK => ?_) AllReadyH.nil
                  rw [if_pos (by rfl)]
                  refine wp_store_row 25 _ _ rfl gB _ rfl rfl 25 _ XB1.out sizePage rfl (by simp [Value.oneCell']) ?_
                  refine hK.out _ _ (cells12b (row_far _ (row_far _ (BX.out _ BB.out) hAne) hBne)) (fun hHeld => ?_)
                  clear hK K
                  try simp only [Act.put, List.getElem_toArray, List.getElem_cons_zero, List.getElem_cons_succ, List.setIfInBounds_toArray, List.set_cons_zero, List.set_cons_succ]
                  refine wpAnyH_take (i := 21) (v := ?vat12345621) rfl (by kernel_rfl) (by kernel_rfl) (by kernel_rfl) (fun _ _ _ h => h) (Or.inl ⟨by rfl, ?hyt12345621⟩) (by assumption) ?rat12345621
                  case hyt12345621 => (intro wq hSw; (try dsimp only at hSw); obtain ⟨e0, e1, e2, e3, e4, e5, e6, e7, e8, e9, e10, e11⟩ := hSw; go_simp <;> with_reducible rfl)
                  try simp only [Act.put, List.getElem_toArray, List.getElem_cons_zero, List.getElem_cons_succ, List.setIfInBounds_toArray, List.set_cons_zero, List.set_cons_succ]
                  refine wpAnyH_take (i := 22) (v := ?vat12345622) rfl (by kernel_rfl) (by kernel_rfl) (by kernel_rfl) (fun _ _ _ h => h) (Or.inl ⟨by rfl, ?hyt12345622⟩) (by assumption) ?rat12345622
                  case hyt12345622 => (intro wq hSw; (try dsimp only at hSw); obtain ⟨e0, e1, e2, e3, e4, e5, e6, e7, e8, e9, e10, e11⟩ := hSw; go_simp <;> with_reducible rfl)
                  try simp only [Act.put, List.getElem_toArray, List.getElem_cons_zero, List.getElem_cons_succ, List.setIfInBounds_toArray, List.set_cons_zero, List.set_cons_succ]
                  refine wpAnyH_done (by kernel_rfl) ?_ _
                  clear hHeld
                  go_wp2_with fail
                  go_meet
                  case rel => exact ⟨gA, gB, a, b, aU, cU, rfl, rfl, rfl, rfl, ⟨row_far _ (setRow_heap _ _ _ _ _ _ XA.out) NE.out, setRow_heap _ _ _ _ _ _ XB1.out, (HQ.out.but (but_setRow _ gA _) (fun k hk => ⟨_, _, by subst hk; exact XA.out, by decide, by decide⟩) (below_row _ HQ.out.b LA.out)).but (but_setRow _ gB _) (fun k hk => ⟨_, _, by subst hk; exact XB1.out, by decide, by decide⟩) (below_row _ (below_row _ HQ.out.b LA.out) LB.out), EA.out, EB.out⟩⟩
              · go_simp
                have AL := hide (al v4 (.cells #[.int .i64 0, .int .i64 0, .slice none 0 0, .slice none 0 0, .int .i64 0] 25))
                have LB : Hid (w1.heap.size ≤ v4.heap.size) := BB.out.size
                replace HQ := hide (HQ.out.keep AL.out)
                replace BB := hide (bt BB.out AL.out)
                have XB := hide (heap_alloc_new v4 (.cells #[.int .i64 0, .int .i64 0, .slice none 0 0, .slice none 0 0, .int .i64 0] 25))
                refine hK.out _ _ (SS.out _ BB.out) (fun hHeld => ?_)
                clear hK K AL
                try simp only [Act.put, List.getElem_toArray, List.getElem_cons_zero, List.getElem_cons_succ, List.setIfInBounds_toArray, List.set_cons_zero, List.set_cons_succ]
                generalize (v4.alloc (.cells #[.int .i64 0, .int .i64 0, .slice none 0 0, .slice none 0 0, .int .i64 0] 25)) = v7 at *
                generalize v4.heap.size = gB at *
                refine wpAnyH_ready (rs := [17]) (by kernel_rfl) (by simp) ?_
                refine (AllReadyH.cons rfl (fun K hK => ?_) AllReadyH.nil)
                · go_simp
                  have AL := hide (al v7 (.cells #[.int .i64 0, .int .i64 0, .slice none 0 0, .slice none 0 0, .int .i64 0] 25))
                  have LA : Hid (w1.heap.size ≤ v7.heap.size) := BB.out.size
                  have NE : Hid (v7.heap.size ≠ gB) := by have := (Array.getElem?_eq_some_iff.1 XB.out).1; show _ ≠ _; omega
                  replace HQ := hide (HQ.out.keep AL.out)
                  replace XB := hide (blk_keep XB.out AL.out)
                  replace BB := hide (bt BB.out AL.out)
                  have XA := hide (heap_alloc_new v7 (.cells #[.int .i64 0, .int .i64 0, .slice none 0 0, .slice none 0 0, .int .i64 0] 25))
                  refine hK.out _ _ (SS.out _ BB.out) (fun hHeld => ?_)
                  clear hK K AL
                  try simp only [Act.put, List.getElem_toArray, List.getElem_cons_zero, List.getElem_cons_succ, List.setIfInBounds_toArray, List.set_cons_zero, List.set_cons_succ]
                  generalize (v7.alloc (.cells #[.int .i64 0, .int .i64 0, .slice none 0 0, .slice none 0 0, .int .i64 0] 25)) = v8 at *
                  generalize v7.heap.size = gA at *
                  have hAne : w.heap.size ≠ gA := by have := LA.out; omega
                  have hBne : w.heap.size ≠ gB := by have := LB.out; omega
                  refine wpAnyH_ready (rs := [19]) (by kernel_rfl) (by simp) ?_
                  refine AllReadyH.cons rfl (fun K hK => ?_) AllReadyH.nil
                  rw [if_pos (by rfl)]
                  have XB1 := hide (row_far (W := v8) (g := gA) #[.int .i64 a.kind, .int .i64 a.level, .slice a.aI a.items.length a.cI, .slice a.aD a.data.length a.cD, .int .i64 a.next] XB.out (Ne.symm NE.out))
                  refine wp_store_row 25 _ _ rfl gA _ rfl rfl 25 _ XA.out sizePage rfl (by simp [Value.oneCell']) ?_
                  refine hK.out _ _ (cells12b (row_far _ (BX.out _ BB.out) hAne)) (fun hHeld => ?_)
                  clear hK K
                  try simp only [Act.put, List.getElem_toArray, List.getElem_cons_zero, List.getElem_cons_succ, List.setIfInBounds_toArray, List.set_cons_zero, List.set_cons_succ]
                  refine wpAnyH_ready (rs := [20]) (by kernel_rfl) (by simp) ?_
                  refine AllReadyH.cons rfl (fun K hK => ?_) AllReadyH.nil
                  rw [if_pos (by rfl)]
                  refine wp_store_row 25 _ _ rfl gB _ rfl rfl 25 _ XB1.out sizePage rfl (by simp [Value.oneCell']) ?_
                  refine hK.out _ _ (cells12b (row_far _ (row_far _ (BX.out _ BB.out) hAne) hBne)) (fun hHeld => ?_)
                  clear hK K
                  try simp only [Act.put, List.getElem_toArray, List.getElem_cons_zero, List.getElem_cons_succ, List.setIfInBounds_toArray, List.set_cons_zero, List.set_cons_succ]
                  refine wpAnyH_take (i := 21) (v := ?vat12347821) rfl (by kernel_rfl) (by kernel_rfl) (by kernel_rfl) (fun _ _ _ h => h) (Or.inl ⟨by rfl, ?hyt12347821⟩) (by assumption) ?rat12347821
                  case hyt12347821 => (intro wq hSw; (try dsimp only at hSw); obtain ⟨e0, e1, e2, e3, e4, e5, e6, e7, e8, e9, e10, e11⟩ := hSw; go_simp <;> with_reducible rfl)
                  try simp only [Act.put, List.getElem_toArray, List.getElem_cons_zero, List.getElem_cons_succ, List.setIfInBounds_toArray, List.set_cons_zero, List.set_cons_succ]
                  refine wpAnyH_take (i := 22) (v := ?vat12347822) rfl (by kernel_rfl) (by kernel_rfl) (by kernel_rfl) (fun _ _ _ h => h) (Or.inl ⟨by rfl, ?hyt12347822⟩) (by assumption) ?rat12347822
                  case hyt12347822 => (intro wq hSw; (try dsimp only at hSw); obtain ⟨e0, e1, e2, e3, e4, e5, e6, e7, e8, e9, e10, e11⟩ := hSw; go_simp <;> with_reducible rfl)
                  try simp only [Act.put, List.getElem_toArray, List.getElem_cons_zero, List.getElem_cons_succ, List.setIfInBounds_toArray, List.set_cons_zero, List.set_cons_succ]
                  refine wpAnyH_done (by kernel_rfl) ?_ _
                  clear hHeld
                  go_wp2_with fail
                  go_meet
                  case rel => exact ⟨gA, gB, a, b, aU, cU, rfl, rfl, rfl, rfl, ⟨row_far _ (setRow_heap _ _ _ _ _ _ XA.out) NE.out, setRow_heap _ _ _ _ _ _ XB1.out, (HQ.out.but (but_setRow _ gA _) (fun k hk => ⟨_, _, by subst hk; exact XA.out, by decide, by decide⟩) (below_row _ HQ.out.b LA.out)).but (but_setRow _ gB _) (fun k hk => ⟨_, _, by subst hk; exact XB1.out, by decide, by decide⟩) (below_row _ (below_row _ HQ.out.b LA.out) LB.out), EA.out, EB.out⟩⟩
            · go_simp
              have AL := hide (al v3 (.cells #[.int .i64 0, .int .i64 0, .slice none 0 0, .slice none 0 0, .int .i64 0] 25))
              have LA : Hid (w1.heap.size ≤ v3.heap.size) := BB.out.size
              replace SX := hide (SX.out.keep AL.out)
              replace SY := hide (SY.out.keep AL.out)
              replace SK := hide (SK.out.keep AL.out)
              replace BB := hide (bt BB.out AL.out)
              have XA := hide (heap_alloc_new v3 (.cells #[.int .i64 0, .int .i64 0, .slice none 0 0, .slice none 0 0, .int .i64 0] 25))
              refine hK.out _ _ (SS.out _ BB.out) (fun hHeld => ?_)
              clear hK K AL
              try simp only [Act.put, List.getElem_toArray, List.getElem_cons_zero, List.getElem_cons_succ, List.setIfInBounds_toArray, List.set_cons_zero, List.set_cons_succ]
              generalize (v3.alloc (.cells #[.int .i64 0, .int .i64 0, .slice none 0 0, .slice none 0 0, .int .i64 0] 25)) = v9 at *
              generalize v3.heap.size = gA at *
              refine wpAnyH_ready (rs := [11, 18]) (by kernel_rfl) (by simp) ?_
              refine (AllReadyH.cons rfl (fun K hK => ?_) (AllReadyH.cons rfl (fun K hK => ?_) AllReadyH.nil))
              · go_simp
                refine (LN.out _ x y aK cK BB.out SX.out SY.out SK.out EX.out EY.out).mono ?_
                rintro _ v10 ⟨a, b, aU, cU, rfl, hH, ha, hb2⟩
                have hb := hH.b
                have HQ := hide (hH.pre BB.out)
                have EA := hide ha
                have EB := hide hb2
                clear SX SY SK
                replace XA := hide (blk_keep XA.out hb)
                replace BB := hide (bt BB.out hb)
                clear hH ha hb2 hb
                go_wp2_with fail
                refine hK.out _ _ (SS.out _ BB.out) (fun hHeld => ?_)
                clear hK K
                try simp only [Act.put, List.getElem_toArray, List.getElem_cons_zero, List.getElem_cons_succ, List.setIfInBounds_toArray, List.set_cons_zero, List.set_cons_succ]
                refine wpAnyH_take (i := 12) (v := ?vat123910x12) rfl (by kernel_rfl) (by kernel_rfl) (by kernel_rfl) (fun _ _ _ h => h) (Or.inl ⟨by rfl, ?hyt123910x12⟩) (by assumption) ?rat123910x12
                case hyt123910x12 => (intro wq hSw; (try dsimp only at hSw); obtain ⟨e0, e1, e2, e3, e4, e5, e6, e7, e8, e9, e10, e11⟩ := hSw; go_simp <;> with_reducible rfl)
                try simp only [Act.put, List.getElem_toArray, List.getElem_cons_zero, List.getElem_cons_succ, List.setIfInBounds_toArray, List.set_cons_zero, List.set_cons_succ]
                refine wpAnyH_take (i := 13) (v := ?vat123910x13) rfl (by kernel_rfl) (by kernel_rfl) (by kernel_rfl) (fun _ _ _ h => h) (Or.inl ⟨by rfl, ?hyt123910x13⟩) (by assumption) ?rat123910x13
                case hyt123910x13 => (intro wq hSw; (try dsimp only at hSw); obtain ⟨e0, e1, e2, e3, e4, e5, e6, e7, e8, e9, e10, e11⟩ := hSw; go_simp <;> with_reducible rfl)
                try simp only [Act.put, List.getElem_toArray, List.getElem_cons_zero, List.getElem_cons_succ, List.setIfInBounds_toArray, List.set_cons_zero, List.set_cons_succ]
                refine wpAnyH_take (i := 14) (v := ?vat123910x14) rfl (by kernel_rfl) (by kernel_rfl) (by kernel_rfl) (fun _ _ _ h => h) (Or.inl ⟨by rfl, ?hyt123910x14⟩) (by assumption) ?rat123910x14
                case hyt123910x14 => (intro wq hSw; (try dsimp only at hSw); obtain ⟨e0, e1, e2, e3, e4, e5, e6, e7, e8, e9, e10, e11⟩ := hSw; go_simp <;> with_reducible rfl)
                try simp only [Act.put, List.getElem_toArray, List.getElem_cons_zero, List.getElem_cons_succ, List.setIfInBounds_toArray, List.set_cons_zero, List.set_cons_succ]
                refine wpAnyH_take (i := 15) (v := ?vat123910x15) rfl (by kernel_rfl) (by kernel_rfl) (by kernel_rfl) (fun _ _ _ h => h) (Or.inl ⟨by rfl, ?hyt123910x15⟩) (by assumption) ?rat123910x15
                case hyt123910x15 => (intro wq hSw; (try dsimp only at hSw); obtain ⟨e0, e1, e2, e3, e4, e5, e6, e7, e8, e9, e10, e11⟩ := hSw; go_simp <;> with_reducible rfl)
                try simp only [Act.put, List.getElem_toArray, List.getElem_cons_zero, List.getElem_cons_succ, List.setIfInBounds_toArray, List.set_cons_zero, List.set_cons_succ]
                refine wpAnyH_take (i := 16) (v := ?vat123910x16) rfl (by kernel_rfl) (by kernel_rfl) (by kernel_rfl) (fun _ _ _ h => h) (Or.inl ⟨by rfl, ?hyt123910x16⟩) (by assumption) ?rat123910x16
                case hyt123910x16 => (intro wq hSw; (try dsimp only at hSw); obtain ⟨e0, e1, e2, e3, e4, e5, e6, e7, e8, e9, e10, e11⟩ := hSw; go_simp <;> with_reducible rfl)
                try simp only [Act.put, List.getElem_toArray, List.getElem_cons_zero, List.getElem_cons_succ, List.setIfInBounds_toArray, List.set_cons_zero, List.set_cons_succ]
                refine wpAnyH_ready (rs := [18]) (by kernel_rfl) (by simp) ?_
                refine (AllReadyH.cons rfl (fun K hK => ?_) AllReadyH.nil)
                · go_simp
                  have AL := hide (al v10 (.cells #[.int .i64 0, .int .i64 0, .slice none 0 0, .slice none 0 0, .int .i64 0] 25))
                  have LB : Hid (w1.heap.size ≤ v10.heap.size) := BB.out.size
                  have NE : Hid (gA ≠ v10.heap.size) := by have := (Array.getElem?_eq_some_iff.1 XA.out).1; show _ ≠ _; omega
                  replace HQ := hide (HQ.out.keep AL.out)
                  replace XA := hide (blk_keep XA.out AL.out)
                  replace BB := hide (bt BB.out AL.out)
                  have XB := hide (heap_alloc_new v10 (.cells #[.int .i64 0, .int .i64 0, .slice none 0 0, .slice none 0 0, .int .i64 0] 25))
                  refine hK.out _ _ (SS.out _ BB.out) (fun hHeld => ?_)
                  clear hK K AL
                  try simp only [Act.put, List.getElem_toArray, List.getElem_cons_zero, List.getElem_cons_succ, List.setIfInBounds_toArray, List.set_cons_zero, List.set_cons_succ]
                  generalize (v10.alloc (.cells #[.int .i64 0, .int .i64 0, .slice none 0 0, .slice none 0 0, .int .i64 0] 25)) = v11 at *
                  generalize v10.heap.size = gB at *
                  have hAne : w.heap.size ≠ gA := by have := LA.out; omega
                  have hBne : w.heap.size ≠ gB := by have := LB.out; omega
                  refine wpAnyH_ready (rs := [19]) (by kernel_rfl) (by simp) ?_
                  refine AllReadyH.cons rfl (fun K hK => ?_) AllReadyH.nil
                  rw [if_pos (by rfl)]
                  have XB1 := hide (row_far (W := v11) (g := gA) #[.int .i64 a.kind, .int .i64 a.level, .slice a.aI a.items.length a.cI, .slice a.aD a.data.length a.cD, .int .i64 a.next] XB.out (Ne.symm NE.out))
                  refine wp_store_row 25 _ _ rfl gA _ rfl rfl 25 _ XA.out sizePage rfl (by simp [Value.oneCell']) ?_
                  refine hK.out _ _ (cells12b (row_far _ (BX.out _ BB.out) hAne)) (fun hHeld => ?_)
                  clear hK K
                  try simp only [Act.put, List.getElem_toArray, List.getElem_cons_zero, List.getElem_cons_succ, List.setIfInBounds_toArray, List.set_cons_zero, List.set_cons_succ]
                  refine wpAnyH_ready (rs := [20]) (by kernel_rfl) (by simp) ?_
                  refine AllReadyH.cons rfl (fun K hK => ?_) AllReadyH.nil
                  rw [if_pos (by rfl)]
                  refine wp_store_row 25 _ _ rfl gB _ rfl rfl 25 _ XB1.out sizePage rfl (by simp [Value.oneCell']) ?_
                  refine hK.out _ _ (cells12b (row_far _ (row_far _ (BX.out _ BB.out) hAne) hBne)) (fun hHeld => ?_)
                  clear hK K
                  try simp only [Act.put, List.getElem_toArray, List.getElem_cons_zero, List.getElem_cons_succ, List.setIfInBounds_toArray, List.set_cons_zero, List.set_cons_succ]
                  refine wpAnyH_take (i := 21) (v := ?vat1239101121) rfl (by kernel_rfl) (by kernel_rfl) (by kernel_rfl) (fun _ _ _ h => h) (Or.inl ⟨by rfl, ?hyt1239101121⟩) (by assumption) ?rat1239101121
                  case hyt1239101121 => (intro wq hSw; (try dsimp only at hSw); obtain ⟨e0, e1, e2, e3, e4, e5, e6, e7, e8, e9, e10, e11⟩ := hSw; go_simp <;> with_reducible rfl)
                  try simp only [Act.put, List.getElem_toArray, List.getElem_cons_zero, List.getElem_cons_succ, List.setIfInBounds_toArray, List.set_cons_zero, List.set_cons_succ]
                  refine wpAnyH_take (i := 22) (v := ?vat1239101122) rfl (by kernel_rfl) (by kernel_rfl) (by kernel_rfl) (fun _ _ _ h => h) (Or.inl ⟨by rfl, ?hyt1239101122⟩) (by assumption) ?rat1239101122
                  case hyt1239101122 => (intro wq hSw; (try dsimp only at hSw); obtain ⟨e0, e1, e2, e3, e4, e5, e6, e7, e8, e9, e10, e11⟩ := hSw; go_simp <;> with_reducible rfl)
                  try simp only [Act.put, List.getElem_toArray, List.getElem_cons_zero, List.getElem_cons_succ, List.setIfInBounds_toArray, List.set_cons_zero, List.set_cons_succ]
                  refine wpAnyH_done (by kernel_rfl) ?_ _
                  clear hHeld
                  go_wp2_with fail
                  go_meet
                  case rel => exact ⟨gA, gB, a, b, aU, cU, rfl, rfl, rfl, rfl, ⟨row_far _ (setRow_heap _ _ _ _ _ _ XA.out) NE.out, setRow_heap _ _ _ _ _ _ XB1.out, (HQ.out.but (but_setRow _ gA _) (fun k hk => ⟨_, _, by subst hk; exact XA.out, by decide, by decide⟩) (below_row _ HQ.out.b LA.out)).but (but_setRow _ gB _) (fun k hk => ⟨_, _, by subst hk; exact XB1.out, by decide, by decide⟩) (below_row _ (below_row _ HQ.out.b LA.out) LB.out), EA.out, EB.out⟩⟩
              · go_simp
                have AL := hide (al v9 (.cells #[.int .i64 0, .int .i64 0, .slice none 0 0, .slice none 0 0, .int .i64 0] 25))
                have LB : Hid (w1.heap.size ≤ v9.heap.size) := BB.out.size
                have NE : Hid (gA ≠ v9.heap.size) := by have := (Array.getElem?_eq_some_iff.1 XA.out).1; show _ ≠ _; omega
                replace SX := hide (SX.out.keep AL.out)
                replace SY := hide (SY.out.keep AL.out)
                replace SK := hide (SK.out.keep AL.out)
                replace XA := hide (blk_keep XA.out AL.out)
                replace BB := hide (bt BB.out AL.out)
                have XB := hide (heap_alloc_new v9 (.cells #[.int .i64 0, .int .i64 0, .slice none 0 0, .slice none 0 0, .int .i64 0] 25))
                refine hK.out _ _ (SS.out _ BB.out) (fun hHeld => ?_)
                clear hK K AL
                try simp only [Act.put, List.getElem_toArray, List.getElem_cons_zero, List.getElem_cons_succ, List.setIfInBounds_toArray, List.set_cons_zero, List.set_cons_succ]
                generalize (v9.alloc (.cells #[.int .i64 0, .int .i64 0, .slice none 0 0, .slice none 0 0, .int .i64 0] 25)) = v12 at *
                generalize v9.heap.size = gB at *
                refine wpAnyH_ready (rs := [11]) (by kernel_rfl) (by simp) ?_
                refine (AllReadyH.cons rfl (fun K hK => ?_) AllReadyH.nil)
                · go_simp
                  refine (LN.out _ x y aK cK BB.out SX.out SY.out SK.out EX.out EY.out).mono ?_
                  rintro _ v13 ⟨a, b, aU, cU, rfl, hH, ha, hb2⟩
                  have hb := hH.b
                  have HQ := hide (hH.pre BB.out)
                  have EA := hide ha
                  have EB := hide hb2
                  clear SX SY SK
                  replace XA := hide (blk_keep XA.out hb)
                  replace XB := hide (blk_keep XB.out hb)
                  replace BB := hide (bt BB.out hb)
                  clear hH ha hb2 hb
                  go_wp2_with fail
                  refine hK.out _ _ (SS.out _ BB.out) (fun hHeld => ?_)
                  clear hK K
                  try simp only [Act.put, List.getElem_toArray, List.getElem_cons_zero, List.getElem_cons_succ, List.setIfInBounds_toArray, List.set_cons_zero, List.set_cons_succ]
                  refine wpAnyH_take (i := 12) (v := ?vat12391213x12) rfl (by kernel_rfl) (by kernel_rfl) (by kernel_rfl) (fun _ _ _ h => h) (Or.inl ⟨by rfl, ?hyt12391213x12⟩) (by assumption) ?rat12391213x12
                  case hyt12391213x12 => (intro wq hSw; (try dsimp only at hSw); obtain ⟨e0, e1, e2, e3, e4, e5, e6, e7, e8, e9, e10, e11⟩ := hSw; go_simp <;> with_reducible rfl)
                  try simp only [Act.put, List.getElem_toArray, List.getElem_cons_zero, List.getElem_cons_succ, List.setIfInBounds_toArray, List.set_cons_zero, List.set_cons_succ]
                  refine wpAnyH_take (i := 13) (v := ?vat12391213x13) rfl (by kernel_rfl) (by kernel_rfl) (by kernel_rfl) (fun _ _ _ h => h) (Or.inl ⟨by rfl, ?hyt12391213x13⟩) (by assumption) ?rat12391213x13
                  case hyt12391213x13 => (intro wq hSw; (try dsimp only at hSw); obtain ⟨e0, e1, e2, e3, e4, e5, e6, e7, e8, e9, e10, e11⟩ := hSw; go_simp <;> with_reducible rfl)
                  try simp only [Act.put, List.getElem_toArray, List.getElem_cons_zero, List.getElem_cons_succ, List.setIfInBounds_toArray, List.set_cons_zero, List.set_cons_succ]
                  refine wpAnyH_take (i := 14) (v := ?vat12391213x14) rfl (by kernel_rfl) (by kernel_rfl) (by kernel_rfl) (fun _ _ _ h => h) (Or.inl ⟨by rfl, ?hyt12391213x14⟩) (by assumption) ?rat12391213x14
                  case hyt12391213x14 => (intro wq hSw; (try dsimp only at hSw); obtain ⟨e0, e1, e2, e3, e4, e5, e6, e7, e8, e9, e10, e11⟩ := hSw; go_simp <;> with_reducible rfl)
                  try simp only [Act.put, List.getElem_toArray, List.getElem_cons_zero, List.getElem_cons_succ, List.setIfInBounds_toArray, List.set_cons_zero, List.set_cons_succ]
                  refine wpAnyH_take (i := 15) (v := ?vat12391213x15) rfl (by kernel_rfl) (by kernel_rfl) (by kernel_rfl) (fun _ _ _ h => h) (Or.inl ⟨by rfl, ?hyt12391213x15⟩) (by assumption) ?rat12391213x15
                  case hyt12391213x15 => (intro wq hSw; (try dsimp only at hSw); obtain ⟨e0, e1, e2, e3, e4, e5, e6, e7, e8, e9, e10, e11⟩ := hSw; go_simp <;> with_reducible rfl)
                  try simp only [Act.put, List.getElem_toArray, List.getElem_cons_zero, List.getElem_cons_succ, List.setIfInBounds_toArray, List.set_cons_zero, List.set_cons_succ]
                  refine wpAnyH_take (i := 16) (v := ?vat12391213x16) rfl (by kernel_rfl) (by kernel_rfl) (by kernel_rfl) (fun _ _ _ h => h) (Or.inl ⟨by rfl, ?hyt12391213x16⟩) (by assumption) ?rat12391213x16
                  case hyt12391213x16 => (intro wq hSw; (try dsimp only at hSw); obtain ⟨e0, e1, e2, e3, e4, e5, e6, e7, e8, e9, e10, e11⟩ := hSw; go_simp <;> with_reducible rfl)
                  try simp only [Act.put, List.getElem_toArray, List.getElem_cons_zero, List.getElem_cons_succ, List.setIfInBounds_toArray, List.set_cons_zero, List.set_cons_succ]
                  have hAne : w.heap.size ≠ gA := by have := LA.out; omega
                  have hBne : w.heap.size ≠ gB := by have := LB.out; omega
                  refine wpAnyH_ready (rs := [19]) (by kernel_rfl) (by simp) ?_
                  refine AllReadyH.cons rfl (fun K hK => ?_) AllReadyH.nil
                  rw [if_pos (by rfl)]
                  have XB1 := hide (row_far (W := v13) (g := gA) #[.int .i64 a.kind, .int .i64 a.level, .slice a.aI a.items.length a.cI, .slice a.aD a.data.length a.cD, .int .i64 a.next] XB.out (Ne.symm NE.out))
                  refine wp_store_row 25 _ _ rfl gA _ rfl rfl 25 _ XA.out sizePage rfl (by simp [Value.oneCell']) ?_
                  refine hK.out _ _ (cells12b (row_far _ (BX.out _ BB.out) hAne)) (fun hHeld => ?_)
                  clear hK K
                  try simp only [Act.put, List.getElem_toArray, List.getElem_cons_zero, List.getElem_cons_succ, List.setIfInBounds_toArray, List.set_cons_zero, List.set_cons_succ]
                  refine wpAnyH_ready (rs := [20]) (by kernel_rfl) (by simp) ?_
                  refine AllReadyH.cons rfl (fun K hK => ?_) AllReadyH.nil
                  rw [if_pos (by rfl)]
                  refine wp_store_row 25 _ _ rfl gB _ rfl rfl 25 _ XB1.out sizePage rfl (by simp [Value.oneCell']) ?_
                  refine hK.out _ _ (cells12b (row_far _ (row_far _ (BX.out _ BB.out) hAne) hBne)) (fun hHeld => ?_)
                  clear hK K
                  try simp only [Act.put, List.getElem_toArray, List.getElem_cons_zero, List.getElem_cons_succ, List.setIfInBounds_toArray, List.set_cons_zero, List.set_cons_succ]
                  refine wpAnyH_take (i := 21) (v := ?vat1239121321) rfl (by kernel_rfl) (by kernel_rfl) (by kernel_rfl) (fun _ _ _ h => h) (Or.inl ⟨by rfl, ?hyt1239121321⟩) (by assumption) ?rat1239121321
                  case hyt1239121321 => (intro wq hSw; (try dsimp only at hSw); obtain ⟨e0, e1, e2, e3, e4, e5, e6, e7, e8, e9, e10, e11⟩ := hSw; go_simp <;> with_reducible rfl)
                  try simp only [Act.put, List.getElem_toArray, List.getElem_cons_zero, List.getElem_cons_succ, List.setIfInBounds_toArray, List.set_cons_zero, List.set_cons_succ]
                  refine wpAnyH_take (i := 22) (v := ?vat1239121322) rfl (by kernel_rfl) (by kernel_rfl) (by kernel_rfl) (fun _ _ _ h => h) (Or.inl ⟨by rfl, ?hyt1239121322⟩) (by assumption) ?rat1239121322
                  case hyt1239121322 => (intro wq hSw; (try dsimp only at hSw); obtain ⟨e0, e1, e2, e3, e4, e5, e6, e7, e8, e9, e10, e11⟩ := hSw; go_simp <;> with_reducible rfl)
                  try simp only [Act.put, List.getElem_toArray, List.getElem_cons_zero, List.getElem_cons_succ, List.setIfInBounds_toArray, List.set_cons_zero, List.set_cons_succ]
                  refine wpAnyH_done (by kernel_rfl) ?_ _
                  clear hHeld
                  go_wp2_with fail
                  go_meet
                  case rel => exact ⟨gA, gB, a, b, aU, cU, rfl, rfl, rfl, rfl, ⟨row_far _ (setRow_heap _ _ _ _ _ _ XA.out) NE.out, setRow_heap _ _ _ _ _ _ XB1.out, (HQ.out.but (but_setRow _ gA _) (fun k hk => ⟨_, _, by subst hk; exact XA.out, by decide, by decide⟩) (below_row _ HQ.out.b LA.out)).but (but_setRow _ gB _) (fun k hk => ⟨_, _, by subst hk; exact XB1.out, by decide, by decide⟩) (below_row _ (below_row _ HQ.out.b LA.out) LB.out), EA.out, EB.out⟩⟩
            · go_simp
              have AL := hide (al v3 (.cells #[.int .i64 0, .int .i64 0, .slice none 0 0, .slice none 0 0, .int .i64 0] 25))
              have LB : Hid (w1.heap.size ≤ v3.heap.size) := BB.out.size
              replace SX := hide (SX.out.keep AL.out)
              replace SY := hide (SY.out.keep AL.out)
              replace SK := hide (SK.out.keep AL.out)
              replace BB := hide (bt BB.out AL.out)
              have XB := hide (heap_alloc_new v3 (.cells #[.int .i64 0, .int .i64 0, .slice none 0 0, .slice none 0 0, .int .i64 0] 25))
              refine hK.out _ _ (SS.out _ BB.out) (fun hHeld => ?_)
              clear hK K AL
              try simp only [Act.put, List.getElem_toArray, List.getElem_cons_zero, List.getElem_cons_succ, List.setIfInBounds_toArray, List.set_cons_zero, List.set_cons_succ]
              generalize (v3.alloc (.cells #[.int .i64 0, .int .i64 0, .slice none 0 0, .slice none 0 0, .int .i64 0] 25)) = v14 at *
              generalize v3.heap.size = gB at *
              refine wpAnyH_ready (rs := [11, 17]) (by kernel_rfl) (by simp) ?_
              refine (AllReadyH.cons rfl (fun K hK => ?_) (AllReadyH.cons rfl (fun K hK => ?_) AllReadyH.nil))
              · go_simp
                refine (LN.out _ x y aK cK BB.out SX.out SY.out SK.out EX.out EY.out).mono ?_
                rintro _ v15 ⟨a, b, aU, cU, rfl, hH, ha, hb2⟩
                have hb := hH.b
                have HQ := hide (hH.pre BB.out)
                have EA := hide ha
                have EB := hide hb2
                clear SX SY SK
                replace XB := hide (blk_keep XB.out hb)
                replace BB := hide (bt BB.out hb)
                clear hH ha hb2 hb
                go_wp2_with fail
                refine hK.out _ _ (SS.out _ BB.out) (fun hHeld => ?_)
                clear hK K
                try simp only [Act.put, List.getElem_toArray, List.getElem_cons_zero, List.getElem_cons_succ, List.setIfInBounds_toArray, List.set_cons_zero, List.set_cons_succ]
                refine wpAnyH_take (i := 12) (v := ?vat1231415x12) rfl (by kernel_rfl) (by kernel_rfl) (by kernel_rfl) (fun _ _ _ h => h) (Or.inl ⟨by rfl, ?hyt1231415x12⟩) (by assumption) ?rat1231415x12
                case hyt1231415x12 => (intro wq hSw; (try dsimp only at hSw); obtain ⟨e0, e1, e2, e3, e4, e5, e6, e7, e8, e9, e10, e11⟩ := hSw; go_simp <;> with_reducible rfl)
                try simp only [Act.put, List.getElem_toArray, List.getElem_cons_zero, List.getElem_cons_succ, List.setIfInBounds_toArray, List.set_cons_zero, List.set_cons_succ]
                refine wpAnyH_take (i := 13) (v := ?vat1231415x13) rfl (by kernel_rfl) (by kernel_rfl) (by kernel_rfl) (fun _ _ _ h => h) (Or.inl ⟨by rfl, ?hyt1231415x13⟩) (by assumption) ?rat1231415x13
                case hyt1231415x13 => (intro wq hSw; (try dsimp only at hSw); obtain ⟨e0, e1, e2, e3, e4, e5, e6, e7, e8, e9, e10, e11⟩ := hSw; go_simp <;> with_reducible rfl)
                try simp only [Act.put, List.getElem_toArray, List.getElem_cons_zero, List.getElem_cons_succ, List.setIfInBounds_toArray, List.set_cons_zero, List.set_cons_succ]
                refine wpAnyH_take (i := 14) (v := ?vat1231415x14) rfl (by kernel_rfl) (by kernel_rfl) (by kernel_rfl) (fun _ _ _ h => h) (Or.inl ⟨by rfl, ?hyt1231415x14⟩) (by assumption) ?rat1231415x14
                case hyt1231415x14 => (intro wq hSw; (try dsimp only at hSw); obtain ⟨e0, e1, e2, e3, e4, e5, e6, e7, e8, e9, e10, e11⟩ := hSw; go_simp <;> with_reducible rfl)
                try simp only [Act.put, List.getElem_toArray, List.getElem_cons_zero, List.getElem_cons_succ, List.setIfInBounds_toArray, List.set_cons_zero, List.set_cons_succ]
                refine wpAnyH_take (i := 15) (v := ?vat1231415x15) rfl (by kernel_rfl) (by kernel_rfl) (by kernel_rfl) (fun _ _ _ h => h) (Or.inl ⟨by rfl, ?hyt1231415x15⟩) (by assumption) ?rat1231415x15
                case hyt1231415x15 => (intro wq hSw; (try dsimp only at hSw); obtain ⟨e0, e1, e2, e3, e4, e5, e6, e7, e8, e9, e10, e11⟩ := hSw; go_simp <;> with_reducible rfl)
                try simp only [Act.put, List.getElem_toArray, List.getElem_cons_zero, List.getElem_cons_succ, List.setIfInBounds_toArray, List.set_cons_zero, List.set_cons_succ]
                refine wpAnyH_take (i := 16) (v := ?vat1231415x16) rfl (by kernel_rfl) (by kernel_rfl) (by kernel_rfl) (fun _ _ _ h => h) (Or.inl ⟨by rfl, ?hyt1231415x16⟩) (by assumption) ?rat1231415x16
                case hyt1231415x16 => (intro wq hSw; (try dsimp only at hSw); obtain ⟨e0, e1, e2, e3, e4, e5, e6, e7, e8, e9, e10, e11⟩ := hSw; go_simp <;> with_reducible rfl)
                try simp only [Act.put, List.getElem_toArray, List.getElem_cons_zero, List.getElem_cons_succ, List.setIfInBounds_toArray, List.set_cons_zero, List.set_cons_succ]
                refine wpAnyH_ready (rs := [17]) (by kernel_rfl) (by simp) ?_
                refine (AllReadyH.cons rfl (fun K hK => ?_) AllReadyH.nil)
                · go_simp
                  have AL := hide (al v15 (.cells #[.int .i64 0, .int .i64 0, .slice none 0 0, .slice none 0 0, .int .i64 0] 25))
                  have LA : Hid (w1.heap.size ≤ v15.heap.size) := BB.out.size
                  have NE : Hid (v15.heap.size ≠ gB) := by have := (Array.getElem?_eq_some_iff.1 XB.out).1; show _ ≠ _; omega
                  replace HQ := hide (HQ.out.keep AL.out)
                  replace XB := hide (blk_keep XB.out AL.out)
                  replace BB := hide (bt BB.out AL.out)
                  have XA := hide (heap_alloc_new v15 (.cells #[.int .i64 0, .int .i64 0, .slice none 0 0, .slice none 0 0, .int .i64 0] 25))
                  refine hK.out _ _ (SS.out _ BB.out) (fun hHeld => ?_)
                  clear hK K AL
                  try simp only [Act.put, List.getElem_toArray, List.getElem_cons_zero, List.getElem_cons_succ, List.setIfInBounds_toArray, List.set_cons_zero, List.set_cons_succ]
                  generalize (v15.alloc (.cells #[.int .i64 0, .int .i64 0, .slice none 0 0, .slice none 0 0, .int .i64 0] 25)) = v16 at *
                  generalize v15.heap.size = gA at *
                  have hAne : w.heap.size ≠ gA := by have := LA.out; omega
                  have hBne : w.heap.size ≠ gB := by have := LB.out; omega
                  refine wpAnyH_ready (rs := [19]) (by kernel_rfl) (by simp) ?_
                  refine AllReadyH.cons rfl (fun K hK => ?_) AllReadyH.nil
                  rw [if_pos (by rfl)]
                  have XB1 := hide (row_far (W := v16) (g := gA) #[.int .i64 a.kind, .int .i64 a.level, .slice a.aI a.items.length a.cI, .slice a.aD a.data.length a.cD, .int .i64 a.next] XB.out (Ne.symm NE.out))
                  refine wp_store_row 25 _ _ rfl gA _ rfl rfl 25 _ XA.out sizePage rfl (by simp [Value.oneCell']) ?_
                  refine hK.out _ _ (cells12b (row_far _ (BX.out _ BB.out) hAne)) (fun hHeld => ?_)
                  clear hK K
                  try simp only [Act.put, List.getElem_toArray, List.getElem_cons_zero, List.getElem_cons_succ, List.setIfInBounds_toArray, List.set_cons_zero, List.set_cons_succ]
                  refine wpAnyH_ready (rs := [20]) (by kernel_rfl) (by simp) ?_
                  refine AllReadyH.cons rfl (fun K hK => ?_) AllReadyH.nil
                  rw [if_pos (by rfl)]
                  refine wp_store_row 25 _ _ rfl gB _ rfl rfl 25 _ XB1.out sizePage rfl (by simp [Value.oneCell']) ?_
                  refine hK.out _ _ (cells12b (row_far _ (row_far _ (BX.out _ BB.out) hAne) hBne)) (fun hHeld => ?_)
                  clear hK K
                  try simp only [Act.put, List.getElem_toArray, List.getElem_cons_zero, List.getElem_cons_succ, List.setIfInBounds_toArray, List.set_cons_zero, List.set_cons_succ]
                  refine wpAnyH_take (i := 21) (v := ?vat12314151621) rfl (by kernel_rfl) (by kernel_rfl) (by kernel_rfl) (fun _ _ _ h => h) (Or.inl ⟨by rfl, ?hyt12314151621⟩) (by assumption) ?rat12314151621
                  case hyt12314151621 => (intro wq hSw; (try dsimp only at hSw); obtain ⟨e0, e1, e2, e3, e4, e5, e6, e7, e8, e9, e10, e11⟩ := hSw; go_simp <;> with_reducible rfl)
                  try simp only [Act.put, List.getElem_toArray, List.getElem_cons_zero, List.getElem_cons_succ, List.setIfInBounds_toArray, List.set_cons_zero, List.set_cons_succ]
                  refine wpAnyH_take (i := 22) (v := ?vat12314151622) rfl (by kernel_rfl) (by kernel_rfl) (by kernel_rfl) (fun _ _ _ h => h) (Or.inl ⟨by rfl, ?hyt12314151622⟩) (by assumption) ?rat12314151622
                  case hyt12314151622 => (intro wq hSw; (try dsimp only at hSw); obtain ⟨e0, e1, e2, e3, e4, e5, e6, e7, e8, e9, e10, e11⟩ := hSw; go_simp <;> with_reducible rfl)
                  try simp only [Act.put, List.getElem_toArray, List.getElem_cons_zero, List.getElem_cons_succ, List.setIfInBounds_toArray, List.set_cons_zero, List.set_cons_succ]
                  refine wpAnyH_done (by kernel_rfl) ?_ _
                  clear hHeld
                  go_wp2_with fail
                  go_meet
                  case rel => exact ⟨gA, gB, a, b, aU, cU, rfl, rfl, rfl, rfl, ⟨row_far _ (setRow_heap _ _ _ _ _ _ XA.out) NE.out, setRow_heap _ _ _ _ _ _ XB1.out, (HQ.out.but (but_setRow _ gA _) (fun k hk => ⟨_, _, by subst hk; exact XA.out, by decide, by decide⟩) (below_row _ HQ.out.b LA.out)).but (but_setRow _ gB _) (fun k hk => ⟨_, _, by subst hk; exact XB1.out, by decide, by decide⟩) (below_row _ (below_row _ HQ.out.b LA.out) LB.out), EA.out, EB.out⟩⟩
              · go_simp
                have AL := hide (al v14 (.cells #[.int .i64 0, .int .i64 0, .slice none 0 0, .slice none 0 0, .int .i64 0] 25))
                have LA : Hid (w1.heap.size ≤ v14.heap.size) := BB.out.size
                have NE : Hid (v14.heap.size ≠ gB) := by have := (Array.getElem?_eq_some_iff.1 XB.out).1; show _ ≠ _; omega
                replace SX := hide (SX.out.keep AL.out)
                replace SY := hide (SY.out.keep AL.out)
                replace SK := hide (SK.out.keep AL.out)
                replace XB := hide (blk_keep XB.out AL.out)
                replace BB := hide (bt BB.out AL.out)
                have XA := hide (heap_alloc_new v14 (.cells #[.int .i64 0, .int .i64 0, .slice none 0 0, .slice none 0 0, .int .i64 0] 25))
                refine hK.out _ _ (SS.out _ BB.out) (fun hHeld => ?_)
                clear hK K AL
                try simp only [Act.put, List.getElem_toArray, List.getElem_cons_zero, List.getElem_cons_succ, List.setIfInBounds_toArray, List.set_cons_zero, List.set_cons_succ]
                generalize (v14.alloc (.cells #[.int .i64 0, .int .i64 0, .slice none 0 0, .slice none 0 0, .int .i64 0] 25)) = v17 at *
                generalize v14.heap.size = gA at *
                refine wpAnyH_ready (rs := [11]) (by kernel_rfl) (by simp) ?_
                refine (AllReadyH.cons rfl (fun K hK => ?_) AllReadyH.nil)
                · go_simp
                  refine (LN.out _ x y aK cK BB.out SX.out SY.out SK.out EX.out EY.out).mono ?_
                  rintro _ v18 ⟨a, b, aU, cU, rfl, hH, ha, hb2⟩
                  have hb := hH.b
                  have HQ := hide (hH.pre BB.out)
                  have EA := hide ha
                  have EB := hide hb2
                  clear SX SY SK
                  replace XA := hide (blk_keep XA.out hb)
                  replace XB := hide (blk_keep XB.out hb)
                  replace BB := hide (bt BB.out hb)
                  clear hH ha hb2 hb
                  go_wp2_with fail
                  refine hK.out _ _ (SS.out _ BB.out) (fun hHeld => ?_)
                  clear hK K
                  try simp only [Act.put, List.getElem_toArray, List.getElem_cons_zero, List.getElem_cons_succ, List.setIfInBounds_toArray, List.set_cons_zero, List.set_cons_succ]
                  refine wpAnyH_take (i := 12) (v := ?vat123141718x12) rfl (by kernel_rfl) (by kernel_rfl) (by kernel_rfl) (fun _ _ _ h => h) (Or.inl ⟨by rfl, ?hyt123141718x12⟩) (by assumption) ?rat123141718x12
                  case hyt123141718x12 => (intro wq hSw; (try dsimp only at hSw); obtain ⟨e0, e1, e2, e3, e4, e5, e6, e7, e8, e9, e10, e11⟩ := hSw; go_simp <;> with_reducible rfl)
                  try simp only [Act.put, List.getElem_toArray, List.getElem_cons_zero, List.getElem_cons_succ, List.setIfInBounds_toArray, List.set_cons_zero, List.set_cons_succ]
                  refine wpAnyH_take (i := 13) (v := ?vat123141718x13) rfl (by kernel_rfl) (by kernel_rfl) (by kernel_rfl) (fun _ _ _ h => h) (Or.inl ⟨by rfl, ?hyt123141718x13⟩) (by assumption) ?rat123141718x13
                  case hyt123141718x13 => (intro wq hSw; (try dsimp only at hSw); obtain ⟨e0, e1, e2, e3, e4, e5, e6, e7, e8, e9, e10, e11⟩ := hSw; go_simp <;> with_reducible rfl)
                  try simp only [Act.put, List.getElem_toArray, List.getElem_cons_zero, List.getElem_cons_succ, List.setIfInBounds_toArray, List.set_cons_zero, List.set_cons_succ]
                  refine wpAnyH_take (i := 14) (v := ?vat123141718x14) rfl (by kernel_rfl) (by kernel_rfl) (by kernel_rfl) (fun _ _ _ h => h) (Or.inl ⟨by rfl, ?hyt123141718x14⟩) (by assumption) ?rat123141718x14
                  case hyt123141718x14 => (intro wq hSw; (try dsimp only at hSw); obtain ⟨e0, e1, e2, e3, e4, e5, e6, e7, e8, e9, e10, e11⟩ := hSw; go_simp <;> with_reducible rfl)
                  try simp only [Act.put, List.getElem_toArray, List.getElem_cons_zero, List.getElem_cons_succ, List.setIfInBounds_toArray, List.set_cons_zero, List.set_cons_succ]
                  refine wpAnyH_take (i := 15) (v := ?vat123141718x15) rfl (by kernel_rfl) (by kernel_rfl) (by kernel_rfl) (fun _ _ _ h => h) (Or.inl ⟨by rfl, ?hyt123141718x15⟩) (by assumption) ?rat123141718x15
                  case hyt123141718x15 => (intro wq hSw; (try dsimp only at hSw); obtain ⟨e0, e1, e2, e3, e4, e5, e6, e7, e8, e9, e10, e11⟩ := hSw; go_simp <;> with_reducible rfl)
                  try simp only [Act.put, List.getElem_toArray, List.getElem_cons_zero, List.getElem_cons_succ, List.setIfInBounds_toArray, List.set_cons_zero, List.set_cons_succ]
                  refine wpAnyH_take (i := 16) (v := ?vat123141718x16) rfl (by kernel_rfl) (by kernel_rfl) (by kernel_rfl) (fun _ _ _ h => h) (Or.inl ⟨by rfl, ?hyt123141718x16⟩) (by assumption) ?rat123141718x16
                  case hyt123141718x16 => (intro wq hSw; (try dsimp only at hSw); obtain ⟨e0, e1, e2, e3, e4, e5, e6, e7, e8, e9, e10, e11⟩ := hSw; go_simp <;> with_reducible rfl)
                  try simp only [Act.put, List.getElem_toArray, List.getElem_cons_zero, List.getElem_cons_succ, List.setIfInBounds_toArray, List.set_cons_zero, List.set_cons_succ]
                  have hAne : w.heap.size ≠ gA := by have := LA.out; omega
                  have hBne : w.heap.size ≠ gB := by have := LB.out; omega
                  refine wpAnyH_ready (rs := [19]) (by kernel_rfl) (by simp) ?_
                  refine AllReadyH.cons rfl (fun K hK => ?_) AllReadyH.nil
                  rw [if_pos (by rfl)]
                  have XB1 := hide (row_far (W := v18) (g := gA) #[.int .i64 a.kind, .int .i64 a.level, .slice a.aI a.items.length a.cI, .slice a.aD a.data.length a.cD, .int .i64 a.next] XB.out (Ne.symm NE.out))
                  refine wp_store_row 25 _ _ rfl gA _ rfl rfl 25 _ XA.out sizePage rfl (by simp [Value.oneCell']) ?_
                  refine hK.out _ _ (cells12b (row_far _ (BX.out _ BB.out) hAne)) (fun hHeld => ?_)
                  clear hK K
                  try simp only [Act.put, List.getElem_toArray, List.getElem_cons_zero, List.getElem_cons_succ, List.setIfInBounds_toArray, List.set_cons_zero, List.set_cons_succ]
                  refine wpAnyH_ready (rs := [20]) (by kernel_rfl) (by simp) ?_
                  refine AllReadyH.cons rfl (fun K hK => ?_) AllReadyH.nil
                  rw [if_pos (by rfl)]
                  refine wp_store_row 25 _ _ rfl gB _ rfl rfl 25 _ XB1.out sizePage rfl (by simp [Value.oneCell']) ?_
                  refine hK.out _ _ (cells12b (row_far _ (row_far _ (BX.out _ BB.out) hAne) hBne)) (fun hHeld => ?_)
                  clear hK K
                  try simp only [Act.put, List.getElem_toArray, List.getElem_cons_zero, List.getElem_cons_succ, List.setIfInBounds_toArray, List.set_cons_zero, List.set_cons_succ]
                  refine wpAnyH_take (i := 21) (v := ?vat12314171821) rfl (by kernel_rfl) (by kernel_rfl) (by kernel_rfl) (fun _ _ _ h => h) (Or.inl ⟨by rfl, ?hyt12314171821⟩) (by assumption) ?rat12314171821
                  case hyt12314171821 => (intro wq hSw; (try dsimp only at hSw); obtain ⟨e0, e1, e2, e3, e4, e5, e6, e7, e8, e9, e10, e11⟩ := hSw; go_simp <;> with_reducible rfl)
                  try simp only [Act.put, List.getElem_toArray, List.getElem_cons_zero, List.getElem_cons_succ, List.setIfInBounds_toArray, List.set_cons_zero, List.set_cons_succ]
                  refine wpAnyH_take (i := 22) (v := ?vat12314171822) rfl (by kernel_rfl) (by kernel_rfl) (by kernel_rfl) (fun _ _ _ h => h) (Or.inl ⟨by rfl, ?hyt12314171822⟩) (by assumption) ?rat12314171822
                  case hyt12314171822 => (intro wq hSw; (try dsimp only at hSw); obtain ⟨e0, e1, e2, e3, e4, e5, e6, e7, e8, e9, e10, e11⟩ := hSw; go_simp <;> with_reducible rfl)
                  try simp only [Act.put, List.getElem_toArray, List.getElem_cons_zero, List.getElem_cons_succ, List.setIfInBounds_toArray, List.set_cons_zero, List.set_cons_succ]
                  refine wpAnyH_done (by kernel_rfl) ?_ _
                  clear hHeld
                  go_wp2_with fail
                  go_meet
                  case rel => exact ⟨gA, gB, a, b, aU, cU, rfl, rfl, rfl, rfl, ⟨row_far _ (setRow_heap _ _ _ _ _ _ XA.out) NE.out, setRow_heap _ _ _ _ _ _ XB1.out, (HQ.out.but (but_setRow _ gA _) (fun k hk => ⟨_, _, by subst hk; exact XA.out, by decide, by decide⟩) (below_row _ HQ.out.b LA.out)).but (but_setRow _ gB _) (fun k hk => ⟨_, _, by subst hk; exact XB1.out, by decide, by decide⟩) (below_row _ (below_row _ HQ.out.b LA.out) LB.out), EA.out, EB.out⟩⟩
          · go_simp
            have AL := hide (al v2 (.cells #[.int .i64 0, .int .i64 0, .slice none 0 0, .slice none 0 0, .int .i64 0] 25))
            have LA : Hid (w1.heap.size ≤ v2.heap.size) := BB.out.size
            replace SX := hide (SX.out.keep AL.out)
            replace SY := hide (SY.out.keep AL.out)
            replace BB := hide (bt BB.out AL.out)
            have XA := hide (heap_alloc_new v2 (.cells #[.int .i64 0, .int .i64 0, .slice none 0 0, .slice none 0 0, .int .i64 0] 25))
            refine hK.out _ _ (SS.out _ BB.out) (fun hHeld => ?_)
            clear hK K AL
            try simp only [Act.put, List.getElem_toArray, List.getElem_cons_zero, List.getElem_cons_succ, List.setIfInBounds_toArray, List.set_cons_zero, List.set_cons_succ]
            generalize (v2.alloc (.cells #[.int .i64 0, .int .i64 0, .slice none 0 0, .slice none 0 0, .int .i64 0] 25)) = v19 at *
            generalize v2.heap.size = gA at *
            refine wpAnyH_ready (rs := [8, 18]) (by kernel_rfl) (by simp) ?_
            refine (AllReadyH.cons rfl (fun K hK => ?_) (AllReadyH.cons rfl (fun K hK => ?_) AllReadyH.nil))
            · go_simp
              refine (SP3.out _ BB.out).mono ?_
              rintro _ v20 ⟨aK, cK, rfl, hO⟩
              have hb := hO.b
              have SK := hide hO.r
              replace SX := hide (SX.out.keep hb)
              replace SY := hide (SY.out.keep hb)
              replace XA := hide (blk_keep XA.out hb)
              replace BB := hide (bt BB.out hb)
              clear hO hb
              go_wp2_with fail
              refine hK.out _ _ (SS.out _ BB.out) (fun hHeld => ?_)
              clear hK K
              try simp only [Act.put, List.getElem_toArray, List.getElem_cons_zero, List.getElem_cons_succ, List.setIfInBounds_toArray, List.set_cons_zero, List.set_cons_succ]
              refine wpAnyH_ready (rs := [11, 18]) (by kernel_rfl) (by simp) ?_
              refine (AllReadyH.cons rfl (fun K hK => ?_) (AllReadyH.cons rfl (fun K hK => ?_) AllReadyH.nil))
              · go_simp
                refine (LN.out _ x y aK cK BB.out SX.out SY.out SK.out EX.out EY.out).mono ?_
                rintro _ v21 ⟨a, b, aU, cU, rfl, hH, ha, hb2⟩
                have hb := hH.b
                have HQ := hide (hH.pre BB.out)
                have EA := hide ha
                have EB := hide hb2
                clear SX SY SK
                replace XA := hide (blk_keep XA.out hb)
                replace BB := hide (bt BB.out hb)
                clear hH ha hb2 hb
                go_wp2_with fail
                refine hK.out _ _ (SS.out _ BB.out) (fun hHeld => ?_)
                clear hK K
                try simp only [Act.put, List.getElem_toArray, List.getElem_cons_zero, List.getElem_cons_succ, List.setIfInBounds_toArray, List.set_cons_zero, List.set_cons_succ]
                refine wpAnyH_take (i := 12) (v := ?vat12192021x12) rfl (by kernel_rfl) (by kernel_rfl) (by kernel_rfl) (fun _ _ _ h => h) (Or.inl ⟨by rfl, ?hyt12192021x12⟩) (by assumption) ?rat12192021x12
                case hyt12192021x12 => (intro wq hSw; (try dsimp only at hSw); obtain ⟨e0, e1, e2, e3, e4, e5, e6, e7, e8, e9, e10, e11⟩ := hSw; go_simp <;> with_reducible rfl)
                try simp only [Act.put, List.getElem_toArray, List.getElem_cons_zero, List.getElem_cons_succ, List.setIfInBounds_toArray, List.set_cons_zero, List.set_cons_succ]
                refine wpAnyH_take (i := 13) (v := ?vat12192021x13) rfl (by kernel_rfl) (by kernel_rfl) (by kernel_rfl) (fun _ _ _ h => h) (Or.inl ⟨by rfl, ?hyt12192021x13⟩) (by assumption) ?rat12192021x13
                case hyt12192021x13 => (intro wq hSw; (try dsimp only at hSw); obtain ⟨e0, e1, e2, e3, e4, e5, e6, e7, e8, e9, e10, e11⟩ := hSw; go_simp <;> with_reducible rfl)
                try simp only [Act.put, List.getElem_toArray, List.getElem_cons_zero, List.getElem_cons_succ, List.setIfInBounds_toArray, List.set_cons_zero, List.set_cons_succ]
                refine wpAnyH_take (i := 14) (v := ?vat12192021x14) rfl (by kernel_rfl) (by kernel_rfl) (by kernel_rfl) (fun _ _ _ h => h) (Or.inl ⟨by rfl, ?hyt12192021x14⟩) (by assumption) ?rat12192021x14
                case hyt12192021x14 => (intro wq hSw; (try dsimp only at hSw); obtain ⟨e0, e1, e2, e3, e4, e5, e6, e7, e8, e9, e10, e11⟩ := hSw; go_simp <;> with_reducible rfl)
                try simp only [Act.put, List.getElem_toArray, List.getElem_cons_zero, List.getElem_cons_succ, List.setIfInBounds_toArray, List.set_cons_zero, List.set_cons_succ]
                refine wpAnyH_take (i := 15) (v := ?vat12192021x15) rfl (by kernel_rfl) (by kernel_rfl) (by kernel_rfl) (fun _ _ _ h => h) (Or.inl ⟨by rfl, ?hyt12192021x15⟩) (by assumption) ?rat12192021x15
                case hyt12192021x15 => (intro wq hSw; (try dsimp only at hSw); obtain ⟨e0, e1, e2, e3, e4, e5, e6, e7, e8, e9, e10, e11⟩ := hSw; go_simp <;> with_reducible rfl)
                try simp only [Act.put, List.getElem_toArray, List.getElem_cons_zero, List.getElem_cons_succ, List.setIfInBounds_toArray, List.set_cons_zero, List.set_cons_succ]
                refine wpAnyH_take (i := 16) (v := ?vat12192021x16) rfl (by kernel_rfl) (by kernel_rfl) (by kernel_rfl) (fun _ _ _ h => h) (Or.inl ⟨by rfl, ?hyt12192021x16⟩) (by assumption) ?rat12192021x16
                case hyt12192021x16 => (intro wq hSw; (try dsimp only at hSw); obtain ⟨e0, e1, e2, e3, e4, e5, e6, e7, e8, e9, e10, e11⟩ := hSw; go_simp <;> with_reducible rfl)
                try simp only [Act.put, List.getElem_toArray, List.getElem_cons_zero, List.getElem_cons_succ, List.setIfInBounds_toArray, List.set_cons_zero, List.set_cons_succ]
                refine wpAnyH_ready (rs := [18]) (by kernel_rfl) (by simp) ?_
                refine (AllReadyH.cons rfl (fun K hK => ?_) AllReadyH.nil)
                · go_simp
                  have AL := hide (al v21 (.cells #[.int .i64 0, .int .i64 0, .slice none 0 0, .slice none 0 0, .int .i64 0] 25))
                  have LB : Hid (w1.heap.size ≤ v21.heap.size) := BB.out.size
                  have NE : Hid (gA ≠ v21.heap.size) := by have := (Array.getElem?_eq_some_iff.1 XA.out).1; show _ ≠ _; omega
                  replace HQ := hide (HQ.out.keep AL.out)
                  replace XA := hide (blk_keep XA.out AL.out)
                  replace BB := hide (bt BB.out AL.out)
                  have XB := hide (heap_alloc_new v21 (.cells #[.int .i64 0, .int .i64 0, .slice none 0 0, .slice none 0 0, .int .i64 0] 25))
                  refine hK.out _ _ (SS.out _ BB.out) (fun hHeld => ?_)
                  clear hK K AL
                  try simp only [Act.put, List.getElem_toArray, List.getElem_cons_zero, List.getElem_cons_succ, List.setIfInBounds_toArray, List.set_cons_zero, List.set_cons_succ]
                  generalize (v21.alloc (.cells #[.int .i64 0, .int .i64 0, .slice none 0 0, .slice none 0 0, .int .i64 0] 25)) = v22 at *
                  generalize v21.heap.size = gB at *
                  have hAne : w.heap.size ≠ gA := by have := LA.out; omega
                  have hBne : w.heap.size ≠ gB := by have := LB.out; omega
                  refine wpAnyH_ready (rs := [19]) (by kernel_rfl) (by simp) ?_
                  refine AllReadyH.cons rfl (fun K hK => ?_) AllReadyH.nil
                  rw [if_pos (by rfl)]
                  have XB1 := hide (row_far (W := v22) (g := gA) #[.int .i64 a.kind, .int .i64 a.level, .slice a.aI a.items.length a.cI, .slice a.aD a.data.length a.cD, .int .i64 a.next] XB.out (Ne.symm NE.out))
                  refine wp_store_row 25 _ _ rfl gA _ rfl rfl 25 _ XA.out sizePage rfl (by simp [Value.oneCell']) ?_
                  refine hK.out _ _ (cells12b (row_far _ (BX.out _ BB.out) hAne)) (fun hHeld => ?_)
                  clear hK K
                  try simp only [Act.put, List.getElem_toArray, List.getElem_cons_zero, List.getElem_cons_succ, List.setIfInBounds_toArray, List.set_cons_zero, List.set_cons_succ]
                  refine wpAnyH_ready (rs := [20]) (by kernel_rfl) (by simp) ?_
                  refine AllReadyH.cons rfl (fun K hK => ?_) AllReadyH.nil
                  rw [if_pos (by rfl)]
                  refine wp_store_row 25 _ _ rfl gB _ rfl rfl 25 _ XB1.out sizePage rfl (by simp [Value.oneCell']) ?_
                  refine hK.out _ _ (cells12b (row_far _ (row_far _ (BX.out _ BB.out) hAne) hBne)) (fun hHeld => ?_)
                  clear hK K
                  try simp only [Act.put, List.getElem_toArray, List.getElem_cons_zero, List.getElem_cons_succ, List.setIfInBounds_toArray, List.set_cons_zero, List.set_cons_succ]
                  refine wpAnyH_take (i := 21) (v := ?vat121920212221) rfl (by kernel_rfl) (by kernel_rfl) (by kernel_rfl) (fun _ _ _ h => h) (Or.inl ⟨by rfl, ?hyt121920212221⟩) (by assumption) ?rat121920212221
                  case hyt121920212221 => (intro wq hSw; (try dsimp only at hSw); obtain ⟨e0, e1, e2, e3, e4, e5, e6, e7, e8, e9, e10, e11⟩ := hSw; go_simp <;> with_reducible rfl)
                  try simp only [Act.put, List.getElem_toArray, List.getElem_cons_zero, List.getElem_cons_succ, List.setIfInBounds_toArray, List.set_cons_zero, List.set_cons_succ]
                  refine wpAnyH_take (i := 22) (v := ?vat121920212222) rfl (by kernel_rfl) (by kernel_rfl) (by kernel_rfl) (fun _ _ _ h => h) (Or.inl ⟨by rfl, ?hyt121920212222⟩) (by assumption) ?rat121920212222
                  case hyt121920212222 => (intro wq hSw; (try dsimp only at hSw); obtain ⟨e0, e1, e2, e3, e4, e5, e6, e7, e8, e9, e10, e11⟩ := hSw; go_simp <;> with_reducible rfl)
                  try simp only [Act.put, List.getElem_toArray, List.getElem_cons_zero, List.getElem_cons_succ, List.setIfInBounds_toArray, List.set_cons_zero, List.set_cons_succ]
                  refine wpAnyH_done (by kernel_rfl) ?_ _
                  clear hHeld
                  go_wp2_with fail
                  go_meet
                  case rel => exact ⟨gA, gB, a, b, aU, cU, rfl, rfl, rfl, rfl, ⟨row_far _ (setRow_heap _ _ _ _ _ _ XA.out) NE.out, setRow_heap _ _ _ _ _ _ XB1.out, (HQ.out.but (but_setRow _ gA _) (fun k hk => ⟨_, _, by subst hk; exact XA.out, by decide, by decide⟩) (below_row _ HQ.out.b LA.out)).but (but_setRow _ gB _) (fun k hk => ⟨_, _, by subst hk; exact XB1.out, by decide, by decide⟩) (below_row _ (below_row _ HQ.out.b LA.out) LB.out), EA.out, EB.out⟩⟩
              · go_simp
                have AL := hide (al v20 (.cells #[.int .i64 0, .int .i64 0, .slice none 0 0, .slice none 0 0, .int .i64 0] 25))
                have LB : Hid (w1.heap.size ≤ v20.heap.size) := BB.out.size
                have NE : Hid (gA ≠ v20.heap.size) := by have := (Array.getElem?_eq_some_iff.1 XA.out).1; show _ ≠ _; omega
                replace SX := hide (SX.out.keep AL.out)
                replace SY := hide (SY.out.keep AL.out)
                replace SK := hide (SK.out.keep AL.out)
                replace XA := hide (blk_keep XA.out AL.out)
                replace BB := hide (bt BB.out AL.out)
                have XB := hide (heap_alloc_new v20 (.cells #[.int .i64 0, .int .i64 0, .slice none 0 0, .slice none 0 0, .int .i64 0] 25))
                refine hK.out _ _ (SS.out _ BB.out) (fun hHeld => ?_)
                clear hK K AL
                try simp only [Act.put, List.getElem_toArray, List.getElem_cons_zero, List.getElem_cons_succ, List.setIfInBounds_toArray, List.set_cons_zero, List.set_cons_succ]
                generalize (v20.alloc (.cells #[.int .i64 0, .int .i64 0, .slice none 0 0, .slice none 0 0, .int .i64 0] 25)) = v23 at *
                generalize v20.heap.size = gB at *
                refine wpAnyH_ready (rs := [11]) (by kernel_rfl) (by simp) ?_
                refine (AllReadyH.cons rfl (fun K hK => ?_) AllReadyH.nil)
                · go_simp
                  refine (LN.out _ x y aK cK BB.out SX.out SY.out SK.out EX.out EY.out).mono ?_
                  rintro _ v24 ⟨a, b, aU, cU, rfl, hH, ha, hb2⟩
                  have hb := hH.b
                  have HQ := hide (hH.pre BB.out)
                  have EA := hide ha
                  have EB := hide hb2
                  clear SX SY SK
                  replace XA := hide (blk_keep XA.out hb)
                  replace XB := hide (blk_keep XB.out hb)
                  replace BB := hide (bt BB.out hb)
                  clear hH ha hb2 hb
                  go_wp2_with fail
                  refine hK.out _ _ (SS.out _ BB.out) (fun hHeld => ?_)
                  clear hK K
                  try simp only [Act.put, List.getElem_toArray, List.getElem_cons_zero, List.getElem_cons_succ, List.setIfInBounds_toArray, List.set_cons_zero, List.set_cons_succ]
                  refine wpAnyH_take (i := 12) (v := ?vat1219202324x12) rfl (by kernel_rfl) (by kernel_rfl) (by kernel_rfl) (fun _ _ _ h => h) (Or.inl ⟨by rfl, ?hyt1219202324x12⟩) (by assumption) ?rat1219202324x12
                  case hyt1219202324x12 => (intro wq hSw; (try dsimp only at hSw); obtain ⟨e0, e1, e2, e3, e4, e5, e6, e7, e8, e9, e10, e11⟩ := hSw; go_simp <;> with_reducible rfl)
                  try simp only [Act.put, List.getElem_toArray, List.getElem_cons_zero, List.getElem_cons_succ, List.setIfInBounds_toArray, List.set_cons_zero, List.set_cons_succ]
                  refine wpAnyH_take (i := 13) (v := ?vat1219202324x13) rfl (by kernel_rfl) (by kernel_rfl) (by kernel_rfl) (fun _ _ _ h => h) (Or.inl ⟨by rfl, ?hyt1219202324x13⟩) (by assumption) ?rat1219202324x13
                  case hyt1219202324x13 => (intro wq hSw; (try dsimp only at hSw); obtain ⟨e0, e1, e2, e3, e4, e5, e6, e7, e8, e9, e10, e11⟩ := hSw; go_simp <;> with_reducible rfl)
                  try simp only [Act.put, List.getElem_toArray, List.getElem_cons_zero, List.getElem_cons_succ, List.setIfInBounds_toArray, List.set_cons_zero, List.set_cons_succ]
                  refine wpAnyH_take (i := 14) (v := ?vat1219202324x14) rfl (by kernel_rfl) (by kernel_rfl) (by kernel_rfl) (fun _ _ _ h => h) (Or.inl ⟨by rfl, ?hyt1219202324x14⟩) (by assumption) ?rat1219202324x14
                  case hyt1219202324x14 => (intro wq hSw; (try dsimp only at hSw); obtain ⟨e0, e1, e2, e3, e4, e5, e6, e7, e8, e9, e10, e11⟩ := hSw; go_simp <;> with_reducible rfl)
                  try simp only [Act.put, List.getElem_toArray, List.getElem_cons_zero, List.getElem_cons_succ, List.setIfInBounds_toArray, List.set_cons_zero, List.set_cons_succ]
                  refine wpAnyH_take (i := 15) (v := ?vat1219202324x15) rfl (by kernel_rfl) (by kernel_rfl) (by kernel_rfl) (fun _ _ _ h => h) (Or.inl ⟨by rfl, ?hyt1219202324x15⟩) (by assumption) ?rat1219202324x15
                  case hyt1219202324x15 => (intro wq hSw; (try dsimp only at hSw); obtain ⟨e0, e1, e2, e3, e4, e5, e6, e7, e8, e9, e10, e11⟩ := hSw; go_simp <;> with_reducible rfl)
                  try simp only [Act.put, List.getElem_toArray, List.getElem_cons_zero, List.getElem_cons_succ, List.setIfInBounds_toArray, List.set_cons_zero, List.set_cons_succ]
                  refine wpAnyH_take (i := 16) (v := ?vat1219202324x16) rfl (by kernel_rfl) (by kernel_rfl) (by kernel_rfl) (fun _ _ _ h => h) (Or.inl ⟨by rfl, ?hyt1219202324x16⟩) (by assumption) ?rat1219202324x16
                  case hyt1219202324x16 => (intro wq hSw; (try dsimp only at hSw); obtain ⟨e0, e1, e2, e3, e4, e5, e6, e7, e8, e9, e10, e11⟩ := hSw; go_simp <;> with_reducible rfl)
                  try simp only [Act.put, List.getElem_toArray, List.getElem_cons_zero, List.getElem_cons_succ, List.setIfInBounds_toArray, List.set_cons_zero, List.set_cons_succ]
                  have hAne : w.heap.size ≠ gA := by have := LA.out; omega
                  have hBne : w.heap.size ≠ gB := by have := LB.out; omega
                  refine wpAnyH_ready (rs := [19]) (by kernel_rfl) (by simp) ?_
                  refine AllReadyH.cons rfl (fun K hK => ?_) AllReadyH.nil
                  rw [if_pos (by rfl)]
                  have XB1 := hide (row_far (W := v24) (g := gA) #[.int .i64 a.kind, .int .i64 a.level, .slice a.aI a.items.length a.cI, .slice a.aD a.data.length a.cD, .int .i64 a.next] XB.out (Ne.symm NE.out))
                  refine wp_store_row 25 _ _ rfl gA _ rfl rfl 25 _ XA.out sizePage rfl (by simp [Value.oneCell']) ?_
                  refine hK.out _ _ (cells12b (row_far _ (BX.out _ BB.out) hAne)) (fun hHeld => ?_)
                  clear hK K
                  try simp only [Act.put, List.getElem_toArray, List.getElem_cons_zero, List.getElem_cons_succ, List.setIfInBounds_toArray, List.set_cons_zero, List.set_cons_succ]
                  refine wpAnyH_ready (rs := [20]) (by kernel_rfl) (by simp) ?_
                  refine AllReadyH.cons rfl (fun K hK => ?_) AllReadyH.nil
                  rw [if_pos (by rfl)]
                  refine wp_store_row 25 _ _ rfl gB _ rfl rfl 25 _ XB1.out sizePage rfl (by simp [Value.oneCell']) ?_
                  refine hK.out _ _ (cells12b (row_far _ (row_far _ (BX.out _ BB.out) hAne) hBne)) (fun hHeld => ?_)
                  clear hK K
                  try simp only [Act.put, List.getElem_toArray, List.getElem_cons_zero, List.getElem_cons_succ, List.setIfInBounds_toArray, List.set_cons_zero, List.set_cons_succ]
                  refine wpAnyH_take (i := 21) (v := ?vat121920232421) rfl (by kernel_rfl) (by kernel_rfl) (by kernel_rfl) (fun _ _ _ h => h) (Or.inl ⟨by rfl, ?hyt121920232421⟩) (by assumption) ?rat121920232421
                  case hyt121920232421 => (intro wq hSw; (try dsimp only at hSw); obtain ⟨e0, e1, e2, e3, e4, e5, e6, e7, e8, e9, e10, e11⟩ := hSw; go_simp <;> with_reducible rfl)
                  try simp only [Act.put, List.getElem_toArray, List.getElem_cons_zero, List.getElem_cons_succ, List.setIfInBounds_toArray, List.set_cons_zero, List.set_cons_succ]
                  refine wpAnyH_take (i := 22) (v := ?vat121920232422) rfl (by kernel_rfl) (by kernel_rfl) (by kernel_rfl) (fun _ _ _ h => h) (Or.inl ⟨by rfl, ?hyt121920232422⟩) (by assumption) ?rat121920232422
                  case hyt121920232422 => (intro wq hSw; (try dsimp only at hSw); obtain ⟨e0, e1, e2, e3, e4, e5, e6, e7, e8, e9, e10, e11⟩ := hSw; go_simp <;> with_reducible rfl)
                  try simp only [Act.put, List.getElem_toArray, List.getElem_cons_zero, List.getElem_cons_succ, List.setIfInBounds_toArray, List.set_cons_zero, List.set_cons_succ]
                  refine wpAnyH_done (by kernel_rfl) ?_ _
                  clear hHeld
                  go_wp2_with fail
                  go_meet
                  case rel => exact ⟨gA, gB, a, b, aU, cU, rfl, rfl, rfl, rfl, ⟨row_far _ (setRow_heap _ _ _ _ _ _ XA.out) NE.out, setRow_heap _ _ _ _ _ _ XB1.out, (HQ.out.but (but_setRow _ gA _) (fun k hk => ⟨_, _, by subst hk; exact XA.out, by decide, by decide⟩) (below_row _ HQ.out.b LA.out)).but (but_setRow _ gB _) (fun k hk => ⟨_, _, by subst hk; exact XB1.out, by decide, by decide⟩) (below_row _ (below_row _ HQ.out.b LA.out) LB.out), EA.out, EB.out⟩⟩
            · go_simp
              have AL := hide (al v19 (.cells #[.int .i64 0, .int .i64 0, .slice none 0 0, .slice none 0 0, .int .i64 0] 25))
              have LB : Hid (w1.heap.size ≤ v19.heap.size) := BB.out.size
              have NE : Hid (gA ≠ v19.heap.size) := by have := (Array.getElem?_eq_some_iff.1 XA.out).1; show _ ≠ _; omega
              replace SX := hide (SX.out.keep AL.out)
              replace SY := hide (SY.out.keep AL.out)
              replace XA := hide (blk_keep XA.out AL.out)
              replace BB := hide (bt BB.out AL.out)
              have XB := hide (heap_alloc_new v19 (.cells #[.int .i64 0, .int .i64 0, .slice none 0 0, .slice none 0 0, .int .i64 0] 25))
              refine hK.out _ _ (SS.out _ BB.out) (fun hHeld => ?_)
              clear hK K AL
              try simp only [Act.put, List.getElem_toArray, List.getElem_cons_zero, List.getElem_cons_succ, List.setIfInBounds_toArray, List.set_cons_zero, List.set_cons_succ]
              generalize (v19.alloc (.cells #[.int .i64 0, .int .i64 0, .slice none 0 0, .slice none 0 0, .int .i64 0] 25)) = v25 at *
              generalize v19.heap.size = gB at *
              refine wpAnyH_ready (rs := [8]) (by kernel_rfl) (by simp) ?_
              refine (AllReadyH.cons rfl (fun K hK => ?_) AllReadyH.nil)
              · go_simp
                refine (SP3.out _ BB.out).mono ?_
                rintro _ v26 ⟨aK, cK, rfl, hO⟩
                have hb := hO.b
                have SK := hide hO.r
                replace SX := hide (SX.out.keep hb)
                replace SY := hide (SY.out.keep hb)
                replace XA := hide (blk_keep XA.out hb)
                replace XB := hide (blk_keep XB.out hb)
                replace BB := hide (bt BB.out hb)
                clear hO hb
                go_wp2_with fail
                refine hK.out _ _ (SS.out _ BB.out) (fun hHeld => ?_)
                clear hK K
                try simp only [Act.put, List.getElem_toArray, List.getElem_cons_zero, List.getElem_cons_succ, List.setIfInBounds_toArray, List.set_cons_zero, List.set_cons_succ]
                refine wpAnyH_ready (rs := [11]) (by kernel_rfl) (by simp) ?_
                refine (AllReadyH.cons rfl (fun K hK => ?_) AllReadyH.nil)
                · go_simp
                  refine (LN.out _ x y aK cK BB.out SX.out SY.out SK.out EX.out EY.out).mono ?_
                  rintro _ v27 ⟨a, b, aU, cU, rfl, hH, ha, hb2⟩
                  have hb := hH.b
                  have HQ := hide (hH.pre BB.out)
                  have EA := hide ha
                  have EB := hide hb2
                  clear SX SY SK
                  replace XA := hide (blk_keep XA.out hb)
                  replace XB := hide (blk_keep XB.out hb)
                  replace BB := hide (bt BB.out hb)
                  clear hH ha hb2 hb
                  go_wp2_with fail
                  refine hK.out _ _ (SS.out _ BB.out) (fun hHeld => ?_)
                  clear hK K
                  try simp only [Act.put, List.getElem_toArray, List.getElem_cons_zero, List.getElem_cons_succ, List.setIfInBounds_toArray, List.set_cons_zero, List.set_cons_succ]
                  refine wpAnyH_take (i := 12) (v := ?vat1219252627x12) rfl (by kernel_rfl) (by kernel_rfl) (by kernel_rfl) (fun _ _ _ h => h) (Or.inl ⟨by rfl, ?hyt1219252627x12⟩) (by assumption) ?rat1219252627x12
                  case hyt1219252627x12 => (intro wq hSw; (try dsimp only at hSw); obtain ⟨e0, e1, e2, e3, e4, e5, e6, e7, e8, e9, e10, e11⟩ := hSw; go_simp <;> with_reducible rfl)
                  try simp only [Act.put, List.getElem_toArray, List.getElem_cons_zero, List.getElem_cons_succ, List.setIfInBounds_toArray, List.set_cons_zero, List.set_cons_succ]
                  refine wpAnyH_take (i := 13) (v := ?vat1219252627x13) rfl (by kernel_rfl) (by kernel_rfl) (by kernel_rfl) (fun _ _ _ h => h) (Or.inl ⟨by rfl, ?hyt1219252627x13⟩) (by assumption) ?rat1219252627x13
                  case hyt1219252627x13 => (intro wq hSw; (try dsimp only at hSw); obtain ⟨e0, e1, e2, e3, e4, e5, e6, e7, e8, e9, e10, e11⟩ := hSw; go_simp <;> with_reducible rfl)
                  try simp only [Act.put, List.getElem_toArray, List.getElem_cons_zero, List.getElem_cons_succ, List.setIfInBounds_toArray, List.set_cons_zero, List.set_cons_succ]
                  refine wpAnyH_take (i := 14) (v := ?vat1219252627x14) rfl (by kernel_rfl) (by kernel_rfl) (by kernel_rfl) (fun _ _ _ h => h) (Or.inl ⟨by rfl, ?hyt1219252627x14⟩) (by assumption) ?rat1219252627x14
                  case hyt1219252627x14 => (intro wq hSw; (try dsimp only at hSw); obtain ⟨e0, e1, e2, e3, e4, e5, e6, e7, e8, e9, e10, e11⟩ := hSw; go_simp <;> with_reducible rfl)
                  try simp only [Act.put, List.getElem_toArray, List.getElem_cons_zero, List.getElem_cons_succ, List.setIfInBounds_toArray, List.set_cons_zero, List.set_cons_succ]
                  refine wpAnyH_take (i := 15) (v := ?vat1219252627x15) rfl (by kernel_rfl) (by kernel_rfl) (by kernel_rfl) (fun _ _ _ h => h) (Or.inl ⟨by rfl, ?hyt1219252627x15⟩) (by assumption) ?rat1219252627x15
                  case hyt1219252627x15 => (intro wq hSw; (try dsimp only at hSw); obtain ⟨e0, e1, e2, e3, e4, e5, e6, e7, e8, e9, e10, e11⟩ := hSw; go_simp <;> with_reducible rfl)
                  try simp only [Act.put, List.getElem_toArray, List.getElem_cons_zero, List.getElem_cons_succ, List.setIfInBounds_toArray, List.set_cons_zero, List.set_cons_succ]
                  refine wpAnyH_take (i := 16) (v := ?vat1219252627x16) rfl (by kernel_rfl) (by kernel_rfl) (by kernel_rfl) (fun _ _ _ h => h) (Or.inl ⟨by rfl, ?hyt1219252627x16⟩) (by assumption) ?rat1219252627x16
                  case hyt1219252627x16 => (intro wq hSw; (try dsimp only at hSw); obtain ⟨e0, e1, e2, e3, e4, e5, e6, e7, e8, e9, e10, e11⟩ := hSw; go_simp <;> with_reducible rfl)
                  try simp only [Act.put, List.getElem_toArray, List.getElem_cons_zero, List.getElem_cons_succ, List.setIfInBounds_toArray, List.set_cons_zero, List.set_cons_succ]
                  have hAne : w.heap.size ≠ gA := by have := LA.out; omega
                  have hBne : w.heap.size ≠ gB := by have := LB.out; omega
                  refine wpAnyH_ready (rs := [19]) (by kernel_rfl) (by simp) ?_
                  refine AllReadyH.cons rfl (fun K hK => ?_) AllReadyH.nil
                  rw [if_pos (by rfl)]
                  have XB1 := hide (row_far (W := v27) (g := gA) #[.int .i64 a.kind, .int .i64 a.level, .slice a.aI a.items.length a.cI, .slice a.aD a.data.length a.cD, .int .i64 a.next] XB.out (Ne.symm NE.out))
                  refine wp_store_row 25 _ _ rfl gA _ rfl rfl 25 _ XA.out sizePage rfl (by simp [Value.oneCell']) ?_
                  refine hK.out _ _ (cells12b (row_far _ (BX.out _ BB.out) hAne)) (fun hHeld => ?_)
                  clear hK K
                  try simp only [Act.put, List.getElem_toArray, List.getElem_cons_zero, List.getElem_cons_succ, List.setIfInBounds_toArray, List.set_cons_zero, List.set_cons_succ]
                  refine wpAnyH_ready (rs := [20]) (by kernel_rfl) (by simp) ?_
                  refine AllReadyH.cons rfl (fun K hK => ?_) AllReadyH.nil
                  rw [if_pos (by rfl)]
                  refine wp_store_row 25 _ _ rfl gB _ rfl rfl 25 _ XB1.out sizePage rfl (by simp [Value.oneCell']) ?_
                  refine hK.out _ _ (cells12b (row_far _ (row_far _ (BX.out _ BB.out) hAne) hBne)) (fun hHeld => ?_)
                  clear hK K
                  try simp only [Act.put, List.getElem_toArray, List.getElem_cons_zero, List.getElem_cons_succ, List.setIfInBounds_toArray, List.set_cons_zero, List.set_cons_succ]
                  refine wpAnyH_take (i := 21) (v := ?vat121925262721) rfl (by kernel_rfl) (by kernel_rfl) (by kernel_rfl) (fun _ _ _ h => h) (Or.inl ⟨by rfl, ?hyt121925262721⟩) (by assumption) ?rat121925262721
                  case hyt121925262721 => (intro wq hSw; (try dsimp only at hSw); obtain ⟨e0, e1, e2, e3, e4, e5, e6, e7, e8, e9, e10, e11⟩ := hSw; go_simp <;> with_reducible rfl)
                  try simp only [Act.put, List.getElem_toArray, List.getElem_cons_zero, List.getElem_cons_succ, List.setIfInBounds_toArray, List.set_cons_zero, List.set_cons_succ]
                  refine wpAnyH_take (i := 22) (v := ?vat121925262722) rfl (by kernel_rfl) (by kernel_rfl) (by kernel_rfl) (fun _ _ _ h => h) (Or.inl ⟨by rfl, ?hyt121925262722⟩) (by assumption) ?rat121925262722
                  case hyt121925262722 => (intro wq hSw; (try dsimp only at hSw); obtain ⟨e0, e1, e2, e3, e4, e5, e6, e7, e8, e9, e10, e11⟩ := hSw; go_simp <;> with_reducible rfl)
                  try simp only [Act.put, List.getElem_toArray, List.getElem_cons_zero, List.getElem_cons_succ, List.setIfInBounds_toArray, List.set_cons_zero, List.set_cons_succ]
                  refine wpAnyH_done (by kernel_rfl) ?_ _
                  clear hHeld
                  go_wp2_with fail
                  go_meet
                  case rel => exact ⟨gA, gB, a, b, aU, cU, rfl, rfl, rfl, rfl, ⟨row_far _ (setRow_heap _ _ _ _ _ _ XA.out) NE.out, setRow_heap _ _ _ _ _ _ XB1.out, (HQ.out.but (but_setRow _ gA _) (fun k hk => ⟨_, _, by subst hk; exact XA.out, by decide, by decide⟩) (below_row _ HQ.out.b LA.out)).but (but_setRow _ gB _) (fun k hk => ⟨_, _, by subst hk; exact XB1.out, by decide, by decide⟩) (below_row _ (below_row _ HQ.out.b LA.out) LB.out), EA.out, EB.out⟩⟩
          · go_simp
            have AL := hide (al v2 (.cells #[.int .i64 0, .int .i64 0, .slice none 0 0, .slice none 0 0, .int .i64 0] 25))
            have LB : Hid (w1.heap.size ≤ v2.heap.size) := BB.out.size
            replace SX := hide (SX.out.keep AL.out)
            replace SY := hide (SY.out.keep AL.out)
            replace BB := hide (bt BB.out AL.out)
            have XB := hide (heap_alloc_new v2 (.cells #[.int .i64 0, .int .i64 0, .slice none 0 0, .slice none 0 0, .int .i64 0] 25))
            refine hK.out _ _ (SS.out _ BB.out) (fun hHeld => ?_)
            clear hK K AL
            try simp only [Act.put, List.getElem_toArray, List.getElem_cons_zero, List.getElem_cons_succ, List.setIfInBounds_toArray, List.set_cons_zero, List.set_cons_succ]
            generalize (v2.alloc (.cells #[.int .i64 0, .int .i64 0, .slice none 0 0, .slice none 0 0, .int .i64 0] 25)) = v28 at *
            generalize v2.heap.size = gB at *
            refine wpAnyH_ready (rs := [8, 17]) (by kernel_rfl) (by simp) ?_
            refine (AllReadyH.cons rfl (fun K hK => ?_) (AllReadyH.cons rfl (fun K hK => ?_) AllReadyH.nil))
            · go_simp
              refine (SP3.out _ BB.out).mono ?_
              rintro _ v29 ⟨aK, cK, rfl, hO⟩
              have hb := hO.b
              have SK := hide hO.r
              replace SX := hide (SX.out.keep hb)
              replace SY := hide (SY.out.keep hb)
              replace XB := hide (blk_keep XB.out hb)
              replace BB := hide (bt BB.out hb)
              clear hO hb
              go_wp2_with fail
              refine hK.out _ _ (SS.out _ BB.out) (fun hHeld => ?_)
              clear hK K
              try simp only [Act.put, List.getElem_toArray, List.getElem_cons_zero, List.getElem_cons_succ, List.setIfInBounds_toArray, List.set_cons_zero, List.set_cons_succ]
              refine wpAnyH_ready (rs := [11, 17]) (by kernel_rfl) (by simp) ?_
              refine (AllReadyH.cons rfl (fun K hK => ?_) (AllReadyH.cons rfl (fun K hK => ?_) AllReadyH.nil))
              · go_simp
                refine (LN.out _ x y aK cK BB.out SX.out SY.out SK.out EX.out EY.out).mono ?_
                rintro _ v30 ⟨a, b, aU, cU, rfl, hH, ha, hb2⟩
                have hb := hH.b
                have HQ := hide (hH.pre BB.out)
                have EA := hide ha
                have EB := hide hb2
                clear SX SY SK
                replace XB := hide (blk_keep XB.out hb)
                replace BB := hide (bt BB.out hb)
                clear hH ha hb2 hb
                go_wp2_with fail
                refine hK.out _ _ (SS.out _ BB.out) (fun hHeld => ?_)
                clear hK K
                try simp only [Act.put, List.getElem_toArray, List.getElem_cons_zero, List.getElem_cons_succ, List.setIfInBounds_toArray, List.set_cons_zero, List.set_cons_succ]
                refine wpAnyH_take (i := 12) (v := ?vat12282930x12) rfl (by kernel_rfl) (by kernel_rfl) (by kernel_rfl) (fun _ _ _ h => h) (Or.inl ⟨by rfl, ?hyt12282930x12⟩) (by assumption) ?rat12282930x12
                case hyt12282930x12 => (intro wq hSw; (try dsimp only at hSw); obtain ⟨e0, e1, e2, e3, e4, e5, e6, e7, e8, e9, e10, e11⟩ := hSw; go_simp <;> with_reducible rfl)
                try simp only [Act.put, List.getElem_toArray, List.getElem_cons_zero, List.getElem_cons_succ, List.setIfInBounds_toArray, List.set_cons_zero, List.set_cons_succ]
                refine wpAnyH_take (i := 13) (v := ?vat12282930x13) rfl (by kernel_rfl) (by kernel_rfl) (by kernel_rfl) (fun _ _ _ h => h) (Or.inl ⟨by rfl, ?hyt12282930x13⟩) (by assumption) ?rat12282930x13
                case hyt12282930x13 => (intro wq hSw; (try dsimp only at hSw); obtain ⟨e0, e1, e2, e3, e4, e5, e6, e7, e8, e9, e10, e11⟩ := hSw; go_simp <;> with_reducible rfl)
                try simp only [Act.put, List.getElem_toArray, List.getElem_cons_zero, List.getElem_cons_succ, List.setIfInBounds_toArray, List.set_cons_zero, List.set_cons_succ]
                refine wpAnyH_take (i := 14) (v := ?vat12282930x14) rfl (by kernel_rfl) (by kernel_rfl) (by kernel_rfl) (fun _ _ _ h => h) (Or.inl ⟨by rfl, ?hyt12282930x14⟩) (by assumption) ?rat12282930x14
                case hyt12282930x14 => (intro wq hSw; (try dsimp only at hSw); obtain ⟨e0, e1, e2, e3, e4, e5, e6, e7, e8, e9, e10, e11⟩ := hSw; go_simp <;> with_reducible rfl)
                try simp only [Act.put, List.getElem_toArray, List.getElem_cons_zero, List.getElem_cons_succ, List.setIfInBounds_toArray, List.set_cons_zero, List.set_cons_succ]
                refine wpAnyH_take (i := 15) (v := ?vat12282930x15) rfl (by kernel_rfl) (by kernel_rfl) (by kernel_rfl) (fun _ _ _ h => h) (Or.inl ⟨by rfl, ?hyt12282930x15⟩) (by assumption) ?rat12282930x15
                case hyt12282930x15 => (intro wq hSw; (try dsimp only at hSw); obtain ⟨e0, e1, e2, e3, e4, e5, e6, e7, e8, e9, e10, e11⟩ := hSw; go_simp <;> with_reducible rfl)
                try simp only [Act.put, List.getElem_toArray, List.getElem_cons_zero, List.getElem_cons_succ, List.setIfInBounds_toArray, List.set_cons_zero, List.set_cons_succ]
                refine wpAnyH_take (i := 16) (v := ?vat12282930x16) rfl (by kernel_rfl) (by kernel_rfl) (by kernel_rfl) (fun _ _ _ h => h) (Or.inl ⟨by rfl, ?hyt12282930x16⟩) (by assumption) ?rat12282930x16
                case hyt12282930x16 => (intro wq hSw; (try dsimp only at hSw); obtain ⟨e0, e1, e2, e3, e4, e5, e6, e7, e8, e9, e10, e11⟩ := hSw; go_simp <;> with_reducible rfl)
                try simp only [Act.put, List.getElem_toArray, List.getElem_cons_zero, List.getElem_cons_succ, List.setIfInBounds_toArray, List.set_cons_zero, List.set_cons_succ]
                refine wpAnyH_ready (rs := [17]) (by kernel_rfl) (by simp) ?_
                refine (AllReadyH.cons rfl (fun K hK => ?_) AllReadyH.nil)
                · go_simp
                  have AL := hide (al v30 (.cells #[.int .i64 0, .int .i64 0, .slice none 0 0, .slice none 0 0, .int .i64 0] 25))
                  have LA : Hid (w1.heap.size ≤ v30.heap.size) := BB.out.size
                  have NE : Hid (v30.heap.size ≠ gB) := by have := (Array.getElem?_eq_some_iff.1 XB.out).1; show _ ≠ _; omega
                  replace HQ := hide (HQ.out.keep AL.out)
                  replace XB := hide (blk_keep XB.out AL.out)
                  replace BB := hide (bt BB.out AL.out)
                  have XA := hide (heap_alloc_new v30 (.cells #[.int .i64 0, .int .i64 0, .slice none 0 0, .slice none 0 0, .int .i64 0] 25))
                  refine hK.out _ _ (SS.out _ BB.out) (fun hHeld => ?_)
                  clear hK K AL
                  try simp only [Act.put, List.getElem_toArray, List.getElem_cons_zero, List.getElem_cons_succ, List.setIfInBounds_toArray, List.set_cons_zero, List.set_cons_succ]
                  generalize (v30.alloc (.cells #[.int .i64 0, .int .i64 0, .slice none 0 0, .slice none 0 0, .int .i64 0] 25)) = v31 at *
                  generalize v30.heap.size = gA at *
                  have hAne : w.heap.size ≠ gA := by have := LA.out; omega
                  have hBne : w.heap.size ≠ gB := by have := LB.out; omega
                  refine wpAnyH_ready (rs := [19]) (by kernel_rfl) (by simp) ?_
                  refine AllReadyH.cons rfl (fun K hK => ?_) AllReadyH.nil
                  rw [if_pos (by rfl)]
                  have XB1 := hide (row_far (W := v31) (g := gA) #[.int .i64 a.kind, .int .i64 a.level, .slice a.aI a.items.length a.cI, .slice a.aD a.data.length a.cD, .int .i64 a.next] XB.out (Ne.symm NE.out))
                  refine wp_store_row 25 _ _ rfl gA _ rfl rfl 25 _ XA.out sizePage rfl (by simp [Value.oneCell']) ?_
                  refine hK.out _ _ (cells12b (row_far _ (BX.out _ BB.out) hAne)) (fun hHeld => ?_)
                  clear hK K
                  try simp only [Act.put, List.getElem_toArray, List.getElem_cons_zero, List.getElem_cons_succ, List.setIfInBounds_toArray, List.set_cons_zero, List.set_cons_succ]
                  refine wpAnyH_ready (rs := [20]) (by kernel_rfl) (by simp) ?_
                  refine AllReadyH.cons rfl (fun K hK => ?_) AllReadyH.nil
                  rw [if_pos (by rfl)]
                  refine wp_store_row 25 _ _ rfl gB _ rfl rfl 25 _ XB1.out sizePage rfl (by simp [Value.oneCell']) ?_
                  refine hK.out _ _ (cells12b (row_far _ (row_far _ (BX.out _ BB.out) hAne) hBne)) (fun hHeld => ?_)
                  clear hK K
                  try simp only [Act.put, List.getElem_toArray, List.getElem_cons_zero, List.getElem_cons_succ, List.setIfInBounds_toArray, List.set_cons_zero, List.set_cons_succ]
                  refine wpAnyH_take (i := 21) (v := ?vat122829303121) rfl (by kernel_rfl) (by kernel_rfl) (by kernel_rfl) (fun _ _ _ h => h) (Or.inl ⟨by rfl, ?hyt122829303121⟩) (by assumption) ?rat122829303121
                  case hyt122829303121 => (intro wq hSw; (try dsimp only at hSw); obtain ⟨e0, e1, e2, e3, e4, e5, e6, e7, e8, e9, e10, e11⟩ := hSw; go_simp <;> with_reducible rfl)
                  try simp only [Act.put, List.getElem_toArray, List.getElem_cons_zero, List.getElem_cons_succ, List.setIfInBounds_toArray, List.set_cons_zero, List.set_cons_succ]
                  refine wpAnyH_take (i := 22) (v := ?vat122829303122) rfl (by kernel_rfl) (by kernel_rfl) (by kernel_rfl) (fun _ _ _ h => h) (Or.inl ⟨by rfl, ?hyt122829303122⟩) (by assumption) ?rat122829303122
                  case hyt122829303122 => (intro wq hSw; (try dsimp only at hSw); obtain ⟨e0, e1, e2, e3, e4, e5, e6, e7, e8, e9, e10, e11⟩ := hSw; go_simp <;> with_reducible rfl)
                  try simp only [Act.put, List.getElem_toArray, List.getElem_cons_zero, List.getElem_cons_succ, List.setIfInBounds_toArray, List.set_cons_zero, List.set_cons_succ]
                  refine wpAnyH_done (by kernel_rfl) ?_ _
                  clear hHeld
                  go_wp2_with fail
                  go_meet
                  case rel => exact ⟨gA, gB, a, b, aU, cU, rfl, rfl, rfl, rfl, ⟨row_far _ (setRow_heap _ _ _ _ _ _ XA.out) NE.out, setRow_heap _ _ _ _ _ _ XB1.out, (HQ.out.but (but_setRow _ gA _) (fun k hk => ⟨_, _, by subst hk; exact XA.out, by decide, by decide⟩) (below_row _ HQ.out.b LA.out)).but (but_setRow _ gB _) (fun k hk => ⟨_, _, by subst hk; exact XB1.out, by decide, by decide⟩) (below_row _ (below_row _ HQ.out.b LA.out) LB.out), EA.out, EB.out⟩⟩
              · go_simp
                have AL := hide (al v29 (.cells #[.int .i64 0, .int .i64 0, .slice none 0 0, .slice none 0 0, .int .i64 0] 25))
                have LA : Hid (w1.heap.size ≤ v29.heap.size) := BB.out.size
                have NE : Hid (v29.heap.size ≠ gB) := by have := (Array.getElem?_eq_some_iff.1 XB.out).1; show _ ≠ _; omega
                replace SX := hide (SX.out.keep AL.out)
                replace SY := hide (SY.out.keep AL.out)
                replace SK := hide (SK.out.keep AL.out)
                replace XB := hide (blk_keep XB.out AL.out)
                replace BB := hide (bt BB.out AL.out)
                have XA := hide (heap_alloc_new v29 (.cells #[.int .i64 0, .int .i64 0, .slice none 0 0, .slice none 0 0, .int .i64 0] 25))
                refine hK.out _ _ (SS.out _ BB.out) (fun hHeld => ?_)
                clear hK K AL
                try simp only [Act.put, List.getElem_toArray, List.getElem_cons_zero, List.getElem_cons_succ, List.setIfInBounds_toArray, List.set_cons_zero, List.set_cons_succ]
                generalize (v29.alloc (.cells #[.int .i64 0, .int .i64 0, .slice none 0 0, .slice none 0 0, .int .i64 0] 25)) = v32 at *
                generalize v29.heap.size = gA at *
                refine wpAnyH_ready (rs := [11]) (by kernel_rfl) (by simp) ?_
                refine (AllReadyH.cons rfl (fun K hK => ?_) AllReadyH.nil)
                · go_simp
                  refine (LN.out _ x y aK cK BB.out SX.out SY.out SK.out EX.out EY.out).mono ?_
                  rintro _ v33 ⟨a, b, aU, cU, rfl, hH, ha, hb2⟩
                  have hb := hH.b
                  have HQ := hide (hH.pre BB.out)
                  have EA := hide ha
                  have EB := hide hb2
                  clear SX SY SK
                  replace XA := hide (blk_keep XA.out hb)
                  replace XB := hide (blk_keep XB.out hb)
                  replace BB := hide (bt BB.out hb)
                  clear hH ha hb2 hb
                  go_wp2_with fail
                  refine hK.out _ _ (SS.out _ BB.out) (fun hHeld => ?_)
                  clear hK K
                  try simp only [Act.put, List.getElem_toArray, List.getElem_cons_zero, List.getElem_cons_succ, List.setIfInBounds_toArray, List.set_cons_zero, List.set_cons_succ]
                  refine wpAnyH_take (i := 12) (v := ?vat1228293233x12) rfl (by kernel_rfl) (by kernel_rfl) (by kernel_rfl) (fun _ _ _ h => h) (Or.inl ⟨by rfl, ?hyt1228293233x12⟩) (by assumption) ?rat1228293233x12
                  case hyt1228293233x12 => (intro wq hSw; (try dsimp only at hSw); obtain ⟨e0, e1, e2, e3, e4, e5, e6, e7, e8, e9, e10, e11⟩ := hSw; go_simp <;> with_reducible rfl)
                  try simp only [Act.put, List.getElem_toArray, List.getElem_cons_zero, List.getElem_cons_succ, List.setIfInBounds_toArray, List.set_cons_zero, List.set_cons_succ]
                  refine wpAnyH_take (i := 13) (v := ?vat1228293233x13) rfl (by kernel_rfl) (by kernel_rfl) (by kernel_rfl) (fun _ _ _ h => h) (Or.inl ⟨by rfl, ?hyt1228293233x13⟩) (by assumption) ?rat1228293233x13
                  case hyt1228293233x13 => (intro wq hSw; (try dsimp only at hSw); obtain ⟨e0, e1, e2, e3, e4, e5, e6, e7, e8, e9, e10, e11⟩ := hSw; go_simp <;> with_reducible rfl)
                  try simp only [Act.put, List.getElem_toArray, List.getElem_cons_zero, List.getElem_cons_succ, List.setIfInBounds_toArray, List.set_cons_zero, List.set_cons_succ]
                  refine wpAnyH_take (i := 14) (v := ?vat1228293233x14) rfl (by kernel_rfl) (by kernel_rfl) (by kernel_rfl) (fun _ _ _ h => h) (Or.inl ⟨by rfl, ?hyt1228293233x14⟩) (by assumption) ?rat1228293233x14
                  case hyt1228293233x14 => (intro wq hSw; (try dsimp only at hSw); obtain ⟨e0, e1, e2, e3, e4, e5, e6, e7, e8, e9, e10, e11⟩ := hSw; go_simp <;> with_reducible rfl)
                  try simp only [Act.put, List.getElem_toArray, List.getElem_cons_zero, List.getElem_cons_succ, List.setIfInBounds_toArray, List.set_cons_zero, List.set_cons_succ]
                  refine wpAnyH_take (i := 15) (v := ?vat1228293233x15) rfl (by kernel_rfl) (by kernel_rfl) (by kernel_rfl) (fun _ _ _ h => h) (Or.inl ⟨by rfl, ?hyt1228293233x15⟩) (by assumption) ?rat1228293233x15
                  case hyt1228293233x15 => (intro wq hSw; (try dsimp only at hSw); obtain ⟨e0, e1, e2, e3, e4, e5, e6, e7, e8, e9, e10, e11⟩ := hSw; go_simp <;> with_reducible rfl)
                  try simp only [Act.put, List.getElem_toArray, List.getElem_cons_zero, List.getElem_cons_succ, List.setIfInBounds_toArray, List.set_cons_zero, List.set_cons_succ]
                  refine wpAnyH_take (i := 16) (v := ?vat1228293233x16) rfl (by kernel_rfl) (by kernel_rfl) (by kernel_rfl) (fun _ _ _ h => h) (Or.inl ⟨by rfl, ?hyt1228293233x16⟩) (by assumption) ?rat1228293233x16
                  case hyt1228293233x16 => (intro wq hSw; (try dsimp only at hSw); obtain ⟨e0, e1, e2, e3, e4, e5, e6, e7, e8, e9, e10, e11⟩ := hSw; go_simp <;> with_reducible rfl)
                  try simp only [Act.put, List.getElem_toArray, List.getElem_cons_zero, List.getElem_cons_succ, List.setIfInBounds_toArray, List.set_cons_zero, List.set_cons_succ]
                  have hAne : w.heap.size ≠ gA := by have := LA.out; omega
                  have hBne : w.heap.size ≠ gB := by have := LB.out; omega
                  refine wpAnyH_ready (rs := [19]) (by kernel_rfl) (by simp) ?_
                  refine AllReadyH.cons rfl (fun K hK => ?_) AllReadyH.nil
                  rw [if_pos (by rfl)]
                  have XB1 := hide (row_far (W := v33) (g := gA) #[.int .i64 a.kind, .int .i64 a.level, .slice a.aI a.items.length a.cI, .slice a.aD a.data.length a.cD, .int .i64 a.next] XB.out (Ne.symm NE.out))
                  refine wp_store_row 25 _ _ rfl gA _ rfl rfl 25 _ XA.out sizePage rfl (by simp [Value.oneCell']) ?_
                  refine hK.out _ _ (cells12b (row_far _ (BX.out _ BB.out) hAne)) (fun hHeld => ?_)
                  clear hK K
                  try simp only [Act.put, List.getElem_toArray, List.getElem_cons_zero, List.getElem_cons_succ, List.setIfInBounds_toArray, List.set_cons_zero, List.set_cons_succ]
                  refine wpAnyH_ready (rs := [20]) (by kernel_rfl) (by simp) ?_
                  refine AllReadyH.cons rfl (fun K hK => ?_) AllReadyH.nil
                  rw [if_pos (by rfl)]
                  refine wp_store_row 25 _ _ rfl gB _ rfl rfl 25 _ XB1.out sizePage rfl (by simp [Value.oneCell']) ?_
                  refine hK.out _ _ (cells12b (row_far _ (row_far _ (BX.out _ BB.out) hAne) hBne)) (fun hHeld => ?_)
                  clear hK K
                  try simp only [Act.put, List.getElem_toArray, List.getElem_cons_zero, List.getElem_cons_succ, List.setIfInBounds_toArray, List.set_cons_zero, List.set_cons_succ]
                  refine wpAnyH_take (i := 21) (v := ?vat122829323321) rfl (by kernel_rfl) (by kernel_rfl) (by kernel_rfl) (fun _ _ _ h => h) (Or.inl ⟨by rfl, ?hyt122829323321⟩) (by assumption) ?rat122829323321
                  case hyt122829323321 => (intro wq hSw; (try dsimp only at hSw); obtain ⟨e0, e1, e2, e3, e4, e5, e6, e7, e8, e9, e10, e11⟩ := hSw; go_simp <;> with_reducible rfl)
                  try simp only [Act.put, List.getElem_toArray, List.getElem_cons_zero, List.getElem_cons_succ, List.setIfInBounds_toArray, List.set_cons_zero, List.set_cons_succ]
                  refine wpAnyH_take (i := 22) (v := ?vat122829323322) rfl (by kernel_rfl) (by kernel_rfl) (by kernel_rfl) (fun _ _ _ h => h) (Or.inl ⟨by rfl, ?hyt122829323322⟩) (by assumption) ?rat122829323322
                  case hyt122829323322 => (intro wq hSw; (try dsimp only at hSw); obtain ⟨e0, e1, e2, e3, e4, e5, e6, e7, e8, e9, e10, e11⟩ := hSw; go_simp <;> with_reducible rfl)
                  try simp only [Act.put, List.getElem_toArray, List.getElem_cons_zero, List.getElem_cons_succ, List.setIfInBounds_toArray, List.set_cons_zero, List.set_cons_succ]
                  refine wpAnyH_done (by kernel_rfl) ?_ _
                  clear hHeld
                  go_wp2_with fail
                  go_meet
                  case rel => exact ⟨gA, gB, a, b, aU, cU, rfl, rfl, rfl, rfl, ⟨row_far _ (setRow_heap _ _ _ _ _ _ XA.out) NE.out, setRow_heap _ _ _ _ _ _ XB1.out, (HQ.out.but (but_setRow _ gA _) (fun k hk => ⟨_, _, by subst hk; exact XA.out, by decide, by decide⟩) (below_row _ HQ.out.b LA.out)).but (but_setRow _ gB _) (fun k hk => ⟨_, _, by subst hk; exact XB1.out, by decide, by decide⟩) (below_row _ (below_row _ HQ.out.b LA.out) LB.out), EA.out, EB.out⟩⟩
            · go_simp
              have AL := hide (al v28 (.cells #[.int .i64 0, .int .i64 0, .slice none 0 0, .slice none 0 0, .int .i64 0] 25))
              have LA : Hid (w1.heap.size ≤ v28.heap.size) := BB.out.size
              have NE : Hid (v28.heap.size ≠ gB) := by have := (Array.getElem?_eq_some_iff.1 XB.out).1; show _ ≠ _; omega
              replace SX := hide (SX.out.keep AL.out)
              replace SY := hide (SY.out.keep AL.out)
              replace XB := hide (blk_keep XB.out AL.out)
              replace BB := hide (bt BB.out AL.out)
              have XA := hide (heap_alloc_new v28 (.cells #[.int .i64 0, .int .i64 0, .slice none 0 0, .slice none 0 0, .int .i64 0] 25))
              refine hK.out _ _ (SS.out _ BB.out) (fun hHeld => ?_)
              clear hK K AL
              try simp only [Act.put, List.getElem_toArray, List.getElem_cons_zero, List.getElem_cons_succ, List.setIfInBounds_toArray, List.set_cons_zero, List.set_cons_succ]
              generalize (v28.alloc (.cells #[.int .i64 0, .int .i64 0, .slice none 0 0, .slice none 0 0, .int .i64 0] 25)) = v34 at *
              generalize v28.heap.size = gA at *
              refine wpAnyH_ready (rs := [8]) (by kernel_rfl) (by simp) ?_
              refine (AllReadyH.cons rfl (fun K hK => ?_) AllReadyH.nil)
              · go_simp
                refine (SP3.out _ BB.out).mono ?_
                rintro _ v35 ⟨aK, cK, rfl, hO⟩
                have hb := hO.b
                have SK := hide hO.r
                replace SX := hide (SX.out.keep hb)
                replace SY := hide (SY.out.keep hb)
                replace XA := hide (blk_keep XA.out hb)
                replace XB := hide (blk_keep XB.out hb)
                replace BB := hide (bt BB.out hb)
                clear hO hb
                go_wp2_with fail
                refine hK.out _ _ (SS.out _ BB.out) (fun hHeld => ?_)
                clear hK K
                try simp only [Act.put, List.getElem_toArray, List.getElem_cons_zero, List.getElem_cons_succ, List.setIfInBounds_toArray, List.set_cons_zero, List.set_cons_succ]
                refine wpAnyH_ready (rs := [11]) (by kernel_rfl) (by simp) ?_
                refine (AllReadyH.cons rfl (fun K hK => ?_) AllReadyH.nil)
                · go_simp
                  refine (LN.out _ x y aK cK BB.out SX.out SY.out SK.out EX.out EY.out).mono ?_
                  rintro _ v36 ⟨a, b, aU, cU, rfl, hH, ha, hb2⟩
                  have hb := hH.b
                  have HQ := hide (hH.pre BB.out)
                  have EA := hide ha
                  have EB := hide hb2
                  clear SX SY SK
                  replace XA := hide (blk_keep XA.out hb)
                  replace XB := hide (blk_keep XB.out hb)
                  replace BB := hide (bt BB.out hb)
                  clear hH ha hb2 hb
                  go_wp2_with fail
                  refine hK.out _ _ (SS.out _ BB.out) (fun hHeld => ?_)
                  clear hK K
                  try simp only [Act.put, List.getElem_toArray, List.getElem_cons_zero, List.getElem_cons_succ, List.setIfInBounds_toArray, List.set_cons_zero, List.set_cons_succ]
                  refine wpAnyH_take (i := 12) (v := ?vat1228343536x12) rfl (by kernel_rfl) (by kernel_rfl) (by kernel_rfl) (fun _ _ _ h => h) (Or.inl ⟨by rfl, ?hyt1228343536x12⟩) (by assumption) ?rat1228343536x12
                  case hyt1228343536x12 => (intro wq hSw; (try dsimp only at hSw); obtain ⟨e0, e1, e2, e3, e4, e5, e6, e7, e8, e9, e10, e11⟩ := hSw; go_simp <;> with_reducible rfl)
                  try simp only [Act.put, List.getElem_toArray, List.getElem_cons_zero, List.getElem_cons_succ, List.setIfInBounds_toArray, List.set_cons_zero, List.set_cons_succ]
                  refine wpAnyH_take (i := 13) (v := ?vat1228343536x13) rfl (by kernel_rfl) (by kernel_rfl) (by kernel_rfl) (fun _ _ _ h => h) (Or.inl ⟨by rfl, ?hyt1228343536x13⟩) (by assumption) ?rat1228343536x13
                  case hyt1228343536x13 => (intro wq hSw; (try dsimp only at hSw); obtain ⟨e0, e1, e2, e3, e4, e5, e6, e7, e8, e9, e10, e11⟩ := hSw; go_simp <;> with_reducible rfl)
                  try simp only [Act.put, List.getElem_toArray, List.getElem_cons_zero, List.getElem_cons_succ, List.setIfInBounds_toArray, List.set_cons_zero, List.set_cons_succ]
                  refine wpAnyH_take (i := 14) (v := ?vat1228343536x14) rfl (by kernel_rfl) (by kernel_rfl) (by kernel_rfl) (fun _ _ _ h => h) (Or.inl ⟨by rfl, ?hyt1228343536x14⟩) (by assumption) ?rat1228343536x14
                  case hyt1228343536x14 => (intro wq hSw; (try dsimp only at hSw); obtain ⟨e0, e1, e2, e3, e4, e5, e6, e7, e8, e9, e10, e11⟩ := hSw; go_simp <;> with_reducible rfl)
                  try simp only [Act.put, List.getElem_toArray, List.getElem_cons_zero, List.getElem_cons_succ, List.setIfInBounds_toArray, List.set_cons_zero, List.set_cons_succ]
                  refine wpAnyH_take (i := 15) (v := ?vat1228343536x15) rfl (by kernel_rfl) (by kernel_rfl) (by kernel_rfl) (fun _ _ _ h => h) (Or.inl ⟨by rfl, ?hyt1228343536x15⟩) (by assumption) ?rat1228343536x15
                  case hyt1228343536x15 => (intro wq hSw; (try dsimp only at hSw); obtain ⟨e0, e1, e2, e3, e4, e5, e6, e7, e8, e9, e10, e11⟩ := hSw; go_simp <;> with_reducible rfl)
                  try simp only [Act.put, List.getElem_toArray, List.getElem_cons_zero, List.getElem_cons_succ, List.setIfInBounds_toArray, List.set_cons_zero, List.set_cons_succ]
                  refine wpAnyH_take (i := 16) (v := ?vat1228343536x16) rfl (by kernel_rfl) (by kernel_rfl) (by kernel_rfl) (fun _ _ _ h => h) (Or.inl ⟨by rfl, ?hyt1228343536x16⟩) (by assumption) ?rat1228343536x16
                  case hyt1228343536x16 => (intro wq hSw; (try dsimp only at hSw); obtain ⟨e0, e1, e2, e3, e4, e5, e6, e7, e8, e9, e10, e11⟩ := hSw; go_simp <;> with_reducible rfl)
                  try simp only [Act.put, List.getElem_toArray, List.getElem_cons_zero, List.getElem_cons_succ, List.setIfInBounds_toArray, List.set_cons_zero, List.set_cons_succ]
                  have hAne : w.heap.size ≠ gA := by have := LA.out; omega
                  have hBne : w.heap.size ≠ gB := by have := LB.out; omega
                  refine wpAnyH_ready (rs := [19]) (by kernel_rfl) (by simp) ?_
                  refine AllReadyH.cons rfl (fun K hK => ?_) AllReadyH.nil
                  rw [if_pos (by rfl)]
                  have XB1 := hide (row_far (W := v36) (g := gA) #[.int .i64 a.kind, .int .i64 a.level, .slice a.aI a.items.length a.cI, .slice a.aD a.data.length a.cD, .int .i64 a.next] XB.out (Ne.symm NE.out))
                  refine wp_store_row 25 _ _ rfl gA _ rfl rfl 25 _ XA.out sizePage rfl (by simp [Value.oneCell']) ?_
                  refine hK.out _ _ (cells12b (row_far _ (BX.out _ BB.out) hAne)) (fun hHeld => ?_)
                  clear hK K
                  try simp only [Act.put, List.getElem_toArray, List.getElem_cons_zero, List.getElem_cons_succ, List.setIfInBounds_toArray, List.set_cons_zero, List.set_cons_succ]
                  refine wpAnyH_ready (rs := [20]) (by kernel_rfl) (by simp) ?_
                  refine AllReadyH.cons rfl (fun K hK => ?_) AllReadyH.nil
                  rw [if_pos (by rfl)]
                  refine wp_store_row 25 _ _ rfl gB _ rfl rfl 25 _ XB1.out sizePage rfl (by simp [Value.oneCell']) ?_
                  refine hK.out _ _ (cells12b (row_far _ (row_far _ (BX.out _ BB.out) hAne) hBne)) (fun hHeld => ?_)
                  clear hK K
                  try simp only [Act.put, List.getElem_toArray, List.getElem_cons_zero, List.getElem_cons_succ, List.setIfInBounds_toArray, List.set_cons_zero, List.set_cons_succ]
                  refine wpAnyH_take (i := 21) (v := ?vat122834353621) rfl (by kernel_rfl) (by kernel_rfl) (by kernel_rfl) (fun _ _ _ h => h) (Or.inl ⟨by rfl, ?hyt122834353621⟩) (by assumption) ?rat122834353621
                  case hyt122834353621 => (intro wq hSw; (try dsimp only at hSw); obtain ⟨e0, e1, e2, e3, e4, e5, e6, e7, e8, e9, e10, e11⟩ := hSw; go_simp <;> with_reducible rfl)
                  try simp only [Act.put, List.getElem_toArray, List.getElem_cons_zero, List.getElem_cons_succ, List.setIfInBounds_toArray, List.set_cons_zero, List.set_cons_succ]
                  refine wpAnyH_take (i := 22) (v := ?vat122834353622) rfl (by kernel_rfl) (by kernel_rfl) (by kernel_rfl) (fun _ _ _ h => h) (Or.inl ⟨by rfl, ?hyt122834353622⟩) (by assumption) ?rat122834353622
                  case hyt122834353622 => (intro wq hSw; (try dsimp only at hSw); obtain ⟨e0, e1, e2, e3, e4, e5, e6, e7, e8, e9, e10, e11⟩ := hSw; go_simp <;> with_reducible rfl)
                  try simp only [Act.put, List.getElem_toArray, List.getElem_cons_zero, List.getElem_cons_succ, List.setIfInBounds_toArray, List.set_cons_zero, List.set_cons_succ]
                  refine wpAnyH_done (by kernel_rfl) ?_ _
                  clear hHeld
                  go_wp2_with fail
                  go_meet
                  case rel => exact ⟨gA, gB, a, b, aU, cU, rfl, rfl, rfl, rfl, ⟨row_far _ (setRow_heap _ _ _ _ _ _ XA.out) NE.out, setRow_heap _ _ _ _ _ _ XB1.out, (HQ.out.but (but_setRow _ gA _) (fun k hk => ⟨_, _, by subst hk; exact XA.out, by decide, by decide⟩) (below_row _ HQ.out.b LA.out)).but (but_setRow _ gB _) (fun k hk => ⟨_, _, by subst hk; exact XB1.out, by decide, by decide⟩) (below_row _ (below_row _ HQ.out.b LA.out) LB.out), EA.out, EB.out⟩⟩
        · go_simp
          have AL := hide (al v1 (.cells #[.int .i64 0, .int .i64 0, .slice none 0 0, .slice none 0 0, .int .i64 0] 25))
          have LA : Hid (w1.heap.size ≤ v1.heap.size) := BB.out.size
          replace SX := hide (SX.out.keep AL.out)
          replace BB := hide (bt BB.out AL.out)
          have XA := hide (heap_alloc_new v1 (.cells #[.int .i64 0, .int .i64 0, .slice none 0 0, .slice none 0 0, .int .i64 0] 25))
          refine hK.out _ _ (SS.out _ BB.out) (fun hHeld => ?_)
          clear hK K AL
          try simp only [Act.put, List.getElem_toArray, List.getElem_cons_zero, List.getElem_cons_succ, List.setIfInBounds_toArray, List.set_cons_zero, List.set_cons_succ]
          generalize (v1.alloc (.cells #[.int .i64 0, .int .i64 0, .slice none 0 0, .slice none 0 0, .int .i64 0] 25)) = v37 at *
          generalize v1.heap.size = gA at *
          refine wpAnyH_ready (rs := [5, 18]) (by kernel_rfl) (by simp) ?_
          refine (AllReadyH.cons rfl (fun K hK => ?_) (AllReadyH.cons rfl (fun K hK => ?_) AllReadyH.nil))
          · go_simp
            refine (SP2.out _ BB.out).mono ?_
            rintro _ v38 ⟨y, rfl, hS, -, hE, hb⟩
            have SY := hide hS
            have EY := hide hE
            replace SX := hide (SX.out.keep hb)
            replace XA := hide (blk_keep XA.out hb)
            replace BB := hide (bt BB.out hb)
            clear hS hE hb
            go_wp2_with fail
            refine hK.out _ _ (SS.out _ BB.out) (fun hHeld => ?_)
            clear hK K
            try simp only [Act.put, List.getElem_toArray, List.getElem_cons_zero, List.getElem_cons_succ, List.setIfInBounds_toArray, List.set_cons_zero, List.set_cons_succ]
            refine wpAnyH_ready (rs := [8, 18]) (by kernel_rfl) (by simp) ?_
            refine (AllReadyH.cons rfl (fun K hK => ?_) (AllReadyH.cons rfl (fun K hK => ?_) AllReadyH.nil))
            · go_simp
              refine (SP3.out _ BB.out).mono ?_
              rintro _ v39 ⟨aK, cK, rfl, hO⟩
              have hb := hO.b
              have SK := hide hO.r
              replace SX := hide (SX.out.keep hb)
              replace SY := hide (SY.out.keep hb)
              replace XA := hide (blk_keep XA.out hb)
              replace BB := hide (bt BB.out hb)
              clear hO hb
              go_wp2_with fail
              refine hK.out _ _ (SS.out _ BB.out) (fun hHeld => ?_)
              clear hK K
              try simp only [Act.put, List.getElem_toArray, List.getElem_cons_zero, List.getElem_cons_succ, List.setIfInBounds_toArray, List.set_cons_zero, List.set_cons_succ]
              refine wpAnyH_ready (rs := [11, 18]) (by kernel_rfl) (by simp) ?_
              refine (AllReadyH.cons rfl (fun K hK => ?_) (AllReadyH.cons rfl (fun K hK => ?_) AllReadyH.nil))
              · go_simp
                refine (LN.out _ x y aK cK BB.out SX.out SY.out SK.out EX.out EY.out).mono ?_
                rintro _ v40 ⟨a, b, aU, cU, rfl, hH, ha, hb2⟩
                have hb := hH.b
                have HQ := hide (hH.pre BB.out)
                have EA := hide ha
                have EB := hide hb2
                clear SX SY SK
                replace XA := hide (blk_keep XA.out hb)
                replace BB := hide (bt BB.out hb)
                clear hH ha hb2 hb
                go_wp2_with fail
                refine hK.out _ _ (SS.out _ BB.out) (fun hHeld => ?_)
                clear hK K
                try simp only [Act.put, List.getElem_toArray, List.getElem_cons_zero, List.getElem_cons_succ, List.setIfInBounds_toArray, List.set_cons_zero, List.set_cons_succ]
                refine wpAnyH_take (i := 12) (v := ?vat137383940x12) rfl (by kernel_rfl) (by kernel_rfl) (by kernel_rfl) (fun _ _ _ h => h) (Or.inl ⟨by rfl, ?hyt137383940x12⟩) (by assumption) ?rat137383940x12
                case hyt137383940x12 => (intro wq hSw; (try dsimp only at hSw); obtain ⟨e0, e1, e2, e3, e4, e5, e6, e7, e8, e9, e10, e11⟩ := hSw; go_simp <;> with_reducible rfl)
                try simp only [Act.put, List.getElem_toArray, List.getElem_cons_zero, List.getElem_cons_succ, List.setIfInBounds_toArray, List.set_cons_zero, List.set_cons_succ]
                refine wpAnyH_take (i := 13) (v := ?vat137383940x13) rfl (by kernel_rfl) (by kernel_rfl) (by kernel_rfl) (fun _ _ _ h => h) (Or.inl ⟨by rfl, ?hyt137383940x13⟩) (by assumption) ?rat137383940x13
                case hyt137383940x13 => (intro wq hSw; (try dsimp only at hSw); obtain ⟨e0, e1, e2, e3, e4, e5, e6, e7, e8, e9, e10, e11⟩ := hSw; go_simp <;> with_reducible rfl)
                try simp only [Act.put, List.getElem_toArray, List.getElem_cons_zero, List.getElem_cons_succ, List.setIfInBounds_toArray, List.set_cons_zero, List.set_cons_succ]
                refine wpAnyH_take (i := 14) (v := ?vat137383940x14) rfl (by kernel_rfl) (by kernel_rfl) (by kernel_rfl) (fun _ _ _ h => h) (Or.inl ⟨by rfl, ?hyt137383940x14⟩) (by assumption) ?rat137383940x14
                case hyt137383940x14 => (intro wq hSw; (try dsimp only at hSw); obtain ⟨e0, e1, e2, e3, e4, e5, e6, e7, e8, e9, e10, e11⟩ := hSw; go_simp <;> with_reducible rfl)
                try simp only [Act.put, List.getElem_toArray, List.getElem_cons_zero, List.getElem_cons_succ, List.setIfInBounds_toArray, List.set_cons_zero, List.set_cons_succ]
                refine wpAnyH_take (i := 15) (v := ?vat137383940x15) rfl (by kernel_rfl) (by kernel_rfl) (by kernel_rfl) (fun _ _ _ h => h) (Or.inl ⟨by rfl, ?hyt137383940x15⟩) (by assumption) ?rat137383940x15
                case hyt137383940x15 => (intro wq hSw; (try dsimp only at hSw); obtain ⟨e0, e1, e2, e3, e4, e5, e6, e7, e8, e9, e10, e11⟩ := hSw; go_simp <;> with_reducible rfl)
                try simp only [Act.put, List.getElem_toArray, List.getElem_cons_zero, List.getElem_cons_succ, List.setIfInBounds_toArray, List.set_cons_zero, List.set_cons_succ]
                refine wpAnyH_take (i := 16) (v := ?vat137383940x16) rfl (by kernel_rfl) (by kernel_rfl) (by kernel_rfl) (fun _ _ _ h => h) (Or.inl ⟨by rfl, ?hyt137383940x16⟩) (by assumption) ?rat137383940x16
                case hyt137383940x16 => (intro wq hSw; (try dsimp only at hSw); obtain ⟨e0, e1, e2, e3, e4, e5, e6, e7, e8, e9, e10, e11⟩ := hSw; go_simp <;> with_reducible rfl)
                try simp only [Act.put, List.getElem_toArray, List.getElem_cons_zero, List.getElem_cons_succ, List.setIfInBounds_toArray, List.set_cons_zero, List.set_cons_succ]
                refine wpAnyH_ready (rs := [18]) (by kernel_rfl) (by simp) ?_
                refine (AllReadyH.cons rfl (fun K hK => ?_) AllReadyH.nil)
                · go_simp
                  have AL := hide (al v40 (.cells #[.int .i64 0, .int .i64 0, .slice none 0 0, .slice none 0 0, .int .i64 0] 25))
                  have LB : Hid (w1.heap.size ≤ v40.heap.size) := BB.out.size
                  have NE : Hid (gA ≠ v40.heap.size) := by have := (Array.getElem?_eq_some_iff.1 XA.out).1; show _ ≠ _; omega
                  replace HQ := hide (HQ.out.keep AL.out)
                  replace XA := hide (blk_keep XA.out AL.out)
                  replace BB := hide (bt BB.out AL.out)
                  have XB := hide (heap_alloc_new v40 (.cells #[.int .i64 0, .int .i64 0, .slice none 0 0, .slice none 0 0, .int .i64 0] 25))
                  refine hK.out _ _ (SS.out _ BB.out) (fun hHeld => ?_)
                  clear hK K AL
                  try simp only [Act.put, List.getElem_toArray, List.getElem_cons_zero, List.getElem_cons_succ, List.setIfInBounds_toArray, List.set_cons_zero, List.set_cons_succ]
                  generalize (v40.alloc (.cells #[.int .i64 0, .int .i64 0, .slice none 0 0, .slice none 0 0, .int .i64 0] 25)) = v41 at *
                  generalize v40.heap.size = gB at *
                  have hAne : w.heap.size ≠ gA := by have := LA.out; omega
                  have hBne : w.heap.size ≠ gB := by have := LB.out; omega
                  refine wpAnyH_ready (rs := [19]) (by kernel_rfl) (by simp) ?_
                  refine AllReadyH.cons rfl (fun K hK => ?_) AllReadyH.nil
                  rw [if_pos (by rfl)]
                  have XB1 := hide (row_far (W := v41) (g := gA) #[.int .i64 a.kind, .int .i64 a.level, .slice a.aI a.items.length a.cI, .slice a.aD a.data.length a.cD, .int .i64 a.next] XB.out (Ne.symm NE.out))
                  refine wp_store_row 25 _ _ rfl gA _ rfl rfl 25 _ XA.out sizePage rfl (by simp [Value.oneCell']) ?_
                  refine hK.out _ _ (cells12b (row_far _ (BX.out _ BB.out) hAne)) (fun hHeld => ?_)
                  clear hK K
                  try simp only [Act.put, List.getElem_toArray, List.getElem_cons_zero, List.getElem_cons_succ, List.setIfInBounds_toArray, List.set_cons_zero, List.set_cons_succ]
                  refine wpAnyH_ready (rs := [20]) (by kernel_rfl) (by simp) ?_
                  refine AllReadyH.cons rfl (fun K hK => ?_) AllReadyH.nil
                  rw [if_pos (by rfl)]
                  refine wp_store_row 25 _ _ rfl gB _ rfl rfl 25 _ XB1.out sizePage rfl (by simp [Value.oneCell']) ?_
                  refine hK.out _ _ (cells12b (row_far _ (row_far _ (BX.out _ BB.out) hAne) hBne)) (fun hHeld => ?_)
                  clear hK K
                  try simp only [Act.put, List.getElem_toArray, List.getElem_cons_zero, List.getElem_cons_succ, List.setIfInBounds_toArray, List.set_cons_zero, List.set_cons_succ]
                  refine wpAnyH_take (i := 21) (v := ?vat1373839404121) rfl (by kernel_rfl) (by kernel_rfl) (by kernel_rfl) (fun _ _ _ h => h) (Or.inl ⟨by rfl, ?hyt1373839404121⟩) (by assumption) ?rat1373839404121
                  case hyt1373839404121 => (intro wq hSw; (try dsimp only at hSw); obtain ⟨e0, e1, e2, e3, e4, e5, e6, e7, e8, e9, e10, e11⟩ := hSw; go_simp <;> with_reducible rfl)
                  try simp only [Act.put, List.getElem_toArray, List.getElem_cons_zero, List.getElem_cons_succ, List.setIfInBounds_toArray, List.set_cons_zero, List.set_cons_succ]
                  refine wpAnyH_take (i := 22) (v := ?vat1373839404122) rfl (by kernel_rfl) (by kernel_rfl) (by kernel_rfl) (fun _ _ _ h => h) (Or.inl ⟨by rfl, ?hyt1373839404122⟩) (by assumption) ?rat1373839404122
                  case hyt1373839404122 => (intro wq hSw; (try dsimp only at hSw); obtain ⟨e0, e1, e2, e3, e4, e5, e6, e7, e8, e9, e10, e11⟩ := hSw; go_simp <;> with_reducible rfl)
                  try simp only [Act.put, List.getElem_toArray, List.getElem_cons_zero, List.getElem_cons_succ, List.setIfInBounds_toArray, List.set_cons_zero, List.set_cons_succ]
                  refine wpAnyH_done (by kernel_rfl) ?_ _
                  clear hHeld
                  go_wp2_with fail
                  go_meet
                  case rel => exact ⟨gA, gB, a, b, aU, cU, rfl, rfl, rfl, rfl, ⟨row_far _ (setRow_heap _ _ _ _ _ _ XA.out) NE.out, setRow_heap _ _ _ _ _ _ XB1.out, (HQ.out.but (but_setRow _ gA _) (fun k hk => ⟨_, _, by subst hk; exact XA.out, by decide, by decide⟩) (below_row _ HQ.out.b LA.out)).but (but_setRow _ gB _) (fun k hk => ⟨_, _, by subst hk; exact XB1.out, by decide, by decide⟩) (below_row _ (below_row _ HQ.out.b LA.out) LB.out), EA.out, EB.out⟩⟩
              · go_simp
                have AL := hide (al v39 (.cells #[.int .i64 0, .int .i64 0, .slice none 0 0, .slice none 0 0, .int .i64 0] 25))
                have LB : Hid (w1.heap.size ≤ v39.heap.size) := BB.out.size
                have NE : Hid (gA ≠ v39.heap.size) := by have := (Array.getElem?_eq_some_iff.1 XA.out).1; show _ ≠ _; omega
                replace SX := hide (SX.out.keep AL.out)
                replace SY := hide (SY.out.keep AL.out)
                replace SK := hide (SK.out.keep AL.out)
                replace XA := hide (blk_keep XA.out AL.out)
                replace BB := hide (bt BB.out AL.out)
                have XB := hide (heap_alloc_new v39 (.cells #[.int .i64 0, .int .i64 0, .slice none 0 0, .slice none 0 0, .int .i64 0] 25))
                refine hK.out _ _ (SS.out _ BB.out) (fun hHeld => ?_)
                clear hK K AL
                try simp only [Act.put, List.getElem_toArray, List.getElem_cons_zero, List.getElem_cons_succ, List.setIfInBounds_toArray, List.set_cons_zero, List.set_cons_succ]
                generalize (v39.alloc (.cells #[.int .i64 0, .int .i64 0, .slice none 0 0, .slice none 0 0, .int .i64 0] 25)) = v42 at *
                generalize v39.heap.size = gB at *
                refine wpAnyH_ready (rs := [11]) (by kernel_rfl) (by simp) ?_
                refine (AllReadyH.cons rfl (fun K hK => ?_) AllReadyH.nil)
                · go_simp
                  refine (LN.out _ x y aK cK BB.out SX.out SY.out SK.out EX.out EY.out).mono ?_
                  rintro _ v43 ⟨a, b, aU, cU, rfl, hH, ha, hb2⟩
                  have hb := hH.b
                  have HQ := hide (hH.pre BB.out)
                  have EA := hide ha
                  have EB := hide hb2
                  clear SX SY SK
                  replace XA := hide (blk_keep XA.out hb)
                  replace XB := hide (blk_keep XB.out hb)
                  replace BB := hide (bt BB.out hb)
                  clear hH ha hb2 hb
                  go_wp2_with fail
                  refine hK.out _ _ (SS.out _ BB.out) (fun hHeld => ?_)
                  clear hK K
                  try simp only [Act.put, List.getElem_toArray, List.getElem_cons_zero, List.getElem_cons_succ, List.setIfInBounds_toArray, List.set_cons_zero, List.set_cons_succ]
                  refine wpAnyH_take (i := 12) (v := ?vat13738394243x12) rfl (by kernel_rfl) (by kernel_rfl) (by kernel_rfl) (fun _ _ _ h => h) (Or.inl ⟨by rfl, ?hyt13738394243x12⟩) (by assumption) ?rat13738394243x12
                  case hyt13738394243x12 => (intro wq hSw; (try dsimp only at hSw); obtain ⟨e0, e1, e2, e3, e4, e5, e6, e7, e8, e9, e10, e11⟩ := hSw; go_simp <;> with_reducible rfl)
                  try simp only [Act.put, List.getElem_toArray, List.getElem_cons_zero, List.getElem_cons_succ, List.setIfInBounds_toArray, List.set_cons_zero, List.set_cons_succ]
                  refine wpAnyH_take (i := 13) (v := ?vat13738394243x13) rfl (by kernel_rfl) (by kernel_rfl) (by kernel_rfl) (fun _ _ _ h => h) (Or.inl ⟨by rfl, ?hyt13738394243x13⟩) (by assumption) ?rat13738394243x13
                  case hyt13738394243x13 => (intro wq hSw; (try dsimp only at hSw); obtain ⟨e0, e1, e2, e3, e4, e5, e6, e7, e8, e9, e10, e11⟩ := hSw; go_simp <;> with_reducible rfl)
                  try simp only [Act.put, List.getElem_toArray, List.getElem_cons_zero, List.getElem_cons_succ, List.setIfInBounds_toArray, List.set_cons_zero, List.set_cons_succ]
                  refine wpAnyH_take (i := 14) (v := ?vat13738394243x14) rfl (by kernel_rfl) (by kernel_rfl) (by kernel_rfl) (fun _ _ _ h => h) (Or.inl ⟨by rfl, ?hyt13738394243x14⟩) (by assumption) ?rat13738394243x14
                  case hyt13738394243x14 => (intro wq hSw; (try dsimp only at hSw); obtain ⟨e0, e1, e2, e3, e4, e5, e6, e7, e8, e9, e10, e11⟩ := hSw; go_simp <;> with_reducible rfl)
                  try simp only [Act.put, List.getElem_toArray, List.getElem_cons_zero, List.getElem_cons_succ, List.setIfInBounds_toArray, List.set_cons_zero, List.set_cons_succ]
                  refine wpAnyH_take (i := 15) (v := ?vat13738394243x15) rfl (by kernel_rfl) (by kernel_rfl) (by kernel_rfl) (fun _ _ _ h => h) (Or.inl ⟨by rfl, ?hyt13738394243x15⟩) (by assumption) ?rat13738394243x15
                  case hyt13738394243x15 => (intro wq hSw; (try dsimp only at hSw); obtain ⟨e0, e1, e2, e3, e4, e5, e6, e7, e8, e9, e10, e11⟩ := hSw; go_simp <;> with_reducible rfl)
                  try simp only [Act.put, List.getElem_toArray, List.getElem_cons_zero, List.getElem_cons_succ, List.setIfInBounds_toArray, List.set_cons_zero, List.set_cons_succ]
                  refine wpAnyH_take (i := 16) (v := ?vat13738394243x16) rfl (by kernel_rfl) (by kernel_rfl) (by kernel_rfl) (fun _ _ _ h => h) (Or.inl ⟨by rfl, ?hyt13738394243x16⟩) (by assumption) ?rat13738394243x16
                  case hyt13738394243x16 => (intro wq hSw; (try dsimp only at hSw); obtain ⟨e0, e1, e2, e3, e4, e5, e6, e7, e8, e9, e10, e11⟩ := hSw; go_simp <;> with_reducible rfl)
                  try simp only [Act.put, List.getElem_toArray, List.getElem_cons_zero, List.getElem_cons_succ, List.setIfInBounds_toArray, List.set_cons_zero, List.set_cons_succ]
                  have hAne : w.heap.size ≠ gA := by have := LA.out; omega
                  have hBne : w.heap.size ≠ gB := by have := LB.out; omega
                  refine wpAnyH_ready (rs := [19]) (by kernel_rfl) (by simp) ?_
                  refine AllReadyH.cons rfl (fun K hK => ?_) AllReadyH.nil
                  rw [if_pos (by rfl)]
                  have XB1 := hide (row_far (W := v43) (g := gA) #[.int .i64 a.kind, .int .i64 a.level, .slice a.aI a.items.length a.cI, .slice a.aD a.data.length a.cD, .int .i64 a.next] XB.out (Ne.symm NE.out))
                  refine wp_store_row 25 _ _ rfl gA _ rfl rfl 25 _ XA.out sizePage rfl (by simp [Value.oneCell']) ?_
                  refine hK.out _ _ (cells12b (row_far _ (BX.out _ BB.out) hAne)) (fun hHeld => ?_)
                  clear hK K
                  try simp only [Act.put, List.getElem_toArray, List.getElem_cons_zero, List.getElem_cons_succ, List.setIfInBounds_toArray, List.set_cons_zero, List.set_cons_succ]
                  refine wpAnyH_ready (rs := [20]) (by kernel_rfl) (by simp) ?_
                  refine AllReadyH.cons rfl (fun K hK => ?_) AllReadyH.nil
                  rw [if_pos (by rfl)]
                  refine wp_store_row 25 _ _ rfl gB _ rfl rfl 25 _ XB1.out sizePage rfl (by simp [Value.oneCell']) ?_
                  refine hK.out _ _ (cells12b (row_far _ (row_far _ (BX.out _ BB.out) hAne) hBne)) (fun hHeld => ?_)
                  clear hK K
                  try simp only [Act.put, List.getElem_toArray, List.getElem_cons_zero, List.getElem_cons_succ, List.setIfInBounds_toArray, List.set_cons_zero, List.set_cons_succ]
                  refine wpAnyH_take (i := 21) (v := ?vat1373839424321) rfl (by kernel_rfl) (by kernel_rfl) (by kernel_rfl) (fun _ _ _ h => h) (Or.inl ⟨by rfl, ?hyt1373839424321⟩) (by assumption) ?rat1373839424321
                  case hyt1373839424321 => (intro wq hSw; (try dsimp only at hSw); obtain ⟨e0, e1, e2, e3, e4, e5, e6, e7, e8, e9, e10, e11⟩ := hSw; go_simp <;> with_reducible rfl)
                  try simp only [Act.put, List.getElem_toArray, List.getElem_cons_zero, List.getElem_cons_succ, List.setIfInBounds_toArray, List.set_cons_zero, List.set_cons_succ]
                  refine wpAnyH_take (i := 22) (v := ?vat1373839424322) rfl (by kernel_rfl) (by kernel_rfl) (by kernel_rfl) (fun _ _ _ h => h) (Or.inl ⟨by rfl, ?hyt1373839424322⟩) (by assumption) ?rat1373839424322
                  case hyt1373839424322 => (intro wq hSw; (try dsimp only at hSw); obtain ⟨e0, e1, e2, e3, e4, e5, e6, e7, e8, e9, e10, e11⟩ := hSw; go_simp <;> with_reducible rfl)
                  try simp only [Act.put, List.getElem_toArray, List.getElem_cons_zero, List.getElem_cons_succ, List.setIfInBounds_toArray, List.set_cons_zero, List.set_cons_succ]
                  refine wpAnyH_done (by kernel_rfl) ?_ _
                  clear hHeld
                  go_wp2_with fail
                  go_meet
                  case rel => exact ⟨gA, gB, a, b, aU, cU, rfl, rfl, rfl, rfl, ⟨row_far _ (setRow_heap _ _ _ _ _ _ XA.out) NE.out, setRow_heap _ _ _ _ _ _ XB1.out, (HQ.out.but (but_setRow _ gA _) (fun k hk => ⟨_, _, by subst hk; exact XA.out, by decide, by decide⟩) (below_row _ HQ.out.b LA.out)).but (but_setRow _ gB _) (fun k hk => ⟨_, _, by subst hk; exact XB1.out, by decide, by decide⟩) (below_row _ (below_row _ HQ.out.b LA.out) LB.out), EA.out, EB.out⟩⟩
            · go_simp
              have AL := hide (al v38 (.cells #[.int .i64 0, .int .i64 0, .slice none 0 0, .slice none 0 0, .int .i64 0] 25))
              have LB : Hid (w1.heap.size ≤ v38.heap.size) := BB.out.size
              have NE : Hid (gA ≠ v38.heap.size) := by have := (Array.getElem?_eq_some_iff.1 XA.out).1; show _ ≠ _; omega
              replace SX := hide (SX.out.keep AL.out)
              replace SY := hide (SY.out.keep AL.out)
              replace XA := hide (blk_keep XA.out AL.out)
              replace BB := hide (bt BB.out AL.out)
              have XB := hide (heap_alloc_new v38 (.cells #[.int .i64 0, .int .i64 0, .slice none 0 0, .slice none 0 0, .int .i64 0] 25))
              refine hK.out _ _ (SS.out _ BB.out) (fun hHeld => ?_)
              clear hK K AL
              try simp only [Act.put, List.getElem_toArray, List.getElem_cons_zero, List.getElem_cons_succ, List.setIfInBounds_toArray, List.set_cons_zero, List.set_cons_succ]
              generalize (v38.alloc (.cells #[.int .i64 0, .int .i64 0, .slice none 0 0, .slice none 0 0, .int .i64 0] 25)) = v44 at *
              generalize v38.heap.size = gB at *
              refine wpAnyH_ready (rs := [8]) (by kernel_rfl) (by simp) ?_
              refine (AllReadyH.cons rfl (fun K hK => ?_) AllReadyH.nil)
              · go_simp
                refine (SP3.out _ BB.out).mono ?_
                rintro _ v45 ⟨aK, cK, rfl, hO⟩
                have hb := hO.b
                have SK := hide hO.r
                replace SX := hide (SX.out.keep hb)
                replace SY := hide (SY.out.keep hb)
                replace XA := hide (blk_keep XA.out hb)
                replace XB := hide (blk_keep XB.out hb)
                replace BB := hide (bt BB.out hb)
                clear hO hb
                go_wp2_with fail
                refine hK.out _ _ (SS.out _ BB.out) (fun hHeld => ?_)
                clear hK K
                try simp only [Act.put, List.getElem_toArray, List.getElem_cons_zero, List.getElem_cons_succ, List.setIfInBounds_toArray, List.set_cons_zero, List.set_cons_succ]
                refine wpAnyH_ready (rs := [11]) (by kernel_rfl) (by simp) ?_
                refine (AllReadyH.cons rfl (fun K hK => ?_) AllReadyH.nil)
                · go_simp
                  refine (LN.out _ x y aK cK BB.out SX.out SY.out SK.out EX.out EY.out).mono ?_
                  rintro _ v46 ⟨a, b, aU, cU, rfl, hH, ha, hb2⟩
                  have hb := hH.b
                  have HQ := hide (hH.pre BB.out)
                  have EA := hide ha
                  have EB := hide hb2
                  clear SX SY SK
                  replace XA := hide (blk_keep XA.out hb)
                  replace XB := hide (blk_keep XB.out hb)
                  replace BB := hide (bt BB.out hb)
                  clear hH ha hb2 hb
                  go_wp2_with fail
                  refine hK.out _ _ (SS.out _ BB.out) (fun hHeld => ?_)
                  clear hK K
                  try simp only [Act.put, List.getElem_toArray, List.getElem_cons_zero, List.getElem_cons_succ, List.setIfInBounds_toArray, List.set_cons_zero, List.set_cons_succ]
                  refine wpAnyH_take (i := 12) (v := ?vat13738444546x12) rfl (by kernel_rfl) (by kernel_rfl) (by kernel_rfl) (fun _ _ _ h => h) (Or.inl ⟨by rfl, ?hyt13738444546x12⟩) (by assumption) ?rat13738444546x12
                  case hyt13738444546x12 => (intro wq hSw; (try dsimp only at hSw); obtain ⟨e0, e1, e2, e3, e4, e5, e6, e7, e8, e9, e10, e11⟩ := hSw; go_simp <;> with_reducible rfl)
                  try simp only [Act.put, List.getElem_toArray, List.getElem_cons_zero, List.getElem_cons_succ, List.setIfInBounds_toArray, List.set_cons_zero, List.set_cons_succ]
                  refine wpAnyH_take (i := 13) (v := ?vat13738444546x13) rfl (by kernel_rfl) (by kernel_rfl) (by kernel_rfl) (fun _ _ _ h => h) (Or.inl ⟨by rfl, ?hyt13738444546x13⟩) (by assumption) ?rat13738444546x13
                  case hyt13738444546x13 => (intro wq hSw; (try dsimp only at hSw); obtain ⟨e0, e1, e2, e3, e4, e5, e6, e7, e8, e9, e10, e11⟩ := hSw; go_simp <;> with_reducible rfl)
                  try simp only [Act.put, List.getElem_toArray, List.getElem_cons_zero, List.getElem_cons_succ, List.setIfInBounds_toArray, List.set_cons_zero, List.set_cons_succ]
                  refine wpAnyH_take (i := 14) (v := ?vat13738444546x14) rfl (by kernel_rfl) (by kernel_rfl) (by kernel_rfl) (fun _ _ _ h => h) (Or.inl ⟨by rfl, ?hyt13738444546x14⟩) (by assumption) ?rat13738444546x14
                  case hyt13738444546x14 => (intro wq hSw; (try dsimp only at hSw); obtain ⟨e0, e1, e2, e3, e4, e5, e6, e7, e8, e9, e10, e11⟩ := hSw; go_simp <;> with_reducible rfl)
                  try simp only [Act.put, List.getElem_toArray, List.getElem_cons_zero, List.getElem_cons_succ, List.setIfInBounds_toArray, List.set_cons_zero, List.set_cons_succ]
                  refine wpAnyH_take (i := 15) (v := ?vat13738444546x15) rfl (by kernel_rfl) (by kernel_rfl) (by kernel_rfl) (fun _ _ _ h => h) (Or.inl ⟨by rfl, ?hyt13738444546x15⟩) (by assumption) ?rat13738444546x15
                  case hyt13738444546x15 => (intro wq hSw; (try dsimp only at hSw); obtain ⟨e0, e1, e2, e3, e4, e5, e6, e7, e8, e9, e10, e11⟩ := hSw; go_simp <;> with_reducible rfl)
                  try simp only [Act.put, List.getElem_toArray, List.getElem_cons_zero, List.getElem_cons_succ, List.setIfInBounds_toArray, List.set_cons_zero, List.set_cons_succ]
                  refine wpAnyH_take (i := 16) (v := ?vat13738444546x16) rfl (by kernel_rfl) (by kernel_rfl) (by kernel_rfl) (fun _ _ _ h => h) (Or.inl ⟨by rfl, ?hyt13738444546x16⟩) (by assumption) ?rat13738444546x16
                  case hyt13738444546x16 => (intro wq hSw; (try dsimp only at hSw); obtain ⟨e0, e1, e2, e3, e4, e5, e6, e7, e8, e9, e10, e11⟩ := hSw; go_simp <;> with_reducible rfl)
                  try simp only [Act.put, List.getElem_toArray, List.getElem_cons_zero, List.getElem_cons_succ, List.setIfInBounds_toArray, List.set_cons_zero, List.set_cons_succ]
                  have hAne : w.heap.size ≠ gA := by have := LA.out; omega
                  have hBne : w.heap.size ≠ gB := by have := LB.out; omega
                  refine wpAnyH_ready (rs := [19]) (by kernel_rfl) (by simp) ?_
                  refine AllReadyH.cons rfl (fun K hK => ?_) AllReadyH.nil
                  rw [if_pos (by rfl)]
                  have XB1 := hide (row_far (W := v46) (g := gA) #[.int .i64 a.kind, .int .i64 a.level, .slice a.aI a.items.length a.cI, .slice a.aD a.data.length a.cD, .int .i64 a.next] XB.out (Ne.symm NE.out))
                  refine wp_store_row 25 _ _ rfl gA _ rfl rfl 25 _ XA.out sizePage rfl (by simp [Value.oneCell']) ?_
                  refine hK.out _ _ (cells12b (row_far _ (BX.out _ BB.out) hAne)) (fun hHeld => ?_)
                  clear hK K
                  try simp only [Act.put, List.getElem_toArray, List.getElem_cons_zero, List.getElem_cons_succ, List.setIfInBounds_toArray, List.set_cons_zero, List.set_cons_succ]
                  refine wpAnyH_ready (rs := [20]) (by kernel_rfl) (by simp) ?_
                  refine AllReadyH.cons rfl (fun K hK => ?_) AllReadyH.nil
                  rw [if_pos (by rfl)]
                  refine wp_store_row 25 _ _ rfl gB _ rfl rfl 25 _ XB1.out sizePage rfl (by simp [Value.oneCell']) ?_
                  refine hK.out _ _ (cells12b (row_far _ (row_far _ (BX.out _ BB.out) hAne) hBne)) (fun hHeld => ?_)
                  clear hK K
                  try simp only [Act.put, List.getElem_toArray, List.getElem_cons_zero, List.getElem_cons_succ, List.setIfInBounds_toArray, List.set_cons_zero, List.set_cons_succ]
                  refine wpAnyH_take (i := 21) (v := ?vat1373844454621) rfl (by kernel_rfl) (by kernel_rfl) (by kernel_rfl) (fun _ _ _ h => h) (Or.inl ⟨by rfl, ?hyt1373844454621⟩) (by assumption) ?rat1373844454621
                  case hyt1373844454621 => (intro wq hSw; (try dsimp only at hSw); obtain ⟨e0, e1, e2, e3, e4, e5, e6, e7, e8, e9, e10, e11⟩ := hSw; go_simp <;> with_reducible rfl)
                  try simp only [Act.put, List.getElem_toArray, List.getElem_cons_zero, List.getElem_cons_succ, List.setIfInBounds_toArray, List.set_cons_zero, List.set_cons_succ]
                  refine wpAnyH_take (i := 22) (v := ?vat1373844454622) rfl (by kernel_rfl) (by kernel_rfl) (by kernel_rfl) (fun _ _ _ h => h) (Or.inl ⟨by rfl, ?hyt1373844454622⟩) (by assumption) ?rat1373844454622
                  case hyt1373844454622 => (intro wq hSw; (try dsimp only at hSw); obtain ⟨e0, e1, e2, e3, e4, e5, e6, e7, e8, e9, e10, e11⟩ := hSw; go_simp <;> with_reducible rfl)
                  try simp only [Act.put, List.getElem_toArray, List.getElem_cons_zero, List.getElem_cons_succ, List.setIfInBounds_toArray, List.set_cons_zero, List.set_cons_succ]
                  refine wpAnyH_done (by kernel_rfl) ?_ _
                  clear hHeld
                  go_wp2_with fail
                  go_meet
                  case rel => exact ⟨gA, gB, a, b, aU, cU, rfl, rfl, rfl, rfl, ⟨row_far _ (setRow_heap _ _ _ _ _ _ XA.out) NE.out, setRow_heap _ _ _ _ _ _ XB1.out, (HQ.out.but (but_setRow _ gA _) (fun k hk => ⟨_, _, by subst hk; exact XA.out, by decide, by decide⟩) (below_row _ HQ.out.b LA.out)).but (but_setRow _ gB _) (fun k hk => ⟨_, _, by subst hk; exact XB1.out, by decide, by decide⟩) (below_row _ (below_row _ HQ.out.b LA.out) LB.out), EA.out, EB.out⟩⟩
          · go_simp
            have AL := hide (al v37 (.cells #[.int .i64 0, .int .i64 0, .slice none 0 0, .slice none 0 0, .int .i64 0] 25))
            have LB : Hid (w1.heap.size ≤ v37.heap.size) := BB.out.size
            have NE : Hid (gA ≠ v37.heap.size) := by have := (Array.getElem?_eq_some_iff.1 XA.out).1; show _ ≠ _; omega
            replace SX := hide (SX.out.keep AL.out)
            replace XA := hide (blk_keep XA.out AL.out)
            replace BB := hide (bt BB.out AL.out)
            have XB := hide (heap_alloc_new v37 (.cells #[.int .i64 0, .int .i64 0, .slice none 0 0, .slice none 0 0, .int .i64 0] 25))
            refine hK.out _ _ (SS.out _ BB.out) (fun hHeld => ?_)
            clear hK K AL
            try simp only [Act.put, List.getElem_toArray, List.getElem_cons_zero, List.getElem_cons_succ, List.setIfInBounds_toArray, List.set_cons_zero, List.set_cons_succ]
            generalize (v37.alloc (.cells #[.int .i64 0, .int .i64 0, .slice none 0 0, .slice none 0 0, .int .i64 0] 25)) = v47 at *
            generalize v37.heap.size = gB at *
            refine wpAnyH_ready (rs := [5]) (by kernel_rfl) (by simp) ?_
            refine (AllReadyH.cons rfl (fun K hK => ?_) AllReadyH.nil)
            · go_simp
              refine (SP2.out _ BB.out).mono ?_
              rintro _ v48 ⟨y, rfl, hS, -, hE, hb⟩
              have SY := hide hS
              have EY := hide hE
              replace SX := hide (SX.out.keep hb)
              replace XA := hide (blk_keep XA.out hb)
              replace XB := hide (blk_keep XB.out hb)
              replace BB := hide (bt BB.out hb)
              clear hS hE hb
              go_wp2_with fail
              refine hK.out _ _ (SS.out _ BB.out) (fun hHeld => ?_)
              clear hK K
              try simp only [Act.put, List.getElem_toArray, List.getElem_cons_zero, List.getElem_cons_succ, List.setIfInBounds_toArray, List.set_cons_zero, List.set_cons_succ]
              refine wpAnyH_ready (rs := [8]) (by kernel_rfl) (by simp) ?_
              refine (AllReadyH.cons rfl (fun K hK => ?_) AllReadyH.nil)
              · go_simp
                refine (SP3.out _ BB.out).mono ?_
                rintro _ v49 ⟨aK, cK, rfl, hO⟩
                have hb := hO.b
                have SK := hide hO.r
                replace SX := hide (SX.out.keep hb)
                replace SY := hide (SY.out.keep hb)
                replace XA := hide (blk_keep XA.out hb)
                replace XB := hide (blk_keep XB.out hb)
                replace BB := hide (bt BB.out hb)
                clear hO hb
                go_wp2_with fail
                refine hK.out _ _ (SS.out _ BB.out) (fun hHeld => ?_)
                clear hK K
                try simp only [Act.put, List.getElem_toArray, List.getElem_cons_zero, List.getElem_cons_succ, List.setIfInBounds_toArray, List.set_cons_zero, List.set_cons_succ]
                refine wpAnyH_ready (rs := [11]) (by kernel_rfl) (by simp) ?_
                refine (AllReadyH.cons rfl (fun K hK => ?_) AllReadyH.nil)
                · go_simp
                  refine (LN.out _ x y aK cK BB.out SX.out SY.out SK.out EX.out EY.out).mono ?_
                  rintro _ v50 ⟨a, b, aU, cU, rfl, hH, ha, hb2⟩
                  have hb := hH.b
                  have HQ := hide (hH.pre BB.out)
                  have EA := hide ha
                  have EB := hide hb2
                  clear SX SY SK
                  replace XA := hide (blk_keep XA.out hb)
                  replace XB := hide (blk_keep XB.out hb)
                  replace BB := hide (bt BB.out hb)
                  clear hH ha hb2 hb
                  go_wp2_with fail
                  refine hK.out _ _ (SS.out _ BB.out) (fun hHeld => ?_)
                  clear hK K
                  try simp only [Act.put, List.getElem_toArray, List.getElem_cons_zero, List.getElem_cons_succ, List.setIfInBounds_toArray, List.set_cons_zero, List.set_cons_succ]
                  refine wpAnyH_take (i := 12) (v := ?vat13747484950x12) rfl (by kernel_rfl) (by kernel_rfl) (by kernel_rfl) (fun _ _ _ h => h) (Or.inl ⟨by rfl, ?hyt13747484950x12⟩) (by assumption) ?rat13747484950x12
                  case hyt13747484950x12 => (intro wq hSw; (try dsimp only at hSw); obtain ⟨e0, e1, e2, e3, e4, e5, e6, e7, e8, e9, e10, e11⟩ := hSw; go_simp <;> with_reducible rfl)
                  try simp only [Act.put, List.getElem_toArray, List.getElem_cons_zero, List.getElem_cons_succ, List.setIfInBounds_toArray, List.set_cons_zero, List.set_cons_succ]
                  refine wpAnyH_take (i := 13) (v := ?vat13747484950x13) rfl (by kernel_rfl) (by kernel_rfl) (by kernel_rfl) (fun _ _ _ h => h) (Or.inl ⟨by rfl, ?hyt13747484950x13⟩) (by assumption) ?rat13747484950x13
                  case hyt13747484950x13 => (intro wq hSw; (try dsimp only at hSw); obtain ⟨e0, e1, e2, e3, e4, e5, e6, e7, e8, e9, e10, e11⟩ := hSw; go_simp <;> with_reducible rfl)
                  try simp only [Act.put, List.getElem_toArray, List.getElem_cons_zero, List.getElem_cons_succ, List.setIfInBounds_toArray, List.set_cons_zero, List.set_cons_succ]
                  refine wpAnyH_take (i := 14) (v := ?vat13747484950x14) rfl (by kernel_rfl) (by kernel_rfl) (by kernel_rfl) (fun _ _ _ h => h) (Or.inl ⟨by rfl, ?hyt13747484950x14⟩) (by assumption) ?rat13747484950x14
                  case hyt13747484950x14 => (intro wq hSw; (try dsimp only at hSw); obtain ⟨e0, e1, e2, e3, e4, e5, e6, e7, e8, e9, e10, e11⟩ := hSw; go_simp <;> with_reducible rfl)
                  try simp only [Act.put, List.getElem_toArray, List.getElem_cons_zero, List.getElem_cons_succ, List.setIfInBounds_toArray, List.set_cons_zero, List.set_cons_succ]
                  refine wpAnyH_take (i := 15) (v := ?vat13747484950x15) rfl (by kernel_rfl) (by kernel_rfl) (by kernel_rfl) (fun _ _ _ h => h) (Or.inl ⟨by rfl, ?hyt13747484950x15⟩) (by assumption) ?rat13747484950x15
                  case hyt13747484950x15 => (intro wq hSw; (try dsimp only at hSw); obtain ⟨e0, e1, e2, e3, e4, e5, e6, e7, e8, e9, e10, e11⟩ := hSw; go_simp <;> with_reducible rfl)
                  try simp only [Act.put, List.getElem_toArray, List.getElem_cons_zero, List.getElem_cons_succ, List.setIfInBounds_toArray, List.set_cons_zero, List.set_cons_succ]
                  refine wpAnyH_take (i := 16) (v := ?vat13747484950x16) rfl (by kernel_rfl) (by kernel_rfl) (by kernel_rfl) (fun _ _ _ h => h) (Or.inl ⟨by rfl, ?hyt13747484950x16⟩) (by assumption) ?rat13747484950x16
                  case hyt13747484950x16 => (intro wq hSw; (try dsimp only at hSw); obtain ⟨e0, e1, e2, e3, e4, e5, e6, e7, e8, e9, e10, e11⟩ := hSw; go_simp <;> with_reducible rfl)
                  try simp only [Act.put, List.getElem_toArray, List.getElem_cons_zero, List.getElem_cons_succ, List.setIfInBounds_toArray, List.set_cons_zero, List.set_cons_succ]
                  have hAne : w.heap.size ≠ gA := by have := LA.out; omega
                  have hBne : w.heap.size ≠ gB := by have := LB.out; omega
                  refine wpAnyH_ready (rs := [19]) (by kernel_rfl) (by simp) ?_
                  refine AllReadyH.cons rfl (fun K hK => ?_) AllReadyH.nil
                  rw [if_pos (by rfl)]
                  have XB1 := hide (row_far (W := v50) (g := gA) #[.int .i64 a.kind, .int .i64 a.level, .slice a.aI a.items.length a.cI, .slice a.aD a.data.length a.cD, .int .i64 a.next] XB.out (Ne.symm NE.out))
                  refine wp_store_row 25 _ _ rfl gA _ rfl rfl 25 _ XA.out sizePage rfl (by simp [Value.oneCell']) ?_
                  refine hK.out _ _ (cells12b (row_far _ (BX.out _ BB.out) hAne)) (fun hHeld => ?_)
                  clear hK K
                  try simp only [Act.put, List.getElem_toArray, List.getElem_cons_zero, List.getElem_cons_succ, List.setIfInBounds_toArray, List.set_cons_zero, List.set_cons_succ]
                  refine wpAnyH_ready (rs := [20]) (by kernel_rfl) (by simp) ?_
                  refine AllReadyH.cons rfl (fun K hK => ?_) AllReadyH.nil
                  rw [if_pos (by rfl)]
                  refine wp_store_row 25 _ _ rfl gB _ rfl rfl 25 _ XB1.out sizePage rfl (by simp [Value.oneCell']) ?_
                  refine hK.out _ _ (cells12b (row_far _ (row_far _ (BX.out _ BB.out) hAne) hBne)) (fun hHeld => ?_)
                  clear hK K
                  try simp only [Act.put, List.getElem_toArray, List.getElem_cons_zero, List.getElem_cons_succ, List.setIfInBounds_toArray, List.set_cons_zero, List.set_cons_succ]
                  refine wpAnyH_take (i := 21) (v := ?vat1374748495021) rfl (by kernel_rfl) (by kernel_rfl) (by kernel_rfl) (fun _ _ _ h => h) (Or.inl ⟨by rfl, ?hyt1374748495021⟩) (by assumption) ?rat1374748495021
                  case hyt1374748495021 => (intro wq hSw; (try dsimp only at hSw); obtain ⟨e0, e1, e2, e3, e4, e5, e6, e7, e8, e9, e10, e11⟩ := hSw; go_simp <;> with_reducible rfl)
                  try simp only [Act.put, List.getElem_toArray, List.getElem_cons_zero, List.getElem_cons_succ, List.setIfInBounds_toArray, List.set_cons_zero, List.set_cons_succ]
                  refine wpAnyH_take (i := 22) (v := ?vat1374748495022) rfl (by kernel_rfl) (by kernel_rfl) (by kernel_rfl) (fun _ _ _ h => h) (Or.inl ⟨by rfl, ?hyt1374748495022⟩) (by assumption) ?rat1374748495022
                  case hyt1374748495022 => (intro wq hSw; (try dsimp only at hSw); obtain ⟨e0, e1, e2, e3, e4, e5, e6, e7, e8, e9, e10, e11⟩ := hSw; go_simp <;> with_reducible rfl)
                  try simp only [Act.put, List.getElem_toArray, List.getElem_cons_zero, List.getElem_cons_succ, List.setIfInBounds_toArray, List.set_cons_zero, List.set_cons_succ]
                  refine wpAnyH_done (by kernel_rfl) ?_ _
                  clear hHeld
                  go_wp2_with fail
                  go_meet
                  case rel => exact ⟨gA, gB, a, b, aU, cU, rfl, rfl, rfl, rfl, ⟨row_far _ (setRow_heap _ _ _ _ _ _ XA.out) NE.out, setRow_heap _ _ _ _ _ _ XB1.out, (HQ.out.but (but_setRow _ gA _) (fun k hk => ⟨_, _, by subst hk; exact XA.out, by decide, by decide⟩) (below_row _ HQ.out.b LA.out)).but (but_setRow _ gB _) (fun k hk => ⟨_, _, by subst hk; exact XB1.out, by decide, by decide⟩) (below_row _ (below_row _ HQ.out.b LA.out) LB.out), EA.out, EB.out⟩⟩
        · go_simp
          have AL := hide (al v1 (.cells #[.int .i64 0, .int .i64 0, .slice none 0 0, .slice none 0 0, .int .i64 0] 25))
          have LB : Hid (w1.heap.size ≤ v1.heap.size) := BB.out.size
          replace SX := hide (SX.out.keep AL.out)
          replace BB := hide (bt BB.out AL.out)
          have XB := hide (heap_alloc_new v1 (.cells #[.int .i64 0, .int .i64 0, .slice none 0 0, .slice none 0 0, .int .i64 0] 25))
          refine hK.out _ _ (SS.out _ BB.out) (fun hHeld => ?_)
          clear hK K AL
          try simp only [Act.put, List.getElem_toArray, List.getElem_cons_zero, List.getElem_cons_succ, List.setIfInBounds_toArray, List.set_cons_zero, List.set_cons_succ]
          generalize (v1.alloc (.cells #[.int .i64 0, .int .i64 0, .slice none 0 0, .slice none 0 0, .int .i64 0] 25)) = v51 at *
          generalize v1.heap.size = gB at *
          refine wpAnyH_ready (rs := [5, 17]) (by kernel_rfl) (by simp) ?_
          refine (AllReadyH.cons rfl (fun K hK => ?_) (AllReadyH.cons rfl (fun K hK => ?_) AllReadyH.nil))
          · go_simp
            refine (SP2.out _ BB.out).mono ?_
            rintro _ v52 ⟨y, rfl, hS, -, hE, hb⟩
            have SY := hide hS
            have EY := hide hE
            replace SX := hide (SX.out.keep hb)
            replace XB := hide (blk_keep XB.out hb)
            replace BB := hide (bt BB.out hb)
            clear hS hE hb
            go_wp2_with fail
            refine hK.out _ _ (SS.out _ BB.out) (fun hHeld => ?_)
            clear hK K
            try simp only [Act.put, List.getElem_toArray, List.getElem_cons_zero, List.getElem_cons_succ, List.setIfInBounds_toArray, List.set_cons_zero, List.set_cons_succ]
            refine wpAnyH_ready (rs := [8, 17]) (by kernel_rfl) (by simp) ?_
            refine (AllReadyH.cons rfl (fun K hK => ?_) (AllReadyH.cons rfl (fun K hK => ?_) AllReadyH.nil))
            · go_simp
              refine (SP3.out _ BB.out).mono ?_
              rintro _ v53 ⟨aK, cK, rfl, hO⟩
              have hb := hO.b
              have SK := hide hO.r
              replace SX := hide (SX.out.keep hb)
              replace SY := hide (SY.out.keep hb)
              replace XB := hide (blk_keep XB.out hb)
              replace BB := hide (bt BB.out hb)
              clear hO hb
              go_wp2_with fail
              refine hK.out _ _ (SS.out _ BB.out) (fun hHeld => ?_)
              clear hK K
              try simp only [Act.put, List.getElem_toArray, List.getElem_cons_zero, List.getElem_cons_succ, List.setIfInBounds_toArray, List.set_cons_zero, List.set_cons_succ]
              refine wpAnyH_ready (rs := [11, 17]) (by kernel_rfl) (by simp) ?_
              refine (AllReadyH.cons rfl (fun K hK => ?_) (AllReadyH.cons rfl (fun K hK => ?_) AllReadyH.nil))
              · go_simp
                refine (LN.out _ x y aK cK BB.out SX.out SY.out SK.out EX.out EY.out).mono ?_
                rintro _ v54 ⟨a, b, aU, cU, rfl, hH, ha, hb2⟩
                have hb := hH.b
                have HQ := hide (hH.pre BB.out)
                have EA := hide ha
                have EB := hide hb2
                clear SX SY SK
                replace XB := hide (blk_keep XB.out hb)
                replace BB := hide (bt BB.out hb)
                clear hH ha hb2 hb
                go_wp2_with fail
                refine hK.out _ _ (SS.out _ BB.out) (fun hHeld => ?_)
                clear hK K
                try simp only [Act.put, List.getElem_toArray, List.getElem_cons_zero, List.getElem_cons_succ, List.setIfInBounds_toArray, List.set_cons_zero, List.set_cons_succ]
                refine wpAnyH_take (i := 12) (v := ?vat151525354x12) rfl (by kernel_rfl) (by kernel_rfl) (by kernel_rfl) (fun _ _ _ h => h) (Or.inl ⟨by rfl, ?hyt151525354x12⟩) (by assumption) ?rat151525354x12
                case hyt151525354x12 => (intro wq hSw; (try dsimp only at hSw); obtain ⟨e0, e1, e2, e3, e4, e5, e6, e7, e8, e9, e10, e11⟩ := hSw; go_simp <;> with_reducible rfl)
                try simp only [Act.put, List.getElem_toArray, List.getElem_cons_zero, List.getElem_cons_succ, List.setIfInBounds_toArray, List.set_cons_zero, List.set_cons_succ]
                refine wpAnyH_take (i := 13) (v := ?vat151525354x13) rfl (by kernel_rfl) (by kernel_rfl) (by kernel_rfl) (fun _ _ _ h => h) (Or.inl ⟨by rfl, ?hyt151525354x13⟩) (by assumption) ?rat151525354x13
                case hyt151525354x13 => (intro wq hSw; (try dsimp only at hSw); obtain ⟨e0, e1, e2, e3, e4, e5, e6, e7, e8, e9, e10, e11⟩ := hSw; go_simp <;> with_reducible rfl)
                try simp only [Act.put, List.getElem_toArray, List.getElem_cons_zero, List.getElem_cons_succ, List.setIfInBounds_toArray, List.set_cons_zero, List.set_cons_succ]
                refine wpAnyH_take (i := 14) (v := ?vat151525354x14) rfl (by kernel_rfl) (by kernel_rfl) (by kernel_rfl) (fun _ _ _ h => h) (Or.inl ⟨by rfl, ?hyt151525354x14⟩) (by assumption) ?rat151525354x14
                case hyt151525354x14 => (intro wq hSw; (try dsimp only at hSw); obtain ⟨e0, e1, e2, e3, e4, e5, e6, e7, e8, e9, e10, e11⟩ := hSw; go_simp <;> with_reducible rfl)
                try simp only [Act.put, List.getElem_toArray, List.getElem_cons_zero, List.getElem_cons_succ, List.setIfInBounds_toArray, List.set_cons_zero, List.set_cons_succ]
                refine wpAnyH_take (i := 15) (v := ?vat151525354x15) rfl (by kernel_rfl) (by kernel_rfl) (by kernel_rfl) (fun _ _ _ h => h) (Or.inl ⟨by rfl, ?hyt151525354x15⟩) (by assumption) ?rat151525354x15
                case hyt151525354x15 => (intro wq hSw; (try dsimp only at hSw); obtain ⟨e0, e1, e2, e3, e4, e5, e6, e7, e8, e9, e10, e11⟩ := hSw; go_simp <;> with_reducible rfl)
                try simp only [Act.put, List.getElem_toArray, List.getElem_cons_zero, List.getElem_cons_succ, List.setIfInBounds_toArray, List.set_cons_zero, List.set_cons_succ]
                refine wpAnyH_take (i := 16) (v := ?vat151525354x16) rfl (by kernel_rfl) (by kernel_rfl) (by kernel_rfl) (fun _ _ _ h => h) (Or.inl ⟨by rfl, ?hyt151525354x16⟩) (by assumption) ?rat151525354x16
                case hyt151525354x16 => (intro wq hSw; (try dsimp only at hSw); obtain ⟨e0, e1, e2, e3, e4, e5, e6, e7, e8, e9, e10, e11⟩ := hSw; go_simp <;> with_reducible rfl)
                try simp only [Act.put, List.getElem_toArray, List.getElem_cons_zero, List.getElem_cons_succ, List.setIfInBounds_toArray, List.set_cons_zero, List.set_cons_succ]
                refine wpAnyH_ready (rs := [17]) (by kernel_rfl) (by simp) ?_
                refine (AllReadyH.cons rfl (fun K hK => ?_) AllReadyH.nil)
                · go_simp
                  have AL := hide (al v54 (.cells #[.int .i64 0, .int .i64 0, .slice none 0 0, .slice none 0 0, .int .i64 0] 25))
                  have LA : Hid (w1.heap.size ≤ v54.heap.size) := BB.out.size
                  have NE : Hid (v54.heap.size ≠ gB) := by have := (Array.getElem?_eq_some_iff.1 XB.out).1; show _ ≠ _; omega
                  replace HQ := hide (HQ.out.keep AL.out)
                  replace XB := hide (blk_keep XB.out AL.out)
                  replace BB := hide (bt BB.out AL.out)
                  have XA := hide (heap_alloc_new v54 (.cells #[.int .i64 0, .int .i64 0, .slice none 0 0, .slice none 0 0, .int .i64 0] 25))
                  refine hK.out _ _ (SS.out _ BB.out) (fun hHeld => ?_)
                  clear hK K AL
                  try simp only [Act.put, List.getElem_toArray, List.getElem_cons_zero, List.getElem_cons_succ, List.setIfInBounds_toArray, List.set_cons_zero, List.set_cons_succ]
                  generalize (v54.alloc (.cells #[.int .i64 0, .int .i64 0, .slice none 0 0, .slice none 0 0, .int .i64 0] 25)) = v55 at *
                  generalize v54.heap.size = gA at *
                  have hAne : w.heap.size ≠ gA := by have := LA.out; omega
                  have hBne : w.heap.size ≠ gB := by have := LB.out; omega
                  refine wpAnyH_ready (rs := [19]) (by kernel_rfl) (by simp) ?_
                  refine AllReadyH.cons rfl (fun K hK => ?_) AllReadyH.nil
                  rw [if_pos (by rfl)]
                  have XB1 := hide (row_far (W := v55) (g := gA) #[.int .i64 a.kind, .int .i64 a.level, .slice a.aI a.items.length a.cI, .slice a.aD a.data.length a.cD, .int .i64 a.next] XB.out (Ne.symm NE.out))
                  refine wp_store_row 25 _ _ rfl gA _ rfl rfl 25 _ XA.out sizePage rfl (by simp [Value.oneCell']) ?_
                  refine hK.out _ _ (cells12b (row_far _ (BX.out _ BB.out) hAne)) (fun hHeld => ?_)
                  clear hK K
                  try simp only [Act.put, List.getElem_toArray, List.getElem_cons_zero, List.getElem_cons_succ, List.setIfInBounds_toArray, List.set_cons_zero, List.set_cons_succ]
                  refine wpAnyH_ready (rs := [20]) (by kernel_rfl) (by simp) ?_
                  refine AllReadyH.cons rfl (fun K hK => ?_) AllReadyH.nil
                  rw [if_pos (by rfl)]
                  refine wp_store_row 25 _ _ rfl gB _ rfl rfl 25 _ XB1.out sizePage rfl (by simp [Value.oneCell']) ?_
                  refine hK.out _ _ (cells12b (row_far _ (row_far _ (BX.out _ BB.out) hAne) hBne)) (fun hHeld => ?_)
                  clear hK K
                  try simp only [Act.put, List.getElem_toArray, List.getElem_cons_zero, List.getElem_cons_succ, List.setIfInBounds_toArray, List.set_cons_zero, List.set_cons_succ]
                  refine wpAnyH_take (i := 21) (v := ?vat1515253545521) rfl (by kernel_rfl) (by kernel_rfl) (by kernel_rfl) (fun _ _ _ h => h) (Or.inl ⟨by rfl, ?hyt1515253545521⟩) (by assumption) ?rat1515253545521
                  case hyt1515253545521 => (intro wq hSw; (try dsimp only at hSw); obtain ⟨e0, e1, e2, e3, e4, e5, e6, e7, e8, e9, e10, e11⟩ := hSw; go_simp <;> with_reducible rfl)
                  try simp only [Act.put, List.getElem_toArray, List.getElem_cons_zero, List.getElem_cons_succ, List.setIfInBounds_toArray, List.set_cons_zero, List.set_cons_succ]
                  refine wpAnyH_take (i := 22) (v := ?vat1515253545522) rfl (by kernel_rfl) (by kernel_rfl) (by kernel_rfl) (fun _ _ _ h => h) (Or.inl ⟨by rfl, ?hyt1515253545522⟩) (by assumption) ?rat1515253545522
                  case hyt1515253545522 => (intro wq hSw; (try dsimp only at hSw); obtain ⟨e0, e1, e2, e3, e4, e5, e6, e7, e8, e9, e10, e11⟩ := hSw; go_simp <;> with_reducible rfl)
                  try simp only [Act.put, List.getElem_toArray, List.getElem_cons_zero, List.getElem_cons_succ, List.setIfInBounds_toArray, List.set_cons_zero, List.set_cons_succ]
                  refine wpAnyH_done (by kernel_rfl) ?_ _
                  clear hHeld
                  go_wp2_with fail
                  go_meet
                  case rel => exact ⟨gA, gB, a, b, aU, cU, rfl, rfl, rfl, rfl, ⟨row_far _ (setRow_heap _ _ _ _ _ _ XA.out) NE.out, setRow_heap _ _ _ _ _ _ XB1.out, (HQ.out.but (but_setRow _ gA _) (fun k hk => ⟨_, _, by subst hk; exact XA.out, by decide, by decide⟩) (below_row _ HQ.out.b LA.out)).but (but_setRow _ gB _) (fun k hk => ⟨_, _, by subst hk; exact XB1.out, by decide, by decide⟩) (below_row _ (below_row _ HQ.out.b LA.out) LB.out), EA.out, EB.out⟩⟩
              · go_simp
                have AL := hide (al v53 (.cells #[.int .i64 0, .int .i64 0, .slice none 0 0, .slice none 0 0, .int .i64 0] 25))
                have LA : Hid (w1.heap.size ≤ v53.heap.size) := BB.out.size
                have NE : Hid (v53.heap.size ≠ gB) := by have := (Array.getElem?_eq_some_iff.1 XB.out).1; show _ ≠ _; omega
                replace SX := hide (SX.out.keep AL.out)
                replace SY := hide (SY.out.keep AL.out)
                replace SK := hide (SK.out.keep AL.out)
                replace XB := hide (blk_keep XB.out AL.out)
                replace BB := hide (bt BB.out AL.out)
                have XA := hide (heap_alloc_new v53 (.cells #[.int .i64 0, .int .i64 0, .slice none 0 0, .slice none 0 0, .int .i64 0] 25))
                refine hK.out _ _ (SS.out _ BB.out) (fun hHeld => ?_)
                clear hK K AL
                try simp only [Act.put, List.getElem_toArray, List.getElem_cons_zero, List.getElem_cons_succ, List.setIfInBounds_toArray, List.set_cons_zero, List.set_cons_succ]
                generalize (v53.alloc (.cells #[.int .i64 0, .int .i64 0, .slice none 0 0, .slice none 0 0, .int .i64 0] 25)) = v56 at *
                generalize v53.heap.size = gA at *
                refine wpAnyH_ready (rs := [11]) (by kernel_rfl) (by simp) ?_
                refine (AllReadyH.cons rfl (fun K hK => ?_) AllReadyH.nil)
                · go_simp
                  refine (LN.out _ x y aK cK BB.out SX.out SY.out SK.out EX.out EY.out).mono ?_
                  rintro _ v57 ⟨a, b, aU, cU, rfl, hH, ha, hb2⟩
                  have hb := hH.b
                  have HQ := hide (hH.pre BB.out)
                  have EA := hide ha
                  have EB := hide hb2
                  clear SX SY SK
                  replace XA := hide (blk_keep XA.out hb)
                  replace XB := hide (blk_keep XB.out hb)
                  replace BB := hide (bt BB.out hb)
                  clear hH ha hb2 hb
                  go_wp2_with fail
                  refine hK.out _ _ (SS.out _ BB.out) (fun hHeld => ?_)
                  clear hK K
                  try simp only [Act.put, List.getElem_toArray, List.getElem_cons_zero, List.getElem_cons_succ, List.setIfInBounds_toArray, List.set_cons_zero, List.set_cons_succ]
                  refine wpAnyH_take (i := 12) (v := ?vat15152535657x12) rfl (by kernel_rfl) (by kernel_rfl) (by kernel_rfl) (fun _ _ _ h => h) (Or.inl ⟨by rfl, ?hyt15152535657x12⟩) (by assumption) ?rat15152535657x12
                  case hyt15152535657x12 => (intro wq hSw; (try dsimp only at hSw); obtain ⟨e0, e1, e2, e3, e4, e5, e6, e7, e8, e9, e10, e11⟩ := hSw; go_simp <;> with_reducible rfl)
                  try simp only [Act.put, List.getElem_toArray, List.getElem_cons_zero, List.getElem_cons_succ, List.setIfInBounds_toArray, List.set_cons_zero, List.set_cons_succ]
                  refine wpAnyH_take (i := 13) (v := ?vat15152535657x13) rfl (by kernel_rfl) (by kernel_rfl) (by kernel_rfl) (fun _ _ _ h => h) (Or.inl ⟨by rfl, ?hyt15152535657x13⟩) (by assumption) ?rat15152535657x13
                  case hyt15152535657x13 => (intro wq hSw; (try dsimp only at hSw); obtain ⟨e0, e1, e2, e3, e4, e5, e6, e7, e8, e9, e10, e11⟩ := hSw; go_simp <;> with_reducible rfl)
                  try simp only [Act.put, List.getElem_toArray, List.getElem_cons_zero, List.getElem_cons_succ, List.setIfInBounds_toArray, List.set_cons_zero, List.set_cons_succ]
                  refine wpAnyH_take (i := 14) (v := ?vat15152535657x14) rfl (by kernel_rfl) (by kernel_rfl) (by kernel_rfl) (fun _ _ _ h => h) (Or.inl ⟨by rfl, ?hyt15152535657x14⟩) (by assumption) ?rat15152535657x14
                  case hyt15152535657x14 => (intro wq hSw; (try dsimp only at hSw); obtain ⟨e0, e1, e2, e3, e4, e5, e6, e7, e8, e9, e10, e11⟩ := hSw; go_simp <;> with_reducible rfl)
                  try simp only [Act.put, List.getElem_toArray, List.getElem_cons_zero, List.getElem_cons_succ, List.setIfInBounds_toArray, List.set_cons_zero, List.set_cons_succ]
                  refine wpAnyH_take (i := 15) (v := ?vat15152535657x15) rfl (by kernel_rfl) (by kernel_rfl) (by kernel_rfl) (fun _ _ _ h => h) (Or.inl ⟨by rfl, ?hyt15152535657x15⟩) (by assumption) ?rat15152535657x15
                  case hyt15152535657x15 => (intro wq hSw; (try dsimp only at hSw); obtain ⟨e0, e1, e2, e3, e4, e5, e6, e7, e8, e9, e10, e11⟩ := hSw; go_simp <;> with_reducible rfl)
                  try simp only [Act.put, List.getElem_toArray, List.getElem_cons_zero, List.getElem_cons_succ, List.setIfInBounds_toArray, List.set_cons_zero, List.set_cons_succ]
                  refine wpAnyH_take (i := 16) (v := ?vat15152535657x16) rfl (by kernel_rfl) (by kernel_rfl) (by kernel_rfl) (fun _ _ _ h => h) (Or.inl ⟨by rfl, ?hyt15152535657x16⟩) (by assumption) ?rat15152535657x16
                  case hyt15152535657x16 => (intro wq hSw; (try dsimp only at hSw); obtain ⟨e0, e1, e2, e3, e4, e5, e6, e7, e8, e9, e10, e11⟩ := hSw; go_simp <;> with_reducible rfl)
                  try simp only [Act.put, List.getElem_toArray, List.getElem_cons_zero, List.getElem_cons_succ, List.setIfInBounds_toArray, List.set_cons_zero, List.set_cons_succ]
                  have hAne : w.heap.size ≠ gA := by have := LA.out; omega
                  have hBne : w.heap.size ≠ gB := by have := LB.out; omega
                  refine wpAnyH_ready (rs := [19]) (by kernel_rfl) (by simp) ?_
                  refine AllReadyH.cons rfl (fun K hK => ?_) AllReadyH.nil
                  rw [if_pos (by rfl)]
                  have XB1 := hide (row_far (W := v57) (g := gA) #[.int .i64 a.kind, .int .i64 a.level, .slice a.aI a.items.length a.cI, .slice a.aD a.data.length a.cD, .int .i64 a.next] XB.out (Ne.symm NE.out))
                  refine wp_store_row 25 _ _ rfl gA _ rfl rfl 25 _ XA.out sizePage rfl (by simp [Value.oneCell']) ?_
                  refine hK.out _ _ (cells12b (row_far _ (BX.out _ BB.out) hAne)) (fun hHeld => ?_)
                  clear hK K
                  try simp only [Act.put, List.getElem_toArray, List.getElem_cons_zero, List.getElem_cons_succ, List.setIfInBounds_toArray, List.set_cons_zero, List.set_cons_succ]
                  refine wpAnyH_ready (rs := [20]) (by kernel_rfl) (by simp) ?_
                  refine AllReadyH.cons rfl (fun K hK => ?_) AllReadyH.nil
                  rw [if_pos (by rfl)]
                  refine wp_store_row 25 _ _ rfl gB _ rfl rfl 25 _ XB1.out sizePage rfl (by simp [Value.oneCell']) ?_
                  refine hK.out _ _ (cells12b (row_far _ (row_far _ (BX.out _ BB.out) hAne) hBne)) (fun hHeld => ?_)
                  clear hK K
                  try simp only [Act.put, List.getElem_toArray, List.getElem_cons_zero, List.getElem_cons_succ, List.setIfInBounds_toArray, List.set_cons_zero, List.set_cons_succ]
                  refine wpAnyH_take (i := 21) (v := ?vat1515253565721) rfl (by kernel_rfl) (by kernel_rfl) (by kernel_rfl) (fun _ _ _ h => h) (Or.inl ⟨by rfl, ?hyt1515253565721⟩) (by assumption) ?rat1515253565721
                  case hyt1515253565721 => (intro wq hSw; (try dsimp only at hSw); obtain ⟨e0, e1, e2, e3, e4, e5, e6, e7, e8, e9, e10, e11⟩ := hSw; go_simp <;> with_reducible rfl)
                  try simp only [Act.put, List.getElem_toArray, List.getElem_cons_zero, List.getElem_cons_succ, List.setIfInBounds_toArray, List.set_cons_zero, List.set_cons_succ]
                  refine wpAnyH_take (i := 22) (v := ?vat1515253565722) rfl (by kernel_rfl) (by kernel_rfl) (by kernel_rfl) (fun _ _ _ h => h) (Or.inl ⟨by rfl, ?hyt1515253565722⟩) (by assumption) ?rat1515253565722
                  case hyt1515253565722 => (intro wq hSw; (try dsimp only at hSw); obtain ⟨e0, e1, e2, e3, e4, e5, e6, e7, e8, e9, e10, e11⟩ := hSw; go_simp <;> with_reducible rfl)
                  try simp only [Act.put, List.getElem_toArray, List.getElem_cons_zero, List.getElem_cons_succ, List.setIfInBounds_toArray, List.set_cons_zero, List.set_cons_succ]
                  refine wpAnyH_done (by kernel_rfl) ?_ _
                  clear hHeld
                  go_wp2_with fail
                  go_meet
                  case rel => exact ⟨gA, gB, a, b, aU, cU, rfl, rfl, rfl, rfl, ⟨row_far _ (setRow_heap _ _ _ _ _ _ XA.out) NE.out, setRow_heap _ _ _ _ _ _ XB1.out, (HQ.out.but (but_setRow _ gA _) (fun k hk => ⟨_, _, by subst hk; exact XA.out, by decide, by decide⟩) (below_row _ HQ.out.b LA.out)).but (but_setRow _ gB _) (fun k hk => ⟨_, _, by subst hk; exact XB1.out, by decide, by decide⟩) (below_row _ (below_row _ HQ.out.b LA.out) LB.out), EA.out, EB.out⟩⟩
            · go_simp
              have AL := hide (al v52 (.cells #[.int .i64 0, .int .i64 0, .slice none 0 0, .slice none 0 0, .int .i64 0] 25))
              have LA : Hid (w1.heap.size ≤ v52.heap.size) := BB.out.size
              have NE : Hid (v52.heap.size ≠ gB) := by have := (Array.getElem?_eq_some_iff.1 XB.out).1; show _ ≠ _; omega
              replace SX := hide (SX.out.keep AL.out)
              replace SY := hide (SY.out.keep AL.out)
              replace XB := hide (blk_keep XB.out AL.out)
              replace BB := hide (bt BB.out AL.out)
              have XA := hide (heap_alloc_new v52 (.cells #[.int .i64 0, .int .i64 0, .slice none 0 0, .slice none 0 0, .int .i64 0] 25))
              refine hK.out _ _ (SS.out _ BB.out) (fun hHeld => ?_)
              clear hK K AL
              try simp only [Act.put, List.getElem_toArray, List.getElem_cons_zero, List.getElem_cons_succ, List.setIfInBounds_toArray, List.set_cons_zero, List.set_cons_succ]
              generalize (v52.alloc (.cells #[.int .i64 0, .int .i64 0, .slice none 0 0, .slice none 0 0, .int .i64 0] 25)) = v58 at *
              generalize v52.heap.size = gA at *
              refine wpAnyH_ready (rs := [8]) (by kernel_rfl) (by simp) ?_
              refine (AllReadyH.cons rfl (fun K hK => ?_) AllReadyH.nil)
              · go_simp
                refine (SP3.out _ BB.out).mono ?_
                rintro _ v59 ⟨aK, cK, rfl, hO⟩
                have hb := hO.b
                have SK := hide hO.r
                replace SX := hide (SX.out.keep hb)
                replace SY := hide (SY.out.keep hb)
                replace XA := hide (blk_keep XA.out hb)
                replace XB := hide (blk_keep XB.out hb)
                replace BB := hide (bt BB.out hb)
                clear hO hb
                go_wp2_with fail
                refine hK.out _ _ (SS.out _ BB.out) (fun hHeld => ?_)
                clear hK K
                try simp only [Act.put, List.getElem_toArray, List.getElem_cons_zero, List.getElem_cons_succ, List.setIfInBounds_toArray, List.set_cons_zero, List.set_cons_succ]
                refine wpAnyH_ready (rs := [11]) (by kernel_rfl) (by simp) ?_
                refine (AllReadyH.cons rfl (fun K hK => ?_) AllReadyH.nil)
                · go_simp
                  refine (LN.out _ x y aK cK BB.out SX.out SY.out SK.out EX.out EY.out).mono ?_
                  rintro _ v60 ⟨a, b, aU, cU, rfl, hH, ha, hb2⟩
                  have hb := hH.b
                  have HQ := hide (hH.pre BB.out)
                  have EA := hide ha
                  have EB := hide hb2
                  clear SX SY SK
                  replace XA := hide (blk_keep XA.out hb)
                  replace XB := hide (blk_keep XB.out hb)
                  replace BB := hide (bt BB.out hb)
                  clear hH ha hb2 hb
                  go_wp2_with fail
                  refine hK.out _ _ (SS.out _ BB.out) (fun hHeld => ?_)
                  clear hK K
                  try simp only [Act.put, List.getElem_toArray, List.getElem_cons_zero, List.getElem_cons_succ, List.setIfInBounds_toArray, List.set_cons_zero, List.set_cons_succ]
                  refine wpAnyH_take (i := 12) (v := ?vat15152585960x12) rfl (by kernel_rfl) (by kernel_rfl) (by kernel_rfl) (fun _ _ _ h => h) (Or.inl ⟨by rfl, ?hyt15152585960x12⟩) (by assumption) ?rat15152585960x12
                  case hyt15152585960x12 => (intro wq hSw; (try dsimp only at hSw); obtain ⟨e0, e1, e2, e3, e4, e5, e6, e7, e8, e9, e10, e11⟩ := hSw; go_simp <;> with_reducible rfl)
                  try simp only [Act.put, List.getElem_toArray, List.getElem_cons_zero, List.getElem_cons_succ, List.setIfInBounds_toArray, List.set_cons_zero, List.set_cons_succ]
                  refine wpAnyH_take (i := 13) (v := ?vat15152585960x13) rfl (by kernel_rfl) (by kernel_rfl) (by kernel_rfl) (fun _ _ _ h => h) (Or.inl ⟨by rfl, ?hyt15152585960x13⟩) (by assumption) ?rat15152585960x13
                  case hyt15152585960x13 => (intro wq hSw; (try dsimp only at hSw); obtain ⟨e0, e1, e2, e3, e4, e5, e6, e7, e8, e9, e10, e11⟩ := hSw; go_simp <;> with_reducible rfl)
                  try simp only [Act.put, List.getElem_toArray, List.getElem_cons_zero, List.getElem_cons_succ, List.setIfInBounds_toArray, List.set_cons_zero, List.set_cons_succ]
                  refine wpAnyH_take (i := 14) (v := ?vat15152585960x14) rfl (by kernel_rfl) (by kernel_rfl) (by kernel_rfl) (fun _ _ _ h => h) (Or.inl ⟨by rfl, ?hyt15152585960x14⟩) (by assumption) ?rat15152585960x14
                  case hyt15152585960x14 => (intro wq hSw; (try dsimp only at hSw); obtain ⟨e0, e1, e2, e3, e4, e5, e6, e7, e8, e9, e10, e11⟩ := hSw; go_simp <;> with_reducible rfl)
                  try simp only [Act.put, List.getElem_toArray, List.getElem_cons_zero, List.getElem_cons_succ, List.setIfInBounds_toArray, List.set_cons_zero, List.set_cons_succ]
                  refine wpAnyH_take (i := 15) (v := ?vat15152585960x15) rfl (by kernel_rfl) (by kernel_rfl) (by kernel_rfl) (fun _ _ _ h => h) (Or.inl ⟨by rfl, ?hyt15152585960x15⟩) (by assumption) ?rat15152585960x15
                  case hyt15152585960x15 => (intro wq hSw; (try dsimp only at hSw); obtain ⟨e0, e1, e2, e3, e4, e5, e6, e7, e8, e9, e10, e11⟩ := hSw; go_simp <;> with_reducible rfl)
                  try simp only [Act.put, List.getElem_toArray, List.getElem_cons_zero, List.getElem_cons_succ, List.setIfInBounds_toArray, List.set_cons_zero, List.set_cons_succ]
                  refine wpAnyH_take (i := 16) (v := ?vat15152585960x16) rfl (by kernel_rfl) (by kernel_rfl) (by kernel_rfl) (fun _ _ _ h => h) (Or.inl ⟨by rfl, ?hyt15152585960x16⟩) (by assumption) ?rat15152585960x16
                  case hyt15152585960x16 => (intro wq hSw; (try dsimp only at hSw); obtain ⟨e0, e1, e2, e3, e4, e5, e6, e7, e8, e9, e10, e11⟩ := hSw; go_simp <;> with_reducible rfl)
                  try simp only [Act.put, List.getElem_toArray, List.getElem_cons_zero, List.getElem_cons_succ, List.setIfInBounds_toArray, List.set_cons_zero, List.set_cons_succ]
                  have hAne : w.heap.size ≠ gA := by have := LA.out; omega
                  have hBne : w.heap.size ≠ gB := by have := LB.out; omega
                  refine wpAnyH_ready (rs := [19]) (by kernel_rfl) (by simp) ?_
                  refine AllReadyH.cons rfl (fun K hK => ?_) AllReadyH.nil
                  rw [if_pos (by rfl)]
                  have XB1 := hide (row_far (W := v60) (g := gA) #[.int .i64 a.kind, .int .i64 a.level, .slice a.aI a.items.length a.cI, .slice a.aD a.data.length a.cD, .int .i64 a.next] XB.out (Ne.symm NE.out))
                  refine wp_store_row 25 _ _ rfl gA _ rfl rfl 25 _ XA.out sizePage rfl (by simp [Value.oneCell']) ?_
                  refine hK.out _ _ (cells12b (row_far _ (BX.out _ BB.out) hAne)) (fun hHeld => ?_)
                  clear hK K
                  try simp only [Act.put, List.getElem_toArray, List.getElem_cons_zero, List.getElem_cons_succ, List.setIfInBounds_toArray, List.set_cons_zero, List.set_cons_succ]
                  refine wpAnyH_ready (rs := [20]) (by kernel_rfl) (by simp) ?_
                  refine AllReadyH.cons rfl (fun K hK => ?_) AllReadyH.nil
                  rw [if_pos (by rfl)]
                  refine wp_store_row 25 _ _ rfl gB _ rfl rfl 25 _ XB1.out sizePage rfl (by simp [Value.oneCell']) ?_
                  refine hK.out _ _ (cells12b (row_far _ (row_far _ (BX.out _ BB.out) hAne) hBne)) (fun hHeld => ?_)
                  clear hK K
                  try simp only [Act.put, List.getElem_toArray, List.getElem_cons_zero, List.getElem_cons_succ, List.setIfInBounds_toArray, List.set_cons_zero, List.set_cons_succ]
                  refine wpAnyH_take (i := 21) (v := ?vat1515258596021) rfl (by kernel_rfl) (by kernel_rfl) (by kernel_rfl) (fun _ _ _ h => h) (Or.inl ⟨by rfl, ?hyt1515258596021⟩) (by assumption) ?rat1515258596021
                  case hyt1515258596021 => (intro wq hSw; (try dsimp only at hSw); obtain ⟨e0, e1, e2, e3, e4, e5, e6, e7, e8, e9, e10, e11⟩ := hSw; go_simp <;> with_reducible rfl)
                  try simp only [Act.put, List.getElem_toArray, List.getElem_cons_zero, List.getElem_cons_succ, List.setIfInBounds_toArray, List.set_cons_zero, List.set_cons_succ]
                  refine wpAnyH_take (i := 22) (v := ?vat1515258596022) rfl (by kernel_rfl) (by kernel_rfl) (by kernel_rfl) (fun _ _ _ h => h) (Or.inl ⟨by rfl, ?hyt1515258596022⟩) (by assumption) ?rat1515258596022
                  case hyt1515258596022 => (intro wq hSw; (try dsimp only at hSw); obtain ⟨e0, e1, e2, e3, e4, e5, e6, e7, e8, e9, e10, e11⟩ := hSw; go_simp <;> with_reducible rfl)
                  try simp only [Act.put, List.getElem_toArray, List.getElem_cons_zero, List.getElem_cons_succ, List.setIfInBounds_toArray, List.set_cons_zero, List.set_cons_succ]
                  refine wpAnyH_done (by kernel_rfl) ?_ _
                  clear hHeld
                  go_wp2_with fail
                  go_meet
                  case rel => exact ⟨gA, gB, a, b, aU, cU, rfl, rfl, rfl, rfl, ⟨row_far _ (setRow_heap _ _ _ _ _ _ XA.out) NE.out, setRow_heap _ _ _ _ _ _ XB1.out, (HQ.out.but (but_setRow _ gA _) (fun k hk => ⟨_, _, by subst hk; exact XA.out, by decide, by decide⟩) (below_row _ HQ.out.b LA.out)).but (but_setRow _ gB _) (fun k hk => ⟨_, _, by subst hk; exact XB1.out, by decide, by decide⟩) (below_row _ (below_row _ HQ.out.b LA.out) LB.out), EA.out, EB.out⟩⟩
          · go_simp
            have AL := hide (al v51 (.cells #[.int .i64 0, .int .i64 0, .slice none 0 0, .slice none 0 0, .int .i64 0] 25))
            have LA : Hid (w1.heap.size ≤ v51.heap.size) := BB.out.size
            have NE : Hid (v51.heap.size ≠ gB) := by have := (Array.getElem?_eq_some_iff.1 XB.out).1; show _ ≠ _; omega
            replace SX := hide (SX.out.keep AL.out)
            replace XB := hide (blk_keep XB.out AL.out)
            replace BB := hide (bt BB.out AL.out)
            have XA := hide (heap_alloc_new v51 (.cells #[.int .i64 0, .int .i64 0, .slice none 0 0, .slice none 0 0, .int .i64 0] 25))
            refine hK.out _ _ (SS.out _ BB.out) (fun hHeld => ?_)
            clear hK K AL
            try simp only [Act.put, List.getElem_toArray, List.getElem_cons_zero, List.getElem_cons_succ, List.setIfInBounds_toArray, List.set_cons_zero, List.set_cons_succ]
            generalize (v51.alloc (.cells #[.int .i64 0, .int .i64 0, .slice none 0 0, .slice none 0 0, .int .i64 0] 25)) = v61 at *
            generalize v51.heap.size = gA at *
            refine wpAnyH_ready (rs := [5]) (by kernel_rfl) (by simp) ?_
            refine (AllReadyH.cons rfl (fun K hK => ?_) AllReadyH.nil)
            · go_simp
              refine (SP2.out _ BB.out).mono ?_
              rintro _ v62 ⟨y, rfl, hS, -, hE, hb⟩
              have SY := hide hS
              have EY := hide hE
              replace SX := hide (SX.out.keep hb)
              replace XA := hide (blk_keep XA.out hb)
              replace XB := hide (blk_keep XB.out hb)
              replace BB := hide (bt BB.out hb)
              clear hS hE hb
              go_wp2_with fail
              refine hK.out _ _ (SS.out _ BB.out) (fun hHeld => ?_)
              clear hK K
              try simp only [Act.put, List.getElem_toArray, List.getElem_cons_zero, List.getElem_cons_succ, List.setIfInBounds_toArray, List.set_cons_zero, List.set_cons_succ]
              refine wpAnyH_ready (rs := [8]) (by kernel_rfl) (by simp) ?_
              refine (AllReadyH.cons rfl (fun K hK => ?_) AllReadyH.nil)
              · go_simp
                refine (SP3.out _ BB.out).mono ?_
                rintro _ v63 ⟨aK, cK, rfl, hO⟩
                have hb := hO.b
                have SK := hide hO.r
                replace SX := hide (SX.out.keep hb)
                replace SY := hide (SY.out.keep hb)
                replace XA := hide (blk_keep XA.out hb)
                replace XB := hide (blk_keep XB.out hb)
                replace BB := hide (bt BB.out hb)
                clear hO hb
                go_wp2_with fail
                refine hK.out _ _ (SS.out _ BB.out) (fun hHeld => ?_)
                clear hK K
                try simp only [Act.put, List.getElem_toArray, List.getElem_cons_zero, List.getElem_cons_succ, List.setIfInBounds_toArray, List.set_cons_zero, List.set_cons_succ]
                refine wpAnyH_ready (rs := [11]) (by kernel_rfl) (by simp) ?_
                refine (AllReadyH.cons rfl (fun K hK => ?_) AllReadyH.nil)
                · go_simp
                  refine (LN.out _ x y aK cK BB.out SX.out SY.out SK.out EX.out EY.out).mono ?_
                  rintro _ v64 ⟨a, b, aU, cU, rfl, hH, ha, hb2⟩
                  have hb := hH.b
                  have HQ := hide (hH.pre BB.out)
                  have EA := hide ha
                  have EB := hide hb2
                  clear SX SY SK
                  replace XA := hide (blk_keep XA.out hb)
                  replace XB := hide (blk_keep XB.out hb)
                  replace BB := hide (bt BB.out hb)
                  clear hH ha hb2 hb
                  go_wp2_with fail
                  refine hK.out _ _ (SS.out _ BB.out) (fun hHeld => ?_)
                  clear hK K
                  try simp only [Act.put, List.getElem_toArray, List.getElem_cons_zero, List.getElem_cons_succ, List.setIfInBounds_toArray, List.set_cons_zero, List.set_cons_succ]
                  refine wpAnyH_take (i := 12) (v := ?vat15161626364x12) rfl (by kernel_rfl) (by kernel_rfl) (by kernel_rfl) (fun _ _ _ h => h) (Or.inl ⟨by rfl, ?hyt15161626364x12⟩) (by assumption) ?rat15161626364x12
                  case hyt15161626364x12 => (intro wq hSw; (try dsimp only at hSw); obtain ⟨e0, e1, e2, e3, e4, e5, e6, e7, e8, e9, e10, e11⟩ := hSw; go_simp <;> with_reducible rfl)
                  try simp only [Act.put, List.getElem_toArray, List.getElem_cons_zero, List.getElem_cons_succ, List.setIfInBounds_toArray, List.set_cons_zero, List.set_cons_succ]
                  refine wpAnyH_take (i := 13) (v := ?vat15161626364x13) rfl (by kernel_rfl) (by kernel_rfl) (by kernel_rfl) (fun _ _ _ h => h) (Or.inl ⟨by rfl, ?hyt15161626364x13⟩) (by assumption) ?rat15161626364x13
                  case hyt15161626364x13 => (intro wq hSw; (try dsimp only at hSw); obtain ⟨e0, e1, e2, e3, e4, e5, e6, e7, e8, e9, e10, e11⟩ := hSw; go_simp <;> with_reducible rfl)
                  try simp only [Act.put, List.getElem_toArray, List.getElem_cons_zero, List.getElem_cons_succ, List.setIfInBounds_toArray, List.set_cons_zero, List.set_cons_succ]
                  refine wpAnyH_take (i := 14) (v := ?vat15161626364x14) rfl (by kernel_rfl) (by kernel_rfl) (by kernel_rfl) (fun _ _ _ h => h) (Or.inl ⟨by rfl, ?hyt15161626364x14⟩) (by assumption) ?rat15161626364x14
                  case hyt15161626364x14 => (intro wq hSw; (try dsimp only at hSw); obtain ⟨e0, e1, e2, e3, e4, e5, e6, e7, e8, e9, e10, e11⟩ := hSw; go_simp <;> with_reducible rfl)
                  try simp only [Act.put, List.getElem_toArray, List.getElem_cons_zero, List.getElem_cons_succ, List.setIfInBounds_toArray, List.set_cons_zero, List.set_cons_succ]
                  refine wpAnyH_take (i := 15) (v := ?vat15161626364x15) rfl (by kernel_rfl) (by kernel_rfl) (by kernel_rfl) (fun _ _ _ h => h) (Or.inl ⟨by rfl, ?hyt15161626364x15⟩) (by assumption) ?rat15161626364x15
                  case hyt15161626364x15 => (intro wq hSw; (try dsimp only at hSw); obtain ⟨e0, e1, e2, e3, e4, e5, e6, e7, e8, e9, e10, e11⟩ := hSw; go_simp <;> with_reducible rfl)
                  try simp only [Act.put, List.getElem_toArray, List.getElem_cons_zero, List.getElem_cons_succ, List.setIfInBounds_toArray, List.set_cons_zero, List.set_cons_succ]
                  refine wpAnyH_take (i := 16) (v := ?vat15161626364x16) rfl (by kernel_rfl) (by kernel_rfl) (by kernel_rfl) (fun _ _ _ h => h) (Or.inl ⟨by rfl, ?hyt15161626364x16⟩) (by assumption) ?rat15161626364x16
                  case hyt15161626364x16 => (intro wq hSw; (try dsimp only at hSw); obtain ⟨e0, e1, e2, e3, e4, e5, e6, e7, e8, e9, e10, e11⟩ := hSw; go_simp <;> with_reducible rfl)
                  try simp only [Act.put, List.getElem_toArray, List.getElem_cons_zero, List.getElem_cons_succ, List.setIfInBounds_toArray, List.set_cons_zero, List.set_cons_succ]
                  have hAne : w.heap.size ≠ gA := by have := LA.out; omega
                  have hBne : w.heap.size ≠ gB := by have := LB.out; omega
                  refine wpAnyH_ready (rs := [19]) (by kernel_rfl) (by simp) ?_
                  refine AllReadyH.cons rfl (fun K hK => ?_) AllReadyH.nil
                  rw [if_pos (by rfl)]
                  have XB1 := hide (row_far (W := v64) (g := gA) #[.int .i64 a.kind, .int .i64 a.level, .slice a.aI a.items.length a.cI, .slice a.aD a.data.length a.cD, .int .i64 a.next] XB.out (Ne.symm NE.out))
                  refine wp_store_row 25 _ _ rfl gA _ rfl rfl 25 _ XA.out sizePage rfl (by simp [Value.oneCell']) ?_
                  refine hK.out _ _ (cells12b (row_far _ (BX.out _ BB.out) hAne)) (fun hHeld => ?_)
                  clear hK K
                  try simp only [Act.put, List.getElem_toArray, List.getElem_cons_zero, List.getElem_cons_succ, List.setIfInBounds_toArray, List.set_cons_zero, List.set_cons_succ]
                  refine wpAnyH_ready (rs := [20]) (by kernel_rfl) (by simp) ?_
                  refine AllReadyH.cons rfl (fun K hK => ?_) AllReadyH.nil
                  rw [if_pos (by rfl)]
                  refine wp_store_row 25 _ _ rfl gB _ rfl rfl 25 _ XB1.out sizePage rfl (by simp [Value.oneCell']) ?_
                  refine hK.out _ _ (cells12b (row_far _ (row_far _ (BX.out _ BB.out) hAne) hBne)) (fun hHeld => ?_)
                  clear hK K
                  try simp only [Act.put, List.getElem_toArray, List.getElem_cons_zero, List.getElem_cons_succ, List.setIfInBounds_toArray, List.set_cons_zero, List.set_cons_succ]
                  refine wpAnyH_take (i := 21) (v := ?vat1516162636421) rfl (by kernel_rfl) (by kernel_rfl) (by kernel_rfl) (fun _ _ _ h => h) (Or.inl ⟨by rfl, ?hyt1516162636421⟩) (by assumption) ?rat1516162636421
                  case hyt1516162636421 => (intro wq hSw; (try dsimp only at hSw); obtain ⟨e0, e1, e2, e3, e4, e5, e6, e7, e8, e9, e10, e11⟩ := hSw; go_simp <;> with_reducible rfl)
                  try simp only [Act.put, List.getElem_toArray, List.getElem_cons_zero, List.getElem_cons_succ, List.setIfInBounds_toArray, List.set_cons_zero, List.set_cons_succ]
                  refine wpAnyH_take (i := 22) (v := ?vat1516162636422) rfl (by kernel_rfl) (by kernel_rfl) (by kernel_rfl) (fun _ _ _ h => h) (Or.inl ⟨by rfl, ?hyt1516162636422⟩) (by assumption) ?rat1516162636422
                  case hyt1516162636422 => (intro wq hSw; (try dsimp only at hSw); obtain ⟨e0, e1, e2, e3, e4, e5, e6, e7, e8, e9, e10, e11⟩ := hSw; go_simp <;> with_reducible rfl)
                  try simp only [Act.put, List.getElem_toArray, List.getElem_cons_zero, List.getElem_cons_succ, List.setIfInBounds_toArray, List.set_cons_zero, List.set_cons_succ]
                  refine wpAnyH_done (by kernel_rfl) ?_ _
                  clear hHeld
                  go_wp2_with fail
                  go_meet
                  case rel => exact ⟨gA, gB, a, b, aU, cU, rfl, rfl, rfl, rfl, ⟨row_far _ (setRow_heap _ _ _ _ _ _ XA.out) NE.out, setRow_heap _ _ _ _ _ _ XB1.out, (HQ.out.but (but_setRow _ gA _) (fun k hk => ⟨_, _, by subst hk; exact XA.out, by decide, by decide⟩) (below_row _ HQ.out.b LA.out)).but (but_setRow _ gB _) (fun k hk => ⟨_, _, by subst hk; exact XB1.out, by decide, by decide⟩) (below_row _ (below_row _ HQ.out.b LA.out) LB.out), EA.out, EB.out⟩⟩
      · go_simp
        have AL := hide (al v0 (.cells #[.int .i64 0, .int .i64 0, .slice none 0 0, .slice none 0 0, .int .i64 0] 25))
        have LA : Hid (w1.heap.size ≤ v0.heap.size) := BB.out.size
        replace BB := hide (bt BB.out AL.out)
        have XA := hide (heap_alloc_new v0 (.cells #[.int .i64 0, .int .i64 0, .slice none 0 0, .slice none 0 0, .int .i64 0] 25))
        refine hK.out _ _ (SS.out _ BB.out) (fun hHeld => ?_)
        clear hK K AL
        try simp only [Act.put, List.getElem_toArray, List.getElem_cons_zero, List.getElem_cons_succ, List.setIfInBounds_toArray, List.set_cons_zero, List.set_cons_succ]
        generalize (v0.alloc (.cells #[.int .i64 0, .int .i64 0, .slice none 0 0, .slice none 0 0, .int .i64 0] 25)) = v65 at *
        generalize v0.heap.size = gA at *
        refine wpAnyH_ready (rs := [2, 18]) (by kernel_rfl) (by simp) ?_
        refine (AllReadyH.cons rfl (fun K hK => ?_) (AllReadyH.cons rfl (fun K hK => ?_) AllReadyH.nil))
        · go_simp
          refine (SP1.out _ BB.out).mono ?_
          rintro _ v66 ⟨x, rfl, hS, -, hE, hb⟩
          have SX := hide hS
          have EX := hide hE
          replace XA := hide (blk_keep XA.out hb)
          replace BB := hide (bt BB.out hb)
          clear hS hE hb
          go_wp2_with fail
          refine hK.out _ _ (SS.out _ BB.out) (fun hHeld => ?_)
          clear hK K
          try simp only [Act.put, List.getElem_toArray, List.getElem_cons_zero, List.getElem_cons_succ, List.setIfInBounds_toArray, List.set_cons_zero, List.set_cons_succ]
          refine wpAnyH_ready (rs := [5, 18]) (by kernel_rfl) (by simp) ?_
          refine (AllReadyH.cons rfl (fun K hK => ?_) (AllReadyH.cons rfl (fun K hK => ?_) AllReadyH.nil))
          · go_simp
            refine (SP2.out _ BB.out).mono ?_
            rintro _ v67 ⟨y, rfl, hS, -, hE, hb⟩
            have SY := hide hS
            have EY := hide hE
            replace SX := hide (SX.out.keep hb)
            replace XA := hide (blk_keep XA.out hb)
            replace BB := hide (bt BB.out hb)
            clear hS hE hb
            go_wp2_with fail
            refine hK.out _ _ (SS.out _ BB.out) (fun hHeld => ?_)
            clear hK K
            try simp only [Act.put, List.getElem_toArray, List.getElem_cons_zero, List.getElem_cons_succ, List.setIfInBounds_toArray, List.set_cons_zero, List.set_cons_succ]
            refine wpAnyH_ready (rs := [8, 18]) (by kernel_rfl) (by simp) ?_
            refine (AllReadyH.cons rfl (fun K hK => ?_) (AllReadyH.cons rfl (fun K hK => ?_) AllReadyH.nil))
            · go_simp
              refine (SP3.out _ BB.out).mono ?_
              rintro _ v68 ⟨aK, cK, rfl, hO⟩
              have hb := hO.b
              have SK := hide hO.r
              replace SX := hide (SX.out.keep hb)
              replace SY := hide (SY.out.keep hb)
              replace XA := hide (blk_keep XA.out hb)
              replace BB := hide (bt BB.out hb)
              clear hO hb
              go_wp2_with fail
              refine hK.out _ _ (SS.out _ BB.out) (fun hHeld => ?_)
              clear hK K
              try simp only [Act.put, List.getElem_toArray, List.getElem_cons_zero, List.getElem_cons_succ, List.setIfInBounds_toArray, List.set_cons_zero, List.set_cons_succ]
              refine wpAnyH_ready (rs := [11, 18]) (by kernel_rfl) (by simp) ?_
              refine (AllReadyH.cons rfl (fun K hK => ?_) (AllReadyH.cons rfl (fun K hK => ?_) AllReadyH.nil))
              · go_simp
                refine (LN.out _ x y aK cK BB.out SX.out SY.out SK.out EX.out EY.out).mono ?_
                rintro _ v69 ⟨a, b, aU, cU, rfl, hH, ha, hb2⟩
                have hb := hH.b
                have HQ := hide (hH.pre BB.out)
                have EA := hide ha
                have EB := hide hb2
                clear SX SY SK
                replace XA := hide (blk_keep XA.out hb)
                replace BB := hide (bt BB.out hb)
                clear hH ha hb2 hb
                go_wp2_with fail
                refine hK.out _ _ (SS.out _ BB.out) (fun hHeld => ?_)
                clear hK K
                try simp only [Act.put, List.getElem_toArray, List.getElem_cons_zero, List.getElem_cons_succ, List.setIfInBounds_toArray, List.set_cons_zero, List.set_cons_succ]
                refine wpAnyH_take (i := 12) (v := ?vat6566676869x12) rfl (by kernel_rfl) (by kernel_rfl) (by kernel_rfl) (fun _ _ _ h => h) (Or.inl ⟨by rfl, ?hyt6566676869x12⟩) (by assumption) ?rat6566676869x12
                case hyt6566676869x12 => (intro wq hSw; (try dsimp only at hSw); obtain ⟨e0, e1, e2, e3, e4, e5, e6, e7, e8, e9, e10, e11⟩ := hSw; go_simp <;> with_reducible rfl)
                try simp only [Act.put, List.getElem_toArray, List.getElem_cons_zero, List.getElem_cons_succ, List.setIfInBounds_toArray, List.set_cons_zero, List.set_cons_succ]
                refine wpAnyH_take (i := 13) (v := ?vat6566676869x13) rfl (by kernel_rfl) (by kernel_rfl) (by kernel_rfl) (fun _ _ _ h => h) (Or.inl ⟨by rfl, ?hyt6566676869x13⟩) (by assumption) ?rat6566676869x13
                case hyt6566676869x13 => (intro wq hSw; (try dsimp only at hSw); obtain ⟨e0, e1, e2, e3, e4, e5, e6, e7, e8, e9, e10, e11⟩ := hSw; go_simp <;> with_reducible rfl)
                try simp only [Act.put, List.getElem_toArray, List.getElem_cons_zero, List.getElem_cons_succ, List.setIfInBounds_toArray, List.set_cons_zero, List.set_cons_succ]
                refine wpAnyH_take (i := 14) (v := ?vat6566676869x14) rfl (by kernel_rfl) (by kernel_rfl) (by kernel_rfl) (fun _ _ _ h => h) (Or.inl ⟨by rfl, ?hyt6566676869x14⟩) (by assumption) ?rat6566676869x14
                case hyt6566676869x14 => (intro wq hSw; (try dsimp only at hSw); obtain ⟨e0, e1, e2, e3, e4, e5, e6, e7, e8, e9, e10, e11⟩ := hSw; go_simp <;> with_reducible rfl)
                try simp only [Act.put, List.getElem_toArray, List.getElem_cons_zero, List.getElem_cons_succ, List.setIfInBounds_toArray, List.set_cons_zero, List.set_cons_succ]
                refine wpAnyH_take (i := 15) (v := ?vat6566676869x15) rfl (by kernel_rfl) (by kernel_rfl) (by kernel_rfl) (fun _ _ _ h => h) (Or.inl ⟨by rfl, ?hyt6566676869x15⟩) (by assumption) ?rat6566676869x15
                case hyt6566676869x15 => (intro wq hSw; (try dsimp only at hSw); obtain ⟨e0, e1, e2, e3, e4, e5, e6, e7, e8, e9, e10, e11⟩ := hSw; go_simp <;> with_reducible rfl)
                try simp only [Act.put, List.getElem_toArray, List.getElem_cons_zero, List.getElem_cons_succ, List.setIfInBounds_toArray, List.set_cons_zero, List.set_cons_succ]
                refine wpAnyH_take (i := 16) (v := ?vat6566676869x16) rfl (by kernel_rfl) (by kernel_rfl) (by kernel_rfl) (fun _ _ _ h => h) (Or.inl ⟨by rfl, ?hyt6566676869x16⟩) (by assumption) ?rat6566676869x16
                case hyt6566676869x16 => (intro wq hSw; (try dsimp only at hSw); obtain ⟨e0, e1, e2, e3, e4, e5, e6, e7, e8, e9, e10, e11⟩ := hSw; go_simp <;> with_reducible rfl)
                try simp only [Act.put, List.getElem_toArray, List.getElem_cons_zero, List.getElem_cons_succ, List.setIfInBounds_toArray, List.set_cons_zero, List.set_cons_succ]
                refine wpAnyH_ready (rs := [18]) (by kernel_rfl) (by simp) ?_
                refine (AllReadyH.cons rfl (fun K hK => ?_) AllReadyH.nil)
                · go_simp
                  have AL := hide (al v69 (.cells #[.int .i64 0, .int .i64 0, .slice none 0 0, .slice none 0 0, .int .i64 0] 25))
                  have LB : Hid (w1.heap.size ≤ v69.heap.size) := BB.out.size
                  have NE : Hid (gA ≠ v69.heap.size) := by have := (Array.getElem?_eq_some_iff.1 XA.out).1; show _ ≠ _; omega
                  replace HQ := hide (HQ.out.keep AL.out)
                  replace XA := hide (blk_keep XA.out AL.out)
                  replace BB := hide (bt BB.out AL.out)
                  have XB := hide (heap_alloc_new v69 (.cells #[.int .i64 0, .int .i64 0, .slice none 0 0, .slice none 0 0, .int .i64 0] 25))
                  refine hK.out _ _ (SS.out _ BB.out) (fun hHeld => ?_)
                  clear hK K AL
                  try simp only [Act.put, List.getElem_toArray, List.getElem_cons_zero, List.getElem_cons_succ, List.setIfInBounds_toArray, List.set_cons_zero, List.set_cons_succ]
                  generalize (v69.alloc (.cells #[.int .i64 0, .int .i64 0, .slice none 0 0, .slice none 0 0, .int .i64 0] 25)) = v70 at *
                  generalize v69.heap.size = gB at *
                  have hAne : w.heap.size ≠ gA := by have := LA.out; omega
                  have hBne : w.heap.size ≠ gB := by have := LB.out; omega
                  refine wpAnyH_ready (rs := [19]) (by kernel_rfl) (by simp) ?_
                  refine AllReadyH.cons rfl (fun K hK => ?_) AllReadyH.nil
                  rw [if_pos (by rfl)]
                  have XB1 := hide (row_far (W := v70) (g := gA) #[.int .i64 a.kind, .int .i64 a.level, .slice a.aI a.items.length a.cI, .slice a.aD a.data.length a.cD, .int .i64 a.next] XB.out (Ne.symm NE.out))
                  refine wp_store_row 25 _ _ rfl gA _ rfl rfl 25 _ XA.out sizePage rfl (by simp [Value.oneCell']) ?_
                  refine hK.out _ _ (cells12b (row_far _ (BX.out _ BB.out) hAne)) (fun hHeld => ?_)
                  clear hK K
                  try simp only [Act.put, List.getElem_toArray, List.getElem_cons_zero, List.getElem_cons_succ, List.setIfInBounds_toArray, List.set_cons_zero, List.set_cons_succ]
                  refine wpAnyH_ready (rs := [20]) (by kernel_rfl) (by simp) ?_
                  refine AllReadyH.cons rfl (fun K hK => ?_) AllReadyH.nil
                  rw [if_pos (by rfl)]
                  refine wp_store_row 25 _ _ rfl gB _ rfl rfl 25 _ XB1.out sizePage rfl (by simp [Value.oneCell']) ?_
                  refine hK.out _ _ (cells12b (row_far _ (row_far _ (BX.out _ BB.out) hAne) hBne)) (fun hHeld => ?_)
                  clear hK K
                  try simp only [Act.put, List.getElem_toArray, List.getElem_cons_zero, List.getElem_cons_succ, List.setIfInBounds_toArray, List.set_cons_zero, List.set_cons_succ]
                  refine wpAnyH_take (i := 21) (v := ?vat65666768697021) rfl (by kernel_rfl) (by kernel_rfl) (by kernel_rfl) (fun _ _ _ h => h) (Or.inl ⟨by rfl, ?hyt65666768697021⟩) (by assumption) ?rat65666768697021
                  case hyt65666768697021 => (intro wq hSw; (try dsimp only at hSw); obtain ⟨e0, e1, e2, e3, e4, e5, e6, e7, e8, e9, e10, e11⟩ := hSw; go_simp <;> with_reducible rfl)
                  try simp only [Act.put, List.getElem_toArray, List.getElem_cons_zero, List.getElem_cons_succ, List.setIfInBounds_toArray, List.set_cons_zero, List.set_cons_succ]
                  refine wpAnyH_take (i := 22) (v := ?vat65666768697022) rfl (by kernel_rfl) (by kernel_rfl) (by kernel_rfl) (fun _ _ _ h => h) (Or.inl ⟨by rfl, ?hyt65666768697022⟩) (by assumption) ?rat65666768697022
                  case hyt65666768697022 => (intro wq hSw; (try dsimp only at hSw); obtain ⟨e0, e1, e2, e3, e4, e5, e6, e7, e8, e9, e10, e11⟩ := hSw; go_simp <;> with_reducible rfl)
                  try simp only [Act.put, List.getElem_toArray, List.getElem_cons_zero, List.getElem_cons_succ, List.setIfInBounds_toArray, List.set_cons_zero, List.set_cons_succ]
                  refine wpAnyH_done (by kernel_rfl) ?_ _
                  clear hHeld
                  go_wp2_with fail
                  go_meet
                  case rel => exact ⟨gA, gB, a, b, aU, cU, rfl, rfl, rfl, rfl, ⟨row_far _ (setRow_heap _ _ _ _ _ _ XA.out) NE.out, setRow_heap _ _ _ _ _ _ XB1.out, (HQ.out.but (but_setRow _ gA _) (fun k hk => ⟨_, _, by subst hk; exact XA.out, by decide, by decide⟩) (below_row _ HQ.out.b LA.out)).but (but_setRow _ gB _) (fun k hk => ⟨_, _, by subst hk; exact XB1.out, by decide, by decide⟩) (below_row _ (below_row _ HQ.out.b LA.out) LB.out), EA.out, EB.out⟩⟩
              · go_simp
                have AL := hide (al v68 (.cells #[.int .i64 0, .int .i64 0, .slice none 0 0, .slice none 0 0, .int .i64 0] 25))
                have LB : Hid (w1.heap.size ≤ v68.heap.size) := BB.out.size
                have NE : Hid (gA ≠ v68.heap.size) := by have := (Array.getElem?_eq_some_iff.1 XA.out).1; show _ ≠ _; omega
                replace SX := hide (SX.out.keep AL.out)
                replace SY := hide (SY.out.keep AL.out)
                replace SK := hide (SK.out.keep AL.out)
                replace XA := hide (blk_keep XA.out AL.out)
                replace BB := hide (bt BB.out AL.out)
                have XB := hide (heap_alloc_new v68 (.cells #[.int .i64 0, .int .i64 0, .slice none 0 0, .slice none 0 0, .int .i64 0] 25))
                refine hK.out _ _ (SS.out _ BB.out) (fun hHeld => ?_)
                clear hK K AL
                try simp only [Act.put, List.getElem_toArray, List.getElem_cons_zero, List.getElem_cons_succ, List.setIfInBounds_toArray, List.set_cons_zero, List.set_cons_succ]
                generalize (v68.alloc (.cells #[.int .i64 0, .int .i64 0, .slice none 0 0, .slice none 0 0, .int .i64 0] 25)) = v71 at *
                generalize v68.heap.size = gB at *
                refine wpAnyH_ready (rs := [11]) (by kernel_rfl) (by simp) ?_
                refine (AllReadyH.cons rfl (fun K hK => ?_) AllReadyH.nil)
                · go_simp
                  refine (LN.out _ x y aK cK BB.out SX.out SY.out SK.out EX.out EY.out).mono ?_
                  rintro _ v72 ⟨a, b, aU, cU, rfl, hH, ha, hb2⟩
                  have hb := hH.b
                  have HQ := hide (hH.pre BB.out)
                  have EA := hide ha
                  have EB := hide hb2
                  clear SX SY SK
                  replace XA := hide (blk_keep XA.out hb)
                  replace XB := hide (blk_keep XB.out hb)
                  replace BB := hide (bt BB.out hb)
                  clear hH ha hb2 hb
                  go_wp2_with fail
                  refine hK.out _ _ (SS.out _ BB.out) (fun hHeld => ?_)
                  clear hK K
                  try simp only [Act.put, List.getElem_toArray, List.getElem_cons_zero, List.getElem_cons_succ, List.setIfInBounds_toArray, List.set_cons_zero, List.set_cons_succ]
                  refine wpAnyH_take (i := 12) (v := ?vat656667687172x12) rfl (by kernel_rfl) (by kernel_rfl) (by kernel_rfl) (fun _ _ _ h => h) (Or.inl ⟨by rfl, ?hyt656667687172x12⟩) (by assumption) ?rat656667687172x12
                  case hyt656667687172x12 => (intro wq hSw; (try dsimp only at hSw); obtain ⟨e0, e1, e2, e3, e4, e5, e6, e7, e8, e9, e10, e11⟩ := hSw; go_simp <;> with_reducible rfl)
                  try simp only [Act.put, List.getElem_toArray, List.getElem_cons_zero, List.getElem_cons_succ, List.setIfInBounds_toArray, List.set_cons_zero, List.set_cons_succ]
                  refine wpAnyH_take (i := 13) (v := ?vat656667687172x13) rfl (by kernel_rfl) (by kernel_rfl) (by kernel_rfl) (fun _ _ _ h => h) (Or.inl ⟨by rfl, ?hyt656667687172x13⟩) (by assumption) ?rat656667687172x13
                  case hyt656667687172x13 => (intro wq hSw; (try dsimp only at hSw); obtain ⟨e0, e1, e2, e3, e4, e5, e6, e7, e8, e9, e10, e11⟩ := hSw; go_simp <;> with_reducible rfl)
                  try simp only [Act.put, List.getElem_toArray, List.getElem_cons_zero, List.getElem_cons_succ, List.setIfInBounds_toArray, List.set_cons_zero, List.set_cons_succ]
                  refine wpAnyH_take (i := 14) (v := ?vat656667687172x14) rfl (by kernel_rfl) (by kernel_rfl) (by kernel_rfl) (fun _ _ _ h => h) (Or.inl ⟨by rfl, ?hyt656667687172x14⟩) (by assumption) ?rat656667687172x14
                  case hyt656667687172x14 => (intro wq hSw; (try dsimp only at hSw); obtain ⟨e0, e1, e2, e3, e4, e5, e6, e7, e8, e9, e10, e11⟩ := hSw; go_simp <;> with_reducible rfl)
                  try simp only [Act.put, List.getElem_toArray, List.getElem_cons_zero, List.getElem_cons_succ, List.setIfInBounds_toArray, List.set_cons_zero, List.set_cons_succ]
                  refine wpAnyH_take (i := 15) (v := ?vat656667687172x15) rfl (by kernel_rfl) (by kernel_rfl) (by kernel_rfl) (fun _ _ _ h => h) (Or.inl ⟨by rfl, ?hyt656667687172x15⟩) (by assumption) ?rat656667687172x15
                  case hyt656667687172x15 => (intro wq hSw; (try dsimp only at hSw); obtain ⟨e0, e1, e2, e3, e4, e5, e6, e7, e8, e9, e10, e11⟩ := hSw; go_simp <;> with_reducible rfl)
                  try simp only [Act.put, List.getElem_toArray, List.getElem_cons_zero, List.getElem_cons_succ, List.setIfInBounds_toArray, List.set_cons_zero, List.set_cons_succ]
                  refine wpAnyH_take (i := 16) (v := ?vat656667687172x16) rfl (by kernel_rfl) (by kernel_rfl) (by kernel_rfl) (fun _ _ _ h => h) (Or.inl ⟨by rfl, ?hyt656667687172x16⟩) (by assumption) ?rat656667687172x16
                  case hyt656667687172x16 => (intro wq hSw; (try dsimp only at hSw); obtain ⟨e0, e1, e2, e3, e4, e5, e6, e7, e8, e9, e10, e11⟩ := hSw; go_simp <;> with_reducible rfl)
                  try simp only [Act.put, List.getElem_toArray, List.getElem_cons_zero, List.getElem_cons_succ, List.setIfInBounds_toArray, List.set_cons_zero, List.set_cons_succ]
                  have hAne : w.heap.size ≠ gA := by have := LA.out; omega
                  have hBne : w.heap.size ≠ gB := by have := LB.out; omega
                  refine wpAnyH_ready (rs := [19]) (by kernel_rfl) (by simp) ?_
                  refine AllReadyH.cons rfl (fun K hK => ?_) AllReadyH.nil
                  rw [if_pos (by rfl)]
                  have XB1 := hide (row_far (W := v72) (g := gA) #[.int .i64 a.kind, .int .i64 a.level, .slice a.aI a.items.length a.cI, .slice a.aD a.data.length a.cD, .int .i64 a.next] XB.out (Ne.symm NE.out))
                  refine wp_store_row 25 _ _ rfl gA _ rfl rfl 25 _ XA.out sizePage rfl (by simp [Value.oneCell']) ?_
                  refine hK.out _ _ (cells12b (row_far _ (BX.out _ BB.out) hAne)) (fun hHeld => ?_)
                  clear hK K
                  try simp only [Act.put, List.getElem_toArray, List.getElem_cons_zero, List.getElem_cons_succ, List.setIfInBounds_toArray, List.set_cons_zero, List.set_cons_succ]
                  refine wpAnyH_ready (rs := [20]) (by kernel_rfl) (by simp) ?_
                  refine AllReadyH.cons rfl (fun K hK => ?_) AllReadyH.nil
                  rw [if_pos (by rfl)]
                  refine wp_store_row 25 _ _ rfl gB _ rfl rfl 25 _ XB1.out sizePage rfl (by simp [Value.oneCell']) ?_
                  refine hK.out _ _ (cells12b (row_far _ (row_far _ (BX.out _ BB.out) hAne) hBne)) (fun hHeld => ?_)
                  clear hK K
                  try simp only [Act.put, List.getElem_toArray, List.getElem_cons_zero, List.getElem_cons_succ, List.setIfInBounds_toArray, List.set_cons_zero, List.set_cons_succ]
                  refine wpAnyH_take (i := 21) (v := ?vat65666768717221) rfl (by kernel_rfl) (by kernel_rfl) (by kernel_rfl) (fun _ _ _ h => h) (Or.inl ⟨by rfl, ?hyt65666768717221⟩) (by assumption) ?rat65666768717221
                  case hyt65666768717221 => (intro wq hSw; (try dsimp only at hSw); obtain ⟨e0, e1, e2, e3, e4, e5, e6, e7, e8, e9, e10, e11⟩ := hSw; go_simp <;> with_reducible rfl)
                  try simp only [Act.put, List.getElem_toArray, List.getElem_cons_zero, List.getElem_cons_succ, List.setIfInBounds_toArray, List.set_cons_zero, List.set_cons_succ]
                  refine wpAnyH_take (i := 22) (v := ?vat65666768717222) rfl (by kernel_rfl) (by kernel_rfl) (by kernel_rfl) (fun _ _ _ h => h) (Or.inl ⟨by rfl, ?hyt65666768717222⟩) (by assumption) ?rat65666768717222
                  case hyt65666768717222 => (intro wq hSw; (try dsimp only at hSw); obtain ⟨e0, e1, e2, e3, e4, e5, e6, e7, e8, e9, e10, e11⟩ := hSw; go_simp <;> with_reducible rfl)
                  try simp only [Act.put, List.getElem_toArray, List.getElem_cons_zero, List.getElem_cons_succ, List.setIfInBounds_toArray, List.set_cons_zero, List.set_cons_succ]
                  refine wpAnyH_done (by kernel_rfl) ?_ _
                  clear hHeld
                  go_wp2_with fail
                  go_meet
                  case rel => exact ⟨gA, gB, a, b, aU, cU, rfl, rfl, rfl, rfl, ⟨row_far _ (setRow_heap _ _ _ _ _ _ XA.out) NE.out, setRow_heap _ _ _ _ _ _ XB1.out, (HQ.out.but (but_setRow _ gA _) (fun k hk => ⟨_, _, by subst hk; exact XA.out, by decide, by decide⟩) (below_row _ HQ.out.b LA.out)).but (but_setRow _ gB _) (fun k hk => ⟨_, _, by subst hk; exact XB1.out, by decide, by decide⟩) (below_row _ (below_row _ HQ.out.b LA.out) LB.out), EA.out, EB.out⟩⟩
            · go_simp
              have AL := hide (al v67 (.cells #[.int .i64 0, .int .i64 0, .slice none 0 0, .slice none 0 0, .int .i64 0] 25))
              have LB : Hid (w1.heap.size ≤ v67.heap.size) := BB.out.size
              have NE : Hid (gA ≠ v67.heap.size) := by have := (Array.getElem?_eq_some_iff.1 XA.out).1; show _ ≠ _; omega
              replace SX := hide (SX.out.keep AL.out)
              replace SY := hide (SY.out.keep AL.out)
              replace XA := hide (blk_keep XA.out AL.out)
              replace BB := hide (bt BB.out AL.out)
              have XB := hide (heap_alloc_new v67 (.cells #[.int .i64 0, .int .i64 0, .slice none 0 0, .slice none 0 0, .int .i64 0] 25))
              refine hK.out _ _ (SS.out _ BB.out) (fun hHeld => ?_)
              clear hK K AL
              try simp only [Act.put, List.getElem_toArray, List.getElem_cons_zero, List.getElem_cons_succ, List.setIfInBounds_toArray, List.set_cons_zero, List.set_cons_succ]
              generalize (v67.alloc (.cells #[.int .i64 0, .int .i64 0, .slice none 0 0, .slice none 0 0, .int .i64 0] 25)) = v73 at *
              generalize v67.heap.size = gB at *
              refine wpAnyH_ready (rs := [8]) (by kernel_rfl) (by simp) ?_
              refine (AllReadyH.cons rfl (fun K hK => ?_) AllReadyH.nil)
              · go_simp
                refine (SP3.out _ BB.out).mono ?_
                rintro _ v74 ⟨aK, cK, rfl, hO⟩
                have hb := hO.b
                have SK := hide hO.r
                replace SX := hide (SX.out.keep hb)
                replace SY := hide (SY.out.keep hb)
                replace XA := hide (blk_keep XA.out hb)
                replace XB := hide (blk_keep XB.out hb)
                replace BB := hide (bt BB.out hb)
                clear hO hb
                go_wp2_with fail
                refine hK.out _ _ (SS.out _ BB.out) (fun hHeld => ?_)
                clear hK K
                try simp only [Act.put, List.getElem_toArray, List.getElem_cons_zero, List.getElem_cons_succ, List.setIfInBounds_toArray, List.set_cons_zero, List.set_cons_succ]
                refine wpAnyH_ready (rs := [11]) (by kernel_rfl) (by simp) ?_
                refine (AllReadyH.cons rfl (fun K hK => ?_) AllReadyH.nil)
                · go_simp
                  refine (LN.out _ x y aK cK BB.out SX.out SY.out SK.out EX.out EY.out).mono ?_
                  rintro _ v75 ⟨a, b, aU, cU, rfl, hH, ha, hb2⟩
                  have hb := hH.b
                  have HQ := hide (hH.pre BB.out)
                  have EA := hide ha
                  have EB := hide hb2
                  clear SX SY SK
                  replace XA := hide (blk_keep XA.out hb)
                  replace XB := hide (blk_keep XB.out hb)
                  replace BB := hide (bt BB.out hb)
                  clear hH ha hb2 hb
                  go_wp2_with fail
                  refine hK.out _ _ (SS.out _ BB.out) (fun hHeld => ?_)
                  clear hK K
                  try simp only [Act.put, List.getElem_toArray, List.getElem_cons_zero, List.getElem_cons_succ, List.setIfInBounds_toArray, List.set_cons_zero, List.set_cons_succ]
                  refine wpAnyH_take (i := 12) (v := ?vat656667737475x12) rfl (by kernel_rfl) (by kernel_rfl) (by kernel_rfl) (fun _ _ _ h => h) (Or.inl ⟨by rfl, ?hyt656667737475x12⟩) (by assumption) ?rat656667737475x12
                  case hyt656667737475x12 => (intro wq hSw; (try dsimp only at hSw); obtain ⟨e0, e1, e2, e3, e4, e5, e6, e7, e8, e9, e10, e11⟩ := hSw; go_simp <;> with_reducible rfl)
                  try simp only [Act.put, List.getElem_toArray, List.getElem_cons_zero, List.getElem_cons_succ, List.setIfInBounds_toArray, List.set_cons_zero, List.set_cons_succ]
                  refine wpAnyH_take (i := 13) (v := ?vat656667737475x13) rfl (by kernel_rfl) (by kernel_rfl) (by kernel_rfl) (fun _ _ _ h => h) (Or.inl ⟨by rfl, ?hyt656667737475x13⟩) (by assumption) ?rat656667737475x13
                  case hyt656667737475x13 => (intro wq hSw; (try dsimp only at hSw); obtain ⟨e0, e1, e2, e3, e4, e5, e6, e7, e8, e9, e10, e11⟩ := hSw; go_simp <;> with_reducible rfl)
                  try simp only [Act.put, List.getElem_toArray, List.getElem_cons_zero, List.getElem_cons_succ, List.setIfInBounds_toArray, List.set_cons_zero, List.set_cons_succ]
                  refine wpAnyH_take (i := 14) (v := ?vat656667737475x14) rfl (by kernel_rfl) (by kernel_rfl) (by kernel_rfl) (fun _ _ _ h => h) (Or.inl ⟨by rfl, ?hyt656667737475x14⟩) (by assumption) ?rat656667737475x14
                  case hyt656667737475x14 => (intro wq hSw; (try dsimp only at hSw); obtain ⟨e0, e1, e2, e3, e4, e5, e6, e7, e8, e9, e10, e11⟩ := hSw; go_simp <;> with_reducible rfl)
                  try simp only [Act.put, List.getElem_toArray, List.getElem_cons_zero, List.getElem_cons_succ, List.setIfInBounds_toArray, List.set_cons_zero, List.set_cons_succ]
                  refine wpAnyH_take (i := 15) (v := ?vat656667737475x15) rfl (by kernel_rfl) (by kernel_rfl) (by kernel_rfl) (fun _ _ _ h => h) (Or.inl ⟨by rfl, ?hyt656667737475x15⟩) (by assumption) ?rat656667737475x15
                  case hyt656667737475x15 => (intro wq hSw; (try dsimp only at hSw); obtain ⟨e0, e1, e2, e3, e4, e5, e6, e7, e8, e9, e10, e11⟩ := hSw; go_simp <;> with_reducible rfl)
                  try simp only [Act.put, List.getElem_toArray, List.getElem_cons_zero, List.getElem_cons_succ, List.setIfInBounds_toArray, List.set_cons_zero, List.set_cons_succ]
                  refine wpAnyH_take (i := 16) (v := ?vat656667737475x16) rfl (by kernel_rfl) (by kernel_rfl) (by kernel_rfl) (fun _ _ _ h => h) (Or.inl ⟨by rfl, ?hyt656667737475x16⟩) (by assumption) ?rat656667737475x16
                  case hyt656667737475x16 => (intro wq hSw; (try dsimp only at hSw); obtain ⟨e0, e1, e2, e3, e4, e5, e6, e7, e8, e9, e10, e11⟩ := hSw; go_simp <;> with_reducible rfl)
                  try simp only [Act.put, List.getElem_toArray, List.getElem_cons_zero, List.getElem_cons_succ, List.setIfInBounds_toArray, List.set_cons_zero, List.set_cons_succ]
                  have hAne : w.heap.size ≠ gA := by have := LA.out; omega
                  have hBne : w.heap.size ≠ gB := by have := LB.out; omega
                  refine wpAnyH_ready (rs := [19]) (by kernel_rfl) (by simp) ?_
                  refine AllReadyH.cons rfl (fun K hK => ?_) AllReadyH.nil
                  rw [if_pos (by rfl)]
                  have XB1 := hide (row_far (W := v75) (g := gA) #[.int .i64 a.kind, .int .i64 a.level, .slice a.aI a.items.length a.cI, .slice a.aD a.data.length a.cD, .int .i64 a.next] XB.out (Ne.symm NE.out))
                  refine wp_store_row 25 _ _ rfl gA _ rfl rfl 25 _ XA.out sizePage rfl (by simp [Value.oneCell']) ?_
                  refine hK.out _ _ (cells12b (row_far _ (BX.out _ BB.out) hAne)) (fun hHeld => ?_)
                  clear hK K
                  try simp only [Act.put, List.getElem_toArray, List.getElem_cons_zero, List.getElem_cons_succ, List.setIfInBounds_toArray, List.set_cons_zero, List.set_cons_succ]
                  refine wpAnyH_ready (rs := [20]) (by kernel_rfl) (by simp) ?_
                  refine AllReadyH.cons rfl (fun K hK => ?_) AllReadyH.nil
                  rw [if_pos (by rfl)]
                  refine wp_store_row 25 _ _ rfl gB _ rfl rfl 25 _ XB1.out sizePage rfl (by simp [Value.oneCell']) ?_
                  refine hK.out _ _ (cells12b (row_far _ (row_far _ (BX.out _ BB.out) hAne) hBne)) (fun hHeld => ?_)
                  clear hK K
                  try simp only [Act.put, List.getElem_toArray, List.getElem_cons_zero, List.getElem_cons_succ, List.setIfInBounds_toArray, List.set_cons_zero, List.set_cons_succ]
                  refine wpAnyH_take (i := 21) (v := ?vat65666773747521) rfl (by kernel_rfl) (by kernel_rfl) (by kernel_rfl) (fun _ _ _ h => h) (Or.inl ⟨by rfl, ?hyt65666773747521⟩) (by assumption) ?rat65666773747521
                  case hyt65666773747521 => (intro wq hSw; (try dsimp only at hSw); obtain ⟨e0, e1, e2, e3, e4, e5, e6, e7, e8, e9, e10, e11⟩ := hSw; go_simp <;> with_reducible rfl)
                  try simp only [Act.put, List.getElem_toArray, List.getElem_cons_zero, List.getElem_cons_succ, List.setIfInBounds_toArray, List.set_cons_zero, List.set_cons_succ]
                  refine wpAnyH_take (i := 22) (v := ?vat65666773747522) rfl (by kernel_rfl) (by kernel_rfl) (by kernel_rfl) (fun _ _ _ h => h) (Or.inl ⟨by rfl, ?hyt65666773747522⟩) (by assumption) ?rat65666773747522
                  case hyt65666773747522 => (intro wq hSw; (try dsimp only at hSw); obtain ⟨e0, e1, e2, e3, e4, e5, e6, e7, e8, e9, e10, e11⟩ := hSw; go_simp <;> with_reducible rfl)
                  try simp only [Act.put, List.getElem_toArray, List.getElem_cons_zero, List.getElem_cons_succ, List.setIfInBounds_toArray, List.set_cons_zero, List.set_cons_succ]
                  refine wpAnyH_done (by kernel_rfl) ?_ _
                  clear hHeld
                  go_wp2_with fail
                  go_meet
                  case rel => exact ⟨gA, gB, a, b, aU, cU, rfl, rfl, rfl, rfl, ⟨row_far _ (setRow_heap _ _ _ _ _ _ XA.out) NE.out, setRow_heap _ _ _ _ _ _ XB1.out, (HQ.out.but (but_setRow _ gA _) (fun k hk => ⟨_, _, by subst hk; exact XA.out, by decide, by decide⟩) (below_row _ HQ.out.b LA.out)).but (but_setRow _ gB _) (fun k hk => ⟨_, _, by subst hk; exact XB1.out, by decide, by decide⟩) (below_row _ (below_row _ HQ.out.b LA.out) LB.out), EA.out, EB.out⟩⟩
          · go_simp
            have AL := hide (al v66 (.cells #[.int .i64 0, .int .i64 0, .slice none 0 0, .slice none 0 0, .int .i64 0] 25))
            have LB : Hid (w1.heap.size ≤ v66.heap.size) := BB.out.size
            have NE : Hid (gA ≠ v66.heap.size) := by have := (Array.getElem?_eq_some_iff.1 XA.out).1; show _ ≠ _; omega
            replace SX := hide (SX.out.keep AL.out)
            replace XA := hide (blk_keep XA.out AL.out)
            replace BB := hide (bt BB.out AL.out)
            have XB := hide (heap_alloc_new v66 (.cells #[.int .i64 0, .int .i64 0, .slice none 0 0, .slice none 0 0, .int .i64 0] 25))
            refine hK.out _ _ (SS.out _ BB.out) (fun hHeld => ?_)
            clear hK K AL
            try simp only [Act.put, List.getElem_toArray, List.getElem_cons_zero, List.getElem_cons_succ, List.setIfInBounds_toArray, List.set_cons_zero, List.set_cons_succ]
            generalize (v66.alloc (.cells #[.int .i64 0, .int .i64 0, .slice none 0 0, .slice none 0 0, .int .i64 0] 25)) = v76 at *
            generalize v66.heap.size = gB at *
            refine wpAnyH_ready (rs := [5]) (by kernel_rfl) (by simp) ?_
            refine (AllReadyH.cons rfl (fun K hK => ?_) AllReadyH.nil)
            · go_simp
              refine (SP2.out _ BB.out).mono ?_
              rintro _ v77 ⟨y, rfl, hS, -, hE, hb⟩
              have SY := hide hS
              have EY := hide hE
              replace SX := hide (SX.out.keep hb)
              replace XA := hide (blk_keep XA.out hb)
              replace XB := hide (blk_keep XB.out hb)
              replace BB := hide (bt BB.out hb)
              clear hS hE hb
              go_wp2_with fail
              refine hK.out _ _ (SS.out _ BB.out) (fun hHeld => ?_)
              clear hK K
              try simp only [Act.put, List.getElem_toArray, List.getElem_cons_zero, List.getElem_cons_succ, List.setIfInBounds_toArray, List.set_cons_zero, List.set_cons_succ]
              refine wpAnyH_ready (rs := [8]) (by kernel_rfl) (by simp) ?_
              refine (AllReadyH.cons rfl (fun K hK => ?_) AllReadyH.nil)
              · go_simp
                refine (SP3.out _ BB.out).mono ?_
                rintro _ v78 ⟨aK, cK, rfl, hO⟩
                have hb := hO.b
                have SK := hide hO.r
                replace SX := hide (SX.out.keep hb)
                replace SY := hide (SY.out.keep hb)
                replace XA := hide (blk_keep XA.out hb)
                replace XB := hide (blk_keep XB.out hb)
                replace BB := hide (bt BB.out hb)
                clear hO hb
                go_wp2_with fail
                refine hK.out _ _ (SS.out _ BB.out) (fun hHeld => ?_)
                clear hK K
                try simp only [Act.put, List.getElem_toArray, List.getElem_cons_zero, List.getElem_cons_succ, List.setIfInBounds_toArray, List.set_cons_zero, List.set_cons_succ]
                refine wpAnyH_ready (rs := [11]) (by kernel_rfl) (by simp) ?_
                refine (AllReadyH.cons rfl (fun K hK => ?_) AllReadyH.nil)
                · go_simp
                  refine (LN.out _ x y aK cK BB.out SX.out SY.out SK.out EX.out EY.out).mono ?_
                  rintro _ v79 ⟨a, b, aU, cU, rfl, hH, ha, hb2⟩
                  have hb := hH.b
                  have HQ := hide (hH.pre BB.out)
                  have EA := hide ha
                  have EB := hide hb2
                  clear SX SY SK
                  replace XA := hide (blk_keep XA.out hb)
                  replace XB := hide (blk_keep XB.out hb)
                  replace BB := hide (bt BB.out hb)
                  clear hH ha hb2 hb
                  go_wp2_with fail
                  refine hK.out _ _ (SS.out _ BB.out) (fun hHeld => ?_)
                  clear hK K
                  try simp only [Act.put, List.getElem_toArray, List.getElem_cons_zero, List.getElem_cons_succ, List.setIfInBounds_toArray, List.set_cons_zero, List.set_cons_succ]
                  refine wpAnyH_take (i := 12) (v := ?vat656676777879x12) rfl (by kernel_rfl) (by kernel_rfl) (by kernel_rfl) (fun _ _ _ h => h) (Or.inl ⟨by rfl, ?hyt656676777879x12⟩) (by assumption) ?rat656676777879x12
                  case hyt656676777879x12 => (intro wq hSw; (try dsimp only at hSw); obtain ⟨e0, e1, e2, e3, e4, e5, e6, e7, e8, e9, e10, e11⟩ := hSw; go_simp <;> with_reducible rfl)
                  try simp only [Act.put, List.getElem_toArray, List.getElem_cons_zero, List.getElem_cons_succ, List.setIfInBounds_toArray, List.set_cons_zero, List.set_cons_succ]
                  refine wpAnyH_take (i := 13) (v := ?vat656676777879x13) rfl (by kernel_rfl) (by kernel_rfl) (by kernel_rfl) (fun _ _ _ h => h) (Or.inl ⟨by rfl, ?hyt656676777879x13⟩) (by assumption) ?rat656676777879x13
                  case hyt656676777879x13 => (intro wq hSw; (try dsimp only at hSw); obtain ⟨e0, e1, e2, e3, e4, e5, e6, e7, e8, e9, e10, e11⟩ := hSw; go_simp <;> with_reducible rfl)
                  try simp only [Act.put, List.getElem_toArray, List.getElem_cons_zero, List.getElem_cons_succ, List.setIfInBounds_toArray, List.set_cons_zero, List.set_cons_succ]
                  refine wpAnyH_take (i := 14) (v := ?vat656676777879x14) rfl (by kernel_rfl) (by kernel_rfl) (by kernel_rfl) (fun _ _ _ h => h) (Or.inl ⟨by rfl, ?hyt656676777879x14⟩) (by assumption) ?rat656676777879x14
                  case hyt656676777879x14 => (intro wq hSw; (try dsimp only at hSw); obtain ⟨e0, e1, e2, e3, e4, e5, e6, e7, e8, e9, e10, e11⟩ := hSw; go_simp <;> with_reducible rfl)
                  try simp only [Act.put, List.getElem_toArray, List.getElem_cons_zero, List.getElem_cons_succ, List.setIfInBounds_toArray, List.set_cons_zero, List.set_cons_succ]
                  refine wpAnyH_take (i := 15) (v := ?vat656676777879x15) rfl (by kernel_rfl) (by kernel_rfl) (by kernel_rfl) (fun _ _ _ h => h) (Or.inl ⟨by rfl, ?hyt656676777879x15⟩) (by assumption) ?rat656676777879x15
                  case hyt656676777879x15 => (intro wq hSw; (try dsimp only at hSw); obtain ⟨e0, e1, e2, e3, e4, e5, e6, e7, e8, e9, e10, e11⟩ := hSw; go_simp <;> with_reducible rfl)
                  try simp only [Act.put, List.getElem_toArray, List.getElem_cons_zero, List.getElem_cons_succ, List.setIfInBounds_toArray, List.set_cons_zero, List.set_cons_succ]
                  refine wpAnyH_take (i := 16) (v := ?vat656676777879x16) rfl (by kernel_rfl) (by kernel_rfl) (by kernel_rfl) (fun _ _ _ h => h) (Or.inl ⟨by rfl, ?hyt656676777879x16⟩) (by assumption) ?rat656676777879x16
                  case hyt656676777879x16 => (intro wq hSw; (try dsimp only at hSw); obtain ⟨e0, e1, e2, e3, e4, e5, e6, e7, e8, e9, e10, e11⟩ := hSw; go_simp <;> with_reducible rfl)
                  try simp only [Act.put, List.getElem_toArray, List.getElem_cons_zero, List.getElem_cons_succ, List.setIfInBounds_toArray, List.set_cons_zero, List.set_cons_succ]
                  have hAne : w.heap.size ≠ gA := by have := LA.out; omega
                  have hBne : w.heap.size ≠ gB := by have := LB.out; omega
                  refine wpAnyH_ready (rs := [19]) (by kernel_rfl) (by simp) ?_
                  refine AllReadyH.cons rfl (fun K hK => ?_) AllReadyH.nil
                  rw [if_pos (by rfl)]
                  have XB1 := hide (row_far (W := v79) (g := gA) #[.int .i64 a.kind, .int .i64 a.level, .slice a.aI a.items.length a.cI, .slice a.aD a.data.length a.cD, .int .i64 a.next] XB.out (Ne.symm NE.out))
                  refine wp_store_row 25 _ _ rfl gA _ rfl rfl 25 _ XA.out sizePage rfl (by simp [Value.oneCell']) ?_
                  refine hK.out _ _ (cells12b (row_far _ (BX.out _ BB.out) hAne)) (fun hHeld => ?_)
                  clear hK K
                  try simp only [Act.put, List.getElem_toArray, List.getElem_cons_zero, List.getElem_cons_succ, List.setIfInBounds_toArray, List.set_cons_zero, List.set_cons_succ]
                  refine wpAnyH_ready (rs := [20]) (by kernel_rfl) (by simp) ?_
                  refine AllReadyH.cons rfl (fun K hK => ?_) AllReadyH.nil
                  rw [if_pos (by rfl)]
                  refine wp_store_row 25 _ _ rfl gB _ rfl rfl 25 _ XB1.out sizePage rfl (by simp [Value.oneCell']) ?_
                  refine hK.out _ _ (cells12b (row_far _ (row_far _ (BX.out _ BB.out) hAne) hBne)) (fun hHeld => ?_)
                  clear hK K
                  try simp only [Act.put, List.getElem_toArray, List.getElem_cons_zero, List.getElem_cons_succ, List.setIfInBounds_toArray, List.set_cons_zero, List.set_cons_succ]
                  refine wpAnyH_take (i := 21) (v := ?vat65667677787921) rfl (by kernel_rfl) (by kernel_rfl) (by kernel_rfl) (fun _ _ _ h => h) (Or.inl ⟨by rfl, ?hyt65667677787921⟩) (by assumption) ?rat65667677787921
                  case hyt65667677787921 => (intro wq hSw; (try dsimp only at hSw); obtain ⟨e0, e1, e2, e3, e4, e5, e6, e7, e8, e9, e10, e11⟩ := hSw; go_simp <;> with_reducible rfl)
                  try simp only [Act.put, List.getElem_toArray, List.getElem_cons_zero, List.getElem_cons_succ, List.setIfInBounds_toArray, List.set_cons_zero, List.set_cons_succ]
                  refine wpAnyH_take (i := 22) (v := ?vat65667677787922) rfl (by kernel_rfl) (by kernel_rfl) (by kernel_rfl) (fun _ _ _ h => h) (Or.inl ⟨by rfl, ?hyt65667677787922⟩) (by assumption) ?rat65667677787922
                  case hyt65667677787922 => (intro wq hSw; (try dsimp only at hSw); obtain ⟨e0, e1, e2, e3, e4, e5, e6, e7, e8, e9, e10, e11⟩ := hSw; go_simp <;> with_reducible rfl)
                  try simp only [Act.put, List.getElem_toArray, List.getElem_cons_zero, List.getElem_cons_succ, List.setIfInBounds_toArray, List.set_cons_zero, List.set_cons_succ]
                  refine wpAnyH_done (by kernel_rfl) ?_ _
                  clear hHeld
                  go_wp2_with fail
                  go_meet
                  case rel => exact ⟨gA, gB, a, b, aU, cU, rfl, rfl, rfl, rfl, ⟨row_far _ (setRow_heap _ _ _ _ _ _ XA.out) NE.out, setRow_heap _ _ _ _ _ _ XB1.out, (HQ.out.but (but_setRow _ gA _) (fun k hk => ⟨_, _, by subst hk; exact XA.out, by decide, by decide⟩) (below_row _ HQ.out.b LA.out)).but (but_setRow _ gB _) (fun k hk => ⟨_, _, by subst hk; exact XB1.out, by decide, by decide⟩) (below_row _ (below_row _ HQ.out.b LA.out) LB.out), EA.out, EB.out⟩⟩
        · go_simp
          have AL := hide (al v65 (.cells #[.int .i64 0, .int .i64 0, .slice none 0 0, .slice none 0 0, .int .i64 0] 25))
          have LB : Hid (w1.heap.size ≤ v65.heap.size) := BB.out.size
          have NE : Hid (gA ≠ v65.heap.size) := by have := (Array.getElem?_eq_some_iff.1 XA.out).1; show _ ≠ _; omega
          replace XA := hide (blk_keep XA.out AL.out)
          replace BB := hide (bt BB.out AL.out)
          have XB := hide (heap_alloc_new v65 (.cells #[.int .i64 0, .int .i64 0, .slice none 0 0, .slice none 0 0, .int .i64 0] 25))
          refine hK.out _ _ (SS.out _ BB.out) (fun hHeld => ?_)
          clear hK K AL
          try simp only [Act.put, List.getElem_toArray, List.getElem_cons_zero, List.getElem_cons_succ, List.setIfInBounds_toArray, List.set_cons_zero, List.set_cons_succ]
          generalize (v65.alloc (.cells #[.int .i64 0, .int .i64 0, .slice none 0 0, .slice none 0 0, .int .i64 0] 25)) = v80 at *
          generalize v65.heap.size = gB at *
          refine wpAnyH_ready (rs := [2]) (by kernel_rfl) (by simp) ?_
          refine (AllReadyH.cons rfl (fun K hK => ?_) AllReadyH.nil)
          · go_simp
            refine (SP1.out _ BB.out).mono ?_
            rintro _ v81 ⟨x, rfl, hS, -, hE, hb⟩
            have SX := hide hS
            have EX := hide hE
            replace XA := hide (blk_keep XA.out hb)
            replace XB := hide (blk_keep XB.out hb)
            replace BB := hide (bt BB.out hb)
            clear hS hE hb
            go_wp2_with fail
            refine hK.out _ _ (SS.out _ BB.out) (fun hHeld => ?_)
            clear hK K
            try simp only [Act.put, List.getElem_toArray, List.getElem_cons_zero, List.getElem_cons_succ, List.setIfInBounds_toArray, List.set_cons_zero, List.set_cons_succ]
            refine wpAnyH_ready (rs := [5]) (by kernel_rfl) (by simp) ?_
            refine (AllReadyH.cons rfl (fun K hK => ?_) AllReadyH.nil)
            · go_simp
              refine (SP2.out _ BB.out).mono ?_
              rintro _ v82 ⟨y, rfl, hS, -, hE, hb⟩
              have SY := hide hS
              have EY := hide hE
              replace SX := hide (SX.out.keep hb)
              replace XA := hide (blk_keep XA.out hb)
              replace XB := hide (blk_keep XB.out hb)
              replace BB := hide (bt BB.out hb)
              clear hS hE hb
              go_wp2_with fail
              refine hK.out _ _ (SS.out _ BB.out) (fun hHeld => ?_)
              clear hK K
              try simp only [Act.put, List.getElem_toArray, List.getElem_cons_zero, List.getElem_cons_succ, List.setIfInBounds_toArray, List.set_cons_zero, List.set_cons_succ]
              refine wpAnyH_ready (rs := [8]) (by kernel_rfl) (by simp) ?_
              refine (AllReadyH.cons rfl (fun K hK => ?_) AllReadyH.nil)
              · go_simp
                refine (SP3.out _ BB.out).mono ?_
                rintro _ v83 ⟨aK, cK, rfl, hO⟩
                have hb := hO.b
                have SK := hide hO.r
                replace SX := hide (SX.out.keep hb)
                replace SY := hide (SY.out.keep hb)
                replace XA := hide (blk_keep XA.out hb)
                replace XB := hide (blk_keep XB.out hb)
                replace BB := hide (bt BB.out hb)
                clear hO hb
                go_wp2_with fail
                refine hK.out _ _ (SS.out _ BB.out) (fun hHeld => ?_)
                clear hK K
                try simp only [Act.put, List.getElem_toArray, List.getElem_cons_zero, List.getElem_cons_succ, List.setIfInBounds_toArray, List.set_cons_zero, List.set_cons_succ]
                refine wpAnyH_ready (rs := [11]) (by kernel_rfl) (by simp) ?_
                refine (AllReadyH.cons rfl (fun K hK => ?_) AllReadyH.nil)
                · go_simp
                  refine (LN.out _ x y aK cK BB.out SX.out SY.out SK.out EX.out EY.out).mono ?_
                  rintro _ v84 ⟨a, b, aU, cU, rfl, hH, ha, hb2⟩
                  have hb := hH.b
                  have HQ := hide (hH.pre BB.out)
                  have EA := hide ha
                  have EB := hide hb2
                  clear SX SY SK
                  replace XA := hide (blk_keep XA.out hb)
                  replace XB := hide (blk_keep XB.out hb)
                  replace BB := hide (bt BB.out hb)
                  clear hH ha hb2 hb
                  go_wp2_with fail
                  refine hK.out _ _ (SS.out _ BB.out) (fun hHeld => ?_)
                  clear hK K
                  try simp only [Act.put, List.getElem_toArray, List.getElem_cons_zero, List.getElem_cons_succ, List.setIfInBounds_toArray, List.set_cons_zero, List.set_cons_succ]
                  refine wpAnyH_take (i := 12) (v := ?vat658081828384x12) rfl (by kernel_rfl) (by kernel_rfl) (by kernel_rfl) (fun _ _ _ h => h) (Or.inl ⟨by rfl, ?hyt658081828384x12⟩) (by assumption) ?rat658081828384x12
                  case hyt658081828384x12 => (intro wq hSw; (try dsimp only at hSw); obtain ⟨e0, e1, e2, e3, e4, e5, e6, e7, e8, e9, e10, e11⟩ := hSw; go_simp <;> with_reducible rfl)
                  try simp only [Act.put, List.getElem_toArray, List.getElem_cons_zero, List.getElem_cons_succ, List.setIfInBounds_toArray, List.set_cons_zero, List.set_cons_succ]
                  refine wpAnyH_take (i := 13) (v := ?vat658081828384x13) rfl (by kernel_rfl) (by kernel_rfl) (by kernel_rfl) (fun _ _ _ h => h) (Or.inl ⟨by rfl, ?hyt658081828384x13⟩) (by assumption) ?rat658081828384x13
                  case hyt658081828384x13 => (intro wq hSw; (try dsimp only at hSw); obtain ⟨e0, e1, e2, e3, e4, e5, e6, e7, e8, e9, e10, e11⟩ := hSw; go_simp <;> with_reducible rfl)
                  try simp only [Act.put, List.getElem_toArray, List.getElem_cons_zero, List.getElem_cons_succ, List.setIfInBounds_toArray, List.set_cons_zero, List.set_cons_succ]
                  refine wpAnyH_take (i := 14) (v := ?vat658081828384x14) rfl (by kernel_rfl) (by kernel_rfl) (by kernel_rfl) (fun _ _ _ h => h) (Or.inl ⟨by rfl, ?hyt658081828384x14⟩) (by assumption) ?rat658081828384x14
                  case hyt658081828384x14 => (intro wq hSw; (try dsimp only at hSw); obtain ⟨e0, e1, e2, e3, e4, e5, e6, e7, e8, e9, e10, e11⟩ := hSw; go_simp <;> with_reducible rfl)
                  try simp only [Act.put, List.getElem_toArray, List.getElem_cons_zero, List.getElem_cons_succ, List.setIfInBounds_toArray, List.set_cons_zero, List.set_cons_succ]
                  refine wpAnyH_take (i := 15) (v := ?vat658081828384x15) rfl (by kernel_rfl) (by kernel_rfl) (by kernel_rfl) (fun _ _ _ h => h) (Or.inl ⟨by rfl, ?hyt658081828384x15⟩) (by assumption) ?rat658081828384x15
                  case hyt658081828384x15 => (intro wq hSw; (try dsimp only at hSw); obtain ⟨e0, e1, e2, e3, e4, e5, e6, e7, e8, e9, e10, e11⟩ := hSw; go_simp <;> with_reducible rfl)
                  try simp only [Act.put, List.getElem_toArray, List.getElem_cons_zero, List.getElem_cons_succ, List.setIfInBounds_toArray, List.set_cons_zero, List.set_cons_succ]
                  refine wpAnyH_take (i := 16) (v := ?vat658081828384x16) rfl (by kernel_rfl) (by kernel_rfl) (by kernel_rfl) (fun _ _ _ h => h) (Or.inl ⟨by rfl, ?hyt658081828384x16⟩) (by assumption) ?rat658081828384x16
                  case hyt658081828384x16 => (intro wq hSw; (try dsimp only at hSw); obtain ⟨e0, e1, e2, e3, e4, e5, e6, e7, e8, e9, e10, e11⟩ := hSw; go_simp <;> with_reducible rfl)
                  try simp only [Act.put, List.getElem_toArray, List.getElem_cons_zero, List.getElem_cons_succ, List.setIfInBounds_toArray, List.set_cons_zero, List.set_cons_succ]
                  have hAne : w.heap.size ≠ gA := by have := LA.out; omega
                  have hBne : w.heap.size ≠ gB := by have := LB.out; omega
                  refine wpAnyH_ready (rs := [19]) (by kernel_rfl) (by simp) ?_
                  refine AllReadyH.cons rfl (fun K hK => ?_) AllReadyH.nil
                  rw [if_pos (by rfl)]
                  have XB1 := hide (row_far (W := v84) (g := gA) #[.int .i64 a.kind, .int .i64 a.level, .slice a.aI a.items.length a.cI, .slice a.aD a.data.length a.cD, .int .i64 a.next] XB.out (Ne.symm NE.out))
                  refine wp_store_row 25 _ _ rfl gA _ rfl rfl 25 _ XA.out sizePage rfl (by simp [Value.oneCell']) ?_
                  refine hK.out _ _ (cells12b (row_far _ (BX.out _ BB.out) hAne)) (fun hHeld => ?_)
                  clear hK K
                  try simp only [Act.put, List.getElem_toArray, List.getElem_cons_zero, List.getElem_cons_succ, List.setIfInBounds_toArray, List.set_cons_zero, List.set_cons_succ]
                  refine wpAnyH_ready (rs := [20]) (by kernel_rfl) (by simp) ?_
                  refine AllReadyH.cons rfl (fun K hK => ?_) AllReadyH.nil
                  rw [if_pos (by rfl)]
                  refine wp_store_row 25 _ _ rfl gB _ rfl rfl 25 _ XB1.out sizePage rfl (by simp [Value.oneCell']) ?_
                  refine hK.out _ _ (cells12b (row_far _ (row_far _ (BX.out _ BB.out) hAne) hBne)) (fun hHeld => ?_)
                  clear hK K
                  try simp only [Act.put, List.getElem_toArray, List.getElem_cons_zero, List.getElem_cons_succ, List.setIfInBounds_toArray, List.set_cons_zero, List.set_cons_succ]
                  refine wpAnyH_take (i := 21) (v := ?vat65808182838421) rfl (by kernel_rfl) (by kernel_rfl) (by kernel_rfl) (fun _ _ _ h => h) (Or.inl ⟨by rfl, ?hyt65808182838421⟩) (by assumption) ?rat65808182838421
                  case hyt65808182838421 => (intro wq hSw; (try dsimp only at hSw); obtain ⟨e0, e1, e2, e3, e4, e5, e6, e7, e8, e9, e10, e11⟩ := hSw; go_simp <;> with_reducible rfl)
                  try simp only [Act.put, List.getElem_toArray, List.getElem_cons_zero, List.getElem_cons_succ, List.setIfInBounds_toArray, List.set_cons_zero, List.set_cons_succ]
                  refine wpAnyH_take (i := 22) (v := ?vat65808182838422) rfl (by kernel_rfl) (by kernel_rfl) (by kernel_rfl) (fun _ _ _ h => h) (Or.inl ⟨by rfl, ?hyt65808182838422⟩) (by assumption) ?rat65808182838422
                  case hyt65808182838422 => (intro wq hSw; (try dsimp only at hSw); obtain ⟨e0, e1, e2, e3, e4, e5, e6, e7, e8, e9, e10, e11⟩ := hSw; go_simp <;> with_reducible rfl)
                  try simp only [Act.put, List.getElem_toArray, List.getElem_cons_zero, List.getElem_cons_succ, List.setIfInBounds_toArray, List.set_cons_zero, List.set_cons_succ]
                  refine wpAnyH_done (by kernel_rfl) ?_ _
                  clear hHeld
                  go_wp2_with fail
                  go_meet
                  case rel => exact ⟨gA, gB, a, b, aU, cU, rfl, rfl, rfl, rfl, ⟨row_far _ (setRow_heap _ _ _ _ _ _ XA.out) NE.out, setRow_heap _ _ _ _ _ _ XB1.out, (HQ.out.but (but_setRow _ gA _) (fun k hk => ⟨_, _, by subst hk; exact XA.out, by decide, by decide⟩) (below_row _ HQ.out.b LA.out)).but (but_setRow _ gB _) (fun k hk => ⟨_, _, by subst hk; exact XB1.out, by decide, by decide⟩) (below_row _ (below_row _ HQ.out.b LA.out) LB.out), EA.out, EB.out⟩⟩
      · go_simp
        have AL := hide (al v0 (.cells #[.int .i64 0, .int .i64 0, .slice none 0 0, .slice none 0 0, .int .i64 0] 25))
        have LB : Hid (w1.heap.size ≤ v0.heap.size) := BB.out.size
        replace BB := hide (bt BB.out AL.out)
        have XB := hide (heap_alloc_new v0 (.cells #[.int .i64 0, .int .i64 0, .slice none 0 0, .slice none 0 0, .int .i64 0] 25))
        refine hK.out _ _ (SS.out _ BB.out) (fun hHeld => ?_)
        clear hK K AL
        try simp only [Act.put, List.getElem_toArray, List.getElem_cons_zero, List.getElem_cons_succ, List.setIfInBounds_toArray, List.set_cons_zero, List.set_cons_succ]
        generalize (v0.alloc (.cells #[.int .i64 0, .int .i64 0, .slice none 0 0, .slice none 0 0, .int .i64 0] 25)) = v85 at *
        generalize v0.heap.size = gB at *
        refine wpAnyH_ready (rs := [2, 17]) (by kernel_rfl) (by simp) ?_
        refine (AllReadyH.cons rfl (fun K hK => ?_) (AllReadyH.cons rfl (fun K hK => ?_) AllReadyH.nil))
        · go_simp
          refine (SP1.out _ BB.out).mono ?_
          rintro _ v86 ⟨x, rfl, hS, -, hE, hb⟩
          have SX := hide hS
          have EX := hide hE
          replace XB := hide (blk_keep XB.out hb)
          replace BB := hide (bt BB.out hb)
          clear hS hE hb
          go_wp2_with fail
          refine hK.out _ _ (SS.out _ BB.out) (fun hHeld => ?_)
          clear hK K
          try simp only [Act.put, List.getElem_toArray, List.getElem_cons_zero, List.getElem_cons_succ, List.setIfInBounds_toArray, List.set_cons_zero, List.set_cons_succ]
          refine wpAnyH_ready (rs := [5, 17]) (by kernel_rfl) (by simp) ?_
          refine (AllReadyH.cons rfl (fun K hK => ?_) (AllReadyH.cons rfl (fun K hK => ?_) AllReadyH.nil))
          · go_simp
            refine (SP2.out _ BB.out).mono ?_
            rintro _ v87 ⟨y, rfl, hS, -, hE, hb⟩
            have SY := hide hS
            have EY := hide hE
            replace SX := hide (SX.out.keep hb)
            replace XB := hide (blk_keep XB.out hb)
            replace BB := hide (bt BB.out hb)
            clear hS hE hb
            go_wp2_with fail
            refine hK.out _ _ (SS.out _ BB.out) (fun hHeld => ?_)
            clear hK K
            try simp only [Act.put, List.getElem_toArray, List.getElem_cons_zero, List.getElem_cons_succ, List.setIfInBounds_toArray, List.set_cons_zero, List.set_cons_succ]
            refine wpAnyH_ready (rs := [8, 17]) (by kernel_rfl) (by simp) ?_
            refine (AllReadyH.cons rfl (fun K hK => ?_) (AllReadyH.cons rfl (fun K hK => ?_) AllReadyH.nil))
            · go_simp
              refine (SP3.out _ BB.out).mono ?_
              rintro _ v88 ⟨aK, cK, rfl, hO⟩
              have hb := hO.b
              have SK := hide hO.r
              replace SX := hide (SX.out.keep hb)
              replace SY := hide (SY.out.keep hb)
              replace XB := hide (blk_keep XB.out hb)
              replace BB := hide (bt BB.out hb)
              clear hO hb
              go_wp2_with fail
              refine hK.out _ _ (SS.out _ BB.out) (fun hHeld => ?_)
              clear hK K
              try simp only [Act.put, List.getElem_toArray, List.getElem_cons_zero, List.getElem_cons_succ, List.setIfInBounds_toArray, List.set_cons_zero, List.set_cons_succ]
              refine wpAnyH_ready (rs := [11, 17]) (by kernel_rfl) (by simp) ?_
              refine (AllReadyH.cons rfl (fun K hK => ?_) (AllReadyH.cons rfl (fun K hK => ?_) AllReadyH.nil))
              · go_simp
                refine (LN.out _ x y aK cK BB.out SX.out SY.out SK.out EX.out EY.out).mono ?_
                rintro _ v89 ⟨a, b, aU, cU, rfl, hH, ha, hb2⟩
                have hb := hH.b
                have HQ := hide (hH.pre BB.out)
                have EA := hide ha
                have EB := hide hb2
                clear SX SY SK
                replace XB := hide (blk_keep XB.out hb)
                replace BB := hide (bt BB.out hb)
                clear hH ha hb2 hb
                go_wp2_with fail
                refine hK.out _ _ (SS.out _ BB.out) (fun hHeld => ?_)
                clear hK K
                try simp only [Act.put, List.getElem_toArray, List.getElem_cons_zero, List.getElem_cons_succ, List.setIfInBounds_toArray, List.set_cons_zero, List.set_cons_succ]
                refine wpAnyH_take (i := 12) (v := ?vat8586878889x12) rfl (by kernel_rfl) (by kernel_rfl) (by kernel_rfl) (fun _ _ _ h => h) (Or.inl ⟨by rfl, ?hyt8586878889x12⟩) (by assumption) ?rat8586878889x12
                case hyt8586878889x12 => (intro wq hSw; (try dsimp only at hSw); obtain ⟨e0, e1, e2, e3, e4, e5, e6, e7, e8, e9, e10, e11⟩ := hSw; go_simp <;> with_reducible rfl)
                try simp only [Act.put, List.getElem_toArray, List.getElem_cons_zero, List.getElem_cons_succ, List.setIfInBounds_toArray, List.set_cons_zero, List.set_cons_succ]
                refine wpAnyH_take (i := 13) (v := ?vat8586878889x13) rfl (by kernel_rfl) (by kernel_rfl) (by kernel_rfl) (fun _ _ _ h => h) (Or.inl ⟨by rfl, ?hyt8586878889x13⟩) (by assumption) ?rat8586878889x13
                case hyt8586878889x13 => (intro wq hSw; (try dsimp only at hSw); obtain ⟨e0, e1, e2, e3, e4, e5, e6, e7, e8, e9, e10, e11⟩ := hSw; go_simp <;> with_reducible rfl)
                try simp only [Act.put, List.getElem_toArray, List.getElem_cons_zero, List.getElem_cons_succ, List.setIfInBounds_toArray, List.set_cons_zero, List.set_cons_succ]
                refine wpAnyH_take (i := 14) (v := ?vat8586878889x14) rfl (by kernel_rfl) (by kernel_rfl) (by kernel_rfl) (fun _ _ _ h => h) (Or.inl ⟨by rfl, ?hyt8586878889x14⟩) (by assumption) ?rat8586878889x14
                case hyt8586878889x14 => (intro wq hSw; (try dsimp only at hSw); obtain ⟨e0, e1, e2, e3, e4, e5, e6, e7, e8, e9, e10, e11⟩ := hSw; go_simp <;> with_reducible rfl)
                try simp only [Act.put, List.getElem_toArray, List.getElem_cons_zero, List.getElem_cons_succ, List.setIfInBounds_toArray, List.set_cons_zero, List.set_cons_succ]
                refine wpAnyH_take (i := 15) (v := ?vat8586878889x15) rfl (by kernel_rfl) (by kernel_rfl) (by kernel_rfl) (fun _ _ _ h => h) (Or.inl ⟨by rfl, ?hyt8586878889x15⟩) (by assumption) ?rat8586878889x15
                case hyt8586878889x15 => (intro wq hSw; (try dsimp only at hSw); obtain ⟨e0, e1, e2, e3, e4, e5, e6, e7, e8, e9, e10, e11⟩ := hSw; go_simp <;> with_reducible rfl)
                try simp only [Act.put, List.getElem_toArray, List.getElem_cons_zero, List.getElem_cons_succ, List.setIfInBounds_toArray, List.set_cons_zero, List.set_cons_succ]
                refine wpAnyH_take (i := 16) (v := ?vat8586878889x16) rfl (by kernel_rfl) (by kernel_rfl) (by kernel_rfl) (fun _ _ _ h => h) (Or.inl ⟨by rfl, ?hyt8586878889x16⟩) (by assumption) ?rat8586878889x16
                case hyt8586878889x16 => (intro wq hSw; (try dsimp only at hSw); obtain ⟨e0, e1, e2, e3, e4, e5, e6, e7, e8, e9, e10, e11⟩ := hSw; go_simp <;> with_reducible rfl)
                try simp only [Act.put, List.getElem_toArray, List.getElem_cons_zero, List.getElem_cons_succ, List.setIfInBounds_toArray, List.set_cons_zero, List.set_cons_succ]
                refine wpAnyH_ready (rs := [17]) (by kernel_rfl) (by simp) ?_
                refine (AllReadyH.cons rfl (fun K hK => ?_) AllReadyH.nil)
                · go_simp
                  have AL := hide (al v89 (.cells #[.int .i64 0, .int .i64 0, .slice none 0 0, .slice none 0 0, .int .i64 0] 25))
                  have LA : Hid (w1.heap.size ≤ v89.heap.size) := BB.out.size
                  have NE : Hid (v89.heap.size ≠ gB) := by have := (Array.getElem?_eq_some_iff.1 XB.out).1; show _ ≠ _; omega
                  replace HQ := hide (HQ.out.keep AL.out)
                  replace XB := hide (blk_keep XB.out AL.out)
                  replace BB := hide (bt BB.out AL.out)
                  have XA := hide (heap_alloc_new v89 (.cells #[.int .i64 0, .int .i64 0, .slice none 0 0, .slice none 0 0, .int .i64 0] 25))
                  refine hK.out _ _ (SS.out _ BB.out) (fun hHeld => ?_)
                  clear hK K AL
                  try simp only [Act.put, List.getElem_toArray, List.getElem_cons_zero, List.getElem_cons_succ, List.setIfInBounds_toArray, List.set_cons_zero, List.set_cons_succ]
                  generalize (v89.alloc (.cells #[.int .i64 0, .int .i64 0, .slice none 0 0, .slice none 0 0, .int .i64 0] 25)) = v90 at *
                  generalize v89.heap.size = gA at *
                  have hAne : w.heap.size ≠ gA := by have := LA.out; omega
                  have hBne : w.heap.size ≠ gB := by have := LB.out; omega
                  refine wpAnyH_ready (rs := [19]) (by kernel_rfl) (by simp) ?_
                  refine AllReadyH.cons rfl (fun K hK => ?_) AllReadyH.nil
                  rw [if_pos (by rfl)]
                  have XB1 := hide (row_far (W := v90) (g := gA) #[.int .i64 a.kind, .int .i64 a.level, .slice a.aI a.items.length a.cI, .slice a.aD a.data.length a.cD, .int .i64 a.next] XB.out (Ne.symm NE.out))
                  refine wp_store_row 25 _ _ rfl gA _ rfl rfl 25 _ XA.out sizePage rfl (by simp [Value.oneCell']) ?_
                  refine hK.out _ _ (cells12b (row_far _ (BX.out _ BB.out) hAne)) (fun hHeld => ?_)
                  clear hK K
                  try simp only [Act.put, List.getElem_toArray, List.getElem_cons_zero, List.getElem_cons_succ, List.setIfInBounds_toArray, List.set_cons_zero, List.set_cons_succ]
                  refine wpAnyH_ready (rs := [20]) (by kernel_rfl) (by simp) ?_
                  refine AllReadyH.cons rfl (fun K hK => ?_) AllReadyH.nil
                  rw [if_pos (by rfl)]
                  refine wp_store_row 25 _ _ rfl gB _ rfl rfl 25 _ XB1.out sizePage rfl (by simp [Value.oneCell']) ?_
                  refine hK.out _ _ (cells12b (row_far _ (row_far _ (BX.out _ BB.out) hAne) hBne)) (fun hHeld => ?_)
                  clear hK K
                  try simp only [Act.put, List.getElem_toArray, List.getElem_cons_zero, List.getElem_cons_succ, List.setIfInBounds_toArray, List.set_cons_zero, List.set_cons_succ]
                  refine wpAnyH_take (i := 21) (v := ?vat85868788899021) rfl (by kernel_rfl) (by kernel_rfl) (by kernel_rfl) (fun _ _ _ h => h) (Or.inl ⟨by rfl, ?hyt85868788899021⟩) (by assumption) ?rat85868788899021
                  case hyt85868788899021 => (intro wq hSw; (try dsimp only at hSw); obtain ⟨e0, e1, e2, e3, e4, e5, e6, e7, e8, e9, e10, e11⟩ := hSw; go_simp <;> with_reducible rfl)
                  try simp only [Act.put, List.getElem_toArray, List.getElem_cons_zero, List.getElem_cons_succ, List.setIfInBounds_toArray, List.set_cons_zero, List.set_cons_succ]
                  refine wpAnyH_take (i := 22) (v := ?vat85868788899022) rfl (by kernel_rfl) (by kernel_rfl) (by kernel_rfl) (fun _ _ _ h => h) (Or.inl ⟨by rfl, ?hyt85868788899022⟩) (by assumption) ?rat85868788899022
                  case hyt85868788899022 => (intro wq hSw; (try dsimp only at hSw); obtain ⟨e0, e1, e2, e3, e4, e5, e6, e7, e8, e9, e10, e11⟩ := hSw; go_simp <;> with_reducible rfl)
                  try simp only [Act.put, List.getElem_toArray, List.getElem_cons_zero, List.getElem_cons_succ, List.setIfInBounds_toArray, List.set_cons_zero, List.set_cons_succ]
                  refine wpAnyH_done (by kernel_rfl) ?_ _
                  clear hHeld
                  go_wp2_with fail
                  go_meet
                  case rel => exact ⟨gA, gB, a, b, aU, cU, rfl, rfl, rfl, rfl, ⟨row_far _ (setRow_heap _ _ _ _ _ _ XA.out) NE.out, setRow_heap _ _ _ _ _ _ XB1.out, (HQ.out.but (but_setRow _ gA _) (fun k hk => ⟨_, _, by subst hk; exact XA.out, by decide, by decide⟩) (below_row _ HQ.out.b LA.out)).but (but_setRow _ gB _) (fun k hk => ⟨_, _, by subst hk; exact XB1.out, by decide, by decide⟩) (below_row _ (below_row _ HQ.out.b LA.out) LB.out), EA.out, EB.out⟩⟩
              · go_simp
                have AL := hide (al v88 (.cells #[.int .i64 0, .int .i64 0, .slice none 0 0, .slice none 0 0, .int .i64 0] 25))
                have LA : Hid (w1.heap.size ≤ v88.heap.size) := BB.out.size
                have NE : Hid (v88.heap.size ≠ gB) := by have := (Array.getElem?_eq_some_iff.1 XB.out).1; show _ ≠ _; omega
                replace SX := hide (SX.out.keep AL.out)
                replace SY := hide (SY.out.keep AL.out)
                replace SK := hide (SK.out.keep AL.out)
                replace XB := hide (blk_keep XB.out AL.out)
                replace BB := hide (bt BB.out AL.out)
                have XA := hide (heap_alloc_new v88 (.cells #[.int .i64 0, .int .i64 0, .slice none 0 0, .slice none 0 0, .int .i64 0] 25))
                refine hK.out _ _ (SS.out _ BB.out) (fun hHeld => ?_)
                clear hK K AL
                try simp only [Act.put, List.getElem_toArray, List.getElem_cons_zero, List.getElem_cons_succ, List.setIfInBounds_toArray, List.set_cons_zero, List.set_cons_succ]
                generalize (v88.alloc (.cells #[.int .i64 0, .int .i64 0, .slice none 0 0, .slice none 0 0, .int .i64 0] 25)) = v91 at *
                generalize v88.heap.size = gA at *
                refine wpAnyH_ready (rs := [11]) (by kernel_rfl) (by simp) ?_
                refine (AllReadyH.cons rfl (fun K hK => ?_) AllReadyH.nil)
                · go_simp
                  refine (LN.out _ x y aK cK BB.out SX.out SY.out SK.out EX.out EY.out).mono ?_
                  rintro _ v92 ⟨a, b, aU, cU, rfl, hH, ha, hb2⟩
                  have hb := hH.b
                  have HQ := hide (hH.pre BB.out)
                  have EA := hide ha
                  have EB := hide hb2
                  clear SX SY SK
                  replace XA := hide (blk_keep XA.out hb)
                  replace XB := hide (blk_keep XB.out hb)
                  replace BB := hide (bt BB.out hb)
                  clear hH ha hb2 hb
                  go_wp2_with fail
                  refine hK.out _ _ (SS.out _ BB.out) (fun hHeld => ?_)
                  clear hK K
                  try simp only [Act.put, List.getElem_toArray, List.getElem_cons_zero, List.getElem_cons_succ, List.setIfInBounds_toArray, List.set_cons_zero, List.set_cons_succ]
                  refine wpAnyH_take (i := 12) (v := ?vat858687889192x12) rfl (by kernel_rfl) (by kernel_rfl) (by kernel_rfl) (fun _ _ _ h => h) (Or.inl ⟨by rfl, ?hyt858687889192x12⟩) (by assumption) ?rat858687889192x12
                  case hyt858687889192x12 => (intro wq hSw; (try dsimp only at hSw); obtain ⟨e0, e1, e2, e3, e4, e5, e6, e7, e8, e9, e10, e11⟩ := hSw; go_simp <;> with_reducible rfl)
                  try simp only [Act.put, List.getElem_toArray, List.getElem_cons_zero, List.getElem_cons_succ, List.setIfInBounds_toArray, List.set_cons_zero, List.set_cons_succ]
                  refine wpAnyH_take (i := 13) (v := ?vat858687889192x13) rfl (by kernel_rfl) (by kernel_rfl) (by kernel_rfl) (fun _ _ _ h => h) (Or.inl ⟨by rfl, ?hyt858687889192x13⟩) (by assumption) ?rat858687889192x13
                  case hyt858687889192x13 => (intro wq hSw; (try dsimp only at hSw); obtain ⟨e0, e1, e2, e3, e4, e5, e6, e7, e8, e9, e10, e11⟩ := hSw; go_simp <;> with_reducible rfl)
                  try simp only [Act.put, List.getElem_toArray, List.getElem_cons_zero, List.getElem_cons_succ, List.setIfInBounds_toArray, List.set_cons_zero, List.set_cons_succ]
                  refine wpAnyH_take (i := 14) (v := ?vat858687889192x14) rfl (by kernel_rfl) (by kernel_rfl) (by kernel_rfl) (fun _ _ _ h => h) (Or.inl ⟨by rfl, ?hyt858687889192x14⟩) (by assumption) ?rat858687889192x14
                  case hyt858687889192x14 => (intro wq hSw; (try dsimp only at hSw); obtain ⟨e0, e1, e2, e3, e4, e5, e6, e7, e8, e9, e10, e11⟩ := hSw; go_simp <;> with_reducible rfl)
                  try simp only [Act.put, List.getElem_toArray, List.getElem_cons_zero, List.getElem_cons_succ, List.setIfInBounds_toArray, List.set_cons_zero, List.set_cons_succ]
                  refine wpAnyH_take (i := 15) (v := ?vat858687889192x15) rfl (by kernel_rfl) (by kernel_rfl) (by kernel_rfl) (fun _ _ _ h => h) (Or.inl ⟨by rfl, ?hyt858687889192x15⟩) (by assumption) ?rat858687889192x15
                  case hyt858687889192x15 => (intro wq hSw; (try dsimp only at hSw); obtain ⟨e0, e1, e2, e3, e4, e5, e6, e7, e8, e9, e10, e11⟩ := hSw; go_simp <;> with_reducible rfl)
                  try simp only [Act.put, List.getElem_toArray, List.getElem_cons_zero, List.getElem_cons_succ, List.setIfInBounds_toArray, List.set_cons_zero, List.set_cons_succ]
                  refine wpAnyH_take (i := 16) (v := ?vat858687889192x16) rfl (by kernel_rfl) (by kernel_rfl) (by kernel_rfl) (fun _ _ _ h => h) (Or.inl ⟨by rfl, ?hyt858687889192x16⟩) (by assumption) ?rat858687889192x16
                  case hyt858687889192x16 => (intro wq hSw; (try dsimp only at hSw); obtain ⟨e0, e1, e2, e3, e4, e5, e6, e7, e8, e9, e10, e11⟩ := hSw; go_simp <;> with_reducible rfl)
                  try simp only [Act.put, List.getElem_toArray, List.getElem_cons_zero, List.getElem_cons_succ, List.setIfInBounds_toArray, List.set_cons_zero, List.set_cons_succ]
                  have hAne : w.heap.size ≠ gA := by have := LA.out; omega
                  have hBne : w.heap.size ≠ gB := by have := LB.out; omega
                  refine wpAnyH_ready (rs := [19]) (by kernel_rfl) (by simp) ?_
                  refine AllReadyH.cons rfl (fun K hK => ?_) AllReadyH.nil
                  rw [if_pos (by rfl)]
                  have XB1 := hide (row_far (W := v92) (g := gA) #[.int .i64 a.kind, .int .i64 a.level, .slice a.aI a.items.length a.cI, .slice a.aD a.data.length a.cD, .int .i64 a.next] XB.out (Ne.symm NE.out))
                  refine wp_store_row 25 _ _ rfl gA _ rfl rfl 25 _ XA.out sizePage rfl (by simp [Value.oneCell']) ?_
                  refine hK.out _ _ (cells12b (row_far _ (BX.out _ BB.out) hAne)) (fun hHeld => ?_)
                  clear hK K
                  try simp only [Act.put, List.getElem_toArray, List.getElem_cons_zero, List.getElem_cons_succ, List.setIfInBounds_toArray, List.set_cons_zero, List.set_cons_succ]
                  refine wpAnyH_ready (rs := [20]) (by kernel_rfl) (by simp) ?_
                  refine AllReadyH.cons rfl (fun K hK => ?_) AllReadyH.nil
                  rw [if_pos (by rfl)]
                  refine wp_store_row 25 _ _ rfl gB _ rfl rfl 25 _ XB1.out sizePage rfl (by simp [Value.oneCell']) ?_
                  refine hK.out _ _ (cells12b (row_far _ (row_far _ (BX.out _ BB.out) hAne) hBne)) (fun hHeld => ?_)
                  clear hK K
                  try simp only [Act.put, List.getElem_toArray, List.getElem_cons_zero, List.getElem_cons_succ, List.setIfInBounds_toArray, List.set_cons_zero, List.set_cons_succ]
                  refine wpAnyH_take (i := 21) (v := ?vat85868788919221) rfl (by kernel_rfl) (by kernel_rfl) (by kernel_rfl) (fun _ _ _ h => h) (Or.inl ⟨by rfl, ?hyt85868788919221⟩) (by assumption) ?rat85868788919221
                  case hyt85868788919221 => (intro wq hSw; (try dsimp only at hSw); obtain ⟨e0, e1, e2, e3, e4, e5, e6, e7, e8, e9, e10, e11⟩ := hSw; go_simp <;> with_reducible rfl)
                  try simp only [Act.put, List.getElem_toArray, List.getElem_cons_zero, List.getElem_cons_succ, List.setIfInBounds_toArray, List.set_cons_zero, List.set_cons_succ]
                  refine wpAnyH_take (i := 22) (v := ?vat85868788919222) rfl (by kernel_rfl) (by kernel_rfl) (by kernel_rfl) (fun _ _ _ h => h) (Or.inl ⟨by rfl, ?hyt85868788919222⟩) (by assumption) ?rat85868788919222
                  case hyt85868788919222 => (intro wq hSw; (try dsimp only at hSw); obtain ⟨e0, e1, e2, e3, e4, e5, e6, e7, e8, e9, e10, e11⟩ := hSw; go_simp <;> with_reducible rfl)
                  try simp only [Act.put, List.getElem_toArray, List.getElem_cons_zero, List.getElem_cons_succ, List.setIfInBounds_toArray, List.set_cons_zero, List.set_cons_succ]
                  refine wpAnyH_done (by kernel_rfl) ?_ _
                  clear hHeld
                  go_wp2_with fail
                  go_meet
                  case rel => exact ⟨gA, gB, a, b, aU, cU, rfl, rfl, rfl, rfl, ⟨row_far _ (setRow_heap _ _ _ _ _ _ XA.out) NE.out, setRow_heap _ _ _ _ _ _ XB1.out, (HQ.out.but (but_setRow _ gA _) (fun k hk => ⟨_, _, by subst hk; exact XA.out, by decide, by decide⟩) (below_row _ HQ.out.b LA.out)).but (but_setRow _ gB _) (fun k hk => ⟨_, _, by subst hk; exact XB1.out, by decide, by decide⟩) (below_row _ (below_row _ HQ.out.b LA.out) LB.out), EA.out, EB.out⟩⟩
            · go_simp
              have AL := hide (al v87 (.cells #[.int .i64 0, .int .i64 0, .slice none 0 0, .slice none 0 0, .int .i64 0] 25))
              have LA : Hid (w1.heap.size ≤ v87.heap.size) := BB.out.size
              have NE : Hid (v87.heap.size ≠ gB) := by have := (Array.getElem?_eq_some_iff.1 XB.out).1; show _ ≠ _; omega
              replace SX := hide (SX.out.keep AL.out)
              replace SY := hide (SY.out.keep AL.out)
              replace XB := hide (blk_keep XB.out AL.out)
              replace BB := hide (bt BB.out AL.out)
              have XA := hide (heap_alloc_new v87 (.cells #[.int .i64 0, .int .i64 0, .slice none 0 0, .slice none 0 0, .int .i64 0] 25))
              refine hK.out _ _ (SS.out _ BB.out) (fun hHeld => ?_)
              clear hK K AL
              try simp only [Act.put, List.getElem_toArray, List.getElem_cons_zero, List.getElem_cons_succ, List.setIfInBounds_toArray, List.set_cons_zero, List.set_cons_succ]
              generalize (v87.alloc (.cells #[.int .i64 0, .int .i64 0, .slice none 0 0, .slice none 0 0, .int .i64 0] 25)) = v93 at *
              generalize v87.heap.size = gA at *
              refine wpAnyH_ready (rs := [8]) (by kernel_rfl) (by simp) ?_
              refine (AllReadyH.cons rfl (fun K hK => ?_) AllReadyH.nil)
              · go_simp
                refine (SP3.out _ BB.out).mono ?_
                rintro _ v94 ⟨aK, cK, rfl, hO⟩
                have hb := hO.b
                have SK := hide hO.r
                replace SX := hide (SX.out.keep hb)
                replace SY := hide (SY.out.keep hb)
                replace XA := hide (blk_keep XA.out hb)
                replace XB := hide (blk_keep XB.out hb)
                replace BB := hide (bt BB.out hb)
                clear hO hb
                go_wp2_with fail
                refine hK.out _ _ (SS.out _ BB.out) (fun hHeld => ?_)
                clear hK K
                try simp only [Act.put, List.getElem_toArray, List.getElem_cons_zero, List.getElem_cons_succ, List.setIfInBounds_toArray, List.set_cons_zero, List.set_cons_succ]
                refine wpAnyH_ready (rs := [11]) (by kernel_rfl) (by simp) ?_
                refine (AllReadyH.cons rfl (fun K hK => ?_) AllReadyH.nil)
                · go_simp
                  refine (LN.out _ x y aK cK BB.out SX.out SY.out SK.out EX.out EY.out).mono ?_
                  rintro _ v95 ⟨a, b, aU, cU, rfl, hH, ha, hb2⟩
                  have hb := hH.b
                  have HQ := hide (hH.pre BB.out)
                  have EA := hide ha
                  have EB := hide hb2
                  clear SX SY SK
                  replace XA := hide (blk_keep XA.out hb)
                  replace XB := hide (blk_keep XB.out hb)
                  replace BB := hide (bt BB.out hb)
                  clear hH ha hb2 hb
                  go_wp2_with fail
                  refine hK.out _ _ (SS.out _ BB.out) (fun hHeld => ?_)
                  clear hK K
                  try simp only [Act.put, List.getElem_toArray, List.getElem_cons_zero, List.getElem_cons_succ, List.setIfInBounds_toArray, List.set_cons_zero, List.set_cons_succ]
                  refine wpAnyH_take (i := 12) (v := ?vat858687939495x12) rfl (by kernel_rfl) (by kernel_rfl) (by kernel_rfl) (fun _ _ _ h => h) (Or.inl ⟨by rfl, ?hyt858687939495x12⟩) (by assumption) ?rat858687939495x12
                  case hyt858687939495x12 => (intro wq hSw; (try dsimp only at hSw); obtain ⟨e0, e1, e2, e3, e4, e5, e6, e7, e8, e9, e10, e11⟩ := hSw; go_simp <;> with_reducible rfl)
                  try simp only [Act.put, List.getElem_toArray, List.getElem_cons_zero, List.getElem_cons_succ, List.setIfInBounds_toArray, List.set_cons_zero, List.set_cons_succ]
                  refine wpAnyH_take (i := 13) (v := ?vat858687939495x13) rfl (by kernel_rfl) (by kernel_rfl) (by kernel_rfl) (fun _ _ _ h => h) (Or.inl ⟨by rfl, ?hyt858687939495x13⟩) (by assumption) ?rat858687939495x13
                  case hyt858687939495x13 => (intro wq hSw; (try dsimp only at hSw); obtain ⟨e0, e1, e2, e3, e4, e5, e6, e7, e8, e9, e10, e11⟩ := hSw; go_simp <;> with_reducible rfl)
                  try simp only [Act.put, List.getElem_toArray, List.getElem_cons_zero, List.getElem_cons_succ, List.setIfInBounds_toArray, List.set_cons_zero, List.set_cons_succ]
                  refine wpAnyH_take (i := 14) (v := ?vat858687939495x14) rfl (by kernel_rfl) (by kernel_rfl) (by kernel_rfl) (fun _ _ _ h => h) (Or.inl ⟨by rfl, ?hyt858687939495x14⟩) (by assumption) ?rat858687939495x14
                  case hyt858687939495x14 => (intro wq hSw; (try dsimp only at hSw); obtain ⟨e0, e1, e2, e3, e4, e5, e6, e7, e8, e9, e10, e11⟩ := hSw; go_simp <;> with_reducible rfl)
                  try simp only [Act.put, List.getElem_toArray, List.getElem_cons_zero, List.getElem_cons_succ, List.setIfInBounds_toArray, List.set_cons_zero, List.set_cons_succ]
                  refine wpAnyH_take (i := 15) (v := ?vat858687939495x15) rfl (by kernel_rfl) (by kernel_rfl) (by kernel_rfl) (fun _ _ _ h => h) (Or.inl ⟨by rfl, ?hyt858687939495x15⟩) (by assumption) ?rat858687939495x15
                  case hyt858687939495x15 => (intro wq hSw; (try dsimp only at hSw); obtain ⟨e0, e1, e2, e3, e4, e5, e6, e7, e8, e9, e10, e11⟩ := hSw; go_simp <;> with_reducible rfl)
                  try simp only [Act.put, List.getElem_toArray, List.getElem_cons_zero, List.getElem_cons_succ, List.setIfInBounds_toArray, List.set_cons_zero, List.set_cons_succ]
                  refine wpAnyH_take (i := 16) (v := ?vat858687939495x16) rfl (by kernel_rfl) (by kernel_rfl) (by kernel_rfl) (fun _ _ _ h => h) (Or.inl ⟨by rfl, ?hyt858687939495x16⟩) (by assumption) ?rat858687939495x16
                  case hyt858687939495x16 => (intro wq hSw; (try dsimp only at hSw); obtain ⟨e0, e1, e2, e3, e4, e5, e6, e7, e8, e9, e10, e11⟩ := hSw; go_simp <;> with_reducible rfl)
                  try simp only [Act.put, List.getElem_toArray, List.getElem_cons_zero, List.getElem_cons_succ, List.setIfInBounds_toArray, List.set_cons_zero, List.set_cons_succ]
                  have hAne : w.heap.size ≠ gA := by have := LA.out; omega
                  have hBne : w.heap.size ≠ gB := by have := LB.out; omega
                  refine wpAnyH_ready (rs := [19]) (by kernel_rfl) (by simp) ?_
                  refine AllReadyH.cons rfl (fun K hK => ?_) AllReadyH.nil
                  rw [if_pos (by rfl)]
                  have XB1 := hide (row_far (W := v95) (g := gA) #[.int .i64 a.kind, .int .i64 a.level, .slice a.aI a.items.length a.cI, .slice a.aD a.data.length a.cD, .int .i64 a.next] XB.out (Ne.symm NE.out))
                  refine wp_store_row 25 _ _ rfl gA _ rfl rfl 25 _ XA.out sizePage rfl (by simp [Value.oneCell']) ?_
                  refine hK.out _ _ (cells12b (row_far _ (BX.out _ BB.out) hAne)) (fun hHeld => ?_)
                  clear hK K
                  try simp only [Act.put, List.getElem_toArray, List.getElem_cons_zero, List.getElem_cons_succ, List.setIfInBounds_toArray, List.set_cons_zero, List.set_cons_succ]
                  refine wpAnyH_ready (rs := [20]) (by kernel_rfl) (by simp) ?_
                  refine AllReadyH.cons rfl (fun K hK => ?_) AllReadyH.nil
                  rw [if_pos (by rfl)]
                  refine wp_store_row 25 _ _ rfl gB _ rfl rfl 25 _ XB1.out sizePage rfl (by simp [Value.oneCell']) ?_
                  refine hK.out _ _ (cells12b (row_far _ (row_far _ (BX.out _ BB.out) hAne) hBne)) (fun hHeld => ?_)
                  clear hK K
                  try simp only [Act.put, List.getElem_toArray, List.getElem_cons_zero, List.getElem_cons_succ, List.setIfInBounds_toArray, List.set_cons_zero, List.set_cons_succ]
                  refine wpAnyH_take (i := 21) (v := ?vat85868793949521) rfl (by kernel_rfl) (by kernel_rfl) (by kernel_rfl) (fun _ _ _ h => h) (Or.inl ⟨by rfl, ?hyt85868793949521⟩) (by assumption) ?rat85868793949521
                  case hyt85868793949521 => (intro wq hSw; (try dsimp only at hSw); obtain ⟨e0, e1, e2, e3, e4, e5, e6, e7, e8, e9, e10, e11⟩ := hSw; go_simp <;> with_reducible rfl)
                  try simp only [Act.put, List.getElem_toArray, List.getElem_cons_zero, List.getElem_cons_succ, List.setIfInBounds_toArray, List.set_cons_zero, List.set_cons_succ]
                  refine wpAnyH_take (i := 22) (v := ?vat85868793949522) rfl (by kernel_rfl) (by kernel_rfl) (by kernel_rfl) (fun _ _ _ h => h) (Or.inl ⟨by rfl, ?hyt85868793949522⟩) (by assumption) ?rat85868793949522
                  case hyt85868793949522 => (intro wq hSw; (try dsimp only at hSw); obtain ⟨e0, e1, e2, e3, e4, e5, e6, e7, e8, e9, e10, e11⟩ := hSw; go_simp <;> with_reducible rfl)
                  try simp only [Act.put, List.getElem_toArray, List.getElem_cons_zero, List.getElem_cons_succ, List.setIfInBounds_toArray, List.set_cons_zero, List.set_cons_succ]
                  refine wpAnyH_done (by kernel_rfl) ?_ _
                  clear hHeld
                  go_wp2_with fail
                  go_meet
                  case rel => exact ⟨gA, gB, a, b, aU, cU, rfl, rfl, rfl, rfl, ⟨row_far _ (setRow_heap _ _ _ _ _ _ XA.out) NE.out, setRow_heap _ _ _ _ _ _ XB1.out, (HQ.out.but (but_setRow _ gA _) (fun k hk => ⟨_, _, by subst hk; exact XA.out, by decide, by decide⟩) (below_row _ HQ.out.b LA.out)).but (but_setRow _ gB _) (fun k hk => ⟨_, _, by subst hk; exact XB1.out, by decide, by decide⟩) (below_row _ (below_row _ HQ.out.b LA.out) LB.out), EA.out, EB.out⟩⟩
          · go_simp
            have AL := hide (al v86 (.cells #[.int .i64 0, .int .i64 0, .slice none 0 0, .slice none 0 0, .int .i64 0] 25))
            have LA : Hid (w1.heap.size ≤ v86.heap.size) := BB.out.size
            have NE : Hid (v86.heap.size ≠ gB) := by have := (Array.getElem?_eq_some_iff.1 XB.out).1; show _ ≠ _; omega
            replace SX := hide (SX.out.keep AL.out)
            replace XB := hide (blk_keep XB.out AL.out)
            replace BB := hide (bt BB.out AL.out)
            have XA := hide (heap_alloc_new v86 (.cells #[.int .i64 0, .int .i64 0, .slice none 0 0, .slice none 0 0, .int .i64 0] 25))
            refine hK.out _ _ (SS.out _ BB.out) (fun hHeld => ?_)
            clear hK K AL
            try simp only [Act.put, List.getElem_toArray, List.getElem_cons_zero, List.getElem_cons_succ, List.setIfInBounds_toArray, List.set_cons_zero, List.set_cons_succ]
            generalize (v86.alloc (.cells #[.int .i64 0, .int .i64 0, .slice none 0 0, .slice none 0 0, .int .i64 0] 25)) = v96 at *
            generalize v86.heap.size = gA at *
            refine wpAnyH_ready (rs := [5]) (by kernel_rfl) (by simp) ?_
            refine (AllReadyH.cons rfl (fun K hK => ?_) AllReadyH.nil)
            · go_simp
              refine (SP2.out _ BB.out).mono ?_
              rintro _ v97 ⟨y, rfl, hS, -, hE, hb⟩
              have SY := hide hS
              have EY := hide hE
              replace SX := hide (SX.out.keep hb)
              replace XA := hide (blk_keep XA.out hb)
              replace XB := hide (blk_keep XB.out hb)
              replace BB := hide (bt BB.out hb)
              clear hS hE hb
              go_wp2_with fail
              refine hK.out _ _ (SS.out _ BB.out) (fun hHeld => ?_)
              clear hK K
              try simp only [Act.put, List.getElem_toArray, List.getElem_cons_zero, List.getElem_cons_succ, List.setIfInBounds_toArray, List.set_cons_zero, List.set_cons_succ]
              refine wpAnyH_ready (rs := [8]) (by kernel_rfl) (by simp) ?_
              refine (AllReadyH.cons rfl (fun K hK => ?_) AllReadyH.nil)
              · go_simp
                refine (SP3.out _ BB.out).mono ?_
                rintro _ v98 ⟨aK, cK, rfl, hO⟩
                have hb := hO.b
                have SK := hide hO.r
                replace SX := hide (SX.out.keep hb)
                replace SY := hide (SY.out.keep hb)
                replace XA := hide (blk_keep XA.out hb)
                replace XB := hide (blk_keep XB.out hb)
                replace BB := hide (bt BB.out hb)
                clear hO hb
                go_wp2_with fail
                refine hK.out _ _ (SS.out _ BB.out) (fun hHeld => ?_)
                clear hK K
                try simp only [Act.put, List.getElem_toArray, List.getElem_cons_zero, List.getElem_cons_succ, List.setIfInBounds_toArray, List.set_cons_zero, List.set_cons_succ]
                refine wpAnyH_ready (rs := [11]) (by kernel_rfl) (by simp) ?_
                refine (AllReadyH.cons rfl (fun K hK => ?_) AllReadyH.nil)
                · go_simp
                  refine (LN.out _ x y aK cK BB.out SX.out SY.out SK.out EX.out EY.out).mono ?_
                  rintro _ v99 ⟨a, b, aU, cU, rfl, hH, ha, hb2⟩
                  have hb := hH.b
                  have HQ := hide (hH.pre BB.out)
                  have EA := hide ha
                  have EB := hide hb2
                  clear SX SY SK
                  replace XA := hide (blk_keep XA.out hb)
                  replace XB := hide (blk_keep XB.out hb)
                  replace BB := hide (bt BB.out hb)
                  clear hH ha hb2 hb
                  go_wp2_with fail
                  refine hK.out _ _ (SS.out _ BB.out) (fun hHeld => ?_)
                  clear hK K
                  try simp only [Act.put, List.getElem_toArray, List.getElem_cons_zero, List.getElem_cons_succ, List.setIfInBounds_toArray, List.set_cons_zero, List.set_cons_succ]
                  refine wpAnyH_take (i := 12) (v := ?vat858696979899x12) rfl (by kernel_rfl) (by kernel_rfl) (by kernel_rfl) (fun _ _ _ h => h) (Or.inl ⟨by rfl, ?hyt858696979899x12⟩) (by assumption) ?rat858696979899x12
                  case hyt858696979899x12 => (intro wq hSw; (try dsimp only at hSw); obtain ⟨e0, e1, e2, e3, e4, e5, e6, e7, e8, e9, e10, e11⟩ := hSw; go_simp <;> with_reducible rfl)
                  try simp only [Act.put, List.getElem_toArray, List.getElem_cons_zero, List.getElem_cons_succ, List.setIfInBounds_toArray, List.set_cons_zero, List.set_cons_succ]
                  refine wpAnyH_take (i := 13) (v := ?vat858696979899x13) rfl (by kernel_rfl) (by kernel_rfl) (by kernel_rfl) (fun _ _ _ h => h) (Or.inl ⟨by rfl, ?hyt858696979899x13⟩) (by assumption) ?rat858696979899x13
                  case hyt858696979899x13 => (intro wq hSw; (try dsimp only at hSw); obtain ⟨e0, e1, e2, e3, e4, e5, e6, e7, e8, e9, e10, e11⟩ := hSw; go_simp <;> with_reducible rfl)
                  try simp only [Act.put, List.getElem_toArray, List.getElem_cons_zero, List.getElem_cons_succ, List.setIfInBounds_toArray, List.set_cons_zero, List.set_cons_succ]
                  refine wpAnyH_take (i := 14) (v := ?vat858696979899x14) rfl (by kernel_rfl) (by kernel_rfl) (by kernel_rfl) (fun _ _ _ h => h) (Or.inl ⟨by rfl, ?hyt858696979899x14⟩) (by assumption) ?rat858696979899x14
                  case hyt858696979899x14 => (intro wq hSw; (try dsimp only at hSw); obtain ⟨e0, e1, e2, e3, e4, e5, e6, e7, e8, e9, e10, e11⟩ := hSw; go_simp <;> with_reducible rfl)
                  try simp only [Act.put, List.getElem_toArray, List.getElem_cons_zero, List.getElem_cons_succ, List.setIfInBounds_toArray, List.set_cons_zero, List.set_cons_succ]
                  refine wpAnyH_take (i := 15) (v := ?vat858696979899x15) rfl (by kernel_rfl) (by kernel_rfl) (by kernel_rfl) (fun _ _ _ h => h) (Or.inl ⟨by rfl, ?hyt858696979899x15⟩) (by assumption) ?rat858696979899x15
                  case hyt858696979899x15 => (intro wq hSw; (try dsimp only at hSw); obtain ⟨e0, e1, e2, e3, e4, e5, e6, e7, e8, e9, e10, e11⟩ := hSw; go_simp <;> with_reducible rfl)
                  try simp only [Act.put, List.getElem_toArray, List.getElem_cons_zero, List.getElem_cons_succ, List.setIfInBounds_toArray, List.set_cons_zero, List.set_cons_succ]
                  refine wpAnyH_take (i := 16) (v := ?vat858696979899x16) rfl (by kernel_rfl) (by kernel_rfl) (by kernel_rfl) (fun _ _ _ h => h) (Or.inl ⟨by rfl, ?hyt858696979899x16⟩) (by assumption) ?rat858696979899x16
                  case hyt858696979899x16 => (intro wq hSw; (try dsimp only at hSw); obtain ⟨e0, e1, e2, e3, e4, e5, e6, e7, e8, e9, e10, e11⟩ := hSw; go_simp <;> with_reducible rfl)
                  try simp only [Act.put, List.getElem_toArray, List.getElem_cons_zero, List.getElem_cons_succ, List.setIfInBounds_toArray, List.set_cons_zero, List.set_cons_succ]
                  have hAne : w.heap.size ≠ gA := by have := LA.out; omega
                  have hBne : w.heap.size ≠ gB := by have := LB.out; omega
                  refine wpAnyH_ready (rs := [19]) (by kernel_rfl) (by simp) ?_
                  refine AllReadyH.cons rfl (fun K hK => ?_) AllReadyH.nil
                  rw [if_pos (by rfl)]
                  have XB1 := hide (row_far (W := v99) (g := gA) #[.int .i64 a.kind, .int .i64 a.level, .slice a.aI a.items.length a.cI, .slice a.aD a.data.length a.cD, .int .i64 a.next] XB.out (Ne.symm NE.out))
                  refine wp_store_row 25 _ _ rfl gA _ rfl rfl 25 _ XA.out sizePage rfl (by simp [Value.oneCell']) ?_
                  refine hK.out _ _ (cells12b (row_far _ (BX.out _ BB.out) hAne)) (fun hHeld => ?_)
                  clear hK K
                  try simp only [Act.put, List.getElem_toArray, List.getElem_cons_zero, List.getElem_cons_succ, List.setIfInBounds_toArray, List.set_cons_zero, List.set_cons_succ]
                  refine wpAnyH_ready (rs := [20]) (by kernel_rfl) (by simp) ?_
                  refine AllReadyH.cons rfl (fun K hK => ?_) AllReadyH.nil
                  rw [if_pos (by rfl)]
                  refine wp_store_row 25 _ _ rfl gB _ rfl rfl 25 _ XB1.out sizePage rfl (by simp [Value.oneCell']) ?_
                  refine hK.out _ _ (cells12b (row_far _ (row_far _ (BX.out _ BB.out) hAne) hBne)) (fun hHeld => ?_)
                  clear hK K
                  try simp only [Act.put, List.getElem_toArray, List.getElem_cons_zero, List.getElem_cons_succ, List.setIfInBounds_toArray, List.set_cons_zero, List.set_cons_succ]
                  refine wpAnyH_take (i := 21) (v := ?vat85869697989921) rfl (by kernel_rfl) (by kernel_rfl) (by kernel_rfl) (fun _ _ _ h => h) (Or.inl ⟨by rfl, ?hyt85869697989921⟩) (by assumption) ?rat85869697989921
                  case hyt85869697989921 => (intro wq hSw; (try dsimp only at hSw); obtain ⟨e0, e1, e2, e3, e4, e5, e6, e7, e8, e9, e10, e11⟩ := hSw; go_simp <;> with_reducible rfl)
                  try simp only [Act.put, List.getElem_toArray, List.getElem_cons_zero, List.getElem_cons_succ, List.setIfInBounds_toArray, List.set_cons_zero, List.set_cons_succ]
                  refine wpAnyH_take (i := 22) (v := ?vat85869697989922) rfl (by kernel_rfl) (by kernel_rfl) (by kernel_rfl) (fun _ _ _ h => h) (Or.inl ⟨by rfl, ?hyt85869697989922⟩) (by assumption) ?rat85869697989922
                  case hyt85869697989922 => (intro wq hSw; (try dsimp only at hSw); obtain ⟨e0, e1, e2, e3, e4, e5, e6, e7, e8, e9, e10, e11⟩ := hSw; go_simp <;> with_reducible rfl)
                  try simp only [Act.put, List.getElem_toArray, List.getElem_cons_zero, List.getElem_cons_succ, List.setIfInBounds_toArray, List.set_cons_zero, List.set_cons_succ]
                  refine wpAnyH_done (by kernel_rfl) ?_ _
                  clear hHeld
                  go_wp2_with fail
                  go_meet
                  case rel => exact ⟨gA, gB, a, b, aU, cU, rfl, rfl, rfl, rfl, ⟨row_far _ (setRow_heap _ _ _ _ _ _ XA.out) NE.out, setRow_heap _ _ _ _ _ _ XB1.out, (HQ.out.but (but_setRow _ gA _) (fun k hk => ⟨_, _, by subst hk; exact XA.out, by decide, by decide⟩) (below_row _ HQ.out.b LA.out)).but (but_setRow _ gB _) (fun k hk => ⟨_, _, by subst hk; exact XB1.out, by decide, by decide⟩) (below_row _ (below_row _ HQ.out.b LA.out) LB.out), EA.out, EB.out⟩⟩
        · go_simp
          have AL := hide (al v85 (.cells #[.int .i64 0, .int .i64 0, .slice none 0 0, .slice none 0 0, .int .i64 0] 25))
          have LA : Hid (w1.heap.size ≤ v85.heap.size) := BB.out.size
          have NE : Hid (v85.heap.size ≠ gB) := by have := (Array.getElem?_eq_some_iff.1 XB.out).1; show _ ≠ _; omega
          replace XB := hide (blk_keep XB.out AL.out)
          replace BB := hide (bt BB.out AL.out)
          have XA := hide (heap_alloc_new v85 (.cells #[.int .i64 0, .int .i64 0, .slice none 0 0, .slice none 0 0, .int .i64 0] 25))
          refine hK.out _ _ (SS.out _ BB.out) (fun hHeld => ?_)
          clear hK K AL
          try simp only [Act.put, List.getElem_toArray, List.getElem_cons_zero, List.getElem_cons_succ, List.setIfInBounds_toArray, List.set_cons_zero, List.set_cons_succ]
          generalize (v85.alloc (.cells #[.int .i64 0, .int .i64 0, .slice none 0 0, .slice none 0 0, .int .i64 0] 25)) = v100 at *
          generalize v85.heap.size = gA at *
          refine wpAnyH_ready (rs := [2]) (by kernel_rfl) (by simp) ?_
          refine (AllReadyH.cons rfl (fun K hK => ?_) AllReadyH.nil)
          · go_simp
            refine (SP1.out _ BB.out).mono ?_
            rintro _ v101 ⟨x, rfl, hS, -, hE, hb⟩
            have SX := hide hS
            have EX := hide hE
            replace XA := hide (blk_keep XA.out hb)
            replace XB := hide (blk_keep XB.out hb)
            replace BB := hide (bt BB.out hb)
            clear hS hE hb
            go_wp2_with fail
            refine hK.out _ _ (SS.out _ BB.out) (fun hHeld => ?_)
            clear hK K
            try simp only [Act.put, List.getElem_toArray, List.getElem_cons_zero, List.getElem_cons_succ, List.setIfInBounds_toArray, List.set_cons_zero, List.set_cons_succ]
            refine wpAnyH_ready (rs := [5]) (by kernel_rfl) (by simp) ?_
            refine (AllReadyH.cons rfl (fun K hK => ?_) AllReadyH.nil)
            · go_simp
              refine (SP2.out _ BB.out).mono ?_
              rintro _ v102 ⟨y, rfl, hS, -, hE, hb⟩
              have SY := hide hS
              have EY := hide hE
              replace SX := hide (SX.out.keep hb)
              replace XA := hide (blk_keep XA.out hb)
              replace XB := hide (blk_keep XB.out hb)
              replace BB := hide (bt BB.out hb)
              clear hS hE hb
              go_wp2_with fail
              refine hK.out _ _ (SS.out _ BB.out) (fun hHeld => ?_)
              clear hK K
              try simp only [Act.put, List.getElem_toArray, List.getElem_cons_zero, List.getElem_cons_succ, List.setIfInBounds_toArray, List.set_cons_zero, List.set_cons_succ]
              refine wpAnyH_ready (rs := [8]) (by kernel_rfl) (by simp) ?_
              refine (AllReadyH.cons rfl (fun K hK => ?_) AllReadyH.nil)
              · go_simp
                refine (SP3.out _ BB.out).mono ?_
                rintro _ v103 ⟨aK, cK, rfl, hO⟩
                have hb := hO.b
                have SK := hide hO.r
                replace SX := hide (SX.out.keep hb)
                replace SY := hide (SY.out.keep hb)
                replace XA := hide (blk_keep XA.out hb)
                replace XB := hide (blk_keep XB.out hb)
                replace BB := hide (bt BB.out hb)
                clear hO hb
                go_wp2_with fail
                refine hK.out _ _ (SS.out _ BB.out) (fun hHeld => ?_)
                clear hK K
                try simp only [Act.put, List.getElem_toArray, List.getElem_cons_zero, List.getElem_cons_succ, List.setIfInBounds_toArray, List.set_cons_zero, List.set_cons_succ]
                refine wpAnyH_ready (rs := [11]) (by kernel_rfl) (by simp) ?_
                refine (AllReadyH.cons rfl (fun K hK => ?_) AllReadyH.nil)
                · go_simp
                  refine (LN.out _ x y aK cK BB.out SX.out SY.out SK.out EX.out EY.out).mono ?_
                  rintro _ v104 ⟨a, b, aU, cU, rfl, hH, ha, hb2⟩
                  have hb := hH.b
                  have HQ := hide (hH.pre BB.out)
                  have EA := hide ha
                  have EB := hide hb2
                  clear SX SY SK
                  replace XA := hide (blk_keep XA.out hb)
                  replace XB := hide (blk_keep XB.out hb)
                  replace BB := hide (bt BB.out hb)
                  clear hH ha hb2 hb
                  go_wp2_with fail
                  refine hK.out _ _ (SS.out _ BB.out) (fun hHeld => ?_)
                  clear hK K
                  try simp only [Act.put, List.getElem_toArray, List.getElem_cons_zero, List.getElem_cons_succ, List.setIfInBounds_toArray, List.set_cons_zero, List.set_cons_succ]
                  refine wpAnyH_take (i := 12) (v := ?vat85100101102103104x12) rfl (by kernel_rfl) (by kernel_rfl) (by kernel_rfl) (fun _ _ _ h => h) (Or.inl ⟨by rfl, ?hyt85100101102103104x12⟩) (by assumption) ?rat85100101102103104x12
                  case hyt85100101102103104x12 => (intro wq hSw; (try dsimp only at hSw); obtain ⟨e0, e1, e2, e3, e4, e5, e6, e7, e8, e9, e10, e11⟩ := hSw; go_simp <;> with_reducible rfl)
                  try simp only [Act.put, List.getElem_toArray, List.getElem_cons_zero, List.getElem_cons_succ, List.setIfInBounds_toArray, List.set_cons_zero, List.set_cons_succ]
                  refine wpAnyH_take (i := 13) (v := ?vat85100101102103104x13) rfl (by kernel_rfl) (by kernel_rfl) (by kernel_rfl) (fun _ _ _ h => h) (Or.inl ⟨by rfl, ?hyt85100101102103104x13⟩) (by assumption) ?rat85100101102103104x13
                  case hyt85100101102103104x13 => (intro wq hSw; (try dsimp only at hSw); obtain ⟨e0, e1, e2, e3, e4, e5, e6, e7, e8, e9, e10, e11⟩ := hSw; go_simp <;> with_reducible rfl)
                  try simp only [Act.put, List.getElem_toArray, List.getElem_cons_zero, List.getElem_cons_succ, List.setIfInBounds_toArray, List.set_cons_zero, List.set_cons_succ]
                  refine wpAnyH_take (i := 14) (v := ?vat85100101102103104x14) rfl (by kernel_rfl) (by kernel_rfl) (by kernel_rfl) (fun _ _ _ h => h) (Or.inl ⟨by rfl, ?hyt85100101102103104x14⟩) (by assumption) ?rat85100101102103104x14
                  case hyt85100101102103104x14 => (intro wq hSw; (try dsimp only at hSw); obtain ⟨e0, e1, e2, e3, e4, e5, e6, e7, e8, e9, e10, e11⟩ := hSw; go_simp <;> with_reducible rfl)
                  try simp only [Act.put, List.getElem_toArray, List.getElem_cons_zero, List.getElem_cons_succ, List.setIfInBounds_toArray, List.set_cons_zero, List.set_cons_succ]
                  refine wpAnyH_take (i := 15) (v := ?vat85100101102103104x15) rfl (by kernel_rfl) (by kernel_rfl) (by kernel_rfl) (fun _ _ _ h => h) (Or.inl ⟨by rfl, ?hyt85100101102103104x15⟩) (by assumption) ?rat85100101102103104x15
                  case hyt85100101102103104x15 => (intro wq hSw; (try dsimp only at hSw); obtain ⟨e0, e1, e2, e3, e4, e5, e6, e7, e8, e9, e10, e11⟩ := hSw; go_simp <;> with_reducible rfl)
                  try simp only [Act.put, List.getElem_toArray, List.getElem_cons_zero, List.getElem_cons_succ, List.setIfInBounds_toArray, List.set_cons_zero, List.set_cons_succ]
                  refine wpAnyH_take (i := 16) (v := ?vat85100101102103104x16) rfl (by kernel_rfl) (by kernel_rfl) (by kernel_rfl) (fun _ _ _ h => h) (Or.inl ⟨by rfl, ?hyt85100101102103104x16⟩) (by assumption) ?rat85100101102103104x16
                  case hyt85100101102103104x16 => (intro wq hSw; (try dsimp only at hSw); obtain ⟨e0, e1, e2, e3, e4, e5, e6, e7, e8, e9, e10, e11⟩ := hSw; go_simp <;> with_reducible rfl)
                  try simp only [Act.put, List.getElem_toArray, List.getElem_cons_zero, List.getElem_cons_succ, List.setIfInBounds_toArray, List.set_cons_zero, List.set_cons_succ]
                  have hAne : w.heap.size ≠ gA := by have := LA.out; omega
                  have hBne : w.heap.size ≠ gB := by have := LB.out; omega
                  refine wpAnyH_ready (rs := [19]) (by kernel_rfl) (by simp) ?_
                  refine AllReadyH.cons rfl (fun K hK => ?_) AllReadyH.nil
                  rw [if_pos (by rfl)]
                  have XB1 := hide (row_far (W := v104) (g := gA) #[.int .i64 a.kind, .int .i64 a.level, .slice a.aI a.items.length a.cI, .slice a.aD a.data.length a.cD, .int .i64 a.next] XB.out (Ne.symm NE.out))
                  refine wp_store_row 25 _ _ rfl gA _ rfl rfl 25 _ XA.out sizePage rfl (by simp [Value.oneCell']) ?_
                  refine hK.out _ _ (cells12b (row_far _ (BX.out _ BB.out) hAne)) (fun hHeld => ?_)
                  clear hK K
                  try simp only [Act.put, List.getElem_toArray, List.getElem_cons_zero, List.getElem_cons_succ, List.setIfInBounds_toArray, List.set_cons_zero, List.set_cons_succ]
                  refine wpAnyH_ready (rs := [20]) (by kernel_rfl) (by simp) ?_
                  refine AllReadyH.cons rfl (fun K hK => ?_) AllReadyH.nil
                  rw [if_pos (by rfl)]
                  refine wp_store_row 25 _ _ rfl gB _ rfl rfl 25 _ XB1.out sizePage rfl (by simp [Value.oneCell']) ?_
                  refine hK.out _ _ (cells12b (row_far _ (row_far _ (BX.out _ BB.out) hAne) hBne)) (fun hHeld => ?_)
                  clear hK K
                  try simp only [Act.put, List.getElem_toArray, List.getElem_cons_zero, List.getElem_cons_succ, List.setIfInBounds_toArray, List.set_cons_zero, List.set_cons_succ]
                  refine wpAnyH_take (i := 21) (v := ?vat8510010110210310421) rfl (by kernel_rfl) (by kernel_rfl) (by kernel_rfl) (fun _ _ _ h => h) (Or.inl ⟨by rfl, ?hyt8510010110210310421⟩) (by assumption) ?rat8510010110210310421
                  case hyt8510010110210310421 => (intro wq hSw; (try dsimp only at hSw); obtain ⟨e0, e1, e2, e3, e4, e5, e6, e7, e8, e9, e10, e11⟩ := hSw; go_simp <;> with_reducible rfl)
                  try simp only [Act.put, List.getElem_toArray, List.getElem_cons_zero, List.getElem_cons_succ, List.setIfInBounds_toArray, List.set_cons_zero, List.set_cons_succ]
                  refine wpAnyH_take (i := 22) (v := ?vat8510010110210310422) rfl (by kernel_rfl) (by kernel_rfl) (by kernel_rfl) (fun _ _ _ h => h) (Or.inl ⟨by rfl, ?hyt8510010110210310422⟩) (by assumption) ?rat8510010110210310422
                  case hyt8510010110210310422 => (intro wq hSw; (try dsimp only at hSw); obtain ⟨e0, e1, e2, e3, e4, e5, e6, e7, e8, e9, e10, e11⟩ := hSw; go_simp <;> with_reducible rfl)
                  try simp only [Act.put, List.getElem_toArray, List.getElem_cons_zero, List.getElem_cons_succ, List.setIfInBounds_toArray, List.set_cons_zero, List.set_cons_succ]
                  refine wpAnyH_done (by kernel_rfl) ?_ _
                  clear hHeld
                  go_wp2_with fail
                  go_meet
                  case rel => exact ⟨gA, gB, a, b, aU, cU, rfl, rfl, rfl, rfl, ⟨row_far _ (setRow_heap _ _ _ _ _ _ XA.out) NE.out, setRow_heap _ _ _ _ _ _ XB1.out, (HQ.out.but (but_setRow _ gA _) (fun k hk => ⟨_, _, by subst hk; exact XA.out, by decide, by decide⟩) (below_row _ HQ.out.b LA.out)).but (but_setRow _ gB _) (fun k hk => ⟨_, _, by subst hk; exact XB1.out, by decide, by decide⟩) (below_row _ (below_row _ HQ.out.b LA.out) LB.out), EA.out, EB.out⟩⟩
    case rest =>
      obtain ⟨gA, gB, a, b, aU, cU, rfl, rfl, rfl, rfl, hN⟩ := hcut
      have N0 := hide hN
      clear hN SP1 SP2 SP3 D1 LN B3
      by_cases hg : 2 ≤ G.items.length ∧ Kp.items.length < 8
      · obtain ⟨hg1, hg2⟩ := hg
        have zo : Z.ok = true := by rw [OK.out, GG.out, KK.out]; simp [hg1, hg2]
        have d1 : decide ((2 : Int) ≤ (G.items.length : Int)) = true := decide_eq_true (by omega)
        have d2 : decide ((Kp.items.length : Int) < 8) = true := decide_eq_true (by omega)
        obtain ⟨q1, q2, q3, q4, q5, q6, q7, q8, q9, qa, qb⟩ := LB.out (by rw [GG.out]; exact hg1) (by rw [KK.out]; exact hg2)
        have QJ := hide q1
        have QT := hide q2
        have QS := hide (And.intro q3 (And.intro q4 (And.intro q5 (And.intro q6 (And.intro q7 (And.intro q8 (And.intro q9 qa)))))))
        have QB := hide qb
        clear q1 q2 q3 q4 q5 q6 q7 q8 q9 qa qb LB OK
        rw [zo]
        clear zo
        obtain ⟨e0, e1, e2, e3, e4, e5, e6, e7, e8, e9, ea, eb⟩ := SS.out _ N0.out.h.b
        go_wp2_with fail
        refine (GV.out _).mono ?_
        rintro _ w4 ⟨rfl, hb⟩
        replace N0 := hide (N0.out.keep hb)
        clear hb e0 e1 e2 e3 e4 e5 e6 e7 e8 e9 ea eb
        obtain ⟨e0, e1, e2, e3, e4, e5, e6, e7, e8, e9, ea, eb⟩ := SS.out _ N0.out.h.b
        go_wp2_with fail
        refine (TK.out _).mono ?_
        rintro _ w5 ⟨rfl, hb⟩
        replace N0 := hide (N0.out.keep hb)
        clear hb e0 e1 e2 e3 e4 e5 e6 e7 e8 e9 ea eb
        go_upto_region 10 with fail
        have PA := hide fun (W : World) (hb : Below w5.heap.size w5 W) => Pj.ofFit N0.out.ea (((N0.out.h.p1).keep hb).piH N0.out.ea (Nat.le_trans QS.out.2.1 (by decide))) QS.out.2.2.2.1 QS.out.2.2.2.2.2.1 QS.out.2.1
        have PB := hide fun (W : World) (hb : Below w5.heap.size w5 W) => Pj.ofFit N0.out.eb (((N0.out.h.p2).keep hb).piH N0.out.eb (Nat.le_trans QS.out.2.2.1 (by decide))) QS.out.2.2.2.2.1 QS.out.2.2.2.2.2.2.1 QS.out.2.2.1
        have PU := hide fun (W : World) (hb : Below w5.heap.size w5 W) => (N0.out.h.sp.1.bs N0.out.h.sp.2).keep hb
        have UC : Hid (Z.s.length ≤ cU) := N0.out.h.sp.1.r.cap
        have XA := hide fun (W : World) (hb : Below w5.heap.size w5 W) => blk_keep N0.out.xa hb
        have XB := hide fun (W : World) (hb : Below w5.heap.size w5 W) => blk_keep N0.out.xb hb
        have EA := hide N0.out.ea
        have EB := hide N0.out.eb
        have BB := hide N0.out.h.b
        have LA : Hid (a.items.length = Z.l.items.length) := pg_len N0.out.ea
        have LBB : Hid (b.items.length = Z.r.items.length) := pg_len N0.out.eb
        have UL : Hid (Z.s.length ≤ 140737488355264) := Nat.le_trans QS.out.2.2.2.2.2.2.2 (by decide)
        have SM := hide fun (W : World) (hb : Below w5.heap.size w5 W) => lsame_any W l r a b aS aU cS cU s Z.s ⟨TJ.out.l.i.keep (bt BB.out hb), TJ.out.r.i.keep (bt BB.out hb), TJ.out.b.keep (bt BB.out hb), TJ.out.l.s, TJ.out.r.s, TJ.out.n, by omega, by omega, LJ2⟩ ⟨(PA.out W hb).i, (PB.out W hb).i, PU.out W hb, (PA.out W hb).s, (PB.out W hb).s, UL.out, by rw [LA.out]; have := QS.out.2.1; omega, by rw [LBB.out]; have := QS.out.2.2.1; omega, by rw [LBB.out]; exact QS.out.1⟩ (by rw [EA.out, EB.out]; exact QJ.out.symm)
        have KT : Hid (∀ W : World, Calls Try.prog 20 #[.agg #[.int .i64 a.kind, .int .i64 a.level, .slice a.aI a.items.length a.cI, .slice a.aD a.data.length a.cD, .int .i64 a.next, .int .i64 b.kind, .int .i64 b.level, .slice b.aI b.items.length b.cI, .slice b.aD b.data.length b.cD, .int .i64 b.next, .slice none 0 0, .bool t]] W fun e w' => ∃ K2 : Pv, e = .returned (.agg #[.int .i64 K2.kind, .int .i64 K2.level, .slice K2.aI (Kp.items.length + 1) K2.cI, .slice K2.aD K2.data.length K2.cD, .int .i64 K2.next]) ∧ Below W.heap.size W w') := fun W => by
          refine (TK2.out W a b).mono ?_
          rintro _ w' ⟨rfl, hb⟩
          refine ⟨if t = true then b else a, ?_, hb⟩
          have e : (if t = true then b else a).items.length = tkn Z.l Z.r t := by
            unfold tkn
            cases t
            · exact LA.out
            · exact LBB.out
          unfold Pv.vl
          simp only [Pv.cs]
          rw [e, QT.out, KK.out]
        unfold Pv.vl at SM
        simp only [Pv.cs] at SM
        have SS2 := hide fun (W : World) (hb : Below w5.heap.size w5 W) => And.intro (SS.out W (bt BB.out hb)) (And.intro (cells5 (XA.out W hb)) (cells5 (XB.out W hb)))
        have DD := hide (dr2 w5)
        have WK : Hid (IntKind.i64.wrap ((Kp.items.length : Int) + 1) = ((Kp.items.length + 1 : Nat) : Int)) := (wrapI (by omega) (by omega)).trans (by omega)
        clear N0 TK2
        go_cut [80] from 54 to 80 (fun v wx => v = .bool false ∧ Below w5.heap.size w5 wx)
        case first =>
          refine wp_region_held_drew (S := fun W => (W.cell? ⟨w.heap.size, 0, none⟩ = some (.int .i64 l.kind) ∧ W.cell? ⟨w.heap.size, 1, none⟩ = some (.int .i64 l.level) ∧ W.cell? ⟨w.heap.size, 2, none⟩ = some (.slice l.aI l.items.length l.cI) ∧ W.cell? ⟨w.heap.size, 3, none⟩ = some (.slice l.aD l.data.length l.cD) ∧ W.cell? ⟨w.heap.size, 4, none⟩ = some (.int .i64 l.next) ∧ W.cell? ⟨w.heap.size, 5, none⟩ = some (.int .i64 r.kind) ∧ W.cell? ⟨w.heap.size, 6, none⟩ = some (.int .i64 r.level) ∧ W.cell? ⟨w.heap.size, 7, none⟩ = some (.slice r.aI r.items.length r.cI) ∧ W.cell? ⟨w.heap.size, 8, none⟩ = some (.slice r.aD r.data.length r.cD) ∧ W.cell? ⟨w.heap.size, 9, none⟩ = some (.int .i64 r.next) ∧ W.cell? ⟨w.heap.size, 10, none⟩ = some (.slice aS s.length cS) ∧ W.cell? ⟨w.heap.size, 11, none⟩ = some (.bool t)) ∧ (W.cell? ⟨gA, 0, none⟩ = some (.int .i64 a.kind) ∧ W.cell? ⟨gA, 1, none⟩ = some (.int .i64 a.level) ∧ W.cell? ⟨gA, 2, none⟩ = some (.slice a.aI a.items.length a.cI) ∧ W.cell? ⟨gA, 3, none⟩ = some (.slice a.aD a.data.length a.cD) ∧ W.cell? ⟨gA, 4, none⟩ = some (.int .i64 a.next)) ∧ (W.cell? ⟨gB, 0, none⟩ = some (.int .i64 b.kind) ∧ W.cell? ⟨gB, 1, none⟩ = some (.int .i64 b.level) ∧ W.cell? ⟨gB, 2, none⟩ = some (.slice b.aI b.items.length b.cI) ∧ W.cell? ⟨gB, 3, none⟩ = some (.slice b.aD b.data.length b.cD) ∧ W.cell? ⟨gB, 4, none⟩ = some (.int .i64 b.next))) (by kernel_rfl) (SS2.out _ DD.out) (fun hHeld => ?_)
          refine wpAnyH_take (i := 0) (v := ?vam0) rfl (by kernel_rfl) (by kernel_rfl) (by kernel_rfl) (fun _ _ _ h => h) (Or.inl ⟨by rfl, ?hym0⟩) (by assumption) ?ram0
          case hym0 => (intro wq hSw; (try dsimp only at hSw); obtain ⟨⟨e0, e1, e2, e3, e4, e5, e6, e7, e8, e9, e10, e11⟩, ⟨p0, p1, p2, p3, p4⟩, q0, q1, q2, q3, q4⟩ := hSw; go_simp <;> with_reducible rfl)
          try simp only [Act.put, List.getElem_toArray, List.getElem_cons_zero, List.setIfInBounds_toArray, List.set_cons_zero, List.set_cons_succ]
          refine wpAnyH_take (i := 1) (v := ?vam1) rfl (by kernel_rfl) (by kernel_rfl) (by kernel_rfl) (fun _ _ _ h => h) (Or.inl ⟨by rfl, ?hym1⟩) (by assumption) ?ram1
          case hym1 => (intro wq hSw; (try dsimp only at hSw); obtain ⟨⟨e0, e1, e2, e3, e4, e5, e6, e7, e8, e9, e10, e11⟩, ⟨p0, p1, p2, p3, p4⟩, q0, q1, q2, q3, q4⟩ := hSw; go_simp <;> with_reducible rfl)
          try simp only [Act.put, List.getElem_toArray, List.getElem_cons_zero, List.getElem_cons_succ, List.setIfInBounds_toArray, List.set_cons_zero, List.set_cons_succ]
          refine wpAnyH_take (i := 2) (v := ?vam2) rfl (by kernel_rfl) (by kernel_rfl) (by kernel_rfl) (fun _ _ _ h => h) (Or.inl ⟨by rfl, ?hym2⟩) (by assumption) ?ram2
          case hym2 => (intro wq hSw; (try dsimp only at hSw); obtain ⟨⟨e0, e1, e2, e3, e4, e5, e6, e7, e8, e9, e10, e11⟩, ⟨p0, p1, p2, p3, p4⟩, q0, q1, q2, q3, q4⟩ := hSw; go_simp <;> with_reducible rfl)
          try simp only [Act.put, List.getElem_toArray, List.getElem_cons_zero, List.getElem_cons_succ, List.setIfInBounds_toArray, List.set_cons_zero, List.set_cons_succ]
          refine wpAnyH_take (i := 3) (v := ?vam3) rfl (by kernel_rfl) (by kernel_rfl) (by kernel_rfl) (fun _ _ _ h => h) (Or.inl ⟨by rfl, ?hym3⟩) (by assumption) ?ram3
          case hym3 => (intro wq hSw; (try dsimp only at hSw); obtain ⟨⟨e0, e1, e2, e3, e4, e5, e6, e7, e8, e9, e10, e11⟩, ⟨p0, p1, p2, p3, p4⟩, q0, q1, q2, q3, q4⟩ := hSw; go_simp <;> with_reducible rfl)
          try simp only [Act.put, List.getElem_toArray, List.getElem_cons_zero, List.getElem_cons_succ, List.setIfInBounds_toArray, List.set_cons_zero, List.set_cons_succ]
          refine wpAnyH_take (i := 4) (v := ?vam4) rfl (by kernel_rfl) (by kernel_rfl) (by kernel_rfl) (fun _ _ _ h => h) (Or.inl ⟨by rfl, ?hym4⟩) (by assumption) ?ram4
          case hym4 => (intro wq hSw; (try dsimp only at hSw); obtain ⟨⟨e0, e1, e2, e3, e4, e5, e6, e7, e8, e9, e10, e11⟩, ⟨p0, p1, p2, p3, p4⟩, q0, q1, q2, q3, q4⟩ := hSw; go_simp <;> with_reducible rfl)
          try simp only [Act.put, List.getElem_toArray, List.getElem_cons_zero, List.getElem_cons_succ, List.setIfInBounds_toArray, List.set_cons_zero, List.set_cons_succ]
          refine wpAnyH_take (i := 5) (v := ?vam5) rfl (by kernel_rfl) (by kernel_rfl) (by kernel_rfl) (fun _ _ _ h => h) (Or.inl ⟨by rfl, ?hym5⟩) (by assumption) ?ram5
          case hym5 => (intro wq hSw; (try dsimp only at hSw); obtain ⟨⟨e0, e1, e2, e3, e4, e5, e6, e7, e8, e9, e10, e11⟩, ⟨p0, p1, p2, p3, p4⟩, q0, q1, q2, q3, q4⟩ := hSw; go_simp <;> with_reducible rfl)
          try simp only [Act.put, List.getElem_toArray, List.getElem_cons_zero, List.getElem_cons_succ, List.setIfInBounds_toArray, List.set_cons_zero, List.set_cons_succ]
          refine wpAnyH_take (i := 6) (v := ?vam6) rfl (by kernel_rfl) (by kernel_rfl) (by kernel_rfl) (fun _ _ _ h => h) (Or.inl ⟨by rfl, ?hym6⟩) (by assumption) ?ram6
          case hym6 => (intro wq hSw; (try dsimp only at hSw); obtain ⟨⟨e0, e1, e2, e3, e4, e5, e6, e7, e8, e9, e10, e11⟩, ⟨p0, p1, p2, p3, p4⟩, q0, q1, q2, q3, q4⟩ := hSw; go_simp <;> with_reducible rfl)
          try simp only [Act.put, List.getElem_toArray, List.getElem_cons_zero, List.getElem_cons_succ, List.setIfInBounds_toArray, List.set_cons_zero, List.set_cons_succ]
          refine wpAnyH_take (i := 7) (v := ?vam7) rfl (by kernel_rfl) (by kernel_rfl) (by kernel_rfl) (fun _ _ _ h => h) (Or.inl ⟨by rfl, ?hym7⟩) (by assumption) ?ram7
          case hym7 => (intro wq hSw; (try dsimp only at hSw); obtain ⟨⟨e0, e1, e2, e3, e4, e5, e6, e7, e8, e9, e10, e11⟩, ⟨p0, p1, p2, p3, p4⟩, q0, q1, q2, q3, q4⟩ := hSw; go_simp <;> with_reducible rfl)
          try simp only [Act.put, List.getElem_toArray, List.getElem_cons_zero, List.getElem_cons_succ, List.setIfInBounds_toArray, List.set_cons_zero, List.set_cons_succ]
          refine wpAnyH_take (i := 8) (v := ?vam8) rfl (by kernel_rfl) (by kernel_rfl) (by kernel_rfl) (fun _ _ _ h => h) (Or.inl ⟨by rfl, ?hym8⟩) (by assumption) ?ram8
          case hym8 => (intro wq hSw; (try dsimp only at hSw); obtain ⟨⟨e0, e1, e2, e3, e4, e5, e6, e7, e8, e9, e10, e11⟩, ⟨p0, p1, p2, p3, p4⟩, q0, q1, q2, q3, q4⟩ := hSw; go_simp <;> with_reducible rfl)
          try simp only [Act.put, List.getElem_toArray, List.getElem_cons_zero, List.getElem_cons_succ, List.setIfInBounds_toArray, List.set_cons_zero, List.set_cons_succ]
          refine wpAnyH_ready (rs := [9]) (by kernel_rfl) (by simp) ?_
          refine AllReadyH.cons rfl (fun K hK => ?_) AllReadyH.nil
          go_simp
          refine (SM.out _ DD.out).mono ?_
          rintro _ v1 ⟨rfl, hb⟩
          have M1 := hide (bt DD.out hb)
          clear hb
          go_wp2_with fail
          refine hK.out _ _ (SS2.out _ M1.out) (fun hHeld => ?_)
          clear hK K
          try simp only [Act.put, List.getElem_toArray, List.getElem_cons_zero, List.getElem_cons_succ, List.setIfInBounds_toArray, List.set_cons_zero, List.set_cons_succ]
          refine wpAnyH_take (i := 10) (v := ?vam10) rfl (by kernel_rfl) (by kernel_rfl) (by kernel_rfl) (fun _ _ _ h => h) (Or.inl ⟨by rfl, ?hym10⟩) (by assumption) ?ram10
          case hym10 => (intro wq hSw; (try dsimp only at hSw); obtain ⟨⟨e0, e1, e2, e3, e4, e5, e6, e7, e8, e9, e10, e11⟩, ⟨p0, p1, p2, p3, p4⟩, q0, q1, q2, q3, q4⟩ := hSw; go_simp <;> with_reducible rfl)
          try simp only [Act.put, List.getElem_toArray, List.getElem_cons_zero, List.getElem_cons_succ, List.setIfInBounds_toArray, List.set_cons_zero, List.set_cons_succ]
          refine wpAnyH_take (i := 11) (v := ?vam11) rfl (by kernel_rfl) (by kernel_rfl) (by kernel_rfl) (fun _ _ _ h => h) (Or.inl ⟨by rfl, ?hym11⟩) (by assumption) ?ram11
          case hym11 => (intro wq hSw; (try dsimp only at hSw); obtain ⟨⟨e0, e1, e2, e3, e4, e5, e6, e7, e8, e9, e10, e11⟩, ⟨p0, p1, p2, p3, p4⟩, q0, q1, q2, q3, q4⟩ := hSw; go_simp <;> with_reducible rfl)
          try simp only [Act.put, List.getElem_toArray, List.getElem_cons_zero, List.getElem_cons_succ, List.setIfInBounds_toArray, List.set_cons_zero, List.set_cons_succ]
          refine wpAnyH_take (i := 12) (v := ?vam12) rfl (by kernel_rfl) (by kernel_rfl) (by kernel_rfl) (fun _ _ _ h => h) (Or.inl ⟨by rfl, ?hym12⟩) (by assumption) ?ram12
          case hym12 => (intro wq hSw; (try dsimp only at hSw); obtain ⟨⟨e0, e1, e2, e3, e4, e5, e6, e7, e8, e9, e10, e11⟩, ⟨p0, p1, p2, p3, p4⟩, q0, q1, q2, q3, q4⟩ := hSw; go_simp <;> with_reducible rfl)
          try simp only [Act.put, List.getElem_toArray, List.getElem_cons_zero, List.getElem_cons_succ, List.setIfInBounds_toArray, List.set_cons_zero, List.set_cons_succ]
          refine wpAnyH_take (i := 17) (v := ?vam17) rfl (by kernel_rfl) (by kernel_rfl) (by kernel_rfl) (fun _ _ _ h => h) (Or.inl ⟨by rfl, ?hym17⟩) (by assumption) ?ram17
          case hym17 => (intro wq hSw; (try dsimp only at hSw); obtain ⟨⟨e0, e1, e2, e3, e4, e5, e6, e7, e8, e9, e10, e11⟩, ⟨p0, p1, p2, p3, p4⟩, q0, q1, q2, q3, q4⟩ := hSw; go_simp <;> with_reducible rfl)
          try simp only [Act.put, List.getElem_toArray, List.getElem_cons_zero, List.getElem_cons_succ, List.setIfInBounds_toArray, List.set_cons_zero, List.set_cons_succ]
          refine wpAnyH_take (i := 18) (v := ?vam18) rfl (by kernel_rfl) (by kernel_rfl) (by kernel_rfl) (fun _ _ _ h => h) (Or.inl ⟨by rfl, ?hym18⟩) (by assumption) ?ram18
          case hym18 => (intro wq hSw; (try dsimp only at hSw); obtain ⟨⟨e0, e1, e2, e3, e4, e5, e6, e7, e8, e9, e10, e11⟩, ⟨p0, p1, p2, p3, p4⟩, q0, q1, q2, q3, q4⟩ := hSw; go_simp <;> with_reducible rfl)
          try simp only [Act.put, List.getElem_toArray, List.getElem_cons_zero, List.getElem_cons_succ, List.setIfInBounds_toArray, List.set_cons_zero, List.set_cons_succ]
          refine wpAnyH_take (i := 19) (v := ?vam19) rfl (by kernel_rfl) (by kernel_rfl) (by kernel_rfl) (fun _ _ _ h => h) (Or.inl ⟨by rfl, ?hym19⟩) (by assumption) ?ram19
          case hym19 => (intro wq hSw; (try dsimp only at hSw); obtain ⟨⟨e0, e1, e2, e3, e4, e5, e6, e7, e8, e9, e10, e11⟩, ⟨p0, p1, p2, p3, p4⟩, q0, q1, q2, q3, q4⟩ := hSw; go_simp <;> with_reducible rfl)
          try simp only [Act.put, List.getElem_toArray, List.getElem_cons_zero, List.getElem_cons_succ, List.setIfInBounds_toArray, List.set_cons_zero, List.set_cons_succ]
          refine wpAnyH_take (i := 20) (v := ?vam20) rfl (by kernel_rfl) (by kernel_rfl) (by kernel_rfl) (fun _ _ _ h => h) (Or.inl ⟨by rfl, ?hym20⟩) (by assumption) ?ram20
          case hym20 => (intro wq hSw; (try dsimp only at hSw); obtain ⟨⟨e0, e1, e2, e3, e4, e5, e6, e7, e8, e9, e10, e11⟩, ⟨p0, p1, p2, p3, p4⟩, q0, q1, q2, q3, q4⟩ := hSw; go_simp <;> with_reducible rfl)
          try simp only [Act.put, List.getElem_toArray, List.getElem_cons_zero, List.getElem_cons_succ, List.setIfInBounds_toArray, List.set_cons_zero, List.set_cons_succ]
          refine wpAnyH_take (i := 21) (v := ?vam21) rfl (by kernel_rfl) (by kernel_rfl) (by kernel_rfl) (fun _ _ _ h => h) (Or.inl ⟨by rfl, ?hym21⟩) (by assumption) ?ram21
          case hym21 => (intro wq hSw; (try dsimp only at hSw); obtain ⟨⟨e0, e1, e2, e3, e4, e5, e6, e7, e8, e9, e10, e11⟩, ⟨p0, p1, p2, p3, p4⟩, q0, q1, q2, q3, q4⟩ := hSw; go_simp <;> with_reducible rfl)
          try simp only [Act.put, List.getElem_toArray, List.getElem_cons_zero, List.getElem_cons_succ, List.setIfInBounds_toArray, List.set_cons_zero, List.set_cons_succ]
          refine wpAnyH_ready (rs := [13]) (by kernel_rfl) (by simp) ?_
          refine AllReadyH.cons rfl (fun K hK => ?_) AllReadyH.nil
          go_simp
          refine (TK.out _).mono ?_
          rintro _ v2 ⟨rfl, hb⟩
          have M2 := hide (bt M1.out hb)
          clear hb
          go_wp2_with fail
          refine hK.out _ _ (SS2.out _ M2.out) (fun hHeld => ?_)
          clear hK K
          try simp only [Act.put, List.getElem_toArray, List.getElem_cons_zero, List.getElem_cons_succ, List.setIfInBounds_toArray, List.set_cons_zero, List.set_cons_succ]
          refine wpAnyH_take (i := 14) (v := ?vam14) rfl (by kernel_rfl) (by kernel_rfl) (by kernel_rfl) (fun _ _ _ h => h) (Or.inl ⟨by rfl, ?hym14⟩) (by assumption) ?ram14
          case hym14 => (intro wq hSw; (try dsimp only at hSw); obtain ⟨⟨e0, e1, e2, e3, e4, e5, e6, e7, e8, e9, e10, e11⟩, ⟨p0, p1, p2, p3, p4⟩, q0, q1, q2, q3, q4⟩ := hSw; go_simp <;> with_reducible rfl)
          try simp only [Act.put, List.getElem_toArray, List.getElem_cons_zero, List.getElem_cons_succ, List.setIfInBounds_toArray, List.set_cons_zero, List.set_cons_succ]
          refine wpAnyH_take (i := 15) (v := ?vam15) rfl (by kernel_rfl) (by kernel_rfl) (by kernel_rfl) (fun _ _ _ h => h) (Or.inl ⟨by rfl, ?hym15⟩) (by assumption) ?ram15
          case hym15 => (intro wq hSw; (try dsimp only at hSw); obtain ⟨⟨e0, e1, e2, e3, e4, e5, e6, e7, e8, e9, e10, e11⟩, ⟨p0, p1, p2, p3, p4⟩, q0, q1, q2, q3, q4⟩ := hSw; go_simp <;> with_reducible rfl)
          try simp only [Act.put, List.getElem_toArray, List.getElem_cons_zero, List.getElem_cons_succ, List.setIfInBounds_toArray, List.set_cons_zero, List.set_cons_succ]
          refine wpAnyH_take (i := 16) (v := ?vam16) rfl (by kernel_rfl) (by kernel_rfl) (by kernel_rfl) (fun _ _ _ h => h) (Or.inl ⟨by rfl, ?hym16⟩) (by assumption) ?ram16
          case hym16 => (intro wq hSw; (try dsimp only at hSw); obtain ⟨⟨e0, e1, e2, e3, e4, e5, e6, e7, e8, e9, e10, e11⟩, ⟨p0, p1, p2, p3, p4⟩, q0, q1, q2, q3, q4⟩ := hSw; go_simp <;> with_reducible rfl)
          try simp only [Act.put, List.getElem_toArray, List.getElem_cons_zero, List.getElem_cons_succ, List.setIfInBounds_toArray, List.set_cons_zero, List.set_cons_succ]
          try simp only [WK.out]
          refine wpAnyH_ready (rs := [22]) (by kernel_rfl) (by simp) ?_
          refine AllReadyH.cons rfl (fun K hK => ?_) AllReadyH.nil
          go_simp
          refine (KT.out _).mono ?_
          rintro _ v3 ⟨K2, rfl, hb⟩
          have M3 := hide (bt M2.out hb)
          have FK2 := fun (W : World) => fld3 W K2 (Kp.items.length + 1)
          clear hb
          go_wp2_with fail
          refine hK.out _ _ (SS2.out _ M3.out) (fun hHeld => ?_)
          clear hK K
          try simp only [Act.put, List.getElem_toArray, List.getElem_cons_zero, List.getElem_cons_succ, List.setIfInBounds_toArray, List.set_cons_zero, List.set_cons_succ]
          refine wpAnyH_take (i := 23) (v := ?vam23) rfl (by kernel_rfl) (by kernel_rfl) (by kernel_rfl) (fun _ _ _ h => h) (Or.inl ⟨by rfl, ?hym23⟩) (by assumption) ?ram23
          case hym23 => (intro wq hSw; (try dsimp only at hSw); obtain ⟨⟨e0, e1, e2, e3, e4, e5, e6, e7, e8, e9, e10, e11⟩, ⟨p0, p1, p2, p3, p4⟩, q0, q1, q2, q3, q4⟩ := hSw; go_simp <;> with_reducible rfl)
          try simp only [Act.put, List.getElem_toArray, List.getElem_cons_zero, List.getElem_cons_succ, List.setIfInBounds_toArray, List.set_cons_zero, List.set_cons_succ]
          refine wpAnyH_take (i := 24) (v := ?vam24) rfl (by kernel_rfl) (by kernel_rfl) (by kernel_rfl) (fun _ _ _ h => h) (Or.inl ⟨by rfl, ?hym24⟩) (by assumption) ?ram24
          case hym24 => (intro wq hSw; (try dsimp only at hSw); obtain ⟨⟨e0, e1, e2, e3, e4, e5, e6, e7, e8, e9, e10, e11⟩, ⟨p0, p1, p2, p3, p4⟩, q0, q1, q2, q3, q4⟩ := hSw; go_simp <;> with_reducible rfl)
          try simp only [Act.put, List.getElem_toArray, List.getElem_cons_zero, List.getElem_cons_succ, List.setIfInBounds_toArray, List.set_cons_zero, List.set_cons_succ]
          refine wpAnyH_take (i := 25) (v := ?vam25) rfl (by kernel_rfl) (by kernel_rfl) (by kernel_rfl) (fun _ _ _ h => h) (Or.inl ⟨by rfl, ?hym25⟩) (by assumption) ?ram25
          case hym25 => (intro wq hSw; (try dsimp only at hSw); obtain ⟨⟨e0, e1, e2, e3, e4, e5, e6, e7, e8, e9, e10, e11⟩, ⟨p0, p1, p2, p3, p4⟩, q0, q1, q2, q3, q4⟩ := hSw; go_simp <;> with_reducible rfl)
          try simp only [Act.put, List.getElem_toArray, List.getElem_cons_zero, List.getElem_cons_succ, List.setIfInBounds_toArray, List.set_cons_zero, List.set_cons_succ]
          refine wpAnyH_take (i := 26) (v := ?vam26) rfl (by kernel_rfl) (by kernel_rfl) (by kernel_rfl) (fun _ _ _ h => h) (Or.inl ⟨by rfl, ?hym26⟩) (by assumption) ?ram26
          case hym26 => (intro wq hSw; (try dsimp only at hSw); obtain ⟨⟨e0, e1, e2, e3, e4, e5, e6, e7, e8, e9, e10, e11⟩, ⟨p0, p1, p2, p3, p4⟩, q0, q1, q2, q3, q4⟩ := hSw; go_simp <;> with_reducible rfl)
          try simp only [Act.put, List.getElem_toArray, List.getElem_cons_zero, List.getElem_cons_succ, List.setIfInBounds_toArray, List.set_cons_zero, List.set_cons_succ]
          refine wpAnyH_done (by kernel_rfl) ?_ _
          clear hHeld
          go_wp2_with fail
          go_meet
          case rel => exact ⟨by simp, M3.out⟩
        case rest =>
          obtain ⟨rfl, hb⟩ := hcut
          have BC := hide hb
          clear hb SM KT DD WK SS2 TK
          obtain ⟨e0, e1, e2, e3, e4, e5, e6, e7, e8, e9, ea, eb⟩ := SS.out _ (bt BB.out BC.out)
          by_cases hk : l.kind = 2
          · have hkb : (l.kind == 2) = true := by simpa using hk
            by_cases h3 : G.items.length < 3
            · have d3 : decide ((G.items.length : Int) < 3) = true := decide_eq_true (by omega)
              clear hk
              go_wp2_with fail
              refine (GV.out _).mono ?_
              rintro _ w6 ⟨rfl, hb⟩
              have BE := hide (bt A0.out (bt BB.out (bt BC.out hb)))
              clear hb e0 e1 e2 e3 e4 e5 e6 e7 e8 e9 ea eb
              go_wp2_with fail
              go_ret
              exact ⟨rfl, BE.out⟩
            · have d3 : decide ((G.items.length : Int) < 3) = false := decide_eq_false (by omega)
              have hk1 : (l.kind == 1) = false := by rw [hk]; rfl
              obtain ⟨f1, f2, f3, f4, f5, f6⟩ := QB.out (fun _ => by rw [GG.out]; omega)
              have f5' := f5 hk
              clear f5 QB hk
              have F0 := hide (And.intro f1 (And.intro f2 (And.intro f3 (And.intro f4 (And.intro f5' f6)))))
              clear f1 f2 f3 f4 f5' f6
              go_wp2_with fail
              refine (GV.out _).mono ?_
              rintro _ w6 ⟨rfl, hb⟩
              replace BC := hide (bt BC.out hb)
              clear hb e0 e1 e2 e3 e4 e5 e6 e7 e8 e9 ea eb
              obtain ⟨f1, f2, f3, f4, f5', f6⟩ := F0.out
              have F2 := hide f2
              have F3 := hide f3
              have F4 := hide f4
              have F6 := hide f6
              have F5 := hide f5'
              have FT2 := hide (fits_any w6 a b aU cU Z.s (PA.out _ BC.out).i (PB.out _ BC.out).i (PU.out _ BC.out) (Nat.le_trans UL.out (by decide)))
              rw [EA.out, EB.out] at FT2
              have F1 := hide f1
              clear f1 f2 f3 f4 f6 
              unfold Pv.vl at FT2
              simp only [Pv.cs] at FT2
              obtain ⟨p0, p1, p2, p3, p4⟩ := cells5 (XA.out _ BC.out)
              obtain ⟨q0, q1, q2, q3, q4⟩ := cells5 (XB.out _ BC.out)
              obtain ⟨e0, e1, e2, e3, e4, e5, e6, e7, e8, e9, ea, eb⟩ := SS.out _ (bt BB.out BC.out)
              go_wp2_with fail
              refine FT2.out.mono ?_
              rintro _ w7 ⟨bf, rfl, hbf, hb⟩
              obtain rfl : bf = true := hbf.2 F1.out
              replace BC := hide (bt BC.out hb)
              clear hb hbf FT2 p0 p1 p2 p3 p4 q0 q1 q2 q3 q4 e0 e1 e2 e3 e4 e5 e6 e7 e8 e9 ea eb
              have LD := hide (Lend_any w7 (!t) a b aU cU Z.s (PA.out _ BC.out).i (PB.out _ BC.out).i (PU.out _ BC.out) UC.out UL.out (PA.out _ BC.out).d (PB.out _ BC.out).d (PA.out _ BC.out).s (PB.out _ BC.out).s (PA.out _ BC.out).n (PB.out _ BC.out).n)
              rw [EA.out, EB.out, F2.out] at LD
              obtain ⟨Z2, hZ2⟩ : ∃ Z2, lend Z.l Z.r Z.s (!t) = Z2 := ⟨_, rfl⟩
              rw [hZ2] at LD F3 F4 F6 F5
              clear hZ2 F2
              rw [F3.out, F4.out] at LD
              unfold Pv.vl at LD
              simp only [Pv.cs] at LD
              obtain ⟨p0, p1, p2, p3, p4⟩ := cells5 (XA.out _ BC.out)
              obtain ⟨q0, q1, q2, q3, q4⟩ := cells5 (XB.out _ BC.out)
              obtain ⟨e0, e1, e2, e3, e4, e5, e6, e7, e8, e9, ea, eb⟩ := SS.out _ (bt BB.out BC.out)
              go_wp2_with fail
              refine LD.out.mono ?_
              rintro _ w8 ⟨c, d, aV, cV, rfl, hH, hc, hd⟩
              have U := hide (two_blocks w8 (.cells #[.int .i64 c.kind, .int .i64 c.level, .slice c.aI c.items.length c.cI, .slice c.aD c.data.length c.cD, .int .i64 c.next] 25) (.cells #[.int .i64 d.kind, .int .i64 d.level, .slice d.aI d.items.length d.cI, .slice d.aD d.data.length d.cD, .int .i64 d.next] 25) (Below.refl _ _))
              have Xc := hide U.out.1
              have Xd := hide U.out.2.1
              have HH := hide (hH.keep U.out.2.2.1)
              replace BC := hide (bt BC.out (bt hH.b U.out.2.2.1))
              have Ec := hide hc
              have Ed := hide hd
              have Lc : Hid (c.items.length ≤ 8) := by show _ ≤ _; rw [pg_len hc, L1.out]; exact LK1
              have Ld : Hid (d.items.length ≤ 8) := by show _ ≤ _; rw [pg_len hd, L2.out]; exact LK2
              clear hH hc hd U LD p0 p1 p2 p3 p4 q0 q1 q2 q3 q4 e0 e1 e2 e3 e4 e5 e6 e7 e8 e9 ea eb
              go_upto_region 17 with fail
              generalize ((w8.alloc (.cells #[.int .i64 c.kind, .int .i64 c.level, .slice c.aI c.items.length c.cI, .slice c.aD c.data.length c.cD, .int .i64 c.next] 25)).alloc (.cells #[.int .i64 d.kind, .int .i64 d.level, .slice d.aI d.items.length d.cI, .slice d.aD d.data.length d.cD, .int .i64 d.next] 25)) = w9 at *
              have QC := hide fun (W : World) (hb : Below w9.heap.size w9 W) => (HH.out.p1.keep hb).pi (Nat.le_trans Lc.out (by decide))
              have QD := hide fun (W : World) (hb : Below w9.heap.size w9 W) => (HH.out.p2.keep hb).pi (Nat.le_trans Ld.out (by decide))
              have QV := hide fun (W : World) (hb : Below w9.heap.size w9 W) => (HH.out.sp.1.bs HH.out.sp.2).keep hb
              have EQ1 := hide fun (W : World) (hb : Below w9.heap.size w9 W) => EqPage_same W c l (QC.out W hb) (TJ.out.l.i.keep (bt BB.out (bt BC.out hb))) Ec.out
              have EQ2 := hide fun (W : World) (hb : Below w9.heap.size w9 W) => EqPage_same W d r (QD.out W hb) (TJ.out.r.i.keep (bt BB.out (bt BC.out hb))) Ed.out
              have FT3 := hide fun (W : World) (hb : Below w9.heap.size w9 W) => fits_any W c d aV cV Z2.s (QC.out W hb) (QD.out W hb) (QV.out W hb) (Nat.le_trans F6.out.2.2.2.2.2.2.1 (by decide))
              have EQ3 := hide fun (W : World) (hb : Below w9.heap.size w9 W) => EqBytes_same W aV aS Z2.s.length s.length cV cS s (by have := QV.out W hb; rw [F5.out] at this; exact this) (TJ.out.b.keep (bt BB.out (bt BC.out hb))) (by rw [F5.out]) rfl
              simp only [Ec.out, Ed.out] at FT3
              unfold Pv.vl at EQ1 EQ2 FT3
              simp only [Pv.cs] at EQ1 EQ2 FT3
              have CC := hide (Below.refl w9.heap.size w9)
              obtain ⟨p0, p1, p2, p3, p4⟩ := cells5 (blk_keep Xc.out CC.out)
              obtain ⟨e0, e1, e2, e3, e4, e5, e6, e7, e8, e9, ea, eb⟩ := SS.out _ (bt BB.out (bt BC.out CC.out))
              go_wp2_with fail
              refine (EQ1.out _ CC.out).mono ?_
              rintro _ y1 ⟨rfl, hb⟩
              replace CC := hide (bt CC.out hb)
              clear hb
              clear p0 p1 p2 p3 p4 e0 e1 e2 e3 e4 e5 e6 e7 e8 e9 ea eb
              obtain ⟨q0, q1, q2, q3, q4⟩ := cells5 (blk_keep Xd.out CC.out)
              obtain ⟨e0, e1, e2, e3, e4, e5, e6, e7, e8, e9, ea, eb⟩ := SS.out _ (bt BB.out (bt BC.out CC.out))
              go_wp2_with fail
              refine (EQ2.out _ CC.out).mono ?_
              rintro _ y2 ⟨rfl, hb⟩
              replace CC := hide (bt CC.out hb)
              clear hb
              clear q0 q1 q2 q3 q4 e0 e1 e2 e3 e4 e5 e6 e7 e8 e9 ea eb
              obtain ⟨e0, e1, e2, e3, e4, e5, e6, e7, e8, e9, ea, eb⟩ := SS.out _ (bt BB.out (bt BC.out CC.out))
              go_wp2_with fail
              refine (EQ3.out _ CC.out).mono ?_
              rintro _ y3 ⟨rfl, hb⟩
              replace CC := hide (bt CC.out hb)
              clear hb
              clear e0 e1 e2 e3 e4 e5 e6 e7 e8 e9 ea eb
              obtain ⟨p0, p1, p2, p3, p4⟩ := cells5 (blk_keep Xc.out CC.out)
              obtain ⟨q0, q1, q2, q3, q4⟩ := cells5 (blk_keep Xd.out CC.out)
              go_wp2_with fail
              refine (FT3.out _ CC.out).mono ?_
              rintro _ y4 ⟨bf, rfl, hbf, hb⟩
              obtain rfl : bf = true := hbf.2 F6.out
              replace CC := hide (bt CC.out hb)
              clear hb hbf
              go_wp2_with fail
              go_ret
              exact ⟨rfl, bt A0.out (bt BB.out (bt BC.out CC.out))⟩
          · have hkb : (l.kind == 2) = false := by simpa using hk
            have hk1 : (l.kind == 1) = true := by
              have := (okp_of FF.out.2.2.2.2.1 FF.out.1).k
              have : l.kind = 1 ∨ l.kind = 2 := this
              have : l.kind = 1 := by omega
              simpa using this
            obtain ⟨f1, f2, f3, f4, f5, f6⟩ := QB.out (fun h => absurd h hk)
            clear f5 QB
            have F2 := hide f2
            have F3 := hide f3
            have F4 := hide f4
            have F6 := hide f6
            have FT2 := hide (fits_any wc a b aU cU Z.s (PA.out _ BC.out).i (PB.out _ BC.out).i (PU.out _ BC.out) (Nat.le_trans UL.out (by decide)))
            rw [EA.out, EB.out] at FT2
            have F1 := hide f1
            clear f1 f2 f3 f4 f6 e0 e1 e2 e3 e4 e5 e6 e7 e8 e9 ea eb
            unfold Pv.vl at FT2
            simp only [Pv.cs] at FT2
            obtain ⟨p0, p1, p2, p3, p4⟩ := cells5 (XA.out _ BC.out)
            obtain ⟨q0, q1, q2, q3, q4⟩ := cells5 (XB.out _ BC.out)
            obtain ⟨e0, e1, e2, e3, e4, e5, e6, e7, e8, e9, ea, eb⟩ := SS.out _ (bt BB.out BC.out)
            go_wp2_with fail
            refine FT2.out.mono ?_
            rintro _ w7 ⟨bf, rfl, hbf, hb⟩
            obtain rfl : bf = true := hbf.2 F1.out
            replace BC := hide (bt BC.out hb)
            clear hb hbf FT2 p0 p1 p2 p3 p4 q0 q1 q2 q3 q4 e0 e1 e2 e3 e4 e5 e6 e7 e8 e9 ea eb
            have LD := hide (Lend_any w7 (!t) a b aU cU Z.s (PA.out _ BC.out).i (PB.out _ BC.out).i (PU.out _ BC.out) UC.out UL.out (PA.out _ BC.out).d (PB.out _ BC.out).d (PA.out _ BC.out).s (PB.out _ BC.out).s (PA.out _ BC.out).n (PB.out _ BC.out).n)
            rw [EA.out, EB.out, F2.out] at LD
            obtain ⟨Z2, hZ2⟩ : ∃ Z2, lend Z.l Z.r Z.s (!t) = Z2 := ⟨_, rfl⟩
            rw [hZ2] at LD F3 F4 F6
            clear hZ2 F2
            rw [F3.out, F4.out] at LD
            unfold Pv.vl at LD
            simp only [Pv.cs] at LD
            obtain ⟨p0, p1, p2, p3, p4⟩ := cells5 (XA.out _ BC.out)
            obtain ⟨q0, q1, q2, q3, q4⟩ := cells5 (XB.out _ BC.out)
            obtain ⟨e0, e1, e2, e3, e4, e5, e6, e7, e8, e9, ea, eb⟩ := SS.out _ (bt BB.out BC.out)
            go_wp2_with fail
            refine LD.out.mono ?_
            rintro _ w8 ⟨c, d, aV, cV, rfl, hH, hc, hd⟩
            have U := hide (two_blocks w8 (.cells #[.int .i64 c.kind, .int .i64 c.level, .slice c.aI c.items.length c.cI, .slice c.aD c.data.length c.cD, .int .i64 c.next] 25) (.cells #[.int .i64 d.kind, .int .i64 d.level, .slice d.aI d.items.length d.cI, .slice d.aD d.data.length d.cD, .int .i64 d.next] 25) (Below.refl _ _))
            have Xc := hide U.out.1
            have Xd := hide U.out.2.1
            have HH := hide (hH.keep U.out.2.2.1)
            replace BC := hide (bt BC.out (bt hH.b U.out.2.2.1))
            have Ec := hide hc
            have Ed := hide hd
            have Lc : Hid (c.items.length ≤ 8) := by show _ ≤ _; rw [pg_len hc, L1.out]; exact LK1
            have Ld : Hid (d.items.length ≤ 8) := by show _ ≤ _; rw [pg_len hd, L2.out]; exact LK2
            clear hH hc hd U LD p0 p1 p2 p3 p4 q0 q1 q2 q3 q4 e0 e1 e2 e3 e4 e5 e6 e7 e8 e9 ea eb
            go_upto_region 17 with fail
            generalize ((w8.alloc (.cells #[.int .i64 c.kind, .int .i64 c.level, .slice c.aI c.items.length c.cI, .slice c.aD c.data.length c.cD, .int .i64 c.next] 25)).alloc (.cells #[.int .i64 d.kind, .int .i64 d.level, .slice d.aI d.items.length d.cI, .slice d.aD d.data.length d.cD, .int .i64 d.next] 25)) = w9 at *
            have QC := hide fun (W : World) (hb : Below w9.heap.size w9 W) => (HH.out.p1.keep hb).pi (Nat.le_trans Lc.out (by decide))
            have QD := hide fun (W : World) (hb : Below w9.heap.size w9 W) => (HH.out.p2.keep hb).pi (Nat.le_trans Ld.out (by decide))
            have QV := hide fun (W : World) (hb : Below w9.heap.size w9 W) => (HH.out.sp.1.bs HH.out.sp.2).keep hb
            have EQ1 := hide fun (W : World) (hb : Below w9.heap.size w9 W) => EqPage_same W c l (QC.out W hb) (TJ.out.l.i.keep (bt BB.out (bt BC.out hb))) Ec.out
            have EQ2 := hide fun (W : World) (hb : Below w9.heap.size w9 W) => EqPage_same W d r (QD.out W hb) (TJ.out.r.i.keep (bt BB.out (bt BC.out hb))) Ed.out
            have FT3 := hide fun (W : World) (hb : Below w9.heap.size w9 W) => fits_any W c d aV cV Z2.s (QC.out W hb) (QD.out W hb) (QV.out W hb) (Nat.le_trans F6.out.2.2.2.2.2.2.1 (by decide))
            simp only [Ec.out, Ed.out] at FT3
            unfold Pv.vl at EQ1 EQ2 FT3
            simp only [Pv.cs] at EQ1 EQ2 FT3
            have CC := hide (Below.refl w9.heap.size w9)
            obtain ⟨p0, p1, p2, p3, p4⟩ := cells5 (blk_keep Xc.out CC.out)
            obtain ⟨e0, e1, e2, e3, e4, e5, e6, e7, e8, e9, ea, eb⟩ := SS.out _ (bt BB.out (bt BC.out CC.out))
            go_wp2_with fail
            refine (EQ1.out _ CC.out).mono ?_
            rintro _ y1 ⟨rfl, hb⟩
            replace CC := hide (bt CC.out hb)
            clear hb
            clear p0 p1 p2 p3 p4 e0 e1 e2 e3 e4 e5 e6 e7 e8 e9 ea eb
            obtain ⟨q0, q1, q2, q3, q4⟩ := cells5 (blk_keep Xd.out CC.out)
            obtain ⟨e0, e1, e2, e3, e4, e5, e6, e7, e8, e9, ea, eb⟩ := SS.out _ (bt BB.out (bt BC.out CC.out))
            go_wp2_with fail
            refine (EQ2.out _ CC.out).mono ?_
            rintro _ y2 ⟨rfl, hb⟩
            replace CC := hide (bt CC.out hb)
            clear hb
            clear q0 q1 q2 q3 q4 e0 e1 e2 e3 e4 e5 e6 e7 e8 e9 ea eb
            obtain ⟨p0, p1, p2, p3, p4⟩ := cells5 (blk_keep Xc.out CC.out)
            obtain ⟨q0, q1, q2, q3, q4⟩ := cells5 (blk_keep Xd.out CC.out)
            obtain ⟨e0, e1, e2, e3, e4, e5, e6, e7, e8, e9, ea, eb⟩ := SS.out _ (bt BB.out (bt BC.out CC.out))
            go_wp2_with fail
            refine (FT3.out _ CC.out).mono ?_
            rintro _ y4 ⟨bf, rfl, hbf, hb⟩
            obtain rfl : bf = true := hbf.2 F6.out
            replace CC := hide (bt CC.out hb)
            clear hb hbf
            go_wp2_with fail
            go_ret
            exact ⟨rfl, bt A0.out (bt BB.out (bt BC.out CC.out))⟩
      · have zo : Z.ok = false := by
          rw [OK.out, GG.out, KK.out]
          by_cases h2 : 2 ≤ G.items.length
          · have : ¬ Kp.items.length < 8 := fun e => hg ⟨h2, e⟩
            simp [this]
          · simp [h2]
        rw [zo]
        clear LB OK
        obtain ⟨e0, e1, e2, e3, e4, e5, e6, e7, e8, e9, ea, eb⟩ := SS.out _ N0.out.h.b
        by_cases h2 : 2 ≤ G.items.length
        · have d1 : decide ((2 : Int) ≤ (G.items.length : Int)) = true := decide_eq_true (by omega)
          have d2 : decide ((Kp.items.length : Int) < 8) = false := decide_eq_false (by have : ¬ Kp.items.length < 8 := fun e => hg ⟨h2, e⟩; omega)
          go_wp2_with fail
          refine (GV.out _).mono ?_
          rintro _ w4 ⟨rfl, hb⟩
          replace N0 := hide (N0.out.keep hb)
          clear hb e0 e1 e2 e3 e4 e5 e6 e7 e8 e9 ea eb
          obtain ⟨e0, e1, e2, e3, e4, e5, e6, e7, e8, e9, ea, eb⟩ := SS.out _ N0.out.h.b
          go_wp2_with fail
          refine (TK.out _).mono ?_
          rintro _ w5 ⟨rfl, hb⟩
          have BE := hide (bt A0.out (bt N0.out.h.b hb))
          clear hb e0 e1 e2 e3 e4 e5 e6 e7 e8 e9 ea eb
          go_wp2_with fail
          go_ret
          exact ⟨rfl, BE.out⟩
        · have d1 : decide ((2 : Int) ≤ (G.items.length : Int)) = false := decide_eq_false (by omega)
          go_wp2_with fail
          refine (GV.out _).mono ?_
          rintro _ w4 ⟨rfl, hb⟩
          have BE := hide (bt A0.out (bt N0.out.h.b hb))
          clear hb e0 e1 e2 e3 e4 e5 e6 e7 e8 e9 ea eb
          go_wp2_with fail
          go_ret
          exact ⟨rfl, BE.out⟩
  · obtain rfl : bf = false := by
      cases bf
      · rfl
      · exact absurd (hbf.1 rfl) hF
    clear hbf hF
    go_wp2_with fail
    go_ret
    exact ⟨rfl, bt A0.out B3.out⟩
end Go.Proofs.Ytmfelkncomfipaa
