import Derived.Test.YtmfelkncomfipaaDYG
import Derived.Test.YtmfelkncomfipaaDYH
import Derived.Test.YtmfelkncomfipaaDLA
namespace Go.Proofs.Ytmfelkncomfipaa
set_option linter.unusedVariables false
set_option linter.unusedSimpArgs false
open Go.RowKit
/-- what was lent, in its boxes -/
structure Lr (v W : World) (Z : Hv) (a b : Pv) (aU : Option Addr) (cU gA gB : Nat) : Prop where
  xa : W.heap[gA]? = some (.cells a.cs 25 (0, 0))
  xb : W.heap[gB]? = some (.cells b.cs 25 (0, 0))
  h : Hq v W a b aU cU Z.s
  ea : a.pg = Z.l
  eb : b.pg = Z.r
theorem Lr.keep {v W W' : World} {Z : Hv} {a b : Pv} {aU : Option Addr} {cU gA gB : Nat} (h : Lr v W Z a b aU cU gA gB) (hb : Below W.heap.size W W') : Lr v W' Z a b aU cU gA gB := ⟨blk_keep h.xa hb, blk_keep h.xb hb, h.h.keep hb, h.ea, h.eb⟩
theorem ways_join {l r : Pg} {s key : List Nat} (h : Fit l r s) (hp : Pr l.kind l.level (jnd l r s)) : foundI l r s key = leadI l.kind (jnd l r s) key ∧ (joi l r s).2 = decide (l.items.length + r.items.length ≤ 8) ∧ (l.items.length + r.items.length ≤ 8 → (joi l r s).1.check = 0 ∧ leadI (joi l r s).1.kind (joi l r s).1.items key = leadI l.kind (jnd l r s) key ∧ 1 ≤ (joi l r s).1.items.length ∧ (joi l r s).1.items.length ≤ 8) := by
  obtain ⟨a1, a2, a3, a4, a5⟩ := fit_alk h
  have hj := (fit_back h).2.2.2
  refine ⟨found_eq hp rfl h.2.2.1.symm a2 a3 h.sides, ?_, fun h8 => ?_⟩
  · unfold joi
    by_cases h8 : l.items.length + r.items.length ≤ 8
    · rw [if_pos ⟨a1, a2, a3, h8⟩]; simp [h8]
    · rw [if_neg (fun e => h8 e.2.2.2)]; simp [h8]
  · have e : joi l r s = (l.wi (jnd l r s), true) := by unfold joi; rw [if_pos ⟨a1, a2, a3, h8⟩]
    rw [e]
    have o1 := okp_of h.2.2.2.2.1 h.1
    have o2 : Okp (l.wi (jnd l r s)) := ⟨hp.k, o1.d, o1.n, hp.v1, hp.v2, by show (jnd l r s).length ≤ 8; omega, by show 1 ≤ (jnd l r s).length; omega, fun hk => by have := o1.l2 hk; show 2 ≤ (jnd l r s).length; omega, hp.b, hp.kx⟩
    exact ⟨of_okp o2, rfl, by show 1 ≤ (jnd l r s).length; omega, by show (jnd l r s).length ≤ 8; omega⟩
theorem ways_lend {l r : Pg} {s key : List Nat} (t : Bool) (h : Fit l r s) (hp : Pr l.kind l.level (jnd l r s)) (hk : (lend l r s t).ok = true) : foundI (lend l r s t).l (lend l r s t).r (lend l r s t).s key = leadI l.kind (jnd l r s) key ∧ 1 ≤ (lend l r s t).l.items.length ∧ (lend l r s t).l.items.length ≤ 9 ∧ 1 ≤ (lend l r s t).r.items.length ∧ (lend l r s t).r.items.length ≤ 9 := by
  obtain ⟨a1, a2, a3, a4, a5⟩ := fit_alk h
  have hj := (fit_back h).2.2.2
  rw [lend_ok t h hp] at hk
  simp only [Bool.and_eq_true, decide_eq_true_eq] at hk
  obtain ⟨pt, n1, n2⟩ := lend_ptd t h hp hk.1 hk.2
  obtain ⟨ll, lr⟩ := pt.len n2
  have ek : (lend l r s t).l.kind = l.kind := by rw [pt.l]
  have er : (lend l r s t).r.kind = l.kind := by rw [pt.r]
  have hp2 : Pr l.kind l.level (jnd (lend l r s t).l (lend l r s t).r (lend l r s t).s) := by rw [pt.j]; exact hp
  have e := found_eq (key := key) hp2 ek er (by rw [ll]; exact n1) (by rw [lr]; omega) (pt.sides hp n1 n2)
  rw [pt.j] at e
  refine ⟨e, by rw [ll]; exact n1, ?_, by rw [lr]; omega, ?_⟩
  · rw [ll]
    cases t
    · simp only [gvn, tkn, ptn, Bool.false_eq_true, if_false] at hk ⊢; omega
    · simp only [gvn, tkn, ptn, if_true] at hk ⊢; omega
  · rw [lr, hj]
    cases t
    · simp only [gvn, tkn, ptn, Bool.false_eq_true, if_false] at hk ⊢; omega
    · simp only [gvn, tkn, ptn, if_true] at hk ⊢; omega
theorem lead2 {L : List It} {key : List Nat} : (leadI 2 L key).2 = true := by unfold leadI; rw [if_pos rfl]
theorem Pn.piH {v w : World} {P : Pv} (h : Pn v w P) {L : Pg} (e : P.pg = L) (hl : L.items.length ≤ 2199023255520) : Pi w P := h.pi (by
  rw [← e, show P.pg.items.length = P.items.length from List.length_map _] at hl
  exact hl)
theorem pg_len {q : Pv} {P : Pg} (e : q.pg = P) : q.items.length = P.items.length := by rw [← e]; exact (List.length_map _).symm
set_option maxHeartbeats 64000000 in
set_option maxRecDepth 16000 in
theorem nodeWays_any (w : World) (v : Tv) (hT : Tj w v) (ak : Option Addr) (ck : Nat) (key : List Nat) (hK : Bs w ak key) (hkl : key.length ≤ 140737488355264) (hkc : key.length ≤ ck) :
    Calls Try.prog 5 #[v.vl, .slice ak key.length ck] w fun e w' => e = .returned (.bool true) ∧ Below w.heap.size w w' := by
  have A0 := hide (al w (.cells v.cs 27))
  have X0 := hide (heap_alloc_new w (.cells v.cs 27))
  have TJ := hide (hT.keep A0.out)
  clear hT
  obtain ⟨l, r, aS, cS, s, t⟩ := v
  unfold Tv.vl
  simp only [Tv.cs] at A0 X0 TJ ⊢
  have BK := hide (hK.keep A0.out)
  clear hK
  have FT := hide fun (W : World) (hb : Below (w.alloc (.cells #[.int .i64 l.kind, .int .i64 l.level, .slice l.aI l.items.length l.cI, .slice l.aD l.data.length l.cD, .int .i64 l.next, .int .i64 r.kind, .int .i64 r.level, .slice r.aI r.items.length r.cI, .slice r.aD r.data.length r.cD, .int .i64 r.next, .slice aS s.length cS, .bool t] 27)).heap.size (w.alloc (.cells #[.int .i64 l.kind, .int .i64 l.level, .slice l.aI l.items.length l.cI, .slice l.aD l.data.length l.cD, .int .i64 l.next, .int .i64 r.kind, .int .i64 r.level, .slice r.aI r.items.length r.cI, .slice r.aD r.data.length r.cD, .int .i64 r.next, .slice aS s.length cS, .bool t] 27)) W) => fits_any W l r aS cS s (TJ.out.l.i.keep hb) (TJ.out.r.i.keep hb) (TJ.out.b.keep hb) (Nat.le_trans TJ.out.n (by decide))
  unfold Pv.vl at FT
  simp only [Pv.cs] at FT
  go_enter Try.func5, Try.ntmps5
  go_wp2_with fail
  generalize (w.alloc (.cells #[.int .i64 l.kind, .int .i64 l.level, .slice l.aI l.items.length l.cI, .slice l.aD l.data.length l.cD, .int .i64 l.next, .int .i64 r.kind, .int .i64 r.level, .slice r.aI r.items.length r.cI, .slice r.aD r.data.length r.cD, .int .i64 r.next, .slice aS s.length cS, .bool t] 27)) = w1 at *
  have hw1 : w.heap.size < w1.heap.size := (Array.getElem?_eq_some_iff.1 X0.out).1
  have BX := hide fun (W : World) (hb : Below w1.heap.size w1 W) => blk_keep X0.out hb
  have SS := hide fun (W : World) (hb : Below w1.heap.size w1 W) => cells12b (blk_keep X0.out hb)
  refine (works_any w1).mono ?_
  rintro _ w2 ⟨rfl, b2⟩
  have B2 := hide b2
  clear b2
  obtain ⟨e0, e1, e2, e3, e4, e5, e6, e7, e8, e9, ea, eb⟩ := SS.out _ B2.out
  go_wp2_with fail
  refine (FT.out _ B2.out).mono ?_
  rintro _ w3 ⟨bf, rfl, hbf, b3⟩
  have B3 := hide (bt B2.out b3)
  clear b3 B2 e0 e1 e2 e3 e4 e5 e6 e7 e8 e9 ea eb FT
  by_cases hF : Fit l.pg r.pg s
  · obtain rfl : bf = true := hbf.2 hF
    clear hbf
    by_cases hk1 : key.length < 1
    · have d1 : decide ((key.length : Int) < 1) = true := decide_eq_true (by omega)
      clear hF
      go_wp2_with fail
      go_ret
      exact ⟨rfl, bt A0.out B3.out⟩
    · have d1 : decide ((key.length : Int) < 1) = false := decide_eq_false (by omega)
      by_cases hk2 : 24 < key.length
      · have d2 : decide ((24 : Int) < (key.length : Int)) = true := decide_eq_true (by omega)
        clear hF
        go_wp2_with fail
        go_ret
        exact ⟨rfl, bt A0.out B3.out⟩
      · have d2 : decide ((24 : Int) < (key.length : Int)) = false := decide_eq_false (by omega)
        have HP := hide (fit_pr hF TJ.out.l.i.keys8 TJ.out.r.i.keys8 TJ.out.b.1)
        have WJ := hide (ways_join (key := key) hF HP.out)
        have WL := hide fun (hk : (lend l.pg r.pg s t).ok = true) => ways_lend (key := key) t hF HP.out hk
        have FA := hide (fit_alk hF)
        have L1 : Hid (l.pg.items.length = l.items.length) := List.length_map _
        have L2 : Hid (r.pg.items.length = r.items.length) := List.length_map _
        have KD : Hid (l.kind = 1 ∨ l.kind = 2) := (okp_of hF.2.2.2.2.1 hF.1).k
        clear hF
        have LK1 : l.items.length ≤ 8 := by rw [← L1.out]; exact FA.out.2.2.2.1
        have LK2 : r.items.length ≤ 8 := by rw [← L2.out]; exact FA.out.2.2.2.2
        have LJ1 : 1 ≤ l.items.length := by rw [← L1.out]; exact FA.out.2.1
        have LJ2 : 1 ≤ r.items.length := by rw [← L2.out]; exact FA.out.2.2.1
        have S8 := hide TJ.out.b.1
        have FO := hide fun (W : World) (hb : Below w1.heap.size w1 W) => found_any W l r aS ak cS ck s key (TJ.out.l.i.keep hb) (TJ.out.r.i.keep hb) (TJ.out.b.keep hb) (BK.out.keep hb) LJ1 (by omega) LJ2 (by omega)
        rw [WJ.out.1] at FO
        have SP1 := hide fun (W : World) (hb : Below w1.heap.size w1 W) => (TJ.out.l.keep hb).copy
        have SP2 := hide fun (W : World) (hb : Below w1.heap.size w1 W) => (TJ.out.r.keep hb).copy
        have SP3 := hide fun (W : World) (hb : Below w1.heap.size w1 W) => CopyBytes_at W aS s.length cS s (TJ.out.b.keep hb) rfl TJ.out.n
        have LN := hide fun (W : World) (x y : Pv) (aK : Option Addr) (cK : Nat) (hb : Below w1.heap.size w1 W) (hx : Pj W x) (hy : Pj W y) (hk : Rw W aK cK s) (ex : x.pg = l.pg) (ey : y.pg = r.pg) => (show Calls Try.prog 9 #[x.vl, y.vl, .slice aK s.length cK, .bool t] W fun e w' => ∃ (q1 q2 : Pv) (a : Option Addr) (c : Nat), e = .returned (.tuple #[q1.vl, q2.vl, .slice a (lend l.pg r.pg s t).s.length c, .bool (lend l.pg r.pg s t).ok]) ∧ Hq W w' q1 q2 a c (lend l.pg r.pg s t).s ∧ q1.pg = (lend l.pg r.pg s t).l ∧ q2.pg = (lend l.pg r.pg s t).r from by
          have h := Lend_any W t x y aK cK s hx.i hy.i (hk.bs S8.out hk.len_le) hk.cap TJ.out.n hx.d hy.d hx.s hy.s hx.n hy.n
          rw [ex, ey] at h
          exact h)
        have JN := hide fun (W : World) (x y : Pv) (aK : Option Addr) (cK : Nat) (hb : Below w1.heap.size w1 W) (hx : Pj W x) (hy : Pj W y) (hk : Rw W aK cK s) (ex : x.pg = l.pg) (ey : y.pg = r.pg) => (show Calls Try.prog 23 #[x.vl, y.vl, .slice aK s.length cK] W fun e w' => ∃ q : Pv, e = .returned (.tuple #[q.vl, .bool (joi l.pg r.pg s).2]) ∧ Pn W w' q ∧ q.pg = (joi l.pg r.pg s).1 ∧ Below W.heap.size W w' from by
          have h := Join_any W x y aK cK s hx.i hy.i (hk.bs S8.out hk.len_le) hk.cap TJ.out.n hx.d hx.s hy.s
          rw [ex, ey] at h
          exact h)
        obtain ⟨Z, hZ⟩ : ∃ Z, lend l.pg r.pg s t = Z := ⟨_, rfl⟩
        obtain ⟨Y, hY⟩ : ∃ Y, joi l.pg r.pg s = Y := ⟨_, rfl⟩
        obtain ⟨F, hF⟩ : ∃ F, leadI l.pg.kind (jnd l.pg r.pg s) key = F := ⟨_, rfl⟩
        have F2 : Hid (l.kind = 2 → F.2 = true) := fun h => by
          rw [← hF, show l.pg.kind = 2 from h]
          exact lead2
        simp only [hZ] at LN WL
        simp only [hY] at JN WJ
        rw [hF] at FO WJ
        simp only [hF] at WL
        unfold Pv.vl at SP1 SP2 LN JN FO
        simp only [Pv.cs] at SP1 SP2 LN JN FO
        rw [L1.out, L2.out] at WJ
        clear hZ hY hF HP FA
        obtain ⟨YP, YB⟩ := Y
        simp only at JN WJ
        obtain ⟨e0, e1, e2, e3, e4, e5, e6, e7, e8, e9, ea, eb⟩ := SS.out _ B3.out
        go_wp2_with fail
        refine (FO.out _ B3.out).mono ?_
        rintro _ w4 ⟨x, rfl, hx, ex, hb⟩
        have A4 := hide (al w4 (.cells #[.slice x.aK x.key.length x.cK, .slice x.aV x.val.length x.cV, .int .i64 x.child, .int .i64 x.size] 40))
        have XI := hide (heap_alloc_new w4 (.cells #[.slice x.aK x.key.length x.cK, .slice x.aV x.val.length x.cV, .int .i64 x.child, .int .i64 x.size] 40))
        have IX := hide (hx.keep A4.out)
        have EX := hide ex
        replace B3 := hide (bt B3.out (bt hb A4.out))
        clear hx ex hb e0 e1 e2 e3 e4 e5 e6 e7 e8 e9 ea eb FO
        unfold Iv.vl
        simp only [Iv.cs]
        go_upto_region 6 with fail
        generalize (w4.alloc (.cells #[.slice x.aK x.key.length x.cK, .slice x.aV x.val.length x.cV, .int .i64 x.child, .int .i64 x.size] 40)) = w5 at *
        generalize w4.heap.size = gI at *
        obtain ⟨e0, e1, e2, e3, e4, e5, e6, e7, e8, e9, ea, eb⟩ := SS.out _ B3.out
        go_cut [55] from 48 to 55 (fun v wx => v = .bool false ∧ wx = w5)
        case first =>
          clear SP1 SP2 SP3 LN JN WJ WL
          by_cases hk : l.kind = 2
          · have hkb : (l.kind == 2) = true := by simpa using hk
            have f2 := F2.out hk
            clear hk
            go_wp2_with fail
            go_meet
            case rel => exact ⟨rfl, rfl⟩
          · have hkb : (l.kind == 2) = false := by simpa using hk
            clear hk
            go_wp2_with fail
            go_meet
            case rel => exact ⟨rfl, rfl⟩
        case rest =>
          obtain ⟨rfl, hwc⟩ := hcut
          rw [hwc]
          clear hwc e0 e1 e2 e3 e4 e5 e6 e7 e8 e9 ea eb
          go_upto_region 8 with fail
          have D1 := hide (bt B3.out (dr2 w5))
          have XIW := hide fun (W : World) (hb : Below w5.heap.size w5 W) => blk_keep XI.out hb
          have IXW := hide fun (W : World) (hb : Below w5.heap.size w5 W) => IX.out.keep hb
          have D5 := hide (dr2 w5)
          go_cut [7, 8] from 56 to 68 (fun p7 v8 wx => ∃ (gJ : Nat) (j : Pv), p7 = .pointer (some ⟨gJ, 0, none⟩) ∧ v8 = .bool YB ∧ wx.heap[gJ]? = some (.cells j.cs 25 (0, 0)) ∧ Pn w1 wx j ∧ j.pg = YP ∧ Below w5.heap.size w5 wx)
          case first =>
            as_aux_lemma =>
            clear LN WL WJ XIW IXW EX F2
            refine wp_region_held_drew (S := fun W => W.cell? ⟨w.heap.size, 0, none⟩ = some (.int .i64 l.kind) ∧ W.cell? ⟨w.heap.size, 1, none⟩ = some (.int .i64 l.level) ∧ W.cell? ⟨w.heap.size, 2, none⟩ = some (.slice l.aI l.items.length l.cI) ∧ W.cell? ⟨w.heap.size, 3, none⟩ = some (.slice l.aD l.data.length l.cD) ∧ W.cell? ⟨w.heap.size, 4, none⟩ = some (.int .i64 l.next) ∧ W.cell? ⟨w.heap.size, 5, none⟩ = some (.int .i64 r.kind) ∧ W.cell? ⟨w.heap.size, 6, none⟩ = some (.int .i64 r.level) ∧ W.cell? ⟨w.heap.size, 7, none⟩ = some (.slice r.aI r.items.length r.cI) ∧ W.cell? ⟨w.heap.size, 8, none⟩ = some (.slice r.aD r.data.length r.cD) ∧ W.cell? ⟨w.heap.size, 9, none⟩ = some (.int .i64 r.next) ∧ W.cell? ⟨w.heap.size, 10, none⟩ = some (.slice aS s.length cS) ∧ W.cell? ⟨w.heap.size, 11, none⟩ = some (.bool t)) (by kernel_rfl) (SS.out _ D1.out) (fun hHeld => ?_)
            refine wpAnyH_take (i := 0) (v := ?vaf0) rfl (by kernel_rfl) (by kernel_rfl) (by kernel_rfl) (fun _ _ _ h => h) (Or.inl ⟨by rfl, ?hyf0⟩) (by assumption) ?raf0
            case hyf0 => (intro wq hSw; (try dsimp only at hSw); obtain ⟨e0, e1, e2, e3, e4, e5, e6, e7, e8, e9, e10, e11⟩ := hSw; go_simp <;> with_reducible rfl)
            try simp only [Act.put, List.getElem_toArray, List.getElem_cons_zero, List.setIfInBounds_toArray, List.set_cons_zero, List.set_cons_succ]
            refine wpAnyH_take (i := 1) (v := ?vaf1) rfl (by kernel_rfl) (by kernel_rfl) (by kernel_rfl) (fun _ _ _ h => h) (Or.inl ⟨by rfl, ?hyf1⟩) (by assumption) ?raf1
            case hyf1 => (intro wq hSw; (try dsimp only at hSw); obtain ⟨e0, e1, e2, e3, e4, e5, e6, e7, e8, e9, e10, e11⟩ := hSw; go_simp <;> with_reducible rfl)
            try simp only [Act.put, List.getElem_toArray, List.getElem_cons_zero, List.getElem_cons_succ, List.setIfInBounds_toArray, List.set_cons_zero, List.set_cons_succ]
            refine wpAnyH_take (i := 3) (v := ?vaf3) rfl (by kernel_rfl) (by kernel_rfl) (by kernel_rfl) (fun _ _ _ h => h) (Or.inl ⟨by rfl, ?hyf3⟩) (by assumption) ?raf3
            case hyf3 => (intro wq hSw; (try dsimp only at hSw); obtain ⟨e0, e1, e2, e3, e4, e5, e6, e7, e8, e9, e10, e11⟩ := hSw; go_simp <;> with_reducible rfl)
            try simp only [Act.put, List.getElem_toArray, List.getElem_cons_zero, List.getElem_cons_succ, List.setIfInBounds_toArray, List.set_cons_zero, List.set_cons_succ]
            refine wpAnyH_take (i := 4) (v := ?vaf4) rfl (by kernel_rfl) (by kernel_rfl) (by kernel_rfl) (fun _ _ _ h => h) (Or.inl ⟨by rfl, ?hyf4⟩) (by assumption) ?raf4
            case hyf4 => (intro wq hSw; (try dsimp only at hSw); obtain ⟨e0, e1, e2, e3, e4, e5, e6, e7, e8, e9, e10, e11⟩ := hSw; go_simp <;> with_reducible rfl)
            try simp only [Act.put, List.getElem_toArray, List.getElem_cons_zero, List.getElem_cons_succ, List.setIfInBounds_toArray, List.set_cons_zero, List.set_cons_succ]
            refine wpAnyH_take (i := 6) (v := ?vaf6) rfl (by kernel_rfl) (by kernel_rfl) (by kernel_rfl) (fun _ _ _ h => h) (Or.inl ⟨by rfl, ?hyf6⟩) (by assumption) ?raf6
            case hyf6 => (intro wq hSw; (try dsimp only at hSw); obtain ⟨e0, e1, e2, e3, e4, e5, e6, e7, e8, e9, e10, e11⟩ := hSw; go_simp <;> with_reducible rfl)
            try simp only [Act.put, List.getElem_toArray, List.getElem_cons_zero, List.getElem_cons_succ, List.setIfInBounds_toArray, List.set_cons_zero, List.set_cons_succ]
            refine wpAnyH_take (i := 7) (v := ?vaf7) rfl (by kernel_rfl) (by kernel_rfl) (by kernel_rfl) (fun _ _ _ h => h) (Or.inl ⟨by rfl, ?hyf7⟩) (by assumption) ?raf7
            case hyf7 => (intro wq hSw; (try dsimp only at hSw); obtain ⟨e0, e1, e2, e3, e4, e5, e6, e7, e8, e9, e10, e11⟩ := hSw; go_simp <;> with_reducible rfl)
            try simp only [Act.put, List.getElem_toArray, List.getElem_cons_zero, List.getElem_cons_succ, List.setIfInBounds_toArray, List.set_cons_zero, List.set_cons_succ]
            have BB := D1
            have B5W := D5
            clear D1 D5
            generalize w5.drew = v0 at *
            refine wpAnyH_ready (rs := [2, 13]) (by kernel_rfl) (by simp) ?_
            refine (AllReadyH.cons rfl (fun K hK => ?_) (AllReadyH.cons rfl (fun K hK => ?_) AllReadyH.nil))
            · go_simp
              refine (SP1.out _ BB.out).mono ?_
              rintro _ v1 ⟨x, rfl, hS, -, hE, hb⟩
              have SX := hide hS
              have EX := hide hE
              replace B5W := hide (bt B5W.out hb)
              replace BB := hide (bt BB.out hb)
              clear hS hE hb
              go_wp2_with fail
              refine hK.out _ _ (SS.out _ BB.out) (fun hHeld => ?_)
              clear hK K
              try simp only [Act.put, List.getElem_toArray, List.getElem_cons_zero, List.getElem_cons_succ, List.setIfInBounds_toArray, List.set_cons_zero, List.set_cons_succ]
              refine wpAnyH_ready (rs := [5, 13]) (by kernel_rfl) (by simp) ?_
              refine (AllReadyH.cons rfl (fun K hK => ?_) (AllReadyH.cons rfl (fun K hK => ?_) AllReadyH.nil))
              · go_simp
                refine (SP2.out _ BB.out).mono ?_
                rintro _ v2 ⟨y, rfl, hS, -, hE, hb⟩
                have SY := hide hS
                have EY := hide hE
                replace SX := hide (SX.out.keep hb)
                replace B5W := hide (bt B5W.out hb)
                replace BB := hide (bt BB.out hb)
                clear hS hE hb
                go_wp2_with fail
                refine hK.out _ _ (SS.out _ BB.out) (fun hHeld => ?_)
                clear hK K
                try simp only [Act.put, List.getElem_toArray, List.getElem_cons_zero, List.getElem_cons_succ, List.setIfInBounds_toArray, List.set_cons_zero, List.set_cons_succ]
                refine wpAnyH_ready (rs := [8, 13]) (by kernel_rfl) (by simp) ?_
                refine (AllReadyH.cons rfl (fun K hK => ?_) (AllReadyH.cons rfl (fun K hK => ?_) AllReadyH.nil))
                · go_simp
                  refine (SP3.out _ BB.out).mono ?_
                  rintro _ v3 ⟨aK, cK, rfl, hO⟩
                  have hb := hO.b
                  have SK := hide hO.r
                  replace SX := hide (SX.out.keep hb)
                  replace SY := hide (SY.out.keep hb)
                  replace B5W := hide (bt B5W.out hb)
                  replace BB := hide (bt BB.out hb)
                  clear hO hb
                  go_wp2_with fail
                  refine hK.out _ _ (SS.out _ BB.out) (fun hHeld => ?_)
                  clear hK K
                  try simp only [Act.put, List.getElem_toArray, List.getElem_cons_zero, List.getElem_cons_succ, List.setIfInBounds_toArray, List.set_cons_zero, List.set_cons_succ]
                  refine wpAnyH_ready (rs := [9, 13]) (by kernel_rfl) (by simp) ?_
                  refine (AllReadyH.cons rfl (fun K hK => ?_) (AllReadyH.cons rfl (fun K hK => ?_) AllReadyH.nil))
                  · go_simp
                    refine (JN.out _ x y aK cK BB.out SX.out SY.out SK.out EX.out EY.out).mono ?_
                    rintro _ v4 ⟨a, rfl, hH, ha, hb⟩
                    have HQ := hide (hH.pre BB.out.size)
                    have EA := hide ha
                    clear SX SY SK
                    replace B5W := hide (bt B5W.out hb)
                    replace BB := hide (bt BB.out hb)
                    clear hH ha hb
                    go_wp2_with fail
                    refine hK.out _ _ (SS.out _ BB.out) (fun hHeld => ?_)
                    clear hK K
                    try simp only [Act.put, List.getElem_toArray, List.getElem_cons_zero, List.getElem_cons_succ, List.setIfInBounds_toArray, List.set_cons_zero, List.set_cons_succ]
                    refine wpAnyH_take (i := 10) (v := ?vaf1234x10) rfl (by kernel_rfl) (by kernel_rfl) (by kernel_rfl) (fun _ _ _ h => h) (Or.inl ⟨by rfl, ?hyf1234x10⟩) (by assumption) ?raf1234x10
                    case hyf1234x10 => (intro wq hSw; (try dsimp only at hSw); obtain ⟨e0, e1, e2, e3, e4, e5, e6, e7, e8, e9, e10, e11⟩ := hSw; go_simp <;> with_reducible rfl)
                    try simp only [Act.put, List.getElem_toArray, List.getElem_cons_zero, List.getElem_cons_succ, List.setIfInBounds_toArray, List.set_cons_zero, List.set_cons_succ]
                    refine wpAnyH_take (i := 11) (v := ?vaf1234x11) rfl (by kernel_rfl) (by kernel_rfl) (by kernel_rfl) (fun _ _ _ h => h) (Or.inl ⟨by rfl, ?hyf1234x11⟩) (by assumption) ?raf1234x11
                    case hyf1234x11 => (intro wq hSw; (try dsimp only at hSw); obtain ⟨e0, e1, e2, e3, e4, e5, e6, e7, e8, e9, e10, e11⟩ := hSw; go_simp <;> with_reducible rfl)
                    try simp only [Act.put, List.getElem_toArray, List.getElem_cons_zero, List.getElem_cons_succ, List.setIfInBounds_toArray, List.set_cons_zero, List.set_cons_succ]
                    refine wpAnyH_take (i := 12) (v := ?vaf1234x12) rfl (by kernel_rfl) (by kernel_rfl) (by kernel_rfl) (fun _ _ _ h => h) (Or.inl ⟨by rfl, ?hyf1234x12⟩) (by assumption) ?raf1234x12
                    case hyf1234x12 => (intro wq hSw; (try dsimp only at hSw); obtain ⟨e0, e1, e2, e3, e4, e5, e6, e7, e8, e9, e10, e11⟩ := hSw; go_simp <;> with_reducible rfl)
                    try simp only [Act.put, List.getElem_toArray, List.getElem_cons_zero, List.getElem_cons_succ, List.setIfInBounds_toArray, List.set_cons_zero, List.set_cons_succ]
                    refine wpAnyH_ready (rs := [13]) (by kernel_rfl) (by simp) ?_
                    refine (AllReadyH.cons rfl (fun K hK => ?_) AllReadyH.nil)
                    · go_simp
                      have AL := hide (al v4 (.cells #[.int .i64 0, .int .i64 0, .slice none 0 0, .slice none 0 0, .int .i64 0] 25))
                      have LA : Hid (w1.heap.size ≤ v4.heap.size) := BB.out.size
                      have L5A : Hid (w5.heap.size ≤ v4.heap.size) := B5W.out.size
                      replace HQ := hide (HQ.out.keep AL.out)
                      replace B5W := hide (bt B5W.out AL.out)
                      replace BB := hide (bt BB.out AL.out)
                      have XA := hide (heap_alloc_new v4 (.cells #[.int .i64 0, .int .i64 0, .slice none 0 0, .slice none 0 0, .int .i64 0] 25))
                      refine hK.out _ _ (SS.out _ BB.out) (fun hHeld => ?_)
                      clear hK K AL
                      try simp only [Act.put, List.getElem_toArray, List.getElem_cons_zero, List.getElem_cons_succ, List.setIfInBounds_toArray, List.set_cons_zero, List.set_cons_succ]
                      generalize (v4.alloc (.cells #[.int .i64 0, .int .i64 0, .slice none 0 0, .slice none 0 0, .int .i64 0] 25)) = v5 at *
                      generalize v4.heap.size = gA at *
                      have hAne : w.heap.size ≠ gA := by have := LA.out; omega
                      refine wpAnyH_ready (rs := [14]) (by kernel_rfl) (by simp) ?_
                      refine AllReadyH.cons rfl (fun K hK => ?_) AllReadyH.nil
                      rw [if_pos (by rfl)]
                      refine wp_store_row 25 _ _ rfl gA _ rfl rfl 25 _ XA.out sizePage rfl (by simp [Value.oneCell']) ?_
                      refine hK.out _ _ (cells12b (row_far _ (BX.out _ BB.out) hAne)) (fun hHeld => ?_)
                      clear hK K
                      try simp only [Act.put, List.getElem_toArray, List.getElem_cons_zero, List.getElem_cons_succ, List.setIfInBounds_toArray, List.set_cons_zero, List.set_cons_succ]
                      refine wpAnyH_take (i := 15) (v := ?vaf1234515) rfl (by kernel_rfl) (by kernel_rfl) (by kernel_rfl) (fun _ _ _ h => h) (Or.inl ⟨by rfl, ?hyf1234515⟩) (by assumption) ?raf1234515
                      case hyf1234515 => (intro wq hSw; (try dsimp only at hSw); obtain ⟨e0, e1, e2, e3, e4, e5, e6, e7, e8, e9, e10, e11⟩ := hSw; go_simp <;> with_reducible rfl)
                      try simp only [Act.put, List.getElem_toArray, List.getElem_cons_zero, List.getElem_cons_succ, List.setIfInBounds_toArray, List.set_cons_zero, List.set_cons_succ]
                      refine wpAnyH_done (by kernel_rfl) ?_ _
                      clear hHeld
                      go_wp2_with fail
                      go_meet
                      case rel => exact ⟨gA, a, rfl, rfl, setRow_heap _ _ _ _ _ _ XA.out, HQ.out.row (show Bx _ 25 _ _ from XA.out) (by decide) (by decide) _, EA.out, below_row _ B5W.out L5A.out⟩
                  · go_simp
                    have AL := hide (al v3 (.cells #[.int .i64 0, .int .i64 0, .slice none 0 0, .slice none 0 0, .int .i64 0] 25))
                    have LA : Hid (w1.heap.size ≤ v3.heap.size) := BB.out.size
                    have L5A : Hid (w5.heap.size ≤ v3.heap.size) := B5W.out.size
                    replace SX := hide (SX.out.keep AL.out)
                    replace SY := hide (SY.out.keep AL.out)
                    replace SK := hide (SK.out.keep AL.out)
                    replace B5W := hide (bt B5W.out AL.out)
                    replace BB := hide (bt BB.out AL.out)
                    have XA := hide (heap_alloc_new v3 (.cells #[.int .i64 0, .int .i64 0, .slice none 0 0, .slice none 0 0, .int .i64 0] 25))
                    refine hK.out _ _ (SS.out _ BB.out) (fun hHeld => ?_)
                    clear hK K AL
                    try simp only [Act.put, List.getElem_toArray, List.getElem_cons_zero, List.getElem_cons_succ, List.setIfInBounds_toArray, List.set_cons_zero, List.set_cons_succ]
                    generalize (v3.alloc (.cells #[.int .i64 0, .int .i64 0, .slice none 0 0, .slice none 0 0, .int .i64 0] 25)) = v6 at *
                    generalize v3.heap.size = gA at *
                    refine wpAnyH_ready (rs := [9]) (by kernel_rfl) (by simp) ?_
                    refine (AllReadyH.cons rfl (fun K hK => ?_) AllReadyH.nil)
                    · go_simp
                      refine (JN.out _ x y aK cK BB.out SX.out SY.out SK.out EX.out EY.out).mono ?_
                      rintro _ v7 ⟨a, rfl, hH, ha, hb⟩
                      have HQ := hide (hH.pre BB.out.size)
                      have EA := hide ha
                      clear SX SY SK
                      replace XA := hide (blk_keep XA.out hb)
                      replace B5W := hide (bt B5W.out hb)
                      replace BB := hide (bt BB.out hb)
                      clear hH ha hb
                      go_wp2_with fail
                      refine hK.out _ _ (SS.out _ BB.out) (fun hHeld => ?_)
                      clear hK K
                      try simp only [Act.put, List.getElem_toArray, List.getElem_cons_zero, List.getElem_cons_succ, List.setIfInBounds_toArray, List.set_cons_zero, List.set_cons_succ]
                      refine wpAnyH_take (i := 10) (v := ?vaf12367x10) rfl (by kernel_rfl) (by kernel_rfl) (by kernel_rfl) (fun _ _ _ h => h) (Or.inl ⟨by rfl, ?hyf12367x10⟩) (by assumption) ?raf12367x10
                      case hyf12367x10 => (intro wq hSw; (try dsimp only at hSw); obtain ⟨e0, e1, e2, e3, e4, e5, e6, e7, e8, e9, e10, e11⟩ := hSw; go_simp <;> with_reducible rfl)
                      try simp only [Act.put, List.getElem_toArray, List.getElem_cons_zero, List.getElem_cons_succ, List.setIfInBounds_toArray, List.set_cons_zero, List.set_cons_succ]
                      refine wpAnyH_take (i := 11) (v := ?vaf12367x11) rfl (by kernel_rfl) (by kernel_rfl) (by kernel_rfl) (fun _ _ _ h => h) (Or.inl ⟨by rfl, ?hyf12367x11⟩) (by assumption) ?raf12367x11
                      case hyf12367x11 => (intro wq hSw; (try dsimp only at hSw); obtain ⟨e0, e1, e2, e3, e4, e5, e6, e7, e8, e9, e10, e11⟩ := hSw; go_simp <;> with_reducible rfl)
                      try simp only [Act.put, List.getElem_toArray, List.getElem_cons_zero, List.getElem_cons_succ, List.setIfInBounds_toArray, List.set_cons_zero, List.set_cons_succ]
                      refine wpAnyH_take (i := 12) (v := ?vaf12367x12) rfl (by kernel_rfl) (by kernel_rfl) (by kernel_rfl) (fun _ _ _ h => h) (Or.inl ⟨by rfl, ?hyf12367x12⟩) (by assumption) ?raf12367x12
                      case hyf12367x12 => (intro wq hSw; (try dsimp only at hSw); obtain ⟨e0, e1, e2, e3, e4, e5, e6, e7, e8, e9, e10, e11⟩ := hSw; go_simp <;> with_reducible rfl)
                      try simp only [Act.put, List.getElem_toArray, List.getElem_cons_zero, List.getElem_cons_succ, List.setIfInBounds_toArray, List.set_cons_zero, List.set_cons_succ]
                      have hAne : w.heap.size ≠ gA := by have := LA.out; omega
                      refine wpAnyH_ready (rs := [14]) (by kernel_rfl) (by simp) ?_
                      refine AllReadyH.cons rfl (fun K hK => ?_) AllReadyH.nil
                      rw [if_pos (by rfl)]
                      refine wp_store_row 25 _ _ rfl gA _ rfl rfl 25 _ XA.out sizePage rfl (by simp [Value.oneCell']) ?_
                      refine hK.out _ _ (cells12b (row_far _ (BX.out _ BB.out) hAne)) (fun hHeld => ?_)
                      clear hK K
                      try simp only [Act.put, List.getElem_toArray, List.getElem_cons_zero, List.getElem_cons_succ, List.setIfInBounds_toArray, List.set_cons_zero, List.set_cons_succ]
                      refine wpAnyH_take (i := 15) (v := ?vaf1236715) rfl (by kernel_rfl) (by kernel_rfl) (by kernel_rfl) (fun _ _ _ h => h) (Or.inl ⟨by rfl, ?hyf1236715⟩) (by assumption) ?raf1236715
                      case hyf1236715 => (intro wq hSw; (try dsimp only at hSw); obtain ⟨e0, e1, e2, e3, e4, e5, e6, e7, e8, e9, e10, e11⟩ := hSw; go_simp <;> with_reducible rfl)
                      try simp only [Act.put, List.getElem_toArray, List.getElem_cons_zero, List.getElem_cons_succ, List.setIfInBounds_toArray, List.set_cons_zero, List.set_cons_succ]
                      refine wpAnyH_done (by kernel_rfl) ?_ _
                      clear hHeld
                      go_wp2_with fail
                      go_meet
                      case rel => exact ⟨gA, a, rfl, rfl, setRow_heap _ _ _ _ _ _ XA.out, HQ.out.row (show Bx _ 25 _ _ from XA.out) (by decide) (by decide) _, EA.out, below_row _ B5W.out L5A.out⟩
                · go_simp
                  have AL := hide (al v2 (.cells #[.int .i64 0, .int .i64 0, .slice none 0 0, .slice none 0 0, .int .i64 0] 25))
                  have LA : Hid (w1.heap.size ≤ v2.heap.size) := BB.out.size
                  have L5A : Hid (w5.heap.size ≤ v2.heap.size) := B5W.out.size
                  replace SX := hide (SX.out.keep AL.out)
                  replace SY := hide (SY.out.keep AL.out)
                  replace B5W := hide (bt B5W.out AL.out)
                  replace BB := hide (bt BB.out AL.out)
                  have XA := hide (heap_alloc_new v2 (.cells #[.int .i64 0, .int .i64 0, .slice none 0 0, .slice none 0 0, .int .i64 0] 25))
                  refine hK.out _ _ (SS.out _ BB.out) (fun hHeld => ?_)
                  clear hK K AL
                  try simp only [Act.put, List.getElem_toArray, List.getElem_cons_zero, List.getElem_cons_succ, List.setIfInBounds_toArray, List.set_cons_zero, List.set_cons_succ]
                  generalize (v2.alloc (.cells #[.int .i64 0, .int .i64 0, .slice none 0 0, .slice none 0 0, .int .i64 0] 25)) = v8 at *
                  generalize v2.heap.size = gA at *
                  refine wpAnyH_ready (rs := [8]) (by kernel_rfl) (by simp) ?_
                  refine (AllReadyH.cons rfl (fun K hK => ?_) AllReadyH.nil)
                  · go_simp
                    refine (SP3.out _ BB.out).mono ?_
                    rintro _ v9 ⟨aK, cK, rfl, hO⟩
                    have hb := hO.b
                    have SK := hide hO.r
                    replace SX := hide (SX.out.keep hb)
                    replace SY := hide (SY.out.keep hb)
                    replace XA := hide (blk_keep XA.out hb)
                    replace B5W := hide (bt B5W.out hb)
                    replace BB := hide (bt BB.out hb)
                    clear hO hb
                    go_wp2_with fail
                    refine hK.out _ _ (SS.out _ BB.out) (fun hHeld => ?_)
                    clear hK K
                    try simp only [Act.put, List.getElem_toArray, List.getElem_cons_zero, List.getElem_cons_succ, List.setIfInBounds_toArray, List.set_cons_zero, List.set_cons_succ]
                    refine wpAnyH_ready (rs := [9]) (by kernel_rfl) (by simp) ?_
                    refine (AllReadyH.cons rfl (fun K hK => ?_) AllReadyH.nil)
                    · go_simp
                      refine (JN.out _ x y aK cK BB.out SX.out SY.out SK.out EX.out EY.out).mono ?_
                      rintro _ v10 ⟨a, rfl, hH, ha, hb⟩
                      have HQ := hide (hH.pre BB.out.size)
                      have EA := hide ha
                      clear SX SY SK
                      replace XA := hide (blk_keep XA.out hb)
                      replace B5W := hide (bt B5W.out hb)
                      replace BB := hide (bt BB.out hb)
                      clear hH ha hb
                      go_wp2_with fail
                      refine hK.out _ _ (SS.out _ BB.out) (fun hHeld => ?_)
                      clear hK K
                      try simp only [Act.put, List.getElem_toArray, List.getElem_cons_zero, List.getElem_cons_succ, List.setIfInBounds_toArray, List.set_cons_zero, List.set_cons_succ]
                      refine wpAnyH_take (i := 10) (v := ?vaf128910x10) rfl (by kernel_rfl) (by kernel_rfl) (by kernel_rfl) (fun _ _ _ h => h) (Or.inl ⟨by rfl, ?hyf128910x10⟩) (by assumption) ?raf128910x10
                      case hyf128910x10 => (intro wq hSw; (try dsimp only at hSw); obtain ⟨e0, e1, e2, e3, e4, e5, e6, e7, e8, e9, e10, e11⟩ := hSw; go_simp <;> with_reducible rfl)
                      try simp only [Act.put, List.getElem_toArray, List.getElem_cons_zero, List.getElem_cons_succ, List.setIfInBounds_toArray, List.set_cons_zero, List.set_cons_succ]
                      refine wpAnyH_take (i := 11) (v := ?vaf128910x11) rfl (by kernel_rfl) (by kernel_rfl) (by kernel_rfl) (fun _ _ _ h => h) (Or.inl ⟨by rfl, ?hyf128910x11⟩) (by assumption) ?raf128910x11
                      case hyf128910x11 => (intro wq hSw; (try dsimp only at hSw); obtain ⟨e0, e1, e2, e3, e4, e5, e6, e7, e8, e9, e10, e11⟩ := hSw; go_simp <;> with_reducible rfl)
                      try simp only [Act.put, List.getElem_toArray, List.getElem_cons_zero, List.getElem_cons_succ, List.setIfInBounds_toArray, List.set_cons_zero, List.set_cons_succ]
                      refine wpAnyH_take (i := 12) (v := ?vaf128910x12) rfl (by kernel_rfl) (by kernel_rfl) (by kernel_rfl) (fun _ _ _ h => h) (Or.inl ⟨by rfl, ?hyf128910x12⟩) (by assumption) ?raf128910x12
                      case hyf128910x12 => (intro wq hSw; (try dsimp only at hSw); obtain ⟨e0, e1, e2, e3, e4, e5, e6, e7, e8, e9, e10, e11⟩ := hSw; go_simp <;> with_reducible rfl)
                      try simp only [Act.put, List.getElem_toArray, List.getElem_cons_zero, List.getElem_cons_succ, List.setIfInBounds_toArray, List.set_cons_zero, List.set_cons_succ]
                      have hAne : w.heap.size ≠ gA := by have := LA.out; omega
                      refine wpAnyH_ready (rs := [14]) (by kernel_rfl) (by simp) ?_
                      refine AllReadyH.cons rfl (fun K hK => ?_) AllReadyH.nil
                      rw [if_pos (by rfl)]
                      refine wp_store_row 25 _ _ rfl gA _ rfl rfl 25 _ XA.out sizePage rfl (by simp [Value.oneCell']) ?_
                      refine hK.out _ _ (cells12b (row_far _ (BX.out _ BB.out) hAne)) (fun hHeld => ?_)
                      clear hK K
                      try simp only [Act.put, List.getElem_toArray, List.getElem_cons_zero, List.getElem_cons_succ, List.setIfInBounds_toArray, List.set_cons_zero, List.set_cons_succ]
                      refine wpAnyH_take (i := 15) (v := ?vaf12891015) rfl (by kernel_rfl) (by kernel_rfl) (by kernel_rfl) (fun _ _ _ h => h) (Or.inl ⟨by rfl, ?hyf12891015⟩) (by assumption) ?raf12891015
                      case hyf12891015 => (intro wq hSw; (try dsimp only at hSw); obtain ⟨e0, e1, e2, e3, e4, e5, e6, e7, e8, e9, e10, e11⟩ := hSw; go_simp <;> with_reducible rfl)
                      try simp only [Act.put, List.getElem_toArray, List.getElem_cons_zero, List.getElem_cons_succ, List.setIfInBounds_toArray, List.set_cons_zero, List.set_cons_succ]
                      refine wpAnyH_done (by kernel_rfl) ?_ _
                      clear hHeld
                      go_wp2_with fail
                      go_meet
                      case rel => exact ⟨gA, a, rfl, rfl, setRow_heap _ _ _ _ _ _ XA.out, HQ.out.row (show Bx _ 25 _ _ from XA.out) (by decide) (by decide) _, EA.out, below_row _ B5W.out L5A.out⟩
              · go_simp
                have AL := hide (al v1 (.cells #[.int .i64 0, .int .i64 0, .slice none 0 0, .slice none 0 0, .int .i64 0] 25))
                have LA : Hid (w1.heap.size ≤ v1.heap.size) := BB.out.size
                have L5A : Hid (w5.heap.size ≤ v1.heap.size) := B5W.out.size
                replace SX := hide (SX.out.keep AL.out)
                replace B5W := hide (bt B5W.out AL.out)
                replace BB := hide (bt BB.out AL.out)
                have XA := hide (heap_alloc_new v1 (.cells #[.int .i64 0, .int .i64 0, .slice none 0 0, .slice none 0 0, .int .i64 0] 25))
                refine hK.out _ _ (SS.out _ BB.out) (fun hHeld => ?_)
                clear hK K AL
                try simp only [Act.put, List.getElem_toArray, List.getElem_cons_zero, List.getElem_cons_succ, List.setIfInBounds_toArray, List.set_cons_zero, List.set_cons_succ]
                generalize (v1.alloc (.cells #[.int .i64 0, .int .i64 0, .slice none 0 0, .slice none 0 0, .int .i64 0] 25)) = v11 at *
                generalize v1.heap.size = gA at *
                refine wpAnyH_ready (rs := [5]) (by kernel_rfl) (by simp) ?_
                refine (AllReadyH.cons rfl (fun K hK => ?_) AllReadyH.nil)
                · go_simp
                  refine (SP2.out _ BB.out).mono ?_
                  rintro _ v12 ⟨y, rfl, hS, -, hE, hb⟩
                  have SY := hide hS
                  have EY := hide hE
                  replace SX := hide (SX.out.keep hb)
                  replace XA := hide (blk_keep XA.out hb)
                  replace B5W := hide (bt B5W.out hb)
                  replace BB := hide (bt BB.out hb)
                  clear hS hE hb
                  go_wp2_with fail
                  refine hK.out _ _ (SS.out _ BB.out) (fun hHeld => ?_)
                  clear hK K
                  try simp only [Act.put, List.getElem_toArray, List.getElem_cons_zero, List.getElem_cons_succ, List.setIfInBounds_toArray, List.set_cons_zero, List.set_cons_succ]
                  refine wpAnyH_ready (rs := [8]) (by kernel_rfl) (by simp) ?_
                  refine (AllReadyH.cons rfl (fun K hK => ?_) AllReadyH.nil)
                  · go_simp
                    refine (SP3.out _ BB.out).mono ?_
                    rintro _ v13 ⟨aK, cK, rfl, hO⟩
                    have hb := hO.b
                    have SK := hide hO.r
                    replace SX := hide (SX.out.keep hb)
                    replace SY := hide (SY.out.keep hb)
                    replace XA := hide (blk_keep XA.out hb)
                    replace B5W := hide (bt B5W.out hb)
                    replace BB := hide (bt BB.out hb)
                    clear hO hb
                    go_wp2_with fail
                    refine hK.out _ _ (SS.out _ BB.out) (fun hHeld => ?_)
                    clear hK K
                    try simp only [Act.put, List.getElem_toArray, List.getElem_cons_zero, List.getElem_cons_succ, List.setIfInBounds_toArray, List.set_cons_zero, List.set_cons_succ]
                    refine wpAnyH_ready (rs := [9]) (by kernel_rfl) (by simp) ?_
                    refine (AllReadyH.cons rfl (fun K hK => ?_) AllReadyH.nil)
                    · go_simp
                      refine (JN.out _ x y aK cK BB.out SX.out SY.out SK.out EX.out EY.out).mono ?_
                      rintro _ v14 ⟨a, rfl, hH, ha, hb⟩
                      have HQ := hide (hH.pre BB.out.size)
                      have EA := hide ha
                      clear SX SY SK
                      replace XA := hide (blk_keep XA.out hb)
                      replace B5W := hide (bt B5W.out hb)
                      replace BB := hide (bt BB.out hb)
                      clear hH ha hb
                      go_wp2_with fail
                      refine hK.out _ _ (SS.out _ BB.out) (fun hHeld => ?_)
                      clear hK K
                      try simp only [Act.put, List.getElem_toArray, List.getElem_cons_zero, List.getElem_cons_succ, List.setIfInBounds_toArray, List.set_cons_zero, List.set_cons_succ]
                      refine wpAnyH_take (i := 10) (v := ?vaf111121314x10) rfl (by kernel_rfl) (by kernel_rfl) (by kernel_rfl) (fun _ _ _ h => h) (Or.inl ⟨by rfl, ?hyf111121314x10⟩) (by assumption) ?raf111121314x10
                      case hyf111121314x10 => (intro wq hSw; (try dsimp only at hSw); obtain ⟨e0, e1, e2, e3, e4, e5, e6, e7, e8, e9, e10, e11⟩ := hSw; go_simp <;> with_reducible rfl)
                      try simp only [Act.put, List.getElem_toArray, List.getElem_cons_zero, List.getElem_cons_succ, List.setIfInBounds_toArray, List.set_cons_zero, List.set_cons_succ]
                      refine wpAnyH_take (i := 11) (v := ?vaf111121314x11) rfl (by kernel_rfl) (by kernel_rfl) (by kernel_rfl) (fun _ _ _ h => h) (Or.inl ⟨by rfl, ?hyf111121314x11⟩) (by assumption) ?raf111121314x11
                      case hyf111121314x11 => (intro wq hSw; (try dsimp only at hSw); obtain ⟨e0, e1, e2, e3, e4, e5, e6, e7, e8, e9, e10, e11⟩ := hSw; go_simp <;> with_reducible rfl)
                      try simp only [Act.put, List.getElem_toArray, List.getElem_cons_zero, List.getElem_cons_succ, List.setIfInBounds_toArray, List.set_cons_zero, List.set_cons_succ]
                      refine wpAnyH_take (i := 12) (v := ?vaf111121314x12) rfl (by kernel_rfl) (by kernel_rfl) (by kernel_rfl) (fun _ _ _ h => h) (Or.inl ⟨by rfl, ?hyf111121314x12⟩) (by assumption) ?raf111121314x12
                      case hyf111121314x12 => (intro wq hSw; (try dsimp only at hSw); obtain ⟨e0, e1, e2, e3, e4, e5, e6, e7, e8, e9, e10, e11⟩ := hSw; go_simp <;> with_reducible rfl)
                      try simp only [Act.put, List.getElem_toArray, List.getElem_cons_zero, List.getElem_cons_succ, List.setIfInBounds_toArray, List.set_cons_zero, List.set_cons_succ]
                      have hAne : w.heap.size ≠ gA := by have := LA.out; omega
                      refine wpAnyH_ready (rs := [14]) (by kernel_rfl) (by simp) ?_
                      refine AllReadyH.cons rfl (fun K hK => ?_) AllReadyH.nil
                      rw [if_pos (by rfl)]
                      refine wp_store_row 25 _ _ rfl gA _ rfl rfl 25 _ XA.out sizePage rfl (by simp [Value.oneCell']) ?_
                      refine hK.out _ _ (cells12b (row_far _ (BX.out _ BB.out) hAne)) (fun hHeld => ?_)
                      clear hK K
                      try simp only [Act.put, List.getElem_toArray, List.getElem_cons_zero, List.getElem_cons_succ, List.setIfInBounds_toArray, List.set_cons_zero, List.set_cons_succ]
                      refine wpAnyH_take (i := 15) (v := ?vaf11112131415) rfl (by kernel_rfl) (by kernel_rfl) (by kernel_rfl) (fun _ _ _ h => h) (Or.inl ⟨by rfl, ?hyf11112131415⟩) (by assumption) ?raf11112131415
                      case hyf11112131415 => (intro wq hSw; (try dsimp only at hSw); obtain ⟨e0, e1, e2, e3, e4, e5, e6, e7, e8, e9, e10, e11⟩ := hSw; go_simp <;> with_reducible rfl)
                      try simp only [Act.put, List.getElem_toArray, List.getElem_cons_zero, List.getElem_cons_succ, List.setIfInBounds_toArray, List.set_cons_zero, List.set_cons_succ]
                      refine wpAnyH_done (by kernel_rfl) ?_ _
                      clear hHeld
                      go_wp2_with fail
                      go_meet
                      case rel => exact ⟨gA, a, rfl, rfl, setRow_heap _ _ _ _ _ _ XA.out, HQ.out.row (show Bx _ 25 _ _ from XA.out) (by decide) (by decide) _, EA.out, below_row _ B5W.out L5A.out⟩
            · go_simp
              have AL := hide (al v0 (.cells #[.int .i64 0, .int .i64 0, .slice none 0 0, .slice none 0 0, .int .i64 0] 25))
              have LA : Hid (w1.heap.size ≤ v0.heap.size) := BB.out.size
              have L5A : Hid (w5.heap.size ≤ v0.heap.size) := B5W.out.size
              replace B5W := hide (bt B5W.out AL.out)
              replace BB := hide (bt BB.out AL.out)
              have XA := hide (heap_alloc_new v0 (.cells #[.int .i64 0, .int .i64 0, .slice none 0 0, .slice none 0 0, .int .i64 0] 25))
              refine hK.out _ _ (SS.out _ BB.out) (fun hHeld => ?_)
              clear hK K AL
              try simp only [Act.put, List.getElem_toArray, List.getElem_cons_zero, List.getElem_cons_succ, List.setIfInBounds_toArray, List.set_cons_zero, List.set_cons_succ]
              generalize (v0.alloc (.cells #[.int .i64 0, .int .i64 0, .slice none 0 0, .slice none 0 0, .int .i64 0] 25)) = v15 at *
              generalize v0.heap.size = gA at *
              refine wpAnyH_ready (rs := [2]) (by kernel_rfl) (by simp) ?_
              refine (AllReadyH.cons rfl (fun K hK => ?_) AllReadyH.nil)
              · go_simp
                refine (SP1.out _ BB.out).mono ?_
                rintro _ v16 ⟨x, rfl, hS, -, hE, hb⟩
                have SX := hide hS
                have EX := hide hE
                replace XA := hide (blk_keep XA.out hb)
                replace B5W := hide (bt B5W.out hb)
                replace BB := hide (bt BB.out hb)
                clear hS hE hb
                go_wp2_with fail
                refine hK.out _ _ (SS.out _ BB.out) (fun hHeld => ?_)
                clear hK K
                try simp only [Act.put, List.getElem_toArray, List.getElem_cons_zero, List.getElem_cons_succ, List.setIfInBounds_toArray, List.set_cons_zero, List.set_cons_succ]
                refine wpAnyH_ready (rs := [5]) (by kernel_rfl) (by simp) ?_
                refine (AllReadyH.cons rfl (fun K hK => ?_) AllReadyH.nil)
                · go_simp
                  refine (SP2.out _ BB.out).mono ?_
                  rintro _ v17 ⟨y, rfl, hS, -, hE, hb⟩
                  have SY := hide hS
                  have EY := hide hE
                  replace SX := hide (SX.out.keep hb)
                  replace XA := hide (blk_keep XA.out hb)
                  replace B5W := hide (bt B5W.out hb)
                  replace BB := hide (bt BB.out hb)
                  clear hS hE hb
                  go_wp2_with fail
                  refine hK.out _ _ (SS.out _ BB.out) (fun hHeld => ?_)
                  clear hK K
                  try simp only [Act.put, List.getElem_toArray, List.getElem_cons_zero, List.getElem_cons_succ, List.setIfInBounds_toArray, List.set_cons_zero, List.set_cons_succ]
                  refine wpAnyH_ready (rs := [8]) (by kernel_rfl) (by simp) ?_
                  refine (AllReadyH.cons rfl (fun K hK => ?_) AllReadyH.nil)
                  · go_simp
                    refine (SP3.out _ BB.out).mono ?_
                    rintro _ v18 ⟨aK, cK, rfl, hO⟩
                    have hb := hO.b
                    have SK := hide hO.r
                    replace SX := hide (SX.out.keep hb)
                    replace SY := hide (SY.out.keep hb)
                    replace XA := hide (blk_keep XA.out hb)
                    replace B5W := hide (bt B5W.out hb)
                    replace BB := hide (bt BB.out hb)
                    clear hO hb
                    go_wp2_with fail
                    refine hK.out _ _ (SS.out _ BB.out) (fun hHeld => ?_)
                    clear hK K
                    try simp only [Act.put, List.getElem_toArray, List.getElem_cons_zero, List.getElem_cons_succ, List.setIfInBounds_toArray, List.set_cons_zero, List.set_cons_succ]
                    refine wpAnyH_ready (rs := [9]) (by kernel_rfl) (by simp) ?_
                    refine (AllReadyH.cons rfl (fun K hK => ?_) AllReadyH.nil)
                    · go_simp
                      refine (JN.out _ x y aK cK BB.out SX.out SY.out SK.out EX.out EY.out).mono ?_
                      rintro _ v19 ⟨a, rfl, hH, ha, hb⟩
                      have HQ := hide (hH.pre BB.out.size)
                      have EA := hide ha
                      clear SX SY SK
                      replace XA := hide (blk_keep XA.out hb)
                      replace B5W := hide (bt B5W.out hb)
                      replace BB := hide (bt BB.out hb)
                      clear hH ha hb
                      go_wp2_with fail
                      refine hK.out _ _ (SS.out _ BB.out) (fun hHeld => ?_)
                      clear hK K
                      try simp only [Act.put, List.getElem_toArray, List.getElem_cons_zero, List.getElem_cons_succ, List.setIfInBounds_toArray, List.set_cons_zero, List.set_cons_succ]
                      refine wpAnyH_take (i := 10) (v := ?vaf1516171819x10) rfl (by kernel_rfl) (by kernel_rfl) (by kernel_rfl) (fun _ _ _ h => h) (Or.inl ⟨by rfl, ?hyf1516171819x10⟩) (by assumption) ?raf1516171819x10
                      case hyf1516171819x10 => (intro wq hSw; (try dsimp only at hSw); obtain ⟨e0, e1, e2, e3, e4, e5, e6, e7, e8, e9, e10, e11⟩ := hSw; go_simp <;> with_reducible rfl)
                      try simp only [Act.put, List.getElem_toArray, List.getElem_cons_zero, List.getElem_cons_succ, List.setIfInBounds_toArray, List.set_cons_zero, List.set_cons_succ]
                      refine wpAnyH_take (i := 11) (v := ?vaf1516171819x11) rfl (by kernel_rfl) (by kernel_rfl) (by kernel_rfl) (fun _ _ _ h => h) (Or.inl ⟨by rfl, ?hyf1516171819x11⟩) (by assumption) ?raf1516171819x11
                      case hyf1516171819x11 => (intro wq hSw; (try dsimp only at hSw); obtain ⟨e0, e1, e2, e3, e4, e5, e6, e7, e8, e9, e10, e11⟩ := hSw; go_simp <;> with_reducible rfl)
                      try simp only [Act.put, List.getElem_toArray, List.getElem_cons_zero, List.getElem_cons_succ, List.setIfInBounds_toArray, List.set_cons_zero, List.set_cons_succ]
                      refine wpAnyH_take (i := 12) (v := ?vaf1516171819x12) rfl (by kernel_rfl) (by kernel_rfl) (by kernel_rfl) (fun _ _ _ h => h) (Or.inl ⟨by rfl, ?hyf1516171819x12⟩) (by assumption) ?raf1516171819x12
                      case hyf1516171819x12 => (intro wq hSw; (try dsimp only at hSw); obtain ⟨e0, e1, e2, e3, e4, e5, e6, e7, e8, e9, e10, e11⟩ := hSw; go_simp <;> with_reducible rfl)
                      try simp only [Act.put, List.getElem_toArray, List.getElem_cons_zero, List.getElem_cons_succ, List.setIfInBounds_toArray, List.set_cons_zero, List.set_cons_succ]
                      have hAne : w.heap.size ≠ gA := by have := LA.out; omega
                      refine wpAnyH_ready (rs := [14]) (by kernel_rfl) (by simp) ?_
                      refine AllReadyH.cons rfl (fun K hK => ?_) AllReadyH.nil
                      rw [if_pos (by rfl)]
                      refine wp_store_row 25 _ _ rfl gA _ rfl rfl 25 _ XA.out sizePage rfl (by simp [Value.oneCell']) ?_
                      refine hK.out _ _ (cells12b (row_far _ (BX.out _ BB.out) hAne)) (fun hHeld => ?_)
                      clear hK K
                      try simp only [Act.put, List.getElem_toArray, List.getElem_cons_zero, List.getElem_cons_succ, List.setIfInBounds_toArray, List.set_cons_zero, List.set_cons_succ]
                      refine wpAnyH_take (i := 15) (v := ?vaf151617181915) rfl (by kernel_rfl) (by kernel_rfl) (by kernel_rfl) (fun _ _ _ h => h) (Or.inl ⟨by rfl, ?hyf151617181915⟩) (by assumption) ?raf151617181915
                      case hyf151617181915 => (intro wq hSw; (try dsimp only at hSw); obtain ⟨e0, e1, e2, e3, e4, e5, e6, e7, e8, e9, e10, e11⟩ := hSw; go_simp <;> with_reducible rfl)
                      try simp only [Act.put, List.getElem_toArray, List.getElem_cons_zero, List.getElem_cons_succ, List.setIfInBounds_toArray, List.set_cons_zero, List.set_cons_succ]
                      refine wpAnyH_done (by kernel_rfl) ?_ _
                      clear hHeld
                      go_wp2_with fail
                      go_meet
                      case rel => exact ⟨gA, a, rfl, rfl, setRow_heap _ _ _ _ _ _ XA.out, HQ.out.row (show Bx _ 25 _ _ from XA.out) (by decide) (by decide) _, EA.out, below_row _ B5W.out L5A.out⟩
          case rest =>
            obtain ⟨gJ, j, rfl, rfl, hx, hn, he, hb⟩ := hcut
            have XJ := hide hx
            have PJ := hide hn
            have EJ := hide he
            have B6 := hide hb
            clear hx hn he hb D1 JN D5
            generalize wc = wJ at *
            obtain ⟨e0, e1, e2, e3, e4, e5, e6, e7, e8, e9, ea, eb⟩ := SS.out _ (bt B3.out B6.out)
            have h8d : YB = decide (l.items.length + r.items.length ≤ 8) := WJ.out.2.1
            go_upto_region 9 with fail
            go_cut [80] from 69 to 80 (fun v wx => v = .bool false ∧ wx = wJ)
            case first =>
              clear SP1 SP2 SP3 LN WL XIW IXW
              by_cases h8 : l.items.length + r.items.length ≤ 8
              · obtain rfl : YB = true := by rw [h8d]; simp [h8]
                have d8 : decide ((l.items.length : Int) + (r.items.length : Int) ≤ 8) = true := decide_eq_true (by omega)
                clear h8d
                go_wp2_with fail
                go_meet
                case rel => exact ⟨rfl, rfl⟩
              · obtain rfl : YB = false := by rw [h8d]; simp [h8]
                have d8 : decide ((l.items.length : Int) + (r.items.length : Int) ≤ 8) = false := decide_eq_false (by omega)
                clear h8d
                go_wp2_with fail
                go_meet
                case rel => exact ⟨rfl, rfl⟩
            case rest =>
              obtain ⟨rfl, hwc⟩ := hcut
              rw [hwc]
              clear hwc e0 e1 e2 e3 e4 e5 e6 e7 e8 e9 ea eb
              go_upto_if 81 with fail
              go_cut [9, 10] from 81 to 99 (fun v9 v10 wx => Below w5.heap.size w5 wx)
              case first =>
                as_aux_lemma =>
                clear SP1 SP2 SP3 LN WL
                by_cases h8 : l.items.length + r.items.length ≤ 8
                · obtain rfl : YB = true := by rw [h8d]; simp [h8]
                  obtain ⟨y1, y2, y3, y4⟩ := WJ.out.2.2 h8
                  have Y1 := hide y1
                  have Y2 := hide y2
                  have LJ : Hid (1 ≤ j.items.length ∧ j.items.length ≤ 8) := by show _ ∧ _; rw [pg_len EJ.out]; exact ⟨y3, y4⟩
                  have PI := hide fun (W : World) (hb : Below wJ.heap.size wJ W) => (PJ.out.keep hb).pi (Nat.le_trans LJ.out.2 (by decide))
                  have CK := hide (iCheck_any wJ j (PI.out wJ (Below.refl _ _)))
                  rw [EJ.out, Y1.out] at CK
                  have LD := hide fun (W : World) (hb : Below wJ.heap.size wJ W) => lead_any W j ak ck key (PI.out W hb) (BK.out.keep (bt B3.out (bt B6.out hb))) LJ.out.1 (Nat.le_trans LJ.out.2 (by decide))
                  rw [EJ.out, Y2.out] at LD
                  unfold Pv.vl at CK LD
                  simp only [Pv.cs] at CK LD
                  clear h8d y1 y2 y3 y4
                  obtain ⟨p0, p1, p2, p3, p4⟩ := cells5 XJ.out
                  go_wp2_with fail
                  refine CK.out.mono ?_
                  rintro _ w6 ⟨rfl, hb⟩
                  have C6 := hide hb
                  clear hb p0 p1 p2 p3 p4
                  obtain ⟨p0, p1, p2, p3, p4⟩ := cells5 (blk_keep XJ.out C6.out)
                  go_wp2_with fail
                  refine (LD.out _ C6.out).mono ?_
                  rintro _ w7 ⟨y, rfl, hy, ey, hb⟩
                  have A7 := hide (al w7 (.cells #[.slice y.aK y.key.length y.cK, .slice y.aV y.val.length y.cV, .int .i64 y.child, .int .i64 y.size] 40))
                  have XY := hide (heap_alloc_new w7 (.cells #[.slice y.aK y.key.length y.cK, .slice y.aV y.val.length y.cV, .int .i64 y.child, .int .i64 y.size] 40))
                  have IY := hide (hy.keep A7.out)
                  have EY := hide ey
                  have C7 := hide (bt B6.out (bt C6.out (bt hb A7.out)))
                  clear hy ey hb p0 p1 p2 p3 p4
                  unfold Iv.vl
                  simp only [Iv.cs]
                  go_upto_region 15 with fail
                  generalize (w7.alloc (.cells #[.slice y.aK y.key.length y.cK, .slice y.aV y.val.length y.cV, .int .i64 y.child, .int .i64 y.size] 40)) = w8 at *
                  generalize w7.heap.size = gY at *
                  have EQ := hide (EqItem_same w8 x y (IXW.out _ C7.out) IY.out (by rw [EX.out, EY.out]))
                  unfold Iv.vl at EQ
                  simp only [Iv.cs] at EQ
                  obtain ⟨x0, x1, x2, x3⟩ := cells4 (XIW.out _ C7.out)
                  obtain ⟨z0, z1, z2, z3⟩ := cells4 XY.out
                  have hne : (F.2 != F.2) = false := by simp
                  go_wp2_with fail
                  refine EQ.out.mono ?_
                  rintro _ w9 ⟨rfl, hb⟩
                  have C9 := hide (bt C7.out hb)
                  clear hb x0 x1 x2 x3 z0 z1 z2 z3
                  go_wp2_with fail
                  go_meet
                  case rel => exact C9.out
                · obtain rfl : YB = false := by rw [h8d]; simp [h8]
                  clear h8d
                  go_wp2_with fail
                  go_meet
                  case rel => exact B6.out
              case rest =>
                have C0 := hide hcut
                clear hcut XJ PJ EJ B6 h8d
                go_upto_region 17 with fail
                have D1 := hide (bt B3.out (bt C0.out (dr2 _)))
                have DC := hide (dr2 wc)
                generalize wc = w6 at *
                go_cut [11, 12, 13, 14] from 100 to 116 (fun p3 p4 v5 v6 wx => ∃ (gA gB : Nat) (a b : Pv) (aU : Option Addr) (cU : Nat), p3 = .pointer (some ⟨gA, 0, none⟩) ∧ p4 = .pointer (some ⟨gB, 0, none⟩) ∧ v5 = .slice aU Z.s.length cU ∧ v6 = .bool Z.ok ∧ Lr w1 wx Z a b aU cU gA gB ∧ Below w6.heap.size w6 wx)
                case first =>
                  as_aux_lemma =>
                  clear WL WJ XIW IXW EX F2
                  refine wp_region_held_drew (S := fun W => W.cell? ⟨w.heap.size, 0, none⟩ = some (.int .i64 l.kind) ∧ W.cell? ⟨w.heap.size, 1, none⟩ = some (.int .i64 l.level) ∧ W.cell? ⟨w.heap.size, 2, none⟩ = some (.slice l.aI l.items.length l.cI) ∧ W.cell? ⟨w.heap.size, 3, none⟩ = some (.slice l.aD l.data.length l.cD) ∧ W.cell? ⟨w.heap.size, 4, none⟩ = some (.int .i64 l.next) ∧ W.cell? ⟨w.heap.size, 5, none⟩ = some (.int .i64 r.kind) ∧ W.cell? ⟨w.heap.size, 6, none⟩ = some (.int .i64 r.level) ∧ W.cell? ⟨w.heap.size, 7, none⟩ = some (.slice r.aI r.items.length r.cI) ∧ W.cell? ⟨w.heap.size, 8, none⟩ = some (.slice r.aD r.data.length r.cD) ∧ W.cell? ⟨w.heap.size, 9, none⟩ = some (.int .i64 r.next) ∧ W.cell? ⟨w.heap.size, 10, none⟩ = some (.slice aS s.length cS) ∧ W.cell? ⟨w.heap.size, 11, none⟩ = some (.bool t)) (by kernel_rfl) (SS.out _ D1.out) (fun hHeld => ?_)
                  refine wpAnyH_take (i := 0) (v := ?vau0) rfl (by kernel_rfl) (by kernel_rfl) (by kernel_rfl) (fun _ _ _ h => h) (Or.inl ⟨by rfl, ?hyu0⟩) (by assumption) ?rau0
                  case hyu0 => (intro wq hSw; (try dsimp only at hSw); obtain ⟨e0, e1, e2, e3, e4, e5, e6, e7, e8, e9, e10, e11⟩ := hSw; go_simp <;> with_reducible rfl)
                  try simp only [Act.put, List.getElem_toArray, List.getElem_cons_zero, List.setIfInBounds_toArray, List.set_cons_zero, List.set_cons_succ]
                  refine wpAnyH_take (i := 1) (v := ?vau1) rfl (by kernel_rfl) (by kernel_rfl) (by kernel_rfl) (fun _ _ _ h => h) (Or.inl ⟨by rfl, ?hyu1⟩) (by assumption) ?rau1
                  case hyu1 => (intro wq hSw; (try dsimp only at hSw); obtain ⟨e0, e1, e2, e3, e4, e5, e6, e7, e8, e9, e10, e11⟩ := hSw; go_simp <;> with_reducible rfl)
                  try simp only [Act.put, List.getElem_toArray, List.getElem_cons_zero, List.getElem_cons_succ, List.setIfInBounds_toArray, List.set_cons_zero, List.set_cons_succ]
                  refine wpAnyH_take (i := 3) (v := ?vau3) rfl (by kernel_rfl) (by kernel_rfl) (by kernel_rfl) (fun _ _ _ h => h) (Or.inl ⟨by rfl, ?hyu3⟩) (by assumption) ?rau3
                  case hyu3 => (intro wq hSw; (try dsimp only at hSw); obtain ⟨e0, e1, e2, e3, e4, e5, e6, e7, e8, e9, e10, e11⟩ := hSw; go_simp <;> with_reducible rfl)
                  try simp only [Act.put, List.getElem_toArray, List.getElem_cons_zero, List.getElem_cons_succ, List.setIfInBounds_toArray, List.set_cons_zero, List.set_cons_succ]
                  refine wpAnyH_take (i := 4) (v := ?vau4) rfl (by kernel_rfl) (by kernel_rfl) (by kernel_rfl) (fun _ _ _ h => h) (Or.inl ⟨by rfl, ?hyu4⟩) (by assumption) ?rau4
                  case hyu4 => (intro wq hSw; (try dsimp only at hSw); obtain ⟨e0, e1, e2, e3, e4, e5, e6, e7, e8, e9, e10, e11⟩ := hSw; go_simp <;> with_reducible rfl)
                  try simp only [Act.put, List.getElem_toArray, List.getElem_cons_zero, List.getElem_cons_succ, List.setIfInBounds_toArray, List.set_cons_zero, List.set_cons_succ]
                  refine wpAnyH_take (i := 6) (v := ?vau6) rfl (by kernel_rfl) (by kernel_rfl) (by kernel_rfl) (fun _ _ _ h => h) (Or.inl ⟨by rfl, ?hyu6⟩) (by assumption) ?rau6
                  case hyu6 => (intro wq hSw; (try dsimp only at hSw); obtain ⟨e0, e1, e2, e3, e4, e5, e6, e7, e8, e9, e10, e11⟩ := hSw; go_simp <;> with_reducible rfl)
                  try simp only [Act.put, List.getElem_toArray, List.getElem_cons_zero, List.getElem_cons_succ, List.setIfInBounds_toArray, List.set_cons_zero, List.set_cons_succ]
                  refine wpAnyH_take (i := 7) (v := ?vau7) rfl (by kernel_rfl) (by kernel_rfl) (by kernel_rfl) (fun _ _ _ h => h) (Or.inl ⟨by rfl, ?hyu7⟩) (by assumption) ?rau7
                  case hyu7 => (intro wq hSw; (try dsimp only at hSw); obtain ⟨e0, e1, e2, e3, e4, e5, e6, e7, e8, e9, e10, e11⟩ := hSw; go_simp <;> with_reducible rfl)
                  try simp only [Act.put, List.getElem_toArray, List.getElem_cons_zero, List.getElem_cons_succ, List.setIfInBounds_toArray, List.set_cons_zero, List.set_cons_succ]
                  refine wpAnyH_take (i := 9) (v := ?vau9) rfl (by kernel_rfl) (by kernel_rfl) (by kernel_rfl) (fun _ _ _ h => h) (Or.inl ⟨by rfl, ?hyu9⟩) (by assumption) ?rau9
                  case hyu9 => (intro wq hSw; (try dsimp only at hSw); obtain ⟨e0, e1, e2, e3, e4, e5, e6, e7, e8, e9, e10, e11⟩ := hSw; go_simp <;> with_reducible rfl)
                  try simp only [Act.put, List.getElem_toArray, List.getElem_cons_zero, List.getElem_cons_succ, List.setIfInBounds_toArray, List.set_cons_zero, List.set_cons_succ]
                  refine wpAnyH_take (i := 10) (v := ?vau10) rfl (by kernel_rfl) (by kernel_rfl) (by kernel_rfl) (fun _ _ _ h => h) (Or.inl ⟨by rfl, ?hyu10⟩) (by assumption) ?rau10
                  case hyu10 => (intro wq hSw; (try dsimp only at hSw); obtain ⟨e0, e1, e2, e3, e4, e5, e6, e7, e8, e9, e10, e11⟩ := hSw; go_simp <;> with_reducible rfl)
                  try simp only [Act.put, List.getElem_toArray, List.getElem_cons_zero, List.getElem_cons_succ, List.setIfInBounds_toArray, List.set_cons_zero, List.set_cons_succ]
                  have BB := D1
                  have B5W := DC
                  clear D1 DC
                  generalize w6.drew = v0 at *
                  refine wpAnyH_ready (rs := [2, 17, 18]) (by kernel_rfl) (by simp) ?_
                  refine (AllReadyH.cons rfl (fun K hK => ?_) (AllReadyH.cons rfl (fun K hK => ?_) (AllReadyH.cons rfl (fun K hK => ?_) AllReadyH.nil)))
                  · as_aux_lemma =>
                    go_simp
                    refine (SP1.out _ BB.out).mono ?_
                    rintro _ v1 ⟨x, rfl, hS, -, hE, hb⟩
                    have SX := hide hS
                    have EX := hide hE
                    replace B5W := hide (bt B5W.out hb)
                    replace BB := hide (bt BB.out hb)
                    clear hS hE hb
                    go_wp2_with fail
                    refine hK.out _ _ (SS.out _ BB.out) (fun hHeld => ?_)
                    clear hK K
                    try simp only [Act.put, List.getElem_toArray, List.getElem_cons_zero, List.getElem_cons_succ, List.setIfInBounds_toArray, List.set_cons_zero, List.set_cons_succ]
                    refine wpAnyH_ready (rs := [5, 17, 18]) (by kernel_rfl) (by simp) ?_
                    refine (AllReadyH.cons rfl (fun K hK => ?_) (AllReadyH.cons rfl (fun K hK => ?_) (AllReadyH.cons rfl (fun K hK => ?_) AllReadyH.nil)))
                    · go_simp
                      refine (SP2.out _ BB.out).mono ?_
                      rintro _ v2 ⟨y, rfl, hS, -, hE, hb⟩
                      have SY := hide hS
                      have EY := hide hE
                      replace SX := hide (SX.out.keep hb)
                      replace B5W := hide (bt B5W.out hb)
                      replace BB := hide (bt BB.out hb)
                      clear hS hE hb
                      go_wp2_with fail
                      refine hK.out _ _ (SS.out _ BB.out) (fun hHeld => ?_)
                      clear hK K
                      try simp only [Act.put, List.getElem_toArray, List.getElem_cons_zero, List.getElem_cons_succ, List.setIfInBounds_toArray, List.set_cons_zero, List.set_cons_succ]
                      refine wpAnyH_ready (rs := [8, 17, 18]) (by kernel_rfl) (by simp) ?_
                      refine (AllReadyH.cons rfl (fun K hK => ?_) (AllReadyH.cons rfl (fun K hK => ?_) (AllReadyH.cons rfl (fun K hK => ?_) AllReadyH.nil)))
                      · go_simp
                        refine (SP3.out _ BB.out).mono ?_
                        rintro _ v3 ⟨aK, cK, rfl, hO⟩
                        have hb := hO.b
                        have SK := hide hO.r
                        replace SX := hide (SX.out.keep hb)
                        replace SY := hide (SY.out.keep hb)
                        replace B5W := hide (bt B5W.out hb)
                        replace BB := hide (bt BB.out hb)
                        clear hO hb
                        go_wp2_with fail
                        refine hK.out _ _ (SS.out _ BB.out) (fun hHeld => ?_)
                        clear hK K
                        try simp only [Act.put, List.getElem_toArray, List.getElem_cons_zero, List.getElem_cons_succ, List.setIfInBounds_toArray, List.set_cons_zero, List.set_cons_succ]
                        refine wpAnyH_ready (rs := [11, 17, 18]) (by kernel_rfl) (by simp) ?_
                        refine (AllReadyH.cons rfl (fun K hK => ?_) (AllReadyH.cons rfl (fun K hK => ?_) (AllReadyH.cons rfl (fun K hK => ?_) AllReadyH.nil)))
                        · go_simp
                          refine (LN.out _ x y aK cK BB.out SX.out SY.out SK.out EX.out EY.out).mono ?_
                          rintro _ v4 ⟨a, b, aU, cU, rfl, hH, ha, hb2⟩
                          have hb := hH.b
                          have HQ := hide (hH.pre BB.out)
                          have EA := hide ha
                          have EB := hide hb2
                          clear SX SY SK
                          replace B5W := hide (bt B5W.out hb)
                          replace BB := hide (bt BB.out hb)
                          clear hH ha hb2 hb
                          go_wp2_with fail
                          refine hK.out _ _ (SS.out _ BB.out) (fun hHeld => ?_)
                          clear hK K
                          try simp only [Act.put, List.getElem_toArray, List.getElem_cons_zero, List.getElem_cons_succ, List.setIfInBounds_toArray, List.set_cons_zero, List.set_cons_succ]
                          refine wpAnyH_take (i := 12) (v := ?vau1234x12) rfl (by kernel_rfl) (by kernel_rfl) (by kernel_rfl) (fun _ _ _ h => h) (Or.inl ⟨by rfl, ?hyu1234x12⟩) (by assumption) ?rau1234x12
                          case hyu1234x12 => (intro wq hSw; (try dsimp only at hSw); obtain ⟨e0, e1, e2, e3, e4, e5, e6, e7, e8, e9, e10, e11⟩ := hSw; go_simp <;> with_reducible rfl)
                          try simp only [Act.put, List.getElem_toArray, List.getElem_cons_zero, List.getElem_cons_succ, List.setIfInBounds_toArray, List.set_cons_zero, List.set_cons_succ]
                          refine wpAnyH_take (i := 13) (v := ?vau1234x13) rfl (by kernel_rfl) (by kernel_rfl) (by kernel_rfl) (fun _ _ _ h => h) (Or.inl ⟨by rfl, ?hyu1234x13⟩) (by assumption) ?rau1234x13
                          case hyu1234x13 => (intro wq hSw; (try dsimp only at hSw); obtain ⟨e0, e1, e2, e3, e4, e5, e6, e7, e8, e9, e10, e11⟩ := hSw; go_simp <;> with_reducible rfl)
                          try simp only [Act.put, List.getElem_toArray, List.getElem_cons_zero, List.getElem_cons_succ, List.setIfInBounds_toArray, List.set_cons_zero, List.set_cons_succ]
                          refine wpAnyH_take (i := 14) (v := ?vau1234x14) rfl (by kernel_rfl) (by kernel_rfl) (by kernel_rfl) (fun _ _ _ h => h) (Or.inl ⟨by rfl, ?hyu1234x14⟩) (by assumption) ?rau1234x14
                          case hyu1234x14 => (intro wq hSw; (try dsimp only at hSw); obtain ⟨e0, e1, e2, e3, e4, e5, e6, e7, e8, e9, e10, e11⟩ := hSw; go_simp <;> with_reducible rfl)
                          try simp only [Act.put, List.getElem_toArray, List.getElem_cons_zero, List.getElem_cons_succ, List.setIfInBounds_toArray, List.set_cons_zero, List.set_cons_succ]
                          refine wpAnyH_take (i := 15) (v := ?vau1234x15) rfl (by kernel_rfl) (by kernel_rfl) (by kernel_rfl) (fun _ _ _ h => h) (Or.inl ⟨by rfl, ?hyu1234x15⟩) (by assumption) ?rau1234x15
                          case hyu1234x15 => (intro wq hSw; (try dsimp only at hSw); obtain ⟨e0, e1, e2, e3, e4, e5, e6, e7, e8, e9, e10, e11⟩ := hSw; go_simp <;> with_reducible rfl)
                          try simp only [Act.put, List.getElem_toArray, List.getElem_cons_zero, List.getElem_cons_succ, List.setIfInBounds_toArray, List.set_cons_zero, List.set_cons_succ]
                          refine wpAnyH_take (i := 16) (v := ?vau1234x16) rfl (by kernel_rfl) (by kernel_rfl) (by kernel_rfl) (fun _ _ _ h => h) (Or.inl ⟨by rfl, ?hyu1234x16⟩) (by assumption) ?rau1234x16
                          case hyu1234x16 => (intro wq hSw; (try dsimp only at hSw); obtain ⟨e0, e1, e2, e3, e4, e5, e6, e7, e8, e9, e10, e11⟩ := hSw; go_simp <;> with_reducible rfl)
                          try simp only [Act.put, List.getElem_toArray, List.getElem_cons_zero, List.getElem_cons_succ, List.setIfInBounds_toArray, List.set_cons_zero, List.set_cons_succ]
                          refine wpAnyH_ready (rs := [17, 18]) (by kernel_rfl) (by simp) ?_
                          refine (AllReadyH.cons rfl (fun K hK => ?_) (AllReadyH.cons rfl (fun K hK => ?_) AllReadyH.nil))
                          · go_simp
                            have AL := hide (al v4 (.cells #[.int .i64 0, .int .i64 0, .slice none 0 0, .slice none 0 0, .int .i64 0] 25))
                            have LA : Hid (w1.heap.size ≤ v4.heap.size) := BB.out.size
                            have LAx : Hid (w6.heap.size ≤ v4.heap.size) := B5W.out.size
                            replace HQ := hide (HQ.out.keep AL.out)
                            replace B5W := hide (bt B5W.out AL.out)
                            replace BB := hide (bt BB.out AL.out)
                            have XA := hide (heap_alloc_new v4 (.cells #[.int .i64 0, .int .i64 0, .slice none 0 0, .slice none 0 0, .int .i64 0] 25))
                            refine hK.out _ _ (SS.out _ BB.out) (fun hHeld => ?_)
                            clear hK K AL
                            try simp only [Act.put, List.getElem_toArray, List.getElem_cons_zero, List.getElem_cons_succ, List.setIfInBounds_toArray, List.set_cons_zero, List.set_cons_succ]
                            generalize (v4.alloc (.cells #[.int .i64 0, .int .i64 0, .slice none 0 0, .slice none 0 0, .int .i64 0] 25)) = v5 at *
                            generalize v4.heap.size = gA at *
                            refine wpAnyH_ready (rs := [18]) (by kernel_rfl) (by simp) ?_
                            refine (AllReadyH.cons rfl (fun K hK => ?_) AllReadyH.nil)
                            · go_simp
                              have AL := hide (al v5 (.cells #[.int .i64 0, .int .i64 0, .slice none 0 0, .slice none 0 0, .int .i64 0] 25))
                              have LB : Hid (w1.heap.size ≤ v5.heap.size) := BB.out.size
                              have LBx : Hid (w6.heap.size ≤ v5.heap.size) := B5W.out.size
                              have NE : Hid (gA ≠ v5.heap.size) := by have := (Array.getElem?_eq_some_iff.1 XA.out).1; show _ ≠ _; omega
                              replace HQ := hide (HQ.out.keep AL.out)
                              replace XA := hide (blk_keep XA.out AL.out)
                              replace B5W := hide (bt B5W.out AL.out)
                              replace BB := hide (bt BB.out AL.out)
                              have XB := hide (heap_alloc_new v5 (.cells #[.int .i64 0, .int .i64 0, .slice none 0 0, .slice none 0 0, .int .i64 0] 25))
                              refine hK.out _ _ (SS.out _ BB.out) (fun hHeld => ?_)
                              clear hK K AL
                              try simp only [Act.put, List.getElem_toArray, List.getElem_cons_zero, List.getElem_cons_succ, List.setIfInBounds_toArray, List.set_cons_zero, List.set_cons_succ]
                              generalize (v5.alloc (.cells #[.int .i64 0, .int .i64 0, .slice none 0 0, .slice none 0 0, .int .i64 0] 25)) = v6 at *
                              generalize v5.heap.size = gB at *
                              have hAne : w.heap.size ≠ gA := by have := LA.out; omega
                              have hBne : w.heap.size ≠ gB := by have := LB.out; omega
                              refine wpAnyH_ready (rs := [19]) (by kernel_rfl) (by simp) ?_
                              refine AllReadyH.cons rfl (fun K hK => ?_) AllReadyH.nil
                              rw [if_pos (by rfl)]
                              have XB1 := hide (row_far (W := v6) (g := gA) #[.int .i64 a.kind, .int .i64 a.level, .slice a.aI a.items.length a.cI, .slice a.aD a.data.length a.cD, .int .i64 a.next] XB.out (Ne.symm NE.out))
                              refine wp_store_row 25 _ _ rfl gA _ rfl rfl 25 _ XA.out sizePage rfl (by simp [Value.oneCell']) ?_
                              refine hK.out _ _ (cells12b (row_far _ (BX.out _ BB.out) hAne)) (fun hHeld => ?_)
                              clear hK K
                              try simp only [Act.put, List.getElem_toArray, List.getElem_cons_zero, List.getElem_cons_succ, List.setIfInBounds_toArray, List.set_cons_zero, List.set_cons_succ]
                              refine wpAnyH_ready (rs := [20]) (by kernel_rfl) (by simp) ?_
                              refine AllReadyH.cons rfl (fun K hK => ?_) AllReadyH.nil
                              rw [if_pos (by rfl)]
                              refine wp_store_row 25 _ _ rfl gB _ rfl rfl 25 _ XB1.out sizePage rfl (by simp [Value.oneCell']) ?_
                              refine hK.out _ _ (cells12b (row_far _ (row_far _ (BX.out _ BB.out) hAne) hBne)) (fun hHeld => ?_)
                              clear hK K
                              try simp only [Act.put, List.getElem_toArray, List.getElem_cons_zero, List.getElem_cons_succ, List.setIfInBounds_toArray, List.set_cons_zero, List.set_cons_succ]
                              refine wpAnyH_take (i := 21) (v := ?vau12345621) rfl (by kernel_rfl) (by kernel_rfl) (by kernel_rfl) (fun _ _ _ h => h) (Or.inl ⟨by rfl, ?hyu12345621⟩) (by assumption) ?rau12345621
                              case hyu12345621 => (intro wq hSw; (try dsimp only at hSw); obtain ⟨e0, e1, e2, e3, e4, e5, e6, e7, e8, e9, e10, e11⟩ := hSw; go_simp <;> with_reducible rfl)
                              try simp only [Act.put, List.getElem_toArray, List.getElem_cons_zero, List.getElem_cons_succ, List.setIfInBounds_toArray, List.set_cons_zero, List.set_cons_succ]
                              refine wpAnyH_take (i := 22) (v := ?vau12345622) rfl (by kernel_rfl) (by kernel_rfl) (by kernel_rfl) (fun _ _ _ h => h) (Or.inl ⟨by rfl, ?hyu12345622⟩) (by assumption) ?rau12345622
                              case hyu12345622 => (intro wq hSw; (try dsimp only at hSw); obtain ⟨e0, e1, e2, e3, e4, e5, e6, e7, e8, e9, e10, e11⟩ := hSw; go_simp <;> with_reducible rfl)
                              try simp only [Act.put, List.getElem_toArray, List.getElem_cons_zero, List.getElem_cons_succ, List.setIfInBounds_toArray, List.set_cons_zero, List.set_cons_succ]
                              refine wpAnyH_done (by kernel_rfl) ?_ _
                              clear hHeld
                              go_wp2_with fail
                              go_meet
                              case rel => exact ⟨gA, gB, a, b, aU, cU, rfl, rfl, rfl, rfl, ⟨row_far _ (setRow_heap _ _ _ _ _ _ XA.out) NE.out, setRow_heap _ _ _ _ _ _ XB1.out, (HQ.out.but (but_setRow _ gA _) (fun k hk => ⟨_, _, by subst hk; exact XA.out, by decide, by decide⟩) (below_row _ HQ.out.b LA.out)).but (but_setRow _ gB _) (fun k hk => ⟨_, _, by subst hk; exact XB1.out, by decide, by decide⟩) (below_row _ (below_row _ HQ.out.b LA.out) LB.out), EA.out, EB.out⟩, below_row _ (below_row _ B5W.out LAx.out) LBx.out⟩
                          · go_simp
                            have AL := hide (al v4 (.cells #[.int .i64 0, .int .i64 0, .slice none 0 0, .slice none 0 0, .int .i64 0] 25))
                            have LB : Hid (w1.heap.size ≤ v4.heap.size) := BB.out.size
                            have LBx : Hid (w6.heap.size ≤ v4.heap.size) := B5W.out.size
                            replace HQ := hide (HQ.out.keep AL.out)
                            replace B5W := hide (bt B5W.out AL.out)
                            replace BB := hide (bt BB.out AL.out)
                            have XB := hide (heap_alloc_new v4 (.cells #[.int .i64 0, .int .i64 0, .slice none 0 0, .slice none 0 0, .int .i64 0] 25))
                            refine hK.out _ _ (SS.out _ BB.out) (fun hHeld => ?_)
                            clear hK K AL
                            try simp only [Act.put, List.getElem_toArray, List.getElem_cons_zero, List.getElem_cons_succ, List.setIfInBounds_toArray, List.set_cons_zero, List.set_cons_succ]
                            generalize (v4.alloc (.cells #[.int .i64 0, .int .i64 0, .slice none 0 0, .slice none 0 0, .int .i64 0] 25)) = v7 at *
                            generalize v4.heap.size = gB at *
                            refine wpAnyH_ready (rs := [17]) (by kernel_rfl) (by simp) ?_
                            refine (AllReadyH.cons rfl (fun K hK => ?_) AllReadyH.nil)
                            · go_simp
                              have AL := hide (al v7 (.cells #[.int .i64 0, .int .i64 0, .slice none 0 0, .slice none 0 0, .int .i64 0] 25))
                              have LA : Hid (w1.heap.size ≤ v7.heap.size) := BB.out.size
                              have LAx : Hid (w6.heap.size ≤ v7.heap.size) := B5W.out.size
                              have NE : Hid (v7.heap.size ≠ gB) := by have := (Array.getElem?_eq_some_iff.1 XB.out).1; show _ ≠ _; omega
                              replace HQ := hide (HQ.out.keep AL.out)
                              replace XB := hide (blk_keep XB.out AL.out)
                              replace B5W := hide (bt B5W.out AL.out)
                              replace BB := hide (bt BB.out AL.out)
                              have XA := hide (heap_alloc_new v7 (.cells #[.int .i64 0, .int .i64 0, .slice none 0 0, .slice none 0 0, .int .i64 0] 25))
                              refine hK.out _ _ (SS.out _ BB.out) (fun hHeld => ?_)
                              clear hK K AL
                              try simp only [Act.put, List.getElem_toArray, List.getElem_cons_zero, List.getElem_cons_succ, List.setIfInBounds_toArray, List.set_cons_zero, List.set_cons_succ]
                              generalize (v7.alloc (.cells #[.int .i64 0, .int .i64 0, .slice none 0 0, .slice none 0 0, .int .i64 0] 25)) = v8 at *
                              generalize v7.heap.size = gA at *
                              have hAne : w.heap.size ≠ gA := by have := LA.out; omega
                              have hBne : w.heap.size ≠ gB := by have := LB.out; omega
                              refine wpAnyH_ready (rs := [19]) (by kernel_rfl) (by simp) ?_
                              refine AllReadyH.cons rfl (fun K hK => ?_) AllReadyH.nil
                              rw [if_pos (by rfl)]
                              have XB1 := hide (row_far (W := v8) (g := gA) #[.int .i64 a.kind, .int .i64 a.level, .slice a.aI a.items.length a.cI, .slice a.aD a.data.length a.cD, .int .i64 a.next] XB.out (Ne.symm NE.out))
                              refine wp_store_row 25 _ _ rfl gA _ rfl rfl 25 _ XA.out sizePage rfl (by simp [Value.oneCell']) ?_
                              refine hK.out _ _ (cells12b (row_far _ (BX.out _ BB.out) hAne)) (fun hHeld => ?_)
                              clear hK K
                              try simp only [Act.put, List.getElem_toArray, List.getElem_cons_zero, List.getElem_cons_succ, List.setIfInBounds_toArray, List.set_cons_zero, List.set_cons_succ]
                              refine wpAnyH_ready (rs := [20]) (by kernel_rfl) (by simp) ?_
                              refine AllReadyH.cons rfl (fun K hK => ?_) AllReadyH.nil
                              rw [if_pos (by rfl)]
                              refine wp_store_row 25 _ _ rfl gB _ rfl rfl 25 _ XB1.out sizePage rfl (by simp [Value.oneCell']) ?_
                              refine hK.out _ _ (cells12b (row_far _ (row_far _ (BX.out _ BB.out) hAne) hBne)) (fun hHeld => ?_)
                              clear hK K
                              try simp only [Act.put, List.getElem_toArray, List.getElem_cons_zero, List.getElem_cons_succ, List.setIfInBounds_toArray, List.set_cons_zero, List.set_cons_succ]
                              refine wpAnyH_take (i := 21) (v := ?vau12347821) rfl (by kernel_rfl) (by kernel_rfl) (by kernel_rfl) (fun _ _ _ h => h) (Or.inl ⟨by rfl, ?hyu12347821⟩) (by assumption) ?rau12347821
                              case hyu12347821 => (intro wq hSw; (try dsimp only at hSw); obtain ⟨e0, e1, e2, e3, e4, e5, e6, e7, e8, e9, e10, e11⟩ := hSw; go_simp <;> with_reducible rfl)
                              try simp only [Act.put, List.getElem_toArray, List.getElem_cons_zero, List.getElem_cons_succ, List.setIfInBounds_toArray, List.set_cons_zero, List.set_cons_succ]
                              refine wpAnyH_take (i := 22) (v := ?vau12347822) rfl (by kernel_rfl) (by kernel_rfl) (by kernel_rfl) (fun _ _ _ h => h) (Or.inl ⟨by rfl, ?hyu12347822⟩) (by assumption) ?rau12347822
                              case hyu12347822 => (intro wq hSw; (try dsimp only at hSw); obtain ⟨e0, e1, e2, e3, e4, e5, e6, e7, e8, e9, e10, e11⟩ := hSw; go_simp <;> with_reducible rfl)
                              try simp only [Act.put, List.getElem_toArray, List.getElem_cons_zero, List.getElem_cons_succ, List.setIfInBounds_toArray, List.set_cons_zero, List.set_cons_succ]
                              refine wpAnyH_done (by kernel_rfl) ?_ _
                              clear hHeld
                              go_wp2_with fail
                              go_meet
                              case rel => exact ⟨gA, gB, a, b, aU, cU, rfl, rfl, rfl, rfl, ⟨row_far _ (setRow_heap _ _ _ _ _ _ XA.out) NE.out, setRow_heap _ _ _ _ _ _ XB1.out, (HQ.out.but (but_setRow _ gA _) (fun k hk => ⟨_, _, by subst hk; exact XA.out, by decide, by decide⟩) (below_row _ HQ.out.b LA.out)).but (but_setRow _ gB _) (fun k hk => ⟨_, _, by subst hk; exact XB1.out, by decide, by decide⟩) (below_row _ (below_row _ HQ.out.b LA.out) LB.out), EA.out, EB.out⟩, below_row _ (below_row _ B5W.out LAx.out) LBx.out⟩
                        · go_simp
                          have AL := hide (al v3 (.cells #[.int .i64 0, .int .i64 0, .slice none 0 0, .slice none 0 0, .int .i64 0] 25))
                          have LA : Hid (w1.heap.size ≤ v3.heap.size) := BB.out.size
                          have LAx : Hid (w6.heap.size ≤ v3.heap.size) := B5W.out.size
                          replace SX := hide (SX.out.keep AL.out)
                          replace SY := hide (SY.out.keep AL.out)
                          replace SK := hide (SK.out.keep AL.out)
                          replace B5W := hide (bt B5W.out AL.out)
                          replace BB := hide (bt BB.out AL.out)
                          have XA := hide (heap_alloc_new v3 (.cells #[.int .i64 0, .int .i64 0, .slice none 0 0, .slice none 0 0, .int .i64 0] 25))
                          refine hK.out _ _ (SS.out _ BB.out) (fun hHeld => ?_)
                          clear hK K AL
                          try simp only [Act.put, List.getElem_toArray, List.getElem_cons_zero, List.getElem_cons_succ, List.setIfInBounds_toArray, List.set_cons_zero, List.set_cons_succ]
                          generalize (v3.alloc (.cells #[.int .i64 0, .int .i64 0, .slice none 0 0, .slice none 0 0, .int .i64 0] 25)) = v9 at *
                          generalize v3.heap.size = gA at *
                          refine wpAnyH_ready (rs := [11, 18]) (by kernel_rfl) (by simp) ?_
                          refine (AllReadyH.cons rfl (fun K hK => ?_) (AllReadyH.cons rfl (fun K hK => ?_) AllReadyH.nil))
                          · go_simp
                            refine (LN.out _ x y aK cK BB.out SX.out SY.out SK.out EX.out EY.out).mono ?_
                            rintro _ v10 ⟨a, b, aU, cU, rfl, hH, ha, hb2⟩
                            have hb := hH.b
                            have HQ := hide (hH.pre BB.out)
                            have EA := hide ha
                            have EB := hide hb2
                            clear SX SY SK
                            replace XA := hide (blk_keep XA.out hb)
                            replace B5W := hide (bt B5W.out hb)
                            replace BB := hide (bt BB.out hb)
                            clear hH ha hb2 hb
                            go_wp2_with fail
                            refine hK.out _ _ (SS.out _ BB.out) (fun hHeld => ?_)
                            clear hK K
                            try simp only [Act.put, List.getElem_toArray, List.getElem_cons_zero, List.getElem_cons_succ, List.setIfInBounds_toArray, List.set_cons_zero, List.set_cons_succ]
                            refine wpAnyH_take (i := 12) (v := ?vau123910x12) rfl (by kernel_rfl) (by kernel_rfl) (by kernel_rfl) (fun _ _ _ h => h) (Or.inl ⟨by rfl, ?hyu123910x12⟩) (by assumption) ?rau123910x12
                            case hyu123910x12 => (intro wq hSw; (try dsimp only at hSw); obtain ⟨e0, e1, e2, e3, e4, e5, e6, e7, e8, e9, e10, e11⟩ := hSw; go_simp <;> with_reducible rfl)
                            try simp only [Act.put, List.getElem_toArray, List.getElem_cons_zero, List.getElem_cons_succ, List.setIfInBounds_toArray, List.set_cons_zero, List.set_cons_succ]
                            refine wpAnyH_take (i := 13) (v := ?vau123910x13) rfl (by kernel_rfl) (by kernel_rfl) (by kernel_rfl) (fun _ _ _ h => h) (Or.inl ⟨by rfl, ?hyu123910x13⟩) (by assumption) ?rau123910x13
                            case hyu123910x13 => (intro wq hSw; (try dsimp only at hSw); obtain ⟨e0, e1, e2, e3, e4, e5, e6, e7, e8, e9, e10, e11⟩ := hSw; go_simp <;> with_reducible rfl)
                            try simp only [Act.put, List.getElem_toArray, List.getElem_cons_zero, List.getElem_cons_succ, List.setIfInBounds_toArray, List.set_cons_zero, List.set_cons_succ]
                            refine wpAnyH_take (i := 14) (v := ?vau123910x14) rfl (by kernel_rfl) (by kernel_rfl) (by kernel_rfl) (fun _ _ _ h => h) (Or.inl ⟨by rfl, ?hyu123910x14⟩) (by assumption) ?rau123910x14
                            case hyu123910x14 => (intro wq hSw; (try dsimp only at hSw); obtain ⟨e0, e1, e2, e3, e4, e5, e6, e7, e8, e9, e10, e11⟩ := hSw; go_simp <;> with_reducible rfl)
                            try simp only [Act.put, List.getElem_toArray, List.getElem_cons_zero, List.getElem_cons_succ, List.setIfInBounds_toArray, List.set_cons_zero, List.set_cons_succ]
                            refine wpAnyH_take (i := 15) (v := ?vau123910x15) rfl (by kernel_rfl) (by kernel_rfl) (by kernel_rfl) (fun _ _ _ h => h) (Or.inl ⟨by rfl, ?hyu123910x15⟩) (by assumption) ?rau123910x15
                            case hyu123910x15 => (intro wq hSw; (try dsimp only at hSw); obtain ⟨e0, e1, e2, e3, e4, e5, e6, e7, e8, e9, e10, e11⟩ := hSw; go_simp <;> with_reducible rfl)
                            try simp only [Act.put, List.getElem_toArray, List.getElem_cons_zero, List.getElem_cons_succ, List.setIfInBounds_toArray, List.set_cons_zero, List.set_cons_succ]
                            refine wpAnyH_take (i := 16) (v := ?vau123910x16) rfl (by kernel_rfl) (by kernel_rfl) (by kernel_rfl) (fun _ _ _ h => h) (Or.inl ⟨by rfl, ?hyu123910x16⟩) (by assumption) ?rau123910x16
                            case hyu123910x16 => (intro wq hSw; (try dsimp only at hSw); obtain ⟨e0, e1, e2, e3, e4, e5, e6, e7, e8, e9, e10, e11⟩ := hSw; go_simp <;> with_reducible rfl)
                            try simp only [Act.put, List.getElem_toArray, List.getElem_cons_zero, List.getElem_cons_succ, List.setIfInBounds_toArray, List.set_cons_zero, List.set_cons_succ]
                            refine wpAnyH_ready (rs := [18]) (by kernel_rfl) (by simp) ?_
                            refine (AllReadyH.cons rfl (fun K hK => ?_) AllReadyH.nil)
                            · go_simp
                              have AL := hide (al v10 (.cells #[.int .i64 0, .int .i64 0, .slice none 0 0, .slice none 0 0, .int .i64 0] 25))
                              have LB : Hid (w1.heap.size ≤ v10.heap.size) := BB.out.size
                              have LBx : Hid (w6.heap.size ≤ v10.heap.size) := B5W.out.size
                              have NE : Hid (gA ≠ v10.heap.size) := by have := (Array.getElem?_eq_some_iff.1 XA.out).1; show _ ≠ _; omega
                              replace HQ := hide (HQ.out.keep AL.out)
                              replace XA := hide (blk_keep XA.out AL.out)
                              replace B5W := hide (bt B5W.out AL.out)
                              replace BB := hide (bt BB.out AL.out)
                              have XB := hide (heap_alloc_new v10 (.cells #[.int .i64 0, .int .i64 0, .slice none 0 0, .slice none 0 0, .int .i64 0] 25))
                              refine hK.out _ _ (SS.out _ BB.out) (fun hHeld => ?_)
                              clear hK K AL
                              try simp only [Act.put, List.getElem_toArray, List.getElem_cons_zero, List.getElem_cons_succ, List.setIfInBounds_toArray, List.set_cons_zero, List.set_cons_succ]
                              generalize (v10.alloc (.cells #[.int .i64 0, .int .i64 0, .slice none 0 0, .slice none 0 0, .int .i64 0] 25)) = v11 at *
                              generalize v10.heap.size = gB at *
                              have hAne : w.heap.size ≠ gA := by have := LA.out; omega
                              have hBne : w.heap.size ≠ gB := by have := LB.out; omega
                              refine wpAnyH_ready (rs := [19]) (by kernel_rfl) (by simp) ?_
                              refine AllReadyH.cons rfl (fun K hK => ?_) AllReadyH.nil
                              rw [if_pos (by rfl)]
                              have XB1 := hide (row_far (W := v11) (g := gA) #[.int .i64 a.kind, .int .i64 a.level, .slice a.aI a.items.length a.cI, .slice a.aD a.data.length a.cD, .int .i64 a.next] XB.out (Ne.symm NE.out))
                              refine wp_store_row 25 _ _ rfl gA _ rfl rfl 25 _ XA.out sizePage rfl (by simp [Value.oneCell']) ?_
                              refine hK.out _ _ (cells12b (row_far _ (BX.out _ BB.out) hAne)) (fun hHeld => ?_)
                              clear hK K
                              try simp only [Act.put, List.getElem_toArray, List.getElem_cons_zero, List.getElem_cons_succ, List.setIfInBounds_toArray, List.set_cons_zero, List.set_cons_succ]
                              refine wpAnyH_ready (rs := [20]) (by kernel_rfl) (by simp) ?_
                              refine AllReadyH.cons rfl (fun K hK => ?_) AllReadyH.nil
                              rw [if_pos (by rfl)]
                              refine wp_store_row 25 _ _ rfl gB _ rfl rfl 25 _ XB1.out sizePage rfl (by simp [Value.oneCell']) ?_
                              refine hK.out _ _ (cells12b (row_far _ (row_far _ (BX.out _ BB.out) hAne) hBne)) (fun hHeld => ?_)
                              clear hK K
                              try simp only [Act.put, List.getElem_toArray, List.getElem_cons_zero, List.getElem_cons_succ, List.setIfInBounds_toArray, List.set_cons_zero, List.set_cons_succ]
                              refine wpAnyH_take (i := 21) (v := ?vau1239101121) rfl (by kernel_rfl) (by kernel_rfl) (by kernel_rfl) (fun _ _ _ h => h) (Or.inl ⟨by rfl, ?hyu1239101121⟩) (by assumption) ?rau1239101121
                              case hyu1239101121 => (intro wq hSw; (try dsimp only at hSw); obtain ⟨e0, e1, e2, e3, e4, e5, e6, e7, e8, e9, e10, e11⟩ := hSw; go_simp <;> with_reducible rfl)
                              try simp only [Act.put, List.getElem_toArray, List.getElem_cons_zero, List.getElem_cons_succ, List.setIfInBounds_toArray, List.set_cons_zero, List.set_cons_succ]
                              refine wpAnyH_take (i := 22) (v := ?vau1239101122) rfl (by kernel_rfl) (by kernel_rfl) (by kernel_rfl) (fun _ _ _ h => h) (Or.inl ⟨by rfl, ?hyu1239101122⟩) (by assumption) ?rau1239101122
                              case hyu1239101122 => (intro wq hSw; (try dsimp only at hSw); obtain ⟨e0, e1, e2, e3, e4, e5, e6, e7, e8, e9, e10, e11⟩ := hSw; go_simp <;> with_reducible rfl)
                              try simp only [Act.put, List.getElem_toArray, List.getElem_cons_zero, List.getElem_cons_succ, List.setIfInBounds_toArray, List.set_cons_zero, List.set_cons_succ]
                              refine wpAnyH_done (by kernel_rfl) ?_ _
                              clear hHeld
                              go_wp2_with fail
                              go_meet
                              case rel => exact ⟨gA, gB, a, b, aU, cU, rfl, rfl, rfl, rfl, ⟨row_far _ (setRow_heap _ _ _ _ _ _ XA.out) NE.out, setRow_heap _ _ _ _ _ _ XB1.out, (HQ.out.but (but_setRow _ gA _) (fun k hk => ⟨_, _, by subst hk; exact XA.out, by decide, by decide⟩) (below_row _ HQ.out.b LA.out)).but (but_setRow _ gB _) (fun k hk => ⟨_, _, by subst hk; exact XB1.out, by decide, by decide⟩) (below_row _ (below_row _ HQ.out.b LA.out) LB.out), EA.out, EB.out⟩, below_row _ (below_row _ B5W.out LAx.out) LBx.out⟩
                          · go_simp
                            have AL := hide (al v9 (.cells #[.int .i64 0, .int .i64 0, .slice none 0 0, .slice none 0 0, .int .i64 0] 25))
                            have LB : Hid (w1.heap.size ≤ v9.heap.size) := BB.out.size
                            have LBx : Hid (w6.heap.size ≤ v9.heap.size) := B5W.out.size
                            have NE : Hid (gA ≠ v9.heap.size) := by have := (Array.getElem?_eq_some_iff.1 XA.out).1; show _ ≠ _; omega
                            replace SX := hide (SX.out.keep AL.out)
                            replace SY := hide (SY.out.keep AL.out)
                            replace SK := hide (SK.out.keep AL.out)
                            replace XA := hide (blk_keep XA.out AL.out)
                            replace B5W := hide (bt B5W.out AL.out)
                            replace BB := hide (bt BB.out AL.out)
                            have XB := hide (heap_alloc_new v9 (.cells #[.int .i64 0, .int .i64 0, .slice none 0 0, .slice none 0 0, .int .i64 0] 25))
                            refine hK.out _ _ (SS.out _ BB.out) (fun hHeld => ?_)
                            clear hK K AL
                            try simp only [Act.put, List.getElem_toArray, List.getElem_cons_zero, List.getElem_cons_succ, List.setIfInBounds_toArray, List.set_cons_zero, List.set_cons_succ]
                            generalize (v9.alloc (.cells #[.int .i64 0, .int .i64 0, .slice none 0 0, .slice none 0 0, .int .i64 0] 25)) = v12 at *
                            generalize v9.heap.size = gB at *
                            refine wpAnyH_ready (rs := [11]) (by kernel_rfl) (by simp) ?_
                            refine (AllReadyH.cons rfl (fun K hK => ?_) AllReadyH.nil)
                            · go_simp
                              refine (LN.out _ x y aK cK BB.out SX.out SY.out SK.out EX.out EY.out).mono ?_
                              rintro _ v13 ⟨a, b, aU, cU, rfl, hH, ha, hb2⟩
                              have hb := hH.b
                              have HQ := hide (hH.pre BB.out)
                              have EA := hide ha
                              have EB := hide hb2
                              clear SX SY SK
                              replace XA := hide (blk_keep XA.out hb)
                              replace XB := hide (blk_keep XB.out hb)
                              replace B5W := hide (bt B5W.out hb)
                              replace BB := hide (bt BB.out hb)
                              clear hH ha hb2 hb
                              go_wp2_with fail
                              refine hK.out _ _ (SS.out _ BB.out) (fun hHeld => ?_)
                              clear hK K
                              try simp only [Act.put, List.getElem_toArray, List.getElem_cons_zero, List.getElem_cons_succ, List.setIfInBounds_toArray, List.set_cons_zero, List.set_cons_succ]
                              refine wpAnyH_take (i := 12) (v := ?vau12391213x12) rfl (by kernel_rfl) (by kernel_rfl) (by kernel_rfl) (fun _ _ _ h => h) (Or.inl ⟨by rfl, ?hyu12391213x12⟩) (by assumption) ?rau12391213x12
                              case hyu12391213x12 => (intro wq hSw; (try dsimp only at hSw); obtain ⟨e0, e1, e2, e3, e4, e5, e6, e7, e8, e9, e10, e11⟩ := hSw; go_simp <;> with_reducible rfl)
                              try simp only [Act.put, List.getElem_toArray, List.getElem_cons_zero, List.getElem_cons_succ, List.setIfInBounds_toArray, List.set_cons_zero, List.set_cons_succ]
                              refine wpAnyH_take (i := 13) (v := ?vau12391213x13) rfl (by kernel_rfl) (by kernel_rfl) (by kernel_rfl) (fun _ _ _ h => h) (Or.inl ⟨by rfl, ?hyu12391213x13⟩) (by assumption) ?rau12391213x13
                              case hyu12391213x13 => (intro wq hSw; (try dsimp only at hSw); obtain ⟨e0, e1, e2, e3, e4, e5, e6, e7, e8, e9, e10, e11⟩ := hSw; go_simp <;> with_reducible rfl)
                              try simp only [Act.put, List.getElem_toArray, List.getElem_cons_zero, List.getElem_cons_succ, List.setIfInBounds_toArray, List.set_cons_zero, List.set_cons_succ]
                              refine wpAnyH_take (i := 14) (v := ?vau12391213x14) rfl (by kernel_rfl) (by kernel_rfl) (by kernel_rfl) (fun _ _ _ h => h) (Or.inl ⟨by rfl, ?hyu12391213x14⟩) (by assumption) ?rau12391213x14
                              case hyu12391213x14 => (intro wq hSw; (try dsimp only at hSw); obtain ⟨e0, e1, e2, e3, e4, e5, e6, e7, e8, e9, e10, e11⟩ := hSw; go_simp <;> with_reducible rfl)
                              try simp only [Act.put, List.getElem_toArray, List.getElem_cons_zero, List.getElem_cons_succ, List.setIfInBounds_toArray, List.set_cons_zero, List.set_cons_succ]
                              refine wpAnyH_take (i := 15) (v := ?vau12391213x15) rfl (by kernel_rfl) (by kernel_rfl) (by kernel_rfl) (fun _ _ _ h => h) (Or.inl ⟨by rfl, ?hyu12391213x15⟩) (by assumption) ?rau12391213x15
                              case hyu12391213x15 => (intro wq hSw; (try dsimp only at hSw); obtain ⟨e0, e1, e2, e3, e4, e5, e6, e7, e8, e9, e10, e11⟩ := hSw; go_simp <;> with_reducible rfl)
                              try simp only [Act.put, List.getElem_toArray, List.getElem_cons_zero, List.getElem_cons_succ, List.setIfInBounds_toArray, List.set_cons_zero, List.set_cons_succ]
                              refine wpAnyH_take (i := 16) (v := ?vau12391213x16) rfl (by kernel_rfl) (by kernel_rfl) (by kernel_rfl) (fun _ _ _ h => h) (Or.inl ⟨by rfl, ?hyu12391213x16⟩) (by assumption) ?rau12391213x16
                              case hyu12391213x16 => (intro wq hSw; (try dsimp only at hSw); obtain ⟨e0, e1, e2, e3, e4, e5, e6, e7, e8, e9, e10, e11⟩ := hSw; go_simp <;> with_reducible rfl)
                              try simp only [Act.put, List.getElem_toArray, List.getElem_cons_zero, List.getElem_cons_succ, List.setIfInBounds_toArray, List.set_cons_zero, List.set_cons_succ]
                              have hAne : w.heap.size ≠ gA := by have := LA.out; omega
                              have hBne : w.heap.size ≠ gB := by have := LB.out; omega
                              refine wpAnyH_ready (rs := [19]) (by kernel_rfl) (by simp) ?_
                              refine AllReadyH.cons rfl (fun K hK => ?_) AllReadyH.nil
                              rw [if_pos (by rfl)]
                              have XB1 := hide (row_far (W := v13) (g := gA) #[.int .i64 a.kind, .int .i64 a.level, .slice a.aI a.items.length a.cI, .slice a.aD a.data.length a.cD, .int .i64 a.next] XB.out (Ne.symm NE.out))
                              refine wp_store_row 25 _ _ rfl gA _ rfl rfl 25 _ XA.out sizePage rfl (by simp [Value.oneCell']) ?_
                              refine hK.out _ _ (cells12b (row_far _ (BX.out _ BB.out) hAne)) (fun hHeld => ?_)
                              clear hK K
                              try simp only [Act.put, List.getElem_toArray, List.getElem_cons_zero, List.getElem_cons_succ, List.setIfInBounds_toArray, List.set_cons_zero, List.set_cons_succ]
                              refine wpAnyH_ready (rs := [20]) (by kernel_rfl) (by simp) ?_
                              refine AllReadyH.cons rfl (fun K hK => ?_) AllReadyH.nil
                              rw [if_pos (by rfl)]
                              refine wp_store_row 25 _ _ rfl gB _ rfl rfl 25 _ XB1.out sizePage rfl (by simp [Value.oneCell']) ?_
                              refine hK.out _ _ (cells12b (row_far _ (row_far _ (BX.out _ BB.out) hAne) hBne)) (fun hHeld => ?_)
                              clear hK K
                              try simp only [Act.put, List.getElem_toArray, List.getElem_cons_zero, List.getElem_cons_succ, List.setIfInBounds_toArray, List.set_cons_zero, List.set_cons_succ]
                              refine wpAnyH_take (i := 21) (v := ?vau1239121321) rfl (by kernel_rfl) (by kernel_rfl) (by kernel_rfl) (fun _ _ _ h => h) (Or.inl ⟨by rfl, ?hyu1239121321⟩) (by assumption) ?rau1239121321
                              case hyu1239121321 => (intro wq hSw; (try dsimp only at hSw); obtain ⟨e0, e1, e2, e3, e4, e5, e6, e7, e8, e9, e10, e11⟩ := hSw; go_simp <;> with_reducible rfl)
                              try simp only [Act.put, List.getElem_toArray, List.getElem_cons_zero, List.getElem_cons_succ, List.setIfInBounds_toArray, List.set_cons_zero, List.set_cons_succ]
                              refine wpAnyH_take (i := 22) (v := ?vau1239121322) rfl (by kernel_rfl) (by kernel_rfl) (by kernel_rfl) (fun _ _ _ h => h) (Or.inl ⟨by rfl, ?hyu1239121322⟩) (by assumption) ?rau1239121322
                              case hyu1239121322 => (intro wq hSw; (try dsimp only at hSw); obtain ⟨e0, e1, e2, e3, e4, e5, e6, e7, e8, e9, e10, e11⟩ := hSw; go_simp <;> with_reducible rfl)
                              try simp only [Act.put, List.getElem_toArray, List.getElem_cons_zero, List.getElem_cons_succ, List.setIfInBounds_toArray, List.set_cons_zero, List.set_cons_succ]
                              refine wpAnyH_done (by kernel_rfl) ?_ _
                              clear hHeld
                              go_wp2_with fail
                              go_meet
                              case rel => exact ⟨gA, gB, a, b, aU, cU, rfl, rfl, rfl, rfl, ⟨row_far _ (setRow_heap _ _ _ _ _ _ XA.out) NE.out, setRow_heap _ _ _ _ _ _ XB1.out, (HQ.out.but (but_setRow _ gA _) (fun k hk => ⟨_, _, by subst hk; exact XA.out, by decide, by decide⟩) (below_row _ HQ.out.b LA.out)).but (but_setRow _ gB _) (fun k hk => ⟨_, _, by subst hk; exact XB1.out, by decide, by decide⟩) (below_row _ (below_row _ HQ.out.b LA.out) LB.out), EA.out, EB.out⟩, below_row _ (below_row _ B5W.out LAx.out) LBx.out⟩
                        · go_simp
                          have AL := hide (al v3 (.cells #[.int .i64 0, .int .i64 0, .slice none 0 0, .slice none 0 0, .int .i64 0] 25))
                          have LB : Hid (w1.heap.size ≤ v3.heap.size) := BB.out.size
                          have LBx : Hid (w6.heap.size ≤ v3.heap.size) := B5W.out.size
                          replace SX := hide (SX.out.keep AL.out)
                          replace SY := hide (SY.out.keep AL.out)
                          replace SK := hide (SK.out.keep AL.out)
                          replace B5W := hide (bt B5W.out AL.out)
                          replace BB := hide (bt BB.out AL.out)
                          have XB := hide (heap_alloc_new v3 (.cells #[.int .i64 0, .int .i64 0, .slice none 0 0, .slice none 0 0, .int .i64 0] 25))
                          refine hK.out _ _ (SS.out _ BB.out) (fun hHeld => ?_)
                          clear hK K AL
                          try simp only [Act.put, List.getElem_toArray, List.getElem_cons_zero, List.getElem_cons_succ, List.setIfInBounds_toArray, List.set_cons_zero, List.set_cons_succ]
                          generalize (v3.alloc (.cells #[.int .i64 0, .int .i64 0, .slice none 0 0, .slice none 0 0, .int .i64 0] 25)) = v14 at *
                          generalize v3.heap.size = gB at *
                          refine wpAnyH_ready (rs := [11, 17]) (by kernel_rfl) (by simp) ?_
                          refine (AllReadyH.cons rfl (fun K hK => ?_) (AllReadyH.cons rfl (fun K hK => ?_) AllReadyH.nil))
                          · go_simp
                            refine (LN.out _ x y aK cK BB.out SX.out SY.out SK.out EX.out EY.out).mono ?_
                            rintro _ v15 ⟨a, b, aU, cU, rfl, hH, ha, hb2⟩
                            have hb := hH.b
                            have HQ := hide (hH.pre BB.out)
                            have EA := hide ha
                            have EB := hide hb2
                            clear SX SY SK
                            replace XB := hide (blk_keep XB.out hb)
                            replace B5W := hide (bt B5W.out hb)
                            replace BB := hide (bt BB.out hb)
                            clear hH ha hb2 hb
                            go_wp2_with fail
                            refine hK.out _ _ (SS.out _ BB.out) (fun hHeld => ?_)
                            clear hK K
                            try simp only [Act.put, List.getElem_toArray, List.getElem_cons_zero, List.getElem_cons_succ, List.setIfInBounds_toArray, List.set_cons_zero, List.set_cons_succ]
                            refine wpAnyH_take (i := 12) (v := ?vau1231415x12) rfl (by kernel_rfl) (by kernel_rfl) (by kernel_rfl) (fun _ _ _ h => h) (Or.inl ⟨by rfl, ?hyu1231415x12⟩) (by assumption) ?rau1231415x12
                            case hyu1231415x12 => (intro wq hSw; (try dsimp only at hSw); obtain ⟨e0, e1, e2, e3, e4, e5, e6, e7, e8, e9, e10, e11⟩ := hSw; go_simp <;> with_reducible rfl)
                            try simp only [Act.put, List.getElem_toArray, List.getElem_cons_zero, List.getElem_cons_succ, List.setIfInBounds_toArray, List.set_cons_zero, List.set_cons_succ]
                            refine wpAnyH_take (i := 13) (v := ?vau1231415x13) rfl (by kernel_rfl) (by kernel_rfl) (by kernel_rfl) (fun _ _ _ h => h) (Or.inl ⟨by rfl, ?hyu1231415x13⟩) (by assumption) ?rau1231415x13
                            case hyu1231415x13 => (intro wq hSw; (try dsimp only at hSw); obtain ⟨e0, e1, e2, e3, e4, e5, e6, e7, e8, e9, e10, e11⟩ := hSw; go_simp <;> with_reducible rfl)
                            try simp only [Act.put, List.getElem_toArray, List.getElem_cons_zero, List.getElem_cons_succ, List.setIfInBounds_toArray, List.set_cons_zero, List.set_cons_succ]
                            refine wpAnyH_take (i := 14) (v := ?vau1231415x14) rfl (by kernel_rfl) (by kernel_rfl) (by kernel_rfl) (fun _ _ _ h => h) (Or.inl ⟨by rfl, ?hyu1231415x14⟩) (by assumption) ?rau1231415x14
                            case hyu1231415x14 => (intro wq hSw; (try dsimp only at hSw); obtain ⟨e0, e1, e2, e3, e4, e5, e6, e7, e8, e9, e10, e11⟩ := hSw; go_simp <;> with_reducible rfl)
                            try simp only [Act.put, List.getElem_toArray, List.getElem_cons_zero, List.getElem_cons_succ, List.setIfInBounds_toArray, List.set_cons_zero, List.set_cons_succ]
                            refine wpAnyH_take (i := 15) (v := ?vau1231415x15) rfl (by kernel_rfl) (by kernel_rfl) (by kernel_rfl) (fun _ _ _ h => h) (Or.inl ⟨by rfl, ?hyu1231415x15⟩) (by assumption) ?rau1231415x15
                            case hyu1231415x15 => (intro wq hSw; (try dsimp only at hSw); obtain ⟨e0, e1, e2, e3, e4, e5, e6, e7, e8, e9, e10, e11⟩ := hSw; go_simp <;> with_reducible rfl)
                            try simp only [Act.put, List.getElem_toArray, List.getElem_cons_zero, List.getElem_cons_succ, List.setIfInBounds_toArray, List.set_cons_zero, List.set_cons_succ]
                            refine wpAnyH_take (i := 16) (v := ?vau1231415x16) rfl (by kernel_rfl) (by kernel_rfl) (by kernel_rfl) (fun _ _ _ h => h) (Or.inl ⟨by rfl, ?hyu1231415x16⟩) (by assumption) ?rau1231415x16
                            case hyu1231415x16 => (intro wq hSw; (try dsimp only at hSw); obtain ⟨e0, e1, e2, e3, e4, e5, e6, e7, e8, e9, e10, e11⟩ := hSw; go_simp <;> with_reducible rfl)
                            try simp only [Act.put, List.getElem_toArray, List.getElem_cons_zero, List.getElem_cons_succ, List.setIfInBounds_toArray, List.set_cons_zero, List.set_cons_succ]
                            refine wpAnyH_ready (rs := [17]) (by kernel_rfl) (by simp) ?_
                            refine (AllReadyH.cons rfl (fun K hK => ?_) AllReadyH.nil)
                            · go_simp
                              have AL := hide (al v15 (.cells #[.int .i64 0, .int .i64 0, .slice none 0 0, .slice none 0 0, .int .i64 0] 25))
                              have LA : Hid (w1.heap.size ≤ v15.heap.size) := BB.out.size
                              have LAx : Hid (w6.heap.size ≤ v15.heap.size) := B5W.out.size
                              have NE : Hid (v15.heap.size ≠ gB) := by have := (Array.getElem?_eq_some_iff.1 XB.out).1; show _ ≠ _; omega
                              replace HQ := hide (HQ.out.keep AL.out)
                              replace XB := hide (blk_keep XB.out AL.out)
                              replace B5W := hide (bt B5W.out AL.out)
                              replace BB := hide (bt BB.out AL.out)
                              have XA := hide (heap_alloc_new v15 (.cells #[.int .i64 0, .int .i64 0, .slice none 0 0, .slice none 0 0, .int .i64 0] 25))
                              refine hK.out _ _ (SS.out _ BB.out) (fun hHeld => ?_)
                              clear hK K AL
                              try simp only [Act.put, List.getElem_toArray, List.getElem_cons_zero, List.getElem_cons_succ, List.setIfInBounds_toArray, List.set_cons_zero, List.set_cons_succ]
                              generalize (v15.alloc (.cells #[.int .i64 0, .int .i64 0, .slice none 0 0, .slice none 0 0, .int .i64 0] 25)) = v16 at *
                              generalize v15.heap.size = gA at *
                              have hAne : w.heap.size ≠ gA := by have := LA.out; omega
                              have hBne : w.heap.size ≠ gB := by have := LB.out; omega
                              refine wpAnyH_ready (rs := [19]) (by kernel_rfl) (by simp) ?_
                              refine AllReadyH.cons rfl (fun K hK => ?_) AllReadyH.nil
                              rw [if_pos (by rfl)]
                              have XB1 := hide (row_far (W := v16) (g := gA) #[.int .i64 a.kind, .int .i64 a.level, .slice a.aI a.items.length a.cI, .slice a.aD a.data.length a.cD, .int .i64 a.next] XB.out (Ne.symm NE.out))
                              refine wp_store_row 25 _ _ rfl gA _ rfl rfl 25 _ XA.out sizePage rfl (by simp [Value.oneCell']) ?_
                              refine hK.out _ _ (cells12b (row_far _ (BX.out _ BB.out) hAne)) (fun hHeld => ?_)
                              clear hK K
                              try simp only [Act.put, List.getElem_toArray, List.getElem_cons_zero, List.getElem_cons_succ, List.setIfInBounds_toArray, List.set_cons_zero, List.set_cons_succ]
                              refine wpAnyH_ready (rs := [20]) (by kernel_rfl) (by simp) ?_
                              refine AllReadyH.cons rfl (fun K hK => ?_) AllReadyH.nil
                              rw [if_pos (by rfl)]
                              refine wp_store_row 25 _ _ rfl gB _ rfl rfl 25 _ XB1.out sizePage rfl (by simp [Value.oneCell']) ?_
                              refine hK.out _ _ (cells12b (row_far _ (row_far _ (BX.out _ BB.out) hAne) hBne)) (fun hHeld => ?_)
                              clear hK K
                              try simp only [Act.put, List.getElem_toArray, List.getElem_cons_zero, List.getElem_cons_succ, List.setIfInBounds_toArray, List.set_cons_zero, List.set_cons_succ]
                              refine wpAnyH_take (i := 21) (v := ?vau12314151621) rfl (by kernel_rfl) (by kernel_rfl) (by kernel_rfl) (fun _ _ _ h => h) (Or.inl ⟨by rfl, ?hyu12314151621⟩) (by assumption) ?rau12314151621
                              case hyu12314151621 => (intro wq hSw; (try dsimp only at hSw); obtain ⟨e0, e1, e2, e3, e4, e5, e6, e7, e8, e9, e10, e11⟩ := hSw; go_simp <;> with_reducible rfl)
                              try simp only [Act.put, List.getElem_toArray, List.getElem_cons_zero, List.getElem_cons_succ, List.setIfInBounds_toArray, List.set_cons_zero, List.set_cons_succ]
                              refine wpAnyH_take (i := 22) (v := ?vau12314151622) rfl (by kernel_rfl) (by kernel_rfl) (by kernel_rfl) (fun _ _ _ h => h) (Or.inl ⟨by rfl, ?hyu12314151622⟩) (by assumption) ?rau12314151622
                              case hyu12314151622 => (intro wq hSw; (try dsimp only at hSw); obtain ⟨e0, e1, e2, e3, e4, e5, e6, e7, e8, e9, e10, e11⟩ := hSw; go_simp <;> with_reducible rfl)
                              try simp only [Act.put, List.getElem_toArray, List.getElem_cons_zero, List.getElem_cons_succ, List.setIfInBounds_toArray, List.set_cons_zero, List.set_cons_succ]
                              refine wpAnyH_done (by kernel_rfl) ?_ _
                              clear hHeld
                              go_wp2_with fail
                              go_meet
                              case rel => exact ⟨gA, gB, a, b, aU, cU, rfl, rfl, rfl, rfl, ⟨row_far _ (setRow_heap _ _ _ _ _ _ XA.out) NE.out, setRow_heap _ _ _ _ _ _ XB1.out, (HQ.out.but (but_setRow _ gA _) (fun k hk => ⟨_, _, by subst hk; exact XA.out, by decide, by decide⟩) (below_row _ HQ.out.b LA.out)).but (but_setRow _ gB _) (fun k hk => ⟨_, _, by subst hk; exact XB1.out, by decide, by decide⟩) (below_row _ (below_row _ HQ.out.b LA.out) LB.out), EA.out, EB.out⟩, below_row _ (below_row _ B5W.out LAx.out) LBx.out⟩
                          · go_simp
                            have AL := hide (al v14 (.cells #[.int .i64 0, .int .i64 0, .slice none 0 0, .slice none 0 0, .int .i64 0] 25))
                            have LA : Hid (w1.heap.size ≤ v14.heap.size) := BB.out.size
                            have LAx : Hid (w6.heap.size ≤ v14.heap.size) := B5W.out.size
                            have NE : Hid (v14.heap.size ≠ gB) := by have := (Array.getElem?_eq_some_iff.1 XB.out).1; show _ ≠ _; omega
                            replace SX := hide (SX.out.keep AL.out)
                            replace SY := hide (SY.out.keep AL.out)
                            replace SK := hide (SK.out.keep AL.out)
                            replace XB := hide (blk_keep XB.out AL.out)
                            replace B5W := hide (bt B5W.out AL.out)
                            replace BB := hide (bt BB.out AL.out)
                            have XA := hide (heap_alloc_new v14 (.cells #[.int .i64 0, .int .i64 0, .slice none 0 0, .slice none 0 0, .int .i64 0] 25))
                            refine hK.out _ _ (SS.out _ BB.out) (fun hHeld => ?_)
                            clear hK K AL
                            try simp only [Act.put, List.getElem_toArray, List.getElem_cons_zero, List.getElem_cons_succ, List.setIfInBounds_toArray, List.set_cons_zero, List.set_cons_succ]
                            generalize (v14.alloc (.cells #[.int .i64 0, .int .i64 0, .slice none 0 0, .slice none 0 0, .int .i64 0] 25)) = v17 at *
                            generalize v14.heap.size = gA at *
                            refine wpAnyH_ready (rs := [11]) (by kernel_rfl) (by simp) ?_
                            refine (AllReadyH.cons rfl (fun K hK => ?_) AllReadyH.nil)
                            · go_simp
                              refine (LN.out _ x y aK cK BB.out SX.out SY.out SK.out EX.out EY.out).mono ?_
                              rintro _ v18 ⟨a, b, aU, cU, rfl, hH, ha, hb2⟩
                              have hb := hH.b
                              have HQ := hide (hH.pre BB.out)
                              have EA := hide ha
                              have EB := hide hb2
                              clear SX SY SK
                              replace XA := hide (blk_keep XA.out hb)
                              replace XB := hide (blk_keep XB.out hb)
                              replace B5W := hide (bt B5W.out hb)
                              replace BB := hide (bt BB.out hb)
                              clear hH ha hb2 hb
                              go_wp2_with fail
                              refine hK.out _ _ (SS.out _ BB.out) (fun hHeld => ?_)
                              clear hK K
                              try simp only [Act.put, List.getElem_toArray, List.getElem_cons_zero, List.getElem_cons_succ, List.setIfInBounds_toArray, List.set_cons_zero, List.set_cons_succ]
                              refine wpAnyH_take (i := 12) (v := ?vau123141718x12) rfl (by kernel_rfl) (by kernel_rfl) (by kernel_rfl) (fun _ _ _ h => h) (Or.inl ⟨by rfl, ?hyu123141718x12⟩) (by assumption) ?rau123141718x12
                              case hyu123141718x12 => (intro wq hSw; (try dsimp only at hSw); obtain ⟨e0, e1, e2, e3, e4, e5, e6, e7, e8, e9, e10, e11⟩ := hSw; go_simp <;> with_reducible rfl)
                              try simp only [Act.put, List.getElem_toArray, List.getElem_cons_zero, List.getElem_cons_succ, List.setIfInBounds_toArray, List.set_cons_zero, List.set_cons_succ]
                              refine wpAnyH_take (i := 13) (v := ?vau123141718x13) rfl (by kernel_rfl) (by kernel_rfl) (by kernel_rfl) (fun _ _ _ h => h) (Or.inl ⟨by rfl, ?hyu123141718x13⟩) (by assumption) ?rau123141718x13
                              case hyu123141718x13 => (intro wq hSw; (try dsimp only at hSw); obtain ⟨e0, e1, e2, e3, e4, e5, e6, e7, e8, e9, e10, e11⟩ := hSw; go_simp <;> with_reducible rfl)
                              try simp only [Act.put, List.getElem_toArray, List.getElem_cons_zero, List.getElem_cons_succ, List.setIfInBounds_toArray, List.set_cons_zero, List.set_cons_succ]
                              refine wpAnyH_take (i := 14) (v := ?vau123141718x14) rfl (by kernel_rfl) (by kernel_rfl) (by kernel_rfl) (fun _ _ _ h => h) (Or.inl ⟨by rfl, ?hyu123141718x14⟩) (by assumption) ?rau123141718x14
                              case hyu123141718x14 => (intro wq hSw; (try dsimp only at hSw); obtain ⟨e0, e1, e2, e3, e4, e5, e6, e7, e8, e9, e10, e11⟩ := hSw; go_simp <;> with_reducible rfl)
                              try simp only [Act.put, List.getElem_toArray, List.getElem_cons_zero, List.getElem_cons_succ, List.setIfInBounds_toArray, List.set_cons_zero, List.set_cons_succ]
                              refine wpAnyH_take (i := 15) (v := ?vau123141718x15) rfl (by kernel_rfl) (by kernel_rfl) (by kernel_rfl) (fun _ _ _ h => h) (Or.inl ⟨by rfl, ?hyu123141718x15⟩) (by assumption) ?rau123141718x15
                              case hyu123141718x15 => (intro wq hSw; (try dsimp only at hSw); obtain ⟨e0, e1, e2, e3, e4, e5, e6, e7, e8, e9, e10, e11⟩ := hSw; go_simp <;> with_reducible rfl)
                              try simp only [Act.put, List.getElem_toArray, List.getElem_cons_zero, List.getElem_cons_succ, List.setIfInBounds_toArray, List.set_cons_zero, List.set_cons_succ]
                              refine wpAnyH_take (i := 16) (v := ?vau123141718x16) rfl (by kernel_rfl) (by kernel_rfl) (by kernel_rfl) (fun _ _ _ h => h) (Or.inl ⟨by rfl, ?hyu123141718x16⟩) (by assumption) ?rau123141718x16
                              case hyu123141718x16 => (intro wq hSw; (try dsimp only at hSw); obtain ⟨e0, e1, e2, e3, e4, e5, e6, e7, e8, e9, e10, e11⟩ := hSw; go_simp <;> with_reducible rfl)
                              try simp only [Act.put, List.getElem_toArray, List.getElem_cons_zero, List.getElem_cons_succ, List.setIfInBounds_toArray, List.set_cons_zero, List.set_cons_succ]
                              have hAne : w.heap.size ≠ gA := by have := LA.out; omega
                              have hBne : w.heap.size ≠ gB := by have := LB.out; omega
                              refine wpAnyH_ready (rs := [19]) (by kernel_rfl) (by simp) ?_
                              refine AllReadyH.cons rfl (fun K hK => ?_) AllReadyH.nil
                              rw [if_pos (by rfl)]
                              have XB1 := hide (row_far (W := v18) (g := gA) #[.int .i64 a.kind, .int .i64 a.level, .slice a.aI a.items.length a.cI, .slice a.aD a.data.length a.cD, .int .i64 a.next] XB.out (Ne.symm NE.out))
                              refine wp_store_row 25 _ _ rfl gA _ rfl rfl 25 _ XA.out sizePage rfl (by simp [Value.oneCell']) ?_
                              refine hK.out _ _ (cells12b (row_far _ (BX.out _ BB.out) hAne)) (fun hHeld => ?_)
                              clear hK K
                              try simp only [Act.put, List.getElem_toArray, List.getElem_cons_zero, List.getElem_cons_succ, List.setIfInBounds_toArray, List.set_cons_zero, List.set_cons_succ]
                              refine wpAnyH_ready (rs := [20]) (by kernel_rfl) (by simp) ?_
                              refine AllReadyH.cons rfl (fun K hK => ?_) AllReadyH.nil
                              rw [if_pos (by rfl)]
                              refine wp_store_row 25 _ _ rfl gB _ rfl rfl 25 _ XB1.out sizePage rfl (by simp [Value.oneCell']) ?_
                              refine hK.out _ _ (cells12b (row_far _ (row_far _ (BX.out _ BB.out) hAne) hBne)) (fun hHeld => ?_)
                              clear hK K
                              try simp only [Act.put, List.getElem_toArray, List.getElem_cons_zero, List.getElem_cons_succ, List.setIfInBounds_toArray, List.set_cons_zero, List.set_cons_succ]
                              refine wpAnyH_take (i := 21) (v := ?vau12314171821) rfl (by kernel_rfl) (by kernel_rfl) (by kernel_rfl) (fun _ _ _ h => h) (Or.inl ⟨by rfl, ?hyu12314171821⟩) (by assumption) ?rau12314171821
                              case hyu12314171821 => (intro wq hSw; (try dsimp only at hSw); obtain ⟨e0, e1, e2, e3, e4, e5, e6, e7, e8, e9, e10, e11⟩ := hSw; go_simp <;> with_reducible rfl)
                              try simp only [Act.put, List.getElem_toArray, List.getElem_cons_zero, List.getElem_cons_succ, List.setIfInBounds_toArray, List.set_cons_zero, List.set_cons_succ]
                              refine wpAnyH_take (i := 22) (v := ?vau12314171822) rfl (by kernel_rfl) (by kernel_rfl) (by kernel_rfl) (fun _ _ _ h => h) (Or.inl ⟨by rfl, ?hyu12314171822⟩) (by assumption) ?rau12314171822
                              case hyu12314171822 => (intro wq hSw; (try dsimp only at hSw); obtain ⟨e0, e1, e2, e3, e4, e5, e6, e7, e8, e9, e10, e11⟩ := hSw; go_simp <;> with_reducible rfl)
                              try simp only [Act.put, List.getElem_toArray, List.getElem_cons_zero, List.getElem_cons_succ, List.setIfInBounds_toArray, List.set_cons_zero, List.set_cons_succ]
                              refine wpAnyH_done (by kernel_rfl) ?_ _
                              clear hHeld
                              go_wp2_with fail
                              go_meet
                              case rel => exact ⟨gA, gB, a, b, aU, cU, rfl, rfl, rfl, rfl, ⟨row_far _ (setRow_heap _ _ _ _ _ _ XA.out) NE.out, setRow_heap _ _ _ _ _ _ XB1.out, (HQ.out.but (but_setRow _ gA _) (fun k hk => ⟨_, _, by subst hk; exact XA.out, by decide, by decide⟩) (below_row _ HQ.out.b LA.out)).but (but_setRow _ gB _) (fun k hk => ⟨_, _, by subst hk; exact XB1.out, by decide, by decide⟩) (below_row _ (below_row _ HQ.out.b LA.out) LB.out), EA.out, EB.out⟩, below_row _ (below_row _ B5W.out LAx.out) LBx.out⟩
                      · go_simp
                        have AL := hide (al v2 (.cells #[.int .i64 0, .int .i64 0, .slice none 0 0, .slice none 0 0, .int .i64 0] 25))
                        have LA : Hid (w1.heap.size ≤ v2.heap.size) := BB.out.size
                        have LAx : Hid (w6.heap.size ≤ v2.heap.size) := B5W.out.size
                        replace SX := hide (SX.out.keep AL.out)
                        replace SY := hide (SY.out.keep AL.out)
                        replace B5W := hide (bt B5W.out AL.out)
                        replace BB := hide (bt BB.out AL.out)
                        have XA := hide (heap_alloc_new v2 (.cells #[.int .i64 0, .int .i64 0, .slice none 0 0, .slice none 0 0, .int .i64 0] 25))
                        refine hK.out _ _ (SS.out _ BB.out) (fun hHeld => ?_)
                        clear hK K AL
                        try simp only [Act.put, List.getElem_toArray, List.getElem_cons_zero, List.getElem_cons_succ, List.setIfInBounds_toArray, List.set_cons_zero, List.set_cons_succ]
                        generalize (v2.alloc (.cells #[.int .i64 0, .int .i64 0, .slice none 0 0, .slice none 0 0, .int .i64 0] 25)) = v19 at *
                        generalize v2.heap.size = gA at *
                        refine wpAnyH_ready (rs := [8, 18]) (by kernel_rfl) (by simp) ?_
                        refine (AllReadyH.cons rfl (fun K hK => ?_) (AllReadyH.cons rfl (fun K hK => ?_) AllReadyH.nil))
                        · go_simp
                          refine (SP3.out _ BB.out).mono ?_
                          rintro _ v20 ⟨aK, cK, rfl, hO⟩
                          have hb := hO.b
                          have SK := hide hO.r
                          replace SX := hide (SX.out.keep hb)
                          replace SY := hide (SY.out.keep hb)
                          replace XA := hide (blk_keep XA.out hb)
                          replace B5W := hide (bt B5W.out hb)
                          replace BB := hide (bt BB.out hb)
                          clear hO hb
                          go_wp2_with fail
                          refine hK.out _ _ (SS.out _ BB.out) (fun hHeld => ?_)
                          clear hK K
                          try simp only [Act.put, List.getElem_toArray, List.getElem_cons_zero, List.getElem_cons_succ, List.setIfInBounds_toArray, List.set_cons_zero, List.set_cons_succ]
                          refine wpAnyH_ready (rs := [11, 18]) (by kernel_rfl) (by simp) ?_
                          refine (AllReadyH.cons rfl (fun K hK => ?_) (AllReadyH.cons rfl (fun K hK => ?_) AllReadyH.nil))
                          · go_simp
                            refine (LN.out _ x y aK cK BB.out SX.out SY.out SK.out EX.out EY.out).mono ?_
                            rintro _ v21 ⟨a, b, aU, cU, rfl, hH, ha, hb2⟩
                            have hb := hH.b
                            have HQ := hide (hH.pre BB.out)
                            have EA := hide ha
                            have EB := hide hb2
                            clear SX SY SK
                            replace XA := hide (blk_keep XA.out hb)
                            replace B5W := hide (bt B5W.out hb)
                            replace BB := hide (bt BB.out hb)
                            clear hH ha hb2 hb
                            go_wp2_with fail
                            refine hK.out _ _ (SS.out _ BB.out) (fun hHeld => ?_)
                            clear hK K
                            try simp only [Act.put, List.getElem_toArray, List.getElem_cons_zero, List.getElem_cons_succ, List.setIfInBounds_toArray, List.set_cons_zero, List.set_cons_succ]
                            refine wpAnyH_take (i := 12) (v := ?vau12192021x12) rfl (by kernel_rfl) (by kernel_rfl) (by kernel_rfl) (fun _ _ _ h => h) (Or.inl ⟨by rfl, ?hyu12192021x12⟩) (by assumption) ?rau12192021x12
                            case hyu12192021x12 => (intro wq hSw; (try dsimp only at hSw); obtain ⟨e0, e1, e2, e3, e4, e5, e6, e7, e8, e9, e10, e11⟩ := hSw; go_simp <;> with_reducible rfl)
                            try simp only [Act.put, List.getElem_toArray, List.getElem_cons_zero, List.getElem_cons_succ, List.setIfInBounds_toArray, List.set_cons_zero, List.set_cons_succ]
                            refine wpAnyH_take (i := 13) (v := ?vau12192021x13) rfl (by kernel_rfl) (by kernel_rfl) (by kernel_rfl) (fun _ _ _ h => h) (Or.inl ⟨by rfl, ?hyu12192021x13⟩) (by assumption) ?rau12192021x13
                            case hyu12192021x13 => (intro wq hSw; (try dsimp only at hSw); obtain ⟨e0, e1, e2, e3, e4, e5, e6, e7, e8, e9, e10, e11⟩ := hSw; go_simp <;> with_reducible rfl)
                            try simp only [Act.put, List.getElem_toArray, List.getElem_cons_zero, List.getElem_cons_succ, List.setIfInBounds_toArray, List.set_cons_zero, List.set_cons_succ]
                            refine wpAnyH_take (i := 14) (v := ?vau12192021x14) rfl (by kernel_rfl) (by kernel_rfl) (by kernel_rfl) (fun _ _ _ h => h) (Or.inl ⟨by rfl, ?hyu12192021x14⟩) (by assumption) ?rau12192021x14
                            case hyu12192021x14 => (intro wq hSw; (try dsimp only at hSw); obtain ⟨e0, e1, e2, e3, e4, e5, e6, e7, e8, e9, e10, e11⟩ := hSw; go_simp <;> with_reducible rfl)
                            try simp only [Act.put, List.getElem_toArray, List.getElem_cons_zero, List.getElem_cons_succ, List.setIfInBounds_toArray, List.set_cons_zero, List.set_cons_succ]
                            refine wpAnyH_take (i := 15) (v := ?vau12192021x15) rfl (by kernel_rfl) (by kernel_rfl) (by kernel_rfl) (fun _ _ _ h => h) (Or.inl ⟨by rfl, ?hyu12192021x15⟩) (by assumption) ?rau12192021x15
                            case hyu12192021x15 => (intro wq hSw; (try dsimp only at hSw); obtain ⟨e0, e1, e2, e3, e4, e5, e6, e7, e8, e9, e10, e11⟩ := hSw; go_simp <;> with_reducible rfl)
                            try simp only [Act.put, List.getElem_toArray, List.getElem_cons_zero, List.getElem_cons_succ, List.setIfInBounds_toArray, List.set_cons_zero, List.set_cons_succ]
                            refine wpAnyH_take (i := 16) (v := ?vau12192021x16) rfl (by kernel_rfl) (by kernel_rfl) (by kernel_rfl) (fun _ _ _ h => h) (Or.inl ⟨by rfl, ?hyu12192021x16⟩) (by assumption) ?rau12192021x16
                            case hyu12192021x16 => (intro wq hSw; (try dsimp only at hSw); obtain ⟨e0, e1, e2, e3, e4, e5, e6, e7, e8, e9, e10, e11⟩ := hSw; go_simp <;> with_reducible rfl)
                            try simp only [Act.put, List.getElem_toArray, List.getElem_cons_zero, List.getElem_cons_succ, List.setIfInBounds_toArray, List.set_cons_zero, List.set_cons_succ]
                            refine wpAnyH_ready (rs := [18]) (by kernel_rfl) (by simp) ?_
                            refine (AllReadyH.cons rfl (fun K hK => ?_) AllReadyH.nil)
                            · go_simp
                              have AL := hide (al v21 (.cells #[.int .i64 0, .int .i64 0, .slice none 0 0, .slice none 0 0, .int .i64 0] 25))
                              have LB : Hid (w1.heap.size ≤ v21.heap.size) := BB.out.size
                              have LBx : Hid (w6.heap.size ≤ v21.heap.size) := B5W.out.size
                              have NE : Hid (gA ≠ v21.heap.size) := by have := (Array.getElem?_eq_some_iff.1 XA.out).1; show _ ≠ _; omega
                              replace HQ := hide (HQ.out.keep AL.out)
                              replace XA := hide (blk_keep XA.out AL.out)
                              replace B5W := hide (bt B5W.out AL.out)
                              replace BB := hide (bt BB.out AL.out)
                              have XB := hide (heap_alloc_new v21 (.cells #[.int .i64 0, .int .i64 0, .slice none 0 0, .slice none 0 0, .int .i64 0] 25))
                              refine hK.out _ _ (SS.out _ BB.out) (fun hHeld => ?_)
                              clear hK K AL
                              try simp only [Act.put, List.getElem_toArray, List.getElem_cons_zero, List.getElem_cons_succ, List.setIfInBounds_toArray, List.set_cons_zero, List.set_cons_succ]
                              generalize (v21.alloc (.cells #[.int .i64 0, .int .i64 0, .slice none 0 0, .slice none 0 0, .int .i64 0] 25)) = v22 at *
                              generalize v21.heap.size = gB at *
                              have hAne : w.heap.size ≠ gA := by have := LA.out; omega
                              have hBne : w.heap.size ≠ gB := by have := LB.out; omega
                              refine wpAnyH_ready (rs := [19]) (by kernel_rfl) (by simp) ?_
                              refine AllReadyH.cons rfl (fun K hK => ?_) AllReadyH.nil
                              rw [if_pos (by rfl)]
                              have XB1 := hide (row_far (W := v22) (g := gA) #[.int .i64 a.kind, .int .i64 a.level, .slice a.aI a.items.length a.cI, .slice a.aD a.data.length a.cD, .int .i64 a.next] XB.out (Ne.symm NE.out))
                              refine wp_store_row 25 _ _ rfl gA _ rfl rfl 25 _ XA.out sizePage rfl (by simp [Value.oneCell']) ?_
                              refine hK.out _ _ (cells12b (row_far _ (BX.out _ BB.out) hAne)) (fun hHeld => ?_)
                              clear hK K
                              try simp only [Act.put, List.getElem_toArray, List.getElem_cons_zero, List.getElem_cons_succ, List.setIfInBounds_toArray, List.set_cons_zero, List.set_cons_succ]
                              refine wpAnyH_ready (rs := [20]) (by kernel_rfl) (by simp) ?_
                              refine AllReadyH.cons rfl (fun K hK => ?_) AllReadyH.nil
                              rw [if_pos (by rfl)]
                              refine wp_store_row 25 _ _ rfl gB _ rfl rfl 25 _ XB1.out sizePage rfl (by simp [Value.oneCell']) ?_
                              refine hK.out _ _ (cells12b (row_far _ (row_far _ (BX.out _ BB.out) hAne) hBne)) (fun hHeld => ?_)
                              clear hK K
                              try simp only [Act.put, List.getElem_toArray, List.getElem_cons_zero, List.getElem_cons_succ, List.setIfInBounds_toArray, List.set_cons_zero, List.set_cons_succ]
                              refine wpAnyH_take (i := 21) (v := ?vau121920212221) rfl (by kernel_rfl) (by kernel_rfl) (by kernel_rfl) (fun _ _ _ h => h) (Or.inl ⟨by rfl, ?hyu121920212221⟩) (by assumption) ?rau121920212221
                              case hyu121920212221 => (intro wq hSw; (try dsimp only at hSw); obtain ⟨e0, e1, e2, e3, e4, e5, e6, e7, e8, e9, e10, e11⟩ := hSw; go_simp <;> with_reducible rfl)
                              try simp only [Act.put, List.getElem_toArray, List.getElem_cons_zero, List.getElem_cons_succ, List.setIfInBounds_toArray, List.set_cons_zero, List.set_cons_succ]
                              refine wpAnyH_take (i := 22) (v := ?vau121920212222) rfl (by kernel_rfl) (by kernel_rfl) (by kernel_rfl) (fun _ _ _ h => h) (Or.inl ⟨by rfl, ?hyu121920212222⟩) (by assumption) ?rau121920212222
                              case hyu121920212222 => (intro wq hSw; (try dsimp only at hSw); obtain ⟨e0, e1, e2, e3, e4, e5, e6, e7, e8, e9, e10, e11⟩ := hSw; go_simp <;> with_reducible rfl)
                              try simp only [Act.put, List.getElem_toArray, List.getElem_cons_zero, List.getElem_cons_succ, List.setIfInBounds_toArray, List.set_cons_zero, List.set_cons_succ]
                              refine wpAnyH_done (by kernel_rfl) ?_ _
                              clear hHeld
                              go_wp2_with fail
                              go_meet
                              case rel => exact ⟨gA, gB, a, b, aU, cU, rfl, rfl, rfl, rfl, ⟨row_far _ (setRow_heap _ _ _ _ _ _ XA.out) NE.out, setRow_heap _ _ _ _ _ _ XB1.out, (HQ.out.but (but_setRow _ gA _) (fun k hk => ⟨_, _, by subst hk; exact XA.out, by decide, by decide⟩) (below_row _ HQ.out.b LA.out)).but (but_setRow _ gB _) (fun k hk => ⟨_, _, by subst hk; exact XB1.out, by decide, by decide⟩) (below_row _ (below_row _ HQ.out.b LA.out) LB.out), EA.out, EB.out⟩, below_row _ (below_row _ B5W.out LAx.out) LBx.out⟩
                          · go_simp
                            have AL := hide (al v20 (.cells #[.int .i64 0, .int .i64 0, .slice none 0 0, .slice none 0 0, .int .i64 0] 25))
                            have LB : Hid (w1.heap.size ≤ v20.heap.size) := BB.out.size
                            have LBx : Hid (w6.heap.size ≤ v20.heap.size) := B5W.out.size
                            have NE : Hid (gA ≠ v20.heap.size) := by have := (Array.getElem?_eq_some_iff.1 XA.out).1; show _ ≠ _; omega
                            replace SX := hide (SX.out.keep AL.out)
                            replace SY := hide (SY.out.keep AL.out)
                            replace SK := hide (SK.out.keep AL.out)
                            replace XA := hide (blk_keep XA.out AL.out)
                            replace B5W := hide (bt B5W.out AL.out)
                            replace BB := hide (bt BB.out AL.out)
                            have XB := hide (heap_alloc_new v20 (.cells #[.int .i64 0, .int .i64 0, .slice none 0 0, .slice none 0 0, .int .i64 0] 25))
                            refine hK.out _ _ (SS.out _ BB.out) (fun hHeld => ?_)
                            clear hK K AL
                            try simp only [Act.put, List.getElem_toArray, List.getElem_cons_zero, List.getElem_cons_succ, List.setIfInBounds_toArray, List.set_cons_zero, List.set_cons_succ]
                            generalize (v20.alloc (.cells #[.int .i64 0, .int .i64 0, .slice none 0 0, .slice none 0 0, .int .i64 0] 25)) = v23 at *
                            generalize v20.heap.size = gB at *
                            refine wpAnyH_ready (rs := [11]) (by kernel_rfl) (by simp) ?_
                            refine (AllReadyH.cons rfl (fun K hK => ?_) AllReadyH.nil)
                            · go_simp
                              refine (LN.out _ x y aK cK BB.out SX.out SY.out SK.out EX.out EY.out).mono ?_
                              rintro _ v24 ⟨a, b, aU, cU, rfl, hH, ha, hb2⟩
                              have hb := hH.b
                              have HQ := hide (hH.pre BB.out)
                              have EA := hide ha
                              have EB := hide hb2
                              clear SX SY SK
                              replace XA := hide (blk_keep XA.out hb)
                              replace XB := hide (blk_keep XB.out hb)
                              replace B5W := hide (bt B5W.out hb)
                              replace BB := hide (bt BB.out hb)
                              clear hH ha hb2 hb
                              go_wp2_with fail
                              refine hK.out _ _ (SS.out _ BB.out) (fun hHeld => ?_)
                              clear hK K
                              try simp only [Act.put, List.getElem_toArray, List.getElem_cons_zero, List.getElem_cons_succ, List.setIfInBounds_toArray, List.set_cons_zero, List.set_cons_succ]
                              refine wpAnyH_take (i := 12) (v := ?vau1219202324x12) rfl (by kernel_rfl) (by kernel_rfl) (by kernel_rfl) (fun _ _ _ h => h) (Or.inl ⟨by rfl, ?hyu1219202324x12⟩) (by assumption) ?rau1219202324x12
                              case hyu1219202324x12 => (intro wq hSw; (try dsimp only at hSw); obtain ⟨e0, e1, e2, e3, e4, e5, e6, e7, e8, e9, e10, e11⟩ := hSw; go_simp <;> with_reducible rfl)
                              try simp only [Act.put, List.getElem_toArray, List.getElem_cons_zero, List.getElem_cons_succ, List.setIfInBounds_toArray, List.set_cons_zero, List.set_cons_succ]
                              refine wpAnyH_take (i := 13) (v := ?vau1219202324x13) rfl (by kernel_rfl) (by kernel_rfl) (by kernel_rfl) (fun _ _ _ h => h) (Or.inl ⟨by rfl, ?hyu1219202324x13⟩) (by assumption) ?rau1219202324x13
                              case hyu1219202324x13 => (intro wq hSw; (try dsimp only at hSw); obtain ⟨e0, e1, e2, e3, e4, e5, e6, e7, e8, e9, e10, e11⟩ := hSw; go_simp <;> with_reducible rfl)
                              try simp only [Act.put, List.getElem_toArray, List.getElem_cons_zero, List.getElem_cons_succ, List.setIfInBounds_toArray, List.set_cons_zero, List.set_cons_succ]
                              refine wpAnyH_take (i := 14) (v := ?vau1219202324x14) rfl (by kernel_rfl) (by kernel_rfl) (by kernel_rfl) (fun _ _ _ h => h) (Or.inl ⟨by rfl, ?hyu1219202324x14⟩) (by assumption) ?rau1219202324x14
                              case hyu1219202324x14 => (intro wq hSw; (try dsimp only at hSw); obtain ⟨e0, e1, e2, e3, e4, e5, e6, e7, e8, e9, e10, e11⟩ := hSw; go_simp <;> with_reducible rfl)
                              try simp only [Act.put, List.getElem_toArray, List.getElem_cons_zero, List.getElem_cons_succ, List.setIfInBounds_toArray, List.set_cons_zero, List.set_cons_succ]
                              refine wpAnyH_take (i := 15) (v := ?vau1219202324x15) rfl (by kernel_rfl) (by kernel_rfl) (by kernel_rfl) (fun _ _ _ h => h) (Or.inl ⟨by rfl, ?hyu1219202324x15⟩) (by assumption) ?rau1219202324x15
                              case hyu1219202324x15 => (intro wq hSw; (try dsimp only at hSw); obtain ⟨e0, e1, e2, e3, e4, e5, e6, e7, e8, e9, e10, e11⟩ := hSw; go_simp <;> with_reducible rfl)
                              try simp only [Act.put, List.getElem_toArray, List.getElem_cons_zero, List.getElem_cons_succ, List.setIfInBounds_toArray, List.set_cons_zero, List.set_cons_succ]
                              refine wpAnyH_take (i := 16) (v := ?vau1219202324x16) rfl (by kernel_rfl) (by kernel_rfl) (by kernel_rfl) (fun _ _ _ h => h) (Or.inl ⟨by rfl, ?hyu1219202324x16⟩) (by assumption) ?rau1219202324x16
                              case hyu1219202324x16 => (intro wq hSw; (try dsimp only at hSw); obtain ⟨e0, e1, e2, e3, e4, e5, e6, e7, e8, e9, e10, e11⟩ := hSw; go_simp <;> with_reducible rfl)
                              try simp only [Act.put, List.getElem_toArray, List.getElem_cons_zero, List.getElem_cons_succ, List.setIfInBounds_toArray, List.set_cons_zero, List.set_cons_succ]
                              have hAne : w.heap.size ≠ gA := by have := LA.out; omega
                              have hBne : w.heap.size ≠ gB := by have := LB.out; omega
                              refine wpAnyH_ready (rs := [19]) (by kernel_rfl) (by simp) ?_
                              refine AllReadyH.cons rfl (fun K hK => ?_) AllReadyH.nil
                              rw [if_pos (by rfl)]
                              have XB1 := hide (row_far (W := v24) (g := gA) #[.int .i64 a.kind, .int .i64 a.level, .slice a.aI a.items.length a.cI, .slice a.aD a.data.length a.cD, .int .i64 a.next] XB.out (Ne.symm NE.out))
                              refine wp_store_row 25 _ _ rfl gA _ rfl rfl 25 _ XA.out sizePage rfl (by simp [Value.oneCell']) ?_
                              refine hK.out _ _ (cells12b (row_far _ (BX.out _ BB.out) hAne)) (fun hHeld => ?_)
                              clear hK K
                              try simp only [Act.put, List.getElem_toArray, List.getElem_cons_zero, List.getElem_cons_succ, List.setIfInBounds_toArray, List.set_cons_zero, List.set_cons_succ]
                              refine wpAnyH_ready (rs := [20]) (by kernel_rfl) (by simp) ?_
                              refine AllReadyH.cons rfl (fun K hK => ?_) AllReadyH.nil
                              rw [if_pos (by rfl)]
                              refine wp_store_row 25 _ _ rfl gB _ rfl rfl 25 _ XB1.out sizePage rfl (by simp [Value.oneCell']) ?_
                              refine hK.out _ _ (cells12b (row_far _ (row_far _ (BX.out _ BB.out) hAne) hBne)) (fun hHeld => ?_)
                              clear hK K
                              try simp only [Act.put, List.getElem_toArray, List.getElem_cons_zero, List.getElem_cons_succ, List.setIfInBounds_toArray, List.set_cons_zero, List.set_cons_succ]
                              refine wpAnyH_take (i := 21) (v := ?vau121920232421) rfl (by kernel_rfl) (by kernel_rfl) (by kernel_rfl) (fun _ _ _ h => h) (Or.inl ⟨by rfl, ?hyu121920232421⟩) (by assumption) ?rau121920232421
                              case hyu121920232421 => (intro wq hSw; (try dsimp only at hSw); obtain ⟨e0, e1, e2, e3, e4, e5, e6, e7, e8, e9, e10, e11⟩ := hSw; go_simp <;> with_reducible rfl)
                              try simp only [Act.put, List.getElem_toArray, List.getElem_cons_zero, List.getElem_cons_succ, List.setIfInBounds_toArray, List.set_cons_zero, List.set_cons_succ]
                              refine wpAnyH_take (i := 22) (v := ?vau121920232422) rfl (by kernel_rfl) (by kernel_rfl) (by kernel_rfl) (fun _ _ _ h => h) (Or.inl ⟨by rfl, ?hyu121920232422⟩) (by assumption) ?rau121920232422
                              case hyu121920232422 => (intro wq hSw; (try dsimp only at hSw); obtain ⟨e0, e1, e2, e3, e4, e5, e6, e7, e8, e9, e10, e11⟩ := hSw; go_simp <;> with_reducible rfl)
                              try simp only [Act.put, List.getElem_toArray, List.getElem_cons_zero, List.getElem_cons_succ, List.setIfInBounds_toArray, List.set_cons_zero, List.set_cons_succ]
                              refine wpAnyH_done (by kernel_rfl) ?_ _
                              clear hHeld
                              go_wp2_with fail
                              go_meet
                              case rel => exact ⟨gA, gB, a, b, aU, cU, rfl, rfl, rfl, rfl, ⟨row_far _ (setRow_heap _ _ _ _ _ _ XA.out) NE.out, setRow_heap _ _ _ _ _ _ XB1.out, (HQ.out.but (but_setRow _ gA _) (fun k hk => ⟨_, _, by subst hk; exact XA.out, by decide, by decide⟩) (below_row _ HQ.out.b LA.out)).but (but_setRow _ gB _) (fun k hk => ⟨_, _, by subst hk; exact XB1.out, by decide, by decide⟩) (below_row _ (below_row _ HQ.out.b LA.out) LB.out), EA.out, EB.out⟩, below_row _ (below_row _ B5W.out LAx.out) LBx.out⟩
                        · go_simp
                          have AL := hide (al v19 (.cells #[.int .i64 0, .int .i64 0, .slice none 0 0, .slice none 0 0, .int .i64 0] 25))
                          have LB : Hid (w1.heap.size ≤ v19.heap.size) := BB.out.size
                          have LBx : Hid (w6.heap.size ≤ v19.heap.size) := B5W.out.size
                          have NE : Hid (gA ≠ v19.heap.size) := by have := (Array.getElem?_eq_some_iff.1 XA.out).1; show _ ≠ _; omega
                          replace SX := hide (SX.out.keep AL.out)
                          replace SY := hide (SY.out.keep AL.out)
                          replace XA := hide (blk_keep XA.out AL.out)
                          replace B5W := hide (bt B5W.out AL.out)
                          replace BB := hide (bt BB.out AL.out)
                          have XB := hide (heap_alloc_new v19 (.cells #[.int .i64 0, .int .i64 0, .slice none 0 0, .slice none 0 0, .int .i64 0] 25))
                          refine hK.out _ _ (SS.out _ BB.out) (fun hHeld => ?_)
                          clear hK K AL
                          try simp only [Act.put, List.getElem_toArray, List.getElem_cons_zero, List.getElem_cons_succ, List.setIfInBounds_toArray, List.set_cons_zero, List.set_cons_succ]
                          generalize (v19.alloc (.cells #[.int .i64 0, .int .i64 0, .slice none 0 0, .slice none 0 0, .int .i64 0] 25)) = v25 at *
                          generalize v19.heap.size = gB at *
                          refine wpAnyH_ready (rs := [8]) (by kernel_rfl) (by simp) ?_
                          refine (AllReadyH.cons rfl (fun K hK => ?_) AllReadyH.nil)
                          · go_simp
                            refine (SP3.out _ BB.out).mono ?_
                            rintro _ v26 ⟨aK, cK, rfl, hO⟩
                            have hb := hO.b
                            have SK := hide hO.r
                            replace SX := hide (SX.out.keep hb)
                            replace SY := hide (SY.out.keep hb)
                            replace XA := hide (blk_keep XA.out hb)
                            replace XB := hide (blk_keep XB.out hb)
                            replace B5W := hide (bt B5W.out hb)
                            replace BB := hide (bt BB.out hb)
                            clear hO hb
                            go_wp2_with fail
                            refine hK.out _ _ (SS.out _ BB.out) (fun hHeld => ?_)
                            clear hK K
                            try simp only [Act.put, List.getElem_toArray, List.getElem_cons_zero, List.getElem_cons_succ, List.setIfInBounds_toArray, List.set_cons_zero, List.set_cons_succ]
                            refine wpAnyH_ready (rs := [11]) (by kernel_rfl) (by simp) ?_
                            refine (AllReadyH.cons rfl (fun K hK => ?_) AllReadyH.nil)
                            · go_simp
                              refine (LN.out _ x y aK cK BB.out SX.out SY.out SK.out EX.out EY.out).mono ?_
                              rintro _ v27 ⟨a, b, aU, cU, rfl, hH, ha, hb2⟩
                              have hb := hH.b
                              have HQ := hide (hH.pre BB.out)
                              have EA := hide ha
                              have EB := hide hb2
                              clear SX SY SK
                              replace XA := hide (blk_keep XA.out hb)
                              replace XB := hide (blk_keep XB.out hb)
                              replace B5W := hide (bt B5W.out hb)
                              replace BB := hide (bt BB.out hb)
                              clear hH ha hb2 hb
                              go_wp2_with fail
                              refine hK.out _ _ (SS.out _ BB.out) (fun hHeld => ?_)
                              clear hK K
                              try simp only [Act.put, List.getElem_toArray, List.getElem_cons_zero, List.getElem_cons_succ, List.setIfInBounds_toArray, List.set_cons_zero, List.set_cons_succ]
                              refine wpAnyH_take (i := 12) (v := ?vau1219252627x12) rfl (by kernel_rfl) (by kernel_rfl) (by kernel_rfl) (fun _ _ _ h => h) (Or.inl ⟨by rfl, ?hyu1219252627x12⟩) (by assumption) ?rau1219252627x12
                              case hyu1219252627x12 => (intro wq hSw; (try dsimp only at hSw); obtain ⟨e0, e1, e2, e3, e4, e5, e6, e7, e8, e9, e10, e11⟩ := hSw; go_simp <;> with_reducible rfl)
                              try simp only [Act.put, List.getElem_toArray, List.getElem_cons_zero, List.getElem_cons_succ, List.setIfInBounds_toArray, List.set_cons_zero, List.set_cons_succ]
                              refine wpAnyH_take (i := 13) (v := ?vau1219252627x13) rfl (by kernel_rfl) (by kernel_rfl) (by kernel_rfl) (fun _ _ _ h => h) (Or.inl ⟨by rfl, ?hyu1219252627x13⟩) (by assumption) ?rau1219252627x13
                              case hyu1219252627x13 => (intro wq hSw; (try dsimp only at hSw); obtain ⟨e0, e1, e2, e3, e4, e5, e6, e7, e8, e9, e10, e11⟩ := hSw; go_simp <;> with_reducible rfl)
                              try simp only [Act.put, List.getElem_toArray, List.getElem_cons_zero, List.getElem_cons_succ, List.setIfInBounds_toArray, List.set_cons_zero, List.set_cons_succ]
                              refine wpAnyH_take (i := 14) (v := ?vau1219252627x14) rfl (by kernel_rfl) (by kernel_rfl) (by kernel_rfl) (fun _ _ _ h => h) (Or.inl ⟨by rfl, ?hyu1219252627x14⟩) (by assumption) ?rau1219252627x14
                              case hyu1219252627x14 => (intro wq hSw; (try dsimp only at hSw); obtain ⟨e0, e1, e2, e3, e4, e5, e6, e7, e8, e9, e10, e11⟩ := hSw; go_simp <;> with_reducible rfl)
                              try simp only [Act.put, List.getElem_toArray, List.getElem_cons_zero, List.getElem_cons_succ, List.setIfInBounds_toArray, List.set_cons_zero, List.set_cons_succ]
                              refine wpAnyH_take (i := 15) (v := ?vau1219252627x15) rfl (by kernel_rfl) (by kernel_rfl) (by kernel_rfl) (fun _ _ _ h => h) (Or.inl ⟨by rfl, ?hyu1219252627x15⟩) (by assumption) ?rau1219252627x15
                              case hyu1219252627x15 => (intro wq hSw; (try dsimp only at hSw); obtain ⟨e0, e1, e2, e3, e4, e5, e6, e7, e8, e9, e10, e11⟩ := hSw; go_simp <;> with_reducible rfl)
                              try simp only [Act.put, List.getElem_toArray, List.getElem_cons_zero, List.getElem_cons_succ, List.setIfInBounds_toArray, List.set_cons_zero, List.set_cons_succ]
                              refine wpAnyH_take (i := 16) (v := ?vau1219252627x16) rfl (by kernel_rfl) (by kernel_rfl) (by kernel_rfl) (fun _ _ _ h => h) (Or.inl ⟨by rfl, ?hyu1219252627x16⟩) (by assumption) ?rau1219252627x16
                              case hyu1219252627x16 => (intro wq hSw; (try dsimp only at hSw); obtain ⟨e0, e1, e2, e3, e4, e5, e6, e7, e8, e9, e10, e11⟩ := hSw; go_simp <;> with_reducible rfl)
                              try simp only [Act.put, List.getElem_toArray, List.getElem_cons_zero, List.getElem_cons_succ, List.setIfInBounds_toArray, List.set_cons_zero, List.set_cons_succ]
                              have hAne : w.heap.size ≠ gA := by have := LA.out; omega
                              have hBne : w.heap.size ≠ gB := by have := LB.out; omega
                              refine wpAnyH_ready (rs := [19]) (by kernel_rfl) (by simp) ?_
                              refine AllReadyH.cons rfl (fun K hK => ?_) AllReadyH.nil
                              rw [if_pos (by rfl)]
                              have XB1 := hide (row_far (W := v27) (g := gA) #[.int .i64 a.kind, .int .i64 a.level, .slice a.aI a.items.length a.cI, .slice a.aD a.data.length a.cD, .int .i64 a.next] XB.out (Ne.symm NE.out))
                              refine wp_store_row 25 _ _ rfl gA _ rfl rfl 25 _ XA.out sizePage rfl (by simp [Value.oneCell']) ?_
                              refine hK.out _ _ (cells12b (row_far _ (BX.out _ BB.out) hAne)) (fun hHeld => ?_)
                              clear hK K
                              try simp only [Act.put, List.getElem_toArray, List.getElem_cons_zero, List.getElem_cons_succ, List.setIfInBounds_toArray, List.set_cons_zero, List.set_cons_succ]
                              refine wpAnyH_ready (rs := [20]) (by kernel_rfl) (by simp) ?_
                              refine AllReadyH.cons rfl (fun K hK => ?_) AllReadyH.nil
                              rw [if_pos (by rfl)]
                              refine wp_store_row 25 _ _ rfl gB _ rfl rfl 25 _ XB1.out sizePage rfl (by simp [Value.oneCell']) ?_
                              refine hK.out _ _ (cells12b (row_far _ (row_far _ (BX.out _ BB.out) hAne) hBne)) (fun hHeld => ?_)
                              clear hK K
                              try simp only [Act.put, List.getElem_toArray, List.getElem_cons_zero, List.getElem_cons_succ, List.setIfInBounds_toArray, List.set_cons_zero, List.set_cons_succ]
                              refine wpAnyH_take (i := 21) (v := ?vau121925262721) rfl (by kernel_rfl) (by kernel_rfl) (by kernel_rfl) (fun _ _ _ h => h) (Or.inl ⟨by rfl, ?hyu121925262721⟩) (by assumption) ?rau121925262721
                              case hyu121925262721 => (intro wq hSw; (try dsimp only at hSw); obtain ⟨e0, e1, e2, e3, e4, e5, e6, e7, e8, e9, e10, e11⟩ := hSw; go_simp <;> with_reducible rfl)
                              try simp only [Act.put, List.getElem_toArray, List.getElem_cons_zero, List.getElem_cons_succ, List.setIfInBounds_toArray, List.set_cons_zero, List.set_cons_succ]
                              refine wpAnyH_take (i := 22) (v := ?vau121925262722) rfl (by kernel_rfl) (by kernel_rfl) (by kernel_rfl) (fun _ _ _ h => h) (Or.inl ⟨by rfl, ?hyu121925262722⟩) (by assumption) ?rau121925262722
                              case hyu121925262722 => (intro wq hSw; (try dsimp only at hSw); obtain ⟨e0, e1, e2, e3, e4, e5, e6, e7, e8, e9, e10, e11⟩ := hSw; go_simp <;> with_reducible rfl)
                              try simp only [Act.put, List.getElem_toArray, List.getElem_cons_zero, List.getElem_cons_succ, List.setIfInBounds_toArray, List.set_cons_zero, List.set_cons_succ]
                              refine wpAnyH_done (by kernel_rfl) ?_ _
                              clear hHeld
                              go_wp2_with fail
                              go_meet
                              case rel => exact ⟨gA, gB, a, b, aU, cU, rfl, rfl, rfl, rfl, ⟨row_far _ (setRow_heap _ _ _ _ _ _ XA.out) NE.out, setRow_heap _ _ _ _ _ _ XB1.out, (HQ.out.but (but_setRow _ gA _) (fun k hk => ⟨_, _, by subst hk; exact XA.out, by decide, by decide⟩) (below_row _ HQ.out.b LA.out)).but (but_setRow _ gB _) (fun k hk => ⟨_, _, by subst hk; exact XB1.out, by decide, by decide⟩) (below_row _ (below_row _ HQ.out.b LA.out) LB.out), EA.out, EB.out⟩, below_row _ (below_row _ B5W.out LAx.out) LBx.out⟩
                      · go_simp
                        have AL := hide (al v2 (.cells #[.int .i64 0, .int .i64 0, .slice none 0 0, .slice none 0 0, .int .i64 0] 25))
                        have LB : Hid (w1.heap.size ≤ v2.heap.size) := BB.out.size
                        have LBx : Hid (w6.heap.size ≤ v2.heap.size) := B5W.out.size
                        replace SX := hide (SX.out.keep AL.out)
                        replace SY := hide (SY.out.keep AL.out)
                        replace B5W := hide (bt B5W.out AL.out)
                        replace BB := hide (bt BB.out AL.out)
                        have XB := hide (heap_alloc_new v2 (.cells #[.int .i64 0, .int .i64 0, .slice none 0 0, .slice none 0 0, .int .i64 0] 25))
                        refine hK.out _ _ (SS.out _ BB.out) (fun hHeld => ?_)
                        clear hK K AL
                        try simp only [Act.put, List.getElem_toArray, List.getElem_cons_zero, List.getElem_cons_succ, List.setIfInBounds_toArray, List.set_cons_zero, List.set_cons_succ]
                        generalize (v2.alloc (.cells #[.int .i64 0, .int .i64 0, .slice none 0 0, .slice none 0 0, .int .i64 0] 25)) = v28 at *
                        generalize v2.heap.size = gB at *
                        refine wpAnyH_ready (rs := [8, 17]) (by kernel_rfl) (by simp) ?_
                        refine (AllReadyH.cons rfl (fun K hK => ?_) (AllReadyH.cons rfl (fun K hK => ?_) AllReadyH.nil))
                        · go_simp
                          refine (SP3.out _ BB.out).mono ?_
                          rintro _ v29 ⟨aK, cK, rfl, hO⟩
                          have hb := hO.b
                          have SK := hide hO.r
                          replace SX := hide (SX.out.keep hb)
                          replace SY := hide (SY.out.keep hb)
                          replace XB := hide (blk_keep XB.out hb)
                          replace B5W := hide (bt B5W.out hb)
                          replace BB := hide (bt BB.out hb)
                          clear hO hb
                          go_wp2_with fail
                          refine hK.out _ _ (SS.out _ BB.out) (fun hHeld => ?_)
                          clear hK K
                          try simp only [Act.put, List.getElem_toArray, List.getElem_cons_zero, List.getElem_cons_succ, List.setIfInBounds_toArray, List.set_cons_zero, List.set_cons_succ]
                          refine wpAnyH_ready (rs := [11, 17]) (by kernel_rfl) (by simp) ?_
                          refine (AllReadyH.cons rfl (fun K hK => ?_) (AllReadyH.cons rfl (fun K hK => ?_) AllReadyH.nil))
                          · go_simp
                            refine (LN.out _ x y aK cK BB.out SX.out SY.out SK.out EX.out EY.out).mono ?_
                            rintro _ v30 ⟨a, b, aU, cU, rfl, hH, ha, hb2⟩
                            have hb := hH.b
                            have HQ := hide (hH.pre BB.out)
                            have EA := hide ha
                            have EB := hide hb2
                            clear SX SY SK
                            replace XB := hide (blk_keep XB.out hb)
                            replace B5W := hide (bt B5W.out hb)
                            replace BB := hide (bt BB.out hb)
                            clear hH ha hb2 hb
                            go_wp2_with fail
                            refine hK.out _ _ (SS.out _ BB.out) (fun hHeld => ?_)
                            clear hK K
                            try simp only [Act.put, List.getElem_toArray, List.getElem_cons_zero, List.getElem_cons_succ, List.setIfInBounds_toArray, List.set_cons_zero, List.set_cons_succ]
                            refine wpAnyH_take (i := 12) (v := ?vau12282930x12) rfl (by kernel_rfl) (by kernel_rfl) (by kernel_rfl) (fun _ _ _ h => h) (Or.inl ⟨by rfl, ?hyu12282930x12⟩) (by assumption) ?rau12282930x12
                            case hyu12282930x12 => (intro wq hSw; (try dsimp only at hSw); obtain ⟨e0, e1, e2, e3, e4, e5, e6, e7, e8, e9, e10, e11⟩ := hSw; go_simp <;> with_reducible rfl)
                            try simp only [Act.put, List.getElem_toArray, List.getElem_cons_zero, List.getElem_cons_succ, List.setIfInBounds_toArray, List.set_cons_zero, List.set_cons_succ]
                            refine wpAnyH_take (i := 13) (v := ?vau12282930x13) rfl (by kernel_rfl) (by kernel_rfl) (by kernel_rfl) (fun _ _ _ h => h) (Or.inl ⟨by rfl, ?hyu12282930x13⟩) (by assumption) ?rau12282930x13
                            case hyu12282930x13 => (intro wq hSw; (try dsimp only at hSw); obtain ⟨e0, e1, e2, e3, e4, e5, e6, e7, e8, e9, e10, e11⟩ := hSw; go_simp <;> with_reducible rfl)
                            try simp only [Act.put, List.getElem_toArray, List.getElem_cons_zero, List.getElem_cons_succ, List.setIfInBounds_toArray, List.set_cons_zero, List.set_cons_succ]
                            refine wpAnyH_take (i := 14) (v := ?vau12282930x14) rfl (by kernel_rfl) (by kernel_rfl) (by kernel_rfl) (fun _ _ _ h => h) (Or.inl ⟨by rfl, ?hyu12282930x14⟩) (by assumption) ?rau12282930x14
                            case hyu12282930x14 => (intro wq hSw; (try dsimp only at hSw); obtain ⟨e0, e1, e2, e3, e4, e5, e6, e7, e8, e9, e10, e11⟩ := hSw; go_simp <;> with_reducible rfl)
                            try simp only [Act.put, List.getElem_toArray, List.getElem_cons_zero, List.getElem_cons_succ, List.setIfInBounds_toArray, List.set_cons_zero, List.set_cons_succ]
                            refine wpAnyH_take (i := 15) (v := ?vau12282930x15) rfl (by kernel_rfl) (by kernel_rfl) (by kernel_rfl) (fun _ _ _ h => h) (Or.inl ⟨by rfl, ?hyu12282930x15⟩) (by assumption) ?rau12282930x15
                            case hyu12282930x15 => (intro wq hSw; (try dsimp only at hSw); obtain ⟨e0, e1, e2, e3, e4, e5, e6, e7, e8, e9, e10, e11⟩ := hSw; go_simp <;> with_reducible rfl)
                            try simp only [Act.put, List.getElem_toArray, List.getElem_cons_zero, List.getElem_cons_succ, List.setIfInBounds_toArray, List.set_cons_zero, List.set_cons_succ]
                            refine wpAnyH_take (i := 16) (v := ?vau12282930x16) rfl (by kernel_rfl) (by kernel_rfl) (by kernel_rfl) (fun _ _ _ h => h) (Or.inl ⟨by rfl, ?hyu12282930x16⟩) (by assumption) ?rau12282930x16
                            case hyu12282930x16 => (intro wq hSw; (try dsimp only at hSw); obtain ⟨e0, e1, e2, e3, e4, e5, e6, e7, e8, e9, e10, e11⟩ := hSw; go_simp <;> with_reducible rfl)
                            try simp only [Act.put, List.getElem_toArray, List.getElem_cons_zero, List.getElem_cons_succ, List.setIfInBounds_toArray, List.set_cons_zero, List.set_cons_succ]
                            refine wpAnyH_ready (rs := [17]) (by kernel_rfl) (by simp) ?_
                            refine (AllReadyH.cons rfl (fun K hK => ?_) AllReadyH.nil)
                            · go_simp
                              have AL := hide (al v30 (.cells #[.int .i64 0, .int .i64 0, .slice none 0 0, .slice none 0 0, .int .i64 0] 25))
                              have LA : Hid (w1.heap.size ≤ v30.heap.size) := BB.out.size
                              have LAx : Hid (w6.heap.size ≤ v30.heap.size) := B5W.out.size
                              have NE : Hid (v30.heap.size ≠ gB) := by have := (Array.getElem?_eq_some_iff.1 XB.out).1; show _ ≠ _; omega
                              replace HQ := hide (HQ.out.keep AL.out)
                              replace XB := hide (blk_keep XB.out AL.out)
                              replace B5W := hide (bt B5W.out AL.out)
                              replace BB := hide (bt BB.out AL.out)
                              have XA := hide (heap_alloc_new v30 (.cells #[.int .i64 0, .int .i64 0, .slice none 0 0, .slice none 0 0, .int .i64 0] 25))
                              refine hK.out _ _ (SS.out _ BB.out) (fun hHeld => ?_)
                              clear hK K AL
                              try simp only [Act.put, List.getElem_toArray, List.getElem_cons_zero, List.getElem_cons_succ, List.setIfInBounds_toArray, List.set_cons_zero, List.set_cons_succ]
                              generalize (v30.alloc (.cells #[.int .i64 0, .int .i64 0, .slice none 0 0, .slice none 0 0, .int .i64 0] 25)) = v31 at *
                              generalize v30.heap.size = gA at *
                              have hAne : w.heap.size ≠ gA := by have := LA.out; omega
                              have hBne : w.heap.size ≠ gB := by have := LB.out; omega
                              refine wpAnyH_ready (rs := [19]) (by kernel_rfl) (by simp) ?_
                              refine AllReadyH.cons rfl (fun K hK => ?_) AllReadyH.nil
                              rw [if_pos (by rfl)]
                              have XB1 := hide (row_far (W := v31) (g := gA) #[.int .i64 a.kind, .int .i64 a.level, .slice a.aI a.items.length a.cI, .slice a.aD a.data.length a.cD, .int .i64 a.next] XB.out (Ne.symm NE.out))
                              refine wp_store_row 25 _ _ rfl gA _ rfl rfl 25 _ XA.out sizePage rfl (by simp [Value.oneCell']) ?_
                              refine hK.out _ _ (cells12b (row_far _ (BX.out _ BB.out) hAne)) (fun hHeld => ?_)
                              clear hK K
                              try simp only [Act.put, List.getElem_toArray, List.getElem_cons_zero, List.getElem_cons_succ, List.setIfInBounds_toArray, List.set_cons_zero, List.set_cons_succ]
                              refine wpAnyH_ready (rs := [20]) (by kernel_rfl) (by simp) ?_
                              refine AllReadyH.cons rfl (fun K hK => ?_) AllReadyH.nil
                              rw [if_pos (by rfl)]
                              refine wp_store_row 25 _ _ rfl gB _ rfl rfl 25 _ XB1.out sizePage rfl (by simp [Value.oneCell']) ?_
                              refine hK.out _ _ (cells12b (row_far _ (row_far _ (BX.out _ BB.out) hAne) hBne)) (fun hHeld => ?_)
                              clear hK K
                              try simp only [Act.put, List.getElem_toArray, List.getElem_cons_zero, List.getElem_cons_succ, List.setIfInBounds_toArray, List.set_cons_zero, List.set_cons_succ]
                              refine wpAnyH_take (i := 21) (v := ?vau122829303121) rfl (by kernel_rfl) (by kernel_rfl) (by kernel_rfl) (fun _ _ _ h => h) (Or.inl ⟨by rfl, ?hyu122829303121⟩) (by assumption) ?rau122829303121
                              case hyu122829303121 => (intro wq hSw; (try dsimp only at hSw); obtain ⟨e0, e1, e2, e3, e4, e5, e6, e7, e8, e9, e10, e11⟩ := hSw; go_simp <;> with_reducible rfl)
                              try simp only [Act.put, List.getElem_toArray, List.getElem_cons_zero, List.getElem_cons_succ, List.setIfInBounds_toArray, List.set_cons_zero, List.set_cons_succ]
                              refine wpAnyH_take (i := 22) (v := ?vau122829303122) rfl (by kernel_rfl) (by kernel_rfl) (by kernel_rfl) (fun _ _ _ h => h) (Or.inl ⟨by rfl, ?hyu122829303122⟩) (by assumption) ?rau122829303122
                              case hyu122829303122 => (intro wq hSw; (try dsimp only at hSw); obtain ⟨e0, e1, e2, e3, e4, e5, e6, e7, e8, e9, e10, e11⟩ := hSw; go_simp <;> with_reducible rfl)
                              try simp only [Act.put, List.getElem_toArray, List.getElem_cons_zero, List.getElem_cons_succ, List.setIfInBounds_toArray, List.set_cons_zero, List.set_cons_succ]
                              refine wpAnyH_done (by kernel_rfl) ?_ _
                              clear hHeld
                              go_wp2_with fail
                              go_meet
                              case rel => exact ⟨gA, gB, a, b, aU, cU, rfl, rfl, rfl, rfl, ⟨row_far _ (setRow_heap _ _ _ _ _ _ XA.out) NE.out, setRow_heap _ _ _ _ _ _ XB1.out, (HQ.out.but (but_setRow _ gA _) (fun k hk => ⟨_, _, by subst hk; exact XA.out, by decide, by decide⟩) (below_row _ HQ.out.b LA.out)).but (but_setRow _ gB _) (fun k hk => ⟨_, _, by subst hk; exact XB1.out, by decide, by decide⟩) (below_row _ (below_row _ HQ.out.b LA.out) LB.out), EA.out, EB.out⟩, below_row _ (below_row _ B5W.out LAx.out) LBx.out⟩
                          · go_simp
                            have AL := hide (al v29 (.cells #[.int .i64 0, .int .i64 0, .slice none 0 0, .slice none 0 0, .int .i64 0] 25))
                            have LA : Hid (w1.heap.size ≤ v29.heap.size) := BB.out.size
                            have LAx : Hid (w6.heap.size ≤ v29.heap.size) := B5W.out.size
                            have NE : Hid (v29.heap.size ≠ gB) := by have := (Array.getElem?_eq_some_iff.1 XB.out).1; show _ ≠ _; omega
                            replace SX := hide (SX.out.keep AL.out)
                            replace SY := hide (SY.out.keep AL.out)
                            replace SK := hide (SK.out.keep AL.out)
                            replace XB := hide (blk_keep XB.out AL.out)
                            replace B5W := hide (bt B5W.out AL.out)
                            replace BB := hide (bt BB.out AL.out)
                            have XA := hide (heap_alloc_new v29 (.cells #[.int .i64 0, .int .i64 0, .slice none 0 0, .slice none 0 0, .int .i64 0] 25))
                            refine hK.out _ _ (SS.out _ BB.out) (fun hHeld => ?_)
                            clear hK K AL
                            try simp only [Act.put, List.getElem_toArray, List.getElem_cons_zero, List.getElem_cons_succ, List.setIfInBounds_toArray, List.set_cons_zero, List.set_cons_succ]
                            generalize (v29.alloc (.cells #[.int .i64 0, .int .i64 0, .slice none 0 0, .slice none 0 0, .int .i64 0] 25)) = v32 at *
                            generalize v29.heap.size = gA at *
                            refine wpAnyH_ready (rs := [11]) (by kernel_rfl) (by simp) ?_
                            refine (AllReadyH.cons rfl (fun K hK => ?_) AllReadyH.nil)
                            · go_simp
                              refine (LN.out _ x y aK cK BB.out SX.out SY.out SK.out EX.out EY.out).mono ?_
                              rintro _ v33 ⟨a, b, aU, cU, rfl, hH, ha, hb2⟩
                              have hb := hH.b
                              have HQ := hide (hH.pre BB.out)
                              have EA := hide ha
                              have EB := hide hb2
                              clear SX SY SK
                              replace XA := hide (blk_keep XA.out hb)
                              replace XB := hide (blk_keep XB.out hb)
                              replace B5W := hide (bt B5W.out hb)
                              replace BB := hide (bt BB.out hb)
                              clear hH ha hb2 hb
                              go_wp2_with fail
                              refine hK.out _ _ (SS.out _ BB.out) (fun hHeld => ?_)
                              clear hK K
                              try simp only [Act.put, List.getElem_toArray, List.getElem_cons_zero, List.getElem_cons_succ, List.setIfInBounds_toArray, List.set_cons_zero, List.set_cons_succ]
                              refine wpAnyH_take (i := 12) (v := ?vau1228293233x12) rfl (by kernel_rfl) (by kernel_rfl) (by kernel_rfl) (fun _ _ _ h => h) (Or.inl ⟨by rfl, ?hyu1228293233x12⟩) (by assumption) ?rau1228293233x12
                              case hyu1228293233x12 => (intro wq hSw; (try dsimp only at hSw); obtain ⟨e0, e1, e2, e3, e4, e5, e6, e7, e8, e9, e10, e11⟩ := hSw; go_simp <;> with_reducible rfl)
                              try simp only [Act.put, List.getElem_toArray, List.getElem_cons_zero, List.getElem_cons_succ, List.setIfInBounds_toArray, List.set_cons_zero, List.set_cons_succ]
                              refine wpAnyH_take (i := 13) (v := ?vau1228293233x13) rfl (by kernel_rfl) (by kernel_rfl) (by kernel_rfl) (fun _ _ _ h => h) (Or.inl ⟨by rfl, ?hyu1228293233x13⟩) (by assumption) ?rau1228293233x13
                              case hyu1228293233x13 => (intro wq hSw; (try dsimp only at hSw); obtain ⟨e0, e1, e2, e3, e4, e5, e6, e7, e8, e9, e10, e11⟩ := hSw; go_simp <;> with_reducible rfl)
                              try simp only [Act.put, List.getElem_toArray, List.getElem_cons_zero, List.getElem_cons_succ, List.setIfInBounds_toArray, List.set_cons_zero, List.set_cons_succ]
                              refine wpAnyH_take (i := 14) (v := ?vau1228293233x14) rfl (by kernel_rfl) (by kernel_rfl) (by kernel_rfl) (fun _ _ _ h => h) (Or.inl ⟨by rfl, ?hyu1228293233x14⟩) (by assumption) ?rau1228293233x14
                              case hyu1228293233x14 => (intro wq hSw; (try dsimp only at hSw); obtain ⟨e0, e1, e2, e3, e4, e5, e6, e7, e8, e9, e10, e11⟩ := hSw; go_simp <;> with_reducible rfl)
                              try simp only [Act.put, List.getElem_toArray, List.getElem_cons_zero, List.getElem_cons_succ, List.setIfInBounds_toArray, List.set_cons_zero, List.set_cons_succ]
                              refine wpAnyH_take (i := 15) (v := ?vau1228293233x15) rfl (by kernel_rfl) (by kernel_rfl) (by kernel_rfl) (fun _ _ _ h => h) (Or.inl ⟨by rfl, ?hyu1228293233x15⟩) (by assumption) ?rau1228293233x15
                              case hyu1228293233x15 => (intro wq hSw; (try dsimp only at hSw); obtain ⟨e0, e1, e2, e3, e4, e5, e6, e7, e8, e9, e10, e11⟩ := hSw; go_simp <;> with_reducible rfl)
                              try simp only [Act.put, List.getElem_toArray, List.getElem_cons_zero, List.getElem_cons_succ, List.setIfInBounds_toArray, List.set_cons_zero, List.set_cons_succ]
                              refine wpAnyH_take (i := 16) (v := ?vau1228293233x16) rfl (by kernel_rfl) (by kernel_rfl) (by kernel_rfl) (fun _ _ _ h => h) (Or.inl ⟨by rfl, ?hyu1228293233x16⟩) (by assumption) ?rau1228293233x16
                              case hyu1228293233x16 => (intro wq hSw; (try dsimp only at hSw); obtain ⟨e0, e1, e2, e3, e4, e5, e6, e7, e8, e9, e10, e11⟩ := hSw; go_simp <;> with_reducible rfl)
                              try simp only [Act.put, List.getElem_toArray, List.getElem_cons_zero, List.getElem_cons_succ, List.setIfInBounds_toArray, List.set_cons_zero, List.set_cons_succ]
                              have hAne : w.heap.size ≠ gA := by have := LA.out; omega
                              have hBne : w.heap.size ≠ gB := by have := LB.out; omega
                              refine wpAnyH_ready (rs := [19]) (by kernel_rfl) (by simp) ?_
                              refine AllReadyH.cons rfl (fun K hK => ?_) AllReadyH.nil
                              rw [if_pos (by rfl)]
                              have XB1 := hide (row_far (W := v33) (g := gA) #[.int .i64 a.kind, .int .i64 a.level, .slice a.aI a.items.length a.cI, .slice a.aD a.data.length a.cD, .int .i64 a.next] XB.out (Ne.symm NE.out))
                              refine wp_store_row 25 _ _ rfl gA _ rfl rfl 25 _ XA.out sizePage rfl (by simp [Value.oneCell']) ?_
                              refine hK.out _ _ (cells12b (row_far _ (BX.out _ BB.out) hAne)) (fun hHeld => ?_)
                              clear hK K
                              try simp only [Act.put, List.getElem_toArray, List.getElem_cons_zero, List.getElem_cons_succ, List.setIfInBounds_toArray, List.set_cons_zero, List.set_cons_succ]
                              refine wpAnyH_ready (rs := [20]) (by kernel_rfl) (by simp) ?_
                              refine AllReadyH.cons rfl (fun K hK => ?_) AllReadyH.nil
                              rw [if_pos (by rfl)]
                              refine wp_store_row 25 _ _ rfl gB _ rfl rfl 25 _ XB1.out sizePage rfl (by simp [Value.oneCell']) ?_
                              refine hK.out _ _ (cells12b (row_far _ (row_far _ (BX.out _ BB.out) hAne) hBne)) (fun hHeld => ?_)
                              clear hK K
                              try simp only [Act.put, List.getElem_toArray, List.getElem_cons_zero, List.getElem_cons_succ, List.setIfInBounds_toArray, List.set_cons_zero, List.set_cons_succ]
                              refine wpAnyH_take (i := 21) (v := ?vau122829323321) rfl (by kernel_rfl) (by kernel_rfl) (by kernel_rfl) (fun _ _ _ h => h) (Or.inl ⟨by rfl, ?hyu122829323321⟩) (by assumption) ?rau122829323321
                              case hyu122829323321 => (intro wq hSw; (try dsimp only at hSw); obtain ⟨e0, e1, e2, e3, e4, e5, e6, e7, e8, e9, e10, e11⟩ := hSw; go_simp <;> with_reducible rfl)
                              try simp only [Act.put, List.getElem_toArray, List.getElem_cons_zero, List.getElem_cons_succ, List.setIfInBounds_toArray, List.set_cons_zero, List.set_cons_succ]
                              refine wpAnyH_take (i := 22) (v := ?vau122829323322) rfl (by kernel_rfl) (by kernel_rfl) (by kernel_rfl) (fun _ _ _ h => h) (Or.inl ⟨by rfl, ?hyu122829323322⟩) (by assumption) ?rau122829323322
                              case hyu122829323322 => (intro wq hSw; (try dsimp only at hSw); obtain ⟨e0, e1, e2, e3, e4, e5, e6, e7, e8, e9, e10, e11⟩ := hSw; go_simp <;> with_reducible rfl)
                              try simp only [Act.put, List.getElem_toArray, List.getElem_cons_zero, List.getElem_cons_succ, List.setIfInBounds_toArray, List.set_cons_zero, List.set_cons_succ]
                              refine wpAnyH_done (by kernel_rfl) ?_ _
                              clear hHeld
                              go_wp2_with fail
                              go_meet
                              case rel => exact ⟨gA, gB, a, b, aU, cU, rfl, rfl, rfl, rfl, ⟨row_far _ (setRow_heap _ _ _ _ _ _ XA.out) NE.out, setRow_heap _ _ _ _ _ _ XB1.out, (HQ.out.but (but_setRow _ gA _) (fun k hk => ⟨_, _, by subst hk; exact XA.out, by decide, by decide⟩) (below_row _ HQ.out.b LA.out)).but (but_setRow _ gB _) (fun k hk => ⟨_, _, by subst hk; exact XB1.out, by decide, by decide⟩) (below_row _ (below_row _ HQ.out.b LA.out) LB.out), EA.out, EB.out⟩, below_row _ (below_row _ B5W.out LAx.out) LBx.out⟩
                        · go_simp
                          have AL := hide (al v28 (.cells #[.int .i64 0, .int .i64 0, .slice none 0 0, .slice none 0 0, .int .i64 0] 25))
                          have LA : Hid (w1.heap.size ≤ v28.heap.size) := BB.out.size
                          have LAx : Hid (w6.heap.size ≤ v28.heap.size) := B5W.out.size
                          have NE : Hid (v28.heap.size ≠ gB) := by have := (Array.getElem?_eq_some_iff.1 XB.out).1; show _ ≠ _; omega
                          replace SX := hide (SX.out.keep AL.out)
                          replace SY := hide (SY.out.keep AL.out)
                          replace XB := hide (blk_keep XB.out AL.out)
                          replace B5W := hide (bt B5W.out AL.out)
                          replace BB := hide (bt BB.out AL.out)
                          have XA := hide (heap_alloc_new v28 (.cells #[.int .i64 0, .int .i64 0, .slice none 0 0, .slice none 0 0, .int .i64 0] 25))
                          refine hK.out _ _ (SS.out _ BB.out) (fun hHeld => ?_)
                          clear hK K AL
                          try simp only [Act.put, List.getElem_toArray, List.getElem_cons_zero, List.getElem_cons_succ, List.setIfInBounds_toArray, List.set_cons_zero, List.set_cons_succ]
                          generalize (v28.alloc (.cells #[.int .i64 0, .int .i64 0, .slice none 0 0, .slice none 0 0, .int .i64 0] 25)) = v34 at *
                          generalize v28.heap.size = gA at *
                          refine wpAnyH_ready (rs := [8]) (by kernel_rfl) (by simp) ?_
                          refine (AllReadyH.cons rfl (fun K hK => ?_) AllReadyH.nil)
                          · go_simp
                            refine (SP3.out _ BB.out).mono ?_
                            rintro _ v35 ⟨aK, cK, rfl, hO⟩
                            have hb := hO.b
                            have SK := hide hO.r
                            replace SX := hide (SX.out.keep hb)
                            replace SY := hide (SY.out.keep hb)
                            replace XA := hide (blk_keep XA.out hb)
                            replace XB := hide (blk_keep XB.out hb)
                            replace B5W := hide (bt B5W.out hb)
                            replace BB := hide (bt BB.out hb)
                            clear hO hb
                            go_wp2_with fail
                            refine hK.out _ _ (SS.out _ BB.out) (fun hHeld => ?_)
                            clear hK K
                            try simp only [Act.put, List.getElem_toArray, List.getElem_cons_zero, List.getElem_cons_succ, List.setIfInBounds_toArray, List.set_cons_zero, List.set_cons_succ]
                            refine wpAnyH_ready (rs := [11]) (by kernel_rfl) (by simp) ?_
                            refine (AllReadyH.cons rfl (fun K hK => ?_) AllReadyH.nil)
                            · go_simp
                              refine (LN.out _ x y aK cK BB.out SX.out SY.out SK.out EX.out EY.out).mono ?_
                              rintro _ v36 ⟨a, b, aU, cU, rfl, hH, ha, hb2⟩
                              have hb := hH.b
                              have HQ := hide (hH.pre BB.out)
                              have EA := hide ha
                              have EB := hide hb2
                              clear SX SY SK
                              replace XA := hide (blk_keep XA.out hb)
                              replace XB := hide (blk_keep XB.out hb)
                              replace B5W := hide (bt B5W.out hb)
                              replace BB := hide (bt BB.out hb)
                              clear hH ha hb2 hb
                              go_wp2_with fail
                              refine hK.out _ _ (SS.out _ BB.out) (fun hHeld => ?_)
                              clear hK K
                              try simp only [Act.put, List.getElem_toArray, List.getElem_cons_zero, List.getElem_cons_succ, List.setIfInBounds_toArray, List.set_cons_zero, List.set_cons_succ]
                              refine wpAnyH_take (i := 12) (v := ?vau1228343536x12) rfl (by kernel_rfl) (by kernel_rfl) (by kernel_rfl) (fun _ _ _ h => h) (Or.inl ⟨by rfl, ?hyu1228343536x12⟩) (by assumption) ?rau1228343536x12
                              case hyu1228343536x12 => (intro wq hSw; (try dsimp only at hSw); obtain ⟨e0, e1, e2, e3, e4, e5, e6, e7, e8, e9, e10, e11⟩ := hSw; go_simp <;> with_reducible rfl)
                              try simp only [Act.put, List.getElem_toArray, List.getElem_cons_zero, List.getElem_cons_succ, List.setIfInBounds_toArray, List.set_cons_zero, List.set_cons_succ]
                              refine wpAnyH_take (i := 13) (v := ?vau1228343536x13) rfl (by kernel_rfl) (by kernel_rfl) (by kernel_rfl) (fun _ _ _ h => h) (Or.inl ⟨by rfl, ?hyu1228343536x13⟩) (by assumption) ?rau1228343536x13
                              case hyu1228343536x13 => (intro wq hSw; (try dsimp only at hSw); obtain ⟨e0, e1, e2, e3, e4, e5, e6, e7, e8, e9, e10, e11⟩ := hSw; go_simp <;> with_reducible rfl)
                              try simp only [Act.put, List.getElem_toArray, List.getElem_cons_zero, List.getElem_cons_succ, List.setIfInBounds_toArray, List.set_cons_zero, List.set_cons_succ]
                              refine wpAnyH_take (i := 14) (v := ?vau1228343536x14) rfl (by kernel_rfl) (by kernel_rfl) (by kernel_rfl) (fun _ _ _ h => h) (Or.inl ⟨by rfl, ?hyu1228343536x14⟩) (by assumption) ?rau1228343536x14
                              case hyu1228343536x14 => (intro wq hSw; (try dsimp only at hSw); obtain ⟨e0, e1, e2, e3, e4, e5, e6, e7, e8, e9, e10, e11⟩ := hSw; go_simp <;> with_reducible rfl)
                              try simp only [Act.put, List.getElem_toArray, List.getElem_cons_zero, List.getElem_cons_succ, List.setIfInBounds_toArray, List.set_cons_zero, List.set_cons_succ]
                              refine wpAnyH_take (i := 15) (v := ?vau1228343536x15) rfl (by kernel_rfl) (by kernel_rfl) (by kernel_rfl) (fun _ _ _ h => h) (Or.inl ⟨by rfl, ?hyu1228343536x15⟩) (by assumption) ?rau1228343536x15
                              case hyu1228343536x15 => (intro wq hSw; (try dsimp only at hSw); obtain ⟨e0, e1, e2, e3, e4, e5, e6, e7, e8, e9, e10, e11⟩ := hSw; go_simp <;> with_reducible rfl)
                              try simp only [Act.put, List.getElem_toArray, List.getElem_cons_zero, List.getElem_cons_succ, List.setIfInBounds_toArray, List.set_cons_zero, List.set_cons_succ]
                              refine wpAnyH_take (i := 16) (v := ?vau1228343536x16) rfl (by kernel_rfl) (by kernel_rfl) (by kernel_rfl) (fun _ _ _ h => h) (Or.inl ⟨by rfl, ?hyu1228343536x16⟩) (by assumption) ?rau1228343536x16
                              case hyu1228343536x16 => (intro wq hSw; (try dsimp only at hSw); obtain ⟨e0, e1, e2, e3, e4, e5, e6, e7, e8, e9, e10, e11⟩ := hSw; go_simp <;> with_reducible rfl)
                              try simp only [Act.put, List.getElem_toArray, List.getElem_cons_zero, List.getElem_cons_succ, List.setIfInBounds_toArray, List.set_cons_zero, List.set_cons_succ]
                              have hAne : w.heap.size ≠ gA := by have := LA.out; omega
                              have hBne : w.heap.size ≠ gB := by have := LB.out; omega
                              refine wpAnyH_ready (rs := [19]) (by kernel_rfl) (by simp) ?_
                              refine AllReadyH.cons rfl (fun K hK => ?_) AllReadyH.nil
                              rw [if_pos (by rfl)]
                              have XB1 := hide (row_far (W := v36) (g := gA) #[.int .i64 a.kind, .int .i64 a.level, .slice a.aI a.items.length a.cI, .slice a.aD a.data.length a.cD, .int .i64 a.next] XB.out (Ne.symm NE.out))
                              refine wp_store_row 25 _ _ rfl gA _ rfl rfl 25 _ XA.out sizePage rfl (by simp [Value.oneCell']) ?_
                              refine hK.out _ _ (cells12b (row_far _ (BX.out _ BB.out) hAne)) (fun hHeld => ?_)
                              clear hK K
                              try simp only [Act.put, List.getElem_toArray, List.getElem_cons_zero, List.getElem_cons_succ, List.setIfInBounds_toArray, List.set_cons_zero, List.set_cons_succ]
                              refine wpAnyH_ready (rs := [20]) (by kernel_rfl) (by simp) ?_
                              refine AllReadyH.cons rfl (fun K hK => ?_) AllReadyH.nil
                              rw [if_pos (by rfl)]
                              refine wp_store_row 25 _ _ rfl gB _ rfl rfl 25 _ XB1.out sizePage rfl (by simp [Value.oneCell']) ?_
                              refine hK.out _ _ (cells12b (row_far _ (row_far _ (BX.out _ BB.out) hAne) hBne)) (fun hHeld => ?_)
                              clear hK K
                              try simp only [Act.put, List.getElem_toArray, List.getElem_cons_zero, List.getElem_cons_succ, List.setIfInBounds_toArray, List.set_cons_zero, List.set_cons_succ]
                              refine wpAnyH_take (i := 21) (v := ?vau122834353621) rfl (by kernel_rfl) (by kernel_rfl) (by kernel_rfl) (fun _ _ _ h => h) (Or.inl ⟨by rfl, ?hyu122834353621⟩) (by assumption) ?rau122834353621
                              case hyu122834353621 => (intro wq hSw; (try dsimp only at hSw); obtain ⟨e0, e1, e2, e3, e4, e5, e6, e7, e8, e9, e10, e11⟩ := hSw; go_simp <;> with_reducible rfl)
                              try simp only [Act.put, List.getElem_toArray, List.getElem_cons_zero, List.getElem_cons_succ, List.setIfInBounds_toArray, List.set_cons_zero, List.set_cons_succ]
                              refine wpAnyH_take (i := 22) (v := ?vau122834353622) rfl (by kernel_rfl) (by kernel_rfl) (by kernel_rfl) (fun _ _ _ h => h) (Or.inl ⟨by rfl, ?hyu122834353622⟩) (by assumption) ?rau122834353622
                              case hyu122834353622 => (intro wq hSw; (try dsimp only at hSw); obtain ⟨e0, e1, e2, e3, e4, e5, e6, e7, e8, e9, e10, e11⟩ := hSw; go_simp <;> with_reducible rfl)
                              try simp only [Act.put, List.getElem_toArray, List.getElem_cons_zero, List.getElem_cons_succ, List.setIfInBounds_toArray, List.set_cons_zero, List.set_cons_succ]
                              refine wpAnyH_done (by kernel_rfl) ?_ _
                              clear hHeld
                              go_wp2_with fail
                              go_meet
                              case rel => exact ⟨gA, gB, a, b, aU, cU, rfl, rfl, rfl, rfl, ⟨row_far _ (setRow_heap _ _ _ _ _ _ XA.out) NE.out, setRow_heap _ _ _ _ _ _ XB1.out, (HQ.out.but (but_setRow _ gA _) (fun k hk => ⟨_, _, by subst hk; exact XA.out, by decide, by decide⟩) (below_row _ HQ.out.b LA.out)).but (but_setRow _ gB _) (fun k hk => ⟨_, _, by subst hk; exact XB1.out, by decide, by decide⟩) (below_row _ (below_row _ HQ.out.b LA.out) LB.out), EA.out, EB.out⟩, below_row _ (below_row _ B5W.out LAx.out) LBx.out⟩
                    · go_simp
                      have AL := hide (al v1 (.cells #[.int .i64 0, .int .i64 0, .slice none 0 0, .slice none 0 0, .int .i64 0] 25))
                      have LA : Hid (w1.heap.size ≤ v1.heap.size) := BB.out.size
                      have LAx : Hid (w6.heap.size ≤ v1.heap.size) := B5W.out.size
                      replace SX := hide (SX.out.keep AL.out)
                      replace B5W := hide (bt B5W.out AL.out)
                      replace BB := hide (bt BB.out AL.out)
                      have XA := hide (heap_alloc_new v1 (.cells #[.int .i64 0, .int .i64 0, .slice none 0 0, .slice none 0 0, .int .i64 0] 25))
                      refine hK.out _ _ (SS.out _ BB.out) (fun hHeld => ?_)
                      clear hK K AL
                      try simp only [Act.put, List.getElem_toArray, List.getElem_cons_zero, List.getElem_cons_succ, List.setIfInBounds_toArray, List.set_cons_zero, List.set_cons_succ]
                      generalize (v1.alloc (.cells #[.int .i64 0, .int .i64 0, .slice none 0 0, .slice none 0 0, .int .i64 0] 25)) = v37 at *
                      generalize v1.heap.size = gA at *
                      refine wpAnyH_ready (rs := [5, 18]) (by kernel_rfl) (by simp) ?_
                      refine (AllReadyH.cons rfl (fun K hK => ?_) (AllReadyH.cons rfl (fun K hK => ?_) AllReadyH.nil))
                      · go_simp
                        refine (SP2.out _ BB.out).mono ?_
                        rintro _ v38 ⟨y, rfl, hS, -, hE, hb⟩
                        have SY := hide hS
                        have EY := hide hE
                        replace SX := hide (SX.out.keep hb)
                        replace XA := hide (blk_keep XA.out hb)
                        replace B5W := hide (bt B5W.out hb)
                        replace BB := hide (bt BB.out hb)
                        clear hS hE hb
                        go_wp2_with fail
                        refine hK.out _ _ (SS.out _ BB.out) (fun hHeld => ?_)
                        clear hK K
                        try simp only [Act.put, List.getElem_toArray, List.getElem_cons_zero, List.getElem_cons_succ, List.setIfInBounds_toArray, List.set_cons_zero, List.set_cons_succ]
                        refine wpAnyH_ready (rs := [8, 18]) (by kernel_rfl) (by simp) ?_
                        refine (AllReadyH.cons rfl (fun K hK => ?_) (AllReadyH.cons rfl (fun K hK => ?_) AllReadyH.nil))
                        · go_simp
                          refine (SP3.out _ BB.out).mono ?_
                          rintro _ v39 ⟨aK, cK, rfl, hO⟩
                          have hb := hO.b
                          have SK := hide hO.r
                          replace SX := hide (SX.out.keep hb)
                          replace SY := hide (SY.out.keep hb)
                          replace XA := hide (blk_keep XA.out hb)
                          replace B5W := hide (bt B5W.out hb)
                          replace BB := hide (bt BB.out hb)
                          clear hO hb
                          go_wp2_with fail
                          refine hK.out _ _ (SS.out _ BB.out) (fun hHeld => ?_)
                          clear hK K
                          try simp only [Act.put, List.getElem_toArray, List.getElem_cons_zero, List.getElem_cons_succ, List.setIfInBounds_toArray, List.set_cons_zero, List.set_cons_succ]
                          refine wpAnyH_ready (rs := [11, 18]) (by kernel_rfl) (by simp) ?_
                          refine (AllReadyH.cons rfl (fun K hK => ?_) (AllReadyH.cons rfl (fun K hK => ?_) AllReadyH.nil))
                          · go_simp
                            refine (LN.out _ x y aK cK BB.out SX.out SY.out SK.out EX.out EY.out).mono ?_
                            rintro _ v40 ⟨a, b, aU, cU, rfl, hH, ha, hb2⟩
                            have hb := hH.b
                            have HQ := hide (hH.pre BB.out)
                            have EA := hide ha
                            have EB := hide hb2
                            clear SX SY SK
                            replace XA := hide (blk_keep XA.out hb)
                            replace B5W := hide (bt B5W.out hb)
                            replace BB := hide (bt BB.out hb)
                            clear hH ha hb2 hb
                            go_wp2_with fail
                            refine hK.out _ _ (SS.out _ BB.out) (fun hHeld => ?_)
                            clear hK K
                            try simp only [Act.put, List.getElem_toArray, List.getElem_cons_zero, List.getElem_cons_succ, List.setIfInBounds_toArray, List.set_cons_zero, List.set_cons_succ]
                            refine wpAnyH_take (i := 12) (v := ?vau137383940x12) rfl (by kernel_rfl) (by kernel_rfl) (by kernel_rfl) (fun _ _ _ h => h) (Or.inl ⟨by rfl, ?hyu137383940x12⟩) (by assumption) ?rau137383940x12
                            case hyu137383940x12 => (intro wq hSw; (try dsimp only at hSw); obtain ⟨e0, e1, e2, e3, e4, e5, e6, e7, e8, e9, e10, e11⟩ := hSw; go_simp <;> with_reducible rfl)
                            try simp only [Act.put, List.getElem_toArray, List.getElem_cons_zero, List.getElem_cons_succ, List.setIfInBounds_toArray, List.set_cons_zero, List.set_cons_succ]
                            refine wpAnyH_take (i := 13) (v := ?vau137383940x13) rfl (by kernel_rfl) (by kernel_rfl) (by kernel_rfl) (fun _ _ _ h => h) (Or.inl ⟨by rfl, ?hyu137383940x13⟩) (by assumption) ?rau137383940x13
                            case hyu137383940x13 => (intro wq hSw; (try dsimp only at hSw); obtain ⟨e0, e1, e2, e3, e4, e5, e6, e7, e8, e9, e10, e11⟩ := hSw; go_simp <;> with_reducible rfl)
                            try simp only [Act.put, List.getElem_toArray, List.getElem_cons_zero, List.getElem_cons_succ, List.setIfInBounds_toArray, List.set_cons_zero, List.set_cons_succ]
                            refine wpAnyH_take (i := 14) (v := ?vau137383940x14) rfl (by kernel_rfl) (by kernel_rfl) (by kernel_rfl) (fun _ _ _ h => h) (Or.inl ⟨by rfl, ?hyu137383940x14⟩) (by assumption) ?rau137383940x14
                            case hyu137383940x14 => (intro wq hSw; (try dsimp only at hSw); obtain ⟨e0, e1, e2, e3, e4, e5, e6, e7, e8, e9, e10, e11⟩ := hSw; go_simp <;> with_reducible rfl)
                            try simp only [Act.put, List.getElem_toArray, List.getElem_cons_zero, List.getElem_cons_succ, List.setIfInBounds_toArray, List.set_cons_zero, List.set_cons_succ]
                            refine wpAnyH_take (i := 15) (v := ?vau137383940x15) rfl (by kernel_rfl) (by kernel_rfl) (by kernel_rfl) (fun _ _ _ h => h) (Or.inl ⟨by rfl, ?hyu137383940x15⟩) (by assumption) ?rau137383940x15
                            case hyu137383940x15 => (intro wq hSw; (try dsimp only at hSw); obtain ⟨e0, e1, e2, e3, e4, e5, e6, e7, e8, e9, e10, e11⟩ := hSw; go_simp <;> with_reducible rfl)
                            try simp only [Act.put, List.getElem_toArray, List.getElem_cons_zero, List.getElem_cons_succ, List.setIfInBounds_toArray, List.set_cons_zero, List.set_cons_succ]
                            refine wpAnyH_take (i := 16) (v := ?vau137383940x16) rfl (by kernel_rfl) (by kernel_rfl) (by kernel_rfl) (fun _ _ _ h => h) (Or.inl ⟨by rfl, ?hyu137383940x16⟩) (by assumption) ?rau137383940x16
                            case hyu137383940x16 => (intro wq hSw; (try dsimp only at hSw); obtain ⟨e0, e1, e2, e3, e4, e5, e6, e7, e8, e9, e10, e11⟩ := hSw; go_simp <;> with_reducible rfl)
                            try simp only [Act.put, List.getElem_toArray, List.getElem_cons_zero, List.getElem_cons_succ, List.setIfInBounds_toArray, List.set_cons_zero, List.set_cons_succ]
                            refine wpAnyH_ready (rs := [18]) (by kernel_rfl) (by simp) ?_
                            refine (AllReadyH.cons rfl (fun K hK => ?_) AllReadyH.nil)
                            · go_simp
                              have AL := hide (al v40 (.cells #[.int .i64 0, .int .i64 0, .slice none 0 0, .slice none 0 0, .int .i64 0] 25))
                              have LB : Hid (w1.heap.size ≤ v40.heap.size) := BB.out.size
                              have LBx : Hid (w6.heap.size ≤ v40.heap.size) := B5W.out.size
                              have NE : Hid (gA ≠ v40.heap.size) := by have := (Array.getElem?_eq_some_iff.1 XA.out).1; show _ ≠ _; omega
                              replace HQ := hide (HQ.out.keep AL.out)
                              replace XA := hide (blk_keep XA.out AL.out)
                              replace B5W := hide (bt B5W.out AL.out)
                              replace BB := hide (bt BB.out AL.out)
                              have XB := hide (heap_alloc_new v40 (.cells #[.int .i64 0, .int .i64 0, .slice none 0 0, .slice none 0 0, .int .i64 0] 25))
                              refine hK.out _ _ (SS.out _ BB.out) (fun hHeld => ?_)
                              clear hK K AL
                              try simp only [Act.put, List.getElem_toArray, List.getElem_cons_zero, List.getElem_cons_succ, List.setIfInBounds_toArray, List.set_cons_zero, List.set_cons_succ]
                              generalize (v40.alloc (.cells #[.int .i64 0, .int .i64 0, .slice none 0 0, .slice none 0 0, .int .i64 0] 25)) = v41 at *
                              generalize v40.heap.size = gB at *
                              have hAne : w.heap.size ≠ gA := by have := LA.out; omega
                              have hBne : w.heap.size ≠ gB := by have := LB.out; omega
                              refine wpAnyH_ready (rs := [19]) (by kernel_rfl) (by simp) ?_
                              refine AllReadyH.cons rfl (fun K hK => ?_) AllReadyH.nil
                              rw [if_pos (by rfl)]
                              have XB1 := hide (row_far (W := v41) (g := gA) #[.int .i64 a.kind, .int .i64 a.level, .slice a.aI a.items.length a.cI, .slice a.aD a.data.length a.cD, .int .i64 a.next] XB.out (Ne.symm NE.out))
                              refine wp_store_row 25 _ _ rfl gA _ rfl rfl 25 _ XA.out sizePage rfl (by simp [Value.oneCell']) ?_
                              refine hK.out _ _ (cells12b (row_far _ (BX.out _ BB.out) hAne)) (fun hHeld => ?_)
                              clear hK K
                              try simp only [Act.put, List.getElem_toArray, List.getElem_cons_zero, List.getElem_cons_succ, List.setIfInBounds_toArray, List.set_cons_zero, List.set_cons_succ]
                              refine wpAnyH_ready (rs := [20]) (by kernel_rfl) (by simp) ?_
                              refine AllReadyH.cons rfl (fun K hK => ?_) AllReadyH.nil
                              rw [if_pos (by rfl)]
                              refine wp_store_row 25 _ _ rfl gB _ rfl rfl 25 _ XB1.out sizePage rfl (by simp [Value.oneCell']) ?_
                              refine hK.out _ _ (cells12b (row_far _ (row_far _ (BX.out _ BB.out) hAne) hBne)) (fun hHeld => ?_)
                              clear hK K
                              try simp only [Act.put, List.getElem_toArray, List.getElem_cons_zero, List.getElem_cons_succ, List.setIfInBounds_toArray, List.set_cons_zero, List.set_cons_succ]
                              refine wpAnyH_take (i := 21) (v := ?vau1373839404121) rfl (by kernel_rfl) (by kernel_rfl) (by kernel_rfl) (fun _ _ _ h => h) (Or.inl ⟨by rfl, ?hyu1373839404121⟩) (by assumption) ?rau1373839404121
                              case hyu1373839404121 => (intro wq hSw; (try dsimp only at hSw); obtain ⟨e0, e1, e2, e3, e4, e5, e6, e7, e8, e9, e10, e11⟩ := hSw; go_simp <;> with_reducible rfl)
                              try simp only [Act.put, List.getElem_toArray, List.getElem_cons_zero, List.getElem_cons_succ, List.setIfInBounds_toArray, List.set_cons_zero, List.set_cons_succ]
                              refine wpAnyH_take (i := 22) (v := ?vau1373839404122) rfl (by kernel_rfl) (by kernel_rfl) (by kernel_rfl) (fun _ _ _ h => h) (Or.inl ⟨by rfl, ?hyu1373839404122⟩) (by assumption) ?rau1373839404122
                              case hyu1373839404122 => (intro wq hSw; (try dsimp only at hSw); obtain ⟨e0, e1, e2, e3, e4, e5, e6, e7, e8, e9, e10, e11⟩ := hSw; go_simp <;> with_reducible rfl)
                              try simp only [Act.put, List.getElem_toArray, List.getElem_cons_zero, List.getElem_cons_succ, List.setIfInBounds_toArray, List.set_cons_zero, List.set_cons_succ]
                              refine wpAnyH_done (by kernel_rfl) ?_ _
                              clear hHeld
                              go_wp2_with fail
                              go_meet
                              case rel => exact ⟨gA, gB, a, b, aU, cU, rfl, rfl, rfl, rfl, ⟨row_far _ (setRow_heap _ _ _ _ _ _ XA.out) NE.out, setRow_heap _ _ _ _ _ _ XB1.out, (HQ.out.but (but_setRow _ gA _) (fun k hk => ⟨_, _, by subst hk; exact XA.out, by decide, by decide⟩) (below_row _ HQ.out.b LA.out)).but (but_setRow _ gB _) (fun k hk => ⟨_, _, by subst hk; exact XB1.out, by decide, by decide⟩) (below_row _ (below_row _ HQ.out.b LA.out) LB.out), EA.out, EB.out⟩, below_row _ (below_row _ B5W.out LAx.out) LBx.out⟩
                          · go_simp
                            have AL := hide (al v39 (.cells #[.int .i64 0, .int .i64 0, .slice none 0 0, .slice none 0 0, .int .i64 0] 25))
                            have LB : Hid (w1.heap.size ≤ v39.heap.size) := BB.out.size
                            have LBx : Hid (w6.heap.size ≤ v39.heap.size) := B5W.out.size
                            have NE : Hid (gA ≠ v39.heap.size) := by have := (Array.getElem?_eq_some_iff.1 XA.out).1; show _ ≠ _; omega
                            replace SX := hide (SX.out.keep AL.out)
                            replace SY := hide (SY.out.keep AL.out)
                            replace SK := hide (SK.out.keep AL.out)
                            replace XA := hide (blk_keep XA.out AL.out)
                            replace B5W := hide (bt B5W.out AL.out)
                            replace BB := hide (bt BB.out AL.out)
                            have XB := hide (heap_alloc_new v39 (.cells #[.int .i64 0, .int .i64 0, .slice none 0 0, .slice none 0 0, .int .i64 0] 25))
                            refine hK.out _ _ (SS.out _ BB.out) (fun hHeld => ?_)
                            clear hK K AL
                            try simp only [Act.put, List.getElem_toArray, List.getElem_cons_zero, List.getElem_cons_succ, List.setIfInBounds_toArray, List.set_cons_zero, List.set_cons_succ]
                            generalize (v39.alloc (.cells #[.int .i64 0, .int .i64 0, .slice none 0 0, .slice none 0 0, .int .i64 0] 25)) = v42 at *
                            generalize v39.heap.size = gB at *
                            refine wpAnyH_ready (rs := [11]) (by kernel_rfl) (by simp) ?_
                            refine (AllReadyH.cons rfl (fun K hK => ?_) AllReadyH.nil)
                            · go_simp
                              refine (LN.out _ x y aK cK BB.out SX.out SY.out SK.out EX.out EY.out).mono ?_
                              rintro _ v43 ⟨a, b, aU, cU, rfl, hH, ha, hb2⟩
                              have hb := hH.b
                              have HQ := hide (hH.pre BB.out)
                              have EA := hide ha
                              have EB := hide hb2
                              clear SX SY SK
                              replace XA := hide (blk_keep XA.out hb)
                              replace XB := hide (blk_keep XB.out hb)
                              replace B5W := hide (bt B5W.out hb)
                              replace BB := hide (bt BB.out hb)
                              clear hH ha hb2 hb
                              go_wp2_with fail
                              refine hK.out _ _ (SS.out _ BB.out) (fun hHeld => ?_)
                              clear hK K
                              try simp only [Act.put, List.getElem_toArray, List.getElem_cons_zero, List.getElem_cons_succ, List.setIfInBounds_toArray, List.set_cons_zero, List.set_cons_succ]
                              refine wpAnyH_take (i := 12) (v := ?vau13738394243x12) rfl (by kernel_rfl) (by kernel_rfl) (by kernel_rfl) (fun _ _ _ h => h) (Or.inl ⟨by rfl, ?hyu13738394243x12⟩) (by assumption) ?rau13738394243x12
                              case hyu13738394243x12 => (intro wq hSw; (try dsimp only at hSw); obtain ⟨e0, e1, e2, e3, e4, e5, e6, e7, e8, e9, e10, e11⟩ := hSw; go_simp <;> with_reducible rfl)
                              try simp only [Act.put, List.getElem_toArray, List.getElem_cons_zero, List.getElem_cons_succ, List.setIfInBounds_toArray, List.set_cons_zero, List.set_cons_succ]
                              refine wpAnyH_take (i := 13) (v := ?vau13738394243x13) rfl (by kernel_rfl) (by kernel_rfl) (by kernel_rfl) (fun _ _ _ h => h) (Or.inl ⟨by rfl, ?hyu13738394243x13⟩) (by assumption) ?rau13738394243x13
                              case hyu13738394243x13 => (intro wq hSw; (try dsimp only at hSw); obtain ⟨e0, e1, e2, e3, e4, e5, e6, e7, e8, e9, e10, e11⟩ := hSw; go_simp <;> with_reducible rfl)
                              try simp only [Act.put, List.getElem_toArray, List.getElem_cons_zero, List.getElem_cons_succ, List.setIfInBounds_toArray, List.set_cons_zero, List.set_cons_succ]
                              refine wpAnyH_take (i := 14) (v := ?vau13738394243x14) rfl (by kernel_rfl) (by kernel_rfl) (by kernel_rfl) (fun _ _ _ h => h) (Or.inl ⟨by rfl, ?hyu13738394243x14⟩) (by assumption) ?rau13738394243x14
                              case hyu13738394243x14 => (intro wq hSw; (try dsimp only at hSw); obtain ⟨e0, e1, e2, e3, e4, e5, e6, e7, e8, e9, e10, e11⟩ := hSw; go_simp <;> with_reducible rfl)
                              try simp only [Act.put, List.getElem_toArray, List.getElem_cons_zero, List.getElem_cons_succ, List.setIfInBounds_toArray, List.set_cons_zero, List.set_cons_succ]
                              refine wpAnyH_take (i := 15) (v := ?vau13738394243x15) rfl (by kernel_rfl) (by kernel_rfl) (by kernel_rfl) (fun _ _ _ h => h) (Or.inl ⟨by rfl, ?hyu13738394243x15⟩) (by assumption) ?rau13738394243x15
                              case hyu13738394243x15 => (intro wq hSw; (try dsimp only at hSw); obtain ⟨e0, e1, e2, e3, e4, e5, e6, e7, e8, e9, e10, e11⟩ := hSw; go_simp <;> with_reducible rfl)
                              try simp only [Act.put, List.getElem_toArray, List.getElem_cons_zero, List.getElem_cons_succ, List.setIfInBounds_toArray, List.set_cons_zero, List.set_cons_succ]
                              refine wpAnyH_take (i := 16) (v := ?vau13738394243x16) rfl (by kernel_rfl) (by kernel_rfl) (by kernel_rfl) (fun _ _ _ h => h) (Or.inl ⟨by rfl, ?hyu13738394243x16⟩) (by assumption) ?rau13738394243x16
                              case hyu13738394243x16 => (intro wq hSw; (try dsimp only at hSw); obtain ⟨e0, e1, e2, e3, e4, e5, e6, e7, e8, e9, e10, e11⟩ := hSw; go_simp <;> with_reducible rfl)
                              try simp only [Act.put, List.getElem_toArray, List.getElem_cons_zero, List.getElem_cons_succ, List.setIfInBounds_toArray, List.set_cons_zero, List.set_cons_succ]
                              have hAne : w.heap.size ≠ gA := by have := LA.out; omega
                              have hBne : w.heap.size ≠ gB := by have := LB.out; omega
                              refine wpAnyH_ready (rs := [19]) (by kernel_rfl) (by simp) ?_
                              refine AllReadyH.cons rfl (fun K hK => ?_) AllReadyH.nil
                              rw [if_pos (by rfl)]
                              have XB1 := hide (row_far (W := v43) (g := gA) #[.int .i64 a.kind, .int .i64 a.level, .slice a.aI a.items.length a.cI, .slice a.aD a.data.length a.cD, .int .i64 a.next] XB.out (Ne.symm NE.out))
                              refine wp_store_row 25 _ _ rfl gA _ rfl rfl 25 _ XA.out sizePage rfl (by simp [Value.oneCell']) ?_
                              refine hK.out _ _ (cells12b (row_far _ (BX.out _ BB.out) hAne)) (fun hHeld => ?_)
                              clear hK K
                              try simp only [Act.put, List.getElem_toArray, List.getElem_cons_zero, List.getElem_cons_succ, List.setIfInBounds_toArray, List.set_cons_zero, List.set_cons_succ]
                              refine wpAnyH_ready (rs := [20]) (by kernel_rfl) (by simp) ?_
                              refine AllReadyH.cons rfl (fun K hK => ?_) AllReadyH.nil
                              rw [if_pos (by rfl)]
                              refine wp_store_row 25 _ _ rfl gB _ rfl rfl 25 _ XB1.out sizePage rfl (by simp [Value.oneCell']) ?_
                              refine hK.out _ _ (cells12b (row_far _ (row_far _ (BX.out _ BB.out) hAne) hBne)) (fun hHeld => ?_)
                              clear hK K
                              try simp only [Act.put, List.getElem_toArray, List.getElem_cons_zero, List.getElem_cons_succ, List.setIfInBounds_toArray, List.set_cons_zero, List.set_cons_succ]
                              refine wpAnyH_take (i := 21) (v := ?vau1373839424321) rfl (by kernel_rfl) (by kernel_rfl) (by kernel_rfl) (fun _ _ _ h => h) (Or.inl ⟨by rfl, ?hyu1373839424321⟩) (by assumption) ?rau1373839424321
                              case hyu1373839424321 => (intro wq hSw; (try dsimp only at hSw); obtain ⟨e0, e1, e2, e3, e4, e5, e6, e7, e8, e9, e10, e11⟩ := hSw; go_simp <;> with_reducible rfl)
                              try simp only [Act.put, List.getElem_toArray, List.getElem_cons_zero, List.getElem_cons_succ, List.setIfInBounds_toArray, List.set_cons_zero, List.set_cons_succ]
                              refine wpAnyH_take (i := 22) (v := ?vau1373839424322) rfl (by kernel_rfl) (by kernel_rfl) (by kernel_rfl) (fun _ _ _ h => h) (Or.inl ⟨by rfl, ?hyu1373839424322⟩) (by assumption) ?rau1373839424322
                              case hyu1373839424322 => (intro wq hSw; (try dsimp only at hSw); obtain ⟨e0, e1, e2, e3, e4, e5, e6, e7, e8, e9, e10, e11⟩ := hSw; go_simp <;> with_reducible rfl)
                              try simp only [Act.put, List.getElem_toArray, List.getElem_cons_zero, List.getElem_cons_succ, List.setIfInBounds_toArray, List.set_cons_zero, List.set_cons_succ]
                              refine wpAnyH_done (by kernel_rfl) ?_ _
                              clear hHeld
                              go_wp2_with fail
                              go_meet
                              case rel => exact ⟨gA, gB, a, b, aU, cU, rfl, rfl, rfl, rfl, ⟨row_far _ (setRow_heap _ _ _ _ _ _ XA.out) NE.out, setRow_heap _ _ _ _ _ _ XB1.out, (HQ.out.but (but_setRow _ gA _) (fun k hk => ⟨_, _, by subst hk; exact XA.out, by decide, by decide⟩) (below_row _ HQ.out.b LA.out)).but (but_setRow _ gB _) (fun k hk => ⟨_, _, by subst hk; exact XB1.out, by decide, by decide⟩) (below_row _ (below_row _ HQ.out.b LA.out) LB.out), EA.out, EB.out⟩, below_row _ (below_row _ B5W.out LAx.out) LBx.out⟩
                        · go_simp
                          have AL := hide (al v38 (.cells #[.int .i64 0, .int .i64 0, .slice none 0 0, .slice none 0 0, .int .i64 0] 25))
                          have LB : Hid (w1.heap.size ≤ v38.heap.size) := BB.out.size
                          have LBx : Hid (w6.heap.size ≤ v38.heap.size) := B5W.out.size
                          have NE : Hid (gA ≠ v38.heap.size) := by have := (Array.getElem?_eq_some_iff.1 XA.out).1; show _ ≠ _; omega
                          replace SX := hide (SX.out.keep AL.out)
                          replace SY := hide (SY.out.keep AL.out)
                          replace XA := hide (blk_keep XA.out AL.out)
                          replace B5W := hide (bt B5W.out AL.out)
                          replace BB := hide (bt BB.out AL.out)
                          have XB := hide (heap_alloc_new v38 (.cells #[.int .i64 0, .int .i64 0, .slice none 0 0, .slice none 0 0, .int .i64 0] 25))
                          refine hK.out _ _ (SS.out _ BB.out) (fun hHeld => ?_)
                          clear hK K AL
                          try simp only [Act.put, List.getElem_toArray, List.getElem_cons_zero, List.getElem_cons_succ, List.setIfInBounds_toArray, List.set_cons_zero, List.set_cons_succ]
                          generalize (v38.alloc (.cells #[.int .i64 0, .int .i64 0, .slice none 0 0, .slice none 0 0, .int .i64 0] 25)) = v44 at *
                          generalize v38.heap.size = gB at *
                          refine wpAnyH_ready (rs := [8]) (by kernel_rfl) (by simp) ?_
                          refine (AllReadyH.cons rfl (fun K hK => ?_) AllReadyH.nil)
                          · go_simp
                            refine (SP3.out _ BB.out).mono ?_
                            rintro _ v45 ⟨aK, cK, rfl, hO⟩
                            have hb := hO.b
                            have SK := hide hO.r
                            replace SX := hide (SX.out.keep hb)
                            replace SY := hide (SY.out.keep hb)
                            replace XA := hide (blk_keep XA.out hb)
                            replace XB := hide (blk_keep XB.out hb)
                            replace B5W := hide (bt B5W.out hb)
                            replace BB := hide (bt BB.out hb)
                            clear hO hb
                            go_wp2_with fail
                            refine hK.out _ _ (SS.out _ BB.out) (fun hHeld => ?_)
                            clear hK K
                            try simp only [Act.put, List.getElem_toArray, List.getElem_cons_zero, List.getElem_cons_succ, List.setIfInBounds_toArray, List.set_cons_zero, List.set_cons_succ]
                            refine wpAnyH_ready (rs := [11]) (by kernel_rfl) (by simp) ?_
                            refine (AllReadyH.cons rfl (fun K hK => ?_) AllReadyH.nil)
                            · go_simp
                              refine (LN.out _ x y aK cK BB.out SX.out SY.out SK.out EX.out EY.out).mono ?_
                              rintro _ v46 ⟨a, b, aU, cU, rfl, hH, ha, hb2⟩
                              have hb := hH.b
                              have HQ := hide (hH.pre BB.out)
                              have EA := hide ha
                              have EB := hide hb2
                              clear SX SY SK
                              replace XA := hide (blk_keep XA.out hb)
                              replace XB := hide (blk_keep XB.out hb)
                              replace B5W := hide (bt B5W.out hb)
                              replace BB := hide (bt BB.out hb)
                              clear hH ha hb2 hb
                              go_wp2_with fail
                              refine hK.out _ _ (SS.out _ BB.out) (fun hHeld => ?_)
                              clear hK K
                              try simp only [Act.put, List.getElem_toArray, List.getElem_cons_zero, List.getElem_cons_succ, List.setIfInBounds_toArray, List.set_cons_zero, List.set_cons_succ]
                              refine wpAnyH_take (i := 12) (v := ?vau13738444546x12) rfl (by kernel_rfl) (by kernel_rfl) (by kernel_rfl) (fun _ _ _ h => h) (Or.inl ⟨by rfl, ?hyu13738444546x12⟩) (by assumption) ?rau13738444546x12
                              case hyu13738444546x12 => (intro wq hSw; (try dsimp only at hSw); obtain ⟨e0, e1, e2, e3, e4, e5, e6, e7, e8, e9, e10, e11⟩ := hSw; go_simp <;> with_reducible rfl)
                              try simp only [Act.put, List.getElem_toArray, List.getElem_cons_zero, List.getElem_cons_succ, List.setIfInBounds_toArray, List.set_cons_zero, List.set_cons_succ]
                              refine wpAnyH_take (i := 13) (v := ?vau13738444546x13) rfl (by kernel_rfl) (by kernel_rfl) (by kernel_rfl) (fun _ _ _ h => h) (Or.inl ⟨by rfl, ?hyu13738444546x13⟩) (by assumption) ?rau13738444546x13
                              case hyu13738444546x13 => (intro wq hSw; (try dsimp only at hSw); obtain ⟨e0, e1, e2, e3, e4, e5, e6, e7, e8, e9, e10, e11⟩ := hSw; go_simp <;> with_reducible rfl)
                              try simp only [Act.put, List.getElem_toArray, List.getElem_cons_zero, List.getElem_cons_succ, List.setIfInBounds_toArray, List.set_cons_zero, List.set_cons_succ]
                              refine wpAnyH_take (i := 14) (v := ?vau13738444546x14) rfl (by kernel_rfl) (by kernel_rfl) (by kernel_rfl) (fun _ _ _ h => h) (Or.inl ⟨by rfl, ?hyu13738444546x14⟩) (by assumption) ?rau13738444546x14
                              case hyu13738444546x14 => (intro wq hSw; (try dsimp only at hSw); obtain ⟨e0, e1, e2, e3, e4, e5, e6, e7, e8, e9, e10, e11⟩ := hSw; go_simp <;> with_reducible rfl)
                              try simp only [Act.put, List.getElem_toArray, List.getElem_cons_zero, List.getElem_cons_succ, List.setIfInBounds_toArray, List.set_cons_zero, List.set_cons_succ]
                              refine wpAnyH_take (i := 15) (v := ?vau13738444546x15) rfl (by kernel_rfl) (by kernel_rfl) (by kernel_rfl) (fun _ _ _ h => h) (Or.inl ⟨by rfl, ?hyu13738444546x15⟩) (by assumption) ?rau13738444546x15
                              case hyu13738444546x15 => (intro wq hSw; (try dsimp only at hSw); obtain ⟨e0, e1, e2, e3, e4, e5, e6, e7, e8, e9, e10, e11⟩ := hSw; go_simp <;> with_reducible rfl)
                              try simp only [Act.put, List.getElem_toArray, List.getElem_cons_zero, List.getElem_cons_succ, List.setIfInBounds_toArray, List.set_cons_zero, List.set_cons_succ]
                              refine wpAnyH_take (i := 16) (v := ?vau13738444546x16) rfl (by kernel_rfl) (by kernel_rfl) (by kernel_rfl) (fun _ _ _ h => h) (Or.inl ⟨by rfl, ?hyu13738444546x16⟩) (by assumption) ?rau13738444546x16
                              case hyu13738444546x16 => (intro wq hSw; (try dsimp only at hSw); obtain ⟨e0, e1, e2, e3, e4, e5, e6, e7, e8, e9, e10, e11⟩ := hSw; go_simp <;> with_reducible rfl)
                              try simp only [Act.put, List.getElem_toArray, List.getElem_cons_zero, List.getElem_cons_succ, List.setIfInBounds_toArray, List.set_cons_zero, List.set_cons_succ]
                              have hAne : w.heap.size ≠ gA := by have := LA.out; omega
                              have hBne : w.heap.size ≠ gB := by have := LB.out; omega
                              refine wpAnyH_ready (rs := [19]) (by kernel_rfl) (by simp) ?_
                              refine AllReadyH.cons rfl (fun K hK => ?_) AllReadyH.nil
                              rw [if_pos (by rfl)]
                              have XB1 := hide (row_far (W := v46) (g := gA) #[.int .i64 a.kind, .int .i64 a.level, .slice a.aI a.items.length a.cI, .slice a.aD a.data.length a.cD, .int .i64 a.next] XB.out (Ne.symm NE.out))
                              refine wp_store_row 25 _ _ rfl gA _ rfl rfl 25 _ XA.out sizePage rfl (by simp [Value.oneCell']) ?_
                              refine hK.out _ _ (cells12b (row_far _ (BX.out _ BB.out) hAne)) (fun hHeld => ?_)
                              clear hK K
                              try simp only [Act.put, List.getElem_toArray, List.getElem_cons_zero, List.getElem_cons_succ, List.setIfInBounds_toArray, List.set_cons_zero, List.set_cons_succ]
                              refine wpAnyH_ready (rs := [20]) (by kernel_rfl) (by simp) ?_
                              refine AllReadyH.cons rfl (fun K hK => ?_) AllReadyH.nil
                              rw [if_pos (by rfl)]
                              refine wp_store_row 25 _ _ rfl gB _ rfl rfl 25 _ XB1.out sizePage rfl (by simp [Value.oneCell']) ?_
                              refine hK.out _ _ (cells12b (row_far _ (row_far _ (BX.out _ BB.out) hAne) hBne)) (fun hHeld => ?_)
                              clear hK K
                              try simp only [Act.put, List.getElem_toArray, List.getElem_cons_zero, List.getElem_cons_succ, List.setIfInBounds_toArray, List.set_cons_zero, List.set_cons_succ]
                              refine wpAnyH_take (i := 21) (v := ?vau1373844454621) rfl (by kernel_rfl) (by kernel_rfl) (by kernel_rfl) (fun _ _ _ h => h) (Or.inl ⟨by rfl, ?hyu1373844454621⟩) (by assumption) ?rau1373844454621
                              case hyu1373844454621 => (intro wq hSw; (try dsimp only at hSw); obtain ⟨e0, e1, e2, e3, e4, e5, e6, e7, e8, e9, e10, e11⟩ := hSw; go_simp <;> with_reducible rfl)
                              try simp only [Act.put, List.getElem_toArray, List.getElem_cons_zero, List.getElem_cons_succ, List.setIfInBounds_toArray, List.set_cons_zero, List.set_cons_succ]
                              refine wpAnyH_take (i := 22) (v := ?vau1373844454622) rfl (by kernel_rfl) (by kernel_rfl) (by kernel_rfl) (fun _ _ _ h => h) (Or.inl ⟨by rfl, ?hyu1373844454622⟩) (by assumption) ?rau1373844454622
                              case hyu1373844454622 => (intro wq hSw; (try dsimp only at hSw); obtain ⟨e0, e1, e2, e3, e4, e5, e6, e7, e8, e9, e10, e11⟩ := hSw; go_simp <;> with_reducible rfl)
                              try simp only [Act.put, List.getElem_toArray, List.getElem_cons_zero, List.getElem_cons_succ, List.setIfInBounds_toArray, List.set_cons_zero, List.set_cons_succ]
                              refine wpAnyH_done (by kernel_rfl) ?_ _
                              clear hHeld
                              go_wp2_with fail
                              go_meet
                              case rel => exact ⟨gA, gB, a, b, aU, cU, rfl, rfl, rfl, rfl, ⟨row_far _ (setRow_heap _ _ _ _ _ _ XA.out) NE.out, setRow_heap _ _ _ _ _ _ XB1.out, (HQ.out.but (but_setRow _ gA _) (fun k hk => ⟨_, _, by subst hk; exact XA.out, by decide, by decide⟩) (below_row _ HQ.out.b LA.out)).but (but_setRow _ gB _) (fun k hk => ⟨_, _, by subst hk; exact XB1.out, by decide, by decide⟩) (below_row _ (below_row _ HQ.out.b LA.out) LB.out), EA.out, EB.out⟩, below_row _ (below_row _ B5W.out LAx.out) LBx.out⟩
                      · go_simp
                        have AL := hide (al v37 (.cells #[.int .i64 0, .int .i64 0, .slice none 0 0, .slice none 0 0, .int .i64 0] 25))
                        have LB : Hid (w1.heap.size ≤ v37.heap.size) := BB.out.size
                        have LBx : Hid (w6.heap.size ≤ v37.heap.size) := B5W.out.size
                        have NE : Hid (gA ≠ v37.heap.size) := by have := (Array.getElem?_eq_some_iff.1 XA.out).1; show _ ≠ _; omega
                        replace SX := hide (SX.out.keep AL.out)
                        replace XA := hide (blk_keep XA.out AL.out)
                        replace B5W := hide (bt B5W.out AL.out)
                        replace BB := hide (bt BB.out AL.out)
                        have XB := hide (heap_alloc_new v37 (.cells #[.int .i64 0, .int .i64 0, .slice none 0 0, .slice none 0 0, .int .i64 0] 25))
                        refine hK.out _ _ (SS.out _ BB.out) (fun hHeld => ?_)
                        clear hK K AL
                        try simp only [Act.put, List.getElem_toArray, List.getElem_cons_zero, List.getElem_cons_succ, List.setIfInBounds_toArray, List.set_cons_zero, List.set_cons_succ]
                        generalize (v37.alloc (.cells #[.int .i64 0, .int .i64 0, .slice none 0 0, .slice none 0 0, .int .i64 0] 25)) = v47 at *
                        generalize v37.heap.size = gB at *
                        refine wpAnyH_ready (rs := [5]) (by kernel_rfl) (by simp) ?_
                        refine (AllReadyH.cons rfl (fun K hK => ?_) AllReadyH.nil)
                        · go_simp
                          refine (SP2.out _ BB.out).mono ?_
                          rintro _ v48 ⟨y, rfl, hS, -, hE, hb⟩
                          have SY := hide hS
                          have EY := hide hE
                          replace SX := hide (SX.out.keep hb)
                          replace XA := hide (blk_keep XA.out hb)
                          replace XB := hide (blk_keep XB.out hb)
                          replace B5W := hide (bt B5W.out hb)
                          replace BB := hide (bt BB.out hb)
                          clear hS hE hb
                          go_wp2_with fail
                          refine hK.out _ _ (SS.out _ BB.out) (fun hHeld => ?_)
                          clear hK K
                          try simp only [Act.put, List.getElem_toArray, List.getElem_cons_zero, List.getElem_cons_succ, List.setIfInBounds_toArray, List.set_cons_zero, List.set_cons_succ]
                          refine wpAnyH_ready (rs := [8]) (by kernel_rfl) (by simp) ?_
                          refine (AllReadyH.cons rfl (fun K hK => ?_) AllReadyH.nil)
                          · go_simp
                            refine (SP3.out _ BB.out).mono ?_
                            rintro _ v49 ⟨aK, cK, rfl, hO⟩
                            have hb := hO.b
                            have SK := hide hO.r
                            replace SX := hide (SX.out.keep hb)
                            replace SY := hide (SY.out.keep hb)
                            replace XA := hide (blk_keep XA.out hb)
                            replace XB := hide (blk_keep XB.out hb)
                            replace B5W := hide (bt B5W.out hb)
                            replace BB := hide (bt BB.out hb)
                            clear hO hb
                            go_wp2_with fail
                            refine hK.out _ _ (SS.out _ BB.out) (fun hHeld => ?_)
                            clear hK K
                            try simp only [Act.put, List.getElem_toArray, List.getElem_cons_zero, List.getElem_cons_succ, List.setIfInBounds_toArray, List.set_cons_zero, List.set_cons_succ]
                            refine wpAnyH_ready (rs := [11]) (by kernel_rfl) (by simp) ?_
                            refine (AllReadyH.cons rfl (fun K hK => ?_) AllReadyH.nil)
                            · go_simp
                              refine (LN.out _ x y aK cK BB.out SX.out SY.out SK.out EX.out EY.out).mono ?_
                              rintro _ v50 ⟨a, b, aU, cU, rfl, hH, ha, hb2⟩
                              have hb := hH.b
                              have HQ := hide (hH.pre BB.out)
                              have EA := hide ha
                              have EB := hide hb2
                              clear SX SY SK
                              replace XA := hide (blk_keep XA.out hb)
                              replace XB := hide (blk_keep XB.out hb)
                              replace B5W := hide (bt B5W.out hb)
                              replace BB := hide (bt BB.out hb)
                              clear hH ha hb2 hb
                              go_wp2_with fail
                              refine hK.out _ _ (SS.out _ BB.out) (fun hHeld => ?_)
                              clear hK K
                              try simp only [Act.put, List.getElem_toArray, List.getElem_cons_zero, List.getElem_cons_succ, List.setIfInBounds_toArray, List.set_cons_zero, List.set_cons_succ]
                              refine wpAnyH_take (i := 12) (v := ?vau13747484950x12) rfl (by kernel_rfl) (by kernel_rfl) (by kernel_rfl) (fun _ _ _ h => h) (Or.inl ⟨by rfl, ?hyu13747484950x12⟩) (by assumption) ?rau13747484950x12
                              case hyu13747484950x12 => (intro wq hSw; (try dsimp only at hSw); obtain ⟨e0, e1, e2, e3, e4, e5, e6, e7, e8, e9, e10, e11⟩ := hSw; go_simp <;> with_reducible rfl)
                              try simp only [Act.put, List.getElem_toArray, List.getElem_cons_zero, List.getElem_cons_succ, List.setIfInBounds_toArray, List.set_cons_zero, List.set_cons_succ]
                              refine wpAnyH_take (i := 13) (v := ?vau13747484950x13) rfl (by kernel_rfl) (by kernel_rfl) (by kernel_rfl) (fun _ _ _ h => h) (Or.inl ⟨by rfl, ?hyu13747484950x13⟩) (by assumption) ?rau13747484950x13
                              case hyu13747484950x13 => (intro wq hSw; (try dsimp only at hSw); obtain ⟨e0, e1, e2, e3, e4, e5, e6, e7, e8, e9, e10, e11⟩ := hSw; go_simp <;> with_reducible rfl)
                              try simp only [Act.put, List.getElem_toArray, List.getElem_cons_zero, List.getElem_cons_succ, List.setIfInBounds_toArray, List.set_cons_zero, List.set_cons_succ]
                              refine wpAnyH_take (i := 14) (v := ?vau13747484950x14) rfl (by kernel_rfl) (by kernel_rfl) (by kernel_rfl) (fun _ _ _ h => h) (Or.inl ⟨by rfl, ?hyu13747484950x14⟩) (by assumption) ?rau13747484950x14
                              case hyu13747484950x14 => (intro wq hSw; (try dsimp only at hSw); obtain ⟨e0, e1, e2, e3, e4, e5, e6, e7, e8, e9, e10, e11⟩ := hSw; go_simp <;> with_reducible rfl)
                              try simp only [Act.put, List.getElem_toArray, List.getElem_cons_zero, List.getElem_cons_succ, List.setIfInBounds_toArray, List.set_cons_zero, List.set_cons_succ]
                              refine wpAnyH_take (i := 15) (v := ?vau13747484950x15) rfl (by kernel_rfl) (by kernel_rfl) (by kernel_rfl) (fun _ _ _ h => h) (Or.inl ⟨by rfl, ?hyu13747484950x15⟩) (by assumption) ?rau13747484950x15
                              case hyu13747484950x15 => (intro wq hSw; (try dsimp only at hSw); obtain ⟨e0, e1, e2, e3, e4, e5, e6, e7, e8, e9, e10, e11⟩ := hSw; go_simp <;> with_reducible rfl)
                              try simp only [Act.put, List.getElem_toArray, List.getElem_cons_zero, List.getElem_cons_succ, List.setIfInBounds_toArray, List.set_cons_zero, List.set_cons_succ]
                              refine wpAnyH_take (i := 16) (v := ?vau13747484950x16) rfl (by kernel_rfl) (by kernel_rfl) (by kernel_rfl) (fun _ _ _ h => h) (Or.inl ⟨by rfl, ?hyu13747484950x16⟩) (by assumption) ?rau13747484950x16
                              case hyu13747484950x16 => (intro wq hSw; (try dsimp only at hSw); obtain ⟨e0, e1, e2, e3, e4, e5, e6, e7, e8, e9, e10, e11⟩ := hSw; go_simp <;> with_reducible rfl)
                              try simp only [Act.put, List.getElem_toArray, List.getElem_cons_zero, List.getElem_cons_succ, List.setIfInBounds_toArray, List.set_cons_zero, List.set_cons_succ]
                              have hAne : w.heap.size ≠ gA := by have := LA.out; omega
                              have hBne : w.heap.size ≠ gB := by have := LB.out; omega
                              refine wpAnyH_ready (rs := [19]) (by kernel_rfl) (by simp) ?_
                              refine AllReadyH.cons rfl (fun K hK => ?_) AllReadyH.nil
                              rw [if_pos (by rfl)]
                              have XB1 := hide (row_far (W := v50) (g := gA) #[.int .i64 a.kind, .int .i64 a.level, .slice a.aI a.items.length a.cI, .slice a.aD a.data.length a.cD, .int .i64 a.next] XB.out (Ne.symm NE.out))
                              refine wp_store_row 25 _ _ rfl gA _ rfl rfl 25 _ XA.out sizePage rfl (by simp [Value.oneCell']) ?_
                              refine hK.out _ _ (cells12b (row_far _ (BX.out _ BB.out) hAne)) (fun hHeld => ?_)
                              clear hK K
                              try simp only [Act.put, List.getElem_toArray, List.getElem_cons_zero, List.getElem_cons_succ, List.setIfInBounds_toArray, List.set_cons_zero, List.set_cons_succ]
                              refine wpAnyH_ready (rs := [20]) (by kernel_rfl) (by simp) ?_
                              refine AllReadyH.cons rfl (fun K hK => ?_) AllReadyH.nil
                              rw [if_pos (by rfl)]
                              refine wp_store_row 25 _ _ rfl gB _ rfl rfl 25 _ XB1.out sizePage rfl (by simp [Value.oneCell']) ?_
                              refine hK.out _ _ (cells12b (row_far _ (row_far _ (BX.out _ BB.out) hAne) hBne)) (fun hHeld => ?_)
                              clear hK K
                              try simp only [Act.put, List.getElem_toArray, List.getElem_cons_zero, List.getElem_cons_succ, List.setIfInBounds_toArray, List.set_cons_zero, List.set_cons_succ]
                              refine wpAnyH_take (i := 21) (v := ?vau1374748495021) rfl (by kernel_rfl) (by kernel_rfl) (by kernel_rfl) (fun _ _ _ h => h) (Or.inl ⟨by rfl, ?hyu1374748495021⟩) (by assumption) ?rau1374748495021
                              case hyu1374748495021 => (intro wq hSw; (try dsimp only at hSw); obtain ⟨e0, e1, e2, e3, e4, e5, e6, e7, e8, e9, e10, e11⟩ := hSw; go_simp <;> with_reducible rfl)
                              try simp only [Act.put, List.getElem_toArray, List.getElem_cons_zero, List.getElem_cons_succ, List.setIfInBounds_toArray, List.set_cons_zero, List.set_cons_succ]
                              refine wpAnyH_take (i := 22) (v := ?vau1374748495022) rfl (by kernel_rfl) (by kernel_rfl) (by kernel_rfl) (fun _ _ _ h => h) (Or.inl ⟨by rfl, ?hyu1374748495022⟩) (by assumption) ?rau1374748495022
                              case hyu1374748495022 => (intro wq hSw; (try dsimp only at hSw); obtain ⟨e0, e1, e2, e3, e4, e5, e6, e7, e8, e9, e10, e11⟩ := hSw; go_simp <;> with_reducible rfl)
                              try simp only [Act.put, List.getElem_toArray, List.getElem_cons_zero, List.getElem_cons_succ, List.setIfInBounds_toArray, List.set_cons_zero, List.set_cons_succ]
                              refine wpAnyH_done (by kernel_rfl) ?_ _
                              clear hHeld
                              go_wp2_with fail
                              go_meet
                              case rel => exact ⟨gA, gB, a, b, aU, cU, rfl, rfl, rfl, rfl, ⟨row_far _ (setRow_heap _ _ _ _ _ _ XA.out) NE.out, setRow_heap _ _ _ _ _ _ XB1.out, (HQ.out.but (but_setRow _ gA _) (fun k hk => ⟨_, _, by subst hk; exact XA.out, by decide, by decide⟩) (below_row _ HQ.out.b LA.out)).but (but_setRow _ gB _) (fun k hk => ⟨_, _, by subst hk; exact XB1.out, by decide, by decide⟩) (below_row _ (below_row _ HQ.out.b LA.out) LB.out), EA.out, EB.out⟩, below_row _ (below_row _ B5W.out LAx.out) LBx.out⟩
                    · go_simp
                      have AL := hide (al v1 (.cells #[.int .i64 0, .int .i64 0, .slice none 0 0, .slice none 0 0, .int .i64 0] 25))
                      have LB : Hid (w1.heap.size ≤ v1.heap.size) := BB.out.size
                      have LBx : Hid (w6.heap.size ≤ v1.heap.size) := B5W.out.size
                      replace SX := hide (SX.out.keep AL.out)
                      replace B5W := hide (bt B5W.out AL.out)
                      replace BB := hide (bt BB.out AL.out)
                      have XB := hide (heap_alloc_new v1 (.cells #[.int .i64 0, .int .i64 0, .slice none 0 0, .slice none 0 0, .int .i64 0] 25))
                      refine hK.out _ _ (SS.out _ BB.out) (fun hHeld => ?_)
                      clear hK K AL
                      try simp only [Act.put, List.getElem_toArray, List.getElem_cons_zero, List.getElem_cons_succ, List.setIfInBounds_toArray, List.set_cons_zero, List.set_cons_succ]
                      generalize (v1.alloc (.cells #[.int .i64 0, .int .i64 0, .slice none 0 0, .slice none 0 0, .int .i64 0] 25)) = v51 at *
                      generalize v1.heap.size = gB at *
                      refine wpAnyH_ready (rs := [5, 17]) (by kernel_rfl) (by simp) ?_
                      refine (AllReadyH.cons rfl (fun K hK => ?_) (AllReadyH.cons rfl (fun K hK => ?_) AllReadyH.nil))
                      · go_simp
                        refine (SP2.out _ BB.out).mono ?_
                        rintro _ v52 ⟨y, rfl, hS, -, hE, hb⟩
                        have SY := hide hS
                        have EY := hide hE
                        replace SX := hide (SX.out.keep hb)
                        replace XB := hide (blk_keep XB.out hb)
                        replace B5W := hide (bt B5W.out hb)
                        replace BB := hide (bt BB.out hb)
                        clear hS hE hb
                        go_wp2_with fail
                        refine hK.out _ _ (SS.out _ BB.out) (fun hHeld => ?_)
                        clear hK K
                        try simp only [Act.put, List.getElem_toArray, List.getElem_cons_zero, List.getElem_cons_succ, List.setIfInBounds_toArray, List.set_cons_zero, List.set_cons_succ]
                        refine wpAnyH_ready (rs := [8, 17]) (by kernel_rfl) (by simp) ?_
                        refine (AllReadyH.cons rfl (fun K hK => ?_) (AllReadyH.cons rfl (fun K hK => ?_) AllReadyH.nil))
                        · go_simp
                          refine (SP3.out _ BB.out).mono ?_
                          rintro _ v53 ⟨aK, cK, rfl, hO⟩
                          have hb := hO.b
                          have SK := hide hO.r
                          replace SX := hide (SX.out.keep hb)
                          replace SY := hide (SY.out.keep hb)
                          replace XB := hide (blk_keep XB.out hb)
                          replace B5W := hide (bt B5W.out hb)
                          replace BB := hide (bt BB.out hb)
                          clear hO hb
                          go_wp2_with fail
                          refine hK.out _ _ (SS.out _ BB.out) (fun hHeld => ?_)
                          clear hK K
                          try simp only [Act.put, List.getElem_toArray, List.getElem_cons_zero, List.getElem_cons_succ, List.setIfInBounds_toArray, List.set_cons_zero, List.set_cons_succ]
                          refine wpAnyH_ready (rs := [11, 17]) (by kernel_rfl) (by simp) ?_
                          refine (AllReadyH.cons rfl (fun K hK => ?_) (AllReadyH.cons rfl (fun K hK => ?_) AllReadyH.nil))
                          · go_simp
                            refine (LN.out _ x y aK cK BB.out SX.out SY.out SK.out EX.out EY.out).mono ?_
                            rintro _ v54 ⟨a, b, aU, cU, rfl, hH, ha, hb2⟩
                            have hb := hH.b
                            have HQ := hide (hH.pre BB.out)
                            have EA := hide ha
                            have EB := hide hb2
                            clear SX SY SK
                            replace XB := hide (blk_keep XB.out hb)
                            replace B5W := hide (bt B5W.out hb)
                            replace BB := hide (bt BB.out hb)
                            clear hH ha hb2 hb
                            go_wp2_with fail
                            refine hK.out _ _ (SS.out _ BB.out) (fun hHeld => ?_)
                            clear hK K
                            try simp only [Act.put, List.getElem_toArray, List.getElem_cons_zero, List.getElem_cons_succ, List.setIfInBounds_toArray, List.set_cons_zero, List.set_cons_succ]
                            refine wpAnyH_take (i := 12) (v := ?vau151525354x12) rfl (by kernel_rfl) (by kernel_rfl) (by kernel_rfl) (fun _ _ _ h => h) (Or.inl ⟨by rfl, ?hyu151525354x12⟩) (by assumption) ?rau151525354x12
                            case hyu151525354x12 => (intro wq hSw; (try dsimp only at hSw); obtain ⟨e0, e1, e2, e3, e4, e5, e6, e7, e8, e9, e10, e11⟩ := hSw; go_simp <;> with_reducible rfl)
                            try simp only [Act.put, List.getElem_toArray, List.getElem_cons_zero, List.getElem_cons_succ, List.setIfInBounds_toArray, List.set_cons_zero, List.set_cons_succ]
                            refine wpAnyH_take (i := 13) (v := ?vau151525354x13) rfl (by kernel_rfl) (by kernel_rfl) (by kernel_rfl) (fun _ _ _ h => h) (Or.inl ⟨by rfl, ?hyu151525354x13⟩) (by assumption) ?rau151525354x13
                            case hyu151525354x13 => (intro wq hSw; (try dsimp only at hSw); obtain ⟨e0, e1, e2, e3, e4, e5, e6, e7, e8, e9, e10, e11⟩ := hSw; go_simp <;> with_reducible rfl)
                            try simp only [Act.put, List.getElem_toArray, List.getElem_cons_zero, List.getElem_cons_succ, List.setIfInBounds_toArray, List.set_cons_zero, List.set_cons_succ]
                            refine wpAnyH_take (i := 14) (v := ?vau151525354x14) rfl (by kernel_rfl) (by kernel_rfl) (by kernel_rfl) (fun _ _ _ h => h) (Or.inl ⟨by rfl, ?hyu151525354x14⟩) (by assumption) ?rau151525354x14
                            case hyu151525354x14 => (intro wq hSw; (try dsimp only at hSw); obtain ⟨e0, e1, e2, e3, e4, e5, e6, e7, e8, e9, e10, e11⟩ := hSw; go_simp <;> with_reducible rfl)
                            try simp only [Act.put, List.getElem_toArray, List.getElem_cons_zero, List.getElem_cons_succ, List.setIfInBounds_toArray, List.set_cons_zero, List.set_cons_succ]
                            refine wpAnyH_take (i := 15) (v := ?vau151525354x15) rfl (by kernel_rfl) (by kernel_rfl) (by kernel_rfl) (fun _ _ _ h => h) (Or.inl ⟨by rfl, ?hyu151525354x15⟩) (by assumption) ?rau151525354x15
                            case hyu151525354x15 => (intro wq hSw; (try dsimp only at hSw); obtain ⟨e0, e1, e2, e3, e4, e5, e6, e7, e8, e9, e10, e11⟩ := hSw; go_simp <;> with_reducible rfl)
                            try simp only [Act.put, List.getElem_toArray, List.getElem_cons_zero, List.getElem_cons_succ, List.setIfInBounds_toArray, List.set_cons_zero, List.set_cons_succ]
                            refine wpAnyH_take (i := 16) (v := ?vau151525354x16) rfl (by kernel_rfl) (by kernel_rfl) (by kernel_rfl) (fun _ _ _ h => h) (Or.inl ⟨by rfl, ?hyu151525354x16⟩) (by assumption) ?rau151525354x16
                            case hyu151525354x16 => (intro wq hSw; (try dsimp only at hSw); obtain ⟨e0, e1, e2, e3, e4, e5, e6, e7, e8, e9, e10, e11⟩ := hSw; go_simp <;> with_reducible rfl)
                            try simp only [Act.put, List.getElem_toArray, List.getElem_cons_zero, List.getElem_cons_succ, List.setIfInBounds_toArray, List.set_cons_zero, List.set_cons_succ]
                            refine wpAnyH_ready (rs := [17]) (by kernel_rfl) (by simp) ?_
                            refine (AllReadyH.cons rfl (fun K hK => ?_) AllReadyH.nil)
                            · go_simp
                              have AL := hide (al v54 (.cells #[.int .i64 0, .int .i64 0, .slice none 0 0, .slice none 0 0, .int .i64 0] 25))
                              have LA : Hid (w1.heap.size ≤ v54.heap.size) := BB.out.size
                              have LAx : Hid (w6.heap.size ≤ v54.heap.size) := B5W.out.size
                              have NE : Hid (v54.heap.size ≠ gB) := by have := (Array.getElem?_eq_some_iff.1 XB.out).1; show _ ≠ _; omega
                              replace HQ := hide (HQ.out.keep AL.out)
                              replace XB := hide (blk_keep XB.out AL.out)
                              replace B5W := hide (bt B5W.out AL.out)
                              replace BB := hide (bt BB.out AL.out)
                              have XA := hide (heap_alloc_new v54 (.cells #[.int .i64 0, .int .i64 0, .slice none 0 0, .slice none 0 0, .int .i64 0] 25))
                              refine hK.out _ _ (SS.out _ BB.out) (fun hHeld => ?_)
                              clear hK K AL
                              try simp only [Act.put, List.getElem_toArray, List.getElem_cons_zero, List.getElem_cons_succ, List.setIfInBounds_toArray, List.set_cons_zero, List.set_cons_succ]
                              generalize (v54.alloc (.cells #[.int .i64 0, .int .i64 0, .slice none 0 0, .slice none 0 0, .int .i64 0] 25)) = v55 at *
                              generalize v54.heap.size = gA at *
                              have hAne : w.heap.size ≠ gA := by have := LA.out; omega
                              have hBne : w.heap.size ≠ gB := by have := LB.out; omega
                              refine wpAnyH_ready (rs := [19]) (by kernel_rfl) (by simp) ?_
                              refine AllReadyH.cons rfl (fun K hK => ?_) AllReadyH.nil
                              rw [if_pos (by rfl)]
                              have XB1 := hide (row_far (W := v55) (g := gA) #[.int .i64 a.kind, .int .i64 a.level, .slice a.aI a.items.length a.cI, .slice a.aD a.data.length a.cD, .int .i64 a.next] XB.out (Ne.symm NE.out))
                              refine wp_store_row 25 _ _ rfl gA _ rfl rfl 25 _ XA.out sizePage rfl (by simp [Value.oneCell']) ?_
                              refine hK.out _ _ (cells12b (row_far _ (BX.out _ BB.out) hAne)) (fun hHeld => ?_)
                              clear hK K
                              try simp only [Act.put, List.getElem_toArray, List.getElem_cons_zero, List.getElem_cons_succ, List.setIfInBounds_toArray, List.set_cons_zero, List.set_cons_succ]
                              refine wpAnyH_ready (rs := [20]) (by kernel_rfl) (by simp) ?_
                              refine AllReadyH.cons rfl (fun K hK => ?_) AllReadyH.nil
                              rw [if_pos (by rfl)]
                              refine wp_store_row 25 _ _ rfl gB _ rfl rfl 25 _ XB1.out sizePage rfl (by simp [Value.oneCell']) ?_
                              refine hK.out _ _ (cells12b (row_far _ (row_far _ (BX.out _ BB.out) hAne) hBne)) (fun hHeld => ?_)
                              clear hK K
                              try simp only [Act.put, List.getElem_toArray, List.getElem_cons_zero, List.getElem_cons_succ, List.setIfInBounds_toArray, List.set_cons_zero, List.set_cons_succ]
                              refine wpAnyH_take (i := 21) (v := ?vau1515253545521) rfl (by kernel_rfl) (by kernel_rfl) (by kernel_rfl) (fun _ _ _ h => h) (Or.inl ⟨by rfl, ?hyu1515253545521⟩) (by assumption) ?rau1515253545521
                              case hyu1515253545521 => (intro wq hSw; (try dsimp only at hSw); obtain ⟨e0, e1, e2, e3, e4, e5, e6, e7, e8, e9, e10, e11⟩ := hSw; go_simp <;> with_reducible rfl)
                              try simp only [Act.put, List.getElem_toArray, List.getElem_cons_zero, List.getElem_cons_succ, List.setIfInBounds_toArray, List.set_cons_zero, List.set_cons_succ]
                              refine wpAnyH_take (i := 22) (v := ?vau1515253545522) rfl (by kernel_rfl) (by kernel_rfl) (by kernel_rfl) (fun _ _ _ h => h) (Or.inl ⟨by rfl, ?hyu1515253545522⟩) (by assumption) ?rau1515253545522
                              case hyu1515253545522 => (intro wq hSw; (try dsimp only at hSw); obtain ⟨e0, e1, e2, e3, e4, e5, e6, e7, e8, e9, e10, e11⟩ := hSw; go_simp <;> with_reducible rfl)
                              try simp only [Act.put, List.getElem_toArray, List.getElem_cons_zero, List.getElem_cons_succ, List.setIfInBounds_toArray, List.set_cons_zero, List.set_cons_succ]
                              refine wpAnyH_done (by kernel_rfl) ?_ _
                              clear hHeld
                              go_wp2_with fail
                              go_meet
                              case rel => exact ⟨gA, gB, a, b, aU, cU, rfl, rfl, rfl, rfl, ⟨row_far _ (setRow_heap _ _ _ _ _ _ XA.out) NE.out, setRow_heap _ _ _ _ _ _ XB1.out, (HQ.out.but (but_setRow _ gA _) (fun k hk => ⟨_, _, by subst hk; exact XA.out, by decide, by decide⟩) (below_row _ HQ.out.b LA.out)).but (but_setRow _ gB _) (fun k hk => ⟨_, _, by subst hk; exact XB1.out, by decide, by decide⟩) (below_row _ (below_row _ HQ.out.b LA.out) LB.out), EA.out, EB.out⟩, below_row _ (below_row _ B5W.out LAx.out) LBx.out⟩
                          · go_simp
                            have AL := hide (al v53 (.cells #[.int .i64 0, .int .i64 0, .slice none 0 0, .slice none 0 0, .int .i64 0] 25))
                            have LA : Hid (w1.heap.size ≤ v53.heap.size) := BB.out.size
                            have LAx : Hid (w6.heap.size ≤ v53.heap.size) := B5W.out.size
                            have NE : Hid (v53.heap.size ≠ gB) := by have := (Array.getElem?_eq_some_iff.1 XB.out).1; show _ ≠ _; omega
                            replace SX := hide (SX.out.keep AL.out)
                            replace SY := hide (SY.out.keep AL.out)
                            replace SK := hide (SK.out.keep AL.out)
                            replace XB := hide (blk_keep XB.out AL.out)
                            replace B5W := hide (bt B5W.out AL.out)
                            replace BB := hide (bt BB.out AL.out)
                            have XA := hide (heap_alloc_new v53 (.cells #[.int .i64 0, .int .i64 0, .slice none 0 0, .slice none 0 0, .int .i64 0] 25))
                            refine hK.out _ _ (SS.out _ BB.out) (fun hHeld => ?_)
                            clear hK K AL
                            try simp only [Act.put, List.getElem_toArray, List.getElem_cons_zero, List.getElem_cons_succ, List.setIfInBounds_toArray, List.set_cons_zero, List.set_cons_succ]
                            generalize (v53.alloc (.cells #[.int .i64 0, .int .i64 0, .slice none 0 0, .slice none 0 0, .int .i64 0] 25)) = v56 at *
                            generalize v53.heap.size = gA at *
                            refine wpAnyH_ready (rs := [11]) (by kernel_rfl) (by simp) ?_
                            refine (AllReadyH.cons rfl (fun K hK => ?_) AllReadyH.nil)
                            · go_simp
                              refine (LN.out _ x y aK cK BB.out SX.out SY.out SK.out EX.out EY.out).mono ?_
                              rintro _ v57 ⟨a, b, aU, cU, rfl, hH, ha, hb2⟩
                              have hb := hH.b
                              have HQ := hide (hH.pre BB.out)
                              have EA := hide ha
                              have EB := hide hb2
                              clear SX SY SK
                              replace XA := hide (blk_keep XA.out hb)
                              replace XB := hide (blk_keep XB.out hb)
                              replace B5W := hide (bt B5W.out hb)
                              replace BB := hide (bt BB.out hb)
                              clear hH ha hb2 hb
                              go_wp2_with fail
                              refine hK.out _ _ (SS.out _ BB.out) (fun hHeld => ?_)
                              clear hK K
                              try simp only [Act.put, List.getElem_toArray, List.getElem_cons_zero, List.getElem_cons_succ, List.setIfInBounds_toArray, List.set_cons_zero, List.set_cons_succ]
                              refine wpAnyH_take (i := 12) (v := ?vau15152535657x12) rfl (by kernel_rfl) (by kernel_rfl) (by kernel_rfl) (fun _ _ _ h => h) (Or.inl ⟨by rfl, ?hyu15152535657x12⟩) (by assumption) ?rau15152535657x12
                              case hyu15152535657x12 => (intro wq hSw; (try dsimp only at hSw); obtain ⟨e0, e1, e2, e3, e4, e5, e6, e7, e8, e9, e10, e11⟩ := hSw; go_simp <;> with_reducible rfl)
                              try simp only [Act.put, List.getElem_toArray, List.getElem_cons_zero, List.getElem_cons_succ, List.setIfInBounds_toArray, List.set_cons_zero, List.set_cons_succ]
                              refine wpAnyH_take (i := 13) (v := ?vau15152535657x13) rfl (by kernel_rfl) (by kernel_rfl) (by kernel_rfl) (fun _ _ _ h => h) (Or.inl ⟨by rfl, ?hyu15152535657x13⟩) (by assumption) ?rau15152535657x13
                              case hyu15152535657x13 => (intro wq hSw; (try dsimp only at hSw); obtain ⟨e0, e1, e2, e3, e4, e5, e6, e7, e8, e9, e10, e11⟩ := hSw; go_simp <;> with_reducible rfl)
                              try simp only [Act.put, List.getElem_toArray, List.getElem_cons_zero, List.getElem_cons_succ, List.setIfInBounds_toArray, List.set_cons_zero, List.set_cons_succ]
                              refine wpAnyH_take (i := 14) (v := ?vau15152535657x14) rfl (by kernel_rfl) (by kernel_rfl) (by kernel_rfl) (fun _ _ _ h => h) (Or.inl ⟨by rfl, ?hyu15152535657x14⟩) (by assumption) ?rau15152535657x14
                              case hyu15152535657x14 => (intro wq hSw; (try dsimp only at hSw); obtain ⟨e0, e1, e2, e3, e4, e5, e6, e7, e8, e9, e10, e11⟩ := hSw; go_simp <;> with_reducible rfl)
                              try simp only [Act.put, List.getElem_toArray, List.getElem_cons_zero, List.getElem_cons_succ, List.setIfInBounds_toArray, List.set_cons_zero, List.set_cons_succ]
                              refine wpAnyH_take (i := 15) (v := ?vau15152535657x15) rfl (by kernel_rfl) (by kernel_rfl) (by kernel_rfl) (fun _ _ _ h => h) (Or.inl ⟨by rfl, ?hyu15152535657x15⟩) (by assumption) ?rau15152535657x15
                              case hyu15152535657x15 => (intro wq hSw; (try dsimp only at hSw); obtain ⟨e0, e1, e2, e3, e4, e5, e6, e7, e8, e9, e10, e11⟩ := hSw; go_simp <;> with_reducible rfl)
                              try simp only [Act.put, List.getElem_toArray, List.getElem_cons_zero, List.getElem_cons_succ, List.setIfInBounds_toArray, List.set_cons_zero, List.set_cons_succ]
                              refine wpAnyH_take (i := 16) (v := ?vau15152535657x16) rfl (by kernel_rfl) (by kernel_rfl) (by kernel_rfl) (fun _ _ _ h => h) (Or.inl ⟨by rfl, ?hyu15152535657x16⟩) (by assumption) ?rau15152535657x16
                              case hyu15152535657x16 => (intro wq hSw; (try dsimp only at hSw); obtain ⟨e0, e1, e2, e3, e4, e5, e6, e7, e8, e9, e10, e11⟩ := hSw; go_simp <;> with_reducible rfl)
                              try simp only [Act.put, List.getElem_toArray, List.getElem_cons_zero, List.getElem_cons_succ, List.setIfInBounds_toArray, List.set_cons_zero, List.set_cons_succ]
                              have hAne : w.heap.size ≠ gA := by have := LA.out; omega
                              have hBne : w.heap.size ≠ gB := by have := LB.out; omega
                              refine wpAnyH_ready (rs := [19]) (by kernel_rfl) (by simp) ?_
                              refine AllReadyH.cons rfl (fun K hK => ?_) AllReadyH.nil
                              rw [if_pos (by rfl)]
                              have XB1 := hide (row_far (W := v57) (g := gA) #[.int .i64 a.kind, .int .i64 a.level, .slice a.aI a.items.length a.cI, .slice a.aD a.data.length a.cD, .int .i64 a.next] XB.out (Ne.symm NE.out))
                              refine wp_store_row 25 _ _ rfl gA _ rfl rfl 25 _ XA.out sizePage rfl (by simp [Value.oneCell']) ?_
                              refine hK.out _ _ (cells12b (row_far _ (BX.out _ BB.out) hAne)) (fun hHeld => ?_)
                              clear hK K
                              try simp only [Act.put, List.getElem_toArray, List.getElem_cons_zero, List.getElem_cons_succ, List.setIfInBounds_toArray, List.set_cons_zero, List.set_cons_succ]
                              refine wpAnyH_ready (rs := [20]) (by kernel_rfl) (by simp) ?_
                              refine AllReadyH.cons rfl (fun K hK => ?_) AllReadyH.nil
                              rw [if_pos (by rfl)]
                              refine wp_store_row 25 _ _ rfl gB _ rfl rfl 25 _ XB1.out sizePage rfl (by simp [Value.oneCell']) ?_
                              refine hK.out _ _ (cells12b (row_far _ (row_far _ (BX.out _ BB.out) hAne) hBne)) (fun hHeld => ?_)
                              clear hK K
                              try simp only [Act.put, List.getElem_toArray, List.getElem_cons_zero, List.getElem_cons_succ, List.setIfInBounds_toArray, List.set_cons_zero, List.set_cons_succ]
                              refine wpAnyH_take (i := 21) (v := ?vau1515253565721) rfl (by kernel_rfl) (by kernel_rfl) (by kernel_rfl) (fun _ _ _ h => h) (Or.inl ⟨by rfl, ?hyu1515253565721⟩) (by assumption) ?rau1515253565721
                              case hyu1515253565721 => (intro wq hSw; (try dsimp only at hSw); obtain ⟨e0, e1, e2, e3, e4, e5, e6, e7, e8, e9, e10, e11⟩ := hSw; go_simp <;> with_reducible rfl)
                              try simp only [Act.put, List.getElem_toArray, List.getElem_cons_zero, List.getElem_cons_succ, List.setIfInBounds_toArray, List.set_cons_zero, List.set_cons_succ]
                              refine wpAnyH_take (i := 22) (v := ?vau1515253565722) rfl (by kernel_rfl) (by kernel_rfl) (by kernel_rfl) (fun _ _ _ h => h) (Or.inl ⟨by rfl, ?hyu1515253565722⟩) (by assumption) ?rau1515253565722
                              case hyu1515253565722 => (intro wq hSw; (try dsimp only at hSw); obtain ⟨e0, e1, e2, e3, e4, e5, e6, e7, e8, e9, e10, e11⟩ := hSw; go_simp <;> with_reducible rfl)
                              try simp only [Act.put, List.getElem_toArray, List.getElem_cons_zero, List.getElem_cons_succ, List.setIfInBounds_toArray, List.set_cons_zero, List.set_cons_succ]
                              refine wpAnyH_done (by kernel_rfl) ?_ _
                              clear hHeld
                              go_wp2_with fail
                              go_meet
                              case rel => exact ⟨gA, gB, a, b, aU, cU, rfl, rfl, rfl, rfl, ⟨row_far _ (setRow_heap _ _ _ _ _ _ XA.out) NE.out, setRow_heap _ _ _ _ _ _ XB1.out, (HQ.out.but (but_setRow _ gA _) (fun k hk => ⟨_, _, by subst hk; exact XA.out, by decide, by decide⟩) (below_row _ HQ.out.b LA.out)).but (but_setRow _ gB _) (fun k hk => ⟨_, _, by subst hk; exact XB1.out, by decide, by decide⟩) (below_row _ (below_row _ HQ.out.b LA.out) LB.out), EA.out, EB.out⟩, below_row _ (below_row _ B5W.out LAx.out) LBx.out⟩
                        · go_simp
                          have AL := hide (al v52 (.cells #[.int .i64 0, .int .i64 0, .slice none 0 0, .slice none 0 0, .int .i64 0] 25))
                          have LA : Hid (w1.heap.size ≤ v52.heap.size) := BB.out.size
                          have LAx : Hid (w6.heap.size ≤ v52.heap.size) := B5W.out.size
                          have NE : Hid (v52.heap.size ≠ gB) := by have := (Array.getElem?_eq_some_iff.1 XB.out).1; show _ ≠ _; omega
                          replace SX := hide (SX.out.keep AL.out)
                          replace SY := hide (SY.out.keep AL.out)
                          replace XB := hide (blk_keep XB.out AL.out)
                          replace B5W := hide (bt B5W.out AL.out)
                          replace BB := hide (bt BB.out AL.out)
                          have XA := hide (heap_alloc_new v52 (.cells #[.int .i64 0, .int .i64 0, .slice none 0 0, .slice none 0 0, .int .i64 0] 25))
                          refine hK.out _ _ (SS.out _ BB.out) (fun hHeld => ?_)
                          clear hK K AL
                          try simp only [Act.put, List.getElem_toArray, List.getElem_cons_zero, List.getElem_cons_succ, List.setIfInBounds_toArray, List.set_cons_zero, List.set_cons_succ]
                          generalize (v52.alloc (.cells #[.int .i64 0, .int .i64 0, .slice none 0 0, .slice none 0 0, .int .i64 0] 25)) = v58 at *
                          generalize v52.heap.size = gA at *
                          refine wpAnyH_ready (rs := [8]) (by kernel_rfl) (by simp) ?_
                          refine (AllReadyH.cons rfl (fun K hK => ?_) AllReadyH.nil)
                          · go_simp
                            refine (SP3.out _ BB.out).mono ?_
                            rintro _ v59 ⟨aK, cK, rfl, hO⟩
                            have hb := hO.b
                            have SK := hide hO.r
                            replace SX := hide (SX.out.keep hb)
                            replace SY := hide (SY.out.keep hb)
                            replace XA := hide (blk_keep XA.out hb)
                            replace XB := hide (blk_keep XB.out hb)
                            replace B5W := hide (bt B5W.out hb)
                            replace BB := hide (bt BB.out hb)
                            clear hO hb
                            go_wp2_with fail
                            refine hK.out _ _ (SS.out _ BB.out) (fun hHeld => ?_)
                            clear hK K
                            try simp only [Act.put, List.getElem_toArray, List.getElem_cons_zero, List.getElem_cons_succ, List.setIfInBounds_toArray, List.set_cons_zero, List.set_cons_succ]
                            refine wpAnyH_ready (rs := [11]) (by kernel_rfl) (by simp) ?_
                            refine (AllReadyH.cons rfl (fun K hK => ?_) AllReadyH.nil)
                            · go_simp
                              refine (LN.out _ x y aK cK BB.out SX.out SY.out SK.out EX.out EY.out).mono ?_
                              rintro _ v60 ⟨a, b, aU, cU, rfl, hH, ha, hb2⟩
                              have hb := hH.b
                              have HQ := hide (hH.pre BB.out)
                              have EA := hide ha
                              have EB := hide hb2
                              clear SX SY SK
                              replace XA := hide (blk_keep XA.out hb)
                              replace XB := hide (blk_keep XB.out hb)
                              replace B5W := hide (bt B5W.out hb)
                              replace BB := hide (bt BB.out hb)
                              clear hH ha hb2 hb
                              go_wp2_with fail
                              refine hK.out _ _ (SS.out _ BB.out) (fun hHeld => ?_)
                              clear hK K
                              try simp only [Act.put, List.getElem_toArray, List.getElem_cons_zero, List.getElem_cons_succ, List.setIfInBounds_toArray, List.set_cons_zero, List.set_cons_succ]
                              refine wpAnyH_take (i := 12) (v := ?vau15152585960x12) rfl (by kernel_rfl) (by kernel_rfl) (by kernel_rfl) (fun _ _ _ h => h) (Or.inl ⟨by rfl, ?hyu15152585960x12⟩) (by assumption) ?rau15152585960x12
                              case hyu15152585960x12 => (intro wq hSw; (try dsimp only at hSw); obtain ⟨e0, e1, e2, e3, e4, e5, e6, e7, e8, e9, e10, e11⟩ := hSw; go_simp <;> with_reducible rfl)
                              try simp only [Act.put, List.getElem_toArray, List.getElem_cons_zero, List.getElem_cons_succ, List.setIfInBounds_toArray, List.set_cons_zero, List.set_cons_succ]
                              refine wpAnyH_take (i := 13) (v := ?vau15152585960x13) rfl (by kernel_rfl) (by kernel_rfl) (by kernel_rfl) (fun _ _ _ h => h) (Or.inl ⟨by rfl, ?hyu15152585960x13⟩) (by assumption) ?rau15152585960x13
                              case hyu15152585960x13 => (intro wq hSw; (try dsimp only at hSw); obtain ⟨e0, e1, e2, e3, e4, e5, e6, e7, e8, e9, e10, e11⟩ := hSw; go_simp <;> with_reducible rfl)
                              try simp only [Act.put, List.getElem_toArray, List.getElem_cons_zero, List.getElem_cons_succ, List.setIfInBounds_toArray, List.set_cons_zero, List.set_cons_succ]
                              refine wpAnyH_take (i := 14) (v := ?vau15152585960x14) rfl (by kernel_rfl) (by kernel_rfl) (by kernel_rfl) (fun _ _ _ h => h) (Or.inl ⟨by rfl, ?hyu15152585960x14⟩) (by assumption) ?rau15152585960x14
                              case hyu15152585960x14 => (intro wq hSw; (try dsimp only at hSw); obtain ⟨e0, e1, e2, e3, e4, e5, e6, e7, e8, e9, e10, e11⟩ := hSw; go_simp <;> with_reducible rfl)
                              try simp only [Act.put, List.getElem_toArray, List.getElem_cons_zero, List.getElem_cons_succ, List.setIfInBounds_toArray, List.set_cons_zero, List.set_cons_succ]
                              refine wpAnyH_take (i := 15) (v := ?vau15152585960x15) rfl (by kernel_rfl) (by kernel_rfl) (by kernel_rfl) (fun _ _ _ h => h) (Or.inl ⟨by rfl, ?hyu15152585960x15⟩) (by assumption) ?rau15152585960x15
                              case hyu15152585960x15 => (intro wq hSw; (try dsimp only at hSw); obtain ⟨e0, e1, e2, e3, e4, e5, e6, e7, e8, e9, e10, e11⟩ := hSw; go_simp <;> with_reducible rfl)
                              try simp only [Act.put, List.getElem_toArray, List.getElem_cons_zero, List.getElem_cons_succ, List.setIfInBounds_toArray, List.set_cons_zero, List.set_cons_succ]
                              refine wpAnyH_take (i := 16) (v := ?vau15152585960x16) rfl (by kernel_rfl) (by kernel_rfl) (by kernel_rfl) (fun _ _ _ h => h) (Or.inl ⟨by rfl, ?hyu15152585960x16⟩) (by assumption) ?rau15152585960x16
                              case hyu15152585960x16 => (intro wq hSw; (try dsimp only at hSw); obtain ⟨e0, e1, e2, e3, e4, e5, e6, e7, e8, e9, e10, e11⟩ := hSw; go_simp <;> with_reducible rfl)
                              try simp only [Act.put, List.getElem_toArray, List.getElem_cons_zero, List.getElem_cons_succ, List.setIfInBounds_toArray, List.set_cons_zero, List.set_cons_succ]
                              have hAne : w.heap.size ≠ gA := by have := LA.out; omega
                              have hBne : w.heap.size ≠ gB := by have := LB.out; omega
                              refine wpAnyH_ready (rs := [19]) (by kernel_rfl) (by simp) ?_
                              refine AllReadyH.cons rfl (fun K hK => ?_) AllReadyH.nil
                              rw [if_pos (by rfl)]
                              have XB1 := hide (row_far (W := v60) (g := gA) #[.int .i64 a.kind, .int .i64 a.level, .slice a.aI a.items.length a.cI, .slice a.aD a.data.length a.cD, .int .i64 a.next] XB.out (Ne.symm NE.out))
                              refine wp_store_row 25 _ _ rfl gA _ rfl rfl 25 _ XA.out sizePage rfl (by simp [Value.oneCell']) ?_
                              refine hK.out _ _ (cells12b (row_far _ (BX.out _ BB.out) hAne)) (fun hHeld => ?_)
                              clear hK K
                              try simp only [Act.put, List.getElem_toArray, List.getElem_cons_zero, List.getElem_cons_succ, List.setIfInBounds_toArray, List.set_cons_zero, List.set_cons_succ]
                              refine wpAnyH_ready (rs := [20]) (by kernel_rfl) (by simp) ?_
                              refine AllReadyH.cons rfl (fun K hK => ?_) AllReadyH.nil
                              rw [if_pos (by rfl)]
                              refine wp_store_row 25 _ _ rfl gB _ rfl rfl 25 _ XB1.out sizePage rfl (by simp [Value.oneCell']) ?_
                              refine hK.out _ _ (cells12b (row_far _ (row_far _ (BX.out _ BB.out) hAne) hBne)) (fun hHeld => ?_)
                              clear hK K
                              try simp only [Act.put, List.getElem_toArray, List.getElem_cons_zero, List.getElem_cons_succ, List.setIfInBounds_toArray, List.set_cons_zero, List.set_cons_succ]
                              refine wpAnyH_take (i := 21) (v := ?vau1515258596021) rfl (by kernel_rfl) (by kernel_rfl) (by kernel_rfl) (fun _ _ _ h => h) (Or.inl ⟨by rfl, ?hyu1515258596021⟩) (by assumption) ?rau1515258596021
                              case hyu1515258596021 => (intro wq hSw; (try dsimp only at hSw); obtain ⟨e0, e1, e2, e3, e4, e5, e6, e7, e8, e9, e10, e11⟩ := hSw; go_simp <;> with_reducible rfl)
                              try simp only [Act.put, List.getElem_toArray, List.getElem_cons_zero, List.getElem_cons_succ, List.setIfInBounds_toArray, List.set_cons_zero, List.set_cons_succ]
                              refine wpAnyH_take (i := 22) (v := ?vau1515258596022) rfl (by kernel_rfl) (by kernel_rfl) (by kernel_rfl) (fun _ _ _ h => h) (Or.inl ⟨by rfl, ?hyu1515258596022⟩) (by assumption) ?rau1515258596022
                              case hyu1515258596022 => (intro wq hSw; (try dsimp only at hSw); obtain ⟨e0, e1, e2, e3, e4, e5, e6, e7, e8, e9, e10, e11⟩ := hSw; go_simp <;> with_reducible rfl)
                              try simp only [Act.put, List.getElem_toArray, List.getElem_cons_zero, List.getElem_cons_succ, List.setIfInBounds_toArray, List.set_cons_zero, List.set_cons_succ]
                              refine wpAnyH_done (by kernel_rfl) ?_ _
                              clear hHeld
                              go_wp2_with fail
                              go_meet
                              case rel => exact ⟨gA, gB, a, b, aU, cU, rfl, rfl, rfl, rfl, ⟨row_far _ (setRow_heap _ _ _ _ _ _ XA.out) NE.out, setRow_heap _ _ _ _ _ _ XB1.out, (HQ.out.but (but_setRow _ gA _) (fun k hk => ⟨_, _, by subst hk; exact XA.out, by decide, by decide⟩) (below_row _ HQ.out.b LA.out)).but (but_setRow _ gB _) (fun k hk => ⟨_, _, by subst hk; exact XB1.out, by decide, by decide⟩) (below_row _ (below_row _ HQ.out.b LA.out) LB.out), EA.out, EB.out⟩, below_row _ (below_row _ B5W.out LAx.out) LBx.out⟩
                      · go_simp
                        have AL := hide (al v51 (.cells #[.int .i64 0, .int .i64 0, .slice none 0 0, .slice none 0 0, .int .i64 0] 25))
                        have LA : Hid (w1.heap.size ≤ v51.heap.size) := BB.out.size
                        have LAx : Hid (w6.heap.size ≤ v51.heap.size) := B5W.out.size
                        have NE : Hid (v51.heap.size ≠ gB) := by have := (Array.getElem?_eq_some_iff.1 XB.out).1; show _ ≠ _; omega
                        replace SX := hide (SX.out.keep AL.out)
                        replace XB := hide (blk_keep XB.out AL.out)
                        replace B5W := hide (bt B5W.out AL.out)
                        replace BB := hide (bt BB.out AL.out)
                        have XA := hide (heap_alloc_new v51 (.cells #[.int .i64 0, .int .i64 0, .slice none 0 0, .slice none 0 0, .int .i64 0] 25))
                        refine hK.out _ _ (SS.out _ BB.out) (fun hHeld => ?_)
                        clear hK K AL
                        try simp only [Act.put, List.getElem_toArray, List.getElem_cons_zero, List.getElem_cons_succ, List.setIfInBounds_toArray, List.set_cons_zero, List.set_cons_succ]
                        generalize (v51.alloc (.cells #[.int .i64 0, .int .i64 0, .slice none 0 0, .slice none 0 0, .int .i64 0] 25)) = v61 at *
                        generalize v51.heap.size = gA at *
                        refine wpAnyH_ready (rs := [5]) (by kernel_rfl) (by simp) ?_
                        refine (AllReadyH.cons rfl (fun K hK => ?_) AllReadyH.nil)
                        · go_simp
                          refine (SP2.out _ BB.out).mono ?_
                          rintro _ v62 ⟨y, rfl, hS, -, hE, hb⟩
                          have SY := hide hS
                          have EY := hide hE
                          replace SX := hide (SX.out.keep hb)
                          replace XA := hide (blk_keep XA.out hb)
                          replace XB := hide (blk_keep XB.out hb)
                          replace B5W := hide (bt B5W.out hb)
                          replace BB := hide (bt BB.out hb)
                          clear hS hE hb
                          go_wp2_with fail
                          refine hK.out _ _ (SS.out _ BB.out) (fun hHeld => ?_)
                          clear hK K
                          try simp only [Act.put, List.getElem_toArray, List.getElem_cons_zero, List.getElem_cons_succ, List.setIfInBounds_toArray, List.set_cons_zero, List.set_cons_succ]
                          refine wpAnyH_ready (rs := [8]) (by kernel_rfl) (by simp) ?_
                          refine (AllReadyH.cons rfl (fun K hK => ?_) AllReadyH.nil)
                          · go_simp
                            refine (SP3.out _ BB.out).mono ?_
                            rintro _ v63 ⟨aK, cK, rfl, hO⟩
                            have hb := hO.b
                            have SK := hide hO.r
                            replace SX := hide (SX.out.keep hb)
                            replace SY := hide (SY.out.keep hb)
                            replace XA := hide (blk_keep XA.out hb)
                            replace XB := hide (blk_keep XB.out hb)
                            replace B5W := hide (bt B5W.out hb)
                            replace BB := hide (bt BB.out hb)
                            clear hO hb
                            go_wp2_with fail
                            refine hK.out _ _ (SS.out _ BB.out) (fun hHeld => ?_)
                            clear hK K
                            try simp only [Act.put, List.getElem_toArray, List.getElem_cons_zero, List.getElem_cons_succ, List.setIfInBounds_toArray, List.set_cons_zero, List.set_cons_succ]
                            refine wpAnyH_ready (rs := [11]) (by kernel_rfl) (by simp) ?_
                            refine (AllReadyH.cons rfl (fun K hK => ?_) AllReadyH.nil)
                            · go_simp
                              refine (LN.out _ x y aK cK BB.out SX.out SY.out SK.out EX.out EY.out).mono ?_
                              rintro _ v64 ⟨a, b, aU, cU, rfl, hH, ha, hb2⟩
                              have hb := hH.b
                              have HQ := hide (hH.pre BB.out)
                              have EA := hide ha
                              have EB := hide hb2
                              clear SX SY SK
                              replace XA := hide (blk_keep XA.out hb)
                              replace XB := hide (blk_keep XB.out hb)
                              replace B5W := hide (bt B5W.out hb)
                              replace BB := hide (bt BB.out hb)
                              clear hH ha hb2 hb
                              go_wp2_with fail
                              refine hK.out _ _ (SS.out _ BB.out) (fun hHeld => ?_)
                              clear hK K
                              try simp only [Act.put, List.getElem_toArray, List.getElem_cons_zero, List.getElem_cons_succ, List.setIfInBounds_toArray, List.set_cons_zero, List.set_cons_succ]
                              refine wpAnyH_take (i := 12) (v := ?vau15161626364x12) rfl (by kernel_rfl) (by kernel_rfl) (by kernel_rfl) (fun _ _ _ h => h) (Or.inl ⟨by rfl, ?hyu15161626364x12⟩) (by assumption) ?rau15161626364x12
                              case hyu15161626364x12 => (intro wq hSw; (try dsimp only at hSw); obtain ⟨e0, e1, e2, e3, e4, e5, e6, e7, e8, e9, e10, e11⟩ := hSw; go_simp <;> with_reducible rfl)
                              try simp only [Act.put, List.getElem_toArray, List.getElem_cons_zero, List.getElem_cons_succ, List.setIfInBounds_toArray, List.set_cons_zero, List.set_cons_succ]
                              refine wpAnyH_take (i := 13) (v := ?vau15161626364x13) rfl (by kernel_rfl) (by kernel_rfl) (by kernel_rfl) (fun _ _ _ h => h) (Or.inl ⟨by rfl, ?hyu15161626364x13⟩) (by assumption) ?rau15161626364x13
                              case hyu15161626364x13 => (intro wq hSw; (try dsimp only at hSw); obtain ⟨e0, e1, e2, e3, e4, e5, e6, e7, e8, e9, e10, e11⟩ := hSw; go_simp <;> with_reducible rfl)
                              try simp only [Act.put, List.getElem_toArray, List.getElem_cons_zero, List.getElem_cons_succ, List.setIfInBounds_toArray, List.set_cons_zero, List.set_cons_succ]
                              refine wpAnyH_take (i := 14) (v := ?vau15161626364x14) rfl (by kernel_rfl) (by kernel_rfl) (by kernel_rfl) (fun _ _ _ h => h) (Or.inl ⟨by rfl, ?hyu15161626364x14⟩) (by assumption) ?rau15161626364x14
                              case hyu15161626364x14 => (intro wq hSw; (try dsimp only at hSw); obtain ⟨e0, e1, e2, e3, e4, e5, e6, e7, e8, e9, e10, e11⟩ := hSw; go_simp <;> with_reducible rfl)
                              try simp only [Act.put, List.getElem_toArray, List.getElem_cons_zero, List.getElem_cons_succ, List.setIfInBounds_toArray, List.set_cons_zero, List.set_cons_succ]
                              refine wpAnyH_take (i := 15) (v := ?vau15161626364x15) rfl (by kernel_rfl) (by kernel_rfl) (by kernel_rfl) (fun _ _ _ h => h) (Or.inl ⟨by rfl, ?hyu15161626364x15⟩) (by assumption) ?rau15161626364x15
                              case hyu15161626364x15 => (intro wq hSw; (try dsimp only at hSw); obtain ⟨e0, e1, e2, e3, e4, e5, e6, e7, e8, e9, e10, e11⟩ := hSw; go_simp <;> with_reducible rfl)
                              try simp only [Act.put, List.getElem_toArray, List.getElem_cons_zero, List.getElem_cons_succ, List.setIfInBounds_toArray, List.set_cons_zero, List.set_cons_succ]
                              refine wpAnyH_take (i := 16) (v := ?vau15161626364x16) rfl (by kernel_rfl) (by kernel_rfl) (by kernel_rfl) (fun _ _ _ h => h) (Or.inl ⟨by rfl, ?hyu15161626364x16⟩) (by assumption) ?rau15161626364x16
                              case hyu15161626364x16 => (intro wq hSw; (try dsimp only at hSw); obtain ⟨e0, e1, e2, e3, e4, e5, e6, e7, e8, e9, e10, e11⟩ := hSw; go_simp <;> with_reducible rfl)
                              try simp only [Act.put, List.getElem_toArray, List.getElem_cons_zero, List.getElem_cons_succ, List.setIfInBounds_toArray, List.set_cons_zero, List.set_cons_succ]
                              have hAne : w.heap.size ≠ gA := by have := LA.out; omega
                              have hBne : w.heap.size ≠ gB := by have := LB.out; omega
                              refine wpAnyH_ready (rs := [19]) (by kernel_rfl) (by simp) ?_
                              refine AllReadyH.cons rfl (fun K hK => ?_) AllReadyH.nil
                              rw [if_pos (by rfl)]
                              have XB1 := hide (row_far (W := v64) (g := gA) #[.int .i64 a.kind, .int .i64 a.level, .slice a.aI a.items.length a.cI, .slice a.aD a.data.length a.cD, .int .i64 a.next] XB.out (Ne.symm NE.out))
                              refine wp_store_row 25 _ _ rfl gA _ rfl rfl 25 _ XA.out sizePage rfl (by simp [Value.oneCell']) ?_
                              refine hK.out _ _ (cells12b (row_far _ (BX.out _ BB.out) hAne)) (fun hHeld => ?_)
                              clear hK K
                              try simp only [Act.put, List.getElem_toArray, List.getElem_cons_zero, List.getElem_cons_succ, List.setIfInBounds_toArray, List.set_cons_zero, List.set_cons_succ]
                              refine wpAnyH_ready (rs := [20]) (by kernel_rfl) (by simp) ?_
                              refine AllReadyH.cons rfl (fun K hK => ?_) AllReadyH.nil
                              rw [if_pos (by rfl)]
                              refine wp_store_row 25 _ _ rfl gB _ rfl rfl 25 _ XB1.out sizePage rfl (by simp [Value.oneCell']) ?_
                              refine hK.out _ _ (cells12b (row_far _ (row_far _ (BX.out _ BB.out) hAne) hBne)) (fun hHeld => ?_)
                              clear hK K
                              try simp only [Act.put, List.getElem_toArray, List.getElem_cons_zero, List.getElem_cons_succ, List.setIfInBounds_toArray, List.set_cons_zero, List.set_cons_succ]
                              refine wpAnyH_take (i := 21) (v := ?vau1516162636421) rfl (by kernel_rfl) (by kernel_rfl) (by kernel_rfl) (fun _ _ _ h => h) (Or.inl ⟨by rfl, ?hyu1516162636421⟩) (by assumption) ?rau1516162636421
                              case hyu1516162636421 => (intro wq hSw; (try dsimp only at hSw); obtain ⟨e0, e1, e2, e3, e4, e5, e6, e7, e8, e9, e10, e11⟩ := hSw; go_simp <;> with_reducible rfl)
                              try simp only [Act.put, List.getElem_toArray, List.getElem_cons_zero, List.getElem_cons_succ, List.setIfInBounds_toArray, List.set_cons_zero, List.set_cons_succ]
                              refine wpAnyH_take (i := 22) (v := ?vau1516162636422) rfl (by kernel_rfl) (by kernel_rfl) (by kernel_rfl) (fun _ _ _ h => h) (Or.inl ⟨by rfl, ?hyu1516162636422⟩) (by assumption) ?rau1516162636422
                              case hyu1516162636422 => (intro wq hSw; (try dsimp only at hSw); obtain ⟨e0, e1, e2, e3, e4, e5, e6, e7, e8, e9, e10, e11⟩ := hSw; go_simp <;> with_reducible rfl)
                              try simp only [Act.put, List.getElem_toArray, List.getElem_cons_zero, List.getElem_cons_succ, List.setIfInBounds_toArray, List.set_cons_zero, List.set_cons_succ]
                              refine wpAnyH_done (by kernel_rfl) ?_ _
                              clear hHeld
                              go_wp2_with fail
                              go_meet
                              case rel => exact ⟨gA, gB, a, b, aU, cU, rfl, rfl, rfl, rfl, ⟨row_far _ (setRow_heap _ _ _ _ _ _ XA.out) NE.out, setRow_heap _ _ _ _ _ _ XB1.out, (HQ.out.but (but_setRow _ gA _) (fun k hk => ⟨_, _, by subst hk; exact XA.out, by decide, by decide⟩) (below_row _ HQ.out.b LA.out)).but (but_setRow _ gB _) (fun k hk => ⟨_, _, by subst hk; exact XB1.out, by decide, by decide⟩) (below_row _ (below_row _ HQ.out.b LA.out) LB.out), EA.out, EB.out⟩, below_row _ (below_row _ B5W.out LAx.out) LBx.out⟩
                  · as_aux_lemma =>
                    go_simp
                    have AL := hide (al v0 (.cells #[.int .i64 0, .int .i64 0, .slice none 0 0, .slice none 0 0, .int .i64 0] 25))
                    have LA : Hid (w1.heap.size ≤ v0.heap.size) := BB.out.size
                    have LAx : Hid (w6.heap.size ≤ v0.heap.size) := B5W.out.size
                    replace B5W := hide (bt B5W.out AL.out)
                    replace BB := hide (bt BB.out AL.out)
                    have XA := hide (heap_alloc_new v0 (.cells #[.int .i64 0, .int .i64 0, .slice none 0 0, .slice none 0 0, .int .i64 0] 25))
                    refine hK.out _ _ (SS.out _ BB.out) (fun hHeld => ?_)
                    clear hK K AL
                    try simp only [Act.put, List.getElem_toArray, List.getElem_cons_zero, List.getElem_cons_succ, List.setIfInBounds_toArray, List.set_cons_zero, List.set_cons_succ]
                    generalize (v0.alloc (.cells #[.int .i64 0, .int .i64 0, .slice none 0 0, .slice none 0 0, .int .i64 0] 25)) = v65 at *
                    generalize v0.heap.size = gA at *
                    refine wpAnyH_ready (rs := [2, 18]) (by kernel_rfl) (by simp) ?_
                    refine (AllReadyH.cons rfl (fun K hK => ?_) (AllReadyH.cons rfl (fun K hK => ?_) AllReadyH.nil))
                    · go_simp
                      refine (SP1.out _ BB.out).mono ?_
                      rintro _ v66 ⟨x, rfl, hS, -, hE, hb⟩
                      have SX := hide hS
                      have EX := hide hE
                      replace XA := hide (blk_keep XA.out hb)
                      replace B5W := hide (bt B5W.out hb)
                      replace BB := hide (bt BB.out hb)
                      clear hS hE hb
                      go_wp2_with fail
                      refine hK.out _ _ (SS.out _ BB.out) (fun hHeld => ?_)
                      clear hK K
                      try simp only [Act.put, List.getElem_toArray, List.getElem_cons_zero, List.getElem_cons_succ, List.setIfInBounds_toArray, List.set_cons_zero, List.set_cons_succ]
                      refine wpAnyH_ready (rs := [5, 18]) (by kernel_rfl) (by simp) ?_
                      refine (AllReadyH.cons rfl (fun K hK => ?_) (AllReadyH.cons rfl (fun K hK => ?_) AllReadyH.nil))
                      · go_simp
                        refine (SP2.out _ BB.out).mono ?_
                        rintro _ v67 ⟨y, rfl, hS, -, hE, hb⟩
                        have SY := hide hS
                        have EY := hide hE
                        replace SX := hide (SX.out.keep hb)
                        replace XA := hide (blk_keep XA.out hb)
                        replace B5W := hide (bt B5W.out hb)
                        replace BB := hide (bt BB.out hb)
                        clear hS hE hb
                        go_wp2_with fail
                        refine hK.out _ _ (SS.out _ BB.out) (fun hHeld => ?_)
                        clear hK K
                        try simp only [Act.put, List.getElem_toArray, List.getElem_cons_zero, List.getElem_cons_succ, List.setIfInBounds_toArray, List.set_cons_zero, List.set_cons_succ]
                        refine wpAnyH_ready (rs := [8, 18]) (by kernel_rfl) (by simp) ?_
                        refine (AllReadyH.cons rfl (fun K hK => ?_) (AllReadyH.cons rfl (fun K hK => ?_) AllReadyH.nil))
                        · go_simp
                          refine (SP3.out _ BB.out).mono ?_
                          rintro _ v68 ⟨aK, cK, rfl, hO⟩
                          have hb := hO.b
                          have SK := hide hO.r
                          replace SX := hide (SX.out.keep hb)
                          replace SY := hide (SY.out.keep hb)
                          replace XA := hide (blk_keep XA.out hb)
                          replace B5W := hide (bt B5W.out hb)
                          replace BB := hide (bt BB.out hb)
                          clear hO hb
                          go_wp2_with fail
                          refine hK.out _ _ (SS.out _ BB.out) (fun hHeld => ?_)
                          clear hK K
                          try simp only [Act.put, List.getElem_toArray, List.getElem_cons_zero, List.getElem_cons_succ, List.setIfInBounds_toArray, List.set_cons_zero, List.set_cons_succ]
                          refine wpAnyH_ready (rs := [11, 18]) (by kernel_rfl) (by simp) ?_
                          refine (AllReadyH.cons rfl (fun K hK => ?_) (AllReadyH.cons rfl (fun K hK => ?_) AllReadyH.nil))
                          · go_simp
                            refine (LN.out _ x y aK cK BB.out SX.out SY.out SK.out EX.out EY.out).mono ?_
                            rintro _ v69 ⟨a, b, aU, cU, rfl, hH, ha, hb2⟩
                            have hb := hH.b
                            have HQ := hide (hH.pre BB.out)
                            have EA := hide ha
                            have EB := hide hb2
                            clear SX SY SK
                            replace XA := hide (blk_keep XA.out hb)
                            replace B5W := hide (bt B5W.out hb)
                            replace BB := hide (bt BB.out hb)
                            clear hH ha hb2 hb
                            go_wp2_with fail
                            refine hK.out _ _ (SS.out _ BB.out) (fun hHeld => ?_)
                            clear hK K
                            try simp only [Act.put, List.getElem_toArray, List.getElem_cons_zero, List.getElem_cons_succ, List.setIfInBounds_toArray, List.set_cons_zero, List.set_cons_succ]
                            refine wpAnyH_take (i := 12) (v := ?vau6566676869x12) rfl (by kernel_rfl) (by kernel_rfl) (by kernel_rfl) (fun _ _ _ h => h) (Or.inl ⟨by rfl, ?hyu6566676869x12⟩) (by assumption) ?rau6566676869x12
                            case hyu6566676869x12 => (intro wq hSw; (try dsimp only at hSw); obtain ⟨e0, e1, e2, e3, e4, e5, e6, e7, e8, e9, e10, e11⟩ := hSw; go_simp <;> with_reducible rfl)
                            try simp only [Act.put, List.getElem_toArray, List.getElem_cons_zero, List.getElem_cons_succ, List.setIfInBounds_toArray, List.set_cons_zero, List.set_cons_succ]
                            refine wpAnyH_take (i := 13) (v := ?vau6566676869x13) rfl (by kernel_rfl) (by kernel_rfl) (by kernel_rfl) (fun _ _ _ h => h) (Or.inl ⟨by rfl, ?hyu6566676869x13⟩) (by assumption) ?rau6566676869x13
                            case hyu6566676869x13 => (intro wq hSw; (try dsimp only at hSw); obtain ⟨e0, e1, e2, e3, e4, e5, e6, e7, e8, e9, e10, e11⟩ := hSw; go_simp <;> with_reducible rfl)
                            try simp only [Act.put, List.getElem_toArray, List.getElem_cons_zero, List.getElem_cons_succ, List.setIfInBounds_toArray, List.set_cons_zero, List.set_cons_succ]
                            refine wpAnyH_take (i := 14) (v := ?vau6566676869x14) rfl (by kernel_rfl) (by kernel_rfl) (by kernel_rfl) (fun _ _ _ h => h) (Or.inl ⟨by rfl, ?hyu6566676869x14⟩) (by assumption) ?rau6566676869x14
                            case hyu6566676869x14 => (intro wq hSw; (try dsimp only at hSw); obtain ⟨e0, e1, e2, e3, e4, e5, e6, e7, e8, e9, e10, e11⟩ := hSw; go_simp <;> with_reducible rfl)
                            try simp only [Act.put, List.getElem_toArray, List.getElem_cons_zero, List.getElem_cons_succ, List.setIfInBounds_toArray, List.set_cons_zero, List.set_cons_succ]
                            refine wpAnyH_take (i := 15) (v := ?vau6566676869x15) rfl (by kernel_rfl) (by kernel_rfl) (by kernel_rfl) (fun _ _ _ h => h) (Or.inl ⟨by rfl, ?hyu6566676869x15⟩) (by assumption) ?rau6566676869x15
                            case hyu6566676869x15 => (intro wq hSw; (try dsimp only at hSw); obtain ⟨e0, e1, e2, e3, e4, e5, e6, e7, e8, e9, e10, e11⟩ := hSw; go_simp <;> with_reducible rfl)
                            try simp only [Act.put, List.getElem_toArray, List.getElem_cons_zero, List.getElem_cons_succ, List.setIfInBounds_toArray, List.set_cons_zero, List.set_cons_succ]
                            refine wpAnyH_take (i := 16) (v := ?vau6566676869x16) rfl (by kernel_rfl) (by kernel_rfl) (by kernel_rfl) (fun _ _ _ h => h) (Or.inl ⟨by rfl, ?hyu6566676869x16⟩) (by assumption) ?rau6566676869x16
                            case hyu6566676869x16 => (intro wq hSw; (try dsimp only at hSw); obtain ⟨e0, e1, e2, e3, e4, e5, e6, e7, e8, e9, e10, e11⟩ := hSw; go_simp <;> with_reducible rfl)
                            try simp only [Act.put, List.getElem_toArray, List.getElem_cons_zero, List.getElem_cons_succ, List.setIfInBounds_toArray, List.set_cons_zero, List.set_cons_succ]
                            refine wpAnyH_ready (rs := [18]) (by kernel_rfl) (by simp) ?_
                            refine (AllReadyH.cons rfl (fun K hK => ?_) AllReadyH.nil)
                            · go_simp
                              have AL := hide (al v69 (.cells #[.int .i64 0, .int .i64 0, .slice none 0 0, .slice none 0 0, .int .i64 0] 25))
                              have LB : Hid (w1.heap.size ≤ v69.heap.size) := BB.out.size
                              have LBx : Hid (w6.heap.size ≤ v69.heap.size) := B5W.out.size
                              have NE : Hid (gA ≠ v69.heap.size) := by have := (Array.getElem?_eq_some_iff.1 XA.out).1; show _ ≠ _; omega
                              replace HQ := hide (HQ.out.keep AL.out)
                              replace XA := hide (blk_keep XA.out AL.out)
                              replace B5W := hide (bt B5W.out AL.out)
                              replace BB := hide (bt BB.out AL.out)
                              have XB := hide (heap_alloc_new v69 (.cells #[.int .i64 0, .int .i64 0, .slice none 0 0, .slice none 0 0, .int .i64 0] 25))
                              refine hK.out _ _ (SS.out _ BB.out) (fun hHeld => ?_)
                              clear hK K AL
                              try simp only [Act.put, List.getElem_toArray, List.getElem_cons_zero, List.getElem_cons_succ, List.setIfInBounds_toArray, List.set_cons_zero, List.set_cons_succ]
                              generalize (v69.alloc (.cells #[.int .i64 0, .int .i64 0, .slice none 0 0, .slice none 0 0, .int .i64 0] 25)) = v70 at *
                              generalize v69.heap.size = gB at *
                              have hAne : w.heap.size ≠ gA := by have := LA.out; omega
                              have hBne : w.heap.size ≠ gB := by have := LB.out; omega
                              refine wpAnyH_ready (rs := [19]) (by kernel_rfl) (by simp) ?_
                              refine AllReadyH.cons rfl (fun K hK => ?_) AllReadyH.nil
                              rw [if_pos (by rfl)]
                              have XB1 := hide (row_far (W := v70) (g := gA) #[.int .i64 a.kind, .int .i64 a.level, .slice a.aI a.items.length a.cI, .slice a.aD a.data.length a.cD, .int .i64 a.next] XB.out (Ne.symm NE.out))
                              refine wp_store_row 25 _ _ rfl gA _ rfl rfl 25 _ XA.out sizePage rfl (by simp [Value.oneCell']) ?_
                              refine hK.out _ _ (cells12b (row_far _ (BX.out _ BB.out) hAne)) (fun hHeld => ?_)
                              clear hK K
                              try simp only [Act.put, List.getElem_toArray, List.getElem_cons_zero, List.getElem_cons_succ, List.setIfInBounds_toArray, List.set_cons_zero, List.set_cons_succ]
                              refine wpAnyH_ready (rs := [20]) (by kernel_rfl) (by simp) ?_
                              refine AllReadyH.cons rfl (fun K hK => ?_) AllReadyH.nil
                              rw [if_pos (by rfl)]
                              refine wp_store_row 25 _ _ rfl gB _ rfl rfl 25 _ XB1.out sizePage rfl (by simp [Value.oneCell']) ?_
                              refine hK.out _ _ (cells12b (row_far _ (row_far _ (BX.out _ BB.out) hAne) hBne)) (fun hHeld => ?_)
                              clear hK K
                              try simp only [Act.put, List.getElem_toArray, List.getElem_cons_zero, List.getElem_cons_succ, List.setIfInBounds_toArray, List.set_cons_zero, List.set_cons_succ]
                              refine wpAnyH_take (i := 21) (v := ?vau65666768697021) rfl (by kernel_rfl) (by kernel_rfl) (by kernel_rfl) (fun _ _ _ h => h) (Or.inl ⟨by rfl, ?hyu65666768697021⟩) (by assumption) ?rau65666768697021
                              case hyu65666768697021 => (intro wq hSw; (try dsimp only at hSw); obtain ⟨e0, e1, e2, e3, e4, e5, e6, e7, e8, e9, e10, e11⟩ := hSw; go_simp <;> with_reducible rfl)
                              try simp only [Act.put, List.getElem_toArray, List.getElem_cons_zero, List.getElem_cons_succ, List.setIfInBounds_toArray, List.set_cons_zero, List.set_cons_succ]
                              refine wpAnyH_take (i := 22) (v := ?vau65666768697022) rfl (by kernel_rfl) (by kernel_rfl) (by kernel_rfl) (fun _ _ _ h => h) (Or.inl ⟨by rfl, ?hyu65666768697022⟩) (by assumption) ?rau65666768697022
                              case hyu65666768697022 => (intro wq hSw; (try dsimp only at hSw); obtain ⟨e0, e1, e2, e3, e4, e5, e6, e7, e8, e9, e10, e11⟩ := hSw; go_simp <;> with_reducible rfl)
                              try simp only [Act.put, List.getElem_toArray, List.getElem_cons_zero, List.getElem_cons_succ, List.setIfInBounds_toArray, List.set_cons_zero, List.set_cons_succ]
                              refine wpAnyH_done (by kernel_rfl) ?_ _
                              clear hHeld
                              go_wp2_with fail
                              go_meet
                              case rel => exact ⟨gA, gB, a, b, aU, cU, rfl, rfl, rfl, rfl, ⟨row_far _ (setRow_heap _ _ _ _ _ _ XA.out) NE.out, setRow_heap _ _ _ _ _ _ XB1.out, (HQ.out.but (but_setRow _ gA _) (fun k hk => ⟨_, _, by subst hk; exact XA.out, by decide, by decide⟩) (below_row _ HQ.out.b LA.out)).but (but_setRow _ gB _) (fun k hk => ⟨_, _, by subst hk; exact XB1.out, by decide, by decide⟩) (below_row _ (below_row _ HQ.out.b LA.out) LB.out), EA.out, EB.out⟩, below_row _ (below_row _ B5W.out LAx.out) LBx.out⟩
                          · go_simp
                            have AL := hide (al v68 (.cells #[.int .i64 0, .int .i64 0, .slice none 0 0, .slice none 0 0, .int .i64 0] 25))
                            have LB : Hid (w1.heap.size ≤ v68.heap.size) := BB.out.size
                            have LBx : Hid (w6.heap.size ≤ v68.heap.size) := B5W.out.size
                            have NE : Hid (gA ≠ v68.heap.size) := by have := (Array.getElem?_eq_some_iff.1 XA.out).1; show _ ≠ _; omega
                            replace SX := hide (SX.out.keep AL.out)
                            replace SY := hide (SY.out.keep AL.out)
                            replace SK := hide (SK.out.keep AL.out)
                            replace XA := hide (blk_keep XA.out AL.out)
                            replace B5W := hide (bt B5W.out AL.out)
                            replace BB := hide (bt BB.out AL.out)
                            have XB := hide (heap_alloc_new v68 (.cells #[.int .i64 0, .int .i64 0, .slice none 0 0, .slice none 0 0, .int .i64 0] 25))
                            refine hK.out _ _ (SS.out _ BB.out) (fun hHeld => ?_)
                            clear hK K AL
                            try simp only [Act.put, List.getElem_toArray, List.getElem_cons_zero, List.getElem_cons_succ, List.setIfInBounds_toArray, List.set_cons_zero, List.set_cons_succ]
                            generalize (v68.alloc (.cells #[.int .i64 0, .int .i64 0, .slice none 0 0, .slice none 0 0, .int .i64 0] 25)) = v71 at *
                            generalize v68.heap.size = gB at *
                            refine wpAnyH_ready (rs := [11]) (by kernel_rfl) (by simp) ?_
                            refine (AllReadyH.cons rfl (fun K hK => ?_) AllReadyH.nil)
                            · go_simp
                              refine (LN.out _ x y aK cK BB.out SX.out SY.out SK.out EX.out EY.out).mono ?_
                              rintro _ v72 ⟨a, b, aU, cU, rfl, hH, ha, hb2⟩
                              have hb := hH.b
                              have HQ := hide (hH.pre BB.out)
                              have EA := hide ha
                              have EB := hide hb2
                              clear SX SY SK
                              replace XA := hide (blk_keep XA.out hb)
                              replace XB := hide (blk_keep XB.out hb)
                              replace B5W := hide (bt B5W.out hb)
                              replace BB := hide (bt BB.out hb)
                              clear hH ha hb2 hb
                              go_wp2_with fail
                              refine hK.out _ _ (SS.out _ BB.out) (fun hHeld => ?_)
                              clear hK K
                              try simp only [Act.put, List.getElem_toArray, List.getElem_cons_zero, List.getElem_cons_succ, List.setIfInBounds_toArray, List.set_cons_zero, List.set_cons_succ]
                              refine wpAnyH_take (i := 12) (v := ?vau656667687172x12) rfl (by kernel_rfl) (by kernel_rfl) (by kernel_rfl) (fun _ _ _ h => h) (Or.inl ⟨by rfl, ?hyu656667687172x12⟩) (by assumption) ?rau656667687172x12
                              case hyu656667687172x12 => (intro wq hSw; (try dsimp only at hSw); obtain ⟨e0, e1, e2, e3, e4, e5, e6, e7, e8, e9, e10, e11⟩ := hSw; go_simp <;> with_reducible rfl)
                              try simp only [Act.put, List.getElem_toArray, List.getElem_cons_zero, List.getElem_cons_succ, List.setIfInBounds_toArray, List.set_cons_zero, List.set_cons_succ]
                              refine wpAnyH_take (i := 13) (v := ?vau656667687172x13) rfl (by kernel_rfl) (by kernel_rfl) (by kernel_rfl) (fun _ _ _ h => h) (Or.inl ⟨by rfl, ?hyu656667687172x13⟩) (by assumption) ?rau656667687172x13
                              case hyu656667687172x13 => (intro wq hSw; (try dsimp only at hSw); obtain ⟨e0, e1, e2, e3, e4, e5, e6, e7, e8, e9, e10, e11⟩ := hSw; go_simp <;> with_reducible rfl)
                              try simp only [Act.put, List.getElem_toArray, List.getElem_cons_zero, List.getElem_cons_succ, List.setIfInBounds_toArray, List.set_cons_zero, List.set_cons_succ]
                              refine wpAnyH_take (i := 14) (v := ?vau656667687172x14) rfl (by kernel_rfl) (by kernel_rfl) (by kernel_rfl) (fun _ _ _ h => h) (Or.inl ⟨by rfl, ?hyu656667687172x14⟩) (by assumption) ?rau656667687172x14
                              case hyu656667687172x14 => (intro wq hSw; (try dsimp only at hSw); obtain ⟨e0, e1, e2, e3, e4, e5, e6, e7, e8, e9, e10, e11⟩ := hSw; go_simp <;> with_reducible rfl)
                              try simp only [Act.put, List.getElem_toArray, List.getElem_cons_zero, List.getElem_cons_succ, List.setIfInBounds_toArray, List.set_cons_zero, List.set_cons_succ]
                              refine wpAnyH_take (i := 15) (v := ?vau656667687172x15) rfl (by kernel_rfl) (by kernel_rfl) (by kernel_rfl) (fun _ _ _ h => h) (Or.inl ⟨by rfl, ?hyu656667687172x15⟩) (by assumption) ?rau656667687172x15
                              case hyu656667687172x15 => (intro wq hSw; (try dsimp only at hSw); obtain ⟨e0, e1, e2, e3, e4, e5, e6, e7, e8, e9, e10, e11⟩ := hSw; go_simp <;> with_reducible rfl)
                              try simp only [Act.put, List.getElem_toArray, List.getElem_cons_zero, List.getElem_cons_succ, List.setIfInBounds_toArray, List.set_cons_zero, List.set_cons_succ]
                              refine wpAnyH_take (i := 16) (v := ?vau656667687172x16) rfl (by kernel_rfl) (by kernel_rfl) (by kernel_rfl) (fun _ _ _ h => h) (Or.inl ⟨by rfl, ?hyu656667687172x16⟩) (by assumption) ?rau656667687172x16
                              case hyu656667687172x16 => (intro wq hSw; (try dsimp only at hSw); obtain ⟨e0, e1, e2, e3, e4, e5, e6, e7, e8, e9, e10, e11⟩ := hSw; go_simp <;> with_reducible rfl)
                              try simp only [Act.put, List.getElem_toArray, List.getElem_cons_zero, List.getElem_cons_succ, List.setIfInBounds_toArray, List.set_cons_zero, List.set_cons_succ]
                              have hAne : w.heap.size ≠ gA := by have := LA.out; omega
                              have hBne : w.heap.size ≠ gB := by have := LB.out; omega
                              refine wpAnyH_ready (rs := [19]) (by kernel_rfl) (by simp) ?_
                              refine AllReadyH.cons rfl (fun K hK => ?_) AllReadyH.nil
                              rw [if_pos (by rfl)]
                              have XB1 := hide (row_far (W := v72) (g := gA) #[.int .i64 a.kind, .int .i64 a.level, .slice a.aI a.items.length a.cI, .slice a.aD a.data.length a.cD, .int .i64 a.next] XB.out (Ne.symm NE.out))
                              refine wp_store_row 25 _ _ rfl gA _ rfl rfl 25 _ XA.out sizePage rfl (by simp [Value.oneCell']) ?_
                              refine hK.out _ _ (cells12b (row_far _ (BX.out _ BB.out) hAne)) (fun hHeld => ?_)
                              clear hK K
                              try simp only [Act.put, List.getElem_toArray, List.getElem_cons_zero, List.getElem_cons_succ, List.setIfInBounds_toArray, List.set_cons_zero, List.set_cons_succ]
                              refine wpAnyH_ready (rs := [20]) (by kernel_rfl) (by simp) ?_
                              refine AllReadyH.cons rfl (fun K hK => ?_) AllReadyH.nil
                              rw [if_pos (by rfl)]
                              refine wp_store_row 25 _ _ rfl gB _ rfl rfl 25 _ XB1.out sizePage rfl (by simp [Value.oneCell']) ?_
                              refine hK.out _ _ (cells12b (row_far _ (row_far _ (BX.out _ BB.out) hAne) hBne)) (fun hHeld => ?_)
                              clear hK K
                              try simp only [Act.put, List.getElem_toArray, List.getElem_cons_zero, List.getElem_cons_succ, List.setIfInBounds_toArray, List.set_cons_zero, List.set_cons_succ]
                              refine wpAnyH_take (i := 21) (v := ?vau65666768717221) rfl (by kernel_rfl) (by kernel_rfl) (by kernel_rfl) (fun _ _ _ h => h) (Or.inl ⟨by rfl, ?hyu65666768717221⟩) (by assumption) ?rau65666768717221
                              case hyu65666768717221 => (intro wq hSw; (try dsimp only at hSw); obtain ⟨e0, e1, e2, e3, e4, e5, e6, e7, e8, e9, e10, e11⟩ := hSw; go_simp <;> with_reducible rfl)
                              try simp only [Act.put, List.getElem_toArray, List.getElem_cons_zero, List.getElem_cons_succ, List.setIfInBounds_toArray, List.set_cons_zero, List.set_cons_succ]
                              refine wpAnyH_take (i := 22) (v := ?vau65666768717222) rfl (by kernel_rfl) (by kernel_rfl) (by kernel_rfl) (fun _ _ _ h => h) (Or.inl ⟨by rfl, ?hyu65666768717222⟩) (by assumption) ?rau65666768717222
                              case hyu65666768717222 => (intro wq hSw; (try dsimp only at hSw); obtain ⟨e0, e1, e2, e3, e4, e5, e6, e7, e8, e9, e10, e11⟩ := hSw; go_simp <;> with_reducible rfl)
                              try simp only [Act.put, List.getElem_toArray, List.getElem_cons_zero, List.getElem_cons_succ, List.setIfInBounds_toArray, List.set_cons_zero, List.set_cons_succ]
                              refine wpAnyH_done (by kernel_rfl) ?_ _
                              clear hHeld
                              go_wp2_with fail
                              go_meet
                              case rel => exact ⟨gA, gB, a, b, aU, cU, rfl, rfl, rfl, rfl, ⟨row_far _ (setRow_heap _ _ _ _ _ _ XA.out) NE.out, setRow_heap _ _ _ _ _ _ XB1.out, (HQ.out.but (but_setRow _ gA _) (fun k hk => ⟨_, _, by subst hk; exact XA.out, by decide, by decide⟩) (below_row _ HQ.out.b LA.out)).but (but_setRow _ gB _) (fun k hk => ⟨_, _, by subst hk; exact XB1.out, by decide, by decide⟩) (below_row _ (below_row _ HQ.out.b LA.out) LB.out), EA.out, EB.out⟩, below_row _ (below_row _ B5W.out LAx.out) LBx.out⟩
                        · go_simp
                          have AL := hide (al v67 (.cells #[.int .i64 0, .int .i64 0, .slice none 0 0, .slice none 0 0, .int .i64 0] 25))
                          have LB : Hid (w1.heap.size ≤ v67.heap.size) := BB.out.size
                          have LBx : Hid (w6.heap.size ≤ v67.heap.size) := B5W.out.size
                          have NE : Hid (gA ≠ v67.heap.size) := by have := (Array.getElem?_eq_some_iff.1 XA.out).1; show _ ≠ _; omega
                          replace SX := hide (SX.out.keep AL.out)
                          replace SY := hide (SY.out.keep AL.out)
                          replace XA := hide (blk_keep XA.out AL.out)
                          replace B5W := hide (bt B5W.out AL.out)
                          replace BB := hide (bt BB.out AL.out)
                          have XB := hide (heap_alloc_new v67 (.cells #[.int .i64 0, .int .i64 0, .slice none 0 0, .slice none 0 0, .int .i64 0] 25))
                          refine hK.out _ _ (SS.out _ BB.out) (fun hHeld => ?_)
                          clear hK K AL
                          try simp only [Act.put, List.getElem_toArray, List.getElem_cons_zero, List.getElem_cons_succ, List.setIfInBounds_toArray, List.set_cons_zero, List.set_cons_succ]
                          generalize (v67.alloc (.cells #[.int .i64 0, .int .i64 0, .slice none 0 0, .slice none 0 0, .int .i64 0] 25)) = v73 at *
                          generalize v67.heap.size = gB at *
                          refine wpAnyH_ready (rs := [8]) (by kernel_rfl) (by simp) ?_
                          refine (AllReadyH.cons rfl (fun K hK => ?_) AllReadyH.nil)
                          · go_simp
                            refine (SP3.out _ BB.out).mono ?_
                            rintro _ v74 ⟨aK, cK, rfl, hO⟩
                            have hb := hO.b
                            have SK := hide hO.r
                            replace SX := hide (SX.out.keep hb)
                            replace SY := hide (SY.out.keep hb)
                            replace XA := hide (blk_keep XA.out hb)
                            replace XB := hide (blk_keep XB.out hb)
                            replace B5W := hide (bt B5W.out hb)
                            replace BB := hide (bt BB.out hb)
                            clear hO hb
                            go_wp2_with fail
                            refine hK.out _ _ (SS.out _ BB.out) (fun hHeld => ?_)
                            clear hK K
                            try simp only [Act.put, List.getElem_toArray, List.getElem_cons_zero, List.getElem_cons_succ, List.setIfInBounds_toArray, List.set_cons_zero, List.set_cons_succ]
                            refine wpAnyH_ready (rs := [11]) (by kernel_rfl) (by simp) ?_
                            refine (AllReadyH.cons rfl (fun K hK => ?_) AllReadyH.nil)
                            · go_simp
                              refine (LN.out _ x y aK cK BB.out SX.out SY.out SK.out EX.out EY.out).mono ?_
                              rintro _ v75 ⟨a, b, aU, cU, rfl, hH, ha, hb2⟩
                              have hb := hH.b
                              have HQ := hide (hH.pre BB.out)
                              have EA := hide ha
                              have EB := hide hb2
                              clear SX SY SK
                              replace XA := hide (blk_keep XA.out hb)
                              replace XB := hide (blk_keep XB.out hb)
                              replace B5W := hide (bt B5W.out hb)
                              replace BB := hide (bt BB.out hb)
                              clear hH ha hb2 hb
                              go_wp2_with fail
                              refine hK.out _ _ (SS.out _ BB.out) (fun hHeld => ?_)
                              clear hK K
                              try simp only [Act.put, List.getElem_toArray, List.getElem_cons_zero, List.getElem_cons_succ, List.setIfInBounds_toArray, List.set_cons_zero, List.set_cons_succ]
                              refine wpAnyH_take (i := 12) (v := ?vau656667737475x12) rfl (by kernel_rfl) (by kernel_rfl) (by kernel_rfl) (fun _ _ _ h => h) (Or.inl ⟨by rfl, ?hyu656667737475x12⟩) (by assumption) ?rau656667737475x12
                              case hyu656667737475x12 => (intro wq hSw; (try dsimp only at hSw); obtain ⟨e0, e1, e2, e3, e4, e5, e6, e7, e8, e9, e10, e11⟩ := hSw; go_simp <;> with_reducible rfl)
                              try simp only [Act.put, List.getElem_toArray, List.getElem_cons_zero, List.getElem_cons_succ, List.setIfInBounds_toArray, List.set_cons_zero, List.set_cons_succ]
                              refine wpAnyH_take (i := 13) (v := ?vau656667737475x13) rfl (by kernel_rfl) (by kernel_rfl) (by kernel_rfl) (fun _ _ _ h => h) (Or.inl ⟨by rfl, ?hyu656667737475x13⟩) (by assumption) ?rau656667737475x13
                              case hyu656667737475x13 => (intro wq hSw; (try dsimp only at hSw); obtain ⟨e0, e1, e2, e3, e4, e5, e6, e7, e8, e9, e10, e11⟩ := hSw; go_simp <;> with_reducible rfl)
                              try simp only [Act.put, List.getElem_toArray, List.getElem_cons_zero, List.getElem_cons_succ, List.setIfInBounds_toArray, List.set_cons_zero, List.set_cons_succ]
                              refine wpAnyH_take (i := 14) (v := ?vau656667737475x14) rfl (by kernel_rfl) (by kernel_rfl) (by kernel_rfl) (fun _ _ _ h => h) (Or.inl ⟨by rfl, ?hyu656667737475x14⟩) (by assumption) ?rau656667737475x14
                              case hyu656667737475x14 => (intro wq hSw; (try dsimp only at hSw); obtain ⟨e0, e1, e2, e3, e4, e5, e6, e7, e8, e9, e10, e11⟩ := hSw; go_simp <;> with_reducible rfl)
                              try simp only [Act.put, List.getElem_toArray, List.getElem_cons_zero, List.getElem_cons_succ, List.setIfInBounds_toArray, List.set_cons_zero, List.set_cons_succ]
                              refine wpAnyH_take (i := 15) (v := ?vau656667737475x15) rfl (by kernel_rfl) (by kernel_rfl) (by kernel_rfl) (fun _ _ _ h => h) (Or.inl ⟨by rfl, ?hyu656667737475x15⟩) (by assumption) ?rau656667737475x15
                              case hyu656667737475x15 => (intro wq hSw; (try dsimp only at hSw); obtain ⟨e0, e1, e2, e3, e4, e5, e6, e7, e8, e9, e10, e11⟩ := hSw; go_simp <;> with_reducible rfl)
                              try simp only [Act.put, List.getElem_toArray, List.getElem_cons_zero, List.getElem_cons_succ, List.setIfInBounds_toArray, List.set_cons_zero, List.set_cons_succ]
                              refine wpAnyH_take (i := 16) (v := ?vau656667737475x16) rfl (by kernel_rfl) (by kernel_rfl) (by kernel_rfl) (fun _ _ _ h => h) (Or.inl ⟨by rfl, ?hyu656667737475x16⟩) (by assumption) ?rau656667737475x16
                              case hyu656667737475x16 => (intro wq hSw; (try dsimp only at hSw); obtain ⟨e0, e1, e2, e3, e4, e5, e6, e7, e8, e9, e10, e11⟩ := hSw; go_simp <;> with_reducible rfl)
                              try simp only [Act.put, List.getElem_toArray, List.getElem_cons_zero, List.getElem_cons_succ, List.setIfInBounds_toArray, List.set_cons_zero, List.set_cons_succ]
                              have hAne : w.heap.size ≠ gA := by have := LA.out; omega
                              have hBne : w.heap.size ≠ gB := by have := LB.out; omega
                              refine wpAnyH_ready (rs := [19]) (by kernel_rfl) (by simp) ?_
                              refine AllReadyH.cons rfl (fun K hK => ?_) AllReadyH.nil
                              rw [if_pos (by rfl)]
                              have XB1 := hide (row_far (W := v75) (g := gA) #[.int .i64 a.kind, .int .i64 a.level, .slice a.aI a.items.length a.cI, .slice a.aD a.data.length a.cD, .int .i64 a.next] XB.out (Ne.symm NE.out))
                              refine wp_store_row 25 _ _ rfl gA _ rfl rfl 25 _ XA.out sizePage rfl (by simp [Value.oneCell']) ?_
                              refine hK.out _ _ (cells12b (row_far _ (BX.out _ BB.out) hAne)) (fun hHeld => ?_)
                              clear hK K
                              try simp only [Act.put, List.getElem_toArray, List.getElem_cons_zero, List.getElem_cons_succ, List.setIfInBounds_toArray, List.set_cons_zero, List.set_cons_succ]
                              refine wpAnyH_ready (rs := [20]) (by kernel_rfl) (by simp) ?_
                              refine AllReadyH.cons rfl (fun K hK => ?_) AllReadyH.nil
                              rw [if_pos (by rfl)]
                              refine wp_store_row 25 _ _ rfl gB _ rfl rfl 25 _ XB1.out sizePage rfl (by simp [Value.oneCell']) ?_
                              refine hK.out _ _ (cells12b (row_far _ (row_far _ (BX.out _ BB.out) hAne) hBne)) (fun hHeld => ?_)
                              clear hK K
                              try simp only [Act.put, List.getElem_toArray, List.getElem_cons_zero, List.getElem_cons_succ, List.setIfInBounds_toArray, List.set_cons_zero, List.set_cons_succ]
                              refine wpAnyH_take (i := 21) (v := ?vau65666773747521) rfl (by kernel_rfl) (by kernel_rfl) (by kernel_rfl) (fun _ _ _ h => h) (Or.inl ⟨by rfl, ?hyu65666773747521⟩) (by assumption) ?rau65666773747521
                              case hyu65666773747521 => (intro wq hSw; (try dsimp only at hSw); obtain ⟨e0, e1, e2, e3, e4, e5, e6, e7, e8, e9, e10, e11⟩ := hSw; go_simp <;> with_reducible rfl)
                              try simp only [Act.put, List.getElem_toArray, List.getElem_cons_zero, List.getElem_cons_succ, List.setIfInBounds_toArray, List.set_cons_zero, List.set_cons_succ]
                              refine wpAnyH_take (i := 22) (v := ?vau65666773747522) rfl (by kernel_rfl) (by kernel_rfl) (by kernel_rfl) (fun _ _ _ h => h) (Or.inl ⟨by rfl, ?hyu65666773747522⟩) (by assumption) ?rau65666773747522
                              case hyu65666773747522 => (intro wq hSw; (try dsimp only at hSw); obtain ⟨e0, e1, e2, e3, e4, e5, e6, e7, e8, e9, e10, e11⟩ := hSw; go_simp <;> with_reducible rfl)
                              try simp only [Act.put, List.getElem_toArray, List.getElem_cons_zero, List.getElem_cons_succ, List.setIfInBounds_toArray, List.set_cons_zero, List.set_cons_succ]
                              refine wpAnyH_done (by kernel_rfl) ?_ _
                              clear hHeld
                              go_wp2_with fail
                              go_meet
                              case rel => exact ⟨gA, gB, a, b, aU, cU, rfl, rfl, rfl, rfl, ⟨row_far _ (setRow_heap _ _ _ _ _ _ XA.out) NE.out, setRow_heap _ _ _ _ _ _ XB1.out, (HQ.out.but (but_setRow _ gA _) (fun k hk => ⟨_, _, by subst hk; exact XA.out, by decide, by decide⟩) (below_row _ HQ.out.b LA.out)).but (but_setRow _ gB _) (fun k hk => ⟨_, _, by subst hk; exact XB1.out, by decide, by decide⟩) (below_row _ (below_row _ HQ.out.b LA.out) LB.out), EA.out, EB.out⟩, below_row _ (below_row _ B5W.out LAx.out) LBx.out⟩
                      · go_simp
                        have AL := hide (al v66 (.cells #[.int .i64 0, .int .i64 0, .slice none 0 0, .slice none 0 0, .int .i64 0] 25))
                        have LB : Hid (w1.heap.size ≤ v66.heap.size) := BB.out.size
                        have LBx : Hid (w6.heap.size ≤ v66.heap.size) := B5W.out.size
                        have NE : Hid (gA ≠ v66.heap.size) := by have := (Array.getElem?_eq_some_iff.1 XA.out).1; show _ ≠ _; omega
                        replace SX := hide (SX.out.keep AL.out)
                        replace XA := hide (blk_keep XA.out AL.out)
                        replace B5W := hide (bt B5W.out AL.out)
                        replace BB := hide (bt BB.out AL.out)
                        have XB := hide (heap_alloc_new v66 (.cells #[.int .i64 0, .int .i64 0, .slice none 0 0, .slice none 0 0, .int .i64 0] 25))
                        refine hK.out _ _ (SS.out _ BB.out) (fun hHeld => ?_)
                        clear hK K AL
                        try simp only [Act.put, List.getElem_toArray, List.getElem_cons_zero, List.getElem_cons_succ, List.setIfInBounds_toArray, List.set_cons_zero, List.set_cons_succ]
                        generalize (v66.alloc (.cells #[.int .i64 0, .int .i64 0, .slice none 0 0, .slice none 0 0, .int .i64 0] 25)) = v76 at *
                        generalize v66.heap.size = gB at *
                        refine wpAnyH_ready (rs := [5]) (by kernel_rfl) (by simp) ?_
                        refine (AllReadyH.cons rfl (fun K hK => ?_) AllReadyH.nil)
                        · go_simp
                          refine (SP2.out _ BB.out).mono ?_
                          rintro _ v77 ⟨y, rfl, hS, -, hE, hb⟩
                          have SY := hide hS
                          have EY := hide hE
                          replace SX := hide (SX.out.keep hb)
                          replace XA := hide (blk_keep XA.out hb)
                          replace XB := hide (blk_keep XB.out hb)
                          replace B5W := hide (bt B5W.out hb)
                          replace BB := hide (bt BB.out hb)
                          clear hS hE hb
                          go_wp2_with fail
                          refine hK.out _ _ (SS.out _ BB.out) (fun hHeld => ?_)
                          clear hK K
                          try simp only [Act.put, List.getElem_toArray, List.getElem_cons_zero, List.getElem_cons_succ, List.setIfInBounds_toArray, List.set_cons_zero, List.set_cons_succ]
                          refine wpAnyH_ready (rs := [8]) (by kernel_rfl) (by simp) ?_
                          refine (AllReadyH.cons rfl (fun K hK => ?_) AllReadyH.nil)
                          · go_simp
                            refine (SP3.out _ BB.out).mono ?_
                            rintro _ v78 ⟨aK, cK, rfl, hO⟩
                            have hb := hO.b
                            have SK := hide hO.r
                            replace SX := hide (SX.out.keep hb)
                            replace SY := hide (SY.out.keep hb)
                            replace XA := hide (blk_keep XA.out hb)
                            replace XB := hide (blk_keep XB.out hb)
                            replace B5W := hide (bt B5W.out hb)
                            replace BB := hide (bt BB.out hb)
                            clear hO hb
                            go_wp2_with fail
                            refine hK.out _ _ (SS.out _ BB.out) (fun hHeld => ?_)
                            clear hK K
                            try simp only [Act.put, List.getElem_toArray, List.getElem_cons_zero, List.getElem_cons_succ, List.setIfInBounds_toArray, List.set_cons_zero, List.set_cons_succ]
                            refine wpAnyH_ready (rs := [11]) (by kernel_rfl) (by simp) ?_
                            refine (AllReadyH.cons rfl (fun K hK => ?_) AllReadyH.nil)
                            · go_simp
                              refine (LN.out _ x y aK cK BB.out SX.out SY.out SK.out EX.out EY.out).mono ?_
                              rintro _ v79 ⟨a, b, aU, cU, rfl, hH, ha, hb2⟩
                              have hb := hH.b
                              have HQ := hide (hH.pre BB.out)
                              have EA := hide ha
                              have EB := hide hb2
                              clear SX SY SK
                              replace XA := hide (blk_keep XA.out hb)
                              replace XB := hide (blk_keep XB.out hb)
                              replace B5W := hide (bt B5W.out hb)
                              replace BB := hide (bt BB.out hb)
                              clear hH ha hb2 hb
                              go_wp2_with fail
                              refine hK.out _ _ (SS.out _ BB.out) (fun hHeld => ?_)
                              clear hK K
                              try simp only [Act.put, List.getElem_toArray, List.getElem_cons_zero, List.getElem_cons_succ, List.setIfInBounds_toArray, List.set_cons_zero, List.set_cons_succ]
                              refine wpAnyH_take (i := 12) (v := ?vau656676777879x12) rfl (by kernel_rfl) (by kernel_rfl) (by kernel_rfl) (fun _ _ _ h => h) (Or.inl ⟨by rfl, ?hyu656676777879x12⟩) (by assumption) ?rau656676777879x12
                              case hyu656676777879x12 => (intro wq hSw; (try dsimp only at hSw); obtain ⟨e0, e1, e2, e3, e4, e5, e6, e7, e8, e9, e10, e11⟩ := hSw; go_simp <;> with_reducible rfl)
                              try simp only [Act.put, List.getElem_toArray, List.getElem_cons_zero, List.getElem_cons_succ, List.setIfInBounds_toArray, List.set_cons_zero, List.set_cons_succ]
                              refine wpAnyH_take (i := 13) (v := ?vau656676777879x13) rfl (by kernel_rfl) (by kernel_rfl) (by kernel_rfl) (fun _ _ _ h => h) (Or.inl ⟨by rfl, ?hyu656676777879x13⟩) (by assumption) ?rau656676777879x13
                              case hyu656676777879x13 => (intro wq hSw; (try dsimp only at hSw); obtain ⟨e0, e1, e2, e3, e4, e5, e6, e7, e8, e9, e10, e11⟩ := hSw; go_simp <;> with_reducible rfl)
                              try simp only [Act.put, List.getElem_toArray, List.getElem_cons_zero, List.getElem_cons_succ, List.setIfInBounds_toArray, List.set_cons_zero, List.set_cons_succ]
                              refine wpAnyH_take (i := 14) (v := ?vau656676777879x14) rfl (by kernel_rfl) (by kernel_rfl) (by kernel_rfl) (fun _ _ _ h => h) (Or.inl ⟨by rfl, ?hyu656676777879x14⟩) (by assumption) ?rau656676777879x14
                              case hyu656676777879x14 => (intro wq hSw; (try dsimp only at hSw); obtain ⟨e0, e1, e2, e3, e4, e5, e6, e7, e8, e9, e10, e11⟩ := hSw; go_simp <;> with_reducible rfl)
                              try simp only [Act.put, List.getElem_toArray, List.getElem_cons_zero, List.getElem_cons_succ, List.setIfInBounds_toArray, List.set_cons_zero, List.set_cons_succ]
                              refine wpAnyH_take (i := 15) (v := ?vau656676777879x15) rfl (by kernel_rfl) (by kernel_rfl) (by kernel_rfl) (fun _ _ _ h => h) (Or.inl ⟨by rfl, ?hyu656676777879x15⟩) (by assumption) ?rau656676777879x15
                              case hyu656676777879x15 => (intro wq hSw; (try dsimp only at hSw); obtain ⟨e0, e1, e2, e3, e4, e5, e6, e7, e8, e9, e10, e11⟩ := hSw; go_simp <;> with_reducible rfl)
                              try simp only [Act.put, List.getElem_toArray, List.getElem_cons_zero, List.getElem_cons_succ, List.setIfInBounds_toArray, List.set_cons_zero, List.set_cons_succ]
                              refine wpAnyH_take (i := 16) (v := ?vau656676777879x16) rfl (by kernel_rfl) (by kernel_rfl) (by kernel_rfl) (fun _ _ _ h => h) (Or.inl ⟨by rfl, ?hyu656676777879x16⟩) (by assumption) ?rau656676777879x16
                              case hyu656676777879x16 => (intro wq hSw; (try dsimp only at hSw); obtain ⟨e0, e1, e2, e3, e4, e5, e6, e7, e8, e9, e10, e11⟩ := hSw; go_simp <;> with_reducible rfl)
                              try simp only [Act.put, List.getElem_toArray, List.getElem_cons_zero, List.getElem_cons_succ, List.setIfInBounds_toArray, List.set_cons_zero, List.set_cons_succ]
                              have hAne : w.heap.size ≠ gA := by have := LA.out; omega
                              have hBne : w.heap.size ≠ gB := by have := LB.out; omega
                              refine wpAnyH_ready (rs := [19]) (by kernel_rfl) (by simp) ?_
                              refine AllReadyH.cons rfl (fun K hK => ?_) AllReadyH.nil
                              rw [if_pos (by rfl)]
                              have XB1 := hide (row_far (W := v79) (g := gA) #[.int .i64 a.kind, .int .i64 a.level, .slice a.aI a.items.length a.cI, .slice a.aD a.data.length a.cD, .int .i64 a.next] XB.out (Ne.symm NE.out))
                              refine wp_store_row 25 _ _ rfl gA _ rfl rfl 25 _ XA.out sizePage rfl (by simp [Value.oneCell']) ?_
                              refine hK.out _ _ (cells12b (row_far _ (BX.out _ BB.out) hAne)) (fun hHeld => ?_)
                              clear hK K
                              try simp only [Act.put, List.getElem_toArray, List.getElem_cons_zero, List.getElem_cons_succ, List.setIfInBounds_toArray, List.set_cons_zero, List.set_cons_succ]
                              refine wpAnyH_ready (rs := [20]) (by kernel_rfl) (by simp) ?_
                              refine AllReadyH.cons rfl (fun K hK => ?_) AllReadyH.nil
                              rw [if_pos (by rfl)]
                              refine wp_store_row 25 _ _ rfl gB _ rfl rfl 25 _ XB1.out sizePage rfl (by simp [Value.oneCell']) ?_
                              refine hK.out _ _ (cells12b (row_far _ (row_far _ (BX.out _ BB.out) hAne) hBne)) (fun hHeld => ?_)
                              clear hK K
                              try simp only [Act.put, List.getElem_toArray, List.getElem_cons_zero, List.getElem_cons_succ, List.setIfInBounds_toArray, List.set_cons_zero, List.set_cons_succ]
                              refine wpAnyH_take (i := 21) (v := ?vau65667677787921) rfl (by kernel_rfl) (by kernel_rfl) (by kernel_rfl) (fun _ _ _ h => h) (Or.inl ⟨by rfl, ?hyu65667677787921⟩) (by assumption) ?rau65667677787921
                              case hyu65667677787921 => (intro wq hSw; (try dsimp only at hSw); obtain ⟨e0, e1, e2, e3, e4, e5, e6, e7, e8, e9, e10, e11⟩ := hSw; go_simp <;> with_reducible rfl)
                              try simp only [Act.put, List.getElem_toArray, List.getElem_cons_zero, List.getElem_cons_succ, List.setIfInBounds_toArray, List.set_cons_zero, List.set_cons_succ]
                              refine wpAnyH_take (i := 22) (v := ?vau65667677787922) rfl (by kernel_rfl) (by kernel_rfl) (by kernel_rfl) (fun _ _ _ h => h) (Or.inl ⟨by rfl, ?hyu65667677787922⟩) (by assumption) ?rau65667677787922
                              case hyu65667677787922 => (intro wq hSw; (try dsimp only at hSw); obtain ⟨e0, e1, e2, e3, e4, e5, e6, e7, e8, e9, e10, e11⟩ := hSw; go_simp <;> with_reducible rfl)
                              try simp only [Act.put, List.getElem_toArray, List.getElem_cons_zero, List.getElem_cons_succ, List.setIfInBounds_toArray, List.set_cons_zero, List.set_cons_succ]
                              refine wpAnyH_done (by kernel_rfl) ?_ _
                              clear hHeld
                              go_wp2_with fail
                              go_meet
                              case rel => exact ⟨gA, gB, a, b, aU, cU, rfl, rfl, rfl, rfl, ⟨row_far _ (setRow_heap _ _ _ _ _ _ XA.out) NE.out, setRow_heap _ _ _ _ _ _ XB1.out, (HQ.out.but (but_setRow _ gA _) (fun k hk => ⟨_, _, by subst hk; exact XA.out, by decide, by decide⟩) (below_row _ HQ.out.b LA.out)).but (but_setRow _ gB _) (fun k hk => ⟨_, _, by subst hk; exact XB1.out, by decide, by decide⟩) (below_row _ (below_row _ HQ.out.b LA.out) LB.out), EA.out, EB.out⟩, below_row _ (below_row _ B5W.out LAx.out) LBx.out⟩
                    · go_simp
                      have AL := hide (al v65 (.cells #[.int .i64 0, .int .i64 0, .slice none 0 0, .slice none 0 0, .int .i64 0] 25))
                      have LB : Hid (w1.heap.size ≤ v65.heap.size) := BB.out.size
                      have LBx : Hid (w6.heap.size ≤ v65.heap.size) := B5W.out.size
                      have NE : Hid (gA ≠ v65.heap.size) := by have := (Array.getElem?_eq_some_iff.1 XA.out).1; show _ ≠ _; omega
                      replace XA := hide (blk_keep XA.out AL.out)
                      replace B5W := hide (bt B5W.out AL.out)
                      replace BB := hide (bt BB.out AL.out)
                      have XB := hide (heap_alloc_new v65 (.cells #[.int .i64 0, .int .i64 0, .slice none 0 0, .slice none 0 0, .int .i64 0] 25))
                      refine hK.out _ _ (SS.out _ BB.out) (fun hHeld => ?_)
                      clear hK K AL
                      try simp only [Act.put, List.getElem_toArray, List.getElem_cons_zero, List.getElem_cons_succ, List.setIfInBounds_toArray, List.set_cons_zero, List.set_cons_succ]
                      generalize (v65.alloc (.cells #[.int .i64 0, .int .i64 0, .slice none 0 0, .slice none 0 0, .int .i64 0] 25)) = v80 at *
                      generalize v65.heap.size = gB at *
                      refine wpAnyH_ready (rs := [2]) (by kernel_rfl) (by simp) ?_
                      refine (AllReadyH.cons rfl (fun K hK => ?_) AllReadyH.nil)
                      · go_simp
                        refine (SP1.out _ BB.out).mono ?_
                        rintro _ v81 ⟨x, rfl, hS, -, hE, hb⟩
                        have SX := hide hS
                        have EX := hide hE
                        replace XA := hide (blk_keep XA.out hb)
                        replace XB := hide (blk_keep XB.out hb)
                        replace B5W := hide (bt B5W.out hb)
                        replace BB := hide (bt BB.out hb)
                        clear hS hE hb
                        go_wp2_with fail
                        refine hK.out _ _ (SS.out _ BB.out) (fun hHeld => ?_)
                        clear hK K
                        try simp only [Act.put, List.getElem_toArray, List.getElem_cons_zero, List.getElem_cons_succ, List.setIfInBounds_toArray, List.set_cons_zero, List.set_cons_succ]
                        refine wpAnyH_ready (rs := [5]) (by kernel_rfl) (by simp) ?_
                        refine (AllReadyH.cons rfl (fun K hK => ?_) AllReadyH.nil)
                        · go_simp
                          refine (SP2.out _ BB.out).mono ?_
                          rintro _ v82 ⟨y, rfl, hS, -, hE, hb⟩
                          have SY := hide hS
                          have EY := hide hE
                          replace SX := hide (SX.out.keep hb)
                          replace XA := hide (blk_keep XA.out hb)
                          replace XB := hide (blk_keep XB.out hb)
                          replace B5W := hide (bt B5W.out hb)
                          replace BB := hide (bt BB.out hb)
                          clear hS hE hb
                          go_wp2_with fail
                          refine hK.out _ _ (SS.out _ BB.out) (fun hHeld => ?_)
                          clear hK K
                          try simp only [Act.put, List.getElem_toArray, List.getElem_cons_zero, List.getElem_cons_succ, List.setIfInBounds_toArray, List.set_cons_zero, List.set_cons_succ]
                          refine wpAnyH_ready (rs := [8]) (by kernel_rfl) (by simp) ?_
                          refine (AllReadyH.cons rfl (fun K hK => ?_) AllReadyH.nil)
                          · go_simp
                            refine (SP3.out _ BB.out).mono ?_
                            rintro _ v83 ⟨aK, cK, rfl, hO⟩
                            have hb := hO.b
                            have SK := hide hO.r
                            replace SX := hide (SX.out.keep hb)
                            replace SY := hide (SY.out.keep hb)
                            replace XA := hide (blk_keep XA.out hb)
                            replace XB := hide (blk_keep XB.out hb)
                            replace B5W := hide (bt B5W.out hb)
                            replace BB := hide (bt BB.out hb)
                            clear hO hb
                            go_wp2_with fail
                            refine hK.out _ _ (SS.out _ BB.out) (fun hHeld => ?_)
                            clear hK K
                            try simp only [Act.put, List.getElem_toArray, List.getElem_cons_zero, List.getElem_cons_succ, List.setIfInBounds_toArray, List.set_cons_zero, List.set_cons_succ]
                            refine wpAnyH_ready (rs := [11]) (by kernel_rfl) (by simp) ?_
                            refine (AllReadyH.cons rfl (fun K hK => ?_) AllReadyH.nil)
                            · go_simp
                              refine (LN.out _ x y aK cK BB.out SX.out SY.out SK.out EX.out EY.out).mono ?_
                              rintro _ v84 ⟨a, b, aU, cU, rfl, hH, ha, hb2⟩
                              have hb := hH.b
                              have HQ := hide (hH.pre BB.out)
                              have EA := hide ha
                              have EB := hide hb2
                              clear SX SY SK
                              replace XA := hide (blk_keep XA.out hb)
                              replace XB := hide (blk_keep XB.out hb)
                              replace B5W := hide (bt B5W.out hb)
                              replace BB := hide (bt BB.out hb)
                              clear hH ha hb2 hb
                              go_wp2_with fail
                              refine hK.out _ _ (SS.out _ BB.out) (fun hHeld => ?_)
                              clear hK K
                              try simp only [Act.put, List.getElem_toArray, List.getElem_cons_zero, List.getElem_cons_succ, List.setIfInBounds_toArray, List.set_cons_zero, List.set_cons_succ]
                              refine wpAnyH_take (i := 12) (v := ?vau658081828384x12) rfl (by kernel_rfl) (by kernel_rfl) (by kernel_rfl) (fun _ _ _ h => h) (Or.inl ⟨by rfl, ?hyu658081828384x12⟩) (by assumption) ?rau658081828384x12
                              case hyu658081828384x12 => (intro wq hSw; (try dsimp only at hSw); obtain ⟨e0, e1, e2, e3, e4, e5, e6, e7, e8, e9, e10, e11⟩ := hSw; go_simp <;> with_reducible rfl)
                              try simp only [Act.put, List.getElem_toArray, List.getElem_cons_zero, List.getElem_cons_succ, List.setIfInBounds_toArray, List.set_cons_zero, List.set_cons_succ]
                              refine wpAnyH_take (i := 13) (v := ?vau658081828384x13) rfl (by kernel_rfl) (by kernel_rfl) (by kernel_rfl) (fun _ _ _ h => h) (Or.inl ⟨by rfl, ?hyu658081828384x13⟩) (by assumption) ?rau658081828384x13
                              case hyu658081828384x13 => (intro wq hSw; (try dsimp only at hSw); obtain ⟨e0, e1, e2, e3, e4, e5, e6, e7, e8, e9, e10, e11⟩ := hSw; go_simp <;> with_reducible rfl)
                              try simp only [Act.put, List.getElem_toArray, List.getElem_cons_zero, List.getElem_cons_succ, List.setIfInBounds_toArray, List.set_cons_zero, List.set_cons_succ]
                              refine wpAnyH_take (i := 14) (v := ?vau658081828384x14) rfl (by kernel_rfl) (by kernel_rfl) (by kernel_rfl) (fun _ _ _ h => h) (Or.inl ⟨by rfl, ?hyu658081828384x14⟩) (by assumption) ?rau658081828384x14
                              case hyu658081828384x14 => (intro wq hSw; (try dsimp only at hSw); obtain ⟨e0, e1, e2, e3, e4, e5, e6, e7, e8, e9, e10, e11⟩ := hSw; go_simp <;> with_reducible rfl)
                              try simp only [Act.put, List.getElem_toArray, List.getElem_cons_zero, List.getElem_cons_succ, List.setIfInBounds_toArray, List.set_cons_zero, List.set_cons_succ]
                              refine wpAnyH_take (i := 15) (v := ?vau658081828384x15) rfl (by kernel_rfl) (by kernel_rfl) (by kernel_rfl) (fun _ _ _ h => h) (Or.inl ⟨by rfl, ?hyu658081828384x15⟩) (by assumption) ?rau658081828384x15
                              case hyu658081828384x15 => (intro wq hSw; (try dsimp only at hSw); obtain ⟨e0, e1, e2, e3, e4, e5, e6, e7, e8, e9, e10, e11⟩ := hSw; go_simp <;> with_reducible rfl)
                              try simp only [Act.put, List.getElem_toArray, List.getElem_cons_zero, List.getElem_cons_succ, List.setIfInBounds_toArray, List.set_cons_zero, List.set_cons_succ]
                              refine wpAnyH_take (i := 16) (v := ?vau658081828384x16) rfl (by kernel_rfl) (by kernel_rfl) (by kernel_rfl) (fun _ _ _ h => h) (Or.inl ⟨by rfl, ?hyu658081828384x16⟩) (by assumption) ?rau658081828384x16
                              case hyu658081828384x16 => (intro wq hSw; (try dsimp only at hSw); obtain ⟨e0, e1, e2, e3, e4, e5, e6, e7, e8, e9, e10, e11⟩ := hSw; go_simp <;> with_reducible rfl)
                              try simp only [Act.put, List.getElem_toArray, List.getElem_cons_zero, List.getElem_cons_succ, List.setIfInBounds_toArray, List.set_cons_zero, List.set_cons_succ]
                              have hAne : w.heap.size ≠ gA := by have := LA.out; omega
                              have hBne : w.heap.size ≠ gB := by have := LB.out; omega
                              refine wpAnyH_ready (rs := [19]) (by kernel_rfl) (by simp) ?_
                              refine AllReadyH.cons rfl (fun K hK => ?_) AllReadyH.nil
                              rw [if_pos (by rfl)]
                              have XB1 := hide (row_far (W := v84) (g := gA) #[.int .i64 a.kind, .int .i64 a.level, .slice a.aI a.items.length a.cI, .slice a.aD a.data.length a.cD, .int .i64 a.next] XB.out (Ne.symm NE.out))
                              refine wp_store_row 25 _ _ rfl gA _ rfl rfl 25 _ XA.out sizePage rfl (by simp [Value.oneCell']) ?_
                              refine hK.out _ _ (cells12b (row_far _ (BX.out _ BB.out) hAne)) (fun hHeld => ?_)
                              clear hK K
                              try simp only [Act.put, List.getElem_toArray, List.getElem_cons_zero, List.getElem_cons_succ, List.setIfInBounds_toArray, List.set_cons_zero, List.set_cons_succ]
                              refine wpAnyH_ready (rs := [20]) (by kernel_rfl) (by simp) ?_
                              refine AllReadyH.cons rfl (fun K hK => ?_) AllReadyH.nil
                              rw [if_pos (by rfl)]
                              refine wp_store_row 25 _ _ rfl gB _ rfl rfl 25 _ XB1.out sizePage rfl (by simp [Value.oneCell']) ?_
                              refine hK.out _ _ (cells12b (row_far _ (row_far _ (BX.out _ BB.out) hAne) hBne)) (fun hHeld => ?_)
                              clear hK K
                              try simp only [Act.put, List.getElem_toArray, List.getElem_cons_zero, List.getElem_cons_succ, List.setIfInBounds_toArray, List.set_cons_zero, List.set_cons_succ]
                              refine wpAnyH_take (i := 21) (v := ?vau65808182838421) rfl (by kernel_rfl) (by kernel_rfl) (by kernel_rfl) (fun _ _ _ h => h) (Or.inl ⟨by rfl, ?hyu65808182838421⟩) (by assumption) ?rau65808182838421
                              case hyu65808182838421 => (intro wq hSw; (try dsimp only at hSw); obtain ⟨e0, e1, e2, e3, e4, e5, e6, e7, e8, e9, e10, e11⟩ := hSw; go_simp <;> with_reducible rfl)
                              try simp only [Act.put, List.getElem_toArray, List.getElem_cons_zero, List.getElem_cons_succ, List.setIfInBounds_toArray, List.set_cons_zero, List.set_cons_succ]
                              refine wpAnyH_take (i := 22) (v := ?vau65808182838422) rfl (by kernel_rfl) (by kernel_rfl) (by kernel_rfl) (fun _ _ _ h => h) (Or.inl ⟨by rfl, ?hyu65808182838422⟩) (by assumption) ?rau65808182838422
                              case hyu65808182838422 => (intro wq hSw; (try dsimp only at hSw); obtain ⟨e0, e1, e2, e3, e4, e5, e6, e7, e8, e9, e10, e11⟩ := hSw; go_simp <;> with_reducible rfl)
                              try simp only [Act.put, List.getElem_toArray, List.getElem_cons_zero, List.getElem_cons_succ, List.setIfInBounds_toArray, List.set_cons_zero, List.set_cons_succ]
                              refine wpAnyH_done (by kernel_rfl) ?_ _
                              clear hHeld
                              go_wp2_with fail
                              go_meet
                              case rel => exact ⟨gA, gB, a, b, aU, cU, rfl, rfl, rfl, rfl, ⟨row_far _ (setRow_heap _ _ _ _ _ _ XA.out) NE.out, setRow_heap _ _ _ _ _ _ XB1.out, (HQ.out.but (but_setRow _ gA _) (fun k hk => ⟨_, _, by subst hk; exact XA.out, by decide, by decide⟩) (below_row _ HQ.out.b LA.out)).but (but_setRow _ gB _) (fun k hk => ⟨_, _, by subst hk; exact XB1.out, by decide, by decide⟩) (below_row _ (below_row _ HQ.out.b LA.out) LB.out), EA.out, EB.out⟩, below_row _ (below_row _ B5W.out LAx.out) LBx.out⟩
                  · as_aux_lemma =>
                    go_simp
                    have AL := hide (al v0 (.cells #[.int .i64 0, .int .i64 0, .slice none 0 0, .slice none 0 0, .int .i64 0] 25))
                    have LB : Hid (w1.heap.size ≤ v0.heap.size) := BB.out.size
                    have LBx : Hid (w6.heap.size ≤ v0.heap.size) := B5W.out.size
                    replace B5W := hide (bt B5W.out AL.out)
                    replace BB := hide (bt BB.out AL.out)
                    have XB := hide (heap_alloc_new v0 (.cells #[.int .i64 0, .int .i64 0, .slice none 0 0, .slice none 0 0, .int .i64 0] 25))
                    refine hK.out _ _ (SS.out _ BB.out) (fun hHeld => ?_)
                    clear hK K AL
                    try simp only [Act.put, List.getElem_toArray, List.getElem_cons_zero, List.getElem_cons_succ, List.setIfInBounds_toArray, List.set_cons_zero, List.set_cons_succ]
                    generalize (v0.alloc (.cells #[.int .i64 0, .int .i64 0, .slice none 0 0, .slice none 0 0, .int .i64 0] 25)) = v85 at *
                    generalize v0.heap.size = gB at *
                    refine wpAnyH_ready (rs := [2, 17]) (by kernel_rfl) (by simp) ?_
                    refine (AllReadyH.cons rfl (fun K hK => ?_) (AllReadyH.cons rfl (fun K hK => ?_) AllReadyH.nil))
                    · go_simp
                      refine (SP1.out _ BB.out).mono ?_
                      rintro _ v86 ⟨x, rfl, hS, -, hE, hb⟩
                      have SX := hide hS
                      have EX := hide hE
                      replace XB := hide (blk_keep XB.out hb)
                      replace B5W := hide (bt B5W.out hb)
                      replace BB := hide (bt BB.out hb)
                      clear hS hE hb
                      go_wp2_with fail
                      refine hK.out _ _ (SS.out _ BB.out) (fun hHeld => ?_)
                      clear hK K
                      try simp only [Act.put, List.getElem_toArray, List.getElem_cons_zero, List.getElem_cons_succ, List.setIfInBounds_toArray, List.set_cons_zero, List.set_cons_succ]
                      refine wpAnyH_ready (rs := [5, 17]) (by kernel_rfl) (by simp) ?_
                      refine (AllReadyH.cons rfl (fun K hK => ?_) (AllReadyH.cons rfl (fun K hK => ?_) AllReadyH.nil))
                      · go_simp
                        refine (SP2.out _ BB.out).mono ?_
                        rintro _ v87 ⟨y, rfl, hS, -, hE, hb⟩
                        have SY := hide hS
                        have EY := hide hE
                        replace SX := hide (SX.out.keep hb)
                        replace XB := hide (blk_keep XB.out hb)
                        replace B5W := hide (bt B5W.out hb)
                        replace BB := hide (bt BB.out hb)
                        clear hS hE hb
                        go_wp2_with fail
                        refine hK.out _ _ (SS.out _ BB.out) (fun hHeld => ?_)
                        clear hK K
                        try simp only [Act.put, List.getElem_toArray, List.getElem_cons_zero, List.getElem_cons_succ, List.setIfInBounds_toArray, List.set_cons_zero, List.set_cons_succ]
                        refine wpAnyH_ready (rs := [8, 17]) (by kernel_rfl) (by simp) ?_
                        refine (AllReadyH.cons rfl (fun K hK => ?_) (AllReadyH.cons rfl (fun K hK => ?_) AllReadyH.nil))
                        · go_simp
                          refine (SP3.out _ BB.out).mono ?_
                          rintro _ v88 ⟨aK, cK, rfl, hO⟩
                          have hb := hO.b
                          have SK := hide hO.r
                          replace SX := hide (SX.out.keep hb)
                          replace SY := hide (SY.out.keep hb)
                          replace XB := hide (blk_keep XB.out hb)
                          replace B5W := hide (bt B5W.out hb)
                          replace BB := hide (bt BB.out hb)
                          clear hO hb
                          go_wp2_with fail
                          refine hK.out _ _ (SS.out _ BB.out) (fun hHeld => ?_)
                          clear hK K
                          try simp only [Act.put, List.getElem_toArray, List.getElem_cons_zero, List.getElem_cons_succ, List.setIfInBounds_toArray, List.set_cons_zero, List.set_cons_succ]
                          refine wpAnyH_ready (rs := [11, 17]) (by kernel_rfl) (by simp) ?_
                          refine (AllReadyH.cons rfl (fun K hK => ?_) (AllReadyH.cons rfl (fun K hK => ?_) AllReadyH.nil))
                          · go_simp
                            refine (LN.out _ x y aK cK BB.out SX.out SY.out SK.out EX.out EY.out).mono ?_
                            rintro _ v89 ⟨a, b, aU, cU, rfl, hH, ha, hb2⟩
                            have hb := hH.b
                            have HQ := hide (hH.pre BB.out)
                            have EA := hide ha
                            have EB := hide hb2
                            clear SX SY SK
                            replace XB := hide (blk_keep XB.out hb)
                            replace B5W := hide (bt B5W.out hb)
                            replace BB := hide (bt BB.out hb)
                            clear hH ha hb2 hb
                            go_wp2_with fail
                            refine hK.out _ _ (SS.out _ BB.out) (fun hHeld => ?_)
                            clear hK K
                            try simp only [Act.put, List.getElem_toArray, List.getElem_cons_zero, List.getElem_cons_succ, List.setIfInBounds_toArray, List.set_cons_zero, List.set_cons_succ]
                            refine wpAnyH_take (i := 12) (v := ?vau8586878889x12) rfl (by kernel_rfl) (by kernel_rfl) (by kernel_rfl) (fun _ _ _ h => h) (Or.inl ⟨by rfl, ?hyu8586878889x12⟩) (by assumption) ?rau8586878889x12
                            case hyu8586878889x12 => (intro wq hSw; (try dsimp only at hSw); obtain ⟨e0, e1, e2, e3, e4, e5, e6, e7, e8, e9, e10, e11⟩ := hSw; go_simp <;> with_reducible rfl)
                            try simp only [Act.put, List.getElem_toArray, List.getElem_cons_zero, List.getElem_cons_succ, List.setIfInBounds_toArray, List.set_cons_zero, List.set_cons_succ]
                            refine wpAnyH_take (i := 13) (v := ?vau8586878889x13) rfl (by kernel_rfl) (by kernel_rfl) (by kernel_rfl) (fun _ _ _ h => h) (Or.inl ⟨by rfl, ?hyu8586878889x13⟩) (by assumption) ?rau8586878889x13
                            case hyu8586878889x13 => (intro wq hSw; (try dsimp only at hSw); obtain ⟨e0, e1, e2, e3, e4, e5, e6, e7, e8, e9, e10, e11⟩ := hSw; go_simp <;> with_reducible rfl)
                            try simp only [Act.put, List.getElem_toArray, List.getElem_cons_zero, List.getElem_cons_succ, List.setIfInBounds_toArray, List.set_cons_zero, List.set_cons_succ]
                            refine wpAnyH_take (i := 14) (v := ?vau8586878889x14) rfl (by kernel_rfl) (by kernel_rfl) (by kernel_rfl) (fun _ _ _ h => h) (Or.inl ⟨by rfl, ?hyu8586878889x14⟩) (by assumption) ?rau8586878889x14
                            case hyu8586878889x14 => (intro wq hSw; (try dsimp only at hSw); obtain ⟨e0, e1, e2, e3, e4, e5, e6, e7, e8, e9, e10, e11⟩ := hSw; go_simp <;> with_reducible rfl)
                            try simp only [Act.put, List.getElem_toArray, List.getElem_cons_zero, List.getElem_cons_succ, List.setIfInBounds_toArray, List.set_cons_zero, List.set_cons_succ]
                            refine wpAnyH_take (i := 15) (v := ?vau8586878889x15) rfl (by kernel_rfl) (by kernel_rfl) (by kernel_rfl) (fun _ _ _ h => h) (Or.inl ⟨by rfl, ?hyu8586878889x15⟩) (by assumption) ?rau8586878889x15
                            case hyu8586878889x15 => (intro wq hSw; (try dsimp only at hSw); obtain ⟨e0, e1, e2, e3, e4, e5, e6, e7, e8, e9, e10, e11⟩ := hSw; go_simp <;> with_reducible rfl)
                            try simp only [Act.put, List.getElem_toArray, List.getElem_cons_zero, List.getElem_cons_succ, List.setIfInBounds_toArray, List.set_cons_zero, List.set_cons_succ]
                            refine wpAnyH_take (i := 16) (v := ?vau8586878889x16) rfl (by kernel_rfl) (by kernel_rfl) (by kernel_rfl) (fun _ _ _ h => h) (Or.inl ⟨by rfl, ?hyu8586878889x16⟩) (by assumption) ?rau8586878889x16
                            case hyu8586878889x16 => (intro wq hSw; (try dsimp only at hSw); obtain ⟨e0, e1, e2, e3, e4, e5, e6, e7, e8, e9, e10, e11⟩ := hSw; go_simp <;> with_reducible rfl)
                            try simp only [Act.put, List.getElem_toArray, List.getElem_cons_zero, List.getElem_cons_succ, List.setIfInBounds_toArray, List.set_cons_zero, List.set_cons_succ]
                            refine wpAnyH_ready (rs := [17]) (by kernel_rfl) (by simp) ?_
                            refine (AllReadyH.cons rfl (fun K hK => ?_) AllReadyH.nil)
                            · go_simp
                              have AL := hide (al v89 (.cells #[.int .i64 0, .int .i64 0, .slice none 0 0, .slice none 0 0, .int .i64 0] 25))
                              have LA : Hid (w1.heap.size ≤ v89.heap.size) := BB.out.size
                              have LAx : Hid (w6.heap.size ≤ v89.heap.size) := B5W.out.size
                              have NE : Hid (v89.heap.size ≠ gB) := by have := (Array.getElem?_eq_some_iff.1 XB.out).1; show _ ≠ _; omega
                              replace HQ := hide (HQ.out.keep AL.out)
                              replace XB := hide (blk_keep XB.out AL.out)
                              replace B5W := hide (bt B5W.out AL.out)
                              replace BB := hide (bt BB.out AL.out)
                              have XA := hide (heap_alloc_new v89 (.cells #[.int .i64 0, .int .i64 0, .slice none 0 0, .slice none 0 0, .int .i64 0] 25))
                              refine hK.out _ _ (SS.out _ BB.out) (fun hHeld => ?_)
                              clear hK K AL
                              try simp only [Act.put, List.getElem_toArray, List.getElem_cons_zero, List.getElem_cons_succ, List.setIfInBounds_toArray, List.set_cons_zero, List.set_cons_succ]
                              generalize (v89.alloc (.cells #[.int .i64 0, .int .i64 0, .slice none 0 0, .slice none 0 0, .int .i64 0] 25)) = v90 at *
                              generalize v89.heap.size = gA at *
                              have hAne : w.heap.size ≠ gA := by have := LA.out; omega
                              have hBne : w.heap.size ≠ gB := by have := LB.out; omega
                              refine wpAnyH_ready (rs := [19]) (by kernel_rfl) (by simp) ?_
                              refine AllReadyH.cons rfl (fun K hK => ?_) AllReadyH.nil
                              rw [if_pos (by rfl)]
                              have XB1 := hide (row_far (W := v90) (g := gA) #[.int .i64 a.kind, .int .i64 a.level, .slice a.aI a.items.length a.cI, .slice a.aD a.data.length a.cD, .int .i64 a.next] XB.out (Ne.symm NE.out))
                              refine wp_store_row 25 _ _ rfl gA _ rfl rfl 25 _ XA.out sizePage rfl (by simp [Value.oneCell']) ?_
                              refine hK.out _ _ (cells12b (row_far _ (BX.out _ BB.out) hAne)) (fun hHeld => ?_)
                              clear hK K
                              try simp only [Act.put, List.getElem_toArray, List.getElem_cons_zero, List.getElem_cons_succ, List.setIfInBounds_toArray, List.set_cons_zero, List.set_cons_succ]
                              refine wpAnyH_ready (rs := [20]) (by kernel_rfl) (by simp) ?_
                              refine AllReadyH.cons rfl (fun K hK => ?_) AllReadyH.nil
                              rw [if_pos (by rfl)]
                              refine wp_store_row 25 _ _ rfl gB _ rfl rfl 25 _ XB1.out sizePage rfl (by simp [Value.oneCell']) ?_
                              refine hK.out _ _ (cells12b (row_far _ (row_far _ (BX.out _ BB.out) hAne) hBne)) (fun hHeld => ?_)
                              clear hK K
                              try simp only [Act.put, List.getElem_toArray, List.getElem_cons_zero, List.getElem_cons_succ, List.setIfInBounds_toArray, List.set_cons_zero, List.set_cons_succ]
                              refine wpAnyH_take (i := 21) (v := ?vau85868788899021) rfl (by kernel_rfl) (by kernel_rfl) (by kernel_rfl) (fun _ _ _ h => h) (Or.inl ⟨by rfl, ?hyu85868788899021⟩) (by assumption) ?rau85868788899021
                              case hyu85868788899021 => (intro wq hSw; (try dsimp only at hSw); obtain ⟨e0, e1, e2, e3, e4, e5, e6, e7, e8, e9, e10, e11⟩ := hSw; go_simp <;> with_reducible rfl)
                              try simp only [Act.put, List.getElem_toArray, List.getElem_cons_zero, List.getElem_cons_succ, List.setIfInBounds_toArray, List.set_cons_zero, List.set_cons_succ]
                              refine wpAnyH_take (i := 22) (v := ?vau85868788899022) rfl (by kernel_rfl) (by kernel_rfl) (by kernel_rfl) (fun _ _ _ h => h) (Or.inl ⟨by rfl, ?hyu85868788899022⟩) (by assumption) ?rau85868788899022
                              case hyu85868788899022 => (intro wq hSw; (try dsimp only at hSw); obtain ⟨e0, e1, e2, e3, e4, e5, e6, e7, e8, e9, e10, e11⟩ := hSw; go_simp <;> with_reducible rfl)
                              try simp only [Act.put, List.getElem_toArray, List.getElem_cons_zero, List.getElem_cons_succ, List.setIfInBounds_toArray, List.set_cons_zero, List.set_cons_succ]
                              refine wpAnyH_done (by kernel_rfl) ?_ _
                              clear hHeld
                              go_wp2_with fail
                              go_meet
                              case rel => exact ⟨gA, gB, a, b, aU, cU, rfl, rfl, rfl, rfl, ⟨row_far _ (setRow_heap _ _ _ _ _ _ XA.out) NE.out, setRow_heap _ _ _ _ _ _ XB1.out, (HQ.out.but (but_setRow _ gA _) (fun k hk => ⟨_, _, by subst hk; exact XA.out, by decide, by decide⟩) (below_row _ HQ.out.b LA.out)).but (but_setRow _ gB _) (fun k hk => ⟨_, _, by subst hk; exact XB1.out, by decide, by decide⟩) (below_row _ (below_row _ HQ.out.b LA.out) LB.out), EA.out, EB.out⟩, below_row _ (below_row _ B5W.out LAx.out) LBx.out⟩
                          · go_simp
                            have AL := hide (al v88 (.cells #[.int .i64 0, .int .i64 0, .slice none 0 0, .slice none 0 0, .int .i64 0] 25))
                            have LA : Hid (w1.heap.size ≤ v88.heap.size) := BB.out.size
                            have LAx : Hid (w6.heap.size ≤ v88.heap.size) := B5W.out.size
                            have NE : Hid (v88.heap.size ≠ gB) := by have := (Array.getElem?_eq_some_iff.1 XB.out).1; show _ ≠ _; omega
                            replace SX := hide (SX.out.keep AL.out)
                            replace SY := hide (SY.out.keep AL.out)
                            replace SK := hide (SK.out.keep AL.out)
                            replace XB := hide (blk_keep XB.out AL.out)
                            replace B5W := hide (bt B5W.out AL.out)
                            replace BB := hide (bt BB.out AL.out)
                            have XA := hide (heap_alloc_new v88 (.cells #[.int .i64 0, .int .i64 0, .slice none 0 0, .slice none 0 0, .int .i64 0] 25))
                            refine hK.out _ _ (SS.out _ BB.out) (fun hHeld => ?_)
                            clear hK K AL
                            try simp only [Act.put, List.getElem_toArray, List.getElem_cons_zero, List.getElem_cons_succ, List.setIfInBounds_toArray, List.set_cons_zero, List.set_cons_succ]
                            generalize (v88.alloc (.cells #[.int .i64 0, .int .i64 0, .slice none 0 0, .slice none 0 0, .int .i64 0] 25)) = v91 at *
                            generalize v88.heap.size = gA at *
                            refine wpAnyH_ready (rs := [11]) (by kernel_rfl) (by simp) ?_
                            refine (AllReadyH.cons rfl (fun K hK => ?_) AllReadyH.nil)
                            · go_simp
                              refine (LN.out _ x y aK cK BB.out SX.out SY.out SK.out EX.out EY.out).mono ?_
                              rintro _ v92 ⟨a, b, aU, cU, rfl, hH, ha, hb2⟩
                              have hb := hH.b
                              have HQ := hide (hH.pre BB.out)
                              have EA := hide ha
                              have EB := hide hb2
                              clear SX SY SK
                              replace XA := hide (blk_keep XA.out hb)
                              replace XB := hide (blk_keep XB.out hb)
                              replace B5W := hide (bt B5W.out hb)
                              replace BB := hide (bt BB.out hb)
                              clear hH ha hb2 hb
                              go_wp2_with fail
                              refine hK.out _ _ (SS.out _ BB.out) (fun hHeld => ?_)
                              clear hK K
                              try simp only [Act.put, List.getElem_toArray, List.getElem_cons_zero, List.getElem_cons_succ, List.setIfInBounds_toArray, List.set_cons_zero, List.set_cons_succ]
                              refine wpAnyH_take (i := 12) (v := ?vau858687889192x12) rfl (by kernel_rfl) (by kernel_rfl) (by kernel_rfl) (fun _ _ _ h => h) (Or.inl ⟨by rfl, ?hyu858687889192x12⟩) (by assumption) ?rau858687889192x12
                              case hyu858687889192x12 => (intro wq hSw; (try dsimp only at hSw); obtain ⟨e0, e1, e2, e3, e4, e5, e6, e7, e8, e9, e10, e11⟩ := hSw; go_simp <;> with_reducible rfl)
                              try simp only [Act.put, List.getElem_toArray, List.getElem_cons_zero, List.getElem_cons_succ, List.setIfInBounds_toArray, List.set_cons_zero, List.set_cons_succ]
                              refine wpAnyH_take (i := 13) (v := ?vau858687889192x13) rfl (by kernel_rfl) (by kernel_rfl) (by kernel_rfl) (fun _ _ _ h => h) (Or.inl ⟨by rfl, ?hyu858687889192x13⟩) (by assumption) ?rau858687889192x13
                              case hyu858687889192x13 => (intro wq hSw; (try dsimp only at hSw); obtain ⟨e0, e1, e2, e3, e4, e5, e6, e7, e8, e9, e10, e11⟩ := hSw; go_simp <;> with_reducible rfl)
                              try simp only [Act.put, List.getElem_toArray, List.getElem_cons_zero, List.getElem_cons_succ, List.setIfInBounds_toArray, List.set_cons_zero, List.set_cons_succ]
                              refine wpAnyH_take (i := 14) (v := ?vau858687889192x14) rfl (by kernel_rfl) (by kernel_rfl) (by kernel_rfl) (fun _ _ _ h => h) (Or.inl ⟨by rfl, ?hyu858687889192x14⟩) (by assumption) ?rau858687889192x14
                              case hyu858687889192x14 => (intro wq hSw; (try dsimp only at hSw); obtain ⟨e0, e1, e2, e3, e4, e5, e6, e7, e8, e9, e10, e11⟩ := hSw; go_simp <;> with_reducible rfl)
                              try simp only [Act.put, List.getElem_toArray, List.getElem_cons_zero, List.getElem_cons_succ, List.setIfInBounds_toArray, List.set_cons_zero, List.set_cons_succ]
                              refine wpAnyH_take (i := 15) (v := ?vau858687889192x15) rfl (by kernel_rfl) (by kernel_rfl) (by kernel_rfl) (fun _ _ _ h => h) (Or.inl ⟨by rfl, ?hyu858687889192x15⟩) (by assumption) ?rau858687889192x15
                              case hyu858687889192x15 => (intro wq hSw; (try dsimp only at hSw); obtain ⟨e0, e1, e2, e3, e4, e5, e6, e7, e8, e9, e10, e11⟩ := hSw; go_simp <;> with_reducible rfl)
                              try simp only [Act.put, List.getElem_toArray, List.getElem_cons_zero, List.getElem_cons_succ, List.setIfInBounds_toArray, List.set_cons_zero, List.set_cons_succ]
                              refine wpAnyH_take (i := 16) (v := ?vau858687889192x16) rfl (by kernel_rfl) (by kernel_rfl) (by kernel_rfl) (fun _ _ _ h => h) (Or.inl ⟨by rfl, ?hyu858687889192x16⟩) (by assumption) ?rau858687889192x16
                              case hyu858687889192x16 => (intro wq hSw; (try dsimp only at hSw); obtain ⟨e0, e1, e2, e3, e4, e5, e6, e7, e8, e9, e10, e11⟩ := hSw; go_simp <;> with_reducible rfl)
                              try simp only [Act.put, List.getElem_toArray, List.getElem_cons_zero, List.getElem_cons_succ, List.setIfInBounds_toArray, List.set_cons_zero, List.set_cons_succ]
                              have hAne : w.heap.size ≠ gA := by have := LA.out; omega
                              have hBne : w.heap.size ≠ gB := by have := LB.out; omega
                              refine wpAnyH_ready (rs := [19]) (by kernel_rfl) (by simp) ?_
                              refine AllReadyH.cons rfl (fun K hK => ?_) AllReadyH.nil
                              rw [if_pos (by rfl)]
                              have XB1 := hide (row_far (W := v92) (g := gA) #[.int .i64 a.kind, .int .i64 a.level, .slice a.aI a.items.length a.cI, .slice a.aD a.data.length a.cD, .int .i64 a.next] XB.out (Ne.symm NE.out))
                              refine wp_store_row 25 _ _ rfl gA _ rfl rfl 25 _ XA.out sizePage rfl (by simp [Value.oneCell']) ?_
                              refine hK.out _ _ (cells12b (row_far _ (BX.out _ BB.out) hAne)) (fun hHeld => ?_)
                              clear hK K
                              try simp only [Act.put, List.getElem_toArray, List.getElem_cons_zero, List.getElem_cons_succ, List.setIfInBounds_toArray, List.set_cons_zero, List.set_cons_succ]
                              refine wpAnyH_ready (rs := [20]) (by kernel_rfl) (by simp) ?_
                              refine AllReadyH.cons rfl (fun K hK => ?_) AllReadyH.nil
                              rw [if_pos (by rfl)]
                              refine wp_store_row 25 _ _ rfl gB _ rfl rfl 25 _ XB1.out sizePage rfl (by simp [Value.oneCell']) ?_
                              refine hK.out _ _ (cells12b (row_far _ (row_far _ (BX.out _ BB.out) hAne) hBne)) (fun hHeld => ?_)
                              clear hK K
                              try simp only [Act.put, List.getElem_toArray, List.getElem_cons_zero, List.getElem_cons_succ, List.setIfInBounds_toArray, List.set_cons_zero, List.set_cons_succ]
                              refine wpAnyH_take (i := 21) (v := ?vau85868788919221) rfl (by kernel_rfl) (by kernel_rfl) (by kernel_rfl) (fun _ _ _ h => h) (Or.inl ⟨by rfl, ?hyu85868788919221⟩) (by assumption) ?rau85868788919221
                              case hyu85868788919221 => (intro wq hSw; (try dsimp only at hSw); obtain ⟨e0, e1, e2, e3, e4, e5, e6, e7, e8, e9, e10, e11⟩ := hSw; go_simp <;> with_reducible rfl)
                              try simp only [Act.put, List.getElem_toArray, List.getElem_cons_zero, List.getElem_cons_succ, List.setIfInBounds_toArray, List.set_cons_zero, List.set_cons_succ]
                              refine wpAnyH_take (i := 22) (v := ?vau85868788919222) rfl (by kernel_rfl) (by kernel_rfl) (by kernel_rfl) (fun _ _ _ h => h) (Or.inl ⟨by rfl, ?hyu85868788919222⟩) (by assumption) ?rau85868788919222
                              case hyu85868788919222 => (intro wq hSw; (try dsimp only at hSw); obtain ⟨e0, e1, e2, e3, e4, e5, e6, e7, e8, e9, e10, e11⟩ := hSw; go_simp <;> with_reducible rfl)
                              try simp only [Act.put, List.getElem_toArray, List.getElem_cons_zero, List.getElem_cons_succ, List.setIfInBounds_toArray, List.set_cons_zero, List.set_cons_succ]
                              refine wpAnyH_done (by kernel_rfl) ?_ _
                              clear hHeld
                              go_wp2_with fail
                              go_meet
                              case rel => exact ⟨gA, gB, a, b, aU, cU, rfl, rfl, rfl, rfl, ⟨row_far _ (setRow_heap _ _ _ _ _ _ XA.out) NE.out, setRow_heap _ _ _ _ _ _ XB1.out, (HQ.out.but (but_setRow _ gA _) (fun k hk => ⟨_, _, by subst hk; exact XA.out, by decide, by decide⟩) (below_row _ HQ.out.b LA.out)).but (but_setRow _ gB _) (fun k hk => ⟨_, _, by subst hk; exact XB1.out, by decide, by decide⟩) (below_row _ (below_row _ HQ.out.b LA.out) LB.out), EA.out, EB.out⟩, below_row _ (below_row _ B5W.out LAx.out) LBx.out⟩
                        · go_simp
                          have AL := hide (al v87 (.cells #[.int .i64 0, .int .i64 0, .slice none 0 0, .slice none 0 0, .int .i64 0] 25))
                          have LA : Hid (w1.heap.size ≤ v87.heap.size) := BB.out.size
                          have LAx : Hid (w6.heap.size ≤ v87.heap.size) := B5W.out.size
                          have NE : Hid (v87.heap.size ≠ gB) := by have := (Array.getElem?_eq_some_iff.1 XB.out).1; show _ ≠ _; omega
                          replace SX := hide (SX.out.keep AL.out)
                          replace SY := hide (SY.out.keep AL.out)
                          replace XB := hide (blk_keep XB.out AL.out)
                          replace B5W := hide (bt B5W.out AL.out)
                          replace BB := hide (bt BB.out AL.out)
                          have XA := hide (heap_alloc_new v87 (.cells #[.int .i64 0, .int .i64 0, .slice none 0 0, .slice none 0 0, .int .i64 0] 25))
                          refine hK.out _ _ (SS.out _ BB.out) (fun hHeld => ?_)
                          clear hK K AL
                          try simp only [Act.put, List.getElem_toArray, List.getElem_cons_zero, List.getElem_cons_succ, List.setIfInBounds_toArray, List.set_cons_zero, List.set_cons_succ]
                          generalize (v87.alloc (.cells #[.int .i64 0, .int .i64 0, .slice none 0 0, .slice none 0 0, .int .i64 0] 25)) = v93 at *
                          generalize v87.heap.size = gA at *
                          refine wpAnyH_ready (rs := [8]) (by kernel_rfl) (by simp) ?_
                          refine (AllReadyH.cons rfl (fun K hK => ?_) AllReadyH.nil)
                          · go_simp
                            refine (SP3.out _ BB.out).mono ?_
                            rintro _ v94 ⟨aK, cK, rfl, hO⟩
                            have hb := hO.b
                            have SK := hide hO.r
                            replace SX := hide (SX.out.keep hb)
                            replace SY := hide (SY.out.keep hb)
                            replace XA := hide (blk_keep XA.out hb)
                            replace XB := hide (blk_keep XB.out hb)
                            replace B5W := hide (bt B5W.out hb)
                            replace BB := hide (bt BB.out hb)
                            clear hO hb
                            go_wp2_with fail
                            refine hK.out _ _ (SS.out _ BB.out) (fun hHeld => ?_)
                            clear hK K
                            try simp only [Act.put, List.getElem_toArray, List.getElem_cons_zero, List.getElem_cons_succ, List.setIfInBounds_toArray, List.set_cons_zero, List.set_cons_succ]
                            refine wpAnyH_ready (rs := [11]) (by kernel_rfl) (by simp) ?_
                            refine (AllReadyH.cons rfl (fun K hK => ?_) AllReadyH.nil)
                            · go_simp
                              refine (LN.out _ x y aK cK BB.out SX.out SY.out SK.out EX.out EY.out).mono ?_
                              rintro _ v95 ⟨a, b, aU, cU, rfl, hH, ha, hb2⟩
                              have hb := hH.b
                              have HQ := hide (hH.pre BB.out)
                              have EA := hide ha
                              have EB := hide hb2
                              clear SX SY SK
                              replace XA := hide (blk_keep XA.out hb)
                              replace XB := hide (blk_keep XB.out hb)
                              replace B5W := hide (bt B5W.out hb)
                              replace BB := hide (bt BB.out hb)
                              clear hH ha hb2 hb
                              go_wp2_with fail
                              refine hK.out _ _ (SS.out _ BB.out) (fun hHeld => ?_)
                              clear hK K
                              try simp only [Act.put, List.getElem_toArray, List.getElem_cons_zero, List.getElem_cons_succ, List.setIfInBounds_toArray, List.set_cons_zero, List.set_cons_succ]
                              refine wpAnyH_take (i := 12) (v := ?vau858687939495x12) rfl (by kernel_rfl) (by kernel_rfl) (by kernel_rfl) (fun _ _ _ h => h) (Or.inl ⟨by rfl, ?hyu858687939495x12⟩) (by assumption) ?rau858687939495x12
                              case hyu858687939495x12 => (intro wq hSw; (try dsimp only at hSw); obtain ⟨e0, e1, e2, e3, e4, e5, e6, e7, e8, e9, e10, e11⟩ := hSw; go_simp <;> with_reducible rfl)
                              try simp only [Act.put, List.getElem_toArray, List.getElem_cons_zero, List.getElem_cons_succ, List.setIfInBounds_toArray, List.set_cons_zero, List.set_cons_succ]
                              refine wpAnyH_take (i := 13) (v := ?vau858687939495x13) rfl (by kernel_rfl) (by kernel_rfl) (by kernel_rfl) (fun _ _ _ h => h) (Or.inl ⟨by rfl, ?hyu858687939495x13⟩) (by assumption) ?rau858687939495x13
                              case hyu858687939495x13 => (intro wq hSw; (try dsimp only at hSw); obtain ⟨e0, e1, e2, e3, e4, e5, e6, e7, e8, e9, e10, e11⟩ := hSw; go_simp <;> with_reducible rfl)
                              try simp only [Act.put, List.getElem_toArray, List.getElem_cons_zero, List.getElem_cons_succ, List.setIfInBounds_toArray, List.set_cons_zero, List.set_cons_succ]
                              refine wpAnyH_take (i := 14) (v := ?vau858687939495x14) rfl (by kernel_rfl) (by kernel_rfl) (by kernel_rfl) (fun _ _ _ h => h) (Or.inl ⟨by rfl, ?hyu858687939495x14⟩) (by assumption) ?rau858687939495x14
                              case hyu858687939495x14 => (intro wq hSw; (try dsimp only at hSw); obtain ⟨e0, e1, e2, e3, e4, e5, e6, e7, e8, e9, e10, e11⟩ := hSw; go_simp <;> with_reducible rfl)
                              try simp only [Act.put, List.getElem_toArray, List.getElem_cons_zero, List.getElem_cons_succ, List.setIfInBounds_toArray, List.set_cons_zero, List.set_cons_succ]
                              refine wpAnyH_take (i := 15) (v := ?vau858687939495x15) rfl (by kernel_rfl) (by kernel_rfl) (by kernel_rfl) (fun _ _ _ h => h) (Or.inl ⟨by rfl, ?hyu858687939495x15⟩) (by assumption) ?rau858687939495x15
                              case hyu858687939495x15 => (intro wq hSw; (try dsimp only at hSw); obtain ⟨e0, e1, e2, e3, e4, e5, e6, e7, e8, e9, e10, e11⟩ := hSw; go_simp <;> with_reducible rfl)
                              try simp only [Act.put, List.getElem_toArray, List.getElem_cons_zero, List.getElem_cons_succ, List.setIfInBounds_toArray, List.set_cons_zero, List.set_cons_succ]
                              refine wpAnyH_take (i := 16) (v := ?vau858687939495x16) rfl (by kernel_rfl) (by kernel_rfl) (by kernel_rfl) (fun _ _ _ h => h) (Or.inl ⟨by rfl, ?hyu858687939495x16⟩) (by assumption) ?rau858687939495x16
                              case hyu858687939495x16 => (intro wq hSw; (try dsimp only at hSw); obtain ⟨e0, e1, e2, e3, e4, e5, e6, e7, e8, e9, e10, e11⟩ := hSw; go_simp <;> with_reducible rfl)
                              try simp only [Act.put, List.getElem_toArray, List.getElem_cons_zero, List.getElem_cons_succ, List.setIfInBounds_toArray, List.set_cons_zero, List.set_cons_succ]
                              have hAne : w.heap.size ≠ gA := by have := LA.out; omega
                              have hBne : w.heap.size ≠ gB := by have := LB.out; omega
                              refine wpAnyH_ready (rs := [19]) (by kernel_rfl) (by simp) ?_
                              refine AllReadyH.cons rfl (fun K hK => ?_) AllReadyH.nil
                              rw [if_pos (by rfl)]
                              have XB1 := hide (row_far (W := v95) (g := gA) #[.int .i64 a.kind, .int .i64 a.level, .slice a.aI a.items.length a.cI, .slice a.aD a.data.length a.cD, .int .i64 a.next] XB.out (Ne.symm NE.out))
                              refine wp_store_row 25 _ _ rfl gA _ rfl rfl 25 _ XA.out sizePage rfl (by simp [Value.oneCell']) ?_
                              refine hK.out _ _ (cells12b (row_far _ (BX.out _ BB.out) hAne)) (fun hHeld => ?_)
                              clear hK K
                              try simp only [Act.put, List.getElem_toArray, List.getElem_cons_zero, List.getElem_cons_succ, List.setIfInBounds_toArray, List.set_cons_zero, List.set_cons_succ]
                              refine wpAnyH_ready (rs := [20]) (by kernel_rfl) (by simp) ?_
                              refine AllReadyH.cons rfl (fun K hK => ?_) AllReadyH.nil
                              rw [if_pos (by rfl)]
                              refine wp_store_row 25 _ _ rfl gB _ rfl rfl 25 _ XB1.out sizePage rfl (by simp [Value.oneCell']) ?_
                              refine hK.out _ _ (cells12b (row_far _ (row_far _ (BX.out _ BB.out) hAne) hBne)) (fun hHeld => ?_)
                              clear hK K
                              try simp only [Act.put, List.getElem_toArray, List.getElem_cons_zero, List.getElem_cons_succ, List.setIfInBounds_toArray, List.set_cons_zero, List.set_cons_succ]
                              refine wpAnyH_take (i := 21) (v := ?vau85868793949521) rfl (by kernel_rfl) (by kernel_rfl) (by kernel_rfl) (fun _ _ _ h => h) (Or.inl ⟨by rfl, ?hyu85868793949521⟩) (by assumption) ?rau85868793949521
                              case hyu85868793949521 => (intro wq hSw; (try dsimp only at hSw); obtain ⟨e0, e1, e2, e3, e4, e5, e6, e7, e8, e9, e10, e11⟩ := hSw; go_simp <;> with_reducible rfl)
                              try simp only [Act.put, List.getElem_toArray, List.getElem_cons_zero, List.getElem_cons_succ, List.setIfInBounds_toArray, List.set_cons_zero, List.set_cons_succ]
                              refine wpAnyH_take (i := 22) (v := ?vau85868793949522) rfl (by kernel_rfl) (by kernel_rfl) (by kernel_rfl) (fun _ _ _ h => h) (Or.inl ⟨by rfl, ?hyu85868793949522⟩) (by assumption) ?rau85868793949522
                              case hyu85868793949522 => (intro wq hSw; (try dsimp only at hSw); obtain ⟨e0, e1, e2, e3, e4, e5, e6, e7, e8, e9, e10, e11⟩ := hSw; go_simp <;> with_reducible rfl)
                              try simp only [Act.put, List.getElem_toArray, List.getElem_cons_zero, List.getElem_cons_succ, List.setIfInBounds_toArray, List.set_cons_zero, List.set_cons_succ]
                              refine wpAnyH_done (by kernel_rfl) ?_ _
                              clear hHeld
                              go_wp2_with fail
                              go_meet
                              case rel => exact ⟨gA, gB, a, b, aU, cU, rfl, rfl, rfl, rfl, ⟨row_far _ (setRow_heap _ _ _ _ _ _ XA.out) NE.out, setRow_heap _ _ _ _ _ _ XB1.out, (HQ.out.but (but_setRow _ gA _) (fun k hk => ⟨_, _, by subst hk; exact XA.out, by decide, by decide⟩) (below_row _ HQ.out.b LA.out)).but (but_setRow _ gB _) (fun k hk => ⟨_, _, by subst hk; exact XB1.out, by decide, by decide⟩) (below_row _ (below_row _ HQ.out.b LA.out) LB.out), EA.out, EB.out⟩, below_row _ (below_row _ B5W.out LAx.out) LBx.out⟩
                      · go_simp
                        have AL := hide (al v86 (.cells #[.int .i64 0, .int .i64 0, .slice none 0 0, .slice none 0 0, .int .i64 0] 25))
                        have LA : Hid (w1.heap.size ≤ v86.heap.size) := BB.out.size
                        have LAx : Hid (w6.heap.size ≤ v86.heap.size) := B5W.out.size
                        have NE : Hid (v86.heap.size ≠ gB) := by have := (Array.getElem?_eq_some_iff.1 XB.out).1; show _ ≠ _; omega
                        replace SX := hide (SX.out.keep AL.out)
                        replace XB := hide (blk_keep XB.out AL.out)
                        replace B5W := hide (bt B5W.out AL.out)
                        replace BB := hide (bt BB.out AL.out)
                        have XA := hide (heap_alloc_new v86 (.cells #[.int .i64 0, .int .i64 0, .slice none 0 0, .slice none 0 0, .int .i64 0] 25))
                        refine hK.out _ _ (SS.out _ BB.out) (fun hHeld => ?_)
                        clear hK K AL
                        try simp only [Act.put, List.getElem_toArray, List.getElem_cons_zero, List.getElem_cons_succ, List.setIfInBounds_toArray, List.set_cons_zero, List.set_cons_succ]
                        generalize (v86.alloc (.cells #[.int .i64 0, .int .i64 0, .slice none 0 0, .slice none 0 0, .int .i64 0] 25)) = v96 at *
                        generalize v86.heap.size = gA at *
                        refine wpAnyH_ready (rs := [5]) (by kernel_rfl) (by simp) ?_
                        refine (AllReadyH.cons rfl (fun K hK => ?_) AllReadyH.nil)
                        · go_simp
                          refine (SP2.out _ BB.out).mono ?_
                          rintro _ v97 ⟨y, rfl, hS, -, hE, hb⟩
                          have SY := hide hS
                          have EY := hide hE
                          replace SX := hide (SX.out.keep hb)
                          replace XA := hide (blk_keep XA.out hb)
                          replace XB := hide (blk_keep XB.out hb)
                          replace B5W := hide (bt B5W.out hb)
                          replace BB := hide (bt BB.out hb)
                          clear hS hE hb
                          go_wp2_with fail
                          refine hK.out _ _ (SS.out _ BB.out) (fun hHeld => ?_)
                          clear hK K
                          try simp only [Act.put, List.getElem_toArray, List.getElem_cons_zero, List.getElem_cons_succ, List.setIfInBounds_toArray, List.set_cons_zero, List.set_cons_succ]
                          refine wpAnyH_ready (rs := [8]) (by kernel_rfl) (by simp) ?_
                          refine (AllReadyH.cons rfl (fun K hK => ?_) AllReadyH.nil)
                          · go_simp
                            refine (SP3.out _ BB.out).mono ?_
                            rintro _ v98 ⟨aK, cK, rfl, hO⟩
                            have hb := hO.b
                            have SK := hide hO.r
                            replace SX := hide (SX.out.keep hb)
                            replace SY := hide (SY.out.keep hb)
                            replace XA := hide (blk_keep XA.out hb)
                            replace XB := hide (blk_keep XB.out hb)
                            replace B5W := hide (bt B5W.out hb)
                            replace BB := hide (bt BB.out hb)
                            clear hO hb
                            go_wp2_with fail
                            refine hK.out _ _ (SS.out _ BB.out) (fun hHeld => ?_)
                            clear hK K
                            try simp only [Act.put, List.getElem_toArray, List.getElem_cons_zero, List.getElem_cons_succ, List.setIfInBounds_toArray, List.set_cons_zero, List.set_cons_succ]
                            refine wpAnyH_ready (rs := [11]) (by kernel_rfl) (by simp) ?_
                            refine (AllReadyH.cons rfl (fun K hK => ?_) AllReadyH.nil)
                            · go_simp
                              refine (LN.out _ x y aK cK BB.out SX.out SY.out SK.out EX.out EY.out).mono ?_
                              rintro _ v99 ⟨a, b, aU, cU, rfl, hH, ha, hb2⟩
                              have hb := hH.b
                              have HQ := hide (hH.pre BB.out)
                              have EA := hide ha
                              have EB := hide hb2
                              clear SX SY SK
                              replace XA := hide (blk_keep XA.out hb)
                              replace XB := hide (blk_keep XB.out hb)
                              replace B5W := hide (bt B5W.out hb)
                              replace BB := hide (bt BB.out hb)
                              clear hH ha hb2 hb
                              go_wp2_with fail
                              refine hK.out _ _ (SS.out _ BB.out) (fun hHeld => ?_)
                              clear hK K
                              try simp only [Act.put, List.getElem_toArray, List.getElem_cons_zero, List.getElem_cons_succ, List.setIfInBounds_toArray, List.set_cons_zero, List.set_cons_succ]
                              refine wpAnyH_take (i := 12) (v := ?vau858696979899x12) rfl (by kernel_rfl) (by kernel_rfl) (by kernel_rfl) (fun _ _ _ h => h) (Or.inl ⟨by rfl, ?hyu858696979899x12⟩) (by assumption) ?rau858696979899x12
                              case hyu858696979899x12 => (intro wq hSw; (try dsimp only at hSw); obtain ⟨e0, e1, e2, e3, e4, e5, e6, e7, e8, e9, e10, e11⟩ := hSw; go_simp <;> with_reducible rfl)
                              try simp only [Act.put, List.getElem_toArray, List.getElem_cons_zero, List.getElem_cons_succ, List.setIfInBounds_toArray, List.set_cons_zero, List.set_cons_succ]
                              refine wpAnyH_take (i := 13) (v := ?vau858696979899x13) rfl (by kernel_rfl) (by kernel_rfl) (by kernel_rfl) (fun _ _ _ h => h) (Or.inl ⟨by rfl, ?hyu858696979899x13⟩) (by assumption) ?rau858696979899x13
                              case hyu858696979899x13 => (intro wq hSw; (try dsimp only at hSw); obtain ⟨e0, e1, e2, e3, e4, e5, e6, e7, e8, e9, e10, e11⟩ := hSw; go_simp <;> with_reducible rfl)
                              try simp only [Act.put, List.getElem_toArray, List.getElem_cons_zero, List.getElem_cons_succ, List.setIfInBounds_toArray, List.set_cons_zero, List.set_cons_succ]
                              refine wpAnyH_take (i := 14) (v := ?vau858696979899x14) rfl (by kernel_rfl) (by kernel_rfl) (by kernel_rfl) (fun _ _ _ h => h) (Or.inl ⟨by rfl, ?hyu858696979899x14⟩) (by assumption) ?rau858696979899x14
                              case hyu858696979899x14 => (intro wq hSw; (try dsimp only at hSw); obtain ⟨e0, e1, e2, e3, e4, e5, e6, e7, e8, e9, e10, e11⟩ := hSw; go_simp <;> with_reducible rfl)
                              try simp only [Act.put, List.getElem_toArray, List.getElem_cons_zero, List.getElem_cons_succ, List.setIfInBounds_toArray, List.set_cons_zero, List.set_cons_succ]
                              refine wpAnyH_take (i := 15) (v := ?vau858696979899x15) rfl (by kernel_rfl) (by kernel_rfl) (by kernel_rfl) (fun _ _ _ h => h) (Or.inl ⟨by rfl, ?hyu858696979899x15⟩) (by assumption) ?rau858696979899x15
                              case hyu858696979899x15 => (intro wq hSw; (try dsimp only at hSw); obtain ⟨e0, e1, e2, e3, e4, e5, e6, e7, e8, e9, e10, e11⟩ := hSw; go_simp <;> with_reducible rfl)
                              try simp only [Act.put, List.getElem_toArray, List.getElem_cons_zero, List.getElem_cons_succ, List.setIfInBounds_toArray, List.set_cons_zero, List.set_cons_succ]
                              refine wpAnyH_take (i := 16) (v := ?vau858696979899x16) rfl (by kernel_rfl) (by kernel_rfl) (by kernel_rfl) (fun _ _ _ h => h) (Or.inl ⟨by rfl, ?hyu858696979899x16⟩) (by assumption) ?rau858696979899x16
                              case hyu858696979899x16 => (intro wq hSw; (try dsimp only at hSw); obtain ⟨e0, e1, e2, e3, e4, e5, e6, e7, e8, e9, e10, e11⟩ := hSw; go_simp <;> with_reducible rfl)
                              try simp only [Act.put, List.getElem_toArray, List.getElem_cons_zero, List.getElem_cons_succ, List.setIfInBounds_toArray, List.set_cons_zero, List.set_cons_succ]
                              have hAne : w.heap.size ≠ gA := by have := LA.out; omega
                              have hBne : w.heap.size ≠ gB := by have := LB.out; omega
                              refine wpAnyH_ready (rs := [19]) (by kernel_rfl) (by simp) ?_
                              refine AllReadyH.cons rfl (fun K hK => ?_) AllReadyH.nil
                              rw [if_pos (by rfl)]
                              have XB1 := hide (row_far (W := v99) (g := gA) #[.int .i64 a.kind, .int .i64 a.level, .slice a.aI a.items.length a.cI, .slice a.aD a.data.length a.cD, .int .i64 a.next] XB.out (Ne.symm NE.out))
                              refine wp_store_row 25 _ _ rfl gA _ rfl rfl 25 _ XA.out sizePage rfl (by simp [Value.oneCell']) ?_
                              refine hK.out _ _ (cells12b (row_far _ (BX.out _ BB.out) hAne)) (fun hHeld => ?_)
                              clear hK K
                              try simp only [Act.put, List.getElem_toArray, List.getElem_cons_zero, List.getElem_cons_succ, List.setIfInBounds_toArray, List.set_cons_zero, List.set_cons_succ]
                              refine wpAnyH_ready (rs := [20]) (by kernel_rfl) (by simp) ?_
                              refine AllReadyH.cons rfl (fun K hK => ?_) AllReadyH.nil
                              rw [if_pos (by rfl)]
                              refine wp_store_row 25 _ _ rfl gB _ rfl rfl 25 _ XB1.out sizePage rfl (by simp [Value.oneCell']) ?_
                              refine hK.out _ _ (cells12b (row_far _ (row_far _ (BX.out _ BB.out) hAne) hBne)) (fun hHeld => ?_)
                              clear hK K
                              try simp only [Act.put, List.getElem_toArray, List.getElem_cons_zero, List.getElem_cons_succ, List.setIfInBounds_toArray, List.set_cons_zero, List.set_cons_succ]
                              refine wpAnyH_take (i := 21) (v := ?vau85869697989921) rfl (by kernel_rfl) (by kernel_rfl) (by kernel_rfl) (fun _ _ _ h => h) (Or.inl ⟨by rfl, ?hyu85869697989921⟩) (by assumption) ?rau85869697989921
                              case hyu85869697989921 => (intro wq hSw; (try dsimp only at hSw); obtain ⟨e0, e1, e2, e3, e4, e5, e6, e7, e8, e9, e10, e11⟩ := hSw; go_simp <;> with_reducible rfl)
                              try simp only [Act.put, List.getElem_toArray, List.getElem_cons_zero, List.getElem_cons_succ, List.setIfInBounds_toArray, List.set_cons_zero, List.set_cons_succ]
                              refine wpAnyH_take (i := 22) (v := ?vau85869697989922) rfl (by kernel_rfl) (by kernel_rfl) (by kernel_rfl) (fun _ _ _ h => h) (Or.inl ⟨by rfl, ?hyu85869697989922⟩) (by assumption) ?rau85869697989922
                              case hyu85869697989922 => (intro wq hSw; (try dsimp only at hSw); obtain ⟨e0, e1, e2, e3, e4, e5, e6, e7, e8, e9, e10, e11⟩ := hSw; go_simp <;> with_reducible rfl)
                              try simp only [Act.put, List.getElem_toArray, List.getElem_cons_zero, List.getElem_cons_succ, List.setIfInBounds_toArray, List.set_cons_zero, List.set_cons_succ]
                              refine wpAnyH_done (by kernel_rfl) ?_ _
                              clear hHeld
                              go_wp2_with fail
                              go_meet
                              case rel => exact ⟨gA, gB, a, b, aU, cU, rfl, rfl, rfl, rfl, ⟨row_far _ (setRow_heap _ _ _ _ _ _ XA.out) NE.out, setRow_heap _ _ _ _ _ _ XB1.out, (HQ.out.but (but_setRow _ gA _) (fun k hk => ⟨_, _, by subst hk; exact XA.out, by decide, by decide⟩) (below_row _ HQ.out.b LA.out)).but (but_setRow _ gB _) (fun k hk => ⟨_, _, by subst hk; exact XB1.out, by decide, by decide⟩) (below_row _ (below_row _ HQ.out.b LA.out) LB.out), EA.out, EB.out⟩, below_row _ (below_row _ B5W.out LAx.out) LBx.out⟩
                    · go_simp
                      have AL := hide (al v85 (.cells #[.int .i64 0, .int .i64 0, .slice none 0 0, .slice none 0 0, .int .i64 0] 25))
                      have LA : Hid (w1.heap.size ≤ v85.heap.size) := BB.out.size
                      have LAx : Hid (w6.heap.size ≤ v85.heap.size) := B5W.out.size
                      have NE : Hid (v85.heap.size ≠ gB) := by have := (Array.getElem?_eq_some_iff.1 XB.out).1; show _ ≠ _; omega
                      replace XB := hide (blk_keep XB.out AL.out)
                      replace B5W := hide (bt B5W.out AL.out)
                      replace BB := hide (bt BB.out AL.out)
                      have XA := hide (heap_alloc_new v85 (.cells #[.int .i64 0, .int .i64 0, .slice none 0 0, .slice none 0 0, .int .i64 0] 25))
                      refine hK.out _ _ (SS.out _ BB.out) (fun hHeld => ?_)
                      clear hK K AL
                      try simp only [Act.put, List.getElem_toArray, List.getElem_cons_zero, List.getElem_cons_succ, List.setIfInBounds_toArray, List.set_cons_zero, List.set_cons_succ]
                      generalize (v85.alloc (.cells #[.int .i64 0, .int .i64 0, .slice none 0 0, .slice none 0 0, .int .i64 0] 25)) = v100 at *
                      generalize v85.heap.size = gA at *
                      refine wpAnyH_ready (rs := [2]) (by kernel_rfl) (by simp) ?_
                      refine (AllReadyH.cons rfl (fun K hK => ?_) AllReadyH.nil)
                      · go_simp
                        refine (SP1.out _ BB.out).mono ?_
                        rintro _ v101 ⟨x, rfl, hS, -, hE, hb⟩
                        have SX := hide hS
                        have EX := hide hE
                        replace XA := hide (blk_keep XA.out hb)
                        replace XB := hide (blk_keep XB.out hb)
                        replace B5W := hide (bt B5W.out hb)
                        replace BB := hide (bt BB.out hb)
                        clear hS hE hb
                        go_wp2_with fail
                        refine hK.out _ _ (SS.out _ BB.out) (fun hHeld => ?_)
                        clear hK K
                        try simp only [Act.put, List.getElem_toArray, List.getElem_cons_zero, List.getElem_cons_succ, List.setIfInBounds_toArray, List.set_cons_zero, List.set_cons_succ]
                        refine wpAnyH_ready (rs := [5]) (by kernel_rfl) (by simp) ?_
                        refine (AllReadyH.cons rfl (fun K hK => ?_) AllReadyH.nil)
                        · go_simp
                          refine (SP2.out _ BB.out).mono ?_
                          rintro _ v102 ⟨y, rfl, hS, -, hE, hb⟩
                          have SY := hide hS
                          have EY := hide hE
                          replace SX := hide (SX.out.keep hb)
                          replace XA := hide (blk_keep XA.out hb)
                          replace XB := hide (blk_keep XB.out hb)
                          replace B5W := hide (bt B5W.out hb)
                          replace BB := hide (bt BB.out hb)
                          clear hS hE hb
                          go_wp2_with fail
                          refine hK.out _ _ (SS.out _ BB.out) (fun hHeld => ?_)
                          clear hK K
                          try simp only [Act.put, List.getElem_toArray, List.getElem_cons_zero, List.getElem_cons_succ, List.setIfInBounds_toArray, List.set_cons_zero, List.set_cons_succ]
                          refine wpAnyH_ready (rs := [8]) (by kernel_rfl) (by simp) ?_
                          refine (AllReadyH.cons rfl (fun K hK => ?_) AllReadyH.nil)
                          · go_simp
                            refine (SP3.out _ BB.out).mono ?_
                            rintro _ v103 ⟨aK, cK, rfl, hO⟩
                            have hb := hO.b
                            have SK := hide hO.r
                            replace SX := hide (SX.out.keep hb)
                            replace SY := hide (SY.out.keep hb)
                            replace XA := hide (blk_keep XA.out hb)
                            replace XB := hide (blk_keep XB.out hb)
                            replace B5W := hide (bt B5W.out hb)
                            replace BB := hide (bt BB.out hb)
                            clear hO hb
                            go_wp2_with fail
                            refine hK.out _ _ (SS.out _ BB.out) (fun hHeld => ?_)
                            clear hK K
                            try simp only [Act.put, List.getElem_toArray, List.getElem_cons_zero, List.getElem_cons_succ, List.setIfInBounds_toArray, List.set_cons_zero, List.set_cons_succ]
                            refine wpAnyH_ready (rs := [11]) (by kernel_rfl) (by simp) ?_
                            refine (AllReadyH.cons rfl (fun K hK => ?_) AllReadyH.nil)
                            · go_simp
                              refine (LN.out _ x y aK cK BB.out SX.out SY.out SK.out EX.out EY.out).mono ?_
                              rintro _ v104 ⟨a, b, aU, cU, rfl, hH, ha, hb2⟩
                              have hb := hH.b
                              have HQ := hide (hH.pre BB.out)
                              have EA := hide ha
                              have EB := hide hb2
                              clear SX SY SK
                              replace XA := hide (blk_keep XA.out hb)
                              replace XB := hide (blk_keep XB.out hb)
                              replace B5W := hide (bt B5W.out hb)
                              replace BB := hide (bt BB.out hb)
                              clear hH ha hb2 hb
                              go_wp2_with fail
                              refine hK.out _ _ (SS.out _ BB.out) (fun hHeld => ?_)
                              clear hK K
                              try simp only [Act.put, List.getElem_toArray, List.getElem_cons_zero, List.getElem_cons_succ, List.setIfInBounds_toArray, List.set_cons_zero, List.set_cons_succ]
                              refine wpAnyH_take (i := 12) (v := ?vau85100101102103104x12) rfl (by kernel_rfl) (by kernel_rfl) (by kernel_rfl) (fun _ _ _ h => h) (Or.inl ⟨by rfl, ?hyu85100101102103104x12⟩) (by assumption) ?rau85100101102103104x12
                              case hyu85100101102103104x12 => (intro wq hSw; (try dsimp only at hSw); obtain ⟨e0, e1, e2, e3, e4, e5, e6, e7, e8, e9, e10, e11⟩ := hSw; go_simp <;> with_reducible rfl)
                              try simp only [Act.put, List.getElem_toArray, List.getElem_cons_zero, List.getElem_cons_succ, List.setIfInBounds_toArray, List.set_cons_zero, List.set_cons_succ]
                              refine wpAnyH_take (i := 13) (v := ?vau85100101102103104x13) rfl (by kernel_rfl) (by kernel_rfl) (by kernel_rfl) (fun _ _ _ h => h) (Or.inl ⟨by rfl, ?hyu85100101102103104x13⟩) (by assumption) ?rau85100101102103104x13
                              case hyu85100101102103104x13 => (intro wq hSw; (try dsimp only at hSw); obtain ⟨e0, e1, e2, e3, e4, e5, e6, e7, e8, e9, e10, e11⟩ := hSw; go_simp <;> with_reducible rfl)
                              try simp only [Act.put, List.getElem_toArray, List.getElem_cons_zero, List.getElem_cons_succ, List.setIfInBounds_toArray, List.set_cons_zero, List.set_cons_succ]
                              refine wpAnyH_take (i := 14) (v := ?vau85100101102103104x14) rfl (by kernel_rfl) (by kernel_rfl) (by kernel_rfl) (fun _ _ _ h => h) (Or.inl ⟨by rfl, ?hyu85100101102103104x14⟩) (by assumption) ?rau85100101102103104x14
                              case hyu85100101102103104x14 => (intro wq hSw; (try dsimp only at hSw); obtain ⟨e0, e1, e2, e3, e4, e5, e6, e7, e8, e9, e10, e11⟩ := hSw; go_simp <;> with_reducible rfl)
                              try simp only [Act.put, List.getElem_toArray, List.getElem_cons_zero, List.getElem_cons_succ, List.setIfInBounds_toArray, List.set_cons_zero, List.set_cons_succ]
                              refine wpAnyH_take (i := 15) (v := ?vau85100101102103104x15) rfl (by kernel_rfl) (by kernel_rfl) (by kernel_rfl) (fun _ _ _ h => h) (Or.inl ⟨by rfl, ?hyu85100101102103104x15⟩) (by assumption) ?rau85100101102103104x15
                              case hyu85100101102103104x15 => (intro wq hSw; (try dsimp only at hSw); obtain ⟨e0, e1, e2, e3, e4, e5, e6, e7, e8, e9, e10, e11⟩ := hSw; go_simp <;> with_reducible rfl)
                              try simp only [Act.put, List.getElem_toArray, List.getElem_cons_zero, List.getElem_cons_succ, List.setIfInBounds_toArray, List.set_cons_zero, List.set_cons_succ]
                              refine wpAnyH_take (i := 16) (v := ?vau85100101102103104x16) rfl (by kernel_rfl) (by kernel_rfl) (by kernel_rfl) (fun _ _ _ h => h) (Or.inl ⟨by rfl, ?hyu85100101102103104x16⟩) (by assumption) ?rau85100101102103104x16
                              case hyu85100101102103104x16 => (intro wq hSw; (try dsimp only at hSw); obtain ⟨e0, e1, e2, e3, e4, e5, e6, e7, e8, e9, e10, e11⟩ := hSw; go_simp <;> with_reducible rfl)
                              try simp only [Act.put, List.getElem_toArray, List.getElem_cons_zero, List.getElem_cons_succ, List.setIfInBounds_toArray, List.set_cons_zero, List.set_cons_succ]
                              have hAne : w.heap.size ≠ gA := by have := LA.out; omega
                              have hBne : w.heap.size ≠ gB := by have := LB.out; omega
                              refine wpAnyH_ready (rs := [19]) (by kernel_rfl) (by simp) ?_
                              refine AllReadyH.cons rfl (fun K hK => ?_) AllReadyH.nil
                              rw [if_pos (by rfl)]
                              have XB1 := hide (row_far (W := v104) (g := gA) #[.int .i64 a.kind, .int .i64 a.level, .slice a.aI a.items.length a.cI, .slice a.aD a.data.length a.cD, .int .i64 a.next] XB.out (Ne.symm NE.out))
                              refine wp_store_row 25 _ _ rfl gA _ rfl rfl 25 _ XA.out sizePage rfl (by simp [Value.oneCell']) ?_
                              refine hK.out _ _ (cells12b (row_far _ (BX.out _ BB.out) hAne)) (fun hHeld => ?_)
                              clear hK K
                              try simp only [Act.put, List.getElem_toArray, List.getElem_cons_zero, List.getElem_cons_succ, List.setIfInBounds_toArray, List.set_cons_zero, List.set_cons_succ]
                              refine wpAnyH_ready (rs := [20]) (by kernel_rfl) (by simp) ?_
                              refine AllReadyH.cons rfl (fun K hK => ?_) AllReadyH.nil
                              rw [if_pos (by rfl)]
                              refine wp_store_row 25 _ _ rfl gB _ rfl rfl 25 _ XB1.out sizePage rfl (by simp [Value.oneCell']) ?_
                              refine hK.out _ _ (cells12b (row_far _ (row_far _ (BX.out _ BB.out) hAne) hBne)) (fun hHeld => ?_)
                              clear hK K
                              try simp only [Act.put, List.getElem_toArray, List.getElem_cons_zero, List.getElem_cons_succ, List.setIfInBounds_toArray, List.set_cons_zero, List.set_cons_succ]
                              refine wpAnyH_take (i := 21) (v := ?vau8510010110210310421) rfl (by kernel_rfl) (by kernel_rfl) (by kernel_rfl) (fun _ _ _ h => h) (Or.inl ⟨by rfl, ?hyu8510010110210310421⟩) (by assumption) ?rau8510010110210310421
                              case hyu8510010110210310421 => (intro wq hSw; (try dsimp only at hSw); obtain ⟨e0, e1, e2, e3, e4, e5, e6, e7, e8, e9, e10, e11⟩ := hSw; go_simp <;> with_reducible rfl)
                              try simp only [Act.put, List.getElem_toArray, List.getElem_cons_zero, List.getElem_cons_succ, List.setIfInBounds_toArray, List.set_cons_zero, List.set_cons_succ]
                              refine wpAnyH_take (i := 22) (v := ?vau8510010110210310422) rfl (by kernel_rfl) (by kernel_rfl) (by kernel_rfl) (fun _ _ _ h => h) (Or.inl ⟨by rfl, ?hyu8510010110210310422⟩) (by assumption) ?rau8510010110210310422
                              case hyu8510010110210310422 => (intro wq hSw; (try dsimp only at hSw); obtain ⟨e0, e1, e2, e3, e4, e5, e6, e7, e8, e9, e10, e11⟩ := hSw; go_simp <;> with_reducible rfl)
                              try simp only [Act.put, List.getElem_toArray, List.getElem_cons_zero, List.getElem_cons_succ, List.setIfInBounds_toArray, List.set_cons_zero, List.set_cons_succ]
                              refine wpAnyH_done (by kernel_rfl) ?_ _
                              clear hHeld
                              go_wp2_with fail
                              go_meet
                              case rel => exact ⟨gA, gB, a, b, aU, cU, rfl, rfl, rfl, rfl, ⟨row_far _ (setRow_heap _ _ _ _ _ _ XA.out) NE.out, setRow_heap _ _ _ _ _ _ XB1.out, (HQ.out.but (but_setRow _ gA _) (fun k hk => ⟨_, _, by subst hk; exact XA.out, by decide, by decide⟩) (below_row _ HQ.out.b LA.out)).but (but_setRow _ gB _) (fun k hk => ⟨_, _, by subst hk; exact XB1.out, by decide, by decide⟩) (below_row _ (below_row _ HQ.out.b LA.out) LB.out), EA.out, EB.out⟩, below_row _ (below_row _ B5W.out LAx.out) LBx.out⟩
                case rest =>
                  obtain ⟨gA, gB, a, b, aU, cU, rfl, rfl, rfl, rfl, hN, hb⟩ := hcut
                  have N0 := hide hN
                  have C1 := hide (bt C0.out hb)
                  clear hN hb SP1 SP2 SP3 D1 LN DC
                  cases hz : Z.ok with
                  | false =>
                    go_wp2_with fail
                    go_ret
                    exact ⟨rfl, bt A0.out N0.out.h.b⟩
                  | true =>
                    obtain ⟨m1, m2, m3, m4, m5⟩ := WL.out hz
                    have M1 := hide m1
                    clear m1 WL hz
                    have LA : Hid (1 ≤ a.items.length ∧ a.items.length ≤ 9) := by show _ ∧ _; rw [pg_len N0.out.ea]; exact ⟨m2, m3⟩
                    have LB : Hid (1 ≤ b.items.length ∧ b.items.length ≤ 9) := by show _ ∧ _; rw [pg_len N0.out.eb]; exact ⟨m4, m5⟩
                    have FO := hide (found_any wc a b aU ak cU ck Z.s key (N0.out.h.p1.pi (Nat.le_trans LA.out.2 (by decide))) (N0.out.h.p2.pi (Nat.le_trans LB.out.2 (by decide))) (N0.out.h.sp.1.bs N0.out.h.sp.2) (BK.out.keep N0.out.h.b) LA.out.1 (Nat.le_trans LA.out.2 (by decide)) LB.out.1 (Nat.le_trans LB.out.2 (by decide)))
                    rw [N0.out.ea, N0.out.eb, M1.out] at FO
                    unfold Pv.vl at FO
                    simp only [Pv.cs] at FO
                    clear m2 m3 m4 m5
                    obtain ⟨p0, p1, p2, p3, p4⟩ := cells5 N0.out.xa
                    obtain ⟨q0, q1, q2, q3, q4⟩ := cells5 N0.out.xb
                    go_wp2_with fail
                    refine FO.out.mono ?_
                    rintro _ w7 ⟨y, rfl, hy, ey, hb⟩
                    have A7 := hide (al w7 (.cells #[.slice y.aK y.key.length y.cK, .slice y.aV y.val.length y.cV, .int .i64 y.child, .int .i64 y.size] 40))
                    have XY := hide (heap_alloc_new w7 (.cells #[.slice y.aK y.key.length y.cK, .slice y.aV y.val.length y.cV, .int .i64 y.child, .int .i64 y.size] 40))
                    have IY := hide (hy.keep A7.out)
                    have EY := hide ey
                    have C7 := hide (bt C1.out (bt hb A7.out))
                    have B7 := hide (bt N0.out.h.b (bt hb A7.out))
                    clear hy ey hb p0 p1 p2 p3 p4 q0 q1 q2 q3 q4 FO N0
                    unfold Iv.vl
                    simp only [Iv.cs]
                    go_upto_region 21 with fail
                    generalize (w7.alloc (.cells #[.slice y.aK y.key.length y.cK, .slice y.aV y.val.length y.cV, .int .i64 y.child, .int .i64 y.size] 40)) = w8 at *
                    generalize w7.heap.size = gY at *
                    have EQ := hide (EqItem_same w8 x y (IXW.out _ C7.out) IY.out (by rw [EX.out, EY.out]))
                    unfold Iv.vl at EQ
                    simp only [Iv.cs] at EQ
                    obtain ⟨x0, x1, x2, x3⟩ := cells4 (XIW.out _ C7.out)
                    obtain ⟨z0, z1, z2, z3⟩ := cells4 XY.out
                    have hne : (F.2 == F.2) = true := by simp
                    go_wp2_with fail
                    refine EQ.out.mono ?_
                    rintro _ w9 ⟨rfl, hb⟩
                    have B9 := hide (bt B7.out hb)
                    clear hb x0 x1 x2 x3 z0 z1 z2 z3
                    go_wp2_with fail
                    go_ret
                    exact ⟨rfl, bt A0.out B9.out⟩
  · obtain rfl : bf = false := by
      cases bf
      · rfl
      · exact absurd (hbf.1 rfl) hF
    clear hbf hF
    go_wp2_with fail
    go_ret
    exact ⟨rfl, bt A0.out B3.out⟩
end Go.Proofs.Ytmfelkncomfipaa
