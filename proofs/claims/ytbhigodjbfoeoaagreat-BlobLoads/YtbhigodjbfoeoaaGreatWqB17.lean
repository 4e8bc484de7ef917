import Derived.Test.YtbhigodjbfoeoaaGreatWqB15
import Derived.Test.YtbhigodjbfoeoaaGreatWqB16
import Derived.Deep.RegionHeld
namespace Go.Proofs.YtbhigodjbfoeoaaGreat
set_option linter.unusedVariables false
set_option linter.unusedSimpArgs false
open Go.RowKit
theorem run_ap0 (w : World) (a : Option Addr) (c : Nat) : (Builtin.append_ #[40, 40] 40 #[.slice none 0 0, .slice a 0 c]).run Tryz.prog w = .ok (.slice none 0 0) w := by
  obtain ⟨i0, hi, hz0, hz1, hz2⟩ := info_parts infoItem
  cases a <;> simp [Builtin.append_, run_underlying Tryz.underlying40, Builtin.lenOf, sizeOf, typeInfo, hi, Builtin.firstCells, loadCells, loadCellsFrom]
set_option maxHeartbeats 8000000 in
set_option maxRecDepth 8000 in
theorem copyOf_none (w : World) (p : Pv) (hP : Pi w p) (h0 : p.items = []) (hd : p.data.length ≤ 140737488355264) :
    Calls Tryz.prog 82 #[p.vl] w fun e w' => ∃ q : Pv, e = .returned q.vl ∧ Pn w w' q ∧ q.pg = p.pg ∧ Below w.heap.size w w' := by
  obtain ⟨kind, level, aI, cI, L, aD, cD, data, next⟩ := p
  simp only at h0
  subst h0
  unfold Pv.vl
  simp only [Pv.cs] at *
  have aB := al w (.cells (pgC kind level aI 0 cI aD data.length cD next) 93)
  have aC := bt aB (al (w.alloc (.cells (pgC kind level aI 0 cI aD data.length cD next) 93)) (.cells (pgC 0 0 none 0 0 none 0 0 0) 93))
  have SZ : ((w.alloc (.cells (pgC kind level aI 0 cI aD data.length cD next) 93)).alloc (.cells (pgC 0 0 none 0 0 none 0 0 0) 93)).heap.size = w.heap.size + 2 := by rw [size_alloc, size_alloc]
  have hx2 : ((w.alloc (.cells (pgC kind level aI 0 cI aD data.length cD next) 93)).alloc (.cells (pgC 0 0 none 0 0 none 0 0 0) 93)).heap[w.heap.size]? = some (.cells (pgC kind level aI 0 cI aD data.length cD next) 93 (0, 0)) := ((al (w.alloc (.cells (pgC kind level aI 0 cI aD data.length cD next) 93)) (.cells (pgC 0 0 none 0 0 none 0 0 0) 93)).block w.heap.size (by rw [size_alloc]; omega)).trans (World.alloc_heap_new w _)
  have hy2 : ((w.alloc (.cells (pgC kind level aI 0 cI aD data.length cD next) 93)).alloc (.cells (pgC 0 0 none 0 0 none 0 0 0) 93)).heap[w.heap.size + 1]? = some (.cells (pgC 0 0 none 0 0 none 0 0 0) 93 (0, 0)) := by
    have k := World.alloc_heap_new (w.alloc (.cells (pgC kind level aI 0 cI aD data.length cD next) 93)) (.cells (pgC 0 0 none 0 0 none 0 0 0) 93)
    rwa [size_alloc] at k
  obtain ⟨w2, hw2⟩ : ∃ w2, ((w.alloc (.cells (pgC kind level aI 0 cI aD data.length cD next) 93)).alloc (.cells (pgC 0 0 none 0 0 none 0 0 0) 93)) = w2 := ⟨_, rfl⟩
  have HAP : Hid ((Builtin.append_ #[40, 40] 40 #[.slice none 0 0, .slice aI 0 cI]).run Tryz.prog ((w.alloc (.cells (pgC kind level aI 0 cI aD data.length cD next) 93)).alloc (.cells (pgC 0 0 none 0 0 none 0 0 0) 93)) = .ok (.slice none 0 0) w2) := by
    show _ = _
    rw [← hw2]
    exact run_ap0 _ aI cI
  rw [hw2] at aC SZ hx2 hy2
  have cS : w2.cell? ⟨w.heap.size, 2, none⟩ = some (.slice aI 0 cI) := by rw [cell_of_row _ _ _ _ _ _ hx2]; rfl
  have fS : w2.frozen? ⟨w.heap.size, 2, none⟩ = false := by simp [World.frozen?, hx2]
  have hx3 := heap_setCell_same w2 w.heap.size 2 _ 93 (.slice none 0 0) hx2
  have hy3 : (w2.setCell ⟨w.heap.size, 2, none⟩ (.slice none 0 0)).heap[w.heap.size + 1]? = _ := (Below.heap_setCell _ _ _ _ (show w.heap.size + 1 ≠ w.heap.size by omega)).trans hy2
  have bS : But (fun k => k = w.heap.size) w2 (w2.setCell ⟨w.heap.size, 2, none⟩ (.slice none 0 0)) := (But.refl (fun k => k = w.heap.size) w2).setCell (p := ⟨w.heap.size, 2, none⟩) (fun _ => rfl) _
  have B3 : Hid (Below w.heap.size w (w2.setCell ⟨w.heap.size, 2, none⟩ (.slice none 0 0))) := ((But.ofBelow (S := fun k => k = w.heap.size) aC).trans bS (fun _ _ e => e)).below (fun k hk e => by omega)
  have X3 : Hid ((w2.setCell ⟨w.heap.size, 2, none⟩ (.slice none 0 0)).heap[w.heap.size]? = some (.cells (pgC kind level none 0 0 aD data.length cD next) 93 (0, 0))) := hx3
  have Y3 := hide hy3
  have CD := hide fun (W : World) (hb : Below w.heap.size w W) => Clone_own W aD cD data (hP.bd.keep hb) (Nat.le_trans hd (by decide))
  have D8 := hide hP.bd.1
  have NK := hide (And.intro hP.nk (And.intro hP.nl hP.nn))
  simp only at D8 NK
  unfold pgC at *
  clear hP hd aB aC SZ hx2 hy2 hx3 hy3 bS hw2
  go_enter Tryz.func82, Tryz.ntmps82
  go_wp2_with (at_builtin; refine wpList_apRun rfl _ _ rfl (.slice none 0 0) (.slice aI 0 cI) _ rfl rfl HAP.out ?_)
  clear HAP cS fS
  generalize w2.setCell ⟨w.heap.size, 2, none⟩ (.slice none 0 0) = w3 at *
  go_loopw [12] (fun i wr => i = .int .i64 0 ∧ Below w.heap.size w wr ∧ wr.heap[w.heap.size]? = some (.cells #[.int .i64 kind, .int .i64 level, .slice none 0 0, .slice aD data.length cD, .int .i64 next] 93 (0, 0)) ∧ wr.heap[w.heap.size + 1]? = some (.cells #[.int .i64 0, .int .i64 0, .slice none 0 0, .slice none 0 0, .int .i64 0] 93 (0, 0))) (fun i _ => 0)
  case atStart => exact ⟨rfl, B3.out, X3.out, Y3.out⟩
  case round =>
      obtain ⟨rfl, hb, hxr, hyr⟩ := hrel
      have BR := hide hb
      have XR := hide hxr
      have YR := hide hyr
      have CDD := hide (CD.out wr hb)
      obtain ⟨x0, x1, x2, x3, x4⟩ := five_cells hxr
      clear hxr hyr hb
      go_wp2_with fail
      refine CDD.out.mono ?_
      rintro _ w4 ⟨a4, c4, rfl, hO⟩
      have b4 := bt BR.out hO.b
      have bx : w.heap.size < wr.heap.size := (Array.getElem?_eq_some_iff.1 XR.out).1
      have byy : w.heap.size + 1 < wr.heap.size := (Array.getElem?_eq_some_iff.1 YR.out).1
      have x4' := (hO.b.block w.heap.size bx).trans XR.out
      have y4' := (hO.b.block (w.heap.size + 1) byy).trans YR.out
      have cS : w4.cell? ⟨w.heap.size, 3, none⟩ = some (.slice aD data.length cD) := (five_cells x4').2.2.2.1
      have fS : w4.frozen? ⟨w.heap.size, 3, none⟩ = false := by simp [World.frozen?, x4']
      have x5 := heap_setCell_same w4 w.heap.size 3 _ 93 (.slice a4 data.length c4) x4'
      have Y5 : Hid ((w4.setCell ⟨w.heap.size, 3, none⟩ (.slice a4 data.length c4)).heap[w.heap.size + 1]? = some (.cells #[.int .i64 0, .int .i64 0, .slice none 0 0, .slice none 0 0, .int .i64 0] 93 (0, 0))) := (Below.heap_setCell _ _ _ _ (show w.heap.size + 1 ≠ w.heap.size by omega)).trans y4'
      obtain ⟨q0, q1, q2, q3, q4⟩ := five_cells (show (w4.setCell ⟨w.heap.size, 3, none⟩ (.slice a4 data.length c4)).heap[w.heap.size]? = some (.cells #[.int .i64 kind, .int .i64 level, .slice none 0 0, .slice a4 data.length c4, .int .i64 next] 93 (0, 0)) from x5)
      have FIN := hide fun (cs : Array Value) => (show Pn w ((w4.setCell ⟨w.heap.size, 3, none⟩ (.slice a4 data.length c4)).setRow (w.heap.size + 1) cs) ⟨kind, level, none, 0, [], a4, c4, data, next⟩ ∧ Below w.heap.size w ((w4.setCell ⟨w.heap.size, 3, none⟩ (.slice a4 data.length c4)).setRow (w.heap.size + 1) cs) from by
        have hB : But (fun k => k = w.heap.size ∨ k = w.heap.size + 1) w4 ((w4.setCell ⟨w.heap.size, 3, none⟩ (.slice a4 data.length c4)).setRow (w.heap.size + 1) cs) := ((But.refl (fun k => k = w.heap.size ∨ k = w.heap.size + 1) w4).setCell (p := ⟨w.heap.size, 3, none⟩) (fun _ => .inl rfl) _).trans (Q.setRow_but _ _ _) (fun k _ e => .inr e)
        have nt : ∀ {a : Option Addr} {c : Nat} {l : List Nat}, Rw w4 a c l → ∀ x, a = some x → ¬ (x.block = w.heap.size ∨ x.block = w.heap.size + 1) := fun hr x hx e => by
          rcases e with e | e
          · exact hr.nty (show Bx w4 93 w.heap.size _ from x4') (by decide) hx e
          · exact hr.nty (show Bx w4 93 (w.heap.size + 1) _ from y4') (by decide) hx e
        have hwr := BR.out.size
        refine ⟨⟨Jw.nil _, New.none _ _, hO.r.but hB (nt hO.r), hO.n.mono hwr, (fun _ h => by cases h), List.pairwise_singleton _ _, D8.out, (fun _ h => by cases h), NK.out.1, NK.out.2.1, NK.out.2.2⟩, ?_⟩
        exact ((But.ofBelow (S := fun k => k = w.heap.size ∨ k = w.heap.size + 1) b4).trans hB (fun _ _ e => e)).below (fun k hk e => by omega))
      clear b4 x4' y4' x5 hO bx byy x0 x1 x2 x3 x4
      go_wp2_with (first | (refine wpList_store_row rfl 93 _ _ rfl (w.heap.size + 1) _ rfl rfl 93 _ Y5.out sizePage rfl (by simp [Value.oneCell']) ?_) | fail)
      refine bodyPost_ret (v := .agg _) (results_cell_row Tryz.results82 _ _ (w.heap.size + 1) 93 _ (0, 0) _ rfl (setRow_heap _ _ _ _ _ _ Y5.out) Tryz.underlying93 rfl sizePage) rfl ?_
      refine ⟨⟨kind, level, none, 0, [], a4, c4, data, next⟩, rfl, (FIN.out _).1, rfl, (FIN.out _).2⟩
theorem copyOf_any (w : World) (p : Pv) (hP : Pi w p) (hd : p.data.length ≤ 140737488355264) (hs : ∀ x ∈ p.items, x.key.length ≤ 140737488355264 ∧ x.val.length ≤ 140737488355264) :
    Calls Tryz.prog 82 #[p.vl] w fun e w' => ∃ q : Pv, e = .returned q.vl ∧ Pn w w' q ∧ q.pg = p.pg ∧ Below w.heap.size w w' := by
  by_cases h : p.items = []
  · exact copyOf_none w p hP h hd
  · exact copyOf_some w p hP (List.length_pos_iff.2 h) hd hs
end Go.Proofs.YtbhigodjbfoeoaaGreat
namespace Go.Proofs.YtbhigodjbfoeoaaGreat
set_option linter.unusedVariables false
set_option linter.unusedSimpArgs false
open Go.RowKit
structure Pe (P P' : Q.Po) : Prop where
  fl : P'.fl = P.fl
  ex : ∃ j, P'.mark = P.mark + j ∧ Q.Po.back j P' = P
theorem Pe.refl (P : Q.Po) : Pe P P := ⟨rfl, 0, rfl, rfl⟩
theorem Pe.act {P : Q.Po} {n : Nat} (h1 : 1 ≤ n) (h2 : n ≤ P.pg.length) (c : Int) : Pe P (P.act n c) := ⟨rfl, 1, by simp [Q.Po.act, Q.Po.mark]; omega, Q.Po.back_act h1 h2 c 0⟩
theorem Pe.alloc (P : Q.Po) : Pe P P.alloc.2 := by
  unfold Q.Po.alloc
  split
  · exact Pe.refl P
  · rename_i n L hn
    have k := Q.inS_iff.1 ((Q.mem_pagesOf P.pg 1 n).1 (by rw [hn]; exact List.mem_cons_self))
    exact Pe.act (by omega) (by omega) _
end Go.Proofs.YtbhigodjbfoeoaaGreat
namespace Go.Proofs.YtbhigodjbfoeoaaGreat
set_option linter.unusedVariables false
set_option linter.unusedSimpArgs false
open Go.RowKit
end Go.Proofs.YtbhigodjbfoeoaaGreat
namespace Go.Proofs.YtbhigodjbfoeoaaGreat
set_option linter.unusedVariables false
set_option linter.unusedSimpArgs false
open Go.RowKit
theorem Pe.mark_le {P P' : Q.Po} (h : Pe P P') {B : Nat} (hb : P'.ac.length + P.fl ≤ B) : P'.mark ≤ B := by
  unfold Q.Po.mark
  rw [h.fl]; omega
end Go.Proofs.YtbhigodjbfoeoaaGreat
namespace Go.Proofs.YtbhigodjbfoeoaaGreat
set_option linter.unusedVariables false
set_option linter.unusedSimpArgs false
open Go.RowKit
theorem there_st (w : World) (b : Nat) (S : Vs) (pb mb : Nat) (pc col : Nat → Nat) (h : Vw w b S pb mb pc col) (n : Int) :
    Calls Tryz.prog 81 #[.pointer (some ⟨b, 0, none⟩), .int .i64 n] w fun e w' => e = .returned (.bool (decide (0 < S.X.P.count n))) ∧ w' = w := by
  obtain ⟨ac, cc, aa, ca, h⟩ := h
  exact isThere_any w b _ _ _ pc col h n
end Go.Proofs.YtbhigodjbfoeoaaGreat
namespace Go.Proofs.YtbhigodjbfoeoaaGreat
set_option linter.unusedVariables false
set_option linter.unusedSimpArgs false
open Go.RowKit
def Sml (p : Pv) : Prop := p.data.length ≤ 140737488355264 ∧ ∀ x ∈ p.items, x.key.length ≤ 140737488355264 ∧ x.val.length ≤ 140737488355264
set_option maxHeartbeats 8000000 in
set_option maxRecDepth 8000 in
theorem Read_any (w : World) (b : Nat) (S : Vs) (pb mb : Nat) (pc col : Nat → Nat) (h : Vw w b S pb mb pc col) (z : Int) (hs : Sml (S.X.on z)) :
    Calls Tryz.prog 43 #[.pointer (some ⟨b, 0, none⟩), .int .i64 z] w fun x w' => ∃ q : Pv, x = .returned (.tuple #[q.vl, .int .i64 (if 0 < S.X.P.count z then 0 else 15)]) ∧ Pn w w' q ∧ q.pg = (if 0 < S.X.P.count z then (S.X.on z).pg else Pv.zero.pg) ∧ Below w.heap.size w w' := by
  have aB := al w (.cells Pv.zero.cs 93)
  have TH := hide (there_st _ b S pb mb pc col (h.keep aB) z)
  have HX := hide (World.alloc_heap_new w (.cells Pv.zero.cs 93))
  have AB := hide aB
  obtain ⟨aa, ca, hv⟩ := h.vx
  obtain ⟨c0, c1⟩ := hv.c01
  have hbl := hv.lb
  have hl := (hv.keep aB).look z
  have CO := hide (copyOf_any _ (S.X.on z) ((hv.keep aB).on_z z).pi hs.1 hs.2)
  obtain ⟨q, hq⟩ : ∃ q, S.X.on z = q := ⟨_, rfl⟩
  rw [hq] at hl CO ⊢
  clear h hv hs hq aB c0
  obtain ⟨kp, lp, aIp, cIp, itp, aDp, cDp, dap, nxp⟩ := q
  unfold Pv.vl at *
  simp only [Pv.cs] at hl CO HX AB TH
  simp only [Pv.zero, List.length_nil] at hl CO HX AB TH
  have hmb : w.cell? ⟨b, 1, none⟩ = some (.map (some mb)) := c1
  have hlm : (Instr.lookup 46 (.map (some mb)) (.int .i64 z) false).run Tryz.prog (w.alloc (.cells #[.int .i64 0, .int .i64 0, .slice none 0 0, .slice none 0 0, .int .i64 0] 93)) = .ok (.agg #[.int .i64 kp, .int .i64 lp, .slice aIp itp.length cIp, .slice aDp dap.length cDp, .int .i64 nxp]) (w.alloc (.cells #[.int .i64 0, .int .i64 0, .slice none 0 0, .slice none 0 0, .int .i64 0] 93)) := hl
  clear hl c1
  by_cases h1 : 0 < S.X.P.count z
  · simp only [if_pos h1]
    rw [decide_eq_true h1] at TH
    clear h1
    go_enter Tryz.func43, Tryz.ntmps43
    go_wp2_with fail
    refine TH.out.mono ?_
    rintro _ wq ⟨rfl, hwq⟩
    obtain rfl := hwq.symm
    clear hwq
    go_wp2_with fail
    refine CO.out.mono ?_
    rintro _ w2 ⟨r, rfl, hP, hg, hb⟩
    have HP := hide (hP.pre AB.out.size)
    have HG := hide hg
    have HB := hide (bt AB.out hb)
    have HX2 := hide ((hb.block w.heap.size (Array.getElem?_eq_some_iff.1 HX.out).1).trans HX.out)
    clear hP hg hb CO TH
    go_wp2_with (first | (refine wpList_store_row rfl 93 _ _ rfl w.heap.size _ rfl rfl 93 _ HX2.out sizePage rfl (by simp [Value.oneCell']) ?_) | fail)
    refine bodyPost_ret (v := .tuple #[.agg _, _]) (results_cell_one Tryz.results43 _ _ w.heap.size 93 _ (0, 0) _ rfl (setRow_heap _ _ _ _ _ _ HX2.out) Tryz.underlying93 rfl sizePage) rfl ?_
    exact ⟨r, rfl, HP.out.row HX2.out (by decide) (by decide) _, HG.out, ((But.ofBelow (S := fun k => k = w.heap.size) HB.out).trans (Q.setRow_but _ _ _) (fun _ _ e => e)).below (fun k hk e => by omega)⟩
  · simp only [if_neg h1]
    rw [decide_eq_false h1] at TH
    clear h1 CO
    go_enter Tryz.func43, Tryz.ntmps43
    go_wp2_with fail
    refine TH.out.mono ?_
    rintro _ wq ⟨rfl, hwq⟩
    obtain rfl := hwq.symm
    clear hwq
    go_wp2_with (first | (refine wpList_store_row rfl 93 _ _ rfl w.heap.size _ rfl rfl 93 _ HX.out sizePage rfl (by simp [Value.oneCell']) ?_) | fail)
    refine bodyPost_ret (v := .tuple #[.agg _, _]) (results_cell_one Tryz.results43 _ _ w.heap.size 93 _ (0, 0) _ rfl (setRow_heap _ _ _ _ _ _ HX.out) Tryz.underlying93 rfl sizePage) rfl ?_
    exact ⟨Pv.zero, rfl, Pn.zero _ _, rfl, ((But.ofBelow (S := fun k => k = w.heap.size) AB.out).trans (Q.setRow_but _ _ _) (fun _ _ e => e)).below (fun k hk e => by omega)⟩
end Go.Proofs.YtbhigodjbfoeoaaGreat
namespace Go.Proofs.YtbhigodjbfoeoaaGreat
set_option linter.unusedVariables false
set_option linter.unusedSimpArgs false
open Go.RowKit
theorem vnew_at {v : World} {a : Option Addr} (h : New v none a) {x : Addr} (hx : a = some x) : v.heap.size ≤ x.block := by
  rcases h x hx with ⟨y, hy, _⟩ | h2
  · cases hy
  · exact h2
theorem Pn.pz {w w' : World} {col : Nat → Nat} {q : Pv} (h : Pn w w' q) (hl : q.items.length ≤ 2199023255489) : Pz (fun k => paint col w w' 6 k = 6) w' q := fun v hv => by
  have pj : ∀ {a : Option Addr} {c : Nat} {L : List Iv}, Jw w' a c L → New w none a → ∀ x, a = some x → ¬ ¬ (paint col w w' 6 x.block = 6) := fun hj hn x hx e => e (paint_new (vnew_at hn hx) (hj.lt hx))
  have pr : ∀ {a : Option Addr} {c : Nat} {l : List Nat}, Rw w' a c l → New w none a → ∀ x, a = some x → ¬ ¬ (paint col w w' 6 x.block = 6) := fun hr hn x hx e => e (paint_new (vnew_at hn hx) (hr.lt hx))
  exact Pn.pi (v := w) ⟨h.it.but hv (pj h.it h.itn), h.itn, h.d.but hv (pr h.d h.dn), h.dn, fun t ht => ⟨(h.fr t ht).1.but hv (pr (h.fr t ht).1 (h.fr t ht).2.1), (h.fr t ht).2⟩, h.dist, h.d8, h.ns, h.nk, h.nl, h.nn⟩ hl
theorem Vx.page {w w' : World} {b : Nat} {X : Vm} {fl : Nat} {D : Vd} {pc col : Nat → Nat} (h : Vx w b X fl D pc col) (hb : Below w.heap.size w w') : Vx w' b X fl D pc (paint col w w' 6) ∧ Vf w col w' (paint col w w' 6) := by
  obtain ⟨ac, cc, h⟩ := h
  have k := h.keep hb
  have old : ∀ {k : Nat}, col k ≠ 0 → paint col w w' 6 k = col k := fun hk => paint_old (h.lt _ hk)
  have cont : ∀ {p : Pv}, Pz (fun k => col k = 6) w' p → Pz (fun k => paint col w w' 6 k = 6) w' p := fun hz => hz.mono (fun k hk e => by rw [old (by omega)]; exact e)
  exact ⟨⟨ac, cc, k.box, k.mp, k.chr, k.acr, k.pool, fun n p hp => cont (k.fz n p hp), fun x hx => cont (k.cz x hx), (old (by rw [h.cb]; decide)).trans h.cb, (old (by rw [h.cm]; decide)).trans h.cm, fun x hx => (old (by rw [h.cc x hx]; decide)).trans (h.cc x hx), fun x hx => (old (by rw [h.ca x hx]; decide)).trans (h.ca x hx), fun n hn => (old (by rw [h.cp n hn]; decide)).trans (h.cp n hn), fun n hn => paint_lt hb.size hn⟩, But.ofBelow hb, fun n hn => paint_old hn⟩
end Go.Proofs.YtbhigodjbfoeoaaGreat
namespace Go.Proofs.YtbhigodjbfoeoaaGreat
set_option linter.unusedVariables false
set_option linter.unusedSimpArgs false
open Go.RowKit
end Go.Proofs.YtbhigodjbfoeoaaGreat
namespace Go.Proofs.YtbhigodjbfoeoaaGreat
set_option linter.unusedVariables false
set_option linter.unusedSimpArgs false
open Go.RowKit
def Pf (col : Nat → Nat) (w : World) (p : Pv) : Prop := Pz (fun k => ¬ (1 ≤ col k ∧ col k ≤ 5)) w p
theorem Pf.vf {w W : World} {col col' : Nat → Nat} {p : Pv} (h : Pf col w p) (hf : Vf w col W col') : Pi W p := h W (hf.b.mono fun k _ e hn => hn e)
def Vm.allocd (X : Vm) : Vm := ⟨X.P.alloc.2, X.f, X.ch⟩
def Vs.makeR (S : Vs) (p : Pg) : Int × Int := if p.check = 0 then S.X.P.alloc.1 else (0, (p.check : Int))
def Vs.makeS (S : Vs) (p : Pg) (q : Pv) : Vs := if p.check = 0 then S.done S.X.P.alloc.1.2 (if S.X.P.alloc.1.2 = 0 then S.X.allocd.lay S.X.P.alloc.1.1 q else S.X.allocd) else S
set_option maxHeartbeats 8000000 in
set_option maxRecDepth 8000 in
theorem Make_any (w : World) (b : Nat) (S : Vs) (pb mb : Nat) (pc col : Nat → Nat) (h : Vw w b S pb mb pc col) (p : Pv) (hP : Pf col w p) (hs : Sml p) (hil : p.items.length ≤ 2199023255489) (hm : S.X.P.mark + 1 ≤ 17592186044416) (hc : S.X.ch.length + 1 ≤ 1759218604441) (hl : S.al.length + 1 ≤ 8796093022208) :
    Calls Tryz.prog 91 #[.pointer (some ⟨b, 0, none⟩), p.vl] w fun x w' => ∃ q : Pv, q.pg = p.pg ∧ x = .returned (.tuple #[.int .i64 (S.makeR p.pg).1, .int .i64 (S.makeR p.pg).2]) ∧ ∃ pc' col', Vw w' b (S.makeS p.pg q) pb mb pc' col' ∧ Vf w col w' col' := by
  have aB := al w (.cells p.cs 93)
  have HX := hide (World.alloc_heap_new w (.cells p.cs 93))
  have CK := hide (Check_any _ p (hP.pi.keep aB))
  have HE := hide fun (W : World) (hb : Below w.heap.size w W) => here_st W b S pb mb pc col (h.keep hb) (by omega)
  have CP := hide fun (W : World) (col' : Nat → Nat) (hf : Vf w col W col') => copyOf_any W p (hP.vf hf) hs.1 hs.2
  have LQ := hide (show ∀ q : Pv, q.pg = p.pg → q.items.length ≤ 2199023255489 from fun q hq => by
    have := congrArg (fun g : Pg => g.items.length) hq
    simp only [Pv.pg, List.length_map] at this
    omega)
  obtain ⟨aa, ca, hx⟩ := h.vx
  have hac : S.X.P.ac.length + 1 ≤ 17592186044416 := by unfold Q.Po.mark at hm; omega
  have AL := hide fun (W : World) (hb : Below w.heap.size w W) => (show Calls Tryz.prog 115 #[.pointer (some ⟨pb, 0, none⟩)] W fun e w' => e = .returned (.tuple #[.int .i64 S.X.P.alloc.1.1, .int .i64 S.X.P.alloc.1.2]) ∧ ∃ pc' col', Vx w' b S.X.allocd S.fl (vd0 pb mb aa ca S.al) pc' col' ∧ Vf W col w' col' from alloc_st W b S.X S.fl (vd0 pb mb aa ca S.al) pc col (hx.keep hb) hac)
  have hma : S.X.allocd.P.mark ≤ 9223372036854775807 := (Pe.alloc S.X.P).mark_le (by have := alloc_ac S.X.P; unfold Q.Po.mark at hm; omega)
  have LY := hide fun (W : World) (pc' col' : Nat → Nat) (s : Int) (q : Pv) (hv : Vx W b S.X.allocd S.fl (vd0 pb mb aa ca S.al) pc' col') (hq : Pz (fun k => col' k = 6) W q) => lay_st W b S.X.allocd S.fl (vd0 pb mb aa ca S.al) pc' col' hv s q hq hc
  have EN := hide fun (W : World) (pc' col' : Nat → Nat) (s e : Int) (q : Pv) (hv : Vx W b (S.X.allocd.lay s q) S.fl (vd0 pb mb aa ca S.al) pc' col') => end_st W b S (S.X.allocd.lay s q) pb mb aa ca pc' col' hv e (by show S.X.ch.length ≤ (S.X.ch ++ [_]).length; rw [List.length_append]; omega) hma hl
  have EO := hide fun (W : World) (pc' col' : Nat → Nat) (e : Int) (hv : Vx W b S.X.allocd S.fl (vd0 pb mb aa ca S.al) pc' col') => end_st W b S S.X.allocd pb mb aa ca pc' col' hv e (Nat.le_refl _) hma hl
  have HV := hide h
  have HVX := hide hx
  have AB := hide aB
  unfold Vs.makeR Vs.makeS
  obtain ⟨ce, hce⟩ : ∃ ce, p.pg.check = ce := ⟨_, rfl⟩
  rw [hce] at CK ⊢
  obtain ⟨pg, hpg⟩ : ∃ pg, p.pg = pg := ⟨_, rfl⟩
  rw [hpg] at LQ CP ⊢
  obtain ⟨mk, hmk⟩ : ∃ mk, S.X.P.mark = mk := ⟨_, rfl⟩
  obtain ⟨cl, hcl⟩ : ∃ cl, S.X.ch.length = cl := ⟨_, rfl⟩
  simp only [hmk, hcl] at HE EN EO
  obtain ⟨X1, hX1⟩ : ∃ X1, S.X.allocd = X1 := ⟨_, rfl⟩
  rw [hX1] at AL ⊢
  simp only [hX1] at LY EN EO
  obtain ⟨r, hr⟩ : ∃ r, S.X.P.alloc.1 = r := ⟨_, rfl⟩
  rw [hr] at AL ⊢
  obtain ⟨s, e⟩ := r
  simp only at AL ⊢
  have HPG := hide hpg
  have c0 := h.c0
  have hbl := hx.lb
  clear h hx aB hP hs hil hm hc hl hce hpg hmk hcl hX1 hr hac hma
  obtain ⟨kp, lp, aIp, cIp, itp, aDp, cDp, dap, nxp⟩ := p
  unfold Pv.vl at CK CP ⊢
  simp only [Pv.cs] at CK HX AB CP ⊢
  by_cases h0 : ce = 0
  · subst h0
    simp only [if_pos]
    by_cases he : e = 0
    · subst he
      simp only [if_pos]
      obtain ⟨x0, x1, x2, x3, x4⟩ := five_cells HX.out
      go_enter Tryz.func91, Tryz.ntmps91
      go_wp2_with fail
      refine CK.out.mono ?_
      rintro _ w2 ⟨rfl, hb⟩
      have X2 := hide ((hb.block w.heap.size (Array.getElem?_eq_some_iff.1 HX.out).1).trans HX.out)
      have B2 := hide (bt AB.out hb)
      clear hb CK x0 x1 x2 x3 x4
      go_wp2_with fail
      refine (HE.out _ B2.out).mono ?_
      rintro _ w3 ⟨rfl, hb⟩
      have a3 := al w3 (.cells #[.int .i64 ((mk : Nat) : Int), .int .i64 ((cl : Nat) : Int)] 115)
      have B3 := hide (bt (bt B2.out hb) a3)
      have T3 := hide (World.alloc_heap_new w3 (.cells #[.int .i64 ((mk : Nat) : Int), .int .i64 ((cl : Nat) : Int)] 115))
      have X3 := hide (((bt hb a3).block w.heap.size (Array.getElem?_eq_some_iff.1 X2.out).1).trans X2.out)
      have Z3 : Hid (col w3.heap.size = 0) := HV.out.z (bt B2.out hb).size
      have Y3 : Hid (col w.heap.size = 0) := HV.out.z (Nat.le_refl _)
      have c3 := (HV.out.keep (bt B2.out hb)).c0
      have hb3 : b < w3.heap.size := Nat.lt_of_lt_of_le hbl (bt B2.out hb).size
      clear hb HE a3
      go_wp2_with fail
      refine (AL.out _ B3.out).mono ?_
      rintro _ w4 ⟨rfl, pc4, col4, v4, f4⟩
      have V4 := hide v4
      have F4 := hide ((Vf.keep B3.out).trans f4)
      have T4 := hide (f4.b.same T3.out (fun e => by rw [Z3.out] at e; omega))
      have Z4 := hide ((f4.c w3.heap.size (Array.getElem?_eq_some_iff.1 T3.out).1).trans Z3.out)
      obtain ⟨x0, x1, x2, x3, x4⟩ := five_cells (f4.b.same X3.out (fun e => by rw [Y3.out] at e; omega))
      clear v4 f4 AL c3
      go_wp2_with fail
      refine (CP.out _ _ F4.out).mono ?_
      rintro _ w5 ⟨q, rfl, hPn, hq, hb⟩
      have Q5 := hide hq
      obtain ⟨v5, f5⟩ := V4.out.page hb
      have LY5 := hide (LY.out _ _ _ s q v5 (hPn.pz (col := col4) (LQ.out q hq)))
      have F5 := hide (F4.out.trans f5)
      have T5 := hide ((hb.block w3.heap.size (Array.getElem?_eq_some_iff.1 T4.out).1).trans T4.out)
      have Z5 := hide ((f5.c w3.heap.size (Array.getElem?_eq_some_iff.1 T4.out).1).trans Z4.out)
      clear hPn hq hb v5 f5 x0 x1 x2 x3 x4 CP LY
      generalize paint col4 _ w5 6 = col5 at *
      obtain ⟨kq, lq, aIq, cIq, itq, aDq, cDq, daq, nxq⟩ := q
      unfold Pv.vl at LY5
      simp only [Pv.cs] at LY5
      go_wp2_with fail
      refine LY5.out.mono ?_
      rintro _ w6 ⟨rfl, pc6, col6, v6, f6⟩
      have V6 := hide v6
      have F6 := hide (F5.out.trans f6)
      obtain ⟨y0, y1⟩ := two_cells (f6.b.same T5.out (fun e => by rw [Z5.out] at e; omega))
      clear v6 f6 LY5
      go_wp2_with fail
      refine (EN.out _ _ _ _ _ _ V6.out).mono ?_
      rintro _ w7 ⟨rfl, pc7, col7, v7, f7⟩
      have V7 := hide v7
      have F7 := hide (F6.out.trans f7)
      clear v7 f7 y0 y1
      go_wp2
      go_ret2
      first | exact ⟨_, Q5.out, rfl, _, _, V7.out, F7.out⟩ | exact ⟨rfl, _, Q5.out, _, _, V7.out, F7.out⟩
    · have e1 : (e == 0) = false := by simp [he]
      simp only [if_neg he]
      obtain ⟨x0, x1, x2, x3, x4⟩ := five_cells HX.out
      go_enter Tryz.func91, Tryz.ntmps91
      go_wp2_with fail
      refine CK.out.mono ?_
      rintro _ w2 ⟨rfl, hb⟩
      have X2 := hide ((hb.block w.heap.size (Array.getElem?_eq_some_iff.1 HX.out).1).trans HX.out)
      have B2 := hide (bt AB.out hb)
      clear hb CK x0 x1 x2 x3 x4
      go_wp2_with fail
      refine (HE.out _ B2.out).mono ?_
      rintro _ w3 ⟨rfl, hb⟩
      have a3 := al w3 (.cells #[.int .i64 ((mk : Nat) : Int), .int .i64 ((cl : Nat) : Int)] 115)
      have B3 := hide (bt (bt B2.out hb) a3)
      have T3 := hide (World.alloc_heap_new w3 (.cells #[.int .i64 ((mk : Nat) : Int), .int .i64 ((cl : Nat) : Int)] 115))
      have X3 := hide (((bt hb a3).block w.heap.size (Array.getElem?_eq_some_iff.1 X2.out).1).trans X2.out)
      have Z3 : Hid (col w3.heap.size = 0) := HV.out.z (bt B2.out hb).size
      have Y3 : Hid (col w.heap.size = 0) := HV.out.z (Nat.le_refl _)
      have c3 := (HV.out.keep (bt B2.out hb)).c0
      have hb3 : b < w3.heap.size := Nat.lt_of_lt_of_le hbl (bt B2.out hb).size
      clear hb HE a3
      go_wp2_with fail
      refine (AL.out _ B3.out).mono ?_
      rintro _ w4 ⟨rfl, pc4, col4, v4, f4⟩
      have V4 := hide v4
      have F4 := hide ((Vf.keep B3.out).trans f4)
      have T4 := hide (f4.b.same T3.out (fun e => by rw [Z3.out] at e; omega))
      have Z4 := hide ((f4.c w3.heap.size (Array.getElem?_eq_some_iff.1 T3.out).1).trans Z3.out)
      obtain ⟨x0, x1, x2, x3, x4⟩ := five_cells (f4.b.same X3.out (fun e => by rw [Y3.out] at e; omega))
      clear v4 f4 AL c3
      obtain ⟨y0, y1⟩ := two_cells T4.out
      go_wp2_with fail
      refine (EO.out _ _ _ _ V4.out).mono ?_
      rintro _ w7 ⟨rfl, pc7, col7, v7, f7⟩
      have V7 := hide v7
      have F7 := hide (F4.out.trans f7)
      clear v7 f7 y0 y1 x0 x1 x2 x3 x4
      go_wp2
      go_ret2
      first | exact ⟨_, HPG.out, rfl, _, _, V7.out, F7.out⟩ | exact ⟨⟨_, HPG.out⟩, rfl, _, _, V7.out, F7.out⟩ | exact ⟨rfl, ⟨_, HPG.out⟩, _, _, V7.out, F7.out⟩
  · have e0 : ((ce : Nat) : Int) ≠ 0 := by omega
    have e1 : (((ce : Nat) : Int) == 0) = false := by simp; omega
    have e2 : (ce == 0) = false := by simp; omega
    simp only [if_neg h0]
    obtain ⟨x0, x1, x2, x3, x4⟩ := five_cells HX.out
    go_enter Tryz.func91, Tryz.ntmps91
    go_wp2_with fail
    refine CK.out.mono ?_
    rintro _ w2 ⟨rfl, hb⟩
    have V1 := hide (HV.out.keep (bt AB.out hb))
    have F1 := hide (Vf.keep (c := col) (bt AB.out hb))
    clear hb CK x0 x1 x2 x3 x4
    go_wp2
    go_ret2
    first | exact ⟨_, HPG.out, rfl, _, _, V1.out, F1.out⟩ | exact ⟨⟨_, HPG.out⟩, rfl, _, _, V1.out, F1.out⟩ | exact ⟨rfl, ⟨_, HPG.out⟩, _, _, V1.out, F1.out⟩
end Go.Proofs.YtbhigodjbfoeoaaGreat
