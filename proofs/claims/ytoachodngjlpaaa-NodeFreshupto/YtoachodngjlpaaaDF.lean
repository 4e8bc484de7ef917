import Derived.Test.YtoachodngjlpaaaDA
import Derived.Deep.RegionHeld
namespace Go.Proofs.Ytoachodngjlpaaa
set_option linter.unusedVariables false
set_option linter.unusedSimpArgs false
open Go.RowKit

/-! ### a page that is being put together -/
theorem cells5 {W : World} {b : Nat} {t : TypeId} {v0 v1 v2 v3 v4 : Value} (h : W.heap[b]? = some (.cells #[v0, v1, v2, v3, v4] t (0, 0))) : W.cell? ⟨b, 0, none⟩ = some v0 ∧ W.cell? ⟨b, 1, none⟩ = some v1 ∧ W.cell? ⟨b, 2, none⟩ = some v2 ∧ W.cell? ⟨b, 3, none⟩ = some v3 ∧ W.cell? ⟨b, 4, none⟩ = some v4 := by
  refine ⟨?_, ?_, ?_, ?_, ?_⟩ <;> (rw [cell_of_row _ _ _ _ _ _ h]; rfl)
theorem cells4 {W : World} {b : Nat} {t : TypeId} {v0 v1 v2 v3 : Value} (h : W.heap[b]? = some (.cells #[v0, v1, v2, v3] t (0, 0))) : W.cell? ⟨b, 0, none⟩ = some v0 ∧ W.cell? ⟨b, 1, none⟩ = some v1 ∧ W.cell? ⟨b, 2, none⟩ = some v2 ∧ W.cell? ⟨b, 3, none⟩ = some v3 := by
  refine ⟨?_, ?_, ?_, ?_⟩ <;> (rw [cell_of_row _ _ _ _ _ _ h]; rfl)
theorem frz {W : World} {b : Nat} {t : TypeId} {cs : Array Value} (h : W.heap[b]? = some (.cells cs t (0, 0))) (o : Nat) : W.frozen? ⟨b, o, none⟩ = false := frozen_of_row _ _ _ _ _ h
theorem but_two (W : World) (g o1 o2 : Nat) (a b : Value) : But (fun k => k = g) W ((W.setCell ⟨g, o1, none⟩ a).setCell ⟨g, o2, none⟩ b) := ((But.refl (fun k => k = g) W).setCell (p := ⟨g, o1, none⟩) (fun _ => rfl) a).setCell (p := ⟨g, o2, none⟩) (fun _ => rfl) b
theorem Pn.ofFam {w W : World} {P : Pv} (f : Fam w W (rp P)) (hJ : Jw W P.aI P.cI P.items) (hN : New w none P.aI) (ns : ∀ r ∈ P.items, N64 r.child ∧ N64 r.size) (nk : N64 P.kind) (nl : N64 P.level) (nn : N64 P.next) : Pn w W P :=
  ⟨hJ, hN, (f.own _ List.mem_cons_self).1.r, (f.own _ List.mem_cons_self).1.n, fun t ht => ⟨(f.own t (List.mem_cons_of_mem _ ht)).1.r, (f.own t (List.mem_cons_of_mem _ ht)).1.n, (f.own t (List.mem_cons_of_mem _ ht)).2⟩, f.dist, (f.own _ List.mem_cons_self).2, ns, nk, nl, nn⟩
theorem Pn.add {w W W0 W1 W2 : World} {P : Pv} {q : Iv} {g c2 : Nat} (h : Pn w W P) (hw : Below w.heap.size w W) (hq : Io W W0 q) (hn : N64 q.child ∧ N64 q.size) (hb : Below W0.heap.size W0 W1) (hJ : Jw W2 (some ⟨g, 0, none⟩) c2 (P.items ++ [q])) (hN : New W1 P.aI (some ⟨g, 0, none⟩)) (hg : W1.grownBy W2 (P.aI.map Addr.block)) :
    Pn w W2 { P with aI := some ⟨g, 0, none⟩, cI := c2, items := P.items ++ [q] } ∧ Below w.heap.size w W2 := by
  have b1 : Below W.heap.size W W1 := bt hq.k.b hb
  have j0 : JOwn w W P.aI P.cI P.items := ⟨h.it, h.itn, hw⟩
  have j2 := j0.step b1 hJ hN hg
  have f1 : Fam w W1 (rp P ++ q.rows) := (h.fam hw).add (hq.fam.keep hb) b1 hw
  have f2 := f1.grown (h.it.keep b1) hg j2.b
  have e : rp P ++ q.rows = rp { P with aI := some ⟨g, 0, none⟩, cI := c2, items := P.items ++ [q] } := by
    unfold rp
    rw [rowsOf_append, rowsOf_one]
    rfl
  rw [e] at f2
  refine ⟨Pn.ofFam f2 hJ j2.n (fun r hr => ?_) h.nk h.nl h.nn, j2.b⟩
  rcases List.mem_append.1 hr with hr | hr
  · exact h.ns r hr
  · rw [List.mem_singleton.1 hr]; exact hn
/-- what with has come to -/
structure Wi (w W : World) (P : Pv) : Prop where
  p : Pn w W P
  b : Below w.heap.size w W
  x : W.heap[w.heap.size]? = some (.cells P.cs 25 (0, 0))
  y : W.heap[w.heap.size + 1]? = some (.cells Pv.zero.cs 25 (0, 0))
theorem Wi.sz {w W : World} {P : Pv} (h : Wi w W P) : w.heap.size + 1 < W.heap.size := (Array.getElem?_eq_some_iff.1 h.y).1
theorem Wi.keep {w W W' : World} {P : Pv} (h : Wi w W P) (hb : Below W.heap.size W W') : Wi w W' P :=
  ⟨h.p.keep hb, bt h.b hb, blk_keep h.x hb, blk_keep h.y hb⟩
theorem Wi.set {w W : World} {P : Pv} (h : Pn w W P) (b : Below w.heap.size w W) {cs : Array Value} (x : W.heap[w.heap.size]? = some (.cells cs 25 (0, 0))) (y : W.heap[w.heap.size + 1]? = some (.cells Pv.zero.cs 25 (0, 0))) (i : Nat) (v : Value) (e : cs.setIfInBounds i v = P.cs) : Wi w (W.setCell ⟨w.heap.size, i, none⟩ v) P := by
  have hB : But (fun k => k = w.heap.size) W (W.setCell ⟨w.heap.size, i, none⟩ v) := But.cell1 _ _ _ _
  refine ⟨h.but hB (fun k hk => ⟨_, _, by subst hk; exact x, by decide, by decide⟩), ((But.ofBelow (S := fun k => k = w.heap.size) b).trans hB (fun _ _ e => e)).below (fun k hk e => by omega), ?_, (Below.heap_setCell _ _ _ _ (show w.heap.size + 1 ≠ w.heap.size by omega)).trans y⟩
  have := heap_setCell_same W w.heap.size i _ 25 v x
  rw [e] at this
  exact this
theorem Wi.round {w W W0 W2 : World} {P : Pv} {q : Iv} {o : Obj} {g c2 : Nat} (h : Wi w W P) (hq : Io W W0 q) (hn : N64 q.child ∧ N64 q.size) (hJ : Jw W2 (some ⟨g, 0, none⟩) c2 (P.items ++ [q])) (hN : New (W0.alloc o) P.aI (some ⟨g, 0, none⟩)) (hg : (W0.alloc o).grownBy W2 (P.aI.map Addr.block)) :
    Wi w (W2.setCell ⟨w.heap.size, 2, none⟩ (.slice (some ⟨g, 0, none⟩) (P.items.length + 1) c2)) { P with aI := some ⟨g, 0, none⟩, cI := c2, items := P.items ++ [q] } ∧ W2.cell? ⟨w.heap.size, 2, none⟩ = some (.slice P.aI P.items.length P.cI) ∧ W2.frozen? ⟨w.heap.size, 2, none⟩ = false := by
  have b1 : Below W.heap.size W (W0.alloc o) := bt hq.k.b (al _ _)
  obtain ⟨p2, b2⟩ := h.p.add h.b hq hn (al _ o) hJ hN hg
  have k1 := h.keep b1
  have hb := k1.p.it.butg hg
  have x2 : W2.heap[w.heap.size]? = _ := (hb.block w.heap.size (by have := k1.sz; omega) (fun ⟨x, hx, e⟩ => k1.p.it.nty (show Bx (W0.alloc o) 25 w.heap.size _ from k1.x) (by decide) hx e)).trans k1.x
  have y2 : W2.heap[w.heap.size + 1]? = _ := (hb.block (w.heap.size + 1) k1.sz (fun ⟨x, hx, e⟩ => k1.p.it.nty (show Bx (W0.alloc o) 25 (w.heap.size + 1) _ from k1.y) (by decide) hx e)).trans k1.y
  refine ⟨Wi.set p2 b2 x2 y2 2 _ ?_, (cells5 x2).2.2.1, frz x2 _⟩
  simp [Pv.cs]
theorem io_made {W W1 Wa Wb : World} {a1 a2 : Option Addr} {c1 c2 gb : Nat} {key val : List Nat} {child size : Int} {cs : Array Value} (hb : Below W.heap.size W W1) (hg : W.heap.size ≤ gb) (o1 : Own W1 Wa a1 c1 key) (o2 : Own Wa Wb a2 c2 val) (h8 : B8 key) (h9 : B8 val) (hx : Wb.heap[gb]? = some (.cells cs 29 (0, 0))) (u v : Value) :
    Io W ((Wb.setCell ⟨gb, 0, none⟩ u).setCell ⟨gb, 1, none⟩ v) ⟨a1, c1, key, a2, c2, val, child, size⟩ := by
  have hB := but_two Wb gb 0 1 u v
  have b3 : Below W.heap.size W ((Wb.setCell ⟨gb, 0, none⟩ u).setCell ⟨gb, 1, none⟩ v) := ((But.ofBelow (S := fun k => k = gb) (bt hb (bt o1.b o2.b))).trans hB (fun _ _ e => e)).below (fun k hk e => by omega)
  have k1 := o1.keep o2.b
  refine ⟨⟨k1.r.but hB (fun x hx2 e => k1.r.nty (show Bx Wb 29 gb _ from hx) (by decide) hx2 e), k1.n.mono hb.size, b3⟩, ⟨o2.r.but hB (fun x hx2 e => o2.r.nty (show Bx Wb 29 gb _ from hx) (by decide) hx2 e), o2.n.mono (Nat.le_trans hb.size o1.b.size), b3⟩, fun x y hx2 hy e => ?_, h8, h9⟩
  have e1 := o1.r.lt hx2
  have e2 := o2.fresh hy
  omega
/-! ### with -/
structure Pc where
  a : Option Addr
  c : Nat
  L : List Iv
def Pc.zero : Pc := ⟨none, 0, []⟩
def Pc.vl (x : Pc) : Value := .slice x.a x.L.length x.c
def flt (ps : List Pc) : List Iv := (ps.map Pc.L).flatten
theorem flt_take {ps : List Pc} {k : Nat} (h : k < ps.length) : flt (ps.take (k + 1)) = flt (ps.take k) ++ (ps.getD k Pc.zero).L := by
  rw [List.take_succ_eq_append_getElem h]
  simp only [flt, List.map_append, List.flatten_append, List.map_cons, List.map_nil, List.flatten_cons, List.flatten_nil, List.append_nil, List.getD_eq_getElem?_getD, List.getElem?_eq_getElem h, Option.getD_some]
theorem flt_le {ps : List Pc} {k : Nat} (h : k < ps.length) : (flt (ps.take k)).length + (ps.getD k Pc.zero).L.length ≤ (flt ps).length := by
  have e : ps = ps.take (k + 1) ++ ps.drop (k + 1) := (List.take_append_drop _ _).symm
  have e2 : flt ps = flt (ps.take (k + 1)) ++ flt (ps.drop (k + 1)) := by
    conv => lhs; rw [e]
    simp only [flt, List.map_append, List.flatten_append]
  rw [e2, flt_take h, List.length_append, List.length_append]
  omega
structure Px (w : World) (b : Nat) (ps : List Pc) : Prop where
  x : w.heap[b]? = some (.cells (ps.map Pc.vl).toArray 22 (0, 0))
  j : ∀ y ∈ ps, Js w y.a y.L
  s : ∀ y ∈ ps, ∀ r ∈ y.L, r.key.length ≤ 140737488355264 ∧ r.val.length ≤ 140737488355264
  n : (flt ps).length ≤ 2199023255520
theorem pc_mem {ps : List Pc} {k : Nat} (h : k < ps.length) : ps.getD k Pc.zero ∈ ps := by simp [h]
set_option maxHeartbeats 8000000 in
set_option maxRecDepth 8000 in
theorem with_any (w : World) (p : Pv) (b : Nat) (ps : List Pc) (n : Nat) (hn : n = ps.length) (hnn : n ≤ 8) (hD : Bs w p.aD p.data) (hK : N64 p.kind ∧ N64 p.level ∧ N64 p.next) (hd : p.data.length ≤ 140737488355264) (hX : Px w b ps) :
    Calls Try.prog 21 #[p.vl, .slice (some ⟨b, 0, none⟩) n n] w fun e w' => ∃ q : Pv, e = .returned q.vl ∧ Pn w w' q ∧ q.pg = { p.pg with items := (flt ps).map Iv.it } ∧ Below w.heap.size w w' := by
  obtain ⟨kind, level, aI, cI, L0, aD, cD, data, next⟩ := p
  unfold Pv.vl
  simp only [Pv.cs] at *
  generalize L0.length = n0
  have CD := hide fun (W : World) (hb : Below w.heap.size w W) => Clone_own W aD cD data (hD.keep hb) (Nat.le_trans hd (by decide))
  have RP := hide fun (W : World) (hb : Below w.heap.size w W) (k : Nat) (hk : k < n) => (show W.cell? ⟨b, k, none⟩ = some (ps.getD k Pc.zero).vl from by
    rw [cell_of_row _ _ _ _ _ _ (blk_keep hX.x hb)]
    rw [hn] at hk
    simp [hk])
  have RJ := hide fun (W : World) (hb : Below w.heap.size w W) (k : Nat) (hk : k < n) => (hX.j _ (pc_mem (hn ▸ hk))).keep hb
  have RS := hide fun (k : Nat) (hk : k < n) => hX.s _ (pc_mem (hn ▸ hk))
  have RL := hide fun (k : Nat) (hk : k < n) => (show (flt (ps.take k)).length + (ps.getD k Pc.zero).L.length ≤ 2199023255520 from Nat.le_trans (flt_le (hn ▸ hk)) hX.n)
  have RT := hide fun (k : Nat) (hk : k < n) => flt_take (ps := ps) (k := k) (hn ▸ hk)
  have FE : Hid (flt (ps.take n) = flt ps) := by
    show _ = _
    rw [hn, List.take_length]
  have D8 := hide hD.1
  have NK := hide hK
  have hbw : Hid (b < w.heap.size) := (Array.getElem?_eq_some_iff.1 hX.x).1
  clear hX hD hd hK hn
  go_enter Try.func21, Try.ntmps21
  have T0 := hide (bt (al w (.cells #[.int .i64 kind, .int .i64 level, .slice aI n0 cI, .slice aD data.length cD, .int .i64 next] 25)) (al (w.alloc (.cells #[.int .i64 kind, .int .i64 level, .slice aI n0 cI, .slice aD data.length cD, .int .i64 next] 25)) (.cells #[.int .i64 0, .int .i64 0, .slice none 0 0, .slice none 0 0, .int .i64 0] 25)))
  have U0 := hide (two_blocks w (.cells #[.int .i64 kind, .int .i64 level, .slice aI n0 cI, .slice aD data.length cD, .int .i64 next] 25) (.cells #[.int .i64 0, .int .i64 0, .slice none 0 0, .slice none 0 0, .int .i64 0] 25) (Below.refl _ _))
  go_wp2_with fail
  refine (CD.out _ T0.out).mono ?_
  rintro _ w4 ⟨a4, c4, rfl, hO⟩
  have S0 := U0.out.2.2.2
  have x4 := (hO.b.block w.heap.size (by omega)).trans U0.out.1
  have y4 := (hO.b.block (w.heap.size + 1) (by omega)).trans U0.out.2.1
  have O4 := hide (Own.pre T0.out hO)
  obtain ⟨x0, x1, x2, x3, x5⟩ := cells5 x4
  have f2 := frz x4 2
  have f3 := frz x4 3
  have W5 : Hid (Wi w ((w4.setCell ⟨w.heap.size, 3, none⟩ (.slice a4 data.length c4)).setCell ⟨w.heap.size, 2, none⟩ (.slice none 0 0)) ⟨kind, level, none, 0, [], a4, c4, data, next⟩) := by
    have p4 : Pn w w4 ⟨kind, level, none, 0, [], a4, c4, data, next⟩ := ⟨Jw.nil _, New.none _ _, O4.out.r, O4.out.n, (fun _ h => by cases h), List.pairwise_singleton _ _, D8.out, (fun _ h => by cases h), NK.out.1, NK.out.2.1, NK.out.2.2⟩
    have hB := But.cell1 w4 w.heap.size 3 (.slice a4 data.length c4)
    have p5 := p4.but hB (fun k hk => ⟨_, _, by subst hk; exact x4, by decide, by decide⟩)
    have b5 : Below w.heap.size w (w4.setCell ⟨w.heap.size, 3, none⟩ (.slice a4 data.length c4)) := ((But.ofBelow (S := fun k => k = w.heap.size) O4.out.b).trans hB (fun _ _ e => e)).below (fun k hk e => by omega)
    exact Wi.set p5 b5 (heap_setCell_same w4 w.heap.size 3 _ 25 (.slice a4 data.length c4) x4) ((Below.heap_setCell _ _ _ _ (show w.heap.size + 1 ≠ w.heap.size by omega)).trans y4) 2 _ rfl
  clear hO x4 y4 S0
  go_wp2
  clear x0 x1 x2 x3 x5 f2 f3
  generalize ((w4.setCell ⟨w.heap.size, 3, none⟩ (.slice a4 data.length c4)).setCell ⟨w.heap.size, 2, none⟩ (.slice none 0 0)) = w5 at *
  clear T0 U0 O4 CD
  go_loopw [16] (fun i wr => ∃ (k : Nat) (a : Option Addr) (c : Nat) (M : List Iv), k ≤ n ∧ i = .int .i64 (k : Int) ∧ Wi w wr ⟨kind, level, a, c, M, a4, c4, data, next⟩ ∧ M.map Iv.it = (flt (ps.take k)).map Iv.it) (fun i _ => n - (intOf i).toNat)
  case atStart => exact ⟨0, none, 0, [], Nat.zero_le _, rfl, W5.out, rfl⟩
  case round =>
    obtain ⟨k, a0, c0, M0, hk, rfl, hW, hM⟩ := hrel
    clear W5
    have W0 := hide hW
    have M0e := hide hM
    by_cases hlt : k < n
    · have hkI : (k : Int) < (n : Int) := by omega
      have cP := RP.out wr hW.b k hlt
      have J := hide fun (W : World) (hb : Below w.heap.size w W) => RJ.out W hb k hlt
      have SZ := hide (RS.out k hlt)
      have LN := hide (RL.out k hlt)
      have TK := hide (RT.out k hlt)
      clear hW hM RP RJ RS RL RT
      generalize ps.getD k Pc.zero = y at *
      obtain ⟨aJ, cJ, L⟩ := y
      simp only [Pc.vl] at cP
      have LNm : Hid (M0.length + L.length ≤ 2199023255520) := by
        have := congrArg List.length M0e.out
        simp only [List.length_map] at this
        have k := LN.out
        simp only at k
        show _ ≤ _
        omega
      obtain ⟨m, hm⟩ : ∃ m, L.length = m := ⟨_, rfl⟩
      have HM := hide hm
      rw [hm] at cP
      clear hm LN
      have hmI : m ≤ 2199023255520 := by have := LNm.out; rw [HM.out] at this; omega
      go_wp2_with fail
      go_loopw [22] (fun i wr => ∃ (j : Nat) (a : Option Addr) (c : Nat) (M : List Iv), j ≤ m ∧ i = .int .i64 (j : Int) ∧ Wi w wr ⟨kind, level, a, c, M, a4, c4, data, next⟩ ∧ M.map Iv.it = M0.map Iv.it ++ (L.take j).map Iv.it) (fun i _ => m - (intOf i).toNat)
      case atStart => exact ⟨0, a0, c0, M0, Nat.zero_le _, rfl, W0.out, by simp⟩
      case round =>
        obtain ⟨j, a1, c1, M1, hj, rfl, hW1, hM1⟩ := hrel
        have W1 := hide hW1
        have M1e := hide hM1
        have L1 : Hid (M1.length = M0.length + j) := by
          have := congrArg List.length hM1
          simp only [List.length_map, List.length_append, List.length_take] at this
          have k := HM.out
          show _ = _
          omega
        by_cases hjl : j < m
        · have hjI : (j : Int) < (m : Int) := by omega
          have hjL : j < L.length := by rw [HM.out]; exact hjl
          have js := J.out wr hW1.b
          try simp only at js
          obtain ⟨bI, off, ea, hr⟩ := js.at hjL
          have ii := js.1 _ (getD_memR hjL)
          have SZJ := hide (SZ.out _ (getD_memR hjL))
          have TJ : Hid (L.take (j + 1) = L.take j ++ [L.getD j Iv.zero]) := by
            show _ = _
            rw [List.take_succ_eq_append_getElem hjL]
            simp [hjL]
          subst ea
          obtain ⟨k0, k1, k2, k3⟩ := range4 hr
          have hbI : bI < wr.heap.size := block_lt_of_cell k0
          have hsz := hW1.sz
          have II := hide ii
          have A0 := hide (bt (al wr (.cells (L.getD j Iv.zero).cs 29)) (dr2 _))
          have T0 := hide (heap_alloc_new wr (.cells (L.getD j Iv.zero).cs 29))
          have K1 := hide (Clone_own (wr.alloc (.cells (L.getD j Iv.zero).cs 29)).drew _ (L.getD j Iv.zero).cK _ (ii.bk.keep A0.out) (Nat.le_trans SZJ.out.1 (by decide)))
          have K2 := hide fun (W : World) (hb : Below (wr.alloc (.cells (L.getD j Iv.zero).cs 29)).drew.heap.size (wr.alloc (.cells (L.getD j Iv.zero).cs 29)).drew W) => Clone_own W _ (L.getD j Iv.zero).cV _ ((ii.bv.keep A0.out).keep hb) (Nat.le_trans SZJ.out.2 (by decide))
          have TB := hide fun (W : World) (hb : Below (wr.alloc (.cells (L.getD j Iv.zero).cs 29)).drew.heap.size (wr.alloc (.cells (L.getD j Iv.zero).cs 29)).drew W) => (hb.block wr.heap.size (Array.getElem?_eq_some_iff.1 (show (wr.alloc _).drew.heap[wr.heap.size]? = _ from T0.out)).1).trans T0.out
          have RF := hide (Below.refl (wr.alloc (.cells (L.getD j Iv.zero).cs 29)).drew.heap.size (wr.alloc (.cells (L.getD j Iv.zero).cs 29)).drew)
          have hml : M1.length + 1 ≤ 2199023255520 := by have := L1.out; have := LNm.out; rw [HM.out] at this; omega
          clear hW1 hM1 js ii hr T0
          generalize L.getD j Iv.zero = v at *
          obtain ⟨aK, cK, key, aV, cV, val, child, size⟩ := v
          simp only [Iv.cs] at k0 k1 k2 k3 A0 K1 K2 TB RF
          have SS := hide fun (W : World) (h : W.heap[wr.heap.size]? = some (.cells #[.slice aK key.length cK, .slice aV val.length cV, .int .i64 child, .int .i64 size] 29 (0, 0))) => (show W.cell? ⟨wr.heap.size, 0, none⟩ = some (.slice aK key.length cK) ∧ W.cell? ⟨wr.heap.size, 1, none⟩ = some (.slice aV val.length cV) from ⟨(cells4 h).1, (cells4 h).2.1⟩)
          have hj0 : (0 : Int) ≤ (j : Int) := by omega
          go_wp2_with fail
          go_region_with (go_at_call 34; (first
            | (refine K1.out.mono ?_; rintro _ w5a ⟨ak, ck, rfl, o1⟩; have O1 := hide o1; obtain ⟨z0a, z1a, -, -⟩ := cells4 (TB.out _ o1.b); clear o1)
            | (refine (K2.out _ O1.out.b).mono ?_; rintro _ w6 ⟨av, cv, rfl, o2⟩; have T6 := hide (TB.out _ (bt O1.out.b o2.b)); have IO7 := hide (io_made (child := child) (size := size) A0.out (Nat.le_refl _) O1.out o2 II.out.bk.1 II.out.bv.1 T6.out (.slice ak key.length ck) (.slice av val.length cv)); have T9 := hide (heap_setCell_same _ wr.heap.size 1 _ 29 (.slice av val.length cv) (heap_setCell_same w6 wr.heap.size 0 _ 29 (.slice ak key.length ck) T6.out)); clear o2; have f60 := frz T6.out 0; have f61 := frz T6.out 1; obtain ⟨z0, z1, -, -⟩ := cells4 T6.out)))
          all_goals (try clear z0a z1a)
          all_goals (
            generalize ((w6.setCell ⟨wr.heap.size, 0, none⟩ (.slice ak key.length ck)).setCell ⟨wr.heap.size, 1, none⟩ (.slice av val.length cv)) = w7 at *
            have B7 := hide IO7.out.k.b
            clear z0 z1 f60 f61 O1 T6
            have W1' := hide (W1.out.keep B7.out)
            have x7 := W1'.out.x
            simp only [Pv.cs] at x7
            obtain ⟨y0, y1, y2, y3, y4⟩ := cells5 x7
            obtain ⟨t0, t1, t2, t3⟩ := cells4 T9.out
            have L1' := hide (show (M1.length : Nat) = M1.length from rfl)
            obtain ⟨m1, hm1⟩ : ∃ m1, M1.length = m1 := ⟨_, rfl⟩
            have HM1 : Hid (m1 = M1.length) := hm1.symm
            have JW := hide (W1'.out.p.it.keep (al w7 (.cells #[.slice ak key.length ck, .slice av val.length cv, .int .i64 child, .int .i64 size] 29)))
            have BX := hide (box_item w7 ⟨ak, ck, key, av, cv, val, child, size⟩ w7.heap.size rfl)
            have IOQ := hide IO7.out
            have WR := hide fun (W2 : World) (g c2 : Nat) (hJ : Jw W2 (some ⟨g, 0, none⟩) c2 (M1 ++ [⟨ak, ck, key, av, cv, val, child, size⟩])) (hN : New (w7.alloc (.cells #[.slice ak key.length ck, .slice av val.length cv, .int .i64 child, .int .i64 size] 29)) a1 (some ⟨g, 0, none⟩)) (hg : (w7.alloc (.cells #[.slice ak key.length ck, .slice av val.length cv, .int .i64 child, .int .i64 size] 29)).grownBy W2 (a1.map Addr.block)) => W1.out.round IOQ.out ⟨II.out.nc, II.out.ns⟩ hJ hN hg
            simp only [Iv.cs, hm1] at JW BX WR y2
            have h7s : w.heap.size < w7.heap.size := by have := W1'.out.sz; omega
            have hgbs : wr.heap.size < w7.heap.size := block_lt_of_cell t0
            rw [hm1] at hml
            clear x7 hm1 L1'
            go_wp2_with (at_builtin; refine wpList_apJ rfl _ _ rfl a1 m1 c1 M1 rfl HM1.out JW.out ⟨_, 0, none⟩ 1 ⟨ak, ck, key, av, cv, val, child, size⟩ rfl BX.out (by rw [← HM1.out]; exact hml) ?_)
            intro g2 c2 w8 hJ hN hg
            obtain ⟨hWn, hc2, hf2⟩ := WR.out _ _ _ hJ hN hg
            have WN := hide hWn
            clear hJ hN hg hWn WR
            go_wp2
            go_roundw
            case rel => exact ⟨j + 1, _, _, _, by omega, by go_num, WN.out, by rw [List.map_append, M1e.out, TJ.out]; simp [Iv.it]⟩
            case measure => simp [intOf]; omega)
        · obtain rfl : j = m := by omega
          go_wp2
          go_roundw
          case rel => exact ⟨k + 1, a1, c1, M1, by omega, by go_num, W1.out, by rw [M1e.out, TK.out, List.map_append, M0e.out, show L.take j = L from List.take_of_length_le (by rw [HM.out]; exact Nat.le_refl _)]⟩
          case measure => simp [intOf]; omega
    · obtain rfl : k = n := by omega
      obtain ⟨x0, x1, x2, x3, x4⟩ := cells5 (show wr.heap[w.heap.size]? = some (.cells #[.int .i64 kind, .int .i64 level, .slice a0 M0.length c0, .slice a4 data.length c4, .int .i64 next] 25 (0, 0)) from hW.x)
      have Y5 : Hid (wr.heap[w.heap.size + 1]? = some (.cells #[.int .i64 0, .int .i64 0, .slice none 0 0, .slice none 0 0, .int .i64 0] 25 (0, 0))) := hW.y
      have FIN := hide fun (cs : Array Value) => (show Pn w (wr.setRow (w.heap.size + 1) cs) ⟨kind, level, a0, c0, M0, a4, c4, data, next⟩ ∧ Below w.heap.size w (wr.setRow (w.heap.size + 1) cs) from ⟨W0.out.p.row (show Bx wr 25 (w.heap.size + 1) _ from W0.out.y) (by decide) (by decide) cs, ((But.ofBelow (S := fun k => k = w.heap.size + 1) W0.out.b).trans (but_setRow _ _ _) (fun _ _ e => e)).below (fun k hk e => by omega)⟩)
      clear hW hM
      go_wp2_with (first | (refine wpList_store_row rfl 25 _ _ rfl (w.heap.size + 1) _ rfl rfl 25 _ Y5.out sizePage rfl (by simp [Value.oneCell']) ?_) | fail)
      refine bodyPost_ret (v := .agg _) (results_cell_row Try.results21 _ _ (w.heap.size + 1) 25 _ (0, 0) _ rfl (setRow_heap _ _ _ _ _ _ Y5.out) Try.underlying25 rfl sizePage) rfl ?_
      refine ⟨⟨kind, level, a0, c0, M0, a4, c4, data, next⟩, rfl, (FIN.out _).1, ?_, (FIN.out _).2⟩
      have e := M0e.out
      rw [FE.out] at e
      simp only [Pv.pg, e]
end Go.Proofs.Ytoachodngjlpaaa
