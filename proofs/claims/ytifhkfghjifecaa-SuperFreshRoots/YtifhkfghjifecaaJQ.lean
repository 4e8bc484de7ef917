import Derived.Test.YtifhkfghjifecaaJNX
import Derived.Test.YtifhkfghjifecaaJK
import Derived.BigQuiet
import Derived.Deep.RegionLaw
import Derived.Shelf.Abstract
import Derived.Deep.RegionHeldLaw
namespace Go.Proofs.Ytifhkfghjifecaa
open Go.RowKit

/-! ### the document's Decode, the sum right -/
theorem rS_take {b : List Nat} {n : Nat} (hn : n ≤ 16) : rS (b.take 508) n = rS b n := by
  unfold rS rRs
  rw [nv_take (by omega), nv_take (by omega), nv_take (by omega), nv_take (by omega), nv_take (by omega)]
  congr 1
  apply List.map_congr_left
  intro j hj
  rw [List.mem_range] at hj
  unfold rR
  rw [nv_take (by omega), nv_take (by omega), nv_take (by omega), nv_take (by omega)]
theorem deE_five {b : List Nat} (hl : b.length = 512) (hs : numV (b.drop 508) = M.of (b.take 508)) (h : okD (b.take 508) = false) : deE b = 5 := by
  unfold deE
  rw [if_neg (by rw [hl]; simp), if_neg (by rw [hs]; simp), if_pos h]
theorem okD_big {b : List Nat} (h : ¬ nv b 25 1 ≤ 16) : okD (b.take 508) = false := by
  unfold okD
  rw [nv_take (by omega), decide_eq_false h]
  rfl
theorem okD_chk {b : List Nat} (h : nv b 25 1 ≤ 16) (hc : chE (rS b (nv b 25 1)) ≠ 0) : okD (b.take 508) = false := by
  unfold okD
  rw [nv_take (by omega), rS_take h, decide_eq_false hc, Bool.and_false]
  rfl
theorem okD_laid {b : List Nat} (h8 : B8 b) (hl : b.length = 512) (hs : numV (b.drop 508) = M.of (b.take 508)) (h : nv b 25 1 ≤ 16) (hc : chE (rS b (nv b 25 1)) = 0) : lay (rS b (nv b 25 1)) = b ↔ okD (b.take 508) = true := by
  have := laid_iff h8 hl hs (by rw [nv_take (by omega), rS_take h]; exact hc)
  rwa [nv_take (by omega), rS_take h] at this
theorem deS_rS {b : List Nat} (h : nv b 25 1 ≤ 16) (h0 : deE b = 0) : deS b = rS b (nv b 25 1) := by
  rw [deS_eq h0, nv_take (by omega), rS_take h]
theorem step_call {w : World} {ops : Array Oper} {o : Oper} {a : Act} {K : Act → World → Prop} {Q : Exit → Act → World → Prop} {E : Prop} (hgd : o.guard = none) (f : Nat) (xs : Array Operand) (ts : Array TypeId)
    (ho : o.op = .call { callee := .value (.func f), args := xs, argTypes := ts }) (hen : ∀ args w, (callFunc f args).run Try.prog w = .ok (.enter f args) w) (args : Array Value) (ha : xs.map a.eval = args) {Post : Ending → World → Prop} (hc : Calls Try.prog f args w Post)
    (h : ∀ e w', Post e w' → ∃ v, e = .returned v ∧ K (a.put o.dst v) w') : if Region.wanted o (yielded ops a.tmps) = true then Oper.wp Try.prog o a w K Q else E := by
  have hw : Region.wanted o (yielded ops a.tmps) = true := by simp [Region.wanted, hgd]
  rw [if_pos hw]
  have hrun : (execOp a.eval o).run Try.prog w = .ok (.enter f args) w := by
    unfold execOp
    rw [ho]
    simp [resolve, invoke, Act.eval, Deferred.ofValue, hen]
    exact ha
  unfold Oper.wp
  rw [hrun, Oper.upon_enter]
  refine hc.mono fun e w' hp => ?_
  obtain ⟨v, rfl, hk⟩ := h e w' hp
  exact hk
theorem step_apJ {w : World} {ops : Array Oper} {o : Oper} {a : Act} {K : Act → World → Prop} {Q : Exit → Act → World → Prop} {E : Prop} (hgd : o.guard = none) (s x : Operand)
    (ho : o.op = .call { callee := .builtin .append, args := #[s, x], argTypes := #[26, 26] }) (ao : Option Addr) (n cap : Nat) (L : List Ro) (hs : a.eval s = .slice ao n cap) (hn : n = L.length) (hR : Jw w ao cap L)
    (ad : Addr) (c : Nat) (v : Ro) (hx : a.eval x = .slice (some ad) 1 c) (hc : ∀ j u, v.cs.toList[j]? = some u → w.cell? (ad.add j) = some u) (hlen : L.length + 1 ≤ 4398046511000)
    (h : ∀ g cap' w', Jw w' (some ⟨g, 0, none⟩) cap' (L ++ [v]) → New w ao (some ⟨g, 0, none⟩) → w.grownBy w' (ao.map Addr.block) → K (a.put o.dst (.slice (some ⟨g, 0, none⟩) (n + 1) cap')) w') :
    if Region.wanted o (yielded ops a.tmps) = true then Oper.wp Try.prog o a w K Q else E := by
  have hw : Region.wanted o (yielded ops a.tmps) = true := by simp [Region.wanted, hgd]
  rw [if_pos hw]
  exact wp_apJ s x ho ao n cap L hs hn hR ad c v hx hc hlen h
/-- the boxes of the document's Decode -/
structure S2 (w : World) (g : Nat) (s : Su) (W : World) (a : Option Addr) (c : Nat) (L : List Ro) : Prop where
  gt : w.heap.size < g
  o : Bx W 28 w.heap.size z6
  i : Bx W 28 g (suH s (.slice a L.length c))
  r : JOwn w W a c L
theorem S2.keep {w : World} {g : Nat} {s : Su} {W W' : World} {a : Option Addr} {c : Nat} {L : List Ro} (h : S2 w g s W a c L) (hb : Below W.heap.size W W') : S2 w g s W' a c L := ⟨h.gt, h.o.keep hb, h.i.keep hb, h.r.keep hb⟩
theorem S2.step {w : World} {g0 : Nat} {s : Su} {W W1 W2 : World} {a : Option Addr} {c g c' : Nat} {L : List Ro} {t : Ro} (h : S2 w g0 s W a c L) (hb : Below W.heap.size W W1) (hR : Jw W2 (some ⟨g, 0, none⟩) c' (L ++ [t])) (hN : New W1 a (some ⟨g, 0, none⟩)) (hg : W1.grownBy W2 (a.map Addr.block)) :
    S2 w g0 s (W2.setCell ⟨g0, 5, none⟩ (.slice (some ⟨g, 0, none⟩) (L.length + 1) c')) (some ⟨g, 0, none⟩) c' (L ++ [t]) := by
  have h1 := h.keep hb
  have hB : But (fun k => a.map Addr.block = some k) W1 W2 := (But.refl _ W1).grown hg fun k hk _ => hk
  have o2 := h1.o.but hB fun e => h1.r.r.off h1.o (by decide) _ e rfl
  have i2 := h1.i.but hB fun e => h1.r.r.off h1.i (by decide) _ e rfl
  have r2 := h.r.step hb hR hN hg
  have hne := hR.off i2 (by decide) g rfl
  have hS : But (fun k => k = g0) W2 (W2.setCell ⟨g0, 5, none⟩ (.slice (some ⟨g, 0, none⟩) (L.length + 1) c')) := (But.refl (fun k => k = g0) W2).setCell (p := ⟨g0, 5, none⟩) (fun _ => rfl) _
  refine ⟨h.gt, o2.but hS (by have := h.gt; omega), ?_, ⟨hR.but hS (fun x hx => by cases hx; exact hne), r2.n, ((But.ofBelow (S := fun _ => False) r2.b).trans hS fun x hx e => by have := h.gt; omega).below fun _ _ h => h⟩⟩
  have := i2.setc 5 (.slice (some ⟨g, 0, none⟩) (L.length + 1) c')
  rw [List.length_append]
  exact this
theorem S2.grown {w : World} {g0 : Nat} {s : Su} {W W1 W2 : World} {a : Option Addr} {c : Nat} {L : List Ro} (h : S2 w g0 s W a c L) (hb : Below W.heap.size W W1) (hg : W1.grownBy W2 (a.map Addr.block)) :
    W2.cell? ⟨g0, 5, none⟩ = some (.slice a L.length c) ∧ W2.frozen? ⟨g0, 5, none⟩ = false := by
  have h1 := h.keep hb
  have hB : But (fun k => a.map Addr.block = some k) W1 W2 := (But.refl _ W1).grown hg fun k hk _ => hk
  have i2 := h1.i.but hB fun e => h1.r.r.off h1.i (by decide) _ e rfl
  exact ⟨i2.cell 5 rfl, frozen_of_row _ _ 5 _ _ i2⟩
set_option maxRecDepth 8000 in
set_option maxHeartbeats 6400000 in
theorem rD_yes (w : World) (a : Option Addr) (c : Nat) (b : List Nat) (hB : Bs w a b) (hl : b.length = 512) (hc : 512 ≤ c) (hs : numV (b.drop 508) = M.of (b.take 508)) : Calls Try.prog 7 #[.slice a 512 c] w (DeQ w b) := by
  have Q := hide (nq w a c b hB hl)
  have hne : nv b 508 4 = M.of (b.take 508) := by rw [nv_end hl]; exact hs
  have h8 := hide hB.1
  have HQD := hide (fun (h : okD (b.take 508) = false) (w' : World) (hb : Below w.heap.size w w') => deQ_err (w := w) (w' := w') (b := b) (by rw [deE_five hl hs h]; decide) hb)
  have H5 := hide (fun (h : okD (b.take 508) = false) => deE_five hl hs h)
  have OKL := hide (fun (h : nv b 25 1 ≤ 16) (h2 : chE (rS b (nv b 25 1)) = 0) => okD_laid hB.1 hl hs h h2)
  have H0 := hide (fun (h : okD (b.take 508) = true) => deE_zero.2 ⟨hl, hs, h⟩)
  have hof : M.of (b.take 508) < 4294967296 := M.of_lt (B8.take hB.1 508)
  have NS := hide fun (w1 : World) (hb : Below w.heap.size w w1) => Q.out.n4 w1 hb 508 (by omega)
  rw [hne] at NS
  have OF := hide fun (w1 : World) (hb : Below w.heap.size w w1) => Q.out.of w1 hb
  have N8 := hide Q.out.n8
  have N21 := hide fun (w1 : World) (hb : Below w.heap.size w w1) => Q.out.n4 w1 hb 21 (by omega)
  have N12 := hide fun (w1 : World) (hb : Below w.heap.size w w1) => Q.out.n4 w1 hb 12 (by omega)
  have N16 := hide fun (w1 : World) (hb : Below w.heap.size w w1) => Q.out.n1 w1 hb 16 (by omega)
  have N17 := hide fun (w1 : World) (hb : Below w.heap.size w w1) => Q.out.n4 w1 hb 17 (by omega)
  have N25 := hide fun (w1 : World) (hb : Below w.heap.size w w1) => Q.out.n1 w1 hb 25 (by omega)
  have n25 : nv b 25 1 < 256 := nv_lt hB.1 25 1
  have HX := hide (Bx.new w 28 z6)
  have HA := hide (al w (.cells z6 28))
  have h508 : (508 : Int) ≤ (c : Int) := by omega
  have hcn : (c == 508) = false := by simp; omega
  have hcn' : ¬ c = 508 := by omega
  obtain ⟨bk, off, rfl, _⟩ := hB.at (j := 0) (by omega)
  have HB := hide hB
  have HL := hide hl
  have HSS := hide hs
  clear hl hB hs hne
  generalize M.of (b.take 508) = mo at *
  have hcv : IntKind.i64.wrap (mo : Int) = (mo : Int) := by rw [IntKind.wrap_i64]; omega
  unfold z6 at *
  go_enter Try.func7, Try.ntmps7
  go_wp2
  generalize w.alloc (.cells #[.int .i64 0, .int .i64 0, .int .i64 0, .int .i64 0, .int .i64 0, .slice none 0 0] 28) = W0 at *
  go_quiet (first | (go_at_call 19; exact Calls.quiet_of_same (NS.out _ (bt HA.out (drN _ _)))) | (go_at_call 20; exact Calls.quiet_of_same (OF.out _ (bt HA.out (drN _ _)) _)))
  have HX := hide (HX.out.keep (drN W0 nq))
  have HA := hide (bt HA.out (drN W0 nq))
  clear NS OF
  go_wp2_with fail
  generalize W0.drewN nq = W0' at *
  refine (N8.out _ HA.out).mono ?_
  rintro y w6 ⟨rfl, hww⟩
  obtain rfl := hww.symm
  clear hww
  go_wp2_with fail
  refine (N21.out _ HA.out).mono ?_
  rintro y w6 ⟨rfl, hww⟩
  obtain rfl := hww.symm
  clear hww
  have HA1 := hide (bt HA.out (al W0' (.cells #[.int .i64 (i64w (nv b 4 8)), .int .i64 0, .int .i64 0, .int .i64 0, .int .i64 (nv b 21 4 : Nat), .slice none 0 0] 28)))
  have HA2 := hide (bt HA.out (al W0' (.cells (suH (rS b (nv b 25 1)) (.slice none 0 0)) 28)))
  have HS : Hid (S2 w W0'.heap.size (rS b (nv b 25 1)) (W0'.alloc (.cells (suH (rS b (nv b 25 1)) (.slice none 0 0)) 28)) none 0 []) := ⟨(Array.getElem?_eq_some_iff.1 HX.out).1, HX.out.keep (al W0' _), Bx.new W0' 28 _, JOwn.nil w HA2.out⟩
  unfold suH rS at HA2
  dsimp only at HA2
  go_wp2_with fail
  refine (N12.out _ HA1.out).mono ?_
  rintro y w6 ⟨rfl, hww⟩
  obtain rfl := hww.symm
  clear hww
  go_wp2_with fail
  refine (N16.out _ HA1.out).mono ?_
  rintro y w6 ⟨rfl, hww⟩
  obtain rfl := hww.symm
  clear hww
  go_wp2_with fail
  refine (N17.out _ HA1.out).mono ?_
  rintro y w6 ⟨rfl, hww⟩
  obtain rfl := hww.symm
  clear hww
  go_wp2_with fail
  refine (N25.out _ HA2.out).mono ?_
  rintro y w6 ⟨rfl, hww⟩
  obtain rfl := hww.symm
  clear hww
  clear N8 N21 N12 N16 N17 N25 HA1 HA2
  have hG : Hid (w.heap.size < W0'.heap.size) := HS.out.gt
  by_cases hn : nv b 25 1 ≤ 16
  · have hni : ((nv b 25 1 : Nat) : Int) ≤ 16 := by omega
    have SH : ∀ (j : Nat) (v : Value), suH (rS b j) v = suH (rS b 0) v := fun _ _ => rfl
    have HN := hide hn
    have ND := hide (fun (j : Nat) (hj : j < 16) (w1 : World) (hb : Below w.heap.size w w1) => Q.out.n4 w1 hb (26 + 13 * j) (by omega))
    have NR := hide (fun (j : Nat) (hj : j < 16) (w1 : World) (hb : Below w.heap.size w w1) => Q.out.n4 w1 hb (30 + 13 * j) (by omega))
    have NH := hide (fun (j : Nat) (hj : j < 16) (w1 : World) (hb : Below w.heap.size w w1) => Q.out.n1 w1 hb (34 + 13 * j) (by omega))
    have NN := hide (fun (j : Nat) (hj : j < 16) (w1 : World) (hb : Below w.heap.size w w1) => Q.out.n4 w1 hb (35 + 13 * j) (by omega))
    clear Q SH HX HA hcn hcn' h508 hof hcv
    generalize hU : rS b (nv b 25 1) = U at *
    have HU := hide hU
    have hU0 : (#[.int .i64 (i64w (nv b 4 8)), .int .i64 ((nv b 12 4 : Nat) : Int), .int .i64 ((nv b 16 1 : Nat) : Int), .int .i64 ((nv b 17 4 : Nat) : Int), .int .i64 ((nv b 21 4 : Nat) : Int), .slice none 0 0] : Array Value) = suH U (.slice none 0 0) := by rw [← hU]; rfl
    clear hU
    go_wp2_with fail
    try rw [hU0]
    clear hU0
    generalize hnn : nv b 25 1 = n at *
    have HNE := hide hnn
    clear hnn
    generalize W0'.alloc (.cells (suH U (.slice none 0 0)) 28) = W1 at *
    generalize W0'.heap.size = g0 at *
    have HG := hide hG.out
    go_loopw [6] (fun q wx => ∃ (j : Nat) (aj : Option Addr) (cj : Nat), j ≤ n ∧ q = .int .i64 j ∧ S2 w g0 U wx aj cj (rRs b j)) (fun q _ => n - (intOf q).toNat)
    case atStart => exact ⟨0, none, 0, Nat.zero_le _, rfl, HS.out⟩
    case round =>
      obtain ⟨j, aj, cj, hj, rfl, hH⟩ := hrel
      have H := hide hH
      clear hH HS
      have hlen := rRs_length b j
      by_cases hlt : j < n
      · have hlti : (j : Int) < (n : Int) := by omega
        have h16 : j < 16 := by have := HN.out; omega
        have SN := hide (rRs_succ b j)
        have NDj := hide (ND.out j h16)
        rw [show ((26 + 13 * j : Nat) : Int) = 26 + 13 * (j : Int) by omega] at NDj
        have NRj := hide (NR.out j h16)
        rw [show ((30 + 13 * j : Nat) : Int) = 26 + 13 * (j : Int) + 4 by omega] at NRj
        have NHj := hide (NH.out j h16)
        rw [show ((34 + 13 * j : Nat) : Int) = 26 + 13 * (j : Int) + 8 by omega] at NHj
        have NNj := hide (NN.out j h16)
        rw [show ((35 + 13 * j : Nat) : Int) = 26 + 13 * (j : Int) + 9 by omega] at NNj
        have e1 : wrap64 (13 * (j : Int)) = 13 * (j : Int) := by unfold wrap64; omega
        have e2 : wrap64 (26 + 13 * (j : Int)) = 26 + 13 * (j : Int) := by unfold wrap64; omega
        have e3 : wrap64 (26 + 13 * (j : Int) + 4) = 26 + 13 * (j : Int) + 4 := by unfold wrap64; omega
        have e4 : wrap64 (26 + 13 * (j : Int) + 8) = 26 + 13 * (j : Int) + 8 := by unfold wrap64; omega
        have e5 : wrap64 (26 + 13 * (j : Int) + 9) = 26 + 13 * (j : Int) + 9 := by unfold wrap64; omega
        unfold rR at SN
        generalize rRs b j = L at *
        go_wp2_with fail
        refine (NRj.out _ H.out.r.b).mono ?_
        rintro y w6 ⟨rfl, hww⟩
        obtain rfl := hww.symm
        clear hww
        go_wp2_with fail
        refine (NHj.out _ H.out.r.b).mono ?_
        rintro y w6 ⟨rfl, hww⟩
        obtain rfl := hww.symm
        clear hww
        go_wp2_with fail
        refine (NNj.out _ H.out.r.b).mono ?_
        rintro y w6 ⟨rfl, hww⟩
        obtain rfl := hww.symm
        clear hww
        clear NRj NHj NNj e3 e4 e5
        generalize nv b (26 + 13 * j) 4 = i1 at *
        generalize nv b (30 + 13 * j) 4 = i2 at *
        generalize nv b (34 + 13 * j) 1 = i3 at *
        generalize nv b (35 + 13 * j) 4 = i4 at *
        have c5 : wr.cell? ⟨g0, 5, none⟩ = some (.slice aj j cj) := by
          have h : wr.cell? ⟨g0, 5, none⟩ = some (.slice aj L.length cj) := H.out.i.cell 5 rfl
          rwa [hlen] at h
        have hg0 : g0 < wr.heap.size := (Array.getElem?_eq_some_iff.1 H.out.i).1
        have HB1 := hide (bt (al wr (.cells #[.int .i64 (i2 : Int), .int .i64 (i3 : Int), .int .i64 (i4 : Int)] 57)) (dr2 _))
        have HB2 := hide (bt (bt (al wr (.cells #[.int .i64 (i2 : Int), .int .i64 (i3 : Int), .int .i64 (i4 : Int)] 57)) (al _ (.cells #[.int .i64 (i1 : Int), .int .i64 (i2 : Int), .int .i64 (i3 : Int), .int .i64 (i4 : Int)] 59))) (dr2 _))
        have ND1 := hide (NDj.out _ (bt H.out.r.b HB1.out))
        have F4 : Hid (∀ k u, (⟨i1, i2, i3, i4⟩ : Ro).cs.toList[k]? = some u → (((wr.alloc (.cells #[.int .i64 (i2 : Int), .int .i64 (i3 : Int), .int .i64 (i4 : Int)] 57)).alloc (.cells #[.int .i64 (i1 : Int), .int .i64 (i2 : Int), .int .i64 (i3 : Int), .int .i64 (i4 : Int)] 59)).drew).cell? ((⟨wr.heap.size + 1, 0, none⟩ : Addr).add k) = some u) := by
          have h := fresh4 (wr.alloc (.cells #[.int .i64 (i2 : Int), .int .i64 (i3 : Int), .int .i64 (i4 : Int)] 57)) ⟨i1, i2, i3, i4⟩
          rw [size_alloc] at h
          exact h
        have J2 := hide (H.out.keep HB2.out).r.r
        go_wp2_with fail
        go_region_law (first
          | (refine step_apJ rfl _ _ rfl aj j cj L (by simp [Act.eval]) hlen.symm J2.out ⟨wr.heap.size + 1, 0, none⟩ 1 ⟨i1, i2, i3, i4⟩ (by simp [Act.eval]) F4.out (by omega) ?_
             intro g c2 w3 hR hN hg
             obtain ⟨cS, fS⟩ := H.out.grown HB2.out hg
             have H3 := hide (H.out.step HB2.out hR hN hg)
             rw [hlen] at H3 cS
             clear hR hN hg c5)
          | (refine step_call rfl 19 _ _ rfl (enters_of Try.func19 (by kernel_rfl) rfl) _ (by first | (simp [Act.eval]; done) | simp [Act.eval, Act.put]) ND1.out ?_; rintro e w6 ⟨rfl, rfl⟩; refine ⟨_, rfl, ?_⟩))
        all_goals
          clear e1 e2
          go_wp2
          clear cS fS
          go_roundw
        all_goals first
          | (simp [intOf]; omega)
          | exact ⟨j + 1, some ⟨g, 0, none⟩, c2, by omega, by go_num, by rw [SN.out]; exact H3.out⟩
      · obtain rfl : j = n := by omega
        have hRS : rRs b j = U.rs := by rw [← HU.out]; rfl
        rw [hRS] at H
        clear hRS hlen
        have CH := hide (rCheck_any wr U aj cj H.out.r.r.qs)
        have HI : Hid (Bx wr 28 g0 (suC U aj cj)) := H.out.i
        have HEQ := hide (fun (w1 : World) (hb : Below w.heap.size w w1) => HB.out.keep hb)
        have HDQ : Hid (okD (b.take 508) = true → ∀ w' : World, JOwn w w' aj cj U.rs → DeQ w b (.returned (.tuple #[suv U aj cj, .int .i64 0])) w') := fun h w' hO => by
          have h0 := H0.out h
          have hd : deS b = U := by rw [deS_rS (by rw [HNE.out]; exact HN.out) h0, HNE.out]; exact HU.out
          exact ⟨aj, cj, by rw [hd, h0]; rfl, by rw [hd]; exact hO⟩
        have HD5 : Hid (okD (b.take 508) = false → ∀ w' : World, Below w.heap.size w w' → DeQ w b (.returned (.tuple #[.agg z6, .int .i64 5])) w') := fun h w' hb => by
          have h1 := HQD.out h w' hb
          rw [H5.out h] at h1
          exact h1
        have OKC : Hid (chE U ≠ 0 → okD (b.take 508) = false) := fun h => okD_chk (by rw [HNE.out]; exact HN.out) (by rw [HNE.out, HU.out]; exact h)
        have OKE := hide (OKL.out HN.out)
        have H8 := hide (lay_b8 U)
        have L16 : Hid (U.rs.length ≤ 16) := by show _ ≤ _; rw [← HU.out]; show (rRs b j).length ≤ 16; rw [rRs_length]; exact HN.out
        clear HQD H5 OKL H0 HU HN h8 ND NR NH NN
        by_cases h0 : chE U = 0
        · have hok := chE_ok h0
          have LD := hide fun (w1 : World) (hb : Below wr.heap.size wr w1) => Laid_any w1 U aj cj (H.out.keep hb).r.r.qs hok
          have OKF := hide (OKE.out h0)
          have HLL := hide (lay_length hok.l)
          rw [h0] at CH
          clear h0 hok OKE OKC
          go_wp2_with (refine wpList_load_row rfl 28 _ rfl g0 rfl 28 _ (0, 0) _ HI.out Try.underlying28 rfl sizeSuper ?_)
          refine CH.out.mono ?_
          rintro y w1 ⟨rfl, hb⟩
          have HB1 := hide hb
          have H := hide (H.out.keep hb)
          have HI := hide (HI.out.keep hb)
          clear hb
          obtain ⟨x0, x1, x2, x3, x4, x5⟩ := su_six HI.out
          go_wp2_with fail
          refine (LD.out _ HB1.out).mono ?_
          rintro y w3 ⟨a3, c3, rfl, hO⟩
          have O3 := hide hO
          have H := hide (H.out.keep hO.b)
          have HI := hide (HI.out.keep hO.b)
          clear hO LD x0 x1 x2 x3 x4 x5
          have EB := hide (EqBytes_any w3 a3 (some ⟨bk, off, none⟩) 512 512 c3 c (lay U) b (O3.out.r.bs H8.out (by rw [HLL.out]; omega)) (HEQ.out _ H.out.r.b) HLL.out.symm HL.out.symm)
          go_wp2_with fail
          refine EB.out.mono ?_
          rintro y w4 ⟨rfl, hb⟩
          have H := hide (H.out.keep hb)
          have HI := hide (HI.out.keep hb)
          clear hb EB
          have HO := hide H.out.o
          by_cases hq : lay U = b
          · have HDX := hide (HDQ.out (OKF.out.1 hq))
            have HOR := hide H.out.r
            have hqd : decide (lay U = b) = true := decide_eq_true hq
            clear HDQ HD5 OKF
            rw [hqd]
            clear hqd hq
            unfold z6 at HO
            go_wp2_with (first
              | (refine wpList_load_row rfl 28 _ rfl g0 rfl 28 _ (0, 0) _ HI.out Try.underlying28 rfl sizeSuper ?_)
              | (refine wpList_store_row rfl 28 _ _ rfl w.heap.size _ rfl rfl 28 _ HO.out sizeSuper rfl (by simp [suC, Value.oneCell']) ?_))
            refine bodyPost_ret (v := .tuple #[.agg _, _]) (results_cell_one Try.results7 _ _ w.heap.size 28 _ (0, 0) _ rfl (setRow_heap _ _ _ _ _ _ HO.out) Try.underlying28 rfl sizeSuper) rfl ?_
            refine HDX.out _ ⟨HOR.out.r.but (but_setRow _ _ _) fun x hx e2 => HOR.out.r.off HO.out (by decide) x.block (by rw [hx]; rfl) e2, HOR.out.n, below_setRow HOR.out.b (Nat.le_refl _) _⟩
          · have hk : okD (b.take 508) = false := by
              cases h : okD (b.take 508) with
              | false => rfl
              | true => exact absurd (OKF.out.2 h) hq
            have HD := hide (HD5.out hk)
            have HBL := hide H.out.r.b
            have hqd : decide (lay U = b) = false := decide_eq_false hq
            clear HDQ HD5 OKF hk
            rw [hqd]
            clear hqd hq
            unfold z6 at HO HD
            go_wp2_with (refine wpList_store_row rfl 28 _ _ rfl w.heap.size _ rfl rfl 28 _ HO.out sizeSuper rfl (by simp [Value.oneCell']) ?_)
            refine bodyPost_ret (v := .tuple #[.agg _, _]) (results_cell_one Try.results7 _ _ w.heap.size 28 _ (0, 0) _ rfl (setRow_heap _ _ _ _ _ _ HO.out) Try.underlying28 rfl sizeSuper) rfl ?_
            exact HD.out _ (below_setRow HBL.out (Nat.le_refl _) _)
        · have HD := hide (HD5.out (OKC.out h0))
          have h0' : ((chE U : Int) == 0) = false := by simpa using h0
          have h0'' : ¬ chE U = 0 := h0
          clear HDQ HD5 OKC OKE h0
          go_wp2_with (refine wpList_load_row rfl 28 _ rfl g0 rfl 28 _ (0, 0) _ HI.out Try.underlying28 rfl sizeSuper ?_)
          refine CH.out.mono ?_
          rintro y w1 ⟨rfl, hb⟩
          have H := hide (H.out.keep hb)
          clear hb CH
          have HO := hide H.out.o
          have HBL := hide H.out.r.b
          generalize chE U = e at *
          unfold z6 at HO HD
          go_wp2_with (refine wpList_store_row rfl 28 _ _ rfl w.heap.size _ rfl rfl 28 _ HO.out sizeSuper rfl (by simp [Value.oneCell']) ?_)
          refine bodyPost_ret (v := .tuple #[.agg _, _]) (results_cell_one Try.results7 _ _ w.heap.size 28 _ (0, 0) _ rfl (setRow_heap _ _ _ _ _ _ HO.out) Try.underlying28 rfl sizeSuper) rfl ?_
          exact HD.out _ (below_setRow HBL.out (Nat.le_refl _) _)
  · have hni : (16 : Int) < ((nv b 25 1 : Nat) : Int) := by omega
    have HD := hide (HQD.out (okD_big hn))
    rw [H5.out (okD_big hn)] at HD
    have HO := hide HS.out.o
    have HBL := hide HS.out.r.b
    clear HS HQD H5 OKL H0
    unfold suH rS at HO HBL
    dsimp only at HO HBL
    unfold z6 at *
    go_wp2_with (refine wpList_store_row rfl 28 _ _ rfl w.heap.size _ rfl rfl 28 _ HO.out sizeSuper rfl (by simp [Value.oneCell']) ?_)
    refine bodyPost_ret (v := .tuple #[.agg _, _]) (results_cell_one Try.results7 _ _ w.heap.size 28 _ (0, 0) _ rfl (setRow_heap _ _ _ _ _ _ HO.out) Try.underlying28 rfl sizeSuper) rfl ?_
    exact HD.out _ (below_setRow HBL.out (Nat.le_refl _) _)
theorem rDecode_any (w : World) (a : Option Addr) (n c : Nat) (b : List Nat) (hB : Bs w a b) (hn : n = b.length) (hc : n ≤ c) : Calls Try.prog 7 #[.slice a n c] w (DeQ w b) := by
  by_cases hl : b.length = 512
  · obtain rfl : n = 512 := by omega
    by_cases hs : numV (b.drop 508) = M.of (b.take 508)
    · exact rD_yes w a c b hB hl hc hs
    · exact rD_sum w a c b hB hl hc hs
  · exact rD_len w a n c b hn hl
end Go.Proofs.Ytifhkfghjifecaa
