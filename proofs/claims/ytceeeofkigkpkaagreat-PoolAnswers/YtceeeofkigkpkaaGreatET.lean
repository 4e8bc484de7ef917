import Derived.Test.YtceeeofkigkpkaaGreatEN
import Derived.ControlIn
import Derived.OwnWalkIn
import Derived.BigFrameIn
namespace Go.Proofs.YtceeeofkigkpkaaGreat
set_option linter.unusedVariables false
open Go.RowKit Go.Shelf
attribute [local go_sem] Oper.semAt_some

/-! ### the pages of a walk -/
theorem wpListIn_apI {F : Fence} {q : Nat} {w : World} {ops : Array Oper} {rest : List Oper} {o : Oper} {a : Act} {Q : Exit → Act → World → Prop} (hgd : o.guard = none) (s x : Operand)
    (ho : o.op = .call { callee := .builtin .append, args := #[s, x], argTypes := #[22, 22] }) (ao : Option Addr) (n cap : Nat) (l : List Int) (hs : a.eval s = .slice ao n cap) (hn : n = l.length) (hR : Ig w ao cap l)
    (ad : Addr) (c : Nat) (xx : Int) (hx : a.eval x = .slice (some ad) 1 c) (hc : w.cell? ad = some (.int .i64 xx)) (hlen : l.length + 1 ≤ 17592186044416)
    (h : ∀ g cap' w', Ig w' (some ⟨g, 0, none⟩) cap' (l ++ [xx]) → New w ao (some ⟨g, 0, none⟩) → w.grownBy w' (ao.map Addr.block) → g < w'.heap.size → wpListIn F q Tryz.prog ops Q rest (a.put o.dst (.slice (some ⟨g, 0, none⟩) (n + 1) cap')) w') : wpListIn F q Tryz.prog ops Q (o :: rest) a w := by
  obtain ⟨g, cap', w', hr, h1, h2, h3, h4⟩ := run_apI w o.type ao n cap l hn hR ad c xx hc hlen
  refine wpListIn_plain hgd fun K hK' => ?_
  unfold Oper.wpIn
  refine ⟨?_, ?_⟩
  · simp [Oper.about, ho, resolve, Target.leads, Sem.run_pure]
  · rw [Oper.semAt_plain F _ _ (by rw [ho]; intro c hc'; cases hc')]
    simp [execOp, ho, resolve, invoke, builtin, hs, hx, hr, Result.andThen]
    exact hK' _ _ (h g cap' w' h1 h2 h3 h4)
theorem eqFnIn (d n : Nat) (lb : Array Value) (w : World) : (Op.equalIn (d + 1) 82 (.func (.func n) #[] lb) .nilFunc).run Tryz.prog w = .ok false w := by
  simp [Op.equalIn, run_underlying Tryz.underlying82]
theorem run_eqFn (n : Nat) (lb : Array Value) (w : World) : (binOp .eql 82 (.func (.func n) #[] lb) .nilFunc).run Tryz.prog w = .ok (.bool false) w := by
  simp only [binOp]
  simp [Op.equal, Op.maxDepth, eqFnIn 9999 n lb w]
def wl (xs : List Int) (stop : Int) : List Int := if stop < 0 then xs else xs.take stop.toNat
/-- the row that a walk fills: its variable at ob, all of it new -/
def Wz (w : World) (ob sb : Nat) (st : Int) (F : Nat → Prop) (pre : List Int) (W : World) : Prop :=
  ∃ a c, (∀ k, F k ↔ k = ob ∨ InA a k) ∧ W.heap[ob]? = some (.cells #[.slice a pre.length c] 22 (0, 0)) ∧ Ig W a c pre ∧ (∀ x, a = some x → w.heap.size ≤ x.block ∧ x.block ≠ ob) ∧ W.cell? ⟨sb, 0, none⟩ = some (.int .i64 st) ∧ (∀ x, a = some x → x.block ≠ sb) ∧ Below w.heap.size w W
theorem Wz.abid {w : World} {ob sb n : Nat} {st : Int} (h1 : w.heap.size ≤ ob) (h2 : sb < n) (h3 : w.heap.size ≤ n) : AbidF n (Wz w ob sb st) := fun F s A B hs hb => by
  obtain ⟨a, c, e1, e2, e3, e4, e5, e7, e6⟩ := hs
  refine ⟨a, c, e1, hb.same e2 (fun h => h.1 ((e1 ob).2 (.inl rfl))), e3.but hb (fun x hx h => h.1 ((e1 _).2 (.inr ⟨x, hx, rfl⟩))), e4, (hb.cell (p := ⟨sb, 0, none⟩) (block_lt_of_cell e5) (fun h => by have := h.2; have e : ({ block := sb, off := 0, spot := none } : Addr).block = sb := rfl; omega)).trans e5, e7, ?_⟩
  exact ((But.ofBelow (S := fun _ => False) e6).trans hb (fun k hk h => by have := h.2; omega)).below (fun _ _ h => h)
theorem Wz.siz {w : World} {ob sb : Nat} {st : Int} : SizF (Wz w ob sb st) := fun F s A hs k hk => by
  obtain ⟨a, c, e1, e2, e3, e4, e5, e6⟩ := hs
  rcases (e1 k).1 hk with rfl | ⟨x, hx, rfl⟩
  · exact (Array.getElem?_eq_some_iff.1 e2).1
  · exact e3.lt hx
set_option maxHeartbeats 4000000 in
set_option maxRecDepth 10000 in
theorem walked_any (w : World) (b : Nat) (P : Po) (col : Nat → Nat) (h : Pl w b P col) (z st : Int) :
    Calls Tryz.prog 25 #[.pointer (some ⟨b, 0, none⟩), .int .i64 z, .int .i64 st] w fun e w' => ∃ a c, e = .returned (.slice a (wl (P.pages z) st).length c) ∧ IOwn w w' a c (wl (P.pages z) st) := by
  refine (callsIn_wide (n := 0)).1 ?_
  refine callsIn_of_wp_marks Tryz.func25 rfl trivial ?_ rfl
  simp only [Tryz.ntmps25, List.size_toArray, List.length_cons, List.length_nil, Nat.reduceAdd, Nat.reduceSub, Array.replicate_succ, Array.replicate_zero, List.push_toArray, List.append_toArray, List.nil_append, List.cons_append]
  refine wpIn_wide.2 ?_
  by_cases h0 : st = 0
  · subst h0
    go_wp2
    refine ⟨_, results_tmp rfl _ _ _, some ⟨w.heap.size + 1, 0, none⟩, 0, rfl, ?_, fun x hx => .inr (by cases hx; exact Nat.le_succ _), bt (bt (al _ _) (al _ _)) (al _ _)⟩
    refine Ig.keep (Ig.mk (cur := #[]) ?_ (by simp [wl]) (by unfold maxLen; omega) rfl (by simp [wl, vi])) (al _ _)
    have c := World.alloc_heap_new (w.alloc (.cells #[.int .i64 0] 3)) (.cells #[] 3)
    rwa [size_alloc] at c
  · have q0 : (st == 0) = false := by simp [h0]
    have q1 : decide (st = 0) = false := by simp [h0]
    have sz : (((w.alloc (.cells #[.int .i64 st] 3)).alloc (.cells #[] 3)).alloc (.cells #[.slice (some ⟨w.heap.size + 1, 0, none⟩) 0 0] 22)).heap.size = w.heap.size + 1 + 1 + 1 := by rw [size_alloc, size_alloc, size_alloc]
    have bW : Below w.heap.size w (((w.alloc (.cells #[.int .i64 st] 3)).alloc (.cells #[] 3)).alloc (.cells #[.slice (some ⟨w.heap.size + 1, 0, none⟩) 0 0] 22)) := bt (bt (al _ _) (al _ _)) (al _ _)
    have PG := hide (Pages_any _ b P col (h.keep bW) z)
    have Z0 : Wz w (w.heap.size + 1 + 1) w.heap.size st (fun k => k = w.heap.size + 1 + 1 ∨ InA (some ⟨w.heap.size + 1, 0, none⟩) k) [] (((w.alloc (.cells #[.int .i64 st] 3)).alloc (.cells #[] 3)).alloc (.cells #[.slice (some ⟨w.heap.size + 1, 0, none⟩) 0 0] 22)) := by
      refine ⟨some ⟨w.heap.size + 1, 0, none⟩, 0, fun k => Iff.rfl, ?_, ?_, fun x hx => by cases hx; exact ⟨Nat.le_succ _, by show w.heap.size + 1 ≠ w.heap.size + 1 + 1; omega⟩, ?_, fun x hx => by cases hx; show w.heap.size + 1 ≠ w.heap.size; omega, bW⟩
      · have c := World.alloc_heap_new ((w.alloc (.cells #[.int .i64 st] 3)).alloc (.cells #[] 3)) (.cells #[.slice (some ⟨w.heap.size + 1, 0, none⟩) 0 0] 22)
        rw [size_alloc, size_alloc] at c
        exact c
      · refine Ig.keep (Ig.mk (cur := #[]) ?_ (by simp) (by unfold maxLen; omega) rfl (by simp [vi])) (al _ _)
        have c := World.alloc_heap_new (w.alloc (.cells #[.int .i64 st] 3)) (.cells #[] 3)
        rwa [size_alloc] at c
      · have c := cell_alloc_new w (.int .i64 st) 3
        have b2 : Below (w.alloc (.cells #[.int .i64 st] 3)).heap.size (w.alloc (.cells #[.int .i64 st] 3)) (((w.alloc (.cells #[.int .i64 st] 3)).alloc (.cells #[] 3)).alloc (.cells #[.slice (some ⟨w.heap.size + 1, 0, none⟩) 0 0] 22)) := bt (al _ _) (al _ _)
        exact (b2.cell (p := ⟨w.heap.size, 0, none⟩) (block_lt_of_cell c)).trans c
    have HZ0 := hide Z0
    have HPL := hide (P.pages_len h.ok z)
    have hq := run_eqFn
    clear h Z0
    go_wp2_with fail
    generalize (((w.alloc (.cells #[.int .i64 st] 3)).alloc (.cells #[] 3)).alloc (.cells #[.slice (some ⟨w.heap.size + 1, 0, none⟩) 0 0] 22)) = W0 at *
    refine PG.out.mono ?_
    rintro _ W1 ⟨gf, lb, X, rfl, hW⟩
    have HW := hide hW
    have Z1 := hide (show Wz w (w.heap.size + 1 + 1) w.heap.size st (fun k => k = w.heap.size + 1 + 1 ∨ InA (some ⟨w.heap.size + 1, 0, none⟩) k) [] W1 from Wz.abid (n := W0.heap.size) (by omega) (by omega) (by omega) _ _ _ _ HZ0.out (But.ofBelow hW.bl))
    have SZ := hide sz
    have sX := hW.nw
    have s1 := hW.bl.size
    clear hW PG HZ0
    go_wp2_with fail
    clear hq
    refine (wpIn_wide (n := 0)).1 ?_
    generalize hob : w.heap.size + 1 + 1 = ob at *
    refine wp_rangeF (gf := gf) (lb := lb) rfl HW.out.en HW.out.seq (But.refl _ _) (fun k hk => (sX k hk).2) (fun _ => rfl)
      (fun k => k = ob ∨ InA (some ⟨w.heap.size + 1, 0, none⟩) k)
      (fun k hk hx => by
        have := (sX k hx).1
        rcases hk with rfl | ⟨y, hy, rfl⟩
        · omega
        · cases hy; have this : W0.heap.size ≤ w.heap.size + 1 := this; omega)
      (fun F pre W => Wz w ob w.heap.size st F pre W ∧ (st < 0 ∨ (pre.length : Int) < st))
      (fun c F pre W => c = .exit 0 ∧ Wz w ob w.heap.size st F pre W ∧ (pre.length : Int) = st)
      (fun F s A B hs hb => ⟨Wz.abid (n := W1.heap.size) (by omega) (by omega) (by omega) _ _ _ _ hs.1 hb, hs.2⟩)
      (fun F s A hs => Wz.siz _ _ _ hs.1)
      (fun c F s A B hs hb => ⟨hs.1, Wz.abid (n := W1.heap.size) (by omega) (by omega) (by omega) _ _ _ _ hs.2.1 hb, hs.2.2⟩)
      (fun c F s A hs => Wz.siz _ _ _ hs.2.1)
      ⟨Z1.out, by simp; omega⟩ ?round ?done ?stop
    case round =>
      rintro l F pre x rest W hxs ⟨hz, hlt⟩ hsz hFs hFl hl1 hl2 hBw
      unfold enI
      gi_wp2
      refine ⟨Below.refl _ _, fun W3 h3 => ?_⟩
      have z3 : Wz w ob w.heap.size st F pre W3 := Wz.abid (n := W1.heap.size) (by omega) (by omega) (by omega) _ _ _ _ hz (h3.mono fun k _ hk => ⟨fun hf => hFl (by rw [hk] at hf; exact hf), by omega⟩)
      obtain ⟨a, c, e1, e2, e3, e4, e5, e7, e6⟩ := z3
      have lp : (pre ++ [x]).length = pre.length + 1 := by simp
      have lx : pre.length + 1 ≤ 65536 := by have := HPL.out; rw [hxs, List.length_append, List.length_cons] at this; omega
      have o3 := cell_of_one e2
      have aw := al W3 (.cells #[.int .i64 x] 3)
      have nc := cell_alloc_new W3 (.int .i64 x) 3
      have hob3 := (Array.getElem?_eq_some_iff.1 e2).1
      have hsb3 := block_lt_of_cell e5
      have hsb3 : w.heap.size < W3.heap.size := hsb3
      have FIN := hide (show ∀ (g cap' : Nat) (w5 : World), Ig w5 (some ⟨g, 0, none⟩) cap' (pre ++ [x]) → New (W3.alloc (.cells #[.int .i64 x] 3)) a (some ⟨g, 0, none⟩) → (W3.alloc (.cells #[.int .i64 x] 3)).grownBy w5 (a.map Addr.block) →
          ∃ F' : Nat → Prop, But F W3 (w5.setCell ⟨ob, 0, none⟩ (.slice (some ⟨g, 0, none⟩) (pre.length + 1) cap')) ∧ (∀ k, F' k → F k ∨ W3.heap.size ≤ k) ∧ Wz w ob w.heap.size st F' (pre ++ [x]) (w5.setCell ⟨ob, 0, none⟩ (.slice (some ⟨g, 0, none⟩) (pre.length + 1) cap')) ∧
          w5.cell? ⟨ob, 0, none⟩ = some (.slice a pre.length c) ∧ w5.frozen? ⟨ob, 0, none⟩ = false ∧ (w5.setCell ⟨ob, 0, none⟩ (.slice (some ⟨g, 0, none⟩) (pre.length + 1) cap')).cell? ⟨w.heap.size, 0, none⟩ = some (.int .i64 st) ∧ (w5.setCell ⟨ob, 0, none⟩ (.slice (some ⟨g, 0, none⟩) (pre.length + 1) cap')).cell? ⟨ob, 0, none⟩ = some (.slice (some ⟨g, 0, none⟩) (pre.length + 1) cap') from fun g cap' w5 hR hN hg => by
        have b5 : But (InA a) W3 w5 := (But.ofBelow (S := InA a) aw).trans (But.inA hg) (fun _ _ h => h)
        have o5 := b5.same e2 (fun ⟨y, hy, e⟩ => (e4 y hy).2 e)
        have gb : w.heap.size ≤ g ∧ g ≠ ob ∧ g ≠ w.heap.size ∧ (F g ∨ W3.heap.size ≤ g) := by
          rcases hN ⟨g, 0, none⟩ rfl with ⟨y, hy, e⟩ | h2
          · have e : y.block = g := e
            rw [← e]
            exact ⟨(e4 y hy).1, (e4 y hy).2, e7 y hy, .inl ((e1 _).2 (.inr ⟨y, hy, rfl⟩))⟩
          · have h2 : (W3.alloc (.cells #[.int .i64 x] 3)).heap.size ≤ g := h2
            rw [size_alloc] at h2
            exact ⟨by omega, by omega, by omega, .inr (by omega)⟩
        have b6 : But (fun k => k = ob) w5 (w5.setCell ⟨ob, 0, none⟩ (.slice (some ⟨g, 0, none⟩) (pre.length + 1) cap')) := (But.refl (fun k => k = ob) w5).setCell (p := ⟨ob, 0, none⟩) (fun _ => rfl) _
        have o6 := one_setCell (u := .slice (some ⟨g, 0, none⟩) (pre.length + 1) cap') o5
        have s5 : w5.cell? ⟨w.heap.size, 0, none⟩ = some (.int .i64 st) := (b5.cell (p := ⟨w.heap.size, 0, none⟩) hsb3 (fun ⟨y, hy, e⟩ => e7 y hy e)).trans e5
        have s6 := (b6.cell (p := ⟨w.heap.size, 0, none⟩) (block_lt_of_cell s5) (fun e => by have e : w.heap.size = ob := e; omega)).trans s5
        refine ⟨fun k => k = ob ∨ InA (some ⟨g, 0, none⟩) k, ?_, ?_, ⟨some ⟨g, 0, none⟩, cap', fun k => Iff.rfl, by rw [lp]; exact o6, hR.but b6 (fun y hy => by cases hy; exact gb.2.1), fun y hy => by cases hy; exact ⟨gb.1, gb.2.1⟩, s6, fun y hy => by cases hy; exact gb.2.2.1, ?_⟩, cell_of_one o5, free_of_one o5, s6, cell_of_one o6⟩
        · exact (b5.mono (fun k _ hk => (e1 k).2 (.inr hk))).trans b6 (fun k _ hk => (e1 k).2 (.inl hk))
        · rintro k (rfl | ⟨y, hy, rfl⟩)
          · exact .inl ((e1 _).2 (.inl rfl))
          · cases hy; exact gb.2.2.2
        · exact ((((But.ofBelow (S := fun _ => False) e6).trans b5 (fun k hk ⟨y, hy, e⟩ => by have := (e4 y hy).1; omega)).trans b6 (fun k hk e => by omega))).below (fun _ _ h => h))
      have o4 : (W3.alloc (.cells #[.int .i64 x] 3)).cell? ⟨ob, 0, none⟩ = _ := (aw.cell (p := ⟨ob, 0, none⟩) hob3).trans o3
      have G4 := hide (e3.keep aw)
      have LX := hide lx
      have LP := hide lp
      clear e1 e2 e3 e4 e5 e6 e7 h3 hz hxs hFs hBw aw HW
      obtain ⟨m, hm⟩ : ∃ m, pre.length = m := ⟨_, rfl⟩
      have HM := hide hm
      rw [hm] at FIN o3 o4 hlt LX LP
      clear hm lp lx
      gi_wp2_with (refine wpListIn_apI rfl _ _ rfl a m c pre (by simp [Act.eval]) HM.out.symm G4.out ⟨W3.heap.size, 0, none⟩ 1 x (by simp [Act.eval]) nc (by rw [HM.out]; have := LX.out; omega) ?_; intro g cap' w5 hR hN hg hgl; obtain ⟨F', f1, f2, f3, f4, f5, f6, f7⟩ := FIN.out g cap' w5 hR hN hg; have F1 := hide f1; have F2 := hide f2; have F3 := hide f3; clear f1 f2 f3 hR hN hg hgl FIN)
      · rename_i hq
        have hq : (m : Int) + 1 = st := by simpa using hq
        exact ⟨F', F1.out, F2.out, rfl, F3.out, by rw [LP.out]; omega⟩
      · rename_i hq
        have hq : ¬ (m : Int) + 1 = st := by simpa using hq
        exact ⟨F', F1.out, F2.out, F3.out, by rw [LP.out]; omega⟩
    case done =>
      rintro D F Wx hD hFD ⟨hz, hlt⟩ hBw hFs hK
      have ew : wl (P.pages z) st = P.pages z := by
        unfold wl
        split
        · rfl
        · exact List.take_of_length_le (by omega)
      have EW := hide ew
      obtain ⟨a, c, e1, e2, e3, e4, e5, e7, e6⟩ := hz
      have o3 := cell_of_one e2
      have FIN := hide (show ∀ o, IOwn w (Wx.putObj D o) a c (P.pages z) from fun o => by
        have bD : But (fun k => k = D) Wx (Wx.putObj D o) := (But.refl (fun k => k = D) Wx).putObj (fun _ => rfl) o
        exact ⟨e3.but bD (fun x hx e => hFD ((e1 D).2 (.inr ⟨x, hx, e⟩))), fun x hx => .inr (e4 x hx).1, ((But.ofBelow (S := fun _ => False) e6).trans bD (fun k hk e => by omega)).below (fun _ _ h => h)⟩)
      have HK := hide hK
      clear e1 e2 e3 e4 e5 e6 e7 hK hBw hFs HW Z1 ew
      obtain ⟨m, hm⟩ : ∃ m, (P.pages z).length = m := ⟨_, rfl⟩
      have HM := hide hm
      rw [hm] at o3
      clear hm
      go_wp2
      refine ⟨by simp, .inl ⟨_, _, rfl, run_takeDeferred HK.out, ?_⟩⟩
      rw [EW.out]
      exact ⟨_, results_tmp rfl _ _ _, a, c, by rw [HM.out]; rfl, FIN.out _⟩
    case stop =>
      rintro D c' F pre rest Wx hD hFD hxs ⟨rfl, hz, hlt⟩ hBw hFs hK
      have ew : wl (P.pages z) st = pre := by
        unfold wl
        rw [if_neg (by omega), hxs, ← hlt, Int.toNat_natCast, List.take_left']
        rfl
      have EW := hide ew
      obtain ⟨a, c, e1, e2, e3, e4, e5, e7, e6⟩ := hz
      have o3 := cell_of_one e2
      have FIN := hide (show ∀ o, IOwn w (Wx.putObj D o) a c pre from fun o => by
        have bD : But (fun k => k = D) Wx (Wx.putObj D o) := (But.refl (fun k => k = D) Wx).putObj (fun _ => rfl) o
        exact ⟨e3.but bD (fun x hx e => hFD ((e1 D).2 (.inr ⟨x, hx, e⟩))), fun x hx => .inr (e4 x hx).1, ((But.ofBelow (S := fun _ => False) e6).trans bD (fun k hk e => by omega)).below (fun _ _ h => h)⟩)
      have HK := hide hK
      clear e1 e2 e3 e4 e5 e6 e7 hK hBw hFs HW Z1 ew hlt hxs
      obtain ⟨m, hm⟩ : ∃ m, pre.length = m := ⟨_, rfl⟩
      have HM := hide hm
      rw [hm] at o3
      clear hm
      refine wpIn_wide.2 ?_
      go_wp2
      refine ⟨by simp, .inl ⟨_, _, rfl, run_takeDeferred HK.out, ?_⟩⟩
      rw [EW.out]
      exact ⟨_, results_tmp rfl _ _ _, a, c, by rw [HM.out]; rfl, FIN.out _⟩
end Go.Proofs.YtceeeofkigkpkaaGreat
