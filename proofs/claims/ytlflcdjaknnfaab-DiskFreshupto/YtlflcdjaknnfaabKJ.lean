import Derived.Test.YtlflcdjaknnfaabKI
import Derived.Deep.RegionLaw
import Derived.Shelf.Abstract
namespace Go.Proofs.Ytlflcdjaknnfaab
open Go.RowKit
open Go.ChangeMaps (setBlock)

theorem step_run {w w' : World} {ops : Array Oper} {o : Oper} {a : Act} {K : Act → World → Prop} {Q : Exit → Act → World → Prop} {E : Prop} (hgd : o.guard = none) (s x : Operand) (T : TypeId)
    (ho : o.op = .call { callee := .builtin .append, args := #[s, x], argTypes := #[T, T] }) (u v r : Value) (hs : a.eval s = u) (hx : a.eval x = v) (hr : (Builtin.append_ #[T, T] o.type #[u, v]).run Try.prog w = .ok r w')
    (h : K (a.put o.dst r) w') : if Region.wanted o (yielded ops a.tmps) = true then Oper.wp Try.prog o a w K Q else E := by
  have hw : Region.wanted o (yielded ops a.tmps) = true := by simp [Region.wanted, hgd]
  rw [if_pos hw]
  unfold Oper.wp execOp
  simp only [ho, resolve, invoke, builtin, Sem.run_bind, Sem.run_pure, Result.andThen_ok, List.map_toArray, List.map_cons, List.map_nil, hs, hx, hr]
  exact h
theorem step_call {w : World} {ops : Array Oper} {o : Oper} {a : Act} {K : Act → World → Prop} {Q : Exit → Act → World → Prop} {E : Prop} (hgd : o.guard = none) (f : Nat) (xs : Array Operand) (ts : Array TypeId)
    (ho : o.op = .call { callee := .value (.func f), args := xs, argTypes := ts }) (hen : ∀ args w, (callFunc f args).run Try.prog w = .ok (.enter f args) w) (args : Array Value) (ha : xs.map a.eval = args) {Post : Ending → World → Prop} (hc : Calls Try.prog f args w Post)
    (h : ∀ e w', Post e w' → ∃ v, e = .returned v ∧ K (a.put o.dst v) w') : if Region.wanted o (yielded ops a.tmps) = true then Oper.wp Try.prog o a w K Q else E := by
  have hw : Region.wanted o (yielded ops a.tmps) = true := by simp [Region.wanted, hgd]
  rw [if_pos hw]
  have hrun : (execOp a.eval o).run Try.prog w = .ok (.enter f args) w := by
    unfold execOp
    rw [ho]
    simp [resolve, invoke, Act.eval, Deferred.ofValue, hen]
    exact ha
  unfold Oper.wp
  rw [hrun, Oper.upon_enter]
  refine hc.mono fun e w' hp => ?_
  obtain ⟨v, rfl, hk⟩ := h e w' hp
  exact hk
theorem step_build {w w' : World} {ops : Array Oper} {o : Oper} {a : Act} {K : Act → World → Prop} {Q : Exit → Act → World → Prop} {E : Prop} (hgd : o.guard = none) (T : TypeId) (parts : Array (Nat × Operand))
    (ho : o.op = .build T parts) (vals : Array (Nat × Value)) (he : (parts.map fun (i, x) => (i, a.eval x)) = vals) (r : Value) (hr : (Instr.build T vals).run Try.prog w = .ok r w')
    (h : K (a.put o.dst r) w') : if Region.wanted o (yielded ops a.tmps) = true then Oper.wp Try.prog o a w K Q else E := by
  have hw : Region.wanted o (yielded ops a.tmps) = true := by simp [Region.wanted, hgd]
  rw [if_pos hw]
  unfold Oper.wp execOp
  simp only [ho, he, Sem.run_bind, Sem.run_pure, Result.andThen_ok, hr]
  exact h
theorem step_buildSl {w w' : World} {ops : Array Oper} {o : Oper} {a : Act} {K : Act → World → Prop} {Q : Exit → Act → World → Prop} {E : Prop} (hgd : o.guard = none) (T : TypeId) (n : Nat) (parts : Array (Nat × Operand))
    (ho : o.op = .buildSlice T n parts) (vals : Array (Nat × Value)) (he : (parts.map fun (i, x) => (i, a.eval x)) = vals) (r : Value) (hr : (Instr.buildSlice T n vals).run Try.prog w = .ok r w')
    (h : K (a.put o.dst r) w') : if Region.wanted o (yielded ops a.tmps) = true then Oper.wp Try.prog o a w K Q else E := by
  have hw : Region.wanted o (yielded ops a.tmps) = true := by simp [Region.wanted, hgd]
  rw [if_pos hw]
  unfold Oper.wp execOp
  simp only [ho, he, Sem.run_bind, Sem.run_pure, Result.andThen_ok, hr]
  exact h
section
variable {F : Nat → Prop} {w : World} {p bl bn : Nat} {ua : Option Addr} {uc : Nat} {S : Sd}
theorem DkAt.ext0 (h : DkAt F w p bl bn ua uc S) {v : World} (hs : v.heap.size ≤ w.heap.size) (hv : ∀ k, F k → k < v.heap.size) : DkAt (ext F v w) w p bl bn ua uc S := h.mono (fun _ h => .inl h) (ext_lt hv hs)
set_option linter.unusedSimpArgs false in
set_option maxHeartbeats 2000000 in
theorem write_done (h : DkAt F w p bl bn ua uc S) (j : Nat) (hj : j < S.n) (a : Option Addr) (c : Nat) (b : List Nat) (hB : Bs w a b) (hk : Blk b) (hA : ∀ x, a = some x → ¬ F x.block) (hU : S.uns.length + 1 ≤ 268435456) (hW : S.wr + 1 ≤ 4611686018427387904) (hp : S.pow = true) (ha : S.acts = true) :
    Calls Try.prog 9 #[.pointer (some ⟨p, 0, none⟩), .int .i64 (j : Int), .slice a 512 c] w fun e w' => e = .returned (.int .i64 0) ∧ ∃ ua' uc', DkAt (ext F w w') w' p bl bn ua' uc' (S.act.wrote j b) ∧ But F w w' := by
  have c4 : w.cell? ⟨p, 4, none⟩ = some (.bool true) := by rw [← hp]; exact h.cell 4
  have hhas : S.has (j : Int) = true := Sd.has_iff.2 ⟨by omega, by omega⟩
  have H1 := hide (has_any (h.cell 0) (j : Int))
  rw [hhas] at H1
  have H2 := hide (act_any h)
  rw [ha] at H2
  have hbd := fun w => build_wr w j b hk
  have hbs := fun w => buildSl_wr w (j, b) hk
  have HD := hide h
  have HL0 := hide h.lt
  have HB := hide hB
  have hlen : S.act.uns.length = S.uns.length := by rw [Sd.act_uns]
  have HL := hide (show S.act.uns.length + 1 ≤ 268435456 ∧ S.act.wr + 1 ≤ 4611686018427387904 ∧ j < S.act.n from ⟨by rw [Sd.act_uns]; exact hU, by rw [Sd.act_wr]; exact hW, by rw [Sd.act_n]; exact hj⟩)
  generalize hS1 : S.act = S1 at *
  clear h hhas hp ha hB hlen hS1 hU hW
  go_enter Try.func9, Try.ntmps9
  go_wp2_with (first | (go_at_call 39; refine H1.out.mono ?_; rintro e w1 ⟨rfl, e1⟩; have e1 := e1.symm; subst e1) | (go_at_call 40; refine H2.out.mono ?_; rintro e w1 ⟨rfl, h1⟩; have HD1 := hide h1; clear h1))
  have hD := HD1.out.1.keep (drw w1)
  obtain ⟨f, hf, hN⟩ := hD.n
  obtain ⟨w2, hrun, hm, hbut, hsz⟩ := hf.store (P := Try.prog) (T := 67) (K := 3) (E := 3) Try.underlying67 Try.underlying3 (j : Int) (.int .i64 (S1.uns.length : Int))
  have k2 : w2.heap[p]? = some (.cells (dc S1 bl bn ua uc).toArray 69 (0, 0)) := (hbut.block p (hD.lt _ hD.fp) hD.np.2).trans hD.blk
  have G1 := hide (show w1.drew.cell? ⟨p, 3, none⟩ = some (.map (some bn)) ∧ w1.drew.cell? ⟨p, 2, none⟩ = some (.slice ua S1.uns.length uc) from ⟨hD.cell 3, hD.cell 2⟩)
  have G2 := hide (show w2.cell? ⟨p, 3, none⟩ = some (.map (some bn)) ∧ w2.cell? ⟨p, 2, none⟩ = some (.slice ua S1.uns.length uc) from ⟨by rw [cell_of_row _ _ _ _ _ _ k2]; rfl, by rw [cell_of_row _ _ _ _ _ _ k2]; rfl⟩)
  have HB2 : Hid (Bs w2.drew a b) := ((HB.out.but HD1.out.2 (fun x hx _ => hA x hx)).keep (drw w1)).but hbut (fun x hx _ e => hA x hx (e ▸ HD1.out.1.fn)) |>.keep (drw w2)
  have HU : Hid (w2.drew.ownsRow 0 75 513 (.slice ua S1.uns.length uc) S1.uns.length (vU S1.uns)) := own_but hD.u (hbut.drew) (own_nmap hD.u hf)
  have HM := hide hm
  have HN := hide hN
  have HBut := hide (show But (· = bn) w1 w2 from (But.ofBelow (drw w1)).trans hbut (fun _ _ h => h))
  have hlt2 : p < w2.heap.size := (Array.getElem?_eq_some_iff.1 k2).1
  clear hD hf hN hm hbut hsz k2 H1 H2 HB c4
  go_region_held3 (fun V => V.cell? ⟨p, 3, none⟩ = some (.map (some bn)) ∧ V.cell? ⟨p, 2, none⟩ = some (.slice ua S1.uns.length uc))
    (first | exact G1.out | exact G2.out)
    (first | fail)
  clear hrun
  have C1 := hide fun (V : World) (hb : Below w2.drew.heap.size w2.drew V) => blockOf_any V a 512 c b (HB2.out.keep hb) hk.1.symm (by rw [hk.1]; exact Nat.le_refl _)
  have ht : b.take 512 = b := List.take_of_length_le (by rw [hk.1]; exact Nat.le_refl _)
  rw [ht] at C1
  have HPST : Hid (∀ w3, Below w2.drew.heap.size w2.drew w3 → ∃ g cp w5, (Builtin.append_ #[66, 66] 66 #[.slice ua S1.uns.length uc, .slice (some ⟨w3.heap.size, 0, none⟩) 1 1]).run Try.prog (w3.alloc (.cells (wc (j, b)).toArray 75)) = .ok (.slice (some ⟨g, 0, none⟩) (S1.uns.length + 1) cp) w5 ∧
      w5.cell? ⟨p, 2, none⟩ = some (.slice ua S1.uns.length uc) ∧ w5.frozen? ⟨p, 2, none⟩ = false ∧ w5.cell? ⟨p, 6, none⟩ = some (.int .i64 (S1.wr : Int)) ∧ w5.frozen? ⟨p, 6, none⟩ = false ∧
      Hid (∀ W, W = (w5.setCell ⟨p, 2, none⟩ (.slice (some ⟨g, 0, none⟩) (S1.uns.length + 1) cp)).setCell ⟨p, 6, none⟩ (.int .i64 ((S1.wr : Int) + 1)) → DkAt (ext F w1 W) W p bl bn (some ⟨g, 0, none⟩) cp (S1.wrote j b) ∧ But F w1 W)) := by
    intro w3 hb3
    obtain ⟨l1, l2, l3⟩ := HL.out
    have hb4 : Below w2.drew.heap.size w2.drew (w3.alloc (.cells (wc (j, b)).toArray 75)) := bt hb3 (al _ _)
    obtain ⟨g, cp, w5, r1, r2, r3, r4, r5⟩ := run_apW (w3.alloc (.cells (wc (j, b)).toArray 75)) ua S1.uns.length uc S1.uns rfl (own_but HU.out (T := fun _ => False) (But.ofBelow hb4) (fun _ _ h => h)) ⟨w3.heap.size, 0, none⟩ 1 (j, b) hk (by
      intro m v hv
      rw [Addr.add_mid, cell_of_row _ _ _ _ _ _ (heap_alloc_last w3 _)]
      simpa using hv) l1 66
    obtain ⟨q1, q2⟩ := HD1.out.1.wrote HN.out HM.out HBut.out (bt (drw w2) hb4) r3 r2 r4 r5 l3 hk l2 l1
    exact ⟨g, cp, w5, r1, by rw [cell_of_row _ _ _ _ _ _ q1]; rfl, frozen_of_row _ _ _ _ _ q1, by rw [cell_of_row _ _ _ _ _ _ q1]; rfl, frozen_of_row _ _ _ _ _ q1, q2⟩
  have s0 : w2.drew.cell? ⟨p, 2, none⟩ = some (.slice ua S1.uns.length uc) := G2.out.2
  have hwr := w64 (j := S1.wr) (by have := HL.out.2.1; omega)
  have HX := hide HD1.out.2
  clear G1 HM HN HBut HU HB2 HL HD1 HD ht
  go_wp2_with fail
  refine wp_region_any (by kernel_rfl) ?_
  try (change wpAny _ _ _ _ _ _ _ (World.drew _))
  refine wpAny_take (i := 0) (v := ?v1) rfl (by kernel_rfl) (by kernel_rfl) (by kernel_rfl) (fun _ _ _ h => h) (Or.inl ⟨by rfl, ?hy1⟩) ?rest1
  case hy1 => (intro w; go_simp <;> with_reducible rfl)
  try simp only [Act.put, List.getElem_toArray, List.getElem_cons_zero, List.getElem_cons_succ, List.setIfInBounds_toArray, List.set_cons_zero, List.set_cons_succ]
  refine wpAny_take (i := 1) (v := ?v2) rfl (by kernel_rfl) (by kernel_rfl) (by kernel_rfl) (fun _ _ _ h => h) (Or.inl ⟨by rfl, ?hy2⟩) ?rest2
  case hy2 => (intro w; go_simp <;> with_reducible rfl)
  try simp only [Act.put, List.getElem_toArray, List.getElem_cons_zero, List.getElem_cons_succ, List.setIfInBounds_toArray, List.set_cons_zero, List.set_cons_succ]
  refine wpAny_take (i := 2) (v := ?v3) rfl (by kernel_rfl) (by kernel_rfl) (by kernel_rfl) (fun _ _ _ h => h) (Or.inl ⟨by rfl, ?hy3⟩) ?rest3
  case hy3 => (intro w; go_simp <;> with_reducible rfl)
  try simp only [Act.put, List.getElem_toArray, List.getElem_cons_zero, List.getElem_cons_succ, List.setIfInBounds_toArray, List.set_cons_zero, List.set_cons_succ]
  refine wpAny_take (i := 3) (v := ?v4) rfl (by kernel_rfl) (by kernel_rfl) (by kernel_rfl) (fun _ _ _ h => h) (Or.inl ⟨by rfl, ?hy4⟩) ?rest4
  case hy4 => (intro w; go_simp <;> with_reducible rfl)
  try simp only [Act.put, List.getElem_toArray, List.getElem_cons_zero, List.getElem_cons_succ, List.setIfInBounds_toArray, List.set_cons_zero, List.set_cons_succ]
  refine wpAny_take (i := 5) (v := ?v5) rfl (by kernel_rfl) (by kernel_rfl) (by kernel_rfl) (fun _ _ _ h => h) (Or.inl ⟨by rfl, ?hy5⟩) ?rest5
  case hy5 => (intro w; go_simp <;> with_reducible rfl)
  try simp only [Act.put, List.getElem_toArray, List.getElem_cons_zero, List.getElem_cons_succ, List.setIfInBounds_toArray, List.set_cons_zero, List.set_cons_succ]
  refine wpAny_take (i := 6) (v := ?v6) rfl (by kernel_rfl) (by kernel_rfl) (by kernel_rfl) (fun _ _ _ h => h) (Or.inl ⟨by rfl, ?hy6⟩) ?rest6
  case hy6 => (intro w; go_simp <;> with_reducible rfl)
  try simp only [Act.put, List.getElem_toArray, List.getElem_cons_zero, List.getElem_cons_succ, List.setIfInBounds_toArray, List.set_cons_zero, List.set_cons_succ]
  refine wpAny_ready (rs := [4, 7]) (by kernel_rfl) (by simp) ?_
  refine AllReady.cons rfl (fun K hK => ?_) (AllReady.cons rfl (fun K hK => ?_) AllReady.nil)
  · go_simp
    refine hK _ _ ?_
    clear hK K
    try simp only [Act.put, List.getElem_toArray, List.getElem_cons_zero, List.getElem_cons_succ, List.setIfInBounds_toArray, List.set_cons_zero, List.set_cons_succ]
    refine wpAny_ready (rs := [7]) (by kernel_rfl) (by simp) ?_
    refine AllReady.cons rfl (fun K hK => ?_) AllReady.nil
    refine step_call rfl 41 _ _ rfl (enters_of Try.func41 (by kernel_rfl) rfl) _ (by first | (simp [Act.eval]; done) | simp [Act.eval, Act.put]) (C1.out _ (Below.refl _ _)) ?_
    rintro e w3 ⟨rfl, hb3⟩
    refine ⟨_, rfl, ?_⟩
    have s3 := (hb3.cell (p := ⟨p, 2, none⟩) hlt2).trans s0
    have s4 := ((al w3 (.cells (wc (j, b)).toArray 75)).cell (p := ⟨p, 2, none⟩) (block_lt_of_cell s3)).trans s3
    obtain ⟨g, cp, w5, hrun, x1, x2, x3, x4, x5⟩ := HPST.out w3 hb3
    clear hb3
    refine hK _ _ ?_
    clear hK K
    try simp only [Act.put, List.getElem_toArray, List.getElem_cons_zero, List.getElem_cons_succ, List.setIfInBounds_toArray, List.set_cons_zero, List.set_cons_succ]
    refine wpAny_ready (rs := [8]) (by kernel_rfl) (by simp) ?_
    refine AllReady.cons rfl (fun K hK => ?_) AllReady.nil
    refine step_build rfl 75 _ rfl #[(0, .int .i64 (j : Int)), (1, .agg (vb b).toArray)] (by simp [Act.eval]) _ (hbd _) ?_
    refine hK _ _ ?_
    clear hK K
    try simp only [Act.put, List.getElem_toArray, List.getElem_cons_zero, List.getElem_cons_succ, List.setIfInBounds_toArray, List.set_cons_zero, List.set_cons_succ]
    refine wpAny_ready (rs := [9]) (by kernel_rfl) (by simp) ?_
    refine AllReady.cons rfl (fun K hK => ?_) AllReady.nil
    refine step_buildSl rfl 66 1 _ rfl #[(0, .agg (wc (j, b)).toArray)] (by simp [Act.eval]) _ (hbs _) ?_
    refine hK _ _ ?_
    clear hK K
    try simp only [Act.put, List.getElem_toArray, List.getElem_cons_zero, List.getElem_cons_succ, List.setIfInBounds_toArray, List.set_cons_zero, List.set_cons_succ]
    refine wpAny_ready (rs := [10]) (by kernel_rfl) (by simp) ?_
    refine AllReady.cons rfl (fun K hK => ?_) AllReady.nil
    refine step_run rfl _ _ 66 rfl _ _ _ (by simp [Act.eval]) (by simp [Act.eval]) hrun ?_
    refine hK _ _ ?_
    clear hK K
    try simp only [Act.put, List.getElem_toArray, List.getElem_cons_zero, List.getElem_cons_succ, List.setIfInBounds_toArray, List.set_cons_zero, List.set_cons_succ]
    refine wpAny_take (i := 11) (v := ?v7) rfl (by kernel_rfl) (by kernel_rfl) (by kernel_rfl) (fun _ _ _ h => h) (Or.inl ⟨by rfl, ?hy7⟩) ?rest7
    case hy7 => (intro w; go_simp <;> with_reducible rfl)
    try simp only [Act.put, List.getElem_toArray, List.getElem_cons_zero, List.getElem_cons_succ, List.setIfInBounds_toArray, List.set_cons_zero, List.set_cons_succ]
    refine wpAny_take (i := 12) (v := ?v8) rfl (by kernel_rfl) (by kernel_rfl) (by kernel_rfl) (fun _ _ _ h => h) (Or.inl ⟨by rfl, ?hy8⟩) ?rest8
    case hy8 => (intro w; go_simp <;> with_reducible rfl)
    try simp only [Act.put, List.getElem_toArray, List.getElem_cons_zero, List.getElem_cons_succ, List.setIfInBounds_toArray, List.set_cons_zero, List.set_cons_succ]
    refine wpAny_ready (rs := [13]) (by kernel_rfl) (by simp) ?_
    refine AllReady.cons rfl (fun K hK => ?_) AllReady.nil
    go_simp
    refine hK _ _ ?_
    clear hK K
    try simp only [Act.put, List.getElem_toArray, List.getElem_cons_zero, List.getElem_cons_succ, List.setIfInBounds_toArray, List.set_cons_zero, List.set_cons_succ]
    refine wpAny_done (by kernel_rfl) ?_ _
    go_wp2
    go_ret
    have q := x5.out _ rfl
    exact ⟨rfl, _, _, q.1.mono (fun k hk => hk.elim .inl fun h => .inr ⟨Nat.le_trans HX.out.size h.1, h.2⟩) (ext_lt HL0.out (Nat.le_trans HX.out.size q.2.size)), HX.out.trans q.2 (fun _ _ h => h)⟩
  · refine step_call rfl 41 _ _ rfl (enters_of Try.func41 (by kernel_rfl) rfl) _ (by first | (simp [Act.eval]; done) | simp [Act.eval, Act.put]) (C1.out _ (Below.refl _ _)) ?_
    rintro e w3 ⟨rfl, hb3⟩
    refine ⟨_, rfl, ?_⟩
    have s3 := (hb3.cell (p := ⟨p, 2, none⟩) hlt2).trans s0
    have s4 := ((al w3 (.cells (wc (j, b)).toArray 75)).cell (p := ⟨p, 2, none⟩) (block_lt_of_cell s3)).trans s3
    obtain ⟨g, cp, w5, hrun, x1, x2, x3, x4, x5⟩ := HPST.out w3 hb3
    clear hb3
    refine hK _ _ ?_
    clear hK K
    try simp only [Act.put, List.getElem_toArray, List.getElem_cons_zero, List.getElem_cons_succ, List.setIfInBounds_toArray, List.set_cons_zero, List.set_cons_succ]
    refine wpAny_ready (rs := [4, 8]) (by kernel_rfl) (by simp) ?_
    refine AllReady.cons rfl (fun K hK => ?_) (AllReady.cons rfl (fun K hK => ?_) AllReady.nil)
    · go_simp
      refine hK _ _ ?_
      clear hK K
      try simp only [Act.put, List.getElem_toArray, List.getElem_cons_zero, List.getElem_cons_succ, List.setIfInBounds_toArray, List.set_cons_zero, List.set_cons_succ]
      refine wpAny_ready (rs := [8]) (by kernel_rfl) (by simp) ?_
      refine AllReady.cons rfl (fun K hK => ?_) AllReady.nil
      refine step_build rfl 75 _ rfl #[(0, .int .i64 (j : Int)), (1, .agg (vb b).toArray)] (by simp [Act.eval]) _ (hbd _) ?_
      refine hK _ _ ?_
      clear hK K
      try simp only [Act.put, List.getElem_toArray, List.getElem_cons_zero, List.getElem_cons_succ, List.setIfInBounds_toArray, List.set_cons_zero, List.set_cons_succ]
      refine wpAny_ready (rs := [9]) (by kernel_rfl) (by simp) ?_
      refine AllReady.cons rfl (fun K hK => ?_) AllReady.nil
      refine step_buildSl rfl 66 1 _ rfl #[(0, .agg (wc (j, b)).toArray)] (by simp [Act.eval]) _ (hbs _) ?_
      refine hK _ _ ?_
      clear hK K
      try simp only [Act.put, List.getElem_toArray, List.getElem_cons_zero, List.getElem_cons_succ, List.setIfInBounds_toArray, List.set_cons_zero, List.set_cons_succ]
      refine wpAny_ready (rs := [10]) (by kernel_rfl) (by simp) ?_
      refine AllReady.cons rfl (fun K hK => ?_) AllReady.nil
      refine step_run rfl _ _ 66 rfl _ _ _ (by simp [Act.eval]) (by simp [Act.eval]) hrun ?_
      refine hK _ _ ?_
      clear hK K
      try simp only [Act.put, List.getElem_toArray, List.getElem_cons_zero, List.getElem_cons_succ, List.setIfInBounds_toArray, List.set_cons_zero, List.set_cons_succ]
      refine wpAny_take (i := 11) (v := ?v9) rfl (by kernel_rfl) (by kernel_rfl) (by kernel_rfl) (fun _ _ _ h => h) (Or.inl ⟨by rfl, ?hy9⟩) ?rest9
      case hy9 => (intro w; go_simp <;> with_reducible rfl)
      try simp only [Act.put, List.getElem_toArray, List.getElem_cons_zero, List.getElem_cons_succ, List.setIfInBounds_toArray, List.set_cons_zero, List.set_cons_succ]
      refine wpAny_take (i := 12) (v := ?v10) rfl (by kernel_rfl) (by kernel_rfl) (by kernel_rfl) (fun _ _ _ h => h) (Or.inl ⟨by rfl, ?hy10⟩) ?rest10
      case hy10 => (intro w; go_simp <;> with_reducible rfl)
      try simp only [Act.put, List.getElem_toArray, List.getElem_cons_zero, List.getElem_cons_succ, List.setIfInBounds_toArray, List.set_cons_zero, List.set_cons_succ]
      refine wpAny_ready (rs := [13]) (by kernel_rfl) (by simp) ?_
      refine AllReady.cons rfl (fun K hK => ?_) AllReady.nil
      go_simp
      refine hK _ _ ?_
      clear hK K
      try simp only [Act.put, List.getElem_toArray, List.getElem_cons_zero, List.getElem_cons_succ, List.setIfInBounds_toArray, List.set_cons_zero, List.set_cons_succ]
      refine wpAny_done (by kernel_rfl) ?_ _
      go_wp2
      go_ret
      have q := x5.out _ rfl
      exact ⟨rfl, _, _, q.1.mono (fun k hk => hk.elim .inl fun h => .inr ⟨Nat.le_trans HX.out.size h.1, h.2⟩) (ext_lt HL0.out (Nat.le_trans HX.out.size q.2.size)), HX.out.trans q.2 (fun _ _ h => h)⟩
    · refine step_build rfl 75 _ rfl #[(0, .int .i64 (j : Int)), (1, .agg (vb b).toArray)] (by simp [Act.eval]) _ (hbd _) ?_
      refine hK _ _ ?_
      clear hK K
      try simp only [Act.put, List.getElem_toArray, List.getElem_cons_zero, List.getElem_cons_succ, List.setIfInBounds_toArray, List.set_cons_zero, List.set_cons_succ]
      refine wpAny_ready (rs := [4, 9]) (by kernel_rfl) (by simp) ?_
      refine AllReady.cons rfl (fun K hK => ?_) (AllReady.cons rfl (fun K hK => ?_) AllReady.nil)
      · go_simp
        refine hK _ _ ?_
        clear hK K
        try simp only [Act.put, List.getElem_toArray, List.getElem_cons_zero, List.getElem_cons_succ, List.setIfInBounds_toArray, List.set_cons_zero, List.set_cons_succ]
        refine wpAny_ready (rs := [9]) (by kernel_rfl) (by simp) ?_
        refine AllReady.cons rfl (fun K hK => ?_) AllReady.nil
        refine step_buildSl rfl 66 1 _ rfl #[(0, .agg (wc (j, b)).toArray)] (by simp [Act.eval]) _ (hbs _) ?_
        refine hK _ _ ?_
        clear hK K
        try simp only [Act.put, List.getElem_toArray, List.getElem_cons_zero, List.getElem_cons_succ, List.setIfInBounds_toArray, List.set_cons_zero, List.set_cons_succ]
        refine wpAny_ready (rs := [10]) (by kernel_rfl) (by simp) ?_
        refine AllReady.cons rfl (fun K hK => ?_) AllReady.nil
        refine step_run rfl _ _ 66 rfl _ _ _ (by simp [Act.eval]) (by simp [Act.eval]) hrun ?_
        refine hK _ _ ?_
        clear hK K
        try simp only [Act.put, List.getElem_toArray, List.getElem_cons_zero, List.getElem_cons_succ, List.setIfInBounds_toArray, List.set_cons_zero, List.set_cons_succ]
        refine wpAny_take (i := 11) (v := ?v11) rfl (by kernel_rfl) (by kernel_rfl) (by kernel_rfl) (fun _ _ _ h => h) (Or.inl ⟨by rfl, ?hy11⟩) ?rest11
        case hy11 => (intro w; go_simp <;> with_reducible rfl)
        try simp only [Act.put, List.getElem_toArray, List.getElem_cons_zero, List.getElem_cons_succ, List.setIfInBounds_toArray, List.set_cons_zero, List.set_cons_succ]
        refine wpAny_take (i := 12) (v := ?v12) rfl (by kernel_rfl) (by kernel_rfl) (by kernel_rfl) (fun _ _ _ h => h) (Or.inl ⟨by rfl, ?hy12⟩) ?rest12
        case hy12 => (intro w; go_simp <;> with_reducible rfl)
        try simp only [Act.put, List.getElem_toArray, List.getElem_cons_zero, List.getElem_cons_succ, List.setIfInBounds_toArray, List.set_cons_zero, List.set_cons_succ]
        refine wpAny_ready (rs := [13]) (by kernel_rfl) (by simp) ?_
        refine AllReady.cons rfl (fun K hK => ?_) AllReady.nil
        go_simp
        refine hK _ _ ?_
        clear hK K
        try simp only [Act.put, List.getElem_toArray, List.getElem_cons_zero, List.getElem_cons_succ, List.setIfInBounds_toArray, List.set_cons_zero, List.set_cons_succ]
        refine wpAny_done (by kernel_rfl) ?_ _
        go_wp2
        go_ret
        have q := x5.out _ rfl
        exact ⟨rfl, _, _, q.1.mono (fun k hk => hk.elim .inl fun h => .inr ⟨Nat.le_trans HX.out.size h.1, h.2⟩) (ext_lt HL0.out (Nat.le_trans HX.out.size q.2.size)), HX.out.trans q.2 (fun _ _ h => h)⟩
      · refine step_buildSl rfl 66 1 _ rfl #[(0, .agg (wc (j, b)).toArray)] (by simp [Act.eval]) _ (hbs _) ?_
        refine hK _ _ ?_
        clear hK K
        try simp only [Act.put, List.getElem_toArray, List.getElem_cons_zero, List.getElem_cons_succ, List.setIfInBounds_toArray, List.set_cons_zero, List.set_cons_succ]
        refine wpAny_ready (rs := [4]) (by kernel_rfl) (by simp) ?_
        refine AllReady.cons rfl (fun K hK => ?_) AllReady.nil
        go_simp
        refine hK _ _ ?_
        clear hK K
        try simp only [Act.put, List.getElem_toArray, List.getElem_cons_zero, List.getElem_cons_succ, List.setIfInBounds_toArray, List.set_cons_zero, List.set_cons_succ]
        refine wpAny_ready (rs := [10]) (by kernel_rfl) (by simp) ?_
        refine AllReady.cons rfl (fun K hK => ?_) AllReady.nil
        refine step_run rfl _ _ 66 rfl _ _ _ (by simp [Act.eval]) (by simp [Act.eval]) hrun ?_
        refine hK _ _ ?_
        clear hK K
        try simp only [Act.put, List.getElem_toArray, List.getElem_cons_zero, List.getElem_cons_succ, List.setIfInBounds_toArray, List.set_cons_zero, List.set_cons_succ]
        refine wpAny_take (i := 11) (v := ?v13) rfl (by kernel_rfl) (by kernel_rfl) (by kernel_rfl) (fun _ _ _ h => h) (Or.inl ⟨by rfl, ?hy13⟩) ?rest13
        case hy13 => (intro w; go_simp <;> with_reducible rfl)
        try simp only [Act.put, List.getElem_toArray, List.getElem_cons_zero, List.getElem_cons_succ, List.setIfInBounds_toArray, List.set_cons_zero, List.set_cons_succ]
        refine wpAny_take (i := 12) (v := ?v14) rfl (by kernel_rfl) (by kernel_rfl) (by kernel_rfl) (fun _ _ _ h => h) (Or.inl ⟨by rfl, ?hy14⟩) ?rest14
        case hy14 => (intro w; go_simp <;> with_reducible rfl)
        try simp only [Act.put, List.getElem_toArray, List.getElem_cons_zero, List.getElem_cons_succ, List.setIfInBounds_toArray, List.set_cons_zero, List.set_cons_succ]
        refine wpAny_ready (rs := [13]) (by kernel_rfl) (by simp) ?_
        refine AllReady.cons rfl (fun K hK => ?_) AllReady.nil
        go_simp
        refine hK _ _ ?_
        clear hK K
        try simp only [Act.put, List.getElem_toArray, List.getElem_cons_zero, List.getElem_cons_succ, List.setIfInBounds_toArray, List.set_cons_zero, List.set_cons_succ]
        refine wpAny_done (by kernel_rfl) ?_ _
        go_wp2
        go_ret
        have q := x5.out _ rfl
        exact ⟨rfl, _, _, q.1.mono (fun k hk => hk.elim .inl fun h => .inr ⟨Nat.le_trans HX.out.size h.1, h.2⟩) (ext_lt HL0.out (Nat.le_trans HX.out.size q.2.size)), HX.out.trans q.2 (fun _ _ h => h)⟩
set_option maxHeartbeats 2000000 in
theorem dWrite_any (h : DkAt F w p bl bn ua uc S) (i : Int) (a : Option Addr) (n c : Nat) (b : List Nat) (hB : Bs w a b) (hn : n = b.length) (hA : ∀ x, a = some x → ¬ F x.block) (hU : S.uns.length + 1 ≤ 268435456) (hW : S.wr + 1 ≤ 4611686018427387904) :
    Calls Try.prog 9 #[.pointer (some ⟨p, 0, none⟩), .int .i64 i, .slice a n c] w fun e w' => e = .returned (.int .i64 (S.writeE i b : Int)) ∧ ∃ ua' uc', DkAt (ext F w w') w' p bl bn ua' uc' (S.write i b) ∧ But F w w' := by
  have c4 : w.cell? ⟨p, 4, none⟩ = some (.bool S.pow) := h.cell 4
  have H1 := hide (has_any (h.cell 0) i)
  have HD := hide h
  have HE := hide (show ∃ ua' uc', DkAt (ext F w w) w p bl bn ua' uc' S ∧ But F w w from ⟨_, _, h.ext0 (Nat.le_refl _) h.lt, But.refl _ _⟩)
  cases hp : S.pow with
  | false =>
    have e1 : S.writeE i b = 17 := by unfold Sd.writeE; rw [if_pos hp]
    have e2 : S.write i b = S := by unfold Sd.write; rw [if_pos hp]
    rw [e1, e2]
    rw [hp] at c4
    clear h H1 hB hn hA hU hW e1 e2 hp
    go_enter Try.func9, Try.ntmps9
    go_wp2
    go_ret
    exact ⟨rfl, HE.out⟩
  | true =>
    rw [hp] at c4
    cases hh : S.has i with
    | false =>
      have e1 : S.writeE i b = 16 := by unfold Sd.writeE; rw [if_neg (by rw [hp]; decide), if_pos hh]
      have e2 : S.write i b = S := by unfold Sd.write; rw [if_neg (by rw [hp]; decide), if_pos hh]
      rw [hh] at H1
      rw [e1, e2]
      clear h hB hn hA hU hW e1 e2 hp hh
      go_enter Try.func9, Try.ntmps9
      go_wp2_with (go_at_call 39; refine H1.out.mono ?_; rintro e w1 ⟨rfl, e1⟩; have e1 := e1.symm; subst e1)
      go_ret
      exact ⟨rfl, HE.out⟩
    | true =>
      rw [hh] at H1
      by_cases hl : b.length = 512
      · cases ha : S.acts with
        | false =>
          have e1 : S.writeE i b = 17 := by unfold Sd.writeE; rw [if_neg (by rw [hp]; decide), if_neg (by rw [hh]; decide), if_neg (by simpa using hl), if_pos ha]
          have e2 : S.write i b = S.act := by unfold Sd.write; rw [if_neg (by rw [hp]; decide), if_neg (by rw [hh]; decide), if_neg (by simpa using hl), if_pos ha]
          have H2 := hide (act_any h)
          have HL := hide h.lt
          rw [ha] at H2
          rw [e1, e2]
          obtain rfl : n = 512 := by omega
          clear h hB hn hA hU hW e1 e2 hp hh ha
          generalize S.act = S1 at *
          go_enter Try.func9, Try.ntmps9
          go_wp2_with (first | (go_at_call 39; refine H1.out.mono ?_; rintro e w1 ⟨rfl, e1⟩; have e1 := e1.symm; subst e1) | (go_at_call 40; refine H2.out.mono ?_; rintro e w1 ⟨rfl, h1⟩; have HD1 := hide h1; clear h1))
          go_ret
          exact ⟨rfl, _, _, HD1.out.1.ext0 HD1.out.2.size HL.out, HD1.out.2⟩
        | true =>
          obtain ⟨h0, hn0⟩ := Sd.has_iff.1 hh
          obtain ⟨j, rfl⟩ : ∃ j : Nat, i = (j : Int) := ⟨i.toNat, by omega⟩
          have e1 : S.writeE (j : Int) b = 0 := by unfold Sd.writeE; rw [if_neg (by rw [hp]; decide), if_neg (by rw [hh]; decide), if_neg (by simpa using hl), if_neg (by rw [ha]; decide)]
          have e2 : S.write (j : Int) b = S.act.wrote j b := by unfold Sd.write; rw [if_neg (by rw [hp]; decide), if_neg (by rw [hh]; decide), if_neg (by simpa using hl), if_neg (by rw [ha]; decide)]; rfl
          rw [e1, e2]
          obtain rfl : n = 512 := by omega
          exact write_done h j (by omega) a c b hB ⟨hl, hB.1⟩ hA hU hW hp ha
      · have e1 : S.writeE i b = 1 := by unfold Sd.writeE; rw [if_neg (by rw [hp]; decide), if_neg (by rw [hh]; decide), if_pos hl]
        have e2 : S.write i b = S := by unfold Sd.write; rw [if_neg (by rw [hp]; decide), if_neg (by rw [hh]; decide), if_pos hl]
        have hne : ((n : Int) == 512) = false := eqf (by omega)
        have hne2 : ¬ (n : Int) = 512 := by omega
        rw [e1, e2]
        clear h hB hn hA hU hW e1 e2 hp hh
        go_enter Try.func9, Try.ntmps9
        go_wp2_with (go_at_call 39; refine H1.out.mono ?_; rintro e w1 ⟨rfl, e1⟩; have e1 := e1.symm; subst e1)
        go_ret
        exact ⟨rfl, HE.out⟩
end
end Go.Proofs.Ytlflcdjaknnfaab
