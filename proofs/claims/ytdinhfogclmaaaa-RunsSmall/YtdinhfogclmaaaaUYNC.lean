import Derived.Test.YtdinhfogclmaaaaUYM
namespace Go.Proofs.Ytdinhfogclmaaaa
set_option linter.unusedVariables false
open Go.RowKit

/-! ### what kinds 5, 11 and 12 need -/
theorem step_run {w w' : World} {ops : Array Oper} {o : Oper} {a : Act} {K : Act → World → Prop} {Q : Exit → Act → World → Prop} {E : Prop} (hgd : o.guard = none) (s x : Operand) (T : TypeId)
    (ho : o.op = .call { callee := .builtin .append, args := #[s, x], argTypes := #[T, T] }) (u v r : Value) (hs : a.eval s = u) (hx : a.eval x = v) (hr : (Builtin.append_ #[T, T] o.type #[u, v]).run Try.prog w = .ok r w')
    (h : K (a.put o.dst r) w') : if Region.wanted o (yielded ops a.tmps) = true then Oper.wp Try.prog o a w K Q else E := by
  have hw : Region.wanted o (yielded ops a.tmps) = true := by simp [Region.wanted, hgd]
  rw [if_pos hw]
  unfold Oper.wp execOp
  simp only [ho, resolve, invoke, builtin, Sem.run_bind, Sem.run_pure, Result.andThen_ok, List.map_toArray, List.map_cons, List.map_nil, hs, hx, hr]
  exact h
theorem step_call {w : World} {ops : Array Oper} {o : Oper} {a : Act} {K : Act → World → Prop} {Q : Exit → Act → World → Prop} {E : Prop} (hgd : o.guard = none) (f : Nat) (xs : Array Operand) (ts : Array TypeId)
    (ho : o.op = .call { callee := .value (.func f), args := xs, argTypes := ts }) (hen : ∀ args w, (callFunc f args).run Try.prog w = .ok (.enter f args) w) (args : Array Value) (ha : xs.map a.eval = args) {Post : Ending → World → Prop} (hc : Calls Try.prog f args w Post)
    (h : ∀ e w', Post e w' → ∃ v, e = .returned v ∧ K (a.put o.dst v) w') : if Region.wanted o (yielded ops a.tmps) = true then Oper.wp Try.prog o a w K Q else E := by
  have hw : Region.wanted o (yielded ops a.tmps) = true := by simp [Region.wanted, hgd]
  rw [if_pos hw]
  have hrun : (execOp a.eval o).run Try.prog w = .ok (.enter f args) w := by
    unfold execOp
    rw [ho]
    simp [resolve, invoke, Act.eval, Deferred.ofValue, hen]
    exact ha
  unfold Oper.wp
  rw [hrun, Oper.upon_enter]
  refine hc.mono fun e w' hp => ?_
  obtain ⟨v, rfl, hk⟩ := h e w' hp
  exact hk
theorem run_store_fn (P : Program) (w : World) (a : Addr) (m : Mode) (f : Fn) (x y : Array Value) : (store a (.func f x y) m).run P w = stored P w a (.func f x y) m := run_store P w a _ m rfl
theorem infoKept : (Try.prog.info? 69).map (fun i => (i.zero, i.size, i.bytes)) = some (some (.agg #[.nilFunc, .pointer none]), 2, 16) := by kernel_rfl
theorem infoRuns : (Try.prog.info? 45).map (fun i => (i.zero, i.size, i.bytes)) = some (some (.slice none 0 0), 1, 24) := by kernel_rfl
theorem infoRRuns : (Try.prog.info? 37).map (fun i => (i.zero, i.size, i.bytes)) = some (some (.slice none 0 0), 1, 24) := by kernel_rfl
theorem one_cells (w : World) (v : Value) (t : TypeId) : ∀ j u, [v][j]? = some u → (w.alloc (.cells #[v] t)).cell? ((⟨w.heap.size, 0, none⟩ : Addr).add j) = some u := by
  intro j u hj
  match j, hj with
  | 0, hj => simp at hj; subst hj; exact cell_alloc_new w _ _
theorem two_cells (w : World) (u v : Value) (t : TypeId) : ∀ j x, [u, v][j]? = some x → (w.alloc (.cells #[u, v] t)).cell? ((⟨w.heap.size, 0, none⟩ : Addr).add j) = some x := by
  intro j x hj
  have h := World.alloc_heap_new w (.cells #[u, v] t)
  rw [Addr.add_mid, cell_of_row _ _ _ _ _ _ h]
  simpa using hj
/-- the walk that was kept: appended, and stored -/
theorem Wk.walk {Z : Nat → Prop} {W w9 : World} {X m : Nat} {D : Dat} {c : Nat → Nat} (h : Wk Z W X m D) (hc : Wc Z W X c D.cells D) (hm : m ≤ 1954687338620) (hb : Below W.heap.size W w9) {E g b : Nat} {a : Option Addr} {cap : Nat} {T : List Rn} (h3 : w9.cell? ⟨E, 0, none⟩ = some (.slice (some ⟨g, 0, none⟩) T.length T.length)) (h4 : Vs w9 (some ⟨g, 0, none⟩) T) (h5 : Rt w9 b a cap T) (h6 : ∀ r ∈ T, Nm r.1 ∧ Nm r.2) (h7 : g < w9.heap.size)
    (h8 : W.heap.size ≤ E) (h9 : W.heap.size ≤ g) (h10 : W.heap.size ≤ b) (h11 : ∀ x, a = some x → W.heap.size ≤ x.block) :
    ∃ g2 cp w10, (Builtin.append_ #[31, 31] 31 #[.slice D.aw D.nw D.cw, .slice (some ⟨w9.heap.size, 0, none⟩) 1 1]).run Try.prog (w9.alloc (.cells #[.func (.func 46) #[] #[.pointer (some ⟨E, 0, none⟩)], .pointer (some ⟨b, 0, none⟩)] 69)) = .ok (.slice (some ⟨g2, 0, none⟩) (D.nw + 1) cp) w10 ∧
      w10.cell? ⟨X, 6, none⟩ = some (.slice D.aw D.nw D.cw) ∧ w10.frozen? ⟨X, 6, none⟩ = false ∧ ∃ D', Wk Z (w10.setCell ⟨X, 6, none⟩ (.slice (some ⟨g2, 0, none⟩) (D.nw + 1) cp)) X (m + 1) D' ∧ But (fun k => ¬ Z k) W (w10.setCell ⟨X, 6, none⟩ (.slice (some ⟨g2, 0, none⟩) (D.nw + 1) cp)) := by
  have ob := al w9 (.cells #[.func (.func 46) #[] #[.pointer (some ⟨E, 0, none⟩)], .pointer (some ⟨b, 0, none⟩)] 69)
  have w1b := bt hb ob
  have hnw := h.nw
  obtain ⟨g2, cp, w10, hrun, v1, v2, v3⟩ := run_apG Try.underlying31 infoKept rfl (by decide) _ 31 D.aw D.nw D.cw D.Cw (hc.ww.keep w1b) ⟨w9.heap.size, 0, none⟩ 1 [.func (.func 46) #[] #[.pointer (some ⟨E, 0, none⟩)], .pointer (some ⟨b, 0, none⟩)] rfl (two_cells w9 _ _ 69) (by intro u hu; simp at hu; rcases hu with rfl | rfl <;> rfl) (by omega) (by decide)
  obtain ⟨c', hc', z'⟩ := hc.putW w1b ((ob.cell (p := ⟨E, 0, none⟩) (block_lt_of_cell h3)).trans h3) (h4.keep ob) (h5.keep ob) h6 (Nat.lt_of_lt_of_le h7 ob.size) h8 h9 h10 h11 v1 v2 v3
  have x6 : w10.cell? ⟨X, 6, none⟩ = some (.slice D.aw D.nw D.cw) := by rw [cell_of_row _ _ _ _ _ _ hc'.blk]; rfl
  refine ⟨g2, cp, w10, hrun, x6, hc'.free 6, { D with aw := some ⟨g2, 0, none⟩, cw := cp, nw := D.nw + 1, Cw := D.Cw ++ [.func (.func 46) #[] #[pt E], pt b] }, ⟨⟨c', hc'.store 6 (.slice (some ⟨g2, 0, none⟩) (D.nw + 1) cp)⟩, h.eq, fun i hi => ?_, Nat.succ_le_succ h.nw, Nat.le_succ_of_le h.nt, h.nv, h.tl⟩, ((But.ofBelow w1b).trans z' (fun _ _ h => h)).trans (hc'.nzX 6 _) (fun _ _ h => h)⟩
  have := h.len i hi
  show (D.S i).length ≤ _
  omega
end Go.Proofs.Ytdinhfogclmaaaa

namespace Go.Proofs.Ytdinhfogclmaaaa
set_option linter.unusedVariables false
open Go.RowKit

/-! ### what kind 5 needs -/
def Dat.told (D : Dat) (g ga cp : Nat) (T : List Rn) : Dat := { D with tt := some ⟨ga, 0, none⟩, ct := cp, nt := D.nt + 1, Ct := D.Ct ++ [.slice (some ⟨g, 0, none⟩) T.length T.length], Tl := upd D.Tl D.nt T }
theorem Wk.told1 {Z : Nat → Prop} {W w1 : World} {X m : Nat} {D : Dat} {c : Nat → Nat} (h : Wk Z W X m D) (hc : Wc Z W X c D.cells D) (hm : m ≤ 1954687338620) (hb : Below W.heap.size W w1) {g : Nat} {T : List Rn} (h3 : Vw w1 (some ⟨g, 0, none⟩) T.length T) (h5 : ∀ r ∈ T, Nm r.1 ∧ Nm r.2) (h6 : T.length ≤ 4294967296) (h9 : W.heap.size ≤ g) :
    ∃ g2 cp w2, (Builtin.append_ #[32, 32] 32 #[.slice D.tt D.nt D.ct, .slice (some ⟨w1.heap.size, 0, none⟩) 1 1]).run Try.prog (w1.alloc (.cells #[.slice (some ⟨g, 0, none⟩) T.length T.length] 45)) = .ok (.slice (some ⟨g2, 0, none⟩) (D.nt + 1) cp) w2 ∧
      w2.cell? ⟨X, 7, none⟩ = some (.slice D.tt D.nt D.ct) ∧ w2.frozen? ⟨X, 7, none⟩ = false ∧ ∃ c', Wc Z (w2.setCell ⟨X, 7, none⟩ (.slice (some ⟨g2, 0, none⟩) (D.nt + 1) cp)) X c' (D.cells.set 7 (.slice (some ⟨g2, 0, none⟩) (D.nt + 1) cp)) (D.told g g2 cp T) ∧ But (fun k => ¬ Z k) W (w2.setCell ⟨X, 7, none⟩ (.slice (some ⟨g2, 0, none⟩) (D.nt + 1) cp)) := by
  have ob := al w1 (.cells #[.slice (some ⟨g, 0, none⟩) T.length T.length] 45)
  have w1b := bt hb ob
  have hnt := h.nt
  obtain ⟨g2, cp, w2, hrun, v1, v2, v3⟩ := run_apG Try.underlying32 infoRuns rfl (by decide) _ 32 D.tt D.nt D.ct D.Ct (hc.tw.keep w1b) ⟨w1.heap.size, 0, none⟩ 1 [.slice (some ⟨g, 0, none⟩) T.length T.length] rfl (one_cells w1 _ 45) (by intro u hu; simp at hu; subst hu; rfl) (by omega) (by decide)
  obtain ⟨c', hc', z'⟩ := hc.putT w1b (h3.keep ob) h5 h6 h9 v1 v2 v3
  have x7 : w2.cell? ⟨X, 7, none⟩ = some (.slice D.tt D.nt D.ct) := by rw [cell_of_row _ _ _ _ _ _ hc'.blk]; rfl
  exact ⟨g2, cp, w2, hrun, x7, hc'.free 7, c', hc'.store 7 _, ((But.ofBelow w1b).trans z' (fun _ _ h => h)).trans (hc'.nzX 7 _) (fun _ _ h => h)⟩
theorem Wk.told2 {Z : Nat → Prop} {W W3 w5 : World} {X m g g2 cp : Nat} {D : Dat} {c : Nat → Nat} {s : Nat} (hs : s < 3) (h : Wk Z W X m D) (hm : m ≤ 1954687338620) (z : But (fun k => ¬ Z k) W W3) (hc : Wc Z W3 X c (D.cells.set 7 (.slice (some ⟨g2, 0, none⟩) (D.nt + 1) cp)) (D.told g g2 cp (D.S s))) (hb : Below W3.heap.size W3 w5) {a : Option Addr} {cap : Nat} (h3 : Rf.Vw w5 a cap (D.S s)) (h9 : ∀ x, a = some x → W3.heap.size ≤ x.block) :
    ∃ g3 cq w6, (Builtin.append_ #[33, 33] 33 #[.slice D.an D.nv D.cn, .slice (some ⟨w5.heap.size, 0, none⟩) 1 1]).run Try.prog (w5.alloc (.cells #[.slice a (D.S s).length cap] 37)) = .ok (.slice (some ⟨g3, 0, none⟩) (D.nv + 1) cq) w6 ∧
      w6.cell? ⟨X, 8, none⟩ = some (.slice D.an D.nv D.cn) ∧ w6.frozen? ⟨X, 8, none⟩ = false ∧ (w6.setCell ⟨X, 8, none⟩ (.slice (some ⟨g3, 0, none⟩) (D.nv + 1) cq)).cell? ⟨D.R s, 0, none⟩ = some (.slice (D.ra s) (D.S s).length (D.rc s)) ∧
      Vs (w6.setCell ⟨X, 8, none⟩ (.slice (some ⟨g3, 0, none⟩) (D.nv + 1) cq)) (some ⟨g, 0, none⟩) (D.S s) ∧ Rf.Vs (w6.setCell ⟨X, 8, none⟩ (.slice (some ⟨g3, 0, none⟩) (D.nv + 1) cq)) (D.ra s) (D.S s) ∧
      ∃ D', Wk Z (w6.setCell ⟨X, 8, none⟩ (.slice (some ⟨g3, 0, none⟩) (D.nv + 1) cq)) X (m + 1) D' ∧ But (fun k => ¬ Z k) W (w6.setCell ⟨X, 8, none⟩ (.slice (some ⟨g3, 0, none⟩) (D.nv + 1) cq)) := by
  have ob := al w5 (.cells #[.slice a (D.S s).length cap] 37)
  have w1b := bt hb ob
  have hnt := h.nt
  have hnv := h.nv
  obtain ⟨g3, cq, w6, hrun, v1, v2, v3⟩ := run_apG Try.underlying33 infoRRuns rfl (by decide) _ 33 D.an D.nv D.cn D.Cn (hc.nn.keep w1b) ⟨w5.heap.size, 0, none⟩ 1 [.slice a (D.S s).length cap] rfl (one_cells w5 _ 37) (by intro u hu; simp at hu; subst hu; rfl) (by omega) (by decide)
  obtain ⟨c', hc', z'⟩ := hc.putV w1b (h3.keep ob) h9 v1 v2 v3
  have x8 : w6.cell? ⟨X, 8, none⟩ = some (.slice D.an D.nv D.cn) := by rw [cell_of_row _ _ _ _ _ _ hc'.blk]; rfl
  have hF := hc'.store 8 (.slice (some ⟨g3, 0, none⟩) (D.nv + 1) cq)
  have hR := hF.rt s hs
  have hR' : Rt (w6.setCell ⟨X, 8, none⟩ (.slice (some ⟨g3, 0, none⟩) (D.nv + 1) cq)) (D.R s) (D.ra s) (D.rc s) (D.S s) := by rw [h.eq s hs]; exact hR
  have lC := hc.tw.length
  have hT : Vs (w6.setCell ⟨X, 8, none⟩ (.slice (some ⟨g3, 0, none⟩) (D.nv + 1) cq)) (some ⟨g, 0, none⟩) (D.S s) := by
    obtain ⟨u, k1, gg, k2, k3, _⟩ := hF.td D.nt (Nat.lt_succ_self _)
    have e0 : (D.Ct ++ [.slice (some ⟨g, 0, none⟩) (D.S s).length (D.S s).length])[D.nt]? = some u := k1
    have lc : (D.Ct ++ [Value.slice (some ⟨g, 0, none⟩) (D.S s).length (D.S s).length]).length = (D.nt + 1) * 1 := lC
    rw [List.length_append, List.length_singleton] at lc
    rw [List.getElem?_append_right (by omega), show D.nt - D.Ct.length = 0 by omega] at e0
    simp only [List.getElem?_cons_zero, Option.some.injEq] at e0
    have k2' : u = .slice (some ⟨gg, 0, none⟩) (upd D.Tl D.nt (D.S s) D.nt).length (upd D.Tl D.nt (D.S s) D.nt).length := k2
    have k3' : Vw _ (some ⟨gg, 0, none⟩) (upd D.Tl D.nt (D.S s) D.nt).length (upd D.Tl D.nt (D.S s) D.nt) := k3
    rw [upd_same] at k2' k3'
    rw [← e0] at k2'
    simp only [Value.slice.injEq, Option.some.injEq, Addr.mk.injEq, and_true] at k2'
    rw [k2'] 
    exact k3'.vs
  refine ⟨g3, cq, w6, hrun, x8, hc'.free 8, hR'.cell, hT, hR'.row.vs, { D.told g g2 cp (D.S s) with an := some ⟨g3, 0, none⟩, cn := cq, nv := D.nv + 1, Cn := D.Cn ++ [.slice a (D.S s).length cap], Wl := upd D.Wl D.nv (D.S s) }, ⟨⟨c', hF⟩, h.eq, fun i hi => ?_, Nat.le_succ_of_le h.nw, Nat.succ_le_succ h.nt, ?_, fun j hj => ?_⟩, ((z.andBelow w1b).trans z' (fun _ _ h => h)).trans (hc'.nzX 8 _) (fun _ _ h => h)⟩
  · have := h.len i hi
    show (D.S i).length ≤ _
    omega
  · show D.nv + 1 = D.nt + 1
    omega
  · show upd D.Tl D.nt (D.S s) j = upd D.Wl D.nv (D.S s) j
    rw [hnv]
    have hj' : j < D.nt + 1 := hj
    by_cases e : j = D.nt
    · rw [e, upd_same, upd_same]
    · rw [upd_ne _ _ e, upd_ne _ _ e]
      exact h.tl j (by omega)
end Go.Proofs.Ytdinhfogclmaaaa
