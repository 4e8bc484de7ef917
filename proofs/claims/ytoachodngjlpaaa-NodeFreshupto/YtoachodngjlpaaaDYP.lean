import Derived.Test.YtoachodngjlpaaaDYO
import Derived.Test.YtoachodngjlpaaaDZT
import Derived.Test.YtoachodngjlpaaaDYR
namespace Go.Proofs.Ytoachodngjlpaaa
set_option linter.unusedVariables false
set_option linter.unusedSimpArgs false
open Go.RowKit
def frF (h : Nat) (at' : Int) (l r : Pv) (aS : Option Addr) (cS : Nat) (s : List Nat) (t : Bool) (i : Iv) (x7 x8 x9 x10 x35 x38 x41 x43 : Value) : Array Value := #[.agg #[.int .i64 l.kind, .int .i64 l.level, .slice l.aI l.items.length l.cI, .slice l.aD l.data.length l.cD, .int .i64 l.next, .int .i64 r.kind, .int .i64 r.level, .slice r.aI r.items.length r.cI, .slice r.aD r.data.length r.cD, .int .i64 r.next, .slice aS s.length cS, .bool t], .int .i64 at', .agg #[.slice i.aK i.key.length i.cK, .slice i.aV i.val.length i.cV, .int .i64 i.child, .int .i64 i.size], .pointer (some ⟨h, 0, none⟩), undef, .pointer (some ⟨h + 1, 0, none⟩), .bool false, x7, x8, x9, x10, undef, undef, undef, undef, undef, undef, undef, undef, undef, undef, undef, undef, undef, undef, undef, undef, undef, undef, undef, undef, undef, undef, .pointer (some ⟨h, 0, none⟩), .agg #[.int .i64 l.kind, .int .i64 l.level, .slice l.aI l.items.length l.cI, .slice l.aD l.data.length l.cD, .int .i64 l.next], x35, .pointer (some ⟨h, 5, none⟩), .agg #[.int .i64 r.kind, .int .i64 r.level, .slice r.aI r.items.length r.cI, .slice r.aD r.data.length r.cD, .int .i64 r.next], x38, .pointer (some ⟨h, 10, none⟩), .slice aS s.length cS, x41, .agg #[.slice i.aK i.key.length i.cK, .slice i.aV i.val.length i.cV, .int .i64 i.child, .int .i64 i.size], x43, undef, undef, undef, undef, undef, undef, undef, undef, undef, undef, undef, undef, undef, undef, undef, undef, undef, undef, undef, undef, undef, undef, undef, undef, undef, undef, undef, undef, undef, undef, undef, undef, undef, undef, undef, undef, undef, undef, undef, undef, undef, undef, undef, undef, undef, undef, undef, undef, undef, undef, undef, undef, undef, undef, undef, undef, undef, undef, undef, undef, undef, undef, undef, undef, undef, undef, undef, undef, undef, undef, undef, undef, undef, undef, undef, undef, undef, undef, undef, undef, undef, undef, undef, undef, undef, undef, undef, undef, undef, undef, undef, undef, undef, undef, undef, undef, undef, undef, undef, undef, undef, undef, undef, undef, undef, undef, undef, undef, undef, undef, undef, undef, undef, undef, undef, undef, undef, undef, undef, undef, undef]
theorem cells16 {W : World} {b g : Nat} {t t' : TypeId} {v0 v1 v2 v3 v4 v5 v6 v7 v8 v9 va vb u0 u1 u2 u3 : Value} (h : W.heap[b]? = some (.cells #[v0, v1, v2, v3, v4, v5, v6, v7, v8, v9, va, vb] t (0, 0))) (k : W.heap[g]? = some (.cells #[u0, u1, u2, u3] t' (0, 0))) : W.cell? ⟨b, 0, none⟩ = some v0 ∧ W.cell? ⟨b, 1, none⟩ = some v1 ∧ W.cell? ⟨b, 2, none⟩ = some v2 ∧ W.cell? ⟨b, 3, none⟩ = some v3 ∧ W.cell? ⟨b, 4, none⟩ = some v4 ∧ W.cell? ⟨b, 5, none⟩ = some v5 ∧ W.cell? ⟨b, 6, none⟩ = some v6 ∧ W.cell? ⟨b, 7, none⟩ = some v7 ∧ W.cell? ⟨b, 8, none⟩ = some v8 ∧ W.cell? ⟨b, 9, none⟩ = some v9 ∧ W.cell? ⟨b, 10, none⟩ = some va ∧ W.cell? ⟨b, 11, none⟩ = some vb ∧ W.cell? ⟨g, 0, none⟩ = some u0 ∧ W.cell? ⟨g, 1, none⟩ = some u1 ∧ W.cell? ⟨g, 2, none⟩ = some u2 ∧ W.cell? ⟨g, 3, none⟩ = some u3 := by
  refine ⟨?_, ?_, ?_, ?_, ?_, ?_, ?_, ?_, ?_, ?_, ?_, ?_, ?_, ?_, ?_, ?_⟩ <;> first | (rw [cell_of_row _ _ _ _ _ _ h]; rfl) | (rw [cell_of_row _ _ _ _ _ _ k]; rfl)
set_option maxHeartbeats 64000000 in
set_option maxRecDepth 16000 in
theorem nodeFresh_any (w : World) (v : Tv) (hT : Tj w v) (nl : v.l.items.length ≤ 1048576) (nr : v.r.items.length ≤ 1048576) (at' : Int) (hat : N64 at') (i : Iv) (hI : Ii w i) (hi1 : i.key.length ≤ 140737488355264) (hi2 : i.val.length ≤ 140737488355264) :
    Calls Try.prog 3 #[v.vl, .int .i64 at', i.vl] w fun e w' => e = .returned (.bool true) ∧ Below w.heap.size w w' := by
  obtain ⟨l, r, aS, cS, s, t⟩ := v
  dsimp only at nl nr
  unfold Tv.vl Iv.vl
  simp only [Tv.cs, Iv.cs]
  have A0 := hide (al w (.cells #[.int .i64 l.kind, .int .i64 l.level, .slice l.aI l.items.length l.cI, .slice l.aD l.data.length l.cD, .int .i64 l.next, .int .i64 r.kind, .int .i64 r.level, .slice r.aI r.items.length r.cI, .slice r.aD r.data.length r.cD, .int .i64 r.next, .slice aS s.length cS, .bool t] 27))
  have A1 := hide (al (w.alloc (.cells #[.int .i64 l.kind, .int .i64 l.level, .slice l.aI l.items.length l.cI, .slice l.aD l.data.length l.cD, .int .i64 l.next, .int .i64 r.kind, .int .i64 r.level, .slice r.aI r.items.length r.cI, .slice r.aD r.data.length r.cD, .int .i64 r.next, .slice aS s.length cS, .bool t] 27)) (.cells #[.slice i.aK i.key.length i.cK, .slice i.aV i.val.length i.cV, .int .i64 i.child, .int .i64 i.size] 29))
  have X0 : Hid (((w.alloc (.cells #[.int .i64 l.kind, .int .i64 l.level, .slice l.aI l.items.length l.cI, .slice l.aD l.data.length l.cD, .int .i64 l.next, .int .i64 r.kind, .int .i64 r.level, .slice r.aI r.items.length r.cI, .slice r.aD r.data.length r.cD, .int .i64 r.next, .slice aS s.length cS, .bool t] 27)).alloc (.cells #[.slice i.aK i.key.length i.cK, .slice i.aV i.val.length i.cV, .int .i64 i.child, .int .i64 i.size] 29)).heap[w.heap.size]? = some (.cells #[.int .i64 l.kind, .int .i64 l.level, .slice l.aI l.items.length l.cI, .slice l.aD l.data.length l.cD, .int .i64 l.next, .int .i64 r.kind, .int .i64 r.level, .slice r.aI r.items.length r.cI, .slice r.aD r.data.length r.cD, .int .i64 r.next, .slice aS s.length cS, .bool t] 27 (0, 0))) := blk_keep (heap_alloc_new w _) A1.out
  have X1 : Hid (((w.alloc (.cells #[.int .i64 l.kind, .int .i64 l.level, .slice l.aI l.items.length l.cI, .slice l.aD l.data.length l.cD, .int .i64 l.next, .int .i64 r.kind, .int .i64 r.level, .slice r.aI r.items.length r.cI, .slice r.aD r.data.length r.cD, .int .i64 r.next, .slice aS s.length cS, .bool t] 27)).alloc (.cells #[.slice i.aK i.key.length i.cK, .slice i.aV i.val.length i.cV, .int .i64 i.child, .int .i64 i.size] 29)).heap[w.heap.size + 1]? = some (.cells #[.slice i.aK i.key.length i.cK, .slice i.aV i.val.length i.cV, .int .i64 i.child, .int .i64 i.size] 29 (0, 0))) := by
    have h := heap_alloc_new (w.alloc (.cells #[.int .i64 l.kind, .int .i64 l.level, .slice l.aI l.items.length l.cI, .slice l.aD l.data.length l.cD, .int .i64 l.next, .int .i64 r.kind, .int .i64 r.level, .slice r.aI r.items.length r.cI, .slice r.aD r.data.length r.cD, .int .i64 r.next, .slice aS s.length cS, .bool t] 27)) (.cells #[.slice i.aK i.key.length i.cK, .slice i.aV i.val.length i.cV, .int .i64 i.child, .int .i64 i.size] 29)
    rw [size_alloc] at h
    exact h
  have TJ := hide (hT.keep (bt A0.out A1.out))
  have HI := hide (hI.keep (bt A0.out A1.out))
  have BW := hide (bt A0.out A1.out)
  have NL := hide nl
  have NR := hide nr
  have I1 := hide hi1
  have I2 := hide hi2
  clear hT hI A0 A1 nl nr hi1 hi2
  go_enter Try.func3, Try.ntmps3
  go_wp2_with fail
  generalize (w.alloc (.cells #[.int .i64 l.kind, .int .i64 l.level, .slice l.aI l.items.length l.cI, .slice l.aD l.data.length l.cD, .int .i64 l.next, .int .i64 r.kind, .int .i64 r.level, .slice r.aI r.items.length r.cI, .slice r.aD r.data.length r.cD, .int .i64 r.next, .slice aS s.length cS, .bool t] 27)).alloc (.cells #[.slice i.aK i.key.length i.cK, .slice i.aV i.val.length i.cV, .int .i64 i.child, .int .i64 i.size] 29) = w1 at *
  have hw1 : w.heap.size + 1 < w1.heap.size := (Array.getElem?_eq_some_iff.1 X1.out).1
  have SS := hide fun (W : World) (hb : Below w1.heap.size w1 W) => cells16 (blk_keep X0.out hb) (blk_keep X1.out hb)
  have D1 := hide (dr2 w1)
  have C1 := hide fun (W : World) (hb : Below w1.heap.size w1 W) => CopyPage_pn W l (TJ.out.l.i.keep hb) TJ.out.l.d (by have := TJ.out.l.n; dsimp only at this; omega) TJ.out.l.s
  have C2 := hide fun (W : World) (hb : Below w1.heap.size w1 W) => CopyPage_pn W r (TJ.out.r.i.keep hb) TJ.out.r.d (by have := TJ.out.r.n; dsimp only at this; omega) TJ.out.r.s
  have C3 := hide fun (W : World) (hb : Below w1.heap.size w1 W) => CopyBytes_at W aS s.length cS s (TJ.out.b.keep hb) rfl TJ.out.n
  have C4 := hide fun (W : World) (hb : Below w1.heap.size w1 W) => CopyItem_any W i (HI.out.keep hb) I1.out I2.out
  unfold Pv.vl at C1 C2
  unfold Iv.vl at C4
  simp only [Pv.cs] at C1 C2
  simp only [Iv.cs] at C4
  go_cut [7, 8, 9, 10] from 33 to 43 (fun p7 p8 v9 p10 wx => ∃ (gA gB gC : Nat) (x y : Pv) (aK : Option Addr) (cK : Nat) (z : Iv), p7 = .pointer (some ⟨gA, 0, none⟩) ∧ p8 = .pointer (some ⟨gB, 0, none⟩) ∧ v9 = .slice aK s.length cK ∧ p10 = .pointer (some ⟨gC, 0, none⟩) ∧ Fe w1 wx l r s i x y aK cK z gA gB gC)
  case first =>
    refine wp_region_held_drew (S := fun W => W.cell? ⟨w.heap.size, 0, none⟩ = some (.int .i64 l.kind) ∧ W.cell? ⟨w.heap.size, 1, none⟩ = some (.int .i64 l.level) ∧ W.cell? ⟨w.heap.size, 2, none⟩ = some (.slice l.aI l.items.length l.cI) ∧ W.cell? ⟨w.heap.size, 3, none⟩ = some (.slice l.aD l.data.length l.cD) ∧ W.cell? ⟨w.heap.size, 4, none⟩ = some (.int .i64 l.next) ∧ W.cell? ⟨w.heap.size, 5, none⟩ = some (.int .i64 r.kind) ∧ W.cell? ⟨w.heap.size, 6, none⟩ = some (.int .i64 r.level) ∧ W.cell? ⟨w.heap.size, 7, none⟩ = some (.slice r.aI r.items.length r.cI) ∧ W.cell? ⟨w.heap.size, 8, none⟩ = some (.slice r.aD r.data.length r.cD) ∧ W.cell? ⟨w.heap.size, 9, none⟩ = some (.int .i64 r.next) ∧ W.cell? ⟨w.heap.size, 10, none⟩ = some (.slice aS s.length cS) ∧ W.cell? ⟨w.heap.size, 11, none⟩ = some (.bool t) ∧ W.cell? ⟨w.heap.size + 1, 0, none⟩ = some (.slice i.aK i.key.length i.cK) ∧ W.cell? ⟨w.heap.size + 1, 1, none⟩ = some (.slice i.aV i.val.length i.cV) ∧ W.cell? ⟨w.heap.size + 1, 2, none⟩ = some (.int .i64 i.child) ∧ W.cell? ⟨w.heap.size + 1, 3, none⟩ = some (.int .i64 i.size)) (by kernel_rfl) (SS.out _ D1.out) (fun hHeld => ?_)
    refine wpAnyH_take (i := 0) (v := ?vaq0) rfl (by kernel_rfl) (by kernel_rfl) (by kernel_rfl) (fun _ _ _ h => h) (Or.inl ⟨by rfl, ?hyq0⟩) (by assumption) ?raq0
    case hyq0 => (intro wq hSw; (try dsimp only at hSw); obtain ⟨e0, e1, e2, e3, e4, e5, e6, e7, e8, e9, e10, e11, e12, e13, e14, e15⟩ := hSw; go_simp <;> with_reducible rfl)
    try simp only [Act.put, List.getElem_toArray, List.getElem_cons_zero, List.setIfInBounds_toArray, List.set_cons_zero, List.set_cons_succ]
    refine wpAnyH_take (i := 1) (v := ?vaq1) rfl (by kernel_rfl) (by kernel_rfl) (by kernel_rfl) (fun _ _ _ h => h) (Or.inl ⟨by rfl, ?hyq1⟩) (by assumption) ?raq1
    case hyq1 => (intro wq hSw; (try dsimp only at hSw); obtain ⟨e0, e1, e2, e3, e4, e5, e6, e7, e8, e9, e10, e11, e12, e13, e14, e15⟩ := hSw; go_simp <;> with_reducible rfl)
    try simp only [Act.put, List.getElem_toArray, List.getElem_cons_zero, List.getElem_cons_succ, List.setIfInBounds_toArray, List.set_cons_zero, List.set_cons_succ]
    refine wpAnyH_take (i := 3) (v := ?vaq3) rfl (by kernel_rfl) (by kernel_rfl) (by kernel_rfl) (fun _ _ _ h => h) (Or.inl ⟨by rfl, ?hyq3⟩) (by assumption) ?raq3
    case hyq3 => (intro wq hSw; (try dsimp only at hSw); obtain ⟨e0, e1, e2, e3, e4, e5, e6, e7, e8, e9, e10, e11, e12, e13, e14, e15⟩ := hSw; go_simp <;> with_reducible rfl)
    try simp only [Act.put, List.getElem_toArray, List.getElem_cons_zero, List.getElem_cons_succ, List.setIfInBounds_toArray, List.set_cons_zero, List.set_cons_succ]
    refine wpAnyH_take (i := 4) (v := ?vaq4) rfl (by kernel_rfl) (by kernel_rfl) (by kernel_rfl) (fun _ _ _ h => h) (Or.inl ⟨by rfl, ?hyq4⟩) (by assumption) ?raq4
    case hyq4 => (intro wq hSw; (try dsimp only at hSw); obtain ⟨e0, e1, e2, e3, e4, e5, e6, e7, e8, e9, e10, e11, e12, e13, e14, e15⟩ := hSw; go_simp <;> with_reducible rfl)
    try simp only [Act.put, List.getElem_toArray, List.getElem_cons_zero, List.getElem_cons_succ, List.setIfInBounds_toArray, List.set_cons_zero, List.set_cons_succ]
    refine wpAnyH_take (i := 6) (v := ?vaq6) rfl (by kernel_rfl) (by kernel_rfl) (by kernel_rfl) (fun _ _ _ h => h) (Or.inl ⟨by rfl, ?hyq6⟩) (by assumption) ?raq6
    case hyq6 => (intro wq hSw; (try dsimp only at hSw); obtain ⟨e0, e1, e2, e3, e4, e5, e6, e7, e8, e9, e10, e11, e12, e13, e14, e15⟩ := hSw; go_simp <;> with_reducible rfl)
    try simp only [Act.put, List.getElem_toArray, List.getElem_cons_zero, List.getElem_cons_succ, List.setIfInBounds_toArray, List.set_cons_zero, List.set_cons_succ]
    refine wpAnyH_take (i := 7) (v := ?vaq7) rfl (by kernel_rfl) (by kernel_rfl) (by kernel_rfl) (fun _ _ _ h => h) (Or.inl ⟨by rfl, ?hyq7⟩) (by assumption) ?raq7
    case hyq7 => (intro wq hSw; (try dsimp only at hSw); obtain ⟨e0, e1, e2, e3, e4, e5, e6, e7, e8, e9, e10, e11, e12, e13, e14, e15⟩ := hSw; go_simp <;> with_reducible rfl)
    try simp only [Act.put, List.getElem_toArray, List.getElem_cons_zero, List.getElem_cons_succ, List.setIfInBounds_toArray, List.set_cons_zero, List.set_cons_succ]
    refine wpAnyH_take (i := 9) (v := ?vaq9) rfl (by kernel_rfl) (by kernel_rfl) (by kernel_rfl) (fun _ _ _ h => h) (Or.inl ⟨by rfl, ?hyq9⟩) (by assumption) ?raq9
    case hyq9 => (intro wq hSw; (try dsimp only at hSw); obtain ⟨e0, e1, e2, e3, e4, e5, e6, e7, e8, e9, e10, e11, e12, e13, e14, e15⟩ := hSw; go_simp <;> with_reducible rfl)
    try simp only [Act.put, List.getElem_toArray, List.getElem_cons_zero, List.getElem_cons_succ, List.setIfInBounds_toArray, List.set_cons_zero, List.set_cons_succ]
    clear hHeld
    show wpAnyH Try.prog .any ?OPS ?QQ ?SH 11 #[true, true, false, true, true, false, true, true, false, true, false, false, false, false, false, false, false, false] ⟨frF w.heap.size at' l r aS cS s t i (undef) (undef) undef (undef) (undef) (undef) (undef) (undef), []⟩ w1.drew
    have H4111 : Hid (∀ (W : World) (x y : Pv) (aK : Option Addr) (cK : Nat) (z : Iv) (gA gB gC : Nat), Fs w1 W l r s i 4 x y aK cK z true true true gA gB gC → wpAnyH Try.prog .any ?OPS ?QQ ?SH 4 #[true, true, true, true, true, true, true, true, true, true, true, true, true, true, false, false, false, false] ⟨frF w.heap.size at' l r aS cS s t i (.pointer (some ⟨gA, 0, none⟩)) (.pointer (some ⟨gB, 0, none⟩)) undef (.pointer (some ⟨gC, 0, none⟩)) (.agg x.cs) (.agg y.cs) (.slice aK s.length cK) (.agg z.cs), []⟩ W) := by
      intro W x y aK cK z gA gB gC hF
      have HF := hide hF
      clear hF
      unfold frF
      have ST := hide HF.out.store
      refine wpAnyH_ready (rs := [14]) (by kernel_rfl) (by simp) ?_
      refine AllReadyH.cons rfl (fun K hK => ?_) AllReadyH.nil
      rw [if_pos (by rfl)]
      refine wp_store_row 25 _ _ rfl gA _ rfl rfl 25 _ (HF.out.fA rfl).1 sizePage rfl (by simp [Pv.cs, Iv.cs, Value.oneCell']) ?_
      refine hK.out _ _ (SS.out _ ST.out.2.2.1) (fun hHeld => ?_)
      clear hK K
      try simp only [Act.put, List.getElem_toArray, List.getElem_cons_zero, List.getElem_cons_succ, List.setIfInBounds_toArray, List.set_cons_zero, List.set_cons_succ]
      refine wpAnyH_ready (rs := [15]) (by kernel_rfl) (by simp) ?_
      refine AllReadyH.cons rfl (fun K hK => ?_) AllReadyH.nil
      rw [if_pos (by rfl)]
      refine wp_store_row 25 _ _ rfl gB _ rfl rfl 25 _ ST.out.1 sizePage rfl (by simp [Pv.cs, Iv.cs, Value.oneCell']) ?_
      refine hK.out _ _ (SS.out _ ST.out.2.2.2.1) (fun hHeld => ?_)
      clear hK K
      try simp only [Act.put, List.getElem_toArray, List.getElem_cons_zero, List.getElem_cons_succ, List.setIfInBounds_toArray, List.set_cons_zero, List.set_cons_succ]
      refine wpAnyH_take (i := 16) (v := ?vaz16) rfl (by kernel_rfl) (by kernel_rfl) (by kernel_rfl) (fun _ _ _ h => h) (Or.inl ⟨by rfl, ?hyz16⟩) (by assumption) ?raz16
      case hyz16 => (intro wq hSw; (try dsimp only at hSw); obtain ⟨e0, e1, e2, e3, e4, e5, e6, e7, e8, e9, e10, e11, e12, e13, e14, e15⟩ := hSw; go_simp <;> with_reducible rfl)
      try simp only [Act.put, List.getElem_toArray, List.getElem_cons_zero, List.getElem_cons_succ, List.setIfInBounds_toArray, List.set_cons_zero, List.set_cons_succ]
      refine wpAnyH_ready (rs := [17]) (by kernel_rfl) (by simp) ?_
      refine AllReadyH.cons rfl (fun K hK => ?_) AllReadyH.nil
      rw [if_pos (by rfl)]
      refine wp_store_row 29 _ _ rfl gC _ rfl rfl 29 _ ST.out.2.1 sizeItem rfl (by simp [Pv.cs, Iv.cs, Value.oneCell']) ?_
      refine hK.out _ _ (SS.out _ ST.out.2.2.2.2.eb) (fun hHeld => ?_)
      clear hK K
      try simp only [Act.put, List.getElem_toArray, List.getElem_cons_zero, List.getElem_cons_succ, List.setIfInBounds_toArray, List.set_cons_zero, List.set_cons_succ]
      refine wpAnyH_done (by kernel_rfl) ?_ _
      clear hHeld
      go_wp2_with fail
      go_meet
      case rel => exact ⟨gA, gB, gC, x, y, aK, cK, z, rfl, rfl, rfl, rfl, ST.out.2.2.2.2⟩
    have H3111 : Hid (∀ (W : World) (x y : Pv) (aK : Option Addr) (cK : Nat) (z : Iv) (gA gB gC : Nat), Fs w1 W l r s i 3 x y aK cK z true true true gA gB gC → wpAnyH Try.prog .any ?OPS ?QQ ?SH 5 #[true, true, true, true, true, true, true, true, true, true, false, true, true, true, false, false, false, false] ⟨frF w.heap.size at' l r aS cS s t i (.pointer (some ⟨gA, 0, none⟩)) (.pointer (some ⟨gB, 0, none⟩)) undef (.pointer (some ⟨gC, 0, none⟩)) (.agg x.cs) (.agg y.cs) (.slice aK s.length cK) (undef), []⟩ W) := by
      intro W x y aK cK z gA gB gC hF
      have HF := hide hF
      clear hF
      unfold frF
      refine wpAnyH_ready (rs := [10]) (by kernel_rfl) (by simp) ?_
      refine (AllReadyH.cons rfl (fun K hK => ?_) AllReadyH.nil)
      · go_simp
        refine (C4.out _ HF.out.fb).mono ?_
        rintro _ W' ⟨q, rfl, hO, hE⟩
        have HG := hide (HF.out.four hO hE)
        clear hO hE
        go_wp2_with fail
        refine hK.out _ _ (SS.out _ HG.out.fb) (fun hHeld => ?_)
        clear hK K hHeld
        try simp only [Act.put, List.getElem_toArray, List.getElem_cons_zero, List.getElem_cons_succ, List.setIfInBounds_toArray, List.set_cons_zero, List.set_cons_succ]
        exact H4111.out W' x y aK cK q gA gB gC HG.out
    have H4011 : Hid (∀ (W : World) (x y : Pv) (aK : Option Addr) (cK : Nat) (z : Iv) (gA gB gC : Nat), Fs w1 W l r s i 4 x y aK cK z false true true gA gB gC → wpAnyH Try.prog .any ?OPS ?QQ ?SH 5 #[true, true, true, true, true, true, true, true, true, true, true, false, true, true, false, false, false, false] ⟨frF w.heap.size at' l r aS cS s t i (undef) (.pointer (some ⟨gB, 0, none⟩)) undef (.pointer (some ⟨gC, 0, none⟩)) (.agg x.cs) (.agg y.cs) (.slice aK s.length cK) (.agg z.cs), []⟩ W) := by
      intro W x y aK cK z gA gB gC hF
      have HF := hide hF
      clear hF
      unfold frF
      refine wpAnyH_ready (rs := [11]) (by kernel_rfl) (by simp) ?_
      refine (AllReadyH.cons rfl (fun K hK => ?_) AllReadyH.nil)
      · go_simp
        have HG := hide HF.out.boxA
        refine hK.out _ _ (SS.out _ HG.out.fb) (fun hHeld => ?_)
        clear hK K hHeld
        try simp only [Act.put, List.getElem_toArray, List.getElem_cons_zero, List.getElem_cons_succ, List.setIfInBounds_toArray, List.set_cons_zero, List.set_cons_succ]
        exact H4111.out _ x y aK cK z W.heap.size gB gC HG.out
    have H4101 : Hid (∀ (W : World) (x y : Pv) (aK : Option Addr) (cK : Nat) (z : Iv) (gA gB gC : Nat), Fs w1 W l r s i 4 x y aK cK z true false true gA gB gC → wpAnyH Try.prog .any ?OPS ?QQ ?SH 5 #[true, true, true, true, true, true, true, true, true, true, true, true, false, true, false, false, false, false] ⟨frF w.heap.size at' l r aS cS s t i (.pointer (some ⟨gA, 0, none⟩)) (undef) undef (.pointer (some ⟨gC, 0, none⟩)) (.agg x.cs) (.agg y.cs) (.slice aK s.length cK) (.agg z.cs), []⟩ W) := by
      intro W x y aK cK z gA gB gC hF
      have HF := hide hF
      clear hF
      unfold frF
      refine wpAnyH_ready (rs := [12]) (by kernel_rfl) (by simp) ?_
      refine (AllReadyH.cons rfl (fun K hK => ?_) AllReadyH.nil)
      · go_simp
        have HG := hide HF.out.boxB
        refine hK.out _ _ (SS.out _ HG.out.fb) (fun hHeld => ?_)
        clear hK K hHeld
        try simp only [Act.put, List.getElem_toArray, List.getElem_cons_zero, List.getElem_cons_succ, List.setIfInBounds_toArray, List.set_cons_zero, List.set_cons_succ]
        exact H4111.out _ x y aK cK z gA W.heap.size gC HG.out
    have H4110 : Hid (∀ (W : World) (x y : Pv) (aK : Option Addr) (cK : Nat) (z : Iv) (gA gB gC : Nat), Fs w1 W l r s i 4 x y aK cK z true true false gA gB gC → wpAnyH Try.prog .any ?OPS ?QQ ?SH 5 #[true, true, true, true, true, true, true, true, true, true, true, true, true, false, false, false, false, false] ⟨frF w.heap.size at' l r aS cS s t i (.pointer (some ⟨gA, 0, none⟩)) (.pointer (some ⟨gB, 0, none⟩)) undef (undef) (.agg x.cs) (.agg y.cs) (.slice aK s.length cK) (.agg z.cs), []⟩ W) := by
      intro W x y aK cK z gA gB gC hF
      have HF := hide hF
      clear hF
      unfold frF
      refine wpAnyH_ready (rs := [13]) (by kernel_rfl) (by simp) ?_
      refine (AllReadyH.cons rfl (fun K hK => ?_) AllReadyH.nil)
      · go_simp
        have HG := hide HF.out.boxC
        refine hK.out _ _ (SS.out _ HG.out.fb) (fun hHeld => ?_)
        clear hK K hHeld
        try simp only [Act.put, List.getElem_toArray, List.getElem_cons_zero, List.getElem_cons_succ, List.setIfInBounds_toArray, List.set_cons_zero, List.set_cons_succ]
        exact H4111.out _ x y aK cK z gA gB W.heap.size HG.out
    have H2111 : Hid (∀ (W : World) (x y : Pv) (aK : Option Addr) (cK : Nat) (z : Iv) (gA gB gC : Nat), Fs w1 W l r s i 2 x y aK cK z true true true gA gB gC → wpAnyH Try.prog .any ?OPS ?QQ ?SH 6 #[true, true, true, true, true, true, true, true, false, true, false, true, true, true, false, false, false, false] ⟨frF w.heap.size at' l r aS cS s t i (.pointer (some ⟨gA, 0, none⟩)) (.pointer (some ⟨gB, 0, none⟩)) undef (.pointer (some ⟨gC, 0, none⟩)) (.agg x.cs) (.agg y.cs) (undef) (undef), []⟩ W) := by
      intro W x y aK cK z gA gB gC hF
      have HF := hide hF
      clear hF
      unfold frF
      refine wpAnyH_ready (rs := [8]) (by kernel_rfl) (by simp) ?_
      refine (AllReadyH.cons rfl (fun K hK => ?_) AllReadyH.nil)
      · go_simp
        refine (C3.out _ HF.out.fb).mono ?_
        rintro _ W' ⟨aq, cq, rfl, hO⟩
        have HG := hide (HF.out.three hO)
        clear hO
        go_wp2_with fail
        refine hK.out _ _ (SS.out _ HG.out.fb) (fun hHeld => ?_)
        clear hK K hHeld
        try simp only [Act.put, List.getElem_toArray, List.getElem_cons_zero, List.getElem_cons_succ, List.setIfInBounds_toArray, List.set_cons_zero, List.set_cons_succ]
        exact H3111.out W' x y aq cq z gA gB gC HG.out
    have H3011 : Hid (∀ (W : World) (x y : Pv) (aK : Option Addr) (cK : Nat) (z : Iv) (gA gB gC : Nat), Fs w1 W l r s i 3 x y aK cK z false true true gA gB gC → wpAnyH Try.prog .any ?OPS ?QQ ?SH 6 #[true, true, true, true, true, true, true, true, true, true, false, false, true, true, false, false, false, false] ⟨frF w.heap.size at' l r aS cS s t i (undef) (.pointer (some ⟨gB, 0, none⟩)) undef (.pointer (some ⟨gC, 0, none⟩)) (.agg x.cs) (.agg y.cs) (.slice aK s.length cK) (undef), []⟩ W) := by
      intro W x y aK cK z gA gB gC hF
      have HF := hide hF
      clear hF
      unfold frF
      refine wpAnyH_ready (rs := [10, 11]) (by kernel_rfl) (by simp) ?_
      refine (AllReadyH.cons rfl (fun K hK => ?_) (AllReadyH.cons rfl (fun K hK => ?_) AllReadyH.nil))
      · go_simp
        refine (C4.out _ HF.out.fb).mono ?_
        rintro _ W' ⟨q, rfl, hO, hE⟩
        have HG := hide (HF.out.four hO hE)
        clear hO hE
        go_wp2_with fail
        refine hK.out _ _ (SS.out _ HG.out.fb) (fun hHeld => ?_)
        clear hK K hHeld
        try simp only [Act.put, List.getElem_toArray, List.getElem_cons_zero, List.getElem_cons_succ, List.setIfInBounds_toArray, List.set_cons_zero, List.set_cons_succ]
        exact H4011.out W' x y aK cK q gA gB gC HG.out
      · go_simp
        have HG := hide HF.out.boxA
        refine hK.out _ _ (SS.out _ HG.out.fb) (fun hHeld => ?_)
        clear hK K hHeld
        try simp only [Act.put, List.getElem_toArray, List.getElem_cons_zero, List.getElem_cons_succ, List.setIfInBounds_toArray, List.set_cons_zero, List.set_cons_succ]
        exact H3111.out _ x y aK cK z W.heap.size gB gC HG.out
    have H3101 : Hid (∀ (W : World) (x y : Pv) (aK : Option Addr) (cK : Nat) (z : Iv) (gA gB gC : Nat), Fs w1 W l r s i 3 x y aK cK z true false true gA gB gC → wpAnyH Try.prog .any ?OPS ?QQ ?SH 6 #[true, true, true, true, true, true, true, true, true, true, false, true, false, true, false, false, false, false] ⟨frF w.heap.size at' l r aS cS s t i (.pointer (some ⟨gA, 0, none⟩)) (undef) undef (.pointer (some ⟨gC, 0, none⟩)) (.agg x.cs) (.agg y.cs) (.slice aK s.length cK) (undef), []⟩ W) := by
      intro W x y aK cK z gA gB gC hF
      have HF := hide hF
      clear hF
      unfold frF
      refine wpAnyH_ready (rs := [10, 12]) (by kernel_rfl) (by simp) ?_
      refine (AllReadyH.cons rfl (fun K hK => ?_) (AllReadyH.cons rfl (fun K hK => ?_) AllReadyH.nil))
      · go_simp
        refine (C4.out _ HF.out.fb).mono ?_
        rintro _ W' ⟨q, rfl, hO, hE⟩
        have HG := hide (HF.out.four hO hE)
        clear hO hE
        go_wp2_with fail
        refine hK.out _ _ (SS.out _ HG.out.fb) (fun hHeld => ?_)
        clear hK K hHeld
        try simp only [Act.put, List.getElem_toArray, List.getElem_cons_zero, List.getElem_cons_succ, List.setIfInBounds_toArray, List.set_cons_zero, List.set_cons_succ]
        exact H4101.out W' x y aK cK q gA gB gC HG.out
      · go_simp
        have HG := hide HF.out.boxB
        refine hK.out _ _ (SS.out _ HG.out.fb) (fun hHeld => ?_)
        clear hK K hHeld
        try simp only [Act.put, List.getElem_toArray, List.getElem_cons_zero, List.getElem_cons_succ, List.setIfInBounds_toArray, List.set_cons_zero, List.set_cons_succ]
        exact H3111.out _ x y aK cK z gA W.heap.size gC HG.out
    have H3110 : Hid (∀ (W : World) (x y : Pv) (aK : Option Addr) (cK : Nat) (z : Iv) (gA gB gC : Nat), Fs w1 W l r s i 3 x y aK cK z true true false gA gB gC → wpAnyH Try.prog .any ?OPS ?QQ ?SH 6 #[true, true, true, true, true, true, true, true, true, true, false, true, true, false, false, false, false, false] ⟨frF w.heap.size at' l r aS cS s t i (.pointer (some ⟨gA, 0, none⟩)) (.pointer (some ⟨gB, 0, none⟩)) undef (undef) (.agg x.cs) (.agg y.cs) (.slice aK s.length cK) (undef), []⟩ W) := by
      intro W x y aK cK z gA gB gC hF
      have HF := hide hF
      clear hF
      unfold frF
      refine wpAnyH_ready (rs := [10, 13]) (by kernel_rfl) (by simp) ?_
      refine (AllReadyH.cons rfl (fun K hK => ?_) (AllReadyH.cons rfl (fun K hK => ?_) AllReadyH.nil))
      · go_simp
        refine (C4.out _ HF.out.fb).mono ?_
        rintro _ W' ⟨q, rfl, hO, hE⟩
        have HG := hide (HF.out.four hO hE)
        clear hO hE
        go_wp2_with fail
        refine hK.out _ _ (SS.out _ HG.out.fb) (fun hHeld => ?_)
        clear hK K hHeld
        try simp only [Act.put, List.getElem_toArray, List.getElem_cons_zero, List.getElem_cons_succ, List.setIfInBounds_toArray, List.set_cons_zero, List.set_cons_succ]
        exact H4110.out W' x y aK cK q gA gB gC HG.out
      · go_simp
        have HG := hide HF.out.boxC
        refine hK.out _ _ (SS.out _ HG.out.fb) (fun hHeld => ?_)
        clear hK K hHeld
        try simp only [Act.put, List.getElem_toArray, List.getElem_cons_zero, List.getElem_cons_succ, List.setIfInBounds_toArray, List.set_cons_zero, List.set_cons_succ]
        exact H3111.out _ x y aK cK z gA gB W.heap.size HG.out
    have H4001 : Hid (∀ (W : World) (x y : Pv) (aK : Option Addr) (cK : Nat) (z : Iv) (gA gB gC : Nat), Fs w1 W l r s i 4 x y aK cK z false false true gA gB gC → wpAnyH Try.prog .any ?OPS ?QQ ?SH 6 #[true, true, true, true, true, true, true, true, true, true, true, false, false, true, false, false, false, false] ⟨frF w.heap.size at' l r aS cS s t i (undef) (undef) undef (.pointer (some ⟨gC, 0, none⟩)) (.agg x.cs) (.agg y.cs) (.slice aK s.length cK) (.agg z.cs), []⟩ W) := by
      intro W x y aK cK z gA gB gC hF
      have HF := hide hF
      clear hF
      unfold frF
      refine wpAnyH_ready (rs := [11, 12]) (by kernel_rfl) (by simp) ?_
      refine (AllReadyH.cons rfl (fun K hK => ?_) (AllReadyH.cons rfl (fun K hK => ?_) AllReadyH.nil))
      · go_simp
        have HG := hide HF.out.boxA
        refine hK.out _ _ (SS.out _ HG.out.fb) (fun hHeld => ?_)
        clear hK K hHeld
        try simp only [Act.put, List.getElem_toArray, List.getElem_cons_zero, List.getElem_cons_succ, List.setIfInBounds_toArray, List.set_cons_zero, List.set_cons_succ]
        exact H4101.out _ x y aK cK z W.heap.size gB gC HG.out
      · go_simp
        have HG := hide HF.out.boxB
        refine hK.out _ _ (SS.out _ HG.out.fb) (fun hHeld => ?_)
        clear hK K hHeld
        try simp only [Act.put, List.getElem_toArray, List.getElem_cons_zero, List.getElem_cons_succ, List.setIfInBounds_toArray, List.set_cons_zero, List.set_cons_succ]
        exact H4011.out _ x y aK cK z gA W.heap.size gC HG.out
    have H4010 : Hid (∀ (W : World) (x y : Pv) (aK : Option Addr) (cK : Nat) (z : Iv) (gA gB gC : Nat), Fs w1 W l r s i 4 x y aK cK z false true false gA gB gC → wpAnyH Try.prog .any ?OPS ?QQ ?SH 6 #[true, true, true, true, true, true, true, true, true, true, true, false, true, false, false, false, false, false] ⟨frF w.heap.size at' l r aS cS s t i (undef) (.pointer (some ⟨gB, 0, none⟩)) undef (undef) (.agg x.cs) (.agg y.cs) (.slice aK s.length cK) (.agg z.cs), []⟩ W) := by
      intro W x y aK cK z gA gB gC hF
      have HF := hide hF
      clear hF
      unfold frF
      refine wpAnyH_ready (rs := [11, 13]) (by kernel_rfl) (by simp) ?_
      refine (AllReadyH.cons rfl (fun K hK => ?_) (AllReadyH.cons rfl (fun K hK => ?_) AllReadyH.nil))
      · go_simp
        have HG := hide HF.out.boxA
        refine hK.out _ _ (SS.out _ HG.out.fb) (fun hHeld => ?_)
        clear hK K hHeld
        try simp only [Act.put, List.getElem_toArray, List.getElem_cons_zero, List.getElem_cons_succ, List.setIfInBounds_toArray, List.set_cons_zero, List.set_cons_succ]
        exact H4110.out _ x y aK cK z W.heap.size gB gC HG.out
      · go_simp
        have HG := hide HF.out.boxC
        refine hK.out _ _ (SS.out _ HG.out.fb) (fun hHeld => ?_)
        clear hK K hHeld
        try simp only [Act.put, List.getElem_toArray, List.getElem_cons_zero, List.getElem_cons_succ, List.setIfInBounds_toArray, List.set_cons_zero, List.set_cons_succ]
        exact H4011.out _ x y aK cK z gA gB W.heap.size HG.out
    have H4100 : Hid (∀ (W : World) (x y : Pv) (aK : Option Addr) (cK : Nat) (z : Iv) (gA gB gC : Nat), Fs w1 W l r s i 4 x y aK cK z true false false gA gB gC → wpAnyH Try.prog .any ?OPS ?QQ ?SH 6 #[true, true, true, true, true, true, true, true, true, true, true, true, false, false, false, false, false, false] ⟨frF w.heap.size at' l r aS cS s t i (.pointer (some ⟨gA, 0, none⟩)) (undef) undef (undef) (.agg x.cs) (.agg y.cs) (.slice aK s.length cK) (.agg z.cs), []⟩ W) := by
      intro W x y aK cK z gA gB gC hF
      have HF := hide hF
      clear hF
      unfold frF
      refine wpAnyH_ready (rs := [12, 13]) (by kernel_rfl) (by simp) ?_
      refine (AllReadyH.cons rfl (fun K hK => ?_) (AllReadyH.cons rfl (fun K hK => ?_) AllReadyH.nil))
      · go_simp
        have HG := hide HF.out.boxB
        refine hK.out _ _ (SS.out _ HG.out.fb) (fun hHeld => ?_)
        clear hK K hHeld
        try simp only [Act.put, List.getElem_toArray, List.getElem_cons_zero, List.getElem_cons_succ, List.setIfInBounds_toArray, List.set_cons_zero, List.set_cons_succ]
        exact H4110.out _ x y aK cK z gA W.heap.size gC HG.out
      · go_simp
        have HG := hide HF.out.boxC
        refine hK.out _ _ (SS.out _ HG.out.fb) (fun hHeld => ?_)
        clear hK K hHeld
        try simp only [Act.put, List.getElem_toArray, List.getElem_cons_zero, List.getElem_cons_succ, List.setIfInBounds_toArray, List.set_cons_zero, List.set_cons_succ]
        exact H4101.out _ x y aK cK z gA gB W.heap.size HG.out
    have H1111 : Hid (∀ (W : World) (x y : Pv) (aK : Option Addr) (cK : Nat) (z : Iv) (gA gB gC : Nat), Fs w1 W l r s i 1 x y aK cK z true true true gA gB gC → wpAnyH Try.prog .any ?OPS ?QQ ?SH 7 #[true, true, true, true, true, false, true, true, false, true, false, true, true, true, false, false, false, false] ⟨frF w.heap.size at' l r aS cS s t i (.pointer (some ⟨gA, 0, none⟩)) (.pointer (some ⟨gB, 0, none⟩)) undef (.pointer (some ⟨gC, 0, none⟩)) (.agg x.cs) (undef) (undef) (undef), []⟩ W) := by
      intro W x y aK cK z gA gB gC hF
      have HF := hide hF
      clear hF
      unfold frF
      refine wpAnyH_ready (rs := [5]) (by kernel_rfl) (by simp) ?_
      refine (AllReadyH.cons rfl (fun K hK => ?_) AllReadyH.nil)
      · go_simp
        refine (C2.out _ HF.out.fb).mono ?_
        rintro _ W' ⟨q, rfl, hS, -, hE, hb⟩
        have HG := hide (HF.out.two hS hE hb)
        clear hS hE hb
        go_wp2_with fail
        refine hK.out _ _ (SS.out _ HG.out.fb) (fun hHeld => ?_)
        clear hK K hHeld
        try simp only [Act.put, List.getElem_toArray, List.getElem_cons_zero, List.getElem_cons_succ, List.setIfInBounds_toArray, List.set_cons_zero, List.set_cons_succ]
        exact H2111.out W' x q aK cK z gA gB gC HG.out
    have H2011 : Hid (∀ (W : World) (x y : Pv) (aK : Option Addr) (cK : Nat) (z : Iv) (gA gB gC : Nat), Fs w1 W l r s i 2 x y aK cK z false true true gA gB gC → wpAnyH Try.prog .any ?OPS ?QQ ?SH 7 #[true, true, true, true, true, true, true, true, false, true, false, false, true, true, false, false, false, false] ⟨frF w.heap.size at' l r aS cS s t i (undef) (.pointer (some ⟨gB, 0, none⟩)) undef (.pointer (some ⟨gC, 0, none⟩)) (.agg x.cs) (.agg y.cs) (undef) (undef), []⟩ W) := by
      intro W x y aK cK z gA gB gC hF
      have HF := hide hF
      clear hF
      unfold frF
      refine wpAnyH_ready (rs := [8, 11]) (by kernel_rfl) (by simp) ?_
      refine (AllReadyH.cons rfl (fun K hK => ?_) (AllReadyH.cons rfl (fun K hK => ?_) AllReadyH.nil))
      · go_simp
        refine (C3.out _ HF.out.fb).mono ?_
        rintro _ W' ⟨aq, cq, rfl, hO⟩
        have HG := hide (HF.out.three hO)
        clear hO
        go_wp2_with fail
        refine hK.out _ _ (SS.out _ HG.out.fb) (fun hHeld => ?_)
        clear hK K hHeld
        try simp only [Act.put, List.getElem_toArray, List.getElem_cons_zero, List.getElem_cons_succ, List.setIfInBounds_toArray, List.set_cons_zero, List.set_cons_succ]
        exact H3011.out W' x y aq cq z gA gB gC HG.out
      · go_simp
        have HG := hide HF.out.boxA
        refine hK.out _ _ (SS.out _ HG.out.fb) (fun hHeld => ?_)
        clear hK K hHeld
        try simp only [Act.put, List.getElem_toArray, List.getElem_cons_zero, List.getElem_cons_succ, List.setIfInBounds_toArray, List.set_cons_zero, List.set_cons_succ]
        exact H2111.out _ x y aK cK z W.heap.size gB gC HG.out
    have H2101 : Hid (∀ (W : World) (x y : Pv) (aK : Option Addr) (cK : Nat) (z : Iv) (gA gB gC : Nat), Fs w1 W l r s i 2 x y aK cK z true false true gA gB gC → wpAnyH Try.prog .any ?OPS ?QQ ?SH 7 #[true, true, true, true, true, true, true, true, false, true, false, true, false, true, false, false, false, false] ⟨frF w.heap.size at' l r aS cS s t i (.pointer (some ⟨gA, 0, none⟩)) (undef) undef (.pointer (some ⟨gC, 0, none⟩)) (.agg x.cs) (.agg y.cs) (undef) (undef), []⟩ W) := by
      intro W x y aK cK z gA gB gC hF
      have HF := hide hF
      clear hF
      unfold frF
      refine wpAnyH_ready (rs := [8, 12]) (by kernel_rfl) (by simp) ?_
      refine (AllReadyH.cons rfl (fun K hK => ?_) (AllReadyH.cons rfl (fun K hK => ?_) AllReadyH.nil))
      · go_simp
        refine (C3.out _ HF.out.fb).mono ?_
        rintro _ W' ⟨aq, cq, rfl, hO⟩
        have HG := hide (HF.out.three hO)
        clear hO
        go_wp2_with fail
        refine hK.out _ _ (SS.out _ HG.out.fb) (fun hHeld => ?_)
        clear hK K hHeld
        try simp only [Act.put, List.getElem_toArray, List.getElem_cons_zero, List.getElem_cons_succ, List.setIfInBounds_toArray, List.set_cons_zero, List.set_cons_succ]
        exact H3101.out W' x y aq cq z gA gB gC HG.out
      · go_simp
        have HG := hide HF.out.boxB
        refine hK.out _ _ (SS.out _ HG.out.fb) (fun hHeld => ?_)
        clear hK K hHeld
        try simp only [Act.put, List.getElem_toArray, List.getElem_cons_zero, List.getElem_cons_succ, List.setIfInBounds_toArray, List.set_cons_zero, List.set_cons_succ]
        exact H2111.out _ x y aK cK z gA W.heap.size gC HG.out
    have H2110 : Hid (∀ (W : World) (x y : Pv) (aK : Option Addr) (cK : Nat) (z : Iv) (gA gB gC : Nat), Fs w1 W l r s i 2 x y aK cK z true true false gA gB gC → wpAnyH Try.prog .any ?OPS ?QQ ?SH 7 #[true, true, true, true, true, true, true, true, false, true, false, true, true, false, false, false, false, false] ⟨frF w.heap.size at' l r aS cS s t i (.pointer (some ⟨gA, 0, none⟩)) (.pointer (some ⟨gB, 0, none⟩)) undef (undef) (.agg x.cs) (.agg y.cs) (undef) (undef), []⟩ W) := by
      intro W x y aK cK z gA gB gC hF
      have HF := hide hF
      clear hF
      unfold frF
      refine wpAnyH_ready (rs := [8, 13]) (by kernel_rfl) (by simp) ?_
      refine (AllReadyH.cons rfl (fun K hK => ?_) (AllReadyH.cons rfl (fun K hK => ?_) AllReadyH.nil))
      · go_simp
        refine (C3.out _ HF.out.fb).mono ?_
        rintro _ W' ⟨aq, cq, rfl, hO⟩
        have HG := hide (HF.out.three hO)
        clear hO
        go_wp2_with fail
        refine hK.out _ _ (SS.out _ HG.out.fb) (fun hHeld => ?_)
        clear hK K hHeld
        try simp only [Act.put, List.getElem_toArray, List.getElem_cons_zero, List.getElem_cons_succ, List.setIfInBounds_toArray, List.set_cons_zero, List.set_cons_succ]
        exact H3110.out W' x y aq cq z gA gB gC HG.out
      · go_simp
        have HG := hide HF.out.boxC
        refine hK.out _ _ (SS.out _ HG.out.fb) (fun hHeld => ?_)
        clear hK K hHeld
        try simp only [Act.put, List.getElem_toArray, List.getElem_cons_zero, List.getElem_cons_succ, List.setIfInBounds_toArray, List.set_cons_zero, List.set_cons_succ]
        exact H2111.out _ x y aK cK z gA gB W.heap.size HG.out
    have H3001 : Hid (∀ (W : World) (x y : Pv) (aK : Option Addr) (cK : Nat) (z : Iv) (gA gB gC : Nat), Fs w1 W l r s i 3 x y aK cK z false false true gA gB gC → wpAnyH Try.prog .any ?OPS ?QQ ?SH 7 #[true, true, true, true, true, true, true, true, true, true, false, false, false, true, false, false, false, false] ⟨frF w.heap.size at' l r aS cS s t i (undef) (undef) undef (.pointer (some ⟨gC, 0, none⟩)) (.agg x.cs) (.agg y.cs) (.slice aK s.length cK) (undef), []⟩ W) := by
      intro W x y aK cK z gA gB gC hF
      have HF := hide hF
      clear hF
      unfold frF
      refine wpAnyH_ready (rs := [10, 11, 12]) (by kernel_rfl) (by simp) ?_
      refine (AllReadyH.cons rfl (fun K hK => ?_) (AllReadyH.cons rfl (fun K hK => ?_) (AllReadyH.cons rfl (fun K hK => ?_) AllReadyH.nil)))
      · go_simp
        refine (C4.out _ HF.out.fb).mono ?_
        rintro _ W' ⟨q, rfl, hO, hE⟩
        have HG := hide (HF.out.four hO hE)
        clear hO hE
        go_wp2_with fail
        refine hK.out _ _ (SS.out _ HG.out.fb) (fun hHeld => ?_)
        clear hK K hHeld
        try simp only [Act.put, List.getElem_toArray, List.getElem_cons_zero, List.getElem_cons_succ, List.setIfInBounds_toArray, List.set_cons_zero, List.set_cons_succ]
        exact H4001.out W' x y aK cK q gA gB gC HG.out
      · go_simp
        have HG := hide HF.out.boxA
        refine hK.out _ _ (SS.out _ HG.out.fb) (fun hHeld => ?_)
        clear hK K hHeld
        try simp only [Act.put, List.getElem_toArray, List.getElem_cons_zero, List.getElem_cons_succ, List.setIfInBounds_toArray, List.set_cons_zero, List.set_cons_succ]
        exact H3101.out _ x y aK cK z W.heap.size gB gC HG.out
      · go_simp
        have HG := hide HF.out.boxB
        refine hK.out _ _ (SS.out _ HG.out.fb) (fun hHeld => ?_)
        clear hK K hHeld
        try simp only [Act.put, List.getElem_toArray, List.getElem_cons_zero, List.getElem_cons_succ, List.setIfInBounds_toArray, List.set_cons_zero, List.set_cons_succ]
        exact H3011.out _ x y aK cK z gA W.heap.size gC HG.out
    have H3010 : Hid (∀ (W : World) (x y : Pv) (aK : Option Addr) (cK : Nat) (z : Iv) (gA gB gC : Nat), Fs w1 W l r s i 3 x y aK cK z false true false gA gB gC → wpAnyH Try.prog .any ?OPS ?QQ ?SH 7 #[true, true, true, true, true, true, true, true, true, true, false, false, true, false, false, false, false, false] ⟨frF w.heap.size at' l r aS cS s t i (undef) (.pointer (some ⟨gB, 0, none⟩)) undef (undef) (.agg x.cs) (.agg y.cs) (.slice aK s.length cK) (undef), []⟩ W) := by
      intro W x y aK cK z gA gB gC hF
      have HF := hide hF
      clear hF
      unfold frF
      refine wpAnyH_ready (rs := [10, 11, 13]) (by kernel_rfl) (by simp) ?_
      refine (AllReadyH.cons rfl (fun K hK => ?_) (AllReadyH.cons rfl (fun K hK => ?_) (AllReadyH.cons rfl (fun K hK => ?_) AllReadyH.nil)))
      · go_simp
        refine (C4.out _ HF.out.fb).mono ?_
        rintro _ W' ⟨q, rfl, hO, hE⟩
        have HG := hide (HF.out.four hO hE)
        clear hO hE
        go_wp2_with fail
        refine hK.out _ _ (SS.out _ HG.out.fb) (fun hHeld => ?_)
        clear hK K hHeld
        try simp only [Act.put, List.getElem_toArray, List.getElem_cons_zero, List.getElem_cons_succ, List.setIfInBounds_toArray, List.set_cons_zero, List.set_cons_succ]
        exact H4010.out W' x y aK cK q gA gB gC HG.out
      · go_simp
        have HG := hide HF.out.boxA
        refine hK.out _ _ (SS.out _ HG.out.fb) (fun hHeld => ?_)
        clear hK K hHeld
        try simp only [Act.put, List.getElem_toArray, List.getElem_cons_zero, List.getElem_cons_succ, List.setIfInBounds_toArray, List.set_cons_zero, List.set_cons_succ]
        exact H3110.out _ x y aK cK z W.heap.size gB gC HG.out
      · go_simp
        have HG := hide HF.out.boxC
        refine hK.out _ _ (SS.out _ HG.out.fb) (fun hHeld => ?_)
        clear hK K hHeld
        try simp only [Act.put, List.getElem_toArray, List.getElem_cons_zero, List.getElem_cons_succ, List.setIfInBounds_toArray, List.set_cons_zero, List.set_cons_succ]
        exact H3011.out _ x y aK cK z gA gB W.heap.size HG.out
    have H3100 : Hid (∀ (W : World) (x y : Pv) (aK : Option Addr) (cK : Nat) (z : Iv) (gA gB gC : Nat), Fs w1 W l r s i 3 x y aK cK z true false false gA gB gC → wpAnyH Try.prog .any ?OPS ?QQ ?SH 7 #[true, true, true, true, true, true, true, true, true, true, false, true, false, false, false, false, false, false] ⟨frF w.heap.size at' l r aS cS s t i (.pointer (some ⟨gA, 0, none⟩)) (undef) undef (undef) (.agg x.cs) (.agg y.cs) (.slice aK s.length cK) (undef), []⟩ W) := by
      intro W x y aK cK z gA gB gC hF
      have HF := hide hF
      clear hF
      unfold frF
      refine wpAnyH_ready (rs := [10, 12, 13]) (by kernel_rfl) (by simp) ?_
      refine (AllReadyH.cons rfl (fun K hK => ?_) (AllReadyH.cons rfl (fun K hK => ?_) (AllReadyH.cons rfl (fun K hK => ?_) AllReadyH.nil)))
      · go_simp
        refine (C4.out _ HF.out.fb).mono ?_
        rintro _ W' ⟨q, rfl, hO, hE⟩
        have HG := hide (HF.out.four hO hE)
        clear hO hE
        go_wp2_with fail
        refine hK.out _ _ (SS.out _ HG.out.fb) (fun hHeld => ?_)
        clear hK K hHeld
        try simp only [Act.put, List.getElem_toArray, List.getElem_cons_zero, List.getElem_cons_succ, List.setIfInBounds_toArray, List.set_cons_zero, List.set_cons_succ]
        exact H4100.out W' x y aK cK q gA gB gC HG.out
      · go_simp
        have HG := hide HF.out.boxB
        refine hK.out _ _ (SS.out _ HG.out.fb) (fun hHeld => ?_)
        clear hK K hHeld
        try simp only [Act.put, List.getElem_toArray, List.getElem_cons_zero, List.getElem_cons_succ, List.setIfInBounds_toArray, List.set_cons_zero, List.set_cons_succ]
        exact H3110.out _ x y aK cK z gA W.heap.size gC HG.out
      · go_simp
        have HG := hide HF.out.boxC
        refine hK.out _ _ (SS.out _ HG.out.fb) (fun hHeld => ?_)
        clear hK K hHeld
        try simp only [Act.put, List.getElem_toArray, List.getElem_cons_zero, List.getElem_cons_succ, List.setIfInBounds_toArray, List.set_cons_zero, List.set_cons_succ]
        exact H3101.out _ x y aK cK z gA gB W.heap.size HG.out
    have H4000 : Hid (∀ (W : World) (x y : Pv) (aK : Option Addr) (cK : Nat) (z : Iv) (gA gB gC : Nat), Fs w1 W l r s i 4 x y aK cK z false false false gA gB gC → wpAnyH Try.prog .any ?OPS ?QQ ?SH 7 #[true, true, true, true, true, true, true, true, true, true, true, false, false, false, false, false, false, false] ⟨frF w.heap.size at' l r aS cS s t i (undef) (undef) undef (undef) (.agg x.cs) (.agg y.cs) (.slice aK s.length cK) (.agg z.cs), []⟩ W) := by
      intro W x y aK cK z gA gB gC hF
      have HF := hide hF
      clear hF
      unfold frF
      refine wpAnyH_ready (rs := [11, 12, 13]) (by kernel_rfl) (by simp) ?_
      refine (AllReadyH.cons rfl (fun K hK => ?_) (AllReadyH.cons rfl (fun K hK => ?_) (AllReadyH.cons rfl (fun K hK => ?_) AllReadyH.nil)))
      · go_simp
        have HG := hide HF.out.boxA
        refine hK.out _ _ (SS.out _ HG.out.fb) (fun hHeld => ?_)
        clear hK K hHeld
        try simp only [Act.put, List.getElem_toArray, List.getElem_cons_zero, List.getElem_cons_succ, List.setIfInBounds_toArray, List.set_cons_zero, List.set_cons_succ]
        exact H4100.out _ x y aK cK z W.heap.size gB gC HG.out
      · go_simp
        have HG := hide HF.out.boxB
        refine hK.out _ _ (SS.out _ HG.out.fb) (fun hHeld => ?_)
        clear hK K hHeld
        try simp only [Act.put, List.getElem_toArray, List.getElem_cons_zero, List.getElem_cons_succ, List.setIfInBounds_toArray, List.set_cons_zero, List.set_cons_succ]
        exact H4010.out _ x y aK cK z gA W.heap.size gC HG.out
      · go_simp
        have HG := hide HF.out.boxC
        refine hK.out _ _ (SS.out _ HG.out.fb) (fun hHeld => ?_)
        clear hK K hHeld
        try simp only [Act.put, List.getElem_toArray, List.getElem_cons_zero, List.getElem_cons_succ, List.setIfInBounds_toArray, List.set_cons_zero, List.set_cons_succ]
        exact H4001.out _ x y aK cK z gA gB W.heap.size HG.out
    have H0111 : Hid (∀ (W : World) (x y : Pv) (aK : Option Addr) (cK : Nat) (z : Iv) (gA gB gC : Nat), Fs w1 W l r s i 0 x y aK cK z true true true gA gB gC → wpAnyH Try.prog .any ?OPS ?QQ ?SH 8 #[true, true, false, true, true, false, true, true, false, true, false, true, true, true, false, false, false, false] ⟨frF w.heap.size at' l r aS cS s t i (.pointer (some ⟨gA, 0, none⟩)) (.pointer (some ⟨gB, 0, none⟩)) undef (.pointer (some ⟨gC, 0, none⟩)) (undef) (undef) (undef) (undef), []⟩ W) := by
      intro W x y aK cK z gA gB gC hF
      have HF := hide hF
      clear hF
      unfold frF
      refine wpAnyH_ready (rs := [2]) (by kernel_rfl) (by simp) ?_
      refine (AllReadyH.cons rfl (fun K hK => ?_) AllReadyH.nil)
      · go_simp
        refine (C1.out _ HF.out.fb).mono ?_
        rintro _ W' ⟨q, rfl, hS, -, hE, hb⟩
        have HG := hide (HF.out.one hS hE hb)
        clear hS hE hb
        go_wp2_with fail
        refine hK.out _ _ (SS.out _ HG.out.fb) (fun hHeld => ?_)
        clear hK K hHeld
        try simp only [Act.put, List.getElem_toArray, List.getElem_cons_zero, List.getElem_cons_succ, List.setIfInBounds_toArray, List.set_cons_zero, List.set_cons_succ]
        exact H1111.out W' q y aK cK z gA gB gC HG.out
    have H1011 : Hid (∀ (W : World) (x y : Pv) (aK : Option Addr) (cK : Nat) (z : Iv) (gA gB gC : Nat), Fs w1 W l r s i 1 x y aK cK z false true true gA gB gC → wpAnyH Try.prog .any ?OPS ?QQ ?SH 8 #[true, true, true, true, true, false, true, true, false, true, false, false, true, true, false, false, false, false] ⟨frF w.heap.size at' l r aS cS s t i (undef) (.pointer (some ⟨gB, 0, none⟩)) undef (.pointer (some ⟨gC, 0, none⟩)) (.agg x.cs) (undef) (undef) (undef), []⟩ W) := by
      intro W x y aK cK z gA gB gC hF
      have HF := hide hF
      clear hF
      unfold frF
      refine wpAnyH_ready (rs := [5, 11]) (by kernel_rfl) (by simp) ?_
      refine (AllReadyH.cons rfl (fun K hK => ?_) (AllReadyH.cons rfl (fun K hK => ?_) AllReadyH.nil))
      · go_simp
        refine (C2.out _ HF.out.fb).mono ?_
        rintro _ W' ⟨q, rfl, hS, -, hE, hb⟩
        have HG := hide (HF.out.two hS hE hb)
        clear hS hE hb
        go_wp2_with fail
        refine hK.out _ _ (SS.out _ HG.out.fb) (fun hHeld => ?_)
        clear hK K hHeld
        try simp only [Act.put, List.getElem_toArray, List.getElem_cons_zero, List.getElem_cons_succ, List.setIfInBounds_toArray, List.set_cons_zero, List.set_cons_succ]
        exact H2011.out W' x q aK cK z gA gB gC HG.out
      · go_simp
        have HG := hide HF.out.boxA
        refine hK.out _ _ (SS.out _ HG.out.fb) (fun hHeld => ?_)
        clear hK K hHeld
        try simp only [Act.put, List.getElem_toArray, List.getElem_cons_zero, List.getElem_cons_succ, List.setIfInBounds_toArray, List.set_cons_zero, List.set_cons_succ]
        exact H1111.out _ x y aK cK z W.heap.size gB gC HG.out
    have H1101 : Hid (∀ (W : World) (x y : Pv) (aK : Option Addr) (cK : Nat) (z : Iv) (gA gB gC : Nat), Fs w1 W l r s i 1 x y aK cK z true false true gA gB gC → wpAnyH Try.prog .any ?OPS ?QQ ?SH 8 #[true, true, true, true, true, false, true, true, false, true, false, true, false, true, false, false, false, false] ⟨frF w.heap.size at' l r aS cS s t i (.pointer (some ⟨gA, 0, none⟩)) (undef) undef (.pointer (some ⟨gC, 0, none⟩)) (.agg x.cs) (undef) (undef) (undef), []⟩ W) := by
      intro W x y aK cK z gA gB gC hF
      have HF := hide hF
      clear hF
      unfold frF
      refine wpAnyH_ready (rs := [5, 12]) (by kernel_rfl) (by simp) ?_
      refine (AllReadyH.cons rfl (fun K hK => ?_) (AllReadyH.cons rfl (fun K hK => ?_) AllReadyH.nil))
      · go_simp
        refine (C2.out _ HF.out.fb).mono ?_
        rintro _ W' ⟨q, rfl, hS, -, hE, hb⟩
        have HG := hide (HF.out.two hS hE hb)
        clear hS hE hb
        go_wp2_with fail
        refine hK.out _ _ (SS.out _ HG.out.fb) (fun hHeld => ?_)
        clear hK K hHeld
        try simp only [Act.put, List.getElem_toArray, List.getElem_cons_zero, List.getElem_cons_succ, List.setIfInBounds_toArray, List.set_cons_zero, List.set_cons_succ]
        exact H2101.out W' x q aK cK z gA gB gC HG.out
      · go_simp
        have HG := hide HF.out.boxB
        refine hK.out _ _ (SS.out _ HG.out.fb) (fun hHeld => ?_)
        clear hK K hHeld
        try simp only [Act.put, List.getElem_toArray, List.getElem_cons_zero, List.getElem_cons_succ, List.setIfInBounds_toArray, List.set_cons_zero, List.set_cons_succ]
        exact H1111.out _ x y aK cK z gA W.heap.size gC HG.out
    have H1110 : Hid (∀ (W : World) (x y : Pv) (aK : Option Addr) (cK : Nat) (z : Iv) (gA gB gC : Nat), Fs w1 W l r s i 1 x y aK cK z true true false gA gB gC → wpAnyH Try.prog .any ?OPS ?QQ ?SH 8 #[true, true, true, true, true, false, true, true, false, true, false, true, true, false, false, false, false, false] ⟨frF w.heap.size at' l r aS cS s t i (.pointer (some ⟨gA, 0, none⟩)) (.pointer (some ⟨gB, 0, none⟩)) undef (undef) (.agg x.cs) (undef) (undef) (undef), []⟩ W) := by
      intro W x y aK cK z gA gB gC hF
      have HF := hide hF
      clear hF
      unfold frF
      refine wpAnyH_ready (rs := [5, 13]) (by kernel_rfl) (by simp) ?_
      refine (AllReadyH.cons rfl (fun K hK => ?_) (AllReadyH.cons rfl (fun K hK => ?_) AllReadyH.nil))
      · go_simp
        refine (C2.out _ HF.out.fb).mono ?_
        rintro _ W' ⟨q, rfl, hS, -, hE, hb⟩
        have HG := hide (HF.out.two hS hE hb)
        clear hS hE hb
        go_wp2_with fail
        refine hK.out _ _ (SS.out _ HG.out.fb) (fun hHeld => ?_)
        clear hK K hHeld
        try simp only [Act.put, List.getElem_toArray, List.getElem_cons_zero, List.getElem_cons_succ, List.setIfInBounds_toArray, List.set_cons_zero, List.set_cons_succ]
        exact H2110.out W' x q aK cK z gA gB gC HG.out
      · go_simp
        have HG := hide HF.out.boxC
        refine hK.out _ _ (SS.out _ HG.out.fb) (fun hHeld => ?_)
        clear hK K hHeld
        try simp only [Act.put, List.getElem_toArray, List.getElem_cons_zero, List.getElem_cons_succ, List.setIfInBounds_toArray, List.set_cons_zero, List.set_cons_succ]
        exact H1111.out _ x y aK cK z gA gB W.heap.size HG.out
    have H2001 : Hid (∀ (W : World) (x y : Pv) (aK : Option Addr) (cK : Nat) (z : Iv) (gA gB gC : Nat), Fs w1 W l r s i 2 x y aK cK z false false true gA gB gC → wpAnyH Try.prog .any ?OPS ?QQ ?SH 8 #[true, true, true, true, true, true, true, true, false, true, false, false, false, true, false, false, false, false] ⟨frF w.heap.size at' l r aS cS s t i (undef) (undef) undef (.pointer (some ⟨gC, 0, none⟩)) (.agg x.cs) (.agg y.cs) (undef) (undef), []⟩ W) := by
      intro W x y aK cK z gA gB gC hF
      have HF := hide hF
      clear hF
      unfold frF
      refine wpAnyH_ready (rs := [8, 11, 12]) (by kernel_rfl) (by simp) ?_
      refine (AllReadyH.cons rfl (fun K hK => ?_) (AllReadyH.cons rfl (fun K hK => ?_) (AllReadyH.cons rfl (fun K hK => ?_) AllReadyH.nil)))
      · go_simp
        refine (C3.out _ HF.out.fb).mono ?_
        rintro _ W' ⟨aq, cq, rfl, hO⟩
        have HG := hide (HF.out.three hO)
        clear hO
        go_wp2_with fail
        refine hK.out _ _ (SS.out _ HG.out.fb) (fun hHeld => ?_)
        clear hK K hHeld
        try simp only [Act.put, List.getElem_toArray, List.getElem_cons_zero, List.getElem_cons_succ, List.setIfInBounds_toArray, List.set_cons_zero, List.set_cons_succ]
        exact H3001.out W' x y aq cq z gA gB gC HG.out
      · go_simp
        have HG := hide HF.out.boxA
        refine hK.out _ _ (SS.out _ HG.out.fb) (fun hHeld => ?_)
        clear hK K hHeld
        try simp only [Act.put, List.getElem_toArray, List.getElem_cons_zero, List.getElem_cons_succ, List.setIfInBounds_toArray, List.set_cons_zero, List.set_cons_succ]
        exact H2101.out _ x y aK cK z W.heap.size gB gC HG.out
      · go_simp
        have HG := hide HF.out.boxB
        refine hK.out _ _ (SS.out _ HG.out.fb) (fun hHeld => ?_)
        clear hK K hHeld
        try simp only [Act.put, List.getElem_toArray, List.getElem_cons_zero, List.getElem_cons_succ, List.setIfInBounds_toArray, List.set_cons_zero, List.set_cons_succ]
        exact H2011.out _ x y aK cK z gA W.heap.size gC HG.out
    have H2010 : Hid (∀ (W : World) (x y : Pv) (aK : Option Addr) (cK : Nat) (z : Iv) (gA gB gC : Nat), Fs w1 W l r s i 2 x y aK cK z false true false gA gB gC → wpAnyH Try.prog .any ?OPS ?QQ ?SH 8 #[true, true, true, true, true, true, true, true, false, true, false, false, true, false, false, false, false, false] ⟨frF w.heap.size at' l r aS cS s t i (undef) (.pointer (some ⟨gB, 0, none⟩)) undef (undef) (.agg x.cs) (.agg y.cs) (undef) (undef), []⟩ W) := by
      intro W x y aK cK z gA gB gC hF
      have HF := hide hF
      clear hF
      unfold frF
      refine wpAnyH_ready (rs := [8, 11, 13]) (by kernel_rfl) (by simp) ?_
      refine (AllReadyH.cons rfl (fun K hK => ?_) (AllReadyH.cons rfl (fun K hK => ?_) (AllReadyH.cons rfl (fun K hK => ?_) AllReadyH.nil)))
      · go_simp
        refine (C3.out _ HF.out.fb).mono ?_
        rintro _ W' ⟨aq, cq, rfl, hO⟩
        have HG := hide (HF.out.three hO)
        clear hO
        go_wp2_with fail
        refine hK.out _ _ (SS.out _ HG.out.fb) (fun hHeld => ?_)
        clear hK K hHeld
        try simp only [Act.put, List.getElem_toArray, List.getElem_cons_zero, List.getElem_cons_succ, List.setIfInBounds_toArray, List.set_cons_zero, List.set_cons_succ]
        exact H3010.out W' x y aq cq z gA gB gC HG.out
      · go_simp
        have HG := hide HF.out.boxA
        refine hK.out _ _ (SS.out _ HG.out.fb) (fun hHeld => ?_)
        clear hK K hHeld
        try simp only [Act.put, List.getElem_toArray, List.getElem_cons_zero, List.getElem_cons_succ, List.setIfInBounds_toArray, List.set_cons_zero, List.set_cons_succ]
        exact H2110.out _ x y aK cK z W.heap.size gB gC HG.out
      · go_simp
        have HG := hide HF.out.boxC
        refine hK.out _ _ (SS.out _ HG.out.fb) (fun hHeld => ?_)
        clear hK K hHeld
        try simp only [Act.put, List.getElem_toArray, List.getElem_cons_zero, List.getElem_cons_succ, List.setIfInBounds_toArray, List.set_cons_zero, List.set_cons_succ]
        exact H2011.out _ x y aK cK z gA gB W.heap.size HG.out
    have H2100 : Hid (∀ (W : World) (x y : Pv) (aK : Option Addr) (cK : Nat) (z : Iv) (gA gB gC : Nat), Fs w1 W l r s i 2 x y aK cK z true false false gA gB gC → wpAnyH Try.prog .any ?OPS ?QQ ?SH 8 #[true, true, true, true, true, true, true, true, false, true, false, true, false, false, false, false, false, false] ⟨frF w.heap.size at' l r aS cS s t i (.pointer (some ⟨gA, 0, none⟩)) (undef) undef (undef) (.agg x.cs) (.agg y.cs) (undef) (undef), []⟩ W) := by
      intro W x y aK cK z gA gB gC hF
      have HF := hide hF
      clear hF
      unfold frF
      refine wpAnyH_ready (rs := [8, 12, 13]) (by kernel_rfl) (by simp) ?_
      refine (AllReadyH.cons rfl (fun K hK => ?_) (AllReadyH.cons rfl (fun K hK => ?_) (AllReadyH.cons rfl (fun K hK => ?_) AllReadyH.nil)))
      · go_simp
        refine (C3.out _ HF.out.fb).mono ?_
        rintro _ W' ⟨aq, cq, rfl, hO⟩
        have HG := hide (HF.out.three hO)
        clear hO
        go_wp2_with fail
        refine hK.out _ _ (SS.out _ HG.out.fb) (fun hHeld => ?_)
        clear hK K hHeld
        try simp only [Act.put, List.getElem_toArray, List.getElem_cons_zero, List.getElem_cons_succ, List.setIfInBounds_toArray, List.set_cons_zero, List.set_cons_succ]
        exact H3100.out W' x y aq cq z gA gB gC HG.out
      · go_simp
        have HG := hide HF.out.boxB
        refine hK.out _ _ (SS.out _ HG.out.fb) (fun hHeld => ?_)
        clear hK K hHeld
        try simp only [Act.put, List.getElem_toArray, List.getElem_cons_zero, List.getElem_cons_succ, List.setIfInBounds_toArray, List.set_cons_zero, List.set_cons_succ]
        exact H2110.out _ x y aK cK z gA W.heap.size gC HG.out
      · go_simp
        have HG := hide HF.out.boxC
        refine hK.out _ _ (SS.out _ HG.out.fb) (fun hHeld => ?_)
        clear hK K hHeld
        try simp only [Act.put, List.getElem_toArray, List.getElem_cons_zero, List.getElem_cons_succ, List.setIfInBounds_toArray, List.set_cons_zero, List.set_cons_succ]
        exact H2101.out _ x y aK cK z gA gB W.heap.size HG.out
    have H3000 : Hid (∀ (W : World) (x y : Pv) (aK : Option Addr) (cK : Nat) (z : Iv) (gA gB gC : Nat), Fs w1 W l r s i 3 x y aK cK z false false false gA gB gC → wpAnyH Try.prog .any ?OPS ?QQ ?SH 8 #[true, true, true, true, true, true, true, true, true, true, false, false, false, false, false, false, false, false] ⟨frF w.heap.size at' l r aS cS s t i (undef) (undef) undef (undef) (.agg x.cs) (.agg y.cs) (.slice aK s.length cK) (undef), []⟩ W) := by
      intro W x y aK cK z gA gB gC hF
      have HF := hide hF
      clear hF
      unfold frF
      refine wpAnyH_ready (rs := [10, 11, 12, 13]) (by kernel_rfl) (by simp) ?_
      refine (AllReadyH.cons rfl (fun K hK => ?_) (AllReadyH.cons rfl (fun K hK => ?_) (AllReadyH.cons rfl (fun K hK => ?_) (AllReadyH.cons rfl (fun K hK => ?_) AllReadyH.nil))))
      · go_simp
        refine (C4.out _ HF.out.fb).mono ?_
        rintro _ W' ⟨q, rfl, hO, hE⟩
        have HG := hide (HF.out.four hO hE)
        clear hO hE
        go_wp2_with fail
        refine hK.out _ _ (SS.out _ HG.out.fb) (fun hHeld => ?_)
        clear hK K hHeld
        try simp only [Act.put, List.getElem_toArray, List.getElem_cons_zero, List.getElem_cons_succ, List.setIfInBounds_toArray, List.set_cons_zero, List.set_cons_succ]
        exact H4000.out W' x y aK cK q gA gB gC HG.out
      · go_simp
        have HG := hide HF.out.boxA
        refine hK.out _ _ (SS.out _ HG.out.fb) (fun hHeld => ?_)
        clear hK K hHeld
        try simp only [Act.put, List.getElem_toArray, List.getElem_cons_zero, List.getElem_cons_succ, List.setIfInBounds_toArray, List.set_cons_zero, List.set_cons_succ]
        exact H3100.out _ x y aK cK z W.heap.size gB gC HG.out
      · go_simp
        have HG := hide HF.out.boxB
        refine hK.out _ _ (SS.out _ HG.out.fb) (fun hHeld => ?_)
        clear hK K hHeld
        try simp only [Act.put, List.getElem_toArray, List.getElem_cons_zero, List.getElem_cons_succ, List.setIfInBounds_toArray, List.set_cons_zero, List.set_cons_succ]
        exact H3010.out _ x y aK cK z gA W.heap.size gC HG.out
      · go_simp
        have HG := hide HF.out.boxC
        refine hK.out _ _ (SS.out _ HG.out.fb) (fun hHeld => ?_)
        clear hK K hHeld
        try simp only [Act.put, List.getElem_toArray, List.getElem_cons_zero, List.getElem_cons_succ, List.setIfInBounds_toArray, List.set_cons_zero, List.set_cons_succ]
        exact H3001.out _ x y aK cK z gA gB W.heap.size HG.out
    have H0011 : Hid (∀ (W : World) (x y : Pv) (aK : Option Addr) (cK : Nat) (z : Iv) (gA gB gC : Nat), Fs w1 W l r s i 0 x y aK cK z false true true gA gB gC → wpAnyH Try.prog .any ?OPS ?QQ ?SH 9 #[true, true, false, true, true, false, true, true, false, true, false, false, true, true, false, false, false, false] ⟨frF w.heap.size at' l r aS cS s t i (undef) (.pointer (some ⟨gB, 0, none⟩)) undef (.pointer (some ⟨gC, 0, none⟩)) (undef) (undef) (undef) (undef), []⟩ W) := by
      intro W x y aK cK z gA gB gC hF
      have HF := hide hF
      clear hF
      unfold frF
      refine wpAnyH_ready (rs := [2, 11]) (by kernel_rfl) (by simp) ?_
      refine (AllReadyH.cons rfl (fun K hK => ?_) (AllReadyH.cons rfl (fun K hK => ?_) AllReadyH.nil))
      · go_simp
        refine (C1.out _ HF.out.fb).mono ?_
        rintro _ W' ⟨q, rfl, hS, -, hE, hb⟩
        have HG := hide (HF.out.one hS hE hb)
        clear hS hE hb
        go_wp2_with fail
        refine hK.out _ _ (SS.out _ HG.out.fb) (fun hHeld => ?_)
        clear hK K hHeld
        try simp only [Act.put, List.getElem_toArray, List.getElem_cons_zero, List.getElem_cons_succ, List.setIfInBounds_toArray, List.set_cons_zero, List.set_cons_succ]
        exact H1011.out W' q y aK cK z gA gB gC HG.out
      · go_simp
        have HG := hide HF.out.boxA
        refine hK.out _ _ (SS.out _ HG.out.fb) (fun hHeld => ?_)
        clear hK K hHeld
        try simp only [Act.put, List.getElem_toArray, List.getElem_cons_zero, List.getElem_cons_succ, List.setIfInBounds_toArray, List.set_cons_zero, List.set_cons_succ]
        exact H0111.out _ x y aK cK z W.heap.size gB gC HG.out
    have H0101 : Hid (∀ (W : World) (x y : Pv) (aK : Option Addr) (cK : Nat) (z : Iv) (gA gB gC : Nat), Fs w1 W l r s i 0 x y aK cK z true false true gA gB gC → wpAnyH Try.prog .any ?OPS ?QQ ?SH 9 #[true, true, false, true, true, false, true, true, false, true, false, true, false, true, false, false, false, false] ⟨frF w.heap.size at' l r aS cS s t i (.pointer (some ⟨gA, 0, none⟩)) (undef) undef (.pointer (some ⟨gC, 0, none⟩)) (undef) (undef) (undef) (undef), []⟩ W) := by
      intro W x y aK cK z gA gB gC hF
      have HF := hide hF
      clear hF
      unfold frF
      refine wpAnyH_ready (rs := [2, 12]) (by kernel_rfl) (by simp) ?_
      refine (AllReadyH.cons rfl (fun K hK => ?_) (AllReadyH.cons rfl (fun K hK => ?_) AllReadyH.nil))
      · go_simp
        refine (C1.out _ HF.out.fb).mono ?_
        rintro _ W' ⟨q, rfl, hS, -, hE, hb⟩
        have HG := hide (HF.out.one hS hE hb)
        clear hS hE hb
        go_wp2_with fail
        refine hK.out _ _ (SS.out _ HG.out.fb) (fun hHeld => ?_)
        clear hK K hHeld
        try simp only [Act.put, List.getElem_toArray, List.getElem_cons_zero, List.getElem_cons_succ, List.setIfInBounds_toArray, List.set_cons_zero, List.set_cons_succ]
        exact H1101.out W' q y aK cK z gA gB gC HG.out
      · go_simp
        have HG := hide HF.out.boxB
        refine hK.out _ _ (SS.out _ HG.out.fb) (fun hHeld => ?_)
        clear hK K hHeld
        try simp only [Act.put, List.getElem_toArray, List.getElem_cons_zero, List.getElem_cons_succ, List.setIfInBounds_toArray, List.set_cons_zero, List.set_cons_succ]
        exact H0111.out _ x y aK cK z gA W.heap.size gC HG.out
    have H0110 : Hid (∀ (W : World) (x y : Pv) (aK : Option Addr) (cK : Nat) (z : Iv) (gA gB gC : Nat), Fs w1 W l r s i 0 x y aK cK z true true false gA gB gC → wpAnyH Try.prog .any ?OPS ?QQ ?SH 9 #[true, true, false, true, true, false, true, true, false, true, false, true, true, false, false, false, false, false] ⟨frF w.heap.size at' l r aS cS s t i (.pointer (some ⟨gA, 0, none⟩)) (.pointer (some ⟨gB, 0, none⟩)) undef (undef) (undef) (undef) (undef) (undef), []⟩ W) := by
      intro W x y aK cK z gA gB gC hF
      have HF := hide hF
      clear hF
      unfold frF
      refine wpAnyH_ready (rs := [2, 13]) (by kernel_rfl) (by simp) ?_
      refine (AllReadyH.cons rfl (fun K hK => ?_) (AllReadyH.cons rfl (fun K hK => ?_) AllReadyH.nil))
      · go_simp
        refine (C1.out _ HF.out.fb).mono ?_
        rintro _ W' ⟨q, rfl, hS, -, hE, hb⟩
        have HG := hide (HF.out.one hS hE hb)
        clear hS hE hb
        go_wp2_with fail
        refine hK.out _ _ (SS.out _ HG.out.fb) (fun hHeld => ?_)
        clear hK K hHeld
        try simp only [Act.put, List.getElem_toArray, List.getElem_cons_zero, List.getElem_cons_succ, List.setIfInBounds_toArray, List.set_cons_zero, List.set_cons_succ]
        exact H1110.out W' q y aK cK z gA gB gC HG.out
      · go_simp
        have HG := hide HF.out.boxC
        refine hK.out _ _ (SS.out _ HG.out.fb) (fun hHeld => ?_)
        clear hK K hHeld
        try simp only [Act.put, List.getElem_toArray, List.getElem_cons_zero, List.getElem_cons_succ, List.setIfInBounds_toArray, List.set_cons_zero, List.set_cons_succ]
        exact H0111.out _ x y aK cK z gA gB W.heap.size HG.out
    have H1001 : Hid (∀ (W : World) (x y : Pv) (aK : Option Addr) (cK : Nat) (z : Iv) (gA gB gC : Nat), Fs w1 W l r s i 1 x y aK cK z false false true gA gB gC → wpAnyH Try.prog .any ?OPS ?QQ ?SH 9 #[true, true, true, true, true, false, true, true, false, true, false, false, false, true, false, false, false, false] ⟨frF w.heap.size at' l r aS cS s t i (undef) (undef) undef (.pointer (some ⟨gC, 0, none⟩)) (.agg x.cs) (undef) (undef) (undef), []⟩ W) := by
      intro W x y aK cK z gA gB gC hF
      have HF := hide hF
      clear hF
      unfold frF
      refine wpAnyH_ready (rs := [5, 11, 12]) (by kernel_rfl) (by simp) ?_
      refine (AllReadyH.cons rfl (fun K hK => ?_) (AllReadyH.cons rfl (fun K hK => ?_) (AllReadyH.cons rfl (fun K hK => ?_) AllReadyH.nil)))
      · go_simp
        refine (C2.out _ HF.out.fb).mono ?_
        rintro _ W' ⟨q, rfl, hS, -, hE, hb⟩
        have HG := hide (HF.out.two hS hE hb)
        clear hS hE hb
        go_wp2_with fail
        refine hK.out _ _ (SS.out _ HG.out.fb) (fun hHeld => ?_)
        clear hK K hHeld
        try simp only [Act.put, List.getElem_toArray, List.getElem_cons_zero, List.getElem_cons_succ, List.setIfInBounds_toArray, List.set_cons_zero, List.set_cons_succ]
        exact H2001.out W' x q aK cK z gA gB gC HG.out
      · go_simp
        have HG := hide HF.out.boxA
        refine hK.out _ _ (SS.out _ HG.out.fb) (fun hHeld => ?_)
        clear hK K hHeld
        try simp only [Act.put, List.getElem_toArray, List.getElem_cons_zero, List.getElem_cons_succ, List.setIfInBounds_toArray, List.set_cons_zero, List.set_cons_succ]
        exact H1101.out _ x y aK cK z W.heap.size gB gC HG.out
      · go_simp
        have HG := hide HF.out.boxB
        refine hK.out _ _ (SS.out _ HG.out.fb) (fun hHeld => ?_)
        clear hK K hHeld
        try simp only [Act.put, List.getElem_toArray, List.getElem_cons_zero, List.getElem_cons_succ, List.setIfInBounds_toArray, List.set_cons_zero, List.set_cons_succ]
        exact H1011.out _ x y aK cK z gA W.heap.size gC HG.out
    have H1010 : Hid (∀ (W : World) (x y : Pv) (aK : Option Addr) (cK : Nat) (z : Iv) (gA gB gC : Nat), Fs w1 W l r s i 1 x y aK cK z false true false gA gB gC → wpAnyH Try.prog .any ?OPS ?QQ ?SH 9 #[true, true, true, true, true, false, true, true, false, true, false, false, true, false, false, false, false, false] ⟨frF w.heap.size at' l r aS cS s t i (undef) (.pointer (some ⟨gB, 0, none⟩)) undef (undef) (.agg x.cs) (undef) (undef) (undef), []⟩ W) := by
      intro W x y aK cK z gA gB gC hF
      have HF := hide hF
      clear hF
      unfold frF
      refine wpAnyH_ready (rs := [5, 11, 13]) (by kernel_rfl) (by simp) ?_
      refine (AllReadyH.cons rfl (fun K hK => ?_) (AllReadyH.cons rfl (fun K hK => ?_) (AllReadyH.cons rfl (fun K hK => ?_) AllReadyH.nil)))
      · go_simp
        refine (C2.out _ HF.out.fb).mono ?_
        rintro _ W' ⟨q, rfl, hS, -, hE, hb⟩
        have HG := hide (HF.out.two hS hE hb)
        clear hS hE hb
        go_wp2_with fail
        refine hK.out _ _ (SS.out _ HG.out.fb) (fun hHeld => ?_)
        clear hK K hHeld
        try simp only [Act.put, List.getElem_toArray, List.getElem_cons_zero, List.getElem_cons_succ, List.setIfInBounds_toArray, List.set_cons_zero, List.set_cons_succ]
        exact H2010.out W' x q aK cK z gA gB gC HG.out
      · go_simp
        have HG := hide HF.out.boxA
        refine hK.out _ _ (SS.out _ HG.out.fb) (fun hHeld => ?_)
        clear hK K hHeld
        try simp only [Act.put, List.getElem_toArray, List.getElem_cons_zero, List.getElem_cons_succ, List.setIfInBounds_toArray, List.set_cons_zero, List.set_cons_succ]
        exact H1110.out _ x y aK cK z W.heap.size gB gC HG.out
      · go_simp
        have HG := hide HF.out.boxC
        refine hK.out _ _ (SS.out _ HG.out.fb) (fun hHeld => ?_)
        clear hK K hHeld
        try simp only [Act.put, List.getElem_toArray, List.getElem_cons_zero, List.getElem_cons_succ, List.setIfInBounds_toArray, List.set_cons_zero, List.set_cons_succ]
        exact H1011.out _ x y aK cK z gA gB W.heap.size HG.out
    have H1100 : Hid (∀ (W : World) (x y : Pv) (aK : Option Addr) (cK : Nat) (z : Iv) (gA gB gC : Nat), Fs w1 W l r s i 1 x y aK cK z true false false gA gB gC → wpAnyH Try.prog .any ?OPS ?QQ ?SH 9 #[true, true, true, true, true, false, true, true, false, true, false, true, false, false, false, false, false, false] ⟨frF w.heap.size at' l r aS cS s t i (.pointer (some ⟨gA, 0, none⟩)) (undef) undef (undef) (.agg x.cs) (undef) (undef) (undef), []⟩ W) := by
      intro W x y aK cK z gA gB gC hF
      have HF := hide hF
      clear hF
      unfold frF
      refine wpAnyH_ready (rs := [5, 12, 13]) (by kernel_rfl) (by simp) ?_
      refine (AllReadyH.cons rfl (fun K hK => ?_) (AllReadyH.cons rfl (fun K hK => ?_) (AllReadyH.cons rfl (fun K hK => ?_) AllReadyH.nil)))
      · go_simp
        refine (C2.out _ HF.out.fb).mono ?_
        rintro _ W' ⟨q, rfl, hS, -, hE, hb⟩
        have HG := hide (HF.out.two hS hE hb)
        clear hS hE hb
        go_wp2_with fail
        refine hK.out _ _ (SS.out _ HG.out.fb) (fun hHeld => ?_)
        clear hK K hHeld
        try simp only [Act.put, List.getElem_toArray, List.getElem_cons_zero, List.getElem_cons_succ, List.setIfInBounds_toArray, List.set_cons_zero, List.set_cons_succ]
        exact H2100.out W' x q aK cK z gA gB gC HG.out
      · go_simp
        have HG := hide HF.out.boxB
        refine hK.out _ _ (SS.out _ HG.out.fb) (fun hHeld => ?_)
        clear hK K hHeld
        try simp only [Act.put, List.getElem_toArray, List.getElem_cons_zero, List.getElem_cons_succ, List.setIfInBounds_toArray, List.set_cons_zero, List.set_cons_succ]
        exact H1110.out _ x y aK cK z gA W.heap.size gC HG.out
      · go_simp
        have HG := hide HF.out.boxC
        refine hK.out _ _ (SS.out _ HG.out.fb) (fun hHeld => ?_)
        clear hK K hHeld
        try simp only [Act.put, List.getElem_toArray, List.getElem_cons_zero, List.getElem_cons_succ, List.setIfInBounds_toArray, List.set_cons_zero, List.set_cons_succ]
        exact H1101.out _ x y aK cK z gA gB W.heap.size HG.out
    have H2000 : Hid (∀ (W : World) (x y : Pv) (aK : Option Addr) (cK : Nat) (z : Iv) (gA gB gC : Nat), Fs w1 W l r s i 2 x y aK cK z false false false gA gB gC → wpAnyH Try.prog .any ?OPS ?QQ ?SH 9 #[true, true, true, true, true, true, true, true, false, true, false, false, false, false, false, false, false, false] ⟨frF w.heap.size at' l r aS cS s t i (undef) (undef) undef (undef) (.agg x.cs) (.agg y.cs) (undef) (undef), []⟩ W) := by
      intro W x y aK cK z gA gB gC hF
      have HF := hide hF
      clear hF
      unfold frF
      refine wpAnyH_ready (rs := [8, 11, 12, 13]) (by kernel_rfl) (by simp) ?_
      refine (AllReadyH.cons rfl (fun K hK => ?_) (AllReadyH.cons rfl (fun K hK => ?_) (AllReadyH.cons rfl (fun K hK => ?_) (AllReadyH.cons rfl (fun K hK => ?_) AllReadyH.nil))))
      · go_simp
        refine (C3.out _ HF.out.fb).mono ?_
        rintro _ W' ⟨aq, cq, rfl, hO⟩
        have HG := hide (HF.out.three hO)
        clear hO
        go_wp2_with fail
        refine hK.out _ _ (SS.out _ HG.out.fb) (fun hHeld => ?_)
        clear hK K hHeld
        try simp only [Act.put, List.getElem_toArray, List.getElem_cons_zero, List.getElem_cons_succ, List.setIfInBounds_toArray, List.set_cons_zero, List.set_cons_succ]
        exact H3000.out W' x y aq cq z gA gB gC HG.out
      · go_simp
        have HG := hide HF.out.boxA
        refine hK.out _ _ (SS.out _ HG.out.fb) (fun hHeld => ?_)
        clear hK K hHeld
        try simp only [Act.put, List.getElem_toArray, List.getElem_cons_zero, List.getElem_cons_succ, List.setIfInBounds_toArray, List.set_cons_zero, List.set_cons_succ]
        exact H2100.out _ x y aK cK z W.heap.size gB gC HG.out
      · go_simp
        have HG := hide HF.out.boxB
        refine hK.out _ _ (SS.out _ HG.out.fb) (fun hHeld => ?_)
        clear hK K hHeld
        try simp only [Act.put, List.getElem_toArray, List.getElem_cons_zero, List.getElem_cons_succ, List.setIfInBounds_toArray, List.set_cons_zero, List.set_cons_succ]
        exact H2010.out _ x y aK cK z gA W.heap.size gC HG.out
      · go_simp
        have HG := hide HF.out.boxC
        refine hK.out _ _ (SS.out _ HG.out.fb) (fun hHeld => ?_)
        clear hK K hHeld
        try simp only [Act.put, List.getElem_toArray, List.getElem_cons_zero, List.getElem_cons_succ, List.setIfInBounds_toArray, List.set_cons_zero, List.set_cons_succ]
        exact H2001.out _ x y aK cK z gA gB W.heap.size HG.out
    have H0001 : Hid (∀ (W : World) (x y : Pv) (aK : Option Addr) (cK : Nat) (z : Iv) (gA gB gC : Nat), Fs w1 W l r s i 0 x y aK cK z false false true gA gB gC → wpAnyH Try.prog .any ?OPS ?QQ ?SH 10 #[true, true, false, true, true, false, true, true, false, true, false, false, false, true, false, false, false, false] ⟨frF w.heap.size at' l r aS cS s t i (undef) (undef) undef (.pointer (some ⟨gC, 0, none⟩)) (undef) (undef) (undef) (undef), []⟩ W) := by
      intro W x y aK cK z gA gB gC hF
      have HF := hide hF
      clear hF
      unfold frF
      refine wpAnyH_ready (rs := [2, 11, 12]) (by kernel_rfl) (by simp) ?_
      refine (AllReadyH.cons rfl (fun K hK => ?_) (AllReadyH.cons rfl (fun K hK => ?_) (AllReadyH.cons rfl (fun K hK => ?_) AllReadyH.nil)))
      · go_simp
        refine (C1.out _ HF.out.fb).mono ?_
        rintro _ W' ⟨q, rfl, hS, -, hE, hb⟩
        have HG := hide (HF.out.one hS hE hb)
        clear hS hE hb
        go_wp2_with fail
        refine hK.out _ _ (SS.out _ HG.out.fb) (fun hHeld => ?_)
        clear hK K hHeld
        try simp only [Act.put, List.getElem_toArray, List.getElem_cons_zero, List.getElem_cons_succ, List.setIfInBounds_toArray, List.set_cons_zero, List.set_cons_succ]
        exact H1001.out W' q y aK cK z gA gB gC HG.out
      · go_simp
        have HG := hide HF.out.boxA
        refine hK.out _ _ (SS.out _ HG.out.fb) (fun hHeld => ?_)
        clear hK K hHeld
        try simp only [Act.put, List.getElem_toArray, List.getElem_cons_zero, List.getElem_cons_succ, List.setIfInBounds_toArray, List.set_cons_zero, List.set_cons_succ]
        exact H0101.out _ x y aK cK z W.heap.size gB gC HG.out
      · go_simp
        have HG := hide HF.out.boxB
        refine hK.out _ _ (SS.out _ HG.out.fb) (fun hHeld => ?_)
        clear hK K hHeld
        try simp only [Act.put, List.getElem_toArray, List.getElem_cons_zero, List.getElem_cons_succ, List.setIfInBounds_toArray, List.set_cons_zero, List.set_cons_succ]
        exact H0011.out _ x y aK cK z gA W.heap.size gC HG.out
    have H0010 : Hid (∀ (W : World) (x y : Pv) (aK : Option Addr) (cK : Nat) (z : Iv) (gA gB gC : Nat), Fs w1 W l r s i 0 x y aK cK z false true false gA gB gC → wpAnyH Try.prog .any ?OPS ?QQ ?SH 10 #[true, true, false, true, true, false, true, true, false, true, false, false, true, false, false, false, false, false] ⟨frF w.heap.size at' l r aS cS s t i (undef) (.pointer (some ⟨gB, 0, none⟩)) undef (undef) (undef) (undef) (undef) (undef), []⟩ W) := by
      intro W x y aK cK z gA gB gC hF
      have HF := hide hF
      clear hF
      unfold frF
      refine wpAnyH_ready (rs := [2, 11, 13]) (by kernel_rfl) (by simp) ?_
      refine (AllReadyH.cons rfl (fun K hK => ?_) (AllReadyH.cons rfl (fun K hK => ?_) (AllReadyH.cons rfl (fun K hK => ?_) AllReadyH.nil)))
      · go_simp
        refine (C1.out _ HF.out.fb).mono ?_
        rintro _ W' ⟨q, rfl, hS, -, hE, hb⟩
        have HG := hide (HF.out.one hS hE hb)
        clear hS hE hb
        go_wp2_with fail
        refine hK.out _ _ (SS.out _ HG.out.fb) (fun hHeld => ?_)
        clear hK K hHeld
        try simp only [Act.put, List.getElem_toArray, List.getElem_cons_zero, List.getElem_cons_succ, List.setIfInBounds_toArray, List.set_cons_zero, List.set_cons_succ]
        exact H1010.out W' q y aK cK z gA gB gC HG.out
      · go_simp
        have HG := hide HF.out.boxA
        refine hK.out _ _ (SS.out _ HG.out.fb) (fun hHeld => ?_)
        clear hK K hHeld
        try simp only [Act.put, List.getElem_toArray, List.getElem_cons_zero, List.getElem_cons_succ, List.setIfInBounds_toArray, List.set_cons_zero, List.set_cons_succ]
        exact H0110.out _ x y aK cK z W.heap.size gB gC HG.out
      · go_simp
        have HG := hide HF.out.boxC
        refine hK.out _ _ (SS.out _ HG.out.fb) (fun hHeld => ?_)
        clear hK K hHeld
        try simp only [Act.put, List.getElem_toArray, List.getElem_cons_zero, List.getElem_cons_succ, List.setIfInBounds_toArray, List.set_cons_zero, List.set_cons_succ]
        exact H0011.out _ x y aK cK z gA gB W.heap.size HG.out
    have H0100 : Hid (∀ (W : World) (x y : Pv) (aK : Option Addr) (cK : Nat) (z : Iv) (gA gB gC : Nat), Fs w1 W l r s i 0 x y aK cK z true false false gA gB gC → wpAnyH Try.prog .any ?OPS ?QQ ?SH 10 #[true, true, false, true, true, false, true, true, false, true, false, true, false, false, false, false, false, false] ⟨frF w.heap.size at' l r aS cS s t i (.pointer (some ⟨gA, 0, none⟩)) (undef) undef (undef) (undef) (undef) (undef) (undef), []⟩ W) := by
      intro W x y aK cK z gA gB gC hF
      have HF := hide hF
      clear hF
      unfold frF
      refine wpAnyH_ready (rs := [2, 12, 13]) (by kernel_rfl) (by simp) ?_
      refine (AllReadyH.cons rfl (fun K hK => ?_) (AllReadyH.cons rfl (fun K hK => ?_) (AllReadyH.cons rfl (fun K hK => ?_) AllReadyH.nil)))
      · go_simp
        refine (C1.out _ HF.out.fb).mono ?_
        rintro _ W' ⟨q, rfl, hS, -, hE, hb⟩
        have HG := hide (HF.out.one hS hE hb)
        clear hS hE hb
        go_wp2_with fail
        refine hK.out _ _ (SS.out _ HG.out.fb) (fun hHeld => ?_)
        clear hK K hHeld
        try simp only [Act.put, List.getElem_toArray, List.getElem_cons_zero, List.getElem_cons_succ, List.setIfInBounds_toArray, List.set_cons_zero, List.set_cons_succ]
        exact H1100.out W' q y aK cK z gA gB gC HG.out
      · go_simp
        have HG := hide HF.out.boxB
        refine hK.out _ _ (SS.out _ HG.out.fb) (fun hHeld => ?_)
        clear hK K hHeld
        try simp only [Act.put, List.getElem_toArray, List.getElem_cons_zero, List.getElem_cons_succ, List.setIfInBounds_toArray, List.set_cons_zero, List.set_cons_succ]
        exact H0110.out _ x y aK cK z gA W.heap.size gC HG.out
      · go_simp
        have HG := hide HF.out.boxC
        refine hK.out _ _ (SS.out _ HG.out.fb) (fun hHeld => ?_)
        clear hK K hHeld
        try simp only [Act.put, List.getElem_toArray, List.getElem_cons_zero, List.getElem_cons_succ, List.setIfInBounds_toArray, List.set_cons_zero, List.set_cons_succ]
        exact H0101.out _ x y aK cK z gA gB W.heap.size HG.out
    have H1000 : Hid (∀ (W : World) (x y : Pv) (aK : Option Addr) (cK : Nat) (z : Iv) (gA gB gC : Nat), Fs w1 W l r s i 1 x y aK cK z false false false gA gB gC → wpAnyH Try.prog .any ?OPS ?QQ ?SH 10 #[true, true, true, true, true, false, true, true, false, true, false, false, false, false, false, false, false, false] ⟨frF w.heap.size at' l r aS cS s t i (undef) (undef) undef (undef) (.agg x.cs) (undef) (undef) (undef), []⟩ W) := by
      intro W x y aK cK z gA gB gC hF
      have HF := hide hF
      clear hF
      unfold frF
      refine wpAnyH_ready (rs := [5, 11, 12, 13]) (by kernel_rfl) (by simp) ?_
      refine (AllReadyH.cons rfl (fun K hK => ?_) (AllReadyH.cons rfl (fun K hK => ?_) (AllReadyH.cons rfl (fun K hK => ?_) (AllReadyH.cons rfl (fun K hK => ?_) AllReadyH.nil))))
      · go_simp
        refine (C2.out _ HF.out.fb).mono ?_
        rintro _ W' ⟨q, rfl, hS, -, hE, hb⟩
        have HG := hide (HF.out.two hS hE hb)
        clear hS hE hb
        go_wp2_with fail
        refine hK.out _ _ (SS.out _ HG.out.fb) (fun hHeld => ?_)
        clear hK K hHeld
        try simp only [Act.put, List.getElem_toArray, List.getElem_cons_zero, List.getElem_cons_succ, List.setIfInBounds_toArray, List.set_cons_zero, List.set_cons_succ]
        exact H2000.out W' x q aK cK z gA gB gC HG.out
      · go_simp
        have HG := hide HF.out.boxA
        refine hK.out _ _ (SS.out _ HG.out.fb) (fun hHeld => ?_)
        clear hK K hHeld
        try simp only [Act.put, List.getElem_toArray, List.getElem_cons_zero, List.getElem_cons_succ, List.setIfInBounds_toArray, List.set_cons_zero, List.set_cons_succ]
        exact H1100.out _ x y aK cK z W.heap.size gB gC HG.out
      · go_simp
        have HG := hide HF.out.boxB
        refine hK.out _ _ (SS.out _ HG.out.fb) (fun hHeld => ?_)
        clear hK K hHeld
        try simp only [Act.put, List.getElem_toArray, List.getElem_cons_zero, List.getElem_cons_succ, List.setIfInBounds_toArray, List.set_cons_zero, List.set_cons_succ]
        exact H1010.out _ x y aK cK z gA W.heap.size gC HG.out
      · go_simp
        have HG := hide HF.out.boxC
        refine hK.out _ _ (SS.out _ HG.out.fb) (fun hHeld => ?_)
        clear hK K hHeld
        try simp only [Act.put, List.getElem_toArray, List.getElem_cons_zero, List.getElem_cons_succ, List.setIfInBounds_toArray, List.set_cons_zero, List.set_cons_succ]
        exact H1001.out _ x y aK cK z gA gB W.heap.size HG.out
    have H0000 : Hid (∀ (W : World) (x y : Pv) (aK : Option Addr) (cK : Nat) (z : Iv) (gA gB gC : Nat), Fs w1 W l r s i 0 x y aK cK z false false false gA gB gC → wpAnyH Try.prog .any ?OPS ?QQ ?SH 11 #[true, true, false, true, true, false, true, true, false, true, false, false, false, false, false, false, false, false] ⟨frF w.heap.size at' l r aS cS s t i (undef) (undef) undef (undef) (undef) (undef) (undef) (undef), []⟩ W) := by
      intro W x y aK cK z gA gB gC hF
      have HF := hide hF
      clear hF
      unfold frF
      refine wpAnyH_ready (rs := [2, 11, 12, 13]) (by kernel_rfl) (by simp) ?_
      refine (AllReadyH.cons rfl (fun K hK => ?_) (AllReadyH.cons rfl (fun K hK => ?_) (AllReadyH.cons rfl (fun K hK => ?_) (AllReadyH.cons rfl (fun K hK => ?_) AllReadyH.nil))))
      · go_simp
        refine (C1.out _ HF.out.fb).mono ?_
        rintro _ W' ⟨q, rfl, hS, -, hE, hb⟩
        have HG := hide (HF.out.one hS hE hb)
        clear hS hE hb
        go_wp2_with fail
        refine hK.out _ _ (SS.out _ HG.out.fb) (fun hHeld => ?_)
        clear hK K hHeld
        try simp only [Act.put, List.getElem_toArray, List.getElem_cons_zero, List.getElem_cons_succ, List.setIfInBounds_toArray, List.set_cons_zero, List.set_cons_succ]
        exact H1000.out W' q y aK cK z gA gB gC HG.out
      · go_simp
        have HG := hide HF.out.boxA
        refine hK.out _ _ (SS.out _ HG.out.fb) (fun hHeld => ?_)
        clear hK K hHeld
        try simp only [Act.put, List.getElem_toArray, List.getElem_cons_zero, List.getElem_cons_succ, List.setIfInBounds_toArray, List.set_cons_zero, List.set_cons_succ]
        exact H0100.out _ x y aK cK z W.heap.size gB gC HG.out
      · go_simp
        have HG := hide HF.out.boxB
        refine hK.out _ _ (SS.out _ HG.out.fb) (fun hHeld => ?_)
        clear hK K hHeld
        try simp only [Act.put, List.getElem_toArray, List.getElem_cons_zero, List.getElem_cons_succ, List.setIfInBounds_toArray, List.set_cons_zero, List.set_cons_succ]
        exact H0010.out _ x y aK cK z gA W.heap.size gC HG.out
      · go_simp
        have HG := hide HF.out.boxC
        refine hK.out _ _ (SS.out _ HG.out.fb) (fun hHeld => ?_)
        clear hK K hHeld
        try simp only [Act.put, List.getElem_toArray, List.getElem_cons_zero, List.getElem_cons_succ, List.setIfInBounds_toArray, List.set_cons_zero, List.set_cons_succ]
        exact H0001.out _ x y aK cK z gA gB W.heap.size HG.out
    exact H0000.out _ Pv.zero Pv.zero none 0 Iv.zero 0 0 0 ⟨D1.out, fun e => absurd e (by decide), fun e => absurd e (by decide), fun e => absurd e (by decide), fun e => absurd e (by decide), fun e => absurd e (by decide), fun e => absurd e (by decide), fun e => absurd e (by decide)⟩
  case rest =>
    obtain ⟨gA, gB, gC, x, y, aK, cK, z, rfl, rfl, rfl, rfl, hFe⟩ := hcut
    have FE := hide hFe
    clear hFe C1 C2 C3 C4 D1
    have SB := hide fun (W : World) (hb : Below wc.heap.size wc W) => SS.out W (bt FE.out.eb hb)
    have SX := hide (same_pg FE.out.ex.2 TJ.out.l.d TJ.out.l.s)
    have SY := hide (same_pg FE.out.ey.2 TJ.out.r.d TJ.out.r.s)
    have LX : Hid (x.items.length ≤ 1048576) := by show _ ≤ _; rw [SX.out.1]; exact NL.out
    have LY : Hid (y.items.length ≤ 1048576) := by show _ ≤ _; rw [SY.out.1]; exact NR.out
    have PX := hide fun (W : World) (hb : Below wc.heap.size wc W) => (FE.out.ex.1.pi (Nat.le_trans LX.out (by decide))).keep hb
    have PY := hide fun (W : World) (hb : Below wc.heap.size wc W) => (FE.out.ey.1.pi (Nat.le_trans LY.out (by decide))).keep hb
    have ZN := hide (it_n FE.out.ez.2 ⟨HI.out.nc, HI.out.ns⟩)
    have IZ := hide fun (W : World) (hb : Below wc.heap.size wc W) => (FE.out.ez.1.ii ZN.out.1 ZN.out.2).keep hb
    have ZK : Hid (z.key.length ≤ 140737488355264 ∧ z.val.length ≤ 140737488355264) := by
      have k1 : z.key = i.key := congrArg It.key FE.out.ez.2
      have k2 : z.val = i.val := congrArg It.val FE.out.ez.2
      show _ ∧ _
      rw [k1, k2]
      exact ⟨I1.out, I2.out⟩
    have S8 := hide TJ.out.b.1
    have BK := hide fun (W : World) (hb : Below wc.heap.size wc W) => (FE.out.ek.bs S8.out).keep hb
    have BDX := hide (bd_pg SX.out.2.1 SX.out.2.2 LX.out)
    have BDY := hide (bd_pg SY.out.2.1 SY.out.2.2 LY.out)
    have R1 := hide fun (W : World) (hb : Below wc.heap.size wc W) => Insert_any W x at' z (PX.out W hb) SX.out.2.1 SX.out.2.2 (IZ.out W hb) ZK.out
    have R2 := hide fun (W : World) (hb : Below wc.heap.size wc W) => Replace_any W x at' z (PX.out W hb) SX.out.2.1 SX.out.2.2 (IZ.out W hb) ZK.out
    have R3 := hide fun (W : World) (hb : Below wc.heap.size wc W) => Remove_any W x at' (PX.out W hb) SX.out.2.1 SX.out.2.2
    have R4 := hide fun (W : World) (hb : Below wc.heap.size wc W) => Split_any W x (PX.out W hb) SX.out.2.1 SX.out.2.2
    have R5 := hide fun (W : World) (hb : Below wc.heap.size wc W) => Join_any W x y aK cK s (PX.out W hb) (PY.out W hb) (BK.out W hb) FE.out.ek.r.cap TJ.out.n SX.out.2.1 SX.out.2.2 SY.out.2.2
    have R6 := hide fun (W : World) (hb : Below wc.heap.size wc W) => Lend_any W t x y aK cK s (PX.out W hb) (PY.out W hb) (BK.out W hb) FE.out.ek.r.cap TJ.out.n SX.out.2.1 SY.out.2.1 SX.out.2.2 SY.out.2.2 (Nat.le_trans LX.out (by decide)) (Nat.le_trans LY.out (by decide))
    unfold Pv.vl at R1 R2 R3 R4 R5 R6
    unfold Iv.vl at R1 R2
    simp only [Pv.cs, Iv.cs] at R1 R2 R3 R4 R5 R6
    have B0 := hide (Below.refl wc.heap.size wc)
    go_wp2_with fail
    go_loopw [11, 12, 13, 14, 15, 16, 17, 18, 19, 20, 21, 22, 23, 24, 25, 26, 27, 28, 29] (fun v11 v12 v13 _ _ _ _ _ _ _ _ _ _ _ _ _ _ _ _ wx => ∃ (k : Nat) (P : List Pv) (T : List Br) (aP : Option Addr) (cP : Nat) (aT : Option Addr) (cT : Nat), k ≤ 2 ∧ v13 = .int .i64 (k : Int) ∧ v12 = .slice aP P.length cP ∧ v11 = .slice aT T.length cT ∧ P.length = 8 * k ∧ T.length = 2 * k ∧ Fl wc wx P T aP cP aT cT) (fun _ _ v13 _ _ _ _ _ _ _ _ _ _ _ _ _ _ _ _ _ => 2 - (intOf v13).toNat)
    case atStart => exact ⟨0, [], [], none, 0, none, 0, by decide, rfl, rfl, rfl, rfl, rfl, Fl.start B0.out⟩
    case round =>
      obtain ⟨k, P, T, aP, cP, aT, cT, hk, rfl, rfl, rfl, hlP, hlT, hFl⟩ := hrel
      have HF := hide hFl
      have LP := hide hlP
      have LT := hide hlT
      clear hFl hlP hlT
      by_cases hlt : k < 2
      · have hki : (k : Int) < 2 := by omega
        obtain ⟨xa0, xa1, xa2, xa3, xa4⟩ := cells5 (FE.out.keep HF.out.g.b).eA
        obtain ⟨xc0, xc1, xc2, xc3⟩ := cells4 (FE.out.keep HF.out.g.b).eC
        have Q0 := hide HF.out.g.b
        have QW := hide (Below.refl wr.heap.size wr)
        go_wp2_with fail
        refine (R1.out _ Q0.out).mono ?_
        rintro _ w1 ⟨qa, rfl, hP, hE, hb⟩
        have BD1 : Hid (qa.pg.Bd) := by show Pg.Bd _; rw [hE]; exact (ins_bd BDX.out ZK.out at')
        have AL1 := hide (al w1 (.cells #[.int .i64 qa.kind, .int .i64 qa.level, .slice qa.aI qa.items.length qa.cI, .slice qa.aD qa.data.length qa.cD, .int .i64 qa.next] 25))
        have Q1 := hide (bt (bt Q0.out hb) AL1.out)
        replace QW := hide (bt (bt QW.out hb) AL1.out)
        have G1 := hide ((Gm.page HF.out.g hP hb BD1.out).keep AL1.out)
        have Xqa := hide (heap_alloc_new w1 (.cells #[.int .i64 qa.kind, .int .i64 qa.level, .slice qa.aI qa.items.length qa.cI, .slice qa.aD qa.data.length qa.cD, .int .i64 qa.next] 25))
        clear hP hE hb 
        clear xa0 xa1 xa2 xa3 xa4
        clear xc0 xc1 xc2 xc3
        obtain ⟨xa0, xa1, xa2, xa3, xa4⟩ := cells5 (FE.out.keep Q1.out).eA
        obtain ⟨xc0, xc1, xc2, xc3⟩ := cells4 (FE.out.keep Q1.out).eC
        go_wp2_with fail
        refine (R2.out _ Q1.out).mono ?_
        rintro _ w2 ⟨qb, rfl, hP, hE, hb⟩
        have BD2 : Hid (qb.pg.Bd) := by show Pg.Bd _; rw [hE]; exact (rep_bd BDX.out ZK.out at')
        have AL2 := hide (al w2 (.cells #[.int .i64 qb.kind, .int .i64 qb.level, .slice qb.aI qb.items.length qb.cI, .slice qb.aD qb.data.length qb.cD, .int .i64 qb.next] 25))
        have Q2 := hide (bt (bt Q1.out hb) AL2.out)
        replace QW := hide (bt (bt QW.out hb) AL2.out)
        have G2 := hide ((Gm.page G1.out hP hb BD2.out).keep AL2.out)
        replace Xqa := hide (blk_keep Xqa.out (bt hb AL2.out))
        have Xqb := hide (heap_alloc_new w2 (.cells #[.int .i64 qb.kind, .int .i64 qb.level, .slice qb.aI qb.items.length qb.cI, .slice qb.aD qb.data.length qb.cD, .int .i64 qb.next] 25))
        clear hP hE hb Q0 G1 AL1
        clear xa0 xa1 xa2 xa3 xa4
        clear xc0 xc1 xc2 xc3
        obtain ⟨xa0, xa1, xa2, xa3, xa4⟩ := cells5 (FE.out.keep Q2.out).eA
        go_wp2_with fail
        refine (R3.out _ Q2.out).mono ?_
        rintro _ w3 ⟨qc, rfl, hP, hE, hb⟩
        have BD3 : Hid (qc.pg.Bd) := by show Pg.Bd _; rw [hE]; exact (rem_bd BDX.out at')
        have AL3 := hide (al w3 (.cells #[.int .i64 qc.kind, .int .i64 qc.level, .slice qc.aI qc.items.length qc.cI, .slice qc.aD qc.data.length qc.cD, .int .i64 qc.next] 25))
        have Q3 := hide (bt (bt Q2.out hb) AL3.out)
        replace QW := hide (bt (bt QW.out hb) AL3.out)
        have G3 := hide ((Gm.page G2.out hP hb BD3.out).keep AL3.out)
        replace Xqa := hide (blk_keep Xqa.out (bt hb AL3.out))
        replace Xqb := hide (blk_keep Xqb.out (bt hb AL3.out))
        have Xqc := hide (heap_alloc_new w3 (.cells #[.int .i64 qc.kind, .int .i64 qc.level, .slice qc.aI qc.items.length qc.cI, .slice qc.aD qc.data.length qc.cD, .int .i64 qc.next] 25))
        clear hP hE hb Q1 G2 AL2
        clear xa0 xa1 xa2 xa3 xa4
        obtain ⟨xa0, xa1, xa2, xa3, xa4⟩ := cells5 (FE.out.keep Q3.out).eA
        go_wp2_with fail
        refine (R4.out _ Q3.out).mono ?_
        rintro _ w4 ⟨qd, qe, au, cu, rfl, hH, hE, hE2⟩
        have hb := hH.b
        have BD4 : Hid (qd.pg.Bd ∧ qe.pg.Bd) := by show Pg.Bd _ ∧ Pg.Bd _; rw [hE, hE2]; exact ⟨(spl_bd BDX.out).l, (spl_bd BDX.out).r⟩
        have U4 := hide (two_blocks w4 (.cells #[.int .i64 qd.kind, .int .i64 qd.level, .slice qd.aI qd.items.length qd.cI, .slice qd.aD qd.data.length qd.cD, .int .i64 qd.next] 25) (.cells #[.int .i64 qe.kind, .int .i64 qe.level, .slice qe.aI qe.items.length qe.cI, .slice qe.aD qe.data.length qe.cD, .int .i64 qe.next] 25) (Below.refl _ _))
        have Q4 := hide (bt (bt Q3.out hb) U4.out.2.2.1)
        replace QW := hide (bt (bt QW.out hb) U4.out.2.2.1)
        have G4 := hide ((Gm.two G3.out hH BD4.out.1 BD4.out.2 (spl_bd BDX.out).s).keep U4.out.2.2.1)
        replace Xqa := hide (blk_keep Xqa.out (bt hb U4.out.2.2.1))
        replace Xqb := hide (blk_keep Xqb.out (bt hb U4.out.2.2.1))
        replace Xqc := hide (blk_keep Xqc.out (bt hb U4.out.2.2.1))
        have Xqd := hide U4.out.1
        have Xqe := hide U4.out.2.1
        clear hH hE hE2 hb U4 Q2 G3 AL3
        clear xa0 xa1 xa2 xa3 xa4
        obtain ⟨xa0, xa1, xa2, xa3, xa4⟩ := cells5 (FE.out.keep Q4.out).eA
        obtain ⟨xb0, xb1, xb2, xb3, xb4⟩ := cells5 (FE.out.keep Q4.out).eB
        go_wp2_with fail
        refine (R5.out _ Q4.out).mono ?_
        rintro _ w5 ⟨qf, rfl, hP, hE, hb⟩
        have BD5 : Hid (qf.pg.Bd) := by show Pg.Bd _; rw [hE]; exact (joi_bd BDX.out BDY.out TJ.out.n)
        have AL5 := hide (al w5 (.cells #[.int .i64 qf.kind, .int .i64 qf.level, .slice qf.aI qf.items.length qf.cI, .slice qf.aD qf.data.length qf.cD, .int .i64 qf.next] 25))
        have Q5 := hide (bt (bt Q4.out hb) AL5.out)
        replace QW := hide (bt (bt QW.out hb) AL5.out)
        have G5 := hide ((Gm.page G4.out hP hb BD5.out).keep AL5.out)
        replace Xqa := hide (blk_keep Xqa.out (bt hb AL5.out))
        replace Xqb := hide (blk_keep Xqb.out (bt hb AL5.out))
        replace Xqc := hide (blk_keep Xqc.out (bt hb AL5.out))
        replace Xqd := hide (blk_keep Xqd.out (bt hb AL5.out))
        replace Xqe := hide (blk_keep Xqe.out (bt hb AL5.out))
        have Xqf := hide (heap_alloc_new w5 (.cells #[.int .i64 qf.kind, .int .i64 qf.level, .slice qf.aI qf.items.length qf.cI, .slice qf.aD qf.data.length qf.cD, .int .i64 qf.next] 25))
        clear hP hE hb Q3 G4
        clear xa0 xa1 xa2 xa3 xa4
        clear xb0 xb1 xb2 xb3 xb4
        obtain ⟨xa0, xa1, xa2, xa3, xa4⟩ := cells5 (FE.out.keep Q5.out).eA
        obtain ⟨xb0, xb1, xb2, xb3, xb4⟩ := cells5 (FE.out.keep Q5.out).eB
        obtain ⟨_, _, _, _, _, _, _, _, _, _, _, et, _, _, _, _⟩ := SB.out _ Q5.out
        go_wp2_with fail
        refine (R6.out _ Q5.out).mono ?_
        rintro _ w6 ⟨qg, qh, av, cv, rfl, hH, hE, hE2⟩
        have hb := hH.b
        have BD6 : Hid (qg.pg.Bd ∧ qh.pg.Bd) := by show Pg.Bd _ ∧ Pg.Bd _; rw [hE, hE2]; exact ⟨(lend_bd t BDX.out BDY.out (by show (x.items.map Iv.it).length ≤ _; rw [List.length_map]; exact LX.out) (by show (y.items.map Iv.it).length ≤ _; rw [List.length_map]; exact LY.out) TJ.out.n).l, (lend_bd t BDX.out BDY.out (by show (x.items.map Iv.it).length ≤ _; rw [List.length_map]; exact LX.out) (by show (y.items.map Iv.it).length ≤ _; rw [List.length_map]; exact LY.out) TJ.out.n).r⟩
        have U6 := hide (two_blocks w6 (.cells #[.int .i64 qg.kind, .int .i64 qg.level, .slice qg.aI qg.items.length qg.cI, .slice qg.aD qg.data.length qg.cD, .int .i64 qg.next] 25) (.cells #[.int .i64 qh.kind, .int .i64 qh.level, .slice qh.aI qh.items.length qh.cI, .slice qh.aD qh.data.length qh.cD, .int .i64 qh.next] 25) (Below.refl _ _))
        have Q6 := hide (bt (bt Q5.out hb) U6.out.2.2.1)
        replace QW := hide (bt (bt QW.out hb) U6.out.2.2.1)
        have G6 := hide ((Gm.two G5.out hH BD6.out.1 BD6.out.2 (lend_bd t BDX.out BDY.out (by show (x.items.map Iv.it).length ≤ _; rw [List.length_map]; exact LX.out) (by show (y.items.map Iv.it).length ≤ _; rw [List.length_map]; exact LY.out) TJ.out.n).s).keep U6.out.2.2.1)
        replace Xqa := hide (blk_keep Xqa.out (bt hb U6.out.2.2.1))
        replace Xqb := hide (blk_keep Xqb.out (bt hb U6.out.2.2.1))
        replace Xqc := hide (blk_keep Xqc.out (bt hb U6.out.2.2.1))
        replace Xqd := hide (blk_keep Xqd.out (bt hb U6.out.2.2.1))
        replace Xqe := hide (blk_keep Xqe.out (bt hb U6.out.2.2.1))
        replace Xqf := hide (blk_keep Xqf.out (bt hb U6.out.2.2.1))
        have Xqg := hide U6.out.1
        have Xqh := hide U6.out.2.1
        clear hH hE hE2 hb U6 Q4 G5 AL5 et
        clear xa0 xa1 xa2 xa3 xa4
        clear xb0 xb1 xb2 xb3 xb4
        go_upto_region 13 with fail
        generalize (w6.alloc (.cells #[.int .i64 qg.kind, .int .i64 qg.level, .slice qg.aI qg.items.length qg.cI, .slice qg.aD qg.data.length qg.cD, .int .i64 qg.next] 25)).alloc (.cells #[.int .i64 qh.kind, .int .i64 qh.level, .slice qh.aI qh.items.length qh.cI, .slice qh.aD qh.data.length qh.cD, .int .i64 qh.next] 25) = W6 at *
        generalize (spl x.pg).s = su at *
        generalize (lend x.pg y.pg s t).s = sv at *
        have GM : Hid (Gm wc W6 (P ++ [qa, qb, qc, qd, qe, qf, qg, qh]) (T ++ [⟨au, cu, su⟩, ⟨av, cv, sv⟩])) := by
          have h := G6.out
          simp only [List.append_assoc, List.cons_append, List.nil_append] at h
          exact h
        have BR : Hid (Below wr.heap.size wr W6) := QW.out
        clear G6 Q5
        obtain ⟨y00, y01, y02, y03, y04⟩ := cells5 Xqa.out
        obtain ⟨y10, y11, y12, y13, y14⟩ := cells5 Xqb.out
        obtain ⟨y20, y21, y22, y23, y24⟩ := cells5 Xqc.out
        obtain ⟨y30, y31, y32, y33, y34⟩ := cells5 Xqd.out
        obtain ⟨y40, y41, y42, y43, y44⟩ := cells5 Xqe.out
        obtain ⟨y50, y51, y52, y53, y54⟩ := cells5 Xqf.out
        obtain ⟨y60, y61, y62, y63, y64⟩ := cells5 Xqg.out
        obtain ⟨y70, y71, y72, y73, y74⟩ := cells5 Xqh.out
        clear Xqa Xqb Xqc Xqd Xqe Xqf Xqg Xqh
        have hPl : P.length + [qa, qb, qc, qd, qe, qf, qg, qh].length ≤ 1000000 := by
          have := LP.out
          show P.length + 8 ≤ _
          omega
        have PW6 := hide (HF.out.p.keep BR.out)
        go_wp2_with (first | (at_builtin; refine wpList_apP rfl _ _ rfl aP P.length cP P ?q1 rfl (PW6.out.keep (al _ _)) ⟨W6.heap.size, 0, none⟩ 8 8 [qa, qb, qc, qd, qe, qf, qg, qh] ?q2 rfl (fresh_pages _ _ _ rfl) (by simp) hPl ?_) | fail)
        try case q1 => rfl
        try case q2 => rfl
        intro g7 c7 W7 hP7 hN7 hg7
        obtain ⟨G7, N7, T7, Z7⟩ := HF.out.pages BR.out GM.out hP7 hN7 hg7
        have HP7 := hide hP7
        have HG7 := hide G7
        have HN7 := hide N7
        have HT7 := hide T7
        clear hP7 hN7 hg7 G7 N7 T7 Z7 PW6 GM hPl
        clear y00 y01 y02 y03 y04 y10 y11 y12 y13 y14 y20 y21 y22 y23 y24 y30 y31 y32 y33 y34 y40 y41 y42 y43 y44 y50 y51 y52 y53 y54 y60 y61 y62 y63 y64 y70 y71 y72 y73 y74
        have hTl : ((T.map bv).length + [bv ⟨au, cu, su⟩, bv ⟨av, cv, sv⟩].length) * 24 ≤ 140737488355328 := by
          have := LT.out
          rw [List.length_map]
          show (T.length + 2) * 24 ≤ _
          omega
        go_wp2_with (first | (at_builtin; refine wpList_apL2 rfl _ _ rfl aT T.length cT (T.map bv) ?q3 (by rw [List.length_map]) (HT7.out.r.keep (al _ _)) ⟨W7.heap.size, 0, none⟩ 2 2 [bv ⟨au, cu, su⟩, bv ⟨av, cv, sv⟩] ?q4 rfl (fresh_lists _ _ _ rfl) (lists_one _ _) (by simp) hTl ?_) | fail)
        try case q3 => rfl
        try case q4 => rfl
        intro g8 c8 W8 hR8 hN8 hg8
        have HL8 := hide (Fl.lists (U := [⟨au, cu, su⟩, ⟨av, cv, sv⟩]) (Below.refl W7.heap.size W7) HG7.out HP7.out HN7.out HT7.out hR8 hN8 hg8)
        clear hR8 hN8 hg8 hTl
        go_wp2_with fail
        go_roundw
        case rel =>
          refine ⟨k + 1, P ++ [qa, qb, qc, qd, qe, qf, qg, qh], T ++ [⟨au, cu, su⟩, ⟨av, cv, sv⟩], _, c7, _, c8, by omega, by go_num, ?_, ?_, ?_, ?_, HL8.out⟩
          · rw [List.length_append]; rfl
          · rw [List.length_append]; rfl
          · have := LP.out; rw [List.length_append]; show P.length + 8 = _; omega
          · have := LT.out; rw [List.length_append]; show T.length + 2 = _; omega
        case measure => simp [intOf]; omega
      · have hki : ¬ (k : Int) < 2 := by omega
        obtain rfl : k = 2 := by omega
        have P16 : Hid (P.length = 16) := LP.out
        have NM : Hid (∀ p ∈ P, p.items.length ≤ 4200000) := fun p hp => by
          have h := (HF.out.g.n p hp).n
          have e : p.pg.items.length = p.items.length := List.length_map _
          omega
        have RL : Hid (∀ j, (T ++ rps (P.take j)).length ≤ 200000000) := fun j => by
          have h := rps_len (P.take j) (N := 4200000) (fun p hp => NM.out p (List.mem_of_mem_take hp))
          have h2 : (P.take j).length ≤ 16 := by rw [List.length_take, P16.out]; omega
          have h3 := LT.out
          have h4 : (P.take j).length * (1 + 2 * 4200000) ≤ 16 * (1 + 2 * 4200000) := Nat.mul_le_mul_right _ h2
          rw [List.length_append]
          omega
        have F0 : Hid (Fm wc wr P T (T ++ rps (P.take 0)) aP cP aT cT) := by
          have e : T ++ rps (P.take 0) = T := by simp [rps]
          show Fm _ _ _ _ _ _ _ _ _
          rw [e]
          exact ⟨HF.out.g, HF.out.p, HF.out.pn, HF.out.t⟩
        have E0 : Hid ((T ++ rps (P.take 0)).length = T.length) := by
          show _ = _
          simp [rps]
        clear R1 R2 R3 R4 R5 R6 HF
        generalize hN : P.length = N
        have HN := hide hN
        have hN6 : N ≤ 16 := by rw [← hN]; exact Nat.le_of_eq P16.out
        clear hN
        go_wp2_with fail
        go_loopw [11, 30, 31, 32] (fun v11 v30 _ _ wx => ∃ (j : Nat) (aQ : Option Addr) (cQ : Nat), j ≤ N ∧ v30 = .int .i64 (j : Int) ∧ v11 = .slice aQ (T ++ rps (P.take j)).length cQ ∧ Fm wc wx P T (T ++ rps (P.take j)) aP cP aQ cQ) (fun _ v30 _ _ _ => N - (intOf v30).toNat)
        case atStart => exact ⟨0, aT, cT, Nat.zero_le _, rfl, by rw [E0.out], F0.out⟩
        case round =>
          clear F0 E0
          obtain ⟨j, aQ, cQ, hj, rfl, rfl, hM⟩ := hrel
          have HM := hide hM
          clear hM
          have RJ := RL.out j
          by_cases hlj : j < N
          · have hji : (j : Int) < (N : Int) := by omega
            have HJ : Hid (j < P.length) := by show _ < _; rw [HN.out]; exact hlj
            obtain ⟨gp, pcs, haP, hbx, hcl⟩ := HM.out.p.at (Nat.lt_of_le_of_lt (Nat.zero_le _) HJ.out)
            have PM : Hid (P.getD j Pv.zero ∈ P) := by
              have h := HJ.out
              show _ ∈ _
              simp [h]
            have TK := hide (rps_take HJ.out)
            have z0 := hcl j 0 _ HJ.out (by decide) rfl
            have z1 := hcl j 1 _ HJ.out (by decide) rfl
            have z2 := hcl j 2 _ HJ.out (by decide) rfl
            have z3 := hcl j 3 _ HJ.out (by decide) rfl
            have z4 := hcl j 4 _ HJ.out (by decide) rfl
            obtain ⟨p, hp⟩ : ∃ p, P.getD j Pv.zero = p := ⟨_, rfl⟩
            rw [hp] at z0 z1 z2 z3 z4 PM TK
            rw [Nat.add_zero] at z0
            have LO := hide (ListsOfPage_any wr p (HM.out.g.js PM.out) (Nat.le_trans (NM.out p PM.out) (by decide)))
            unfold Pv.vl at LO
            simp only [Pv.cs] at LO
            subst haP
            have NI := NM.out p PM.out
            clear hcl hbx hp
            generalize hR : T ++ rps (P.take j) = R at *
            go_wp2_with fail
            refine LO.out.mono ?_
            rintro _ w9 ⟨g1, c1, rfl, hA1⟩
            have M9 := hide (HM.out.keep hA1.b)
            have A9 := hide hA1.r
            have NE9 : Hid (∀ q, aQ = some q → q.block ≠ g1) := fun q hq e => by
              have h1 := HM.out.t.r.lt hq
              have h2 := new_at hA1.n (x := ⟨g1, 0, none⟩) rfl
              dsimp only at h2
              omega
            clear hA1 z0 z1 z2 z3 z4 LO HM
            have RPL := hide (rp_len p)
            generalize hn1 : p.items.length = n1 at *
            go_wp2_with fail
            go_loopw [11, 32] (fun v11 v32 wx => ∃ (m : Nat) (aU : Option Addr) (cU : Nat), m ≤ 1 + 2 * n1 ∧ v32 = .int .i64 (m : Int) ∧ v11 = .slice aU (R.length + m) cU ∧ Fm wc wx P T (R ++ (rp p).take m) (some ⟨gp, 0, none⟩) cP aU cU ∧ Ar wx (some ⟨g1, 0, none⟩) c1 ((rp p).map bv) ∧ ∀ q, aU = some q → q.block ≠ g1) (fun _ v32 _ => 1 + 2 * n1 - (intOf v32).toNat)
            case atStart => exact ⟨0, aQ, cQ, Nat.zero_le _, rfl, rfl, by rw [List.take_zero, List.append_nil]; exact M9.out, A9.out, NE9.out⟩
            case round =>
              clear M9 A9 NE9
              obtain ⟨m, aU, cU, hm, rfl, rfl, hM, hA, hE⟩ := hrel
              have HM := hide hM
              have HA := hide hA
              have HE := hide hE
              clear hM hA hE
              by_cases hlm : m < 1 + 2 * n1
              · have hmi : (m : Int) < 1 + 2 * (n1 : Int) := by omega
                have hmk : (m : Int) < ((1 + 2 * n1 : Nat) : Int) := by omega
                have HML : Hid (m < (rp p).length) := by show _ < _; rw [RPL.out]; exact hlm
                obtain ⟨g2, eg2, hcm⟩ := HA.out.cell (i := m) (v := bv ((rp p).getD m Brz)) (by have h := HML.out; simp [h])
                cases eg2
                have TS := hide (take_snocB HML.out)
                generalize (rp p).getD m Brz = tb at *
                have hvl : Hid (R.length + m = ((R ++ (rp p).take m).map bv).length) := by
                  have h := HML.out
                  show _ = _
                  rw [List.length_map, List.length_append, List.length_take]
                  omega
                have hbd : (((R ++ (rp p).take m).map bv).length + 1) * 24 ≤ 140737488355328 := by
                  rw [← hvl.out]
                  omega
                obtain ⟨vs, hvs⟩ : ∃ vs, (R ++ (rp p).take m).map bv = vs := ⟨_, rfl⟩
                have AR : Hid (Ar wr aU cU vs) := by show Ar _ _ _ _; rw [← hvs]; exact HM.out.t.r
                rw [hvs] at hvl hbd
                have HVS := hide hvs
                clear hvs
                unfold bv at hcm
                go_wp2_with (first | (at_builtin; refine wpList_apRows rfl _ _ rfl aU (R.length + m) cU vs ?q5 hvl.out (AR.out.keep (al _ _)) ⟨wr.heap.size, 0, none⟩ 1 (bv tb) ?q6 ?q7 rfl hbd ?_) | fail)
                try case q5 => rfl
                try case q6 => rfl
                try case q7 => (unfold bv; simp)
                intro g3 c3 W3 hR3 hN3 hg3
                rw [← HVS.out] at hR3
                have HM3 := hide (HM.out.push hR3 hN3 hg3)
                have HL3 := hide (l_push HA.out HE.out hN3 hg3)
                clear hR3 hN3 hg3 hbd hcm
                go_wp2_with fail
                go_roundw
                case rel => exact ⟨m + 1, _, c3, by omega, by go_num, by rw [Nat.add_assoc], by rw [TS.out, ← List.append_assoc]; exact HM3.out, HL3.out.1, HL3.out.2⟩
                case measure => simp [intOf]; omega
              · have hmk : ¬ (m : Int) < ((1 + 2 * n1 : Nat) : Int) := by omega
                have hmi : ¬ (m : Int) < 1 + 2 * (n1 : Int) := by omega
                obtain rfl : m = 1 + 2 * n1 := by omega
                have HM4 : Hid (Fm wc wr P T (T ++ rps (P.take (j + 1))) (some ⟨gp, 0, none⟩) cP aU cU) := by
                  have h := HM.out
                  rw [show 1 + 2 * n1 = (rp p).length from RPL.out.symm, List.take_length] at h
                  show Fm _ _ _ _ _ _ _ _ _
                  rw [TK.out, ← List.append_assoc, hR]
                  exact h
                have HL4 : Hid ((T ++ rps (P.take (j + 1))).length = R.length + (1 + 2 * n1)) := by
                  show _ = _
                  rw [TK.out, ← List.append_assoc, hR, List.length_append, RPL.out]
                go_wp2_with fail
                go_roundw
                case rel => exact ⟨j + 1, aU, cU, by omega, by go_num, by rw [HL4.out], HM4.out⟩
                case measure => simp [intOf]; omega
          · have hji : ¬ (j : Int) < (N : Int) := by omega
            have HPJ : Hid (P.take j = P) := List.take_of_length_le (by rw [HN.out]; omega)
            have M5 := HM.out
            rw [HPJ.out] at M5 ⊢
            have RB := RL.out j
            rw [HPJ.out] at RB RJ
            obtain ⟨RR, hRR⟩ : ∃ RR, T ++ rps P = RR := ⟨_, rfl⟩
            have HM5 := hide M5
            have GF : Hid (Fam wc wr RR) := by show Fam _ _ _; rw [← hRR]; exact HM5.out.g.f
            have GT : Hid (Ar wr aQ cQ (RR.map bv)) := by show Ar _ _ _ _; rw [← hRR]; exact HM5.out.t.r
            have SM : Hid (∀ q ∈ RR, q.l.length ≤ 140737488355300) := fun q hq => by
              rw [← hRR] at hq
              rcases List.mem_append.1 hq with hq | hq
              · exact HM5.out.g.s q hq
              · obtain ⟨L, hL, hq⟩ := List.mem_flatten.1 hq
                obtain ⟨p, hp, rfl⟩ := List.mem_map.1 hL
                exact rp_small (HM5.out.g.n p hp) q hq
            rw [hRR] at RB ⊢
            have AP := hide (Apart_fm wr wc RR aQ cQ RR.length rfl GF.out HM5.out.g.b GT.out (by omega) SM.out)
            have HRR := hide hRR
            clear M5 hRR HM GF GT SM RJ RL NM
            obtain rfl : j = N := by omega
            have hN0 : Hid (0 < P.length) := by show 0 < _; rw [P16.out]; decide
            go_wp2_with fail
            refine AP.out.mono ?_
            rintro _ wA ⟨rfl, hbut, hbl⟩
            rw [← HRR.out] at hbut
            have PA := hide (papart_fm wr wA wc P T aP cP j HN.out.symm hN0.out HM5.out.g HM5.out.p HM5.out.pn hbut hbl (by rw [P16.out]; decide))
            clear hbut hbl AP
            go_wp2_with fail
            refine PA.out.mono ?_
            rintro _ wB ⟨rfl, hbB⟩
            have BB := hide hbB
            clear hbB PA HM5
            have EQP := hide fun (W : World) (p q : Pv) (hp : Pi W p) (hq : Pi W q) (he : p.pg = q.pg) => EqPage_same W p q hp hq he
            have EQI := hide fun (W : World) (p q : Iv) (hp : Ii W p) (hq : Ii W q) (he : p.it = q.it) => EqItem_same W p q hp hq he
            unfold Pv.vl at EQP
            unfold Iv.vl at EQI
            simp only [Pv.cs] at EQP
            simp only [Iv.cs] at EQI
            obtain ⟨xa0, xa1, xa2, xa3, xa4⟩ := cells5 (FE.out.keep BB.out).eA
            obtain ⟨xb0, xb1, xb2, xb3, xb4⟩ := cells5 (FE.out.keep BB.out).eB
            obtain ⟨xc0, xc1, xc2, xc3⟩ := cells4 (FE.out.keep BB.out).eC
            obtain ⟨e0, e1, e2, e3, e4, e5, e6, e7, e8, e9, e10, e11, e12, e13, e14, e15⟩ := SB.out _ BB.out
            go_wp2_with fail
            refine (EQP.out _ x l (PX.out _ BB.out) (TJ.out.l.i.keep (bt FE.out.eb BB.out)) FE.out.ex.2).mono ?_
            rintro _ wC ⟨rfl, hb⟩
            clear xa0 xa1 xa2 xa3 xa4
            clear xb0 xb1 xb2 xb3 xb4
            clear xc0 xc1 xc2 xc3
            clear e0 e1 e2 e3 e4 e5 e6 e7 e8 e9 e10 e11 e12 e13 e14 e15
            replace BB := hide (bt BB.out hb)
            clear hb
            obtain ⟨xa0, xa1, xa2, xa3, xa4⟩ := cells5 (FE.out.keep BB.out).eA
            obtain ⟨xb0, xb1, xb2, xb3, xb4⟩ := cells5 (FE.out.keep BB.out).eB
            obtain ⟨xc0, xc1, xc2, xc3⟩ := cells4 (FE.out.keep BB.out).eC
            obtain ⟨e0, e1, e2, e3, e4, e5, e6, e7, e8, e9, e10, e11, e12, e13, e14, e15⟩ := SB.out _ BB.out
            go_wp2_with fail
            refine (EQP.out _ y r (PY.out _ BB.out) (TJ.out.r.i.keep (bt FE.out.eb BB.out)) FE.out.ey.2).mono ?_
            rintro _ wD ⟨rfl, hb⟩
            clear xa0 xa1 xa2 xa3 xa4
            clear xb0 xb1 xb2 xb3 xb4
            clear xc0 xc1 xc2 xc3
            clear e0 e1 e2 e3 e4 e5 e6 e7 e8 e9 e10 e11 e12 e13 e14 e15
            replace BB := hide (bt BB.out hb)
            clear hb
            obtain ⟨xa0, xa1, xa2, xa3, xa4⟩ := cells5 (FE.out.keep BB.out).eA
            obtain ⟨xb0, xb1, xb2, xb3, xb4⟩ := cells5 (FE.out.keep BB.out).eB
            obtain ⟨xc0, xc1, xc2, xc3⟩ := cells4 (FE.out.keep BB.out).eC
            obtain ⟨e0, e1, e2, e3, e4, e5, e6, e7, e8, e9, e10, e11, e12, e13, e14, e15⟩ := SB.out _ BB.out
            go_wp2_with fail
            refine (EqBytes_same _ aK aS s.length s.length cK cS s (BK.out _ BB.out) (TJ.out.b.keep (bt FE.out.eb BB.out)) rfl rfl).mono ?_
            rintro _ wE ⟨rfl, hb⟩
            clear xa0 xa1 xa2 xa3 xa4
            clear xb0 xb1 xb2 xb3 xb4
            clear xc0 xc1 xc2 xc3
            clear e0 e1 e2 e3 e4 e5 e6 e7 e8 e9 e10 e11 e12 e13 e14 e15
            replace BB := hide (bt BB.out hb)
            clear hb
            obtain ⟨xa0, xa1, xa2, xa3, xa4⟩ := cells5 (FE.out.keep BB.out).eA
            obtain ⟨xb0, xb1, xb2, xb3, xb4⟩ := cells5 (FE.out.keep BB.out).eB
            obtain ⟨xc0, xc1, xc2, xc3⟩ := cells4 (FE.out.keep BB.out).eC
            obtain ⟨e0, e1, e2, e3, e4, e5, e6, e7, e8, e9, e10, e11, e12, e13, e14, e15⟩ := SB.out _ BB.out
            go_wp2_with fail
            refine (EQI.out _ z i (IZ.out _ BB.out) (HI.out.keep (bt FE.out.eb BB.out)) FE.out.ez.2).mono ?_
            rintro _ wF ⟨rfl, hb⟩
            clear xa0 xa1 xa2 xa3 xa4
            clear xb0 xb1 xb2 xb3 xb4
            clear xc0 xc1 xc2 xc3
            clear e0 e1 e2 e3 e4 e5 e6 e7 e8 e9 e10 e11 e12 e13 e14 e15
            replace BB := hide (bt BB.out hb)
            clear hb
            go_wp2_with fail
            refine (works_any _).mono ?_
            rintro _ wG ⟨rfl, hb⟩
            replace BB := hide (bt BB.out hb)
            clear hb
            go_wp2_with fail
            go_ret
            exact ⟨rfl, bt BW.out (bt FE.out.eb BB.out)⟩
end Go.Proofs.Ytoachodngjlpaaa
