import Derived.Test.YtbhigodjbfoeoaaGreatWqB26
namespace Go.Proofs.YtbhigodjbfoeoaaGreat
set_option linter.unusedVariables false
set_option linter.unusedSimpArgs false
open Go.RowKit
set_option maxHeartbeats 8000000 in
set_option maxRecDepth 8000 in
theorem kept_any (w : World) (i : Iv) (hi : Ii w i) (hk : i.key.length + 64 ≤ 281474976710656) (hv : i.val.length + 64 ≤ 281474976710656) (gK gV : Nat) (rK : w.rowIs gK 5 (i.key.length + 64) (spF i.key)) (rV : w.rowIs gV 5 (i.val.length + 64) (spF i.val)) :
    Calls Tryz.prog 50 #[(spi i gK gV).vl, i.vl] w fun e w' => e = .returned (.bool true) ∧ Below w.heap.size w w' := by
  have KK := hide fun (W : World) (hb : Below w.heap.size w W) => Kept_any W gK (i.key.length + 64) i.aK i.key.length i.key.length i.cK i.key (rowIs_below rK hb) (hi.bk.keep hb) rfl rfl rfl hk
  have KV := hide fun (W : World) (hb : Below w.heap.size w W) => Kept_any W gV (i.val.length + 64) i.aV i.val.length i.val.length i.cV i.val (rowIs_below rV hb) (hi.bv.keep hb) rfl rfl rfl hv
  clear hi hk hv rK rV
  obtain ⟨xK, xcK, xkey, xV, xcV, xval, xch, xsz⟩ := i
  unfold Iv.vl
  simp only [Iv.cs, spi] at KK KV ⊢
  have U := hide (two_blk w (.cells #[.slice (some ⟨gK, 0, none⟩) xkey.length (xkey.length + 64), .slice (some ⟨gV, 0, none⟩) xval.length (xval.length + 64), .int .i64 xch, .int .i64 xsz] 34) (.cells #[.slice xK xkey.length xcK, .slice xV xval.length xcV, .int .i64 xch, .int .i64 xsz] 34))
  have e1 : (xch == xch) = true := by simp
  have e2 : (xsz == xsz) = true := by simp
  go_enter Tryz.func50, Tryz.ntmps50
  go_wp2_with fail
  refine (KK.out _ U.out.2.2).mono ?_
  rintro _ w2 ⟨rfl, hb2⟩
  have B2 := hide (bt U.out.2.2 hb2)
  have M0 := hide (blk13 U.out.1 hb2)
  have M1 := hide (blk13 U.out.2.1 hb2)
  clear hb2
  obtain ⟨x0, x1, x2, x3⟩ := four13 M0.out
  obtain ⟨y0, y1, y2, y3⟩ := four13 M1.out
  go_wp2_with fail
  refine (KV.out _ B2.out).mono ?_
  rintro _ w3 ⟨rfl, hb3⟩
  have B3 := hide (bt B2.out hb3)
  clear hb3 x0 x1 x2 x3 y0 y1 y2 y3
  go_wp2_with fail
  go_ret
  exact ⟨rfl, B3.out⟩
structure Wk (w : World) (wb b rb : Nat) (own : Nat → Prop) (aT : Option Addr) (cT : Nat) (vs : List Value) (aX : Option Addr) (cX : Nat) (us : List Value) : Prop where
  box : w.heap[wb]? = some (.cells #[.pointer (some ⟨b, 0, none⟩), .pointer (some ⟨rb, 0, none⟩), .slice none 0 0, .slice none 0 0, .slice aT vs.length cT, .slice aX us.length cX] 43 (0, 0))
  t : Ar w aT cT vs
  x : Ar w aX cX us
  ob : own wb
  ot : ∀ y, aT = some y → own y.block
  ox : ∀ y, aX = some y → own y.block
  ne : ∀ y z, aT = some y → aX = some z → y.block ≠ z.block
theorem Wk.keep {w w' : World} {wb b rb : Nat} {own : Nat → Prop} {aT : Option Addr} {cT : Nat} {vs : List Value} {aX : Option Addr} {cX : Nat} {us : List Value} (h : Wk w wb b rb own aT cT vs aX cX us) (hb : Below w.heap.size w w') : Wk w' wb b rb own aT cT vs aX cX us :=
  ⟨blk13 h.box hb, h.t.keep hb, h.x.keep hb, h.ob, h.ot, h.ox, h.ne⟩
theorem Wk.cells {w : World} {wb b rb : Nat} {own : Nat → Prop} {aT : Option Addr} {cT : Nat} {vs : List Value} {aX : Option Addr} {cX : Nat} {us : List Value} (h : Wk w wb b rb own aT cT vs aX cX us) : w.cell? ⟨wb, 0, none⟩ = some (.pointer (some ⟨b, 0, none⟩)) ∧ w.cell? ⟨wb, 1, none⟩ = some (.pointer (some ⟨rb, 0, none⟩)) ∧ w.cell? ⟨wb, 4, none⟩ = some (.slice aT vs.length cT) ∧ w.cell? ⟨wb, 5, none⟩ = some (.slice aX us.length cX) ∧ w.frozen? ⟨wb, 4, none⟩ = false ∧ w.frozen? ⟨wb, 5, none⟩ = false := by
  obtain ⟨x0, x1, x2, x3, x4, x5⟩ := six_cells h.box
  exact ⟨x0, x1, x4, x5, by simp [World.frozen?, h.box], by simp [World.frozen?, h.box]⟩
theorem Wk.told {w w5 : World} {wb b rb : Nat} {own : Nat → Prop} {aT : Option Addr} {cT : Nat} {vs : List Value} {aX : Option Addr} {cX : Nat} {us : List Value} (h : Wk w wb b rb own aT cT vs aX cX us) (hw : ∀ k, w.heap.size ≤ k → own k) {g c : Nat} {v : Value} (hA : Ar w5 (some ⟨g, 0, none⟩) c (vs ++ [v])) (hN : New w aT (some ⟨g, 0, none⟩)) (hB : But (Q.InA aT) w w5) :
    Wk (w5.setCell ⟨wb, 4, none⟩ (.slice (some ⟨g, 0, none⟩) (vs.length + 1) c)) wb b rb own (some ⟨g, 0, none⟩) c (vs ++ [v]) aX cX us ∧ But own w (w5.setCell ⟨wb, 4, none⟩ (.slice (some ⟨g, 0, none⟩) (vs.length + 1) c)) ∧ w5.cell? ⟨wb, 4, none⟩ = some (.slice aT vs.length cT) ∧ w5.frozen? ⟨wb, 4, none⟩ = false := by
  have nb : ∀ {a : Option Addr} {c : Nat} {vs : List Value} {W : World} {cs : Array Value}, Ar W a c vs → W.heap[wb]? = some (.cells cs 43 (0, 0)) → ∀ y, a = some y → y.block ≠ wb := fun ha hb y hy e => by
    rcases ha.cases with ⟨h0, _⟩ | ⟨g', cur, h0, hg', _⟩
    · rw [h0] at hy; cases hy
    · rw [h0] at hy; cases hy
      exact blk_ty hg' hb (by decide) e
  have b5 : w5.heap[wb]? = _ := hB.same h.box (fun ⟨y, hy, e⟩ => nb h.t h.box y hy e)
  have bs : But (fun k => k = wb) w5 (w5.setCell ⟨wb, 4, none⟩ (.slice (some ⟨g, 0, none⟩) (vs.length + 1) c)) := (But.refl (fun k => k = wb) w5).setCell (p := ⟨wb, 4, none⟩) (fun _ => rfl) _
  have x5 : Ar w5 aX cX us := h.x.but hB (fun z hz ⟨y, hy, e⟩ => h.ne y z hy hz e)
  have og : own g := by
    rcases hN ⟨g, 0, none⟩ rfl with ⟨z, hz, e⟩ | e
    · have e : z.block = g := e
      rw [← e]; exact h.ot z hz
    · exact hw g e
  have lx : ∀ z, aX = some z → z.block < w.heap.size := fun z hz => h.x.lt hz
  refine ⟨⟨?_, hA.but bs (fun y hy e => nb hA b5 y hy e), x5.but bs (fun y hy e => nb x5 b5 y hy e), h.ob, fun y hy => by cases hy; exact og, h.ox, fun y z hy hz e => ?_⟩, ?_, ?_, by simp [World.frozen?, b5]⟩
  · rw [heap_setCell_same _ _ _ _ _ _ b5]
    rw [List.length_append]
    rfl
  · cases hy
    rcases hN ⟨g, 0, none⟩ rfl with ⟨q, hq, e2⟩ | e2
    · exact h.ne q z hq hz (e2.trans e)
    · have := lx z hz
      have e2 : w.heap.size ≤ g := e2
      have e : g = z.block := e
      omega
  · exact ((hB.mono (T := own) (fun k _ ⟨y, hy, e⟩ => by rw [← e]; exact h.ot y hy)).trans bs (fun k _ e => by have e : k = wb := e; rw [e]; exact h.ob))
  · rw [cell_of_row _ _ _ _ _ _ b5]; rfl
theorem Wk.text {w w5 : World} {wb b rb : Nat} {own : Nat → Prop} {aT : Option Addr} {cT : Nat} {vs : List Value} {aX : Option Addr} {cX : Nat} {us : List Value} (h : Wk w wb b rb own aT cT vs aX cX us) (hw : ∀ k, w.heap.size ≤ k → own k) {g c : Nat} {v : Value} (hA : Ar w5 (some ⟨g, 0, none⟩) c (us ++ [v])) (hN : New w aX (some ⟨g, 0, none⟩)) (hB : But (Q.InA aX) w w5) :
    Wk (w5.setCell ⟨wb, 5, none⟩ (.slice (some ⟨g, 0, none⟩) (us.length + 1) c)) wb b rb own aT cT vs (some ⟨g, 0, none⟩) c (us ++ [v]) ∧ But own w (w5.setCell ⟨wb, 5, none⟩ (.slice (some ⟨g, 0, none⟩) (us.length + 1) c)) ∧ w5.cell? ⟨wb, 5, none⟩ = some (.slice aX us.length cX) ∧ w5.frozen? ⟨wb, 5, none⟩ = false := by
  have nb : ∀ {a : Option Addr} {c : Nat} {vs : List Value} {W : World} {cs : Array Value}, Ar W a c vs → W.heap[wb]? = some (.cells cs 43 (0, 0)) → ∀ y, a = some y → y.block ≠ wb := fun ha hb y hy e => by
    rcases ha.cases with ⟨h0, _⟩ | ⟨g', cur, h0, hg', _⟩
    · rw [h0] at hy; cases hy
    · rw [h0] at hy; cases hy
      exact blk_ty hg' hb (by decide) e
  have b5 : w5.heap[wb]? = _ := hB.same h.box (fun ⟨y, hy, e⟩ => nb h.x h.box y hy e)
  have bs : But (fun k => k = wb) w5 (w5.setCell ⟨wb, 5, none⟩ (.slice (some ⟨g, 0, none⟩) (us.length + 1) c)) := (But.refl (fun k => k = wb) w5).setCell (p := ⟨wb, 5, none⟩) (fun _ => rfl) _
  have t5 : Ar w5 aT cT vs := h.t.but hB (fun y hy ⟨z, hz, e⟩ => h.ne y z hy hz e.symm)
  have og : own g := by
    rcases hN ⟨g, 0, none⟩ rfl with ⟨z, hz, e⟩ | e
    · have e : z.block = g := e
      rw [← e]; exact h.ox z hz
    · exact hw g e
  have lt : ∀ z, aT = some z → z.block < w.heap.size := fun z hz => h.t.lt hz
  refine ⟨⟨?_, t5.but bs (fun y hy e => nb t5 b5 y hy e), hA.but bs (fun y hy e => nb hA b5 y hy e), h.ob, h.ot, fun y hy => by cases hy; exact og, fun y z hy hz e => ?_⟩, ?_, ?_, by simp [World.frozen?, b5]⟩
  · rw [heap_setCell_same _ _ _ _ _ _ b5]
    rw [List.length_append]
    rfl
  · cases hz
    rcases hN ⟨g, 0, none⟩ rfl with ⟨q, hq, e2⟩ | e2
    · exact h.ne y q hy hq (e.trans e2.symm)
    · have := lt y hy
      have e2 : w.heap.size ≤ g := e2
      have e : y.block = g := e
      omega
  · exact ((hB.mono (T := own) (fun k _ ⟨y, hy, e⟩ => by rw [← e]; exact h.ox y hy)).trans bs (fun k _ e => by have e : k = wb := e; rw [e]; exact h.ob))
  · rw [cell_of_row _ _ _ _ _ _ b5]; rfl
end Go.Proofs.YtbhigodjbfoeoaaGreat
