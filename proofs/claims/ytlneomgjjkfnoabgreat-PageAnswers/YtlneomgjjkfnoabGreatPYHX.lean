import Derived.Test.YtlneomgjjkfnoabGreatPYEX
import Derived.Deep.CutRange
import Derived.Deep.RegionLaw
namespace Go.Proofs.YtlneomgjjkfnoabGreat
open Go.RowKit

theorem Jw.item4 {w : World} {g cap : Nat} {L : List Iv} (h : Jw w (some ⟨g, 0, none⟩) cap L) {k : Nat} (hk : k < L.length) : (w.cell? ⟨g, k * 4, none⟩ = some (.slice (L.getD k Iv.zero).aK (L.getD k Iv.zero).key.length (L.getD k Iv.zero).cK) ∧ w.cell? ⟨g, k * 4 + 1, none⟩ = some (.slice (L.getD k Iv.zero).aV (L.getD k Iv.zero).val.length (L.getD k Iv.zero).cV) ∧ w.cell? ⟨g, k * 4 + 2, none⟩ = some (.int .i64 (L.getD k Iv.zero).child) ∧ w.cell? ⟨g, k * 4 + 3, none⟩ = some (.int .i64 (L.getD k Iv.zero).size)) ∧
    w.frozen? ⟨g, k * 4, none⟩ = false ∧ w.frozen? ⟨g, k * 4 + 1, none⟩ = false ∧ w.frozen? ⟨g, k * 4 + 2, none⟩ = false ∧ w.frozen? ⟨g, k * 4 + 3, none⟩ = false := by
  have hc : ∀ j u, j < 4 → (L.getD k Iv.zero).cs.toList[j]? = some u → w.cell? ⟨g, k * 4 + j, none⟩ = some u := fun j u hj hu => by
    have := h.cells (k * 4 + j) u (by rw [Jc_get L k j hk hj]; exact hu)
    rw [Addr.add_mid, Nat.zero_add] at this
    exact this
  have hf := h.four hk
  exact ⟨⟨hc 0 _ (by decide) rfl, hc 1 _ (by decide) rfl, hc 2 _ (by decide) rfl, hc 3 _ (by decide) rfl⟩, (hf 0 (by decide)).2, (hf 1 (by decide)).2, (hf 2 (by decide)).2, (hf 3 (by decide)).2⟩
theorem zero_getD {D : List Iv} {n j : Nat} (hl : D.length = j) : (D ++ List.replicate n Iv.zero).getD j Iv.zero = Iv.zero := by
  subst hl
  rw [List.getD_eq_getElem?_getD, List.getElem?_append_right (Nat.le_refl _), Nat.sub_self]
  cases n <;> simp
theorem drew_heap (w : World) : w.drew.heap = w.heap := rfl
theorem blk_new3 {w W : World} {o p q : Obj} (hb : Below (((w.alloc o).alloc p).alloc q).drew.heap.size (((w.alloc o).alloc p).alloc q).drew W) : W.heap[w.heap.size + 1 + 1]? = some q := by
  have e : (((w.alloc o).alloc p).alloc q).heap.size = w.heap.size + 3 := by rw [size_alloc, size_alloc, size_alloc]
  refine (hb.block _ (by rw [drew_heap, e]; omega)).trans ?_
  rw [drew_heap]
  have := heap_alloc_new ((w.alloc o).alloc p) q
  rw [size_alloc, size_alloc] at this
  exact this
theorem but_set4o (g o : Nat) (w : World) (a b c d : Value) : But (fun k => k = g) w ((((w.setCell ⟨g, o, none⟩ a).setCell ⟨g, o + 1, none⟩ b).setCell ⟨g, o + 2, none⟩ c).setCell ⟨g, o + 3, none⟩ d) :=
  ((((But.refl (fun k => k = g) w).setCell (p := ⟨g, o, none⟩) (fun _ => rfl) a).setCell (p := ⟨g, o + 1, none⟩) (fun _ => rfl) b).setCell (p := ⟨g, o + 2, none⟩) (fun _ => rfl) c).setCell (p := ⟨g, o + 3, none⟩) (fun _ => rfl) d
theorem below_set4o {v W : World} (h : Below v.heap.size v W) {g : Nat} (hg : v.heap.size ≤ g) (o : Nat) (a b c d : Value) : Below v.heap.size v ((((W.setCell ⟨g, o, none⟩ a).setCell ⟨g, o + 1, none⟩ b).setCell ⟨g, o + 2, none⟩ c).setCell ⟨g, o + 3, none⟩ d) :=
  ((But.ofBelow (S := fun _ => False) h).trans (but_set4o g o W a b c d) fun y hy e => by omega).below fun _ _ h => h
/-- behind the first statement of SparePage -/
structure Sq (w wx : World) (pc : Array Value) (p : Pv) (g3 gD : Nat) : Prop where
  b : Below (w.alloc (.cells pc 27)).heap.size (w.alloc (.cells pc 27)) wx
  rs : Bx wx 27 (w.heap.size + 1) Pv.zero.cs
  o3 : Bx wx 27 g3 (Pv.mk p.kind p.level none 0 [] (some ⟨gD, 0, none⟩) (p.data.length + 64) p.data p.next).cs
  n3 : w.heap.size + 1 < g3
  f : Sf (w.alloc (.cells pc 27)) wx [⟨some ⟨gD, 0, none⟩, p.data.length + 64, p.data⟩]
theorem Sq.a {w w1 : World} {pc : Array Value} {p : Pv} {gD : Nat} (T1 : Below ((w.alloc (.cells pc 27)).alloc (.cells Pv.zero.cs 27)).heap.size ((w.alloc (.cells pc 27)).alloc (.cells Pv.zero.cs 27)) w1) (hs : Sl w1 (some ⟨gD, 0, none⟩) (p.data.length + 64) p.data) (hg : w.heap.size + 2 ≤ gD) :
    Sq w (w1.alloc (.cells (Pv.mk p.kind p.level none 0 [] (some ⟨gD, 0, none⟩) (p.data.length + 64) p.data p.next).cs 27)) pc p w1.heap.size gD := by
  obtain ⟨_, k2, _, k4⟩ := two_blocks w _ _ T1
  have hb := bt (al (w.alloc (.cells pc 27)) (.cells Pv.zero.cs 27)) (bt T1 (al w1 (.cells (Pv.mk p.kind p.level none 0 [] (some ⟨gD, 0, none⟩) (p.data.length + 64) p.data p.next).cs 27)))
  exact ⟨hb, (show Bx w1 27 (w.heap.size + 1) _ from k2).keep (al _ _), Bx.new _ _ _, by omega, Sf.one (hs.keep (al _ _)) (by rw [size_alloc]; omega) hb⟩
theorem Sq.c {w w1 : World} {pc : Array Value} {p : Pv} {gD : Nat} (T1 : Below ((w.alloc (.cells pc 27)).alloc (.cells Pv.zero.cs 27)).heap.size ((w.alloc (.cells pc 27)).alloc (.cells Pv.zero.cs 27)) w1) (X3 : Bx w1 27 (w.heap.size + 1 + 1) Pv.zero.cs) (hs : Sl w1 (some ⟨gD, 0, none⟩) (p.data.length + 64) p.data) (hg : w.heap.size + 3 ≤ gD) :
    Sq w (((((w1.setCell ⟨w.heap.size + 1 + 1, 0, none⟩ (.int .i64 p.kind)).setCell ⟨w.heap.size + 1 + 1, 1, none⟩ (.int .i64 p.level)).setCell ⟨w.heap.size + 1 + 1, 2, none⟩ (.slice none 0 0)).setCell ⟨w.heap.size + 1 + 1, 3, none⟩ (.slice (some ⟨gD, 0, none⟩) p.data.length (p.data.length + 64))).setCell ⟨w.heap.size + 1 + 1, 4, none⟩ (.int .i64 p.next)) pc p (w.heap.size + 1 + 1) gD := by
  obtain ⟨_, k2, _, k4⟩ := two_blocks w _ _ T1
  have hB := but_set5 (w.heap.size + 1 + 1) w1 (.int .i64 p.kind) (.int .i64 p.level) (.slice none 0 0) (.slice (some ⟨gD, 0, none⟩) p.data.length (p.data.length + 64)) (.int .i64 p.next)
  have hb := ((But.ofBelow (S := fun _ => False) (bt (al (w.alloc (.cells pc 27)) (.cells Pv.zero.cs 27)) T1)).trans hB fun y hy e => by rw [size_alloc] at hy; omega).below fun _ _ h => h
  exact ⟨hb, (show Bx w1 27 (w.heap.size + 1) _ from k2).but hB (by omega), bx_set5 X3 _ _ _ _ _, by omega, Sf.one (hs.but hB fun x hx e => by cases hx; simp only at e; omega) (by rw [size_alloc]; omega) hb⟩
theorem Sq.sw {w W : World} {pc : Array Value} {p : Pv} {g3 gD n : Nat} (h : Sq w W pc p g3 gD) (hn : n = p.items.length + 2) (hl : n ≤ 1048579) : Sw (w.alloc (.cells pc 27)) (W.alloc (.cells (madeCells Iv.zero.cs (n * 4)) 55)) p g3 gD W.heap.size 0 [] := by
  subst hn
  have e : (w.alloc (.cells pc 27)).heap.size = w.heap.size + 1 := size_alloc _ _
  have k := h.rs.lt
  exact ⟨bt h.b (al _ _), by rw [e]; exact h.rs.keep (al _ _), h.o3.keep (al _ _), by rw [e]; exact h.n3, by simpa using Jw.start hl, by rw [e]; omega, rfl, fun _ h => absurd h (by omega), fun _ h => absurd h (by omega), by simpa [rowsOf] using h.f.keep (al _ _)⟩
set_option maxRecDepth 16000 in
set_option maxHeartbeats 12800000 in
theorem SparePage_lit (w : World) (kind level : Int) (aI : Option Addr) (cI : Nat) (items : List Iv) (aD : Option Addr) (cD : Nat) (data : List Nat) (next : Int) (hR : Pi w ⟨kind, level, aI, cI, items, aD, cD, data, next⟩) (hd : data.length ≤ 140737488355264) (hi : items.length ≤ 1048576) (hs : ∀ x ∈ items, x.key.length ≤ 140737488355264 ∧ x.val.length ≤ 140737488355264) :
    Calls Tryz.prog 6 #[.agg #[.int .i64 kind, .int .i64 level, .slice aI items.length cI, .slice aD data.length cD, .int .i64 next]] w fun e w' => ∃ q : Pv, e = .returned q.vl ∧ Sp w w' ⟨kind, level, aI, cI, items, aD, cD, data, next⟩ q := by
  have SA := hide fun w1 (hb : Below w.heap.size w w1) => Spare_at w1 aD data.length cD data (hR.bd.keep hb) rfl hd
  have HI := hide fun w1 (hb : Below w.heap.size w w1) (k : Nat) (hk : k < items.length) => (hR.it.keep hb).at hk
  have SK := hide fun (k : Nat) (hk : k < items.length) w1 (hb : Below w.heap.size w w1) => Spare_at w1 (items.getD k Iv.zero).aK (items.getD k Iv.zero).key.length (items.getD k Iv.zero).cK (items.getD k Iv.zero).key ((hR.it.1 _ (getD_memR hk)).bk.keep hb) rfl (hs _ (getD_memR hk)).1
  have SV := hide fun (k : Nat) (hk : k < items.length) w1 (hb : Below w.heap.size w w1) => Spare_at w1 (items.getD k Iv.zero).aV (items.getD k Iv.zero).val.length (items.getD k Iv.zero).cV (items.getD k Iv.zero).val ((hR.it.1 _ (getD_memR hk)).bv.keep hb) rfl (hs _ (getD_memR hk)).2
  have IT := hide fun (W : World) (h : W.heap[w.heap.size]? = some (.cells (Pv.cs ⟨kind, level, aI, cI, items, aD, cD, data, next⟩) 27)) => Bx.page (p := ⟨kind, level, aI, cI, items, aD, cD, data, next⟩) h
  have TZ := hide fun (W : World) (k : Nat) (h : W.heap[k]? = some (.cells (Pv.cs Pv.zero) 27)) => And.intro (Bx.page (p := Pv.zero) h) (fr4 (show Bx W 27 k _ from h))
  have TM := hide fun (W : World) (k : Nat) (h : W.heap[k]? = some (.cells (Pv.cs Pv.zero) 27)) (a b c d f : Value) => bx_set5 (show Bx W 27 k _ from h) a b c d f
  have IS := hide fun (W : World) (h : W.heap[w.heap.size]? = some (.cells (Pv.cs ⟨kind, level, aI, cI, items, aD, cD, data, next⟩) 27)) (a b c d f : Value) => Bx.page (p := ⟨kind, level, aI, cI, items, aD, cD, data, next⟩) ((show Bx W 27 w.heap.size _ from h).but (but_set5 (w.heap.size + 1 + 1) W a b c d f) (by omega))
  clear hR hs
  dsimp only [Pv.cs, Pv.zero, List.length_nil] at *
  go_enter Tryz.func6, Tryz.ntmps6
  go_wp2
  have T0 : Hid (Below ((w.alloc (.cells #[.int .i64 kind, .int .i64 level, .slice aI items.length cI, .slice aD data.length cD, .int .i64 next] 27)).alloc (.cells #[.int .i64 0, .int .i64 0, .slice none 0 0, .slice none 0 0, .int .i64 0] 27)).heap.size ((w.alloc (.cells #[.int .i64 kind, .int .i64 level, .slice aI items.length cI, .slice aD data.length cD, .int .i64 next] 27)).alloc (.cells #[.int .i64 0, .int .i64 0, .slice none 0 0, .slice none 0 0, .int .i64 0] 27)) ((w.alloc (.cells #[.int .i64 kind, .int .i64 level, .slice aI items.length cI, .slice aD data.length cD, .int .i64 next] 27)).alloc (.cells #[.int .i64 0, .int .i64 0, .slice none 0 0, .slice none 0 0, .int .i64 0] 27)).drew) := (Below.refl _ _).drew
  have T0b : Hid (Below ((w.alloc (.cells #[.int .i64 kind, .int .i64 level, .slice aI items.length cI, .slice aD data.length cD, .int .i64 next] 27)).alloc (.cells #[.int .i64 0, .int .i64 0, .slice none 0 0, .slice none 0 0, .int .i64 0] 27)).heap.size ((w.alloc (.cells #[.int .i64 kind, .int .i64 level, .slice aI items.length cI, .slice aD data.length cD, .int .i64 next] 27)).alloc (.cells #[.int .i64 0, .int .i64 0, .slice none 0 0, .slice none 0 0, .int .i64 0] 27)) (((w.alloc (.cells #[.int .i64 kind, .int .i64 level, .slice aI items.length cI, .slice aD data.length cD, .int .i64 next] 27)).alloc (.cells #[.int .i64 0, .int .i64 0, .slice none 0 0, .slice none 0 0, .int .i64 0] 27)).alloc (.cells #[.int .i64 0, .int .i64 0, .slice none 0 0, .slice none 0 0, .int .i64 0] 27)).drew) := (al _ _).drew
  have C0 := IT.out _ (two_blocks w _ _ T0.out).1
  have C0b := IT.out _ (two_blocks w _ _ T0b.out).1
  go_cut [3] from 6 to 15 (fun p wx => ∃ (g3 gD : Nat), p = .pointer (some ⟨g3, 0, none⟩) ∧ Sq w wx #[.int .i64 kind, .int .i64 level, .slice aI items.length cI, .slice aD data.length cD, .int .i64 next] ⟨kind, level, aI, cI, items, aD, cD, data, next⟩ g3 gD)
  case first =>
    go_region_held3 (fun w' => w'.cell? ⟨w.heap.size, 0, none⟩ = some (.int .i64 kind) ∧ w'.cell? ⟨w.heap.size, 1, none⟩ = some (.int .i64 level) ∧ w'.cell? ⟨w.heap.size, 2, none⟩ = some (.slice aI items.length cI) ∧ w'.cell? ⟨w.heap.size, 3, none⟩ = some (.slice aD data.length cD) ∧ w'.cell? ⟨w.heap.size, 4, none⟩ = some (.int .i64 next))
      (first | with_reducible exact C0 | with_reducible exact C0b | with_reducible exact CC | with_reducible exact CA _ | with_reducible exact CS _ _ _ _ _)
      (first | (go_at_call 7; with_reducible refine (SA.out _ (two_blocks w _ _ T0.out).2.2.1).mono ?_; rintro e w1 ⟨gD, rfl, hs, hg, hl, hb⟩; have T1 := hide (bt T0.out hb); have CC := IT.out _ (two_blocks w _ _ T1.out).1; have CA := fun o => IT.out _ (two_blocks w _ _ (bt T1.out (al _ o))).1) | (go_at_call 7; with_reducible refine (SA.out _ (two_blocks w _ _ T0b.out).2.2.1).mono ?_; rintro e w1 ⟨gD, rfl, hs, hg, hl, hb⟩; have T1 := hide (bt T0b.out hb); have CC := IT.out _ (two_blocks w _ _ T1.out).1; have X3 := hide (blk_new3 (w := w) hb); obtain ⟨⟨y0, y1, y2, y3, y4⟩, f0, f1, f2, f3, f4⟩ := TZ.out _ _ X3.out; have CS := fun (a b c d f : Value) => IS.out _ (two_blocks w _ _ T1.out).1 a b c d f))
    · go_wp2_with fail
      go_meet
      case rel => exact ⟨w1.heap.size, gD, rfl, Sq.a (p := ⟨kind, level, aI, cI, items, aD, cD, data, next⟩) T1.out hs (by have h := (two_blocks w _ _ T0.out).2.2.2; omega)⟩
    · clear y0 y1 y2 y3 y4 f0 f1 f2 f3 f4
      go_wp2_with fail
      go_meet
      case rel => exact ⟨w.heap.size + 1 + 1, gD, rfl, Sq.c (p := ⟨kind, level, aI, cI, items, aD, cD, data, next⟩) T1.out X3.out hs (by have h : (((w.alloc (.cells #[.int .i64 kind, .int .i64 level, .slice aI items.length cI, .slice aD data.length cD, .int .i64 next] 27)).alloc (.cells #[.int .i64 0, .int .i64 0, .slice none 0 0, .slice none 0 0, .int .i64 0] 27)).alloc (.cells #[.int .i64 0, .int .i64 0, .slice none 0 0, .slice none 0 0, .int .i64 0] 27)).drew.heap.size = w.heap.size + 3 := (by rw [drew_heap, size_alloc, size_alloc, size_alloc]); omega)⟩
  case rest =>
    obtain ⟨g3, gD, rfl, hW⟩ := hcut
    have HW := hide hW
    clear hW C0 C0b T0 T0b SA IS TM
    have V0 := hide (al w (.cells #[.int .i64 kind, .int .i64 level, .slice aI items.length cI, .slice aD data.length cD, .int .i64 next] 27))
    have B0 := hide (Bx.new w 27 #[.int .i64 kind, .int .i64 level, .slice aI items.length cI, .slice aD data.length cD, .int .i64 next])
    have BK := hide fun (W : World) (hb : Below (w.alloc (.cells #[.int .i64 kind, .int .i64 level, .slice aI items.length cI, .slice aD data.length cD, .int .i64 next] 27)).heap.size (w.alloc (.cells #[.int .i64 kind, .int .i64 level, .slice aI items.length cI, .slice aD data.length cD, .int .i64 next] 27)) W) => (IT.out W (B0.out.keep hb)).2.2.1
    have hk2 := BK.out _ HW.out.b
    have hmk := make_items (items.length + 2) (by omega)
    have hadd : IntKind.i64.wrap ((items.length : Int) + 2) = ((items.length + 2 : Nat) : Int) := by rw [wrapI (by omega) (by omega)]; omega
    obtain ⟨n, hn⟩ : ∃ n, n = items.length + 2 := ⟨_, rfl⟩
    rw [← hn] at hmk hadd
    have hn3 : items.length ≤ n := by omega
    have hn4 : n ≤ 1048579 := by omega
    have HN := hide hn
    have SW0 := hide (HW.out.sw hn hn4)
    have OUT := hide fun (W : World) (D : List Iv) (j : Nat) (hj : ¬ j < n) (hj2 : j ≤ n) (h : Sw (w.alloc (.cells #[.int .i64 kind, .int .i64 level, .slice aI items.length cI, .slice aD data.length cD, .int .i64 next] 27)) W ⟨kind, level, aI, cI, items, aD, cD, data, next⟩ g3 gD wc.heap.size j D) => (show Sw (w.alloc (.cells #[.int .i64 kind, .int .i64 level, .slice aI items.length cI, .slice aD data.length cD, .int .i64 next] 27)) W ⟨kind, level, aI, cI, items, aD, cD, data, next⟩ g3 gD wc.heap.size (items.length + 2) D by rw [show items.length + 2 = j by omega]; exact h)
    clear hn
    obtain ⟨v0, hv0⟩ : ∃ v0, w.alloc (.cells #[.int .i64 kind, .int .i64 level, .slice aI items.length cI, .slice aD data.length cD, .int .i64 next] 27) = v0 := ⟨_, rfl⟩
    have hvs : v0.heap.size = w.heap.size + 1 := by rw [← hv0]; exact size_alloc _ _
    rw [hv0] at SW0 BK V0 OUT
    clear hv0
    go_wp2
    go_loopw [5] (fun i wx => ∃ (j : Nat) (D : List Iv), j ≤ n ∧ i = .int .i64 j ∧ Sw v0 wx ⟨kind, level, aI, cI, items, aD, cD, data, next⟩ g3 gD wc.heap.size j D) (fun i _ => n - (intOf i).toNat)
    case atStart => exact ⟨0, [], Nat.zero_le _, rfl, SW0.out⟩
    case round =>
      obtain ⟨j, D, hj, rfl, hG⟩ := hrel
      have HG := hide hG
      clear hG SW0 HW hk2 hmk hadd
      have hk2 := BK.out _ HG.out.b
      have GN := hide HG.out.gn
      by_cases hlt : j < n
      · have hi1 : (j : Int) < (n : Int) := by omega
        have hj1 : j + 1 ≤ n := by omega
        have HLN : Hid (j < (D ++ List.replicate (items.length + 2 - j) Iv.zero).length) := by show _ < _; have := HN.out; rw [List.length_append, List.length_replicate, HG.out.len]; omega
        have ROW := hide (show ∀ W, Below wr.heap.size wr W → (W.cell? ⟨wc.heap.size, j * 4, none⟩ = some (.slice none 0 0) ∧ W.cell? ⟨wc.heap.size, j * 4 + 1, none⟩ = some (.slice none 0 0) ∧ W.cell? ⟨wc.heap.size, j * 4 + 2, none⟩ = some (.int .i64 0) ∧ W.cell? ⟨wc.heap.size, j * 4 + 3, none⟩ = some (.int .i64 0)) ∧ W.frozen? ⟨wc.heap.size, j * 4, none⟩ = false ∧ W.frozen? ⟨wc.heap.size, j * 4 + 1, none⟩ = false ∧ W.frozen? ⟨wc.heap.size, j * 4 + 2, none⟩ = false ∧ W.frozen? ⟨wc.heap.size, j * 4 + 3, none⟩ = false from fun W hb => by
          have h := (HG.out.jw.keep hb).item4 HLN.out
          rw [zero_getD HG.out.len] at h
          exact h)
        by_cases hm : j < items.length
        · have hi2 : (j : Int) < (items.length : Int) := by omega
          obtain ⟨bI, off, hab, _⟩ := HI.out _ (bt V0.out HG.out.b) j hm
          subst hab
          have SKK := hide (show ∀ W, Below v0.heap.size v0 W → (W.cell? ⟨w.heap.size, 2, none⟩ = some (.slice (some ⟨bI, off, none⟩) items.length cI) ∧ W.cell? ⟨bI, off + j * 4, none⟩ = some (.slice (items.getD j Iv.zero).aK (items.getD j Iv.zero).key.length (items.getD j Iv.zero).cK) ∧ W.cell? ⟨bI, off + j * 4 + 1, none⟩ = some (.slice (items.getD j Iv.zero).aV (items.getD j Iv.zero).val.length (items.getD j Iv.zero).cV) ∧ W.cell? ⟨bI, off + j * 4 + 2, none⟩ = some (.int .i64 (items.getD j Iv.zero).child) ∧ W.cell? ⟨bI, off + j * 4 + 3, none⟩ = some (.int .i64 (items.getD j Iv.zero).size)) from fun W hb => by
            obtain ⟨b', o', e, h⟩ := HI.out W (bt V0.out hb) j hm
            cases e
            exact ⟨BK.out W hb, range4 h⟩)
          have SK1 := hide (SK.out j hm)
          have SV1 := hide (SV.out j hm)
          have STP := hide fun (W1 W2 : World) (gK gV cK cV : Nat) (s1 : Sl W1 (some ⟨gK, 0, none⟩) cK (items.getD j Iv.zero).key) (n1 : wr.heap.size ≤ gK) (b1 : Below wr.heap.size wr W1) (s2 : Sl W2 (some ⟨gV, 0, none⟩) cV (items.getD j Iv.zero).val) (n2 : W1.heap.size ≤ gV) (b2 : Below W1.heap.size W1 W2) => HG.out.spare (child := (items.getD j Iv.zero).child) (size := (items.getD j Iv.zero).size) hm rfl s1 n1 b1 s2 n2 b2
          clear SK SV HI
          generalize items.getD j Iv.zero = r at *
          obtain ⟨r1, r2, rk, r3, r4, rv, rc, rz⟩ := r
          dsimp only at SKK SK1 SV1 STP
          have BD := hide (bt HG.out.b (dr2 wr))
          have C0 := SKK.out _ BD.out
          go_wp2
          go_region_held3 (fun w' => w'.cell? ⟨w.heap.size, 2, none⟩ = some (.slice (some ⟨bI, off, none⟩) items.length cI) ∧ w'.cell? ⟨bI, off + j * 4, none⟩ = some (.slice r1 rk.length r2) ∧ w'.cell? ⟨bI, off + j * 4 + 1, none⟩ = some (.slice r3 rv.length r4) ∧ w'.cell? ⟨bI, off + j * 4 + 2, none⟩ = some (.int .i64 rc) ∧ w'.cell? ⟨bI, off + j * 4 + 3, none⟩ = some (.int .i64 rz))
            (first | with_reducible exact C0 | with_reducible exact C1 | with_reducible exact C2 | with_reducible exact CS _ _ _ _)
            (first | (go_at_call 7; with_reducible refine (SK1.out _ (bt V0.out BD.out)).mono ?_; rintro e w1 ⟨gK, rfl, hs1, hg1, hl1, hb1⟩; have B1 := hide (bt BD.out hb1); have C1 := SKK.out _ B1.out; have H1 := hide (And.intro hs1 (And.intro hg1 (bt (dr2 wr) hb1)))) | (go_at_call 7; with_reducible refine (SV1.out _ (bt V0.out B1.out)).mono ?_; rintro e w2 ⟨gV, rfl, hs2, hg2, hl2, hb2⟩; have B2 := hide (bt B1.out hb2); have C2 := SKK.out _ B2.out; have H2 := hide (And.intro hs2 (And.intro hg2 hb2)); obtain ⟨⟨p0, p1, p2, p3⟩, f0, f1, f2, f3⟩ := ROW.out _ (bt H1.out.2.2 hb2); have CS := fun (a b c d : Value) => SKK.out _ (below_set4o B2.out (Nat.le_of_lt GN.out) (j * 4) a b c d)))
          have HST := hide (STP.out w1 w2 gK gV _ _ H1.out.1 H1.out.2.1 H1.out.2.2 H2.out.1 H2.out.2.1 H2.out.2.2)
          rw [nest4] at HST
          clear C0 C1 C2 CS p0 p1 p2 p3 f0 f1 f2 f3
          dsimp only at HST
          go_wp2
          go_roundw
          case rel => exact ⟨j + 1, _, hj1, by first | (go_num; done) | exact congrArg (Value.int IntKind.i64) (by omega), HST.out⟩
          case measure => first | exact meas_up _ _ _ rfl hlt | (simp [intOf]; omega)
        · have hi2 : ¬ (j : Int) < (items.length : Int) := by omega
          have hi3 : decide ((j : Int) < (items.length : Int)) = false := by simpa using hi2
          obtain ⟨⟨p0, p1, p2, p3⟩, f0, f1, f2, f3⟩ := ROW.out _ (Below.refl _ _)
          have HST := hide (HG.out.tail (by show items.length ≤ j; omega) (by show j < items.length + 2; have := HN.out; omega))
          rw [nest4] at HST
          unfold mark at HST
          dsimp only [List.length_nil] at HST
          go_wp2
          clear p0 p1 p2 p3 f0 f1 f2 f3
          go_roundw
          case rel => exact ⟨j + 1, _, hj1, by first | (go_num; done) | exact congrArg (Value.int IntKind.i64) (by omega), HST.out⟩
          case measure => first | exact meas_up _ _ _ rfl hlt | (simp [intOf]; omega)
      · have HG2 := hide (OUT.out _ D j hlt hj HG.out)
        obtain rfl : j = n := by omega
        obtain ⟨x0, x1, x2, x3, x4⟩ := Bx.page HG.out.o3
        have gf := frozen_of_row _ _ 2 _ _ HG.out.o3
        dsimp only [List.length_nil] at x0 x1 x2 x3 x4
        have M1 : Hid (∀ v, Bx (wr.setCell ⟨g3, 2, none⟩ v) 27 (w.heap.size + 1) #[.int .i64 0, .int .i64 0, .slice none 0 0, .slice none 0 0, .int .i64 0]) := fun v => (by have h := HG.out.rs; rw [hvs] at h; exact h.but ((But.refl (fun k => k = g3) wr).setCell (p := ⟨g3, 2, none⟩) (fun _ => rfl) v) (by have := HG.out.n3; omega))
        have HB := hide fun (v : Value) (cs : Array Value) => (show But (fun k => k = v0.heap.size ∨ k = g3) wr ((wr.setCell ⟨g3, 2, none⟩ v).setRow (w.heap.size + 1) cs) from ((But.refl (fun k => k = v0.heap.size ∨ k = g3) wr).setCell (p := ⟨g3, 2, none⟩) (fun _ => .inr rfl) v).trans (but_setRow _ _ _) fun x _ e => .inl (by omega))
        have hle : (items.length : Int) ≤ (j : Int) := by omega
        have HDL : Hid ((D.take items.length).length = items.length) := by show _ = _; rw [List.length_take, HG.out.len]; omega
        go_wp2_with (refine wpList_store_row rfl 27 _ _ rfl (w.heap.size + 1) _ rfl rfl 27 _ (M1.out _) sizePage rfl (by simp [Value.oneCell']) ?_)
        refine bodyPost_ret (v := .agg _) (results_cell_row Tryz.results6 _ _ (w.heap.size + 1) 27 _ (0, 0) _ rfl (setRow_heap _ _ _ _ _ _ (M1.out _)) Tryz.underlying27 rfl sizePage) rfl ?_
        refine ⟨_, ?_, HG2.out.done V0.out (HB.out _ _) (Nat.le_of_lt HG2.out.n3)⟩
        show Ending.returned (Value.agg _) = .returned (Value.agg (Pv.cs _))
        unfold Pv.cs
        dsimp only
        rw [HDL.out, ← HN.out]
theorem SparePage_any (w : World) (p : Pv) (hR : Pi w p) (hd : p.data.length ≤ 140737488355264) (hi : p.items.length ≤ 1048576) (hs : ∀ x ∈ p.items, x.key.length ≤ 140737488355264 ∧ x.val.length ≤ 140737488355264) :
    Calls Tryz.prog 6 #[p.vl] w fun e w' => ∃ q : Pv, e = .returned q.vl ∧ Sp w w' p q := by
  obtain ⟨kind, level, aI, cI, items, aD, cD, data, next⟩ := p
  exact SparePage_lit w kind level aI cI items aD cD data next hR hd hi hs
end Go.Proofs.YtlneomgjjkfnoabGreat

namespace Go.Proofs.YtlneomgjjkfnoabGreat
open Go.RowKit

theorem getD_it {P M : List Iv} (h : P.map Iv.it = M.map Iv.it) {j : Nat} (hj : j < M.length) : (P.getD j Iv.zero).it = (M.getD j Iv.zero).it := by
  have hl : P.length = M.length := by have := congrArg List.length h; simpa using this
  have e := congrArg (fun l => l[j]?) h
  simp only [List.getElem?_map] at e
  rw [List.getElem?_eq_getElem (show j < P.length by omega), List.getElem?_eq_getElem hj] at e
  simp only [Option.map_some, Option.some.injEq] at e
  rw [List.getD_eq_getElem?_getD, List.getD_eq_getElem?_getD, List.getElem?_eq_getElem (show j < P.length by omega), List.getElem?_eq_getElem hj]
  exact e
theorem front_get {P D : List Iv} {j : Nat} (h : j < P.length) : (P ++ D).getD j Iv.zero = P.getD j Iv.zero := by simp [List.getElem?_append_left h]
theorem kept_eq {W : World} {a b : Option Addr} {c d : Nat} {l k : List Nat} (e : l = k) (h : Sl W a c l) (hB : Bs W b k) : Calls Tryz.prog 12 #[.slice a l.length c, .slice b k.length d] W fun e w' => e = .returned (.bool true) ∧ Below W.heap.size W w' := by
  subst e
  exact Kept_sl W a b c d l h hB
theorem mark_get {P : List Iv} {n j : Nat} (h : P.length = n) (h1 : n ≤ j) (h2 : j < n + 2) : (P ++ [mark n, mark (n + 1)]).getD j Iv.zero = mark j := by
  subst h
  rcases (show j = P.length ∨ j = P.length + 1 by omega) with rfl | rfl
  · simp
  · simp
set_option maxRecDepth 16000 in
set_option maxHeartbeats 12800000 in
theorem KeptPage_lit (w w0 : World) (kind level : Int) (aI : Option Addr) (cI : Nat) (items : List Iv) (aD : Option Addr) (cD : Nat) (data : List Nat) (next : Int) (kind2 level2 : Int) (g : Nat) (items2 : List Iv) (aD2 : Option Addr) (cD2 : Nat) (data2 : List Nat) (next2 : Int)
    (hP : Pi w ⟨kind, level, aI, cI, items, aD, cD, data, next⟩) (hQ : Pi w ⟨kind2, level2, some ⟨g, 0, none⟩, items.length + 2, items2, aD2, cD2, data2, next2⟩) (hS : Sp w0 w ⟨kind, level, aI, cI, items, aD, cD, data, next⟩ ⟨kind2, level2, some ⟨g, 0, none⟩, items.length + 2, items2, aD2, cD2, data2, next2⟩) (hi : items.length ≤ 1048576) :
    Calls Tryz.prog 11 #[.agg #[.int .i64 kind2, .int .i64 level2, .slice (some ⟨g, 0, none⟩) items2.length (items.length + 2), .slice aD2 data2.length cD2, .int .i64 next2], .agg #[.int .i64 kind, .int .i64 level, .slice aI items.length cI, .slice aD data.length cD, .int .i64 next]] w fun e w' => e = .returned (.bool true) ∧ Below w.heap.size w w' := by
  have hlen : items2.length = items.length := hS.len
  have hE := hS.e
  have eD : data2 = data := congrArg Pg.data hE
  have eI : items2.map Iv.it = items.map Iv.it := congrArg Pg.items hE
  have EQ := hide fun w1 (hb : Below w.heap.size w w1) => EqPage_same w1 ⟨kind2, level2, some ⟨g, 0, none⟩, items.length + 2, items2, aD2, cD2, data2, next2⟩ ⟨kind, level, aI, cI, items, aD, cD, data, next⟩ (hQ.keep hb) (hP.keep hb) hE
  have KD := hide fun w1 (hb : Below w.heap.size w w1) => kept_eq (d := cD) eD ((hS.s.s ⟨aD2, cD2, data2⟩ (by simp [rp])).keep hb) (hP.bd.keep hb)
  have GI := hide fun (j : Nat) (hj : j < items.length) => getD_it eI hj
  have SL := hide fun (j : Nat) (hj : j < items.length) => And.intro (hS.s.s ⟨(items2.getD j Iv.zero).aK, (items2.getD j Iv.zero).cK, (items2.getD j Iv.zero).key⟩ (List.mem_cons_of_mem _ ((rows_sub (getD_memR (L := items2) (r := j) (by omega))).subset (by simp [Iv.rows])))) (hS.s.s ⟨(items2.getD j Iv.zero).aV, (items2.getD j Iv.zero).cV, (items2.getD j Iv.zero).val⟩ (List.mem_cons_of_mem _ ((rows_sub (getD_memR (L := items2) (r := j) (by omega))).subset (by simp [Iv.rows]))))
  have II := hide fun (j : Nat) (hj : j < items.length) => hP.it.1 _ (getD_memR hj)
  have HI := hide fun w1 (hb : Below w.heap.size w w1) (k : Nat) (hk : k < items.length) => (hP.it.keep hb).at hk
  have JW := hide (show Jw w (some ⟨g, 0, none⟩) (items.length + 2) (items2 ++ [mark items.length, mark (items.length + 1)]) from by
    obtain ⟨g', D, e1, e2, e3, e4, e5⟩ := hS.it
    cases e1
    rw [e4] at e3
    exact e3)
  have W1 := hide (bt (al w (.cells (Pv.cs ⟨kind2, level2, some ⟨g, 0, none⟩, items.length + 2, items2, aD2, cD2, data2, next2⟩) 27)) (al _ (.cells (Pv.cs ⟨kind, level, aI, cI, items, aD, cD, data, next⟩) 27)))
  have C1 := hide fun (W : World) (hb : Below ((w.alloc (.cells (Pv.cs ⟨kind2, level2, some ⟨g, 0, none⟩, items.length + 2, items2, aD2, cD2, data2, next2⟩) 27)).alloc (.cells (Pv.cs ⟨kind, level, aI, cI, items, aD, cD, data, next⟩) 27)).heap.size ((w.alloc (.cells (Pv.cs ⟨kind2, level2, some ⟨g, 0, none⟩, items.length + 2, items2, aD2, cD2, data2, next2⟩) 27)).alloc (.cells (Pv.cs ⟨kind, level, aI, cI, items, aD, cD, data, next⟩) 27)) W) => And.intro (Bx.page (p := ⟨kind2, level2, some ⟨g, 0, none⟩, items.length + 2, items2, aD2, cD2, data2, next2⟩) (two_blocks w _ _ hb).1) (Bx.page (p := ⟨kind, level, aI, cI, items, aD, cD, data, next⟩) (two_blocks w _ _ hb).2.1)
  clear hP hQ hS hE eD eI
  unfold Pv.vl at EQ
  dsimp only [Pv.cs] at *
  have MK := hide (show ∀ (W : World) (j : Nat), Below w.heap.size w W → items.length ≤ j → j < items.length + 2 → _ from fun W j hb h1 h2 => (by have h := (JW.out.keep hb).item4 (k := j) (by rw [List.length_append]; simp; omega); rw [mark_get hlen h1 h2] at h; exact h.1))
  have RW := hide (show ∀ (W : World) (j : Nat), Below w.heap.size w W → j < items.length → _ from fun W j hb h1 => (by have h := (JW.out.keep hb).item4 (k := j) (by rw [List.length_append]; omega); rw [front_get (by omega)] at h; exact h.1))
  have HAD := hide (show IntKind.i64.wrap ((items.length : Int) + 2) = ((items.length + 2 : Nat) : Int) from by rw [wrapI (by omega) (by omega)]; omega)
  generalize hn : items.length + 2 = n at *
  have hn4 : n ≤ 1048579 := by omega
  have HN := hide hn
  have HLN := hide hlen
  clear hn hlen
  obtain ⟨⟨q0, q1, q2, q3, q4⟩, p0, p1, p2, p3, p4⟩ := C1.out _ (Below.refl _ _)
  go_enter Tryz.func11, Tryz.ntmps11
  go_wp2_with fail
  generalize World.alloc (World.alloc _ _) _ = v at *
  refine (EQ.out _ W1.out).mono ?_
  rintro e w1 ⟨rfl, hb1⟩
  have V1 := hide hb1
  clear hb1 q0 q1 q2 q3 q4 p0 p1 p2 p3 p4 EQ
  obtain ⟨⟨q0, q1, q2, q3, q4⟩, p0, p1, p2, p3, p4⟩ := C1.out _ V1.out
  go_wp2_with fail
  refine (KD.out _ (bt W1.out V1.out)).mono ?_
  rintro e w2 ⟨rfl, hb2⟩
  have V2 := hide (bt V1.out hb2)
  clear hb2 q0 q1 q2 q3 q4 p0 p1 p2 p3 p4 KD V1
  obtain ⟨⟨q0, q1, q2, q3, q4⟩, p0, p1, p2, p3, p4⟩ := C1.out _ V2.out
  have hadd := HAD.out
  have HLE := hide HLN.out
  go_wp2
  clear hadd q0 q1 q2 q3 q4 p0 p1 p2 p3 p4
  go_loopw [6] (fun i wx => ∃ j : Nat, j ≤ n ∧ i = .int .i64 j ∧ Below v.heap.size v wx) (fun i _ => n - (intOf i).toNat)
  case atStart => exact ⟨0, Nat.zero_le _, rfl, V2.out⟩
  case round =>
    obtain ⟨j, hj, rfl, hV⟩ := hrel
    have VX := hide hV
    clear hV V2
    obtain ⟨⟨q0, q1, q2, q3, q4⟩, p0, p1, p2, p3, p4⟩ := C1.out _ VX.out
    by_cases hlt : j < n
    · have hi1 : (j : Int) < (n : Int) := by omega
      have hj1 : j + 1 ≤ n := by omega
      by_cases hm : j < items.length
      · have hi2 : decide ((items.length : Int) ≤ (j : Int)) = false := by simp; omega
        have hi3 : (j : Int) < (items.length : Int) := by omega
        have hi4 : (j : Int) < (items2.length : Int) := by have := HLE.out; omega
        obtain ⟨bI, off, hab, _⟩ := HI.out _ (bt W1.out VX.out) j hm
        subst hab
        have SKK := hide (show ∀ W, Below v.heap.size v W → (W.cell? ⟨w.heap.size, 2, none⟩ = some (.slice (some ⟨g, 0, none⟩) items2.length n) ∧ W.cell? ⟨w.heap.size + 1, 2, none⟩ = some (.slice (some ⟨bI, off, none⟩) items.length cI) ∧ W.cell? ⟨g, j * 4, none⟩ = some (.slice (items2.getD j Iv.zero).aK (items2.getD j Iv.zero).key.length (items2.getD j Iv.zero).cK) ∧ W.cell? ⟨g, j * 4 + 1, none⟩ = some (.slice (items2.getD j Iv.zero).aV (items2.getD j Iv.zero).val.length (items2.getD j Iv.zero).cV) ∧ W.cell? ⟨bI, off + j * 4, none⟩ = some (.slice (items.getD j Iv.zero).aK (items.getD j Iv.zero).key.length (items.getD j Iv.zero).cK) ∧ W.cell? ⟨bI, off + j * 4 + 1, none⟩ = some (.slice (items.getD j Iv.zero).aV (items.getD j Iv.zero).val.length (items.getD j Iv.zero).cV)) from fun W hb => by
          obtain ⟨b', o', e, h⟩ := HI.out W (bt W1.out hb) j hm
          cases e
          obtain ⟨⟨_, _, z2, _, _⟩, _, _, z3, _, _⟩ := C1.out W hb
          obtain ⟨z4, z5, _, _⟩ := RW.out W j (bt W1.out hb) hm
          obtain ⟨z6, z7, _, _⟩ := range4 h
          exact ⟨z2, z3, z4, z5, z6, z7⟩)
        have hit := GI.out j hm
        have K1 := hide fun (W : World) (hb : Below v.heap.size v W) => kept_eq (d := (items.getD j Iv.zero).cK) (congrArg It.key hit) ((SL.out j hm).1.keep (bt W1.out hb)) ((II.out j hm).bk.keep (bt W1.out hb))
        have K2 := hide fun (W : World) (hb : Below v.heap.size v W) => kept_eq (d := (items.getD j Iv.zero).cV) (congrArg It.val hit) ((SL.out j hm).2.keep (bt W1.out hb)) ((II.out j hm).bv.keep (bt W1.out hb))
        dsimp only [Iv.it] at K1 K2
        clear hit SL II GI HI RW MK q0 q1 q2 q3 q4 p0 p1 p3 p4
        generalize items.getD j Iv.zero = y at *
        generalize items2.getD j Iv.zero = x at *
        obtain ⟨x1, x2, xk, x3, x4, xv, xc, xz⟩ := x
        obtain ⟨y1, y2, yk, y3, y4, yv, yc, yz⟩ := y
        dsimp only at SKK K1 K2
        have BD := hide (bt VX.out (dr2 wr))
        have C0 := SKK.out _ BD.out
        go_wp2
        go_region_held3 (fun w' => w'.cell? ⟨w.heap.size, 2, none⟩ = some (.slice (some ⟨g, 0, none⟩) items2.length n) ∧ w'.cell? ⟨w.heap.size + 1, 2, none⟩ = some (.slice (some ⟨bI, off, none⟩) items.length cI) ∧ w'.cell? ⟨g, j * 4, none⟩ = some (.slice x1 xk.length x2) ∧ w'.cell? ⟨g, j * 4 + 1, none⟩ = some (.slice x3 xv.length x4) ∧ w'.cell? ⟨bI, off + j * 4, none⟩ = some (.slice y1 yk.length y2) ∧ w'.cell? ⟨bI, off + j * 4 + 1, none⟩ = some (.slice y3 yv.length y4))
          (first | with_reducible exact C0 | with_reducible exact D1 | with_reducible exact D2)
          (first | (go_at_call 12; with_reducible refine (K1.out _ BD.out).mono ?_; rintro e w5 ⟨rfl, hb5⟩; have B5 := hide (bt BD.out hb5); have D1 := SKK.out _ B5.out) | (go_at_call 12; with_reducible refine (K2.out _ B5.out).mono ?_; rintro e w6 ⟨rfl, hb6⟩; have B6 := hide (bt B5.out hb6); have D2 := SKK.out _ B6.out))
        clear C0 D1 D2
        go_wp2
        go_roundw
        case rel => exact ⟨j + 1, hj1, by first | (go_num; done) | exact congrArg (Value.int IntKind.i64) (by omega), B6.out⟩
        case measure => first | exact meas_up _ _ _ rfl hlt | (simp [intOf]; omega)
      · have hge : (items.length : Int) ≤ (j : Int) := by omega
        obtain ⟨m0, m1, m2, m3⟩ := MK.out wr j (bt W1.out VX.out) (by omega) (by have := HN.out; omega)
        unfold mark at m0 m1 m2 m3
        dsimp only [List.length_nil] at m0 m1 m2 m3
        clear q0 q1 q3 q4 p0 p1 p3 p4
        go_wp2
        go_roundw
        case rel => exact ⟨j + 1, hj1, by first | (go_num; done) | exact congrArg (Value.int IntKind.i64) (by omega), VX.out⟩
        case measure => first | exact meas_up _ _ _ rfl hlt | (simp [intOf]; omega)
    · obtain rfl : j = n := by omega
      go_wp2
      go_ret
      exact ⟨rfl, bt W1.out VX.out⟩
theorem KeptPage_any (w w0 : World) (p q : Pv) (hP : Pi w p) (hS : Sp w0 w p q) (hi : p.items.length ≤ 1048576) : Calls Tryz.prog 11 #[q.vl, p.vl] w fun e w' => e = .returned (.bool true) ∧ Below w.heap.size w w' := by
  have hQ := hS.pi hP hi
  obtain ⟨kind, level, aI, cI, items, aD, cD, data, next⟩ := p
  obtain ⟨kind2, level2, aI2, cI2, items2, aD2, cD2, data2, next2⟩ := q
  have hS' := hS
  obtain ⟨g, D, e1, e2, _⟩ := hS'.it
  dsimp only at e1 e2
  subst e1 e2
  exact KeptPage_lit w w0 kind level aI cI items aD cD data next kind2 level2 g items2 aD2 cD2 data2 next2 hP hQ hS hi
end Go.Proofs.YtlneomgjjkfnoabGreat
