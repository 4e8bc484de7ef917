import Derived.Test.YthfcgfdboienkabVW
namespace Go.Proofs.Ythfcgfdboienkab
open Go.RowKit

theorem At.not_new {w : World} {a : Option Addr} {cap : Nat} {l : List Nat} (h : Rw w a cap l) : ¬ At a w.heap.size := fun hk => by
  obtain ⟨x, hx, e⟩ := map_some hk
  have := h.lt hx
  omega
theorem new_cell (X : World) (n : Nat) (hn : n = X.heap.size) (v : Value) (t : TypeId) : (X.alloc (.cells #[v] t)).cell? ⟨n, 0, none⟩ = some v := by
  subst hn
  simp
theorem ub_wrap (i : Int) : IntKind.u64.wrap i = ((ub i : Nat) : Int) := by
  unfold ub
  have : IntKind.u64.wrap i = i % 18446744073709551616 := by simp [IntKind.wrap, IntKind.bits, IntKind.signed]
  rw [this]
  omega
theorem Apd.point {w w4 w6 : World} {a a4 a6 : Option Addr} {c4 c6 gv n : Nat} {l4 l6 : List Nat} {u : Value} (h : Apd w a w4 a4 c4 l4) (hg : w.heap.size ≤ gv) (k : Apd (w4.setCell ⟨gv, n, none⟩ u) a4 w6 a6 c6 l6) : Apd w a w6 a6 c6 l6 := by
  have hs : (w4.setCell ⟨gv, n, none⟩ u).heap.size = w4.heap.size := by simp [World.setCell]
  refine ⟨k.r, h.n.trans k.n (by rw [hs]; exact h.b.size), (h.b.setCell (p := ⟨gv, n, none⟩) (fun hx => absurd hx (by show ¬ gv < _; omega)) u).trans k.b fun x hx ht => ?_⟩
  obtain ⟨y, hy, e⟩ := map_some ht
  rcases h.n y hy with ⟨z, hz, e2⟩ | h2
  · unfold At; rw [hz]; simp only [Option.map_some, Option.some.injEq]; rw [← e, ← e2]
  · omega
/-- the value's own block stays -/
theorem own_cells {w w2 : World} {a : Option Addr} {cap : Nat} {l : List Nat} (v : VV) (o : Obj) (h : Rw w a cap l) (hb : But (At a) ((w.alloc (.cells v.pc 48)).alloc o) w2) :
    (w2.cell? ⟨w.heap.size, 0, none⟩ = some (.int .i64 v.kind) ∧ w2.cell? ⟨w.heap.size, 2, none⟩ = some (.int .i64 v.int) ∧ w2.cell? ⟨w.heap.size, 3, none⟩ = some (.float .f64 v.real) ∧ w2.frozen? ⟨w.heap.size, 3, none⟩ = false ∧ w2.cell? ⟨w.heap.size, 4, none⟩ = some (.complex .f64 v.re v.im) ∧ w2.cell? ⟨w.heap.size, 5, none⟩ = some (.string v.text)) ∧ w2.heap[w.heap.size]? = some (.cells v.pc 48 (0, 0)) := by
  have e : w2.heap[w.heap.size]? = some (.cells v.pc 48 (0, 0)) := by
    rw [hb.block w.heap.size (by rw [size_alloc, size_alloc]; omega) (At.not_new h)]
    show ((w.heap.push _).push _)[w.heap.size]? = _
    rw [Array.getElem?_push_lt (by simp), Array.getElem_push_eq]
  refine ⟨⟨?_, ?_, ?_, frozen_of_row _ _ _ _ _ e, ?_, ?_⟩, e⟩
  all_goals (rw [cell_of_row _ _ _ _ _ _ e]; rfl)
set_option maxHeartbeats 1600000 in
theorem appendValue_any (w : World) (a : Option Addr) (cap n : Nat) (l : List Nat) (v : VV) (hR : Rw w a cap l) (hv : v.ok) (hk : 0 ≤ v.kind ∧ v.kind ≤ 5) (hn : n = l.length) (hlen : l.length + v.bytes.length + 8 ≤ 140737488355328) :
    Calls Try.prog 29 #[.slice a n cap, .agg v.pc] w fun e w' => ∃ a' cap', e = .returned (.slice a' (l ++ v.bytes).length cap') ∧ Apd w a w' a' cap' (l ++ v.bytes) := by
  subst hn
  have FB := hide (firstByte_any · v hv)
  have WD := hide (twidth_any · v.int hv.i0 hv.i1)
  have sf := st_float
  have sc := st_complex
  have hi := iw_le hv.i0 hv.i1
  have HV := hide hv
  have HR := hide hR
  clear hR hv
  have HLEN := hide hlen
  clear hlen
  generalize hhd : v.bytes.headD 1 = hd at *
  have HHD := hide hhd
  clear hhd
  unfold VV.pc at *
  go_enter Try.func29, Try.ntmps29
  go_wp2_with fail
  refine (FB.out _).mono ?_
  rintro e w1 ⟨rfl, o, rfl⟩
  go_wp2_with (at_builtin; refine wpList_ap1 rfl _ _ rfl a l.length cap l rfl rfl (HR.out.keep (bt (bt (al _ _) (al _ _)) (al _ _))) ⟨w.heap.size + 1 + 1, 0, none⟩ 1 hd rfl ?c1 (by have := HLEN.out; omega) ?_)
  case c1 => exact new_cell _ _ (by rw [size_alloc, size_alloc]) _ _
  intro g2 cap2 w2 hR2 hN2 hg2 _
  have A1 := hide (Apd.ofGrown (bt (bt (al _ _) (al _ _)) (al _ _)) hR2 hN2 hg2)
  obtain ⟨⟨k0, k2, k3, f3, k4, k5⟩, M0⟩ := own_cells (w := w) (w2 := w2) v o HR.out ((But.ofBelow (al _ _)).trans ((But.refl _ _).grown hg2 fun _ hk _ => hk) fun _ _ h => h)
  have HG2 : Hid (∀ x, At (some ⟨g2, 0, none⟩ : Option Addr) x → x ≠ w.heap.size) := by
    intro x hx e
    subst e
    rcases hN2 ⟨g2, 0, none⟩ rfl with ⟨y, hy, e⟩ | h
    · exact At.not_new HR.out (by unfold At; rw [hy]; unfold At at hx; simp only [Option.map_some, Option.some.injEq] at hx ⊢; rw [e]; exact hx)
    · unfold At at hx
      simp only [Option.map_some, Option.some.injEq] at hx
      rw [size_alloc, size_alloc, size_alloc] at h
      dsimp only at h
      omega
  have HM0 := hide M0
  clear M0 hR2 hN2 hg2 FB
  generalize hgv : w.heap.size = gv at *
  have HGV : Hid (w.heap.size ≤ gv) := Nat.le_of_eq hgv
  clear hgv
  obtain ⟨k, b, i, r, re, im, t⟩ := v
  dsimp only at *
  rcases kinds6 k with rfl | rfl | rfl | rfl | rfl | ⟨h1, h2, h3, h4, h5⟩
  · have HE : Hid ((VV.mk 1 b i r re im t).bytes = [hd]) := by show _ = _; rw [← HHD.out]; simp [VV.bytes]
    go_wp2
    go_ret
    rw [HE.out]
    exact ⟨_, cap2, by simp, A1.out⟩
  · have hub : IntKind.u64.wrap i = ((ub i : Nat) : Int) := ub_wrap i
    have HBL : Hid ((VV.mk 2 b i r re im t).bytes.length = 1 + iw i) := by show _ = _; simp [VV.bytes, hb_length]; omega
    have HE : Hid (l ++ (VV.mk 2 b i r re im t).bytes = (l ++ [hd]) ++ hb (ub i) (iw i)) := by show _ = _; rw [← HHD.out]; simp [VV.bytes]
    have HL : Hid (((l ++ [hd]) ++ hb (ub i) (iw i)).length = l.length + 1 + iw i) := by show _ = _; simp [hb_length]; omega
    have HFI : Hid (∀ W, Rw W (some ⟨g2, 0, none⟩) cap2 (l ++ [hd]) → Calls Try.prog 46 #[.slice (some ⟨g2, 0, none⟩) (l.length + 1) cap2, .int .u64 ((ub i : Nat) : Int), .int .i64 ((iw i : Nat) : Int)] W fun e w' => ∃ a' cap', e = .returned (.slice a' (l.length + 1 + iw i) cap') ∧ Apd W (some ⟨g2, 0, none⟩) w' a' cap' ((l ++ [hd]) ++ hb (ub i) (iw i))) := fun W hW => appendHF_any W _ _ (l.length + 1) (iw i) (l ++ [hd]) (ub i) hW (by omega) (by simp) (by have := HLEN.out; have := HBL.out; simp only [List.length_append, List.length_cons, List.length_nil]; omega)
    have RD := hide (A1.out.r.keep ((Below.refl _ w2).drew))
    have LT := hide (block_lt_of_cell k2)
    generalize ub i = x at *
    generalize iw i = q at *
    go_wp2
    go_region_held3 (fun w' => w'.cell? ⟨gv, 2, none⟩ = some (.int .i64 i))
      (first | exact k2 | exact kk)
      (first | (go_at_call 47; refine (WD.out _).mono ?_; rintro e w3 ⟨rfl, rfl⟩) | (go_at_call 46; refine (HFI.out _ RD.out).mono ?_; rintro e w4 ⟨a4, c4, rfl, h4⟩; have kk := (h4.b.cell (p := ⟨gv, 2, none⟩) LT.out (fun h => HG2.out _ h rfl)).trans k2; have H4 := hide h4; clear h4))
    go_wp2
    go_ret
    rw [HE.out, HL.out]
    exact ⟨a4, c4, rfl, A1.out.trans (Apd.pre ((Below.refl _ _).drew) H4.out)⟩
  · have RK := hide (rank_any · r HV.out.r)
    have HBL : Hid ((VV.mk 3 b i r re im t).bytes.length = 9) := by show _ = _; simp [VV.bytes, hb_length]
    have HE : Hid (l ++ (VV.mk 3 b i r re im t).bytes = (l ++ [hd]) ++ hb (rank r) 8) := by show _ = _; rw [← HHD.out]; simp [VV.bytes]
    have HL : Hid (((l ++ [hd]) ++ hb (rank r) 8).length = l.length + 1 + 8) := by show _ = _; simp [hb_length]
    have HFI : Hid (∀ W, Rw W (some ⟨g2, 0, none⟩) cap2 (l ++ [hd]) → Calls Try.prog 46 #[.slice (some ⟨g2, 0, none⟩) (l.length + 1) cap2, .int .u64 ((rank r : Nat) : Int), .int .i64 8] W fun e w' => ∃ a' cap', e = .returned (.slice a' (l.length + 1 + 8) cap') ∧ Apd W (some ⟨g2, 0, none⟩) w' a' cap' ((l ++ [hd]) ++ hb (rank r) 8)) := fun W hW => appendHF_any W _ _ (l.length + 1) (8) (l ++ [hd]) (rank r) hW (by omega) (by simp) (by have := HLEN.out; have := HBL.out; simp only [List.length_append, List.length_cons, List.length_nil]; omega)
    generalize rank r = x at *
    go_wp2_with fail
    refine (RK.out _).mono ?_
    rintro e w3 ⟨rfl, rfl⟩
    go_wp2_with fail
    refine (HFI.out _ A1.out.r).mono ?_
    rintro e w4 ⟨a4, c4, rfl, h4⟩
    have H4 := hide h4
    clear h4
    go_wp2
    go_ret
    rw [HE.out, HL.out]
    exact ⟨a4, c4, rfl, A1.out.trans H4.out⟩
  · have RK := hide (rank_any · re HV.out.re)
    have RK2 := hide (rank_any · im HV.out.im)
    have HBL : Hid ((VV.mk 4 b i r re im t).bytes.length = 17) := by show _ = _; simp [VV.bytes, hb_length]
    have HE : Hid (l ++ (VV.mk 4 b i r re im t).bytes = ((l ++ [hd]) ++ hb (rank re) 8) ++ hb (rank im) 8) := by show _ = _; rw [← HHD.out]; simp [VV.bytes]
    have HL : Hid ((((l ++ [hd]) ++ hb (rank re) 8) ++ hb (rank im) 8).length = l.length + 1 + 8 + 8) := by show _ = _; simp [hb_length]
    have HL8 : Hid (((l ++ [hd]) ++ hb (rank re) 8).length = l.length + 1 + 8) := by show _ = _; simp [hb_length]
    have HFI : Hid (∀ W, Rw W (some ⟨g2, 0, none⟩) cap2 (l ++ [hd]) → Calls Try.prog 46 #[.slice (some ⟨g2, 0, none⟩) (l.length + 1) cap2, .int .u64 ((rank re : Nat) : Int), .int .i64 8] W fun e w' => ∃ a' cap', e = .returned (.slice a' (l.length + 1 + 8) cap') ∧ Apd W (some ⟨g2, 0, none⟩) w' a' cap' ((l ++ [hd]) ++ hb (rank re) 8)) := fun W hW => appendHF_any W _ _ (l.length + 1) (8) (l ++ [hd]) (rank re) hW (by omega) (by simp) (by have := HLEN.out; have := HBL.out; simp only [List.length_append, List.length_cons, List.length_nil]; omega)
    have HFJ : Hid (∀ W a3 c3, Rw W a3 c3 ((l ++ [hd]) ++ hb (rank re) 8) → Calls Try.prog 46 #[.slice a3 (l.length + 1 + 8) c3, .int .u64 ((rank im : Nat) : Int), .int .i64 8] W fun e w' => ∃ a' cap', e = .returned (.slice a' (l.length + 1 + 8 + 8) cap') ∧ Apd W a3 w' a' cap' (((l ++ [hd]) ++ hb (rank re) 8) ++ hb (rank im) 8)) := fun W a3 c3 hW => appendHF_any W a3 c3 (l.length + 1 + 8) 8 _ (rank im) hW (by omega) HL8.out.symm (by have := HLEN.out; have := HBL.out; rw [HL8.out]; omega)
    have LT := hide (block_lt_of_cell k4)
    generalize rank re = x at *
    generalize rank im = y at *
    go_wp2_with fail
    refine (RK.out _).mono ?_
    rintro e w3 ⟨rfl, rfl⟩
    go_wp2_with fail
    refine (HFI.out _ A1.out.r).mono ?_
    rintro e w4 ⟨a4, c4, rfl, h4⟩
    have j4 := (h4.b.cell (p := ⟨gv, 4, none⟩) LT.out (fun h => HG2.out _ h rfl)).trans k4
    have j3 := (h4.b.cell (p := ⟨gv, 3, none⟩) LT.out (fun h => HG2.out _ h rfl)).trans k3
    have jf := (h4.b.frozen (p := ⟨gv, 3, none⟩) LT.out (fun h => HG2.out _ h rfl)).trans f3
    have HG4 : Hid (∀ y, a4 = some y → y.block ≠ gv) := by
      intro y hy e
      rcases h4.n y hy with ⟨z, hz, e2⟩ | h
      · exact HG2.out gv (by unfold At; rw [hz]; simp only [Option.map_some, Option.some.injEq]; rw [e2, e]) rfl
      · have : gv < w3.heap.size := LT.out; omega
    have R5 := hide (h4.r.but (w' := w4.setCell ⟨gv, 3, none⟩ (.float .f64 im)) ((But.refl (fun k => k = gv) w4).setCell (fun _ => rfl) _) (fun y hy e => HG4.out y hy e))
    have H4 := hide h4
    clear h4
    go_wp2_with fail
    refine (RK2.out _).mono ?_
    rintro e w5 ⟨rfl, rfl⟩
    go_wp2_with fail
    refine (HFJ.out _ a4 c4 R5.out).mono ?_
    rintro e w6 ⟨a6, c6, rfl, h6⟩
    have H6 := hide h6
    clear h6
    go_wp2
    go_ret
    rw [HE.out, HL.out]
    exact ⟨a6, c6, rfl, Apd.point (A1.out.trans H4.out) HGV.out H6.out⟩
  · have HBL : Hid ((VV.mk 5 b i r re im t).bytes.length = 1 + ((esc (tl t)).length + 1)) := by show _ = _; simp [VV.bytes]; omega
    have HE : Hid (l ++ (VV.mk 5 b i r re im t).bytes = (l ++ [hd]) ++ (esc (tl t) ++ [0])) := by show _ = _; rw [← HHD.out]; simp [VV.bytes]
    have AT := hide (appendText_any w2 _ cap2 (l.length + 1) (l ++ [hd]) t A1.out.r (by simp) (by have := HLEN.out; have := HBL.out; simp only [List.length_append, List.length_cons, List.length_nil]; omega))
    generalize ((l ++ [hd]) ++ (esc (tl t) ++ [0])) = Z at *
    go_wp2_with fail
    refine AT.out.mono ?_
    rintro e w4 ⟨a4, c4, rfl, h4⟩
    have H4 := hide h4
    clear h4
    go_wp2
    go_ret
    rw [HE.out]
    exact ⟨a4, c4, rfl, A1.out.trans H4.out⟩
  · obtain rfl : k = 0 := by omega
    have HE : Hid ((VV.mk 0 b i r re im t).bytes = [hd]) := by show _ = _; rw [← HHD.out]; simp [VV.bytes]
    go_wp2
    go_ret
    rw [HE.out]
    exact ⟨_, cap2, by simp, A1.out⟩
end Go.Proofs.Ythfcgfdboienkab
