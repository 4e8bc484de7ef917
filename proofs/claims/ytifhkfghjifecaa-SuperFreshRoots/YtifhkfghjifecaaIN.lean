import Derived.Test.YtifhkfghjifecaaIM
namespace Go.Proofs.Ytifhkfghjifecaa
open Go.RowKit

/-! ### what a block says, read -/
def rsd (D : List Nat) (a : Nat) : RS := ⟨D.drop a, 0⟩
theorem rsd_get {D : List Nat} {a k : Nat} (h : a + k ≤ D.length) : (rsd D a).get k = (nv D a k, rsd D (a + k)) := by
  unfold rsd nv
  rw [get_cut (by rw [List.length_drop]; omega), List.drop_drop]
def rP (D : List Nat) (j : Nat) : Pr := ⟨nv D (26 + 13 * j) 4, nv D (30 + 13 * j) 4, nv D (34 + 13 * j) 1, nv D (35 + 13 * j) 4⟩
def rPs (D : List Nat) (n : Nat) : List Pr := (List.range n).map (rP D)
theorem rPs_length (D : List Nat) (n : Nat) : (rPs D n).length = n := by simp [rPs]
theorem rPs_succ (D : List Nat) (n : Nat) : rPs D (n + 1) = rPs D n ++ [rP D n] := by simp [rPs, List.range_succ]
theorem rPs_zero (D : List Nat) : rPs D 0 = [] := rfl
def said (D : List Nat) : Pt := ⟨nv D 0 4, nv D 4 8, nv D 12 4, nv D 16 1, nv D 17 4, nv D 21 4, nv D 25 1, rPs D (min (nv D 25 1) 16)⟩
theorem Rk.size {v w : World} {b : Nat} {s : RS} (h : Rk v w b s) : v.heap.size ≤ w.heap.size := h.u.size
/-- a reader, and two variables: what is handed out, and what is read into -/
structure Hr (v w : World) (b : Nat) (t : TypeId) (z : Array Value) (W : World) (s : RS) (c : Array Value) : Prop where
  k : Rk v W b s
  o : Bx W t w.heap.size z
  i : Bx W t (w.heap.size + 1) c
  u : But (fun k => k = b) w W
theorem Hr.lt {v w : World} {b : Nat} {t : TypeId} {z : Array Value} {W : World} {s : RS} {c : Array Value} (h : Hr v w b t z W s c) (hv : v.heap.size ≤ w.heap.size) : b < w.heap.size := Nat.lt_of_lt_of_le h.k.blt hv
theorem Hr.set {v w : World} {b : Nat} {t : TypeId} {z : Array Value} {W : World} {s : RS} {c : Array Value} (h : Hr v w b t z W s c) (hv : v.heap.size ≤ w.heap.size) (i : Nat) (u : Value) : Hr v w b t z (W.setCell ⟨w.heap.size + 1, i, none⟩ u) s (c.setIfInBounds i u) :=
  ⟨h.k.but (S := fun k => k = w.heap.size + 1) ((But.refl (fun k => k = w.heap.size + 1) W).setCell (p := ⟨w.heap.size + 1, i, none⟩) (fun _ => rfl) u) (fun k hk => by omega), h.o.oth (p := ⟨w.heap.size + 1, i, none⟩) (by simp) u, h.i.setc i u, h.u.setCell (p := ⟨w.heap.size + 1, i, none⟩) (fun hp => by simp only at hp; omega) u⟩
theorem Hr.call {v w : World} {b : Nat} {t : TypeId} {z : Array Value} {W W' : World} {s s' : RS} {c : Array Value} (h : Hr v w b t z W s c) (hv : v.heap.size ≤ w.heap.size) (hk : Rk v W' b s') (hb : But (fun k => k = b) W W') : Hr v w b t z W' s' c :=
  ⟨hk, h.o.but hb (by have := h.lt hv; omega), h.i.but hb (by have := h.lt hv; omega), h.u.trans hb fun _ _ h => h⟩
theorem Hr.keep {v w : World} {b : Nat} {t : TypeId} {z : Array Value} {W W' : World} {s : RS} {c : Array Value} (h : Hr v w b t z W s c) (hb : Below W.heap.size W W') : Hr v w b t z W' s c := ⟨h.k.keep hb, h.o.keep hb, h.i.keep hb, h.u.andBelow hb⟩
theorem Hr.start {v w : World} {b : Nat} {s : RS} (h : Rk v w b s) (t : TypeId) (z : Array Value) : Hr v w b t z ((w.alloc (.cells z t)).alloc (.cells z t)) s z := by
  refine ⟨h.keep (bt (al w (.cells z t)) (al _ (.cells z t))), (Bx.new w t z).keep (al _ _), ?_, But.ofBelow (bt (al w (.cells z t)) (al _ (.cells z t)))⟩
  have := Bx.new (w.alloc (.cells z t)) t z
  rwa [size_alloc] at this
theorem Bx.some {w : World} {t : TypeId} {g : Nat} {cs : Array Value} (h : Bx w t g cs) {i : Nat} (hi : i < cs.size) : ∃ v, w.cell? ⟨g, i, none⟩ = some v := ⟨cs[i], h.cell i (by simp [hi])⟩
set_option maxRecDepth 8000 in
set_option maxHeartbeats 6400000 in
theorem readParts_any (v w : World) (b : Nat) (D : List Nat) (hl : D.length = 508) (h8 : B8 D) (h : Rk v w b (rsd D 0)) :
    Calls Try.prog 13 #[.pointer (some ⟨b, 0, none⟩)] w fun y w' => y = .returned (.agg (pc (said D))) ∧ Rk v w' b (rsd D (26 + 13 * min (nv D 25 1) 16)) ∧ But (fun k => k = b) w w' := by
  have G0 : Hid ((rsd D 0).get 4 = (nv D 0 4, rsd D 4)) := rsd_get (by omega)
  have G1 : Hid ((rsd D 4).get 8 = (nv D 4 8, rsd D 12)) := rsd_get (by omega)
  have G2 : Hid ((rsd D 12).get 4 = (nv D 12 4, rsd D 16)) := rsd_get (by omega)
  have G3 : Hid ((rsd D 16).get 1 = (nv D 16 1, rsd D 17)) := rsd_get (by omega)
  have G4 : Hid ((rsd D 17).get 4 = (nv D 17 4, rsd D 21)) := rsd_get (by omega)
  have G5 : Hid ((rsd D 21).get 4 = (nv D 21 4, rsd D 25)) := rsd_get (by omega)
  have G6 : Hid ((rsd D 25).get 1 = (nv D 25 1, rsd D 26)) := rsd_get (by omega)
  have hn25 := nv_lt h8 25 1
  have HSD : Hid (said D = Pt.with ⟨nv D 0 4, nv D 4 8, nv D 12 4, nv D 16 1, nv D 17 4, nv D 21 4, nv D 25 1, []⟩ (rPs D (min (nv D 25 1) 16))) := rfl
  have GR := hide fun (j : Nat) (hj : j < 16) => (show (rsd D (26 + 13 * j)).get 4 = ((rP D j).id, rsd D (30 + 13 * j)) ∧ (rsd D (30 + 13 * j)).get 4 = ((rP D j).r, rsd D (34 + 13 * j)) ∧ (rsd D (34 + 13 * j)).get 1 = ((rP D j).h, rsd D (35 + 13 * j)) ∧ (rsd D (35 + 13 * j)).get 4 = ((rP D j).n, rsd D (26 + 13 * (j + 1))) from by
    rw [rsd_get (by omega), rsd_get (by omega), rsd_get (by omega), rsd_get (by omega), show 26 + 13 * j + 4 = 30 + 13 * j by omega, show 30 + 13 * j + 4 = 34 + 13 * j by omega, show 34 + 13 * j + 1 = 35 + 13 * j by omega, show 35 + 13 * j + 4 = 26 + 13 * (j + 1) by omega]
    exact ⟨rfl, rfl, rfl, rfl⟩)
  rw [HSD.out]
  clear hl h8 HSD
  have HV := hide h.size
  have H := hide (Hr.start h 48 (pc pt0))
  have hz := zeroParts
  have hp0 := pc_size (p := pt0) (by simp [pt0])
  clear h
  generalize nv D 0 4 = n0 at *
  generalize nv D 4 8 = n1 at *
  generalize nv D 12 4 = n2 at *
  generalize nv D 16 1 = n3 at *
  generalize nv D 17 4 = n4 at *
  generalize nv D 21 4 = n5 at *
  generalize nv D 25 1 = n6 at *
  have HE : Hid ((((((((pc pt0).setIfInBounds 0 (.int .u32 (n0 : Int))).setIfInBounds 1 (.int .u64 (n1 : Int))).setIfInBounds 2 (.int .u32 (n2 : Int))).setIfInBounds 3 (.int .u8 (n3 : Int))).setIfInBounds 4 (.int .u32 (n4 : Int))).setIfInBounds 5 (.int .u32 (n5 : Int))).setIfInBounds 6 (.int .u8 (n6 : Int)) = pc (Pt.with ⟨n0, n1, n2, n3, n4, n5, n6, []⟩ [])) := rfl
  have HSZ := hide fun (R : List Pr) (hR : R.length ≤ 16) => pc_size (p := Pt.with ⟨n0, n1, n2, n3, n4, n5, n6, []⟩ R) hR
  have HSP := hide fun (R : List Pr) (hR : R.length ≤ 16) => sizeParts (p := Pt.with ⟨n0, n1, n2, n3, n4, n5, n6, []⟩ R) hR
  have HS := hide fun (w1 : World) (R : List Pr) => has_any w1 (Pt.with ⟨n0, n1, n2, n3, n4, n5, n6, []⟩ R) (show n6 < 256 from hn25)
  go_enter Try.func13, Try.ntmps13
  go_wp2_with fail
  generalize (w.alloc (.cells (pc pt0) 48)).alloc (.cells (pc pt0) 48) = W at *
  refine (kGet32 H.out.k).mono ?_
  rintro y w0 ⟨rfl, hk, hb⟩
  rw [G0.out] at hk ⊢
  have H := hide (H.out.call HV.out hk hb)
  clear hk hb
  have f0 := frozen_of_row _ (w.heap.size + 1) 0 _ _ H.out.i
  obtain ⟨v0, e0⟩ := H.out.i.some (i := 0) (by omega)
  have H := hide (H.out.set HV.out 0 (.int .u32 (n0 : Int)))
  go_wp2_with fail
  clear e0 f0
  generalize w0.setCell ⟨w.heap.size + 1, 0, none⟩ (.int .u32 (n0 : Int)) = W0 at *
  refine (kGet64 H.out.k).mono ?_
  rintro y w1 ⟨rfl, hk, hb⟩
  rw [G1.out] at hk ⊢
  have H := hide (H.out.call HV.out hk hb)
  clear hk hb
  have f0 := frozen_of_row _ (w.heap.size + 1) 1 _ _ H.out.i
  obtain ⟨v1, e0⟩ := H.out.i.some (i := 1) (by simp only [Array.size_setIfInBounds, hp0]; omega)
  have H := hide (H.out.set HV.out 1 (.int .u64 (n1 : Int)))
  go_wp2_with fail
  clear e0 f0
  generalize w1.setCell ⟨w.heap.size + 1, 1, none⟩ (.int .u64 (n1 : Int)) = W1 at *
  refine (kGet32 H.out.k).mono ?_
  rintro y w2 ⟨rfl, hk, hb⟩
  rw [G2.out] at hk ⊢
  have H := hide (H.out.call HV.out hk hb)
  clear hk hb
  have f0 := frozen_of_row _ (w.heap.size + 1) 2 _ _ H.out.i
  obtain ⟨v2, e0⟩ := H.out.i.some (i := 2) (by simp only [Array.size_setIfInBounds, hp0]; omega)
  have H := hide (H.out.set HV.out 2 (.int .u32 (n2 : Int)))
  go_wp2_with fail
  clear e0 f0
  generalize w2.setCell ⟨w.heap.size + 1, 2, none⟩ (.int .u32 (n2 : Int)) = W2 at *
  refine (kGet8 H.out.k).mono ?_
  rintro y w3 ⟨rfl, hk, hb⟩
  rw [G3.out] at hk ⊢
  have H := hide (H.out.call HV.out hk hb)
  clear hk hb
  have f0 := frozen_of_row _ (w.heap.size + 1) 3 _ _ H.out.i
  obtain ⟨v3, e0⟩ := H.out.i.some (i := 3) (by simp only [Array.size_setIfInBounds, hp0]; omega)
  have H := hide (H.out.set HV.out 3 (.int .u8 (n3 : Int)))
  go_wp2_with fail
  clear e0 f0
  generalize w3.setCell ⟨w.heap.size + 1, 3, none⟩ (.int .u8 (n3 : Int)) = W3 at *
  refine (kGet32 H.out.k).mono ?_
  rintro y w4 ⟨rfl, hk, hb⟩
  rw [G4.out] at hk ⊢
  have H := hide (H.out.call HV.out hk hb)
  clear hk hb
  have f0 := frozen_of_row _ (w.heap.size + 1) 4 _ _ H.out.i
  obtain ⟨v4, e0⟩ := H.out.i.some (i := 4) (by simp only [Array.size_setIfInBounds, hp0]; omega)
  have H := hide (H.out.set HV.out 4 (.int .u32 (n4 : Int)))
  go_wp2_with fail
  clear e0 f0
  generalize w4.setCell ⟨w.heap.size + 1, 4, none⟩ (.int .u32 (n4 : Int)) = W4 at *
  refine (kGet32 H.out.k).mono ?_
  rintro y w5 ⟨rfl, hk, hb⟩
  rw [G5.out] at hk ⊢
  have H := hide (H.out.call HV.out hk hb)
  clear hk hb
  have f0 := frozen_of_row _ (w.heap.size + 1) 5 _ _ H.out.i
  obtain ⟨v5, e0⟩ := H.out.i.some (i := 5) (by simp only [Array.size_setIfInBounds, hp0]; omega)
  have H := hide (H.out.set HV.out 5 (.int .u32 (n5 : Int)))
  go_wp2_with fail
  clear e0 f0
  generalize w5.setCell ⟨w.heap.size + 1, 5, none⟩ (.int .u32 (n5 : Int)) = W5 at *
  refine (kGet8 H.out.k).mono ?_
  rintro y w6 ⟨rfl, hk, hb⟩
  rw [G6.out] at hk ⊢
  have H := hide (H.out.call HV.out hk hb)
  clear hk hb
  have f0 := frozen_of_row _ (w.heap.size + 1) 6 _ _ H.out.i
  obtain ⟨v6, e0⟩ := H.out.i.some (i := 6) (by simp only [Array.size_setIfInBounds, hp0]; omega)
  have H := hide (H.out.set HV.out 6 (.int .u8 (n6 : Int)))
  rw [HE.out] at H
  go_wp2_with (first
    | (refine wpList_load_row rfl 48 _ rfl (w.heap.size + 1) rfl 48 (pc (Pt.with ⟨n0, n1, n2, n3, n4, n5, n6, []⟩ [])) (0, 0) _ H.out.i Try.underlying48 rfl (HSP.out [] (by simp)) ?_))
  clear e0 f0
  generalize w6.setCell ⟨w.heap.size + 1, 6, none⟩ (.int .u8 (n6 : Int)) = W6 at *
  refine (HS.out _ []).mono ?_
  rintro y w8 ⟨rfl, hb⟩
  have H := hide (H.out.keep hb)
  clear hb HS HE G0 G1 G2 G3 G4 G5 G6
  have hmin : min (Pt.with ⟨n0, n1, n2, n3, n4, n5, n6, []⟩ []).mn 16 = min n6 16 := rfl
  rw [hmin]
  clear hmin
  have hq16 : min n6 16 ≤ 16 := Nat.min_le_right _ _
  generalize hqq : min n6 16 = q at *
  have HQQ := hide hqq
  generalize hpp : (⟨n0, n1, n2, n3, n4, n5, n6, []⟩ : Pt) = P at *
  have HPP := hide hpp
  clear hqq hpp
  clear hn25
  go_wp2
  go_loopw [31] (fun z wx => ∃ j : Nat, j ≤ q ∧ z = .int .i64 j ∧ Hr v w b 48 (pc pt0) wx (rsd D (26 + 13 * j)) (pc (P.with (rPs D j)))) (fun z _ => q - (intOf z).toNat)
  case atStart => exact ⟨0, Nat.zero_le _, rfl, H.out⟩
  case round =>
    obtain ⟨j, hj, rfl, hH⟩ := hrel
    have H := hide hH
    clear hH
    by_cases hlt : j < q
    · have hlti : (j : Int) < (q : Int) := by omega
      have hj16 : (j : Int) < 16 := by omega
      obtain ⟨g1, g2, g3, g4⟩ := GR.out j (by omega)
      have R1 := hide g1
      have R2 := hide g2
      have R3 := hide g3
      have R4 := hide g4
      clear g1 g2 g3 g4
      have SN := hide (rPs_succ D j)
      have hlen := rPs_length D j
      have HST := hide (pc_set (p := P.with (rPs D j)) (j := j) hlen (by omega) (rP D j))
      have hsz := HSZ.out (rPs D j) (by omega)
      generalize rP D j = r at *
      generalize rPs D j = R at *
      go_wp2_with fail
      refine (kGet32 H.out.k).mono ?_
      rintro y x0 ⟨rfl, hk, hb⟩
      rw [R1.out] at hk ⊢
      have H := hide (H.out.call HV.out hk hb)
      clear hk hb
      have f0 := frozen_of_row _ (w.heap.size + 1) (7 + j * 4) _ _ H.out.i
      obtain ⟨v0, e0⟩ := H.out.i.some (i := 7 + j * 4) (by omega)
      have H := hide (H.out.set HV.out (7 + j * 4) (.int .u32 (r.id : Int)))
      go_wp2_with fail
      clear e0 f0
      generalize x0.setCell ⟨w.heap.size + 1, 7 + j * 4, none⟩ (.int .u32 (r.id : Int)) = X0 at *
      refine (kGet32 H.out.k).mono ?_
      rintro y x1 ⟨rfl, hk, hb⟩
      rw [R2.out] at hk ⊢
      have H := hide (H.out.call HV.out hk hb)
      clear hk hb
      have f0 := frozen_of_row _ (w.heap.size + 1) (7 + j * 4 + 1) _ _ H.out.i
      obtain ⟨v1, e0⟩ := H.out.i.some (i := 7 + j * 4 + 1) (by simp only [Array.size_setIfInBounds, hsz]; omega)
      have H := hide (H.out.set HV.out (7 + j * 4 + 1) (.int .u32 (r.r : Int)))
      go_wp2_with fail
      clear e0 f0
      generalize x1.setCell ⟨w.heap.size + 1, 7 + j * 4 + 1, none⟩ (.int .u32 (r.r : Int)) = X1 at *
      refine (kGet8 H.out.k).mono ?_
      rintro y x2 ⟨rfl, hk, hb⟩
      rw [R3.out] at hk ⊢
      have H := hide (H.out.call HV.out hk hb)
      clear hk hb
      have f0 := frozen_of_row _ (w.heap.size + 1) (7 + j * 4 + 2) _ _ H.out.i
      obtain ⟨v2, e0⟩ := H.out.i.some (i := 7 + j * 4 + 2) (by simp only [Array.size_setIfInBounds, hsz]; omega)
      have H := hide (H.out.set HV.out (7 + j * 4 + 2) (.int .u8 (r.h : Int)))
      go_wp2_with fail
      clear e0 f0
      generalize x2.setCell ⟨w.heap.size + 1, 7 + j * 4 + 2, none⟩ (.int .u8 (r.h : Int)) = X2 at *
      refine (kGet32 H.out.k).mono ?_
      rintro y x3 ⟨rfl, hk, hb⟩
      rw [R4.out] at hk ⊢
      have H := hide (H.out.call HV.out hk hb)
      clear hk hb
      have f0 := frozen_of_row _ (w.heap.size + 1) (7 + j * 4 + 3) _ _ H.out.i
      obtain ⟨v3, e0⟩ := H.out.i.some (i := 7 + j * 4 + 3) (by simp only [Array.size_setIfInBounds, hsz]; omega)
      have H := hide (H.out.set HV.out (7 + j * 4 + 3) (.int .u32 (r.n : Int)))
      have hH : Hid (Hr v w b 48 (pc pt0) (x3.setCell ⟨w.heap.size + 1, 7 + j * 4 + 3, none⟩ (.int .u32 (r.n : Int))) (rsd D (26 + 13 * (j + 1))) (pc (P.with (R ++ [r])))) := by
        have := H.out
        rw [HST.out] at this
        exact this
      clear H HST
      go_wp2
      go_roundw
      case rel => exact ⟨j + 1, by omega, by go_num, by rw [SN.out]; exact hH.out⟩
      case measure => simp [intOf]; omega
    · obtain rfl : j = q := by omega
      have hml : (rPs D j).length ≤ 16 := by rw [rPs_length]; exact hq16
      go_wp2_with (first
        | (refine wpList_load_row rfl 48 _ rfl (w.heap.size + 1) rfl 48 (pc (P.with (rPs D j))) (0, 0) _ H.out.i Try.underlying48 rfl (HSP.out _ hml) ?_)
        | (refine wpList_store_row rfl 48 _ _ rfl w.heap.size _ rfl rfl 48 (pc pt0) H.out.o (HSP.out _ hml) (by rw [hp0, HSZ.out _ hml]) (pc_all _) ?_))
      refine bodyPost_ret (v := .agg (pc (P.with (rPs D j)))) (results_cell_row Try.results13 _ _ w.heap.size 48 _ (0, 0) _ rfl (setRow_heap _ _ _ _ _ _ H.out.o) Try.underlying48 rfl (HSP.out _ hml)) rfl ⟨by rw [HQQ.out, HPP.out], ?_, ?_⟩
      · rw [HQQ.out]
        exact H.out.k.but (but_setRow _ _ _) fun k hk => by have := HV.out; omega
      · exact H.out.u.trans (but_setRow _ _ _) fun x hx e => by omega
end Go.Proofs.Ytifhkfghjifecaa
