import Derived.Test.YtdngdcjjhabfiaaPMB
namespace Go.Proofs.Ytdngdcjjhabfiaa
open Go.RowKit

set_option maxRecDepth 16000 in
set_option maxHeartbeats 6400000 in
theorem ibody_2 (w : World) (no gen : Nat) (p : Pv) (hP : Pi w p) (hs : Sound p.pg) (hk : p.kind = 2) (hno : no < 9223372036854775808) (hgen : gen < 9223372036854775808) :
    Calls Try.prog 40 #[.int .i64 (no : Int), .int .i64 (gen : Int), p.vl] w fun e w' => ∃ a c, e = .returned (.slice a (body no gen p.pg).length c) ∧ Own w w' a c (body no gen p.pg) := by
  obtain ⟨lv, hlv, hlb⟩ : ∃ lv : Nat, p.level = (lv : Int) ∧ lv < 256 := by
    have hk' : p.pg.kind = 2 := hk
    have h4 := hs.node (by omega)
    exact ⟨p.level.toNat, by show p.pg.level = _; rw [show p.level = p.pg.level from rfl]; omega, by rw [show p.level = p.pg.level from rfl]; omega⟩
  have HBD := hide (show body no gen p.pg = [2, lv] ++ numB no 4 ++ numB gen 8 ++ p.pg.tail from by
    unfold body
    rw [show p.pg.kind = 2 from hk, show p.pg.level = (lv : Int) from hlv]
    simp only [Int.toNat_natCast, numB, List.cons_append, List.nil_append]
    rw [Nat.mod_eq_of_lt hlb]
    rfl)
  have e1 : IntKind.u8.wrap 2 = 2 := by decide
  have e2 : IntKind.u8.wrap (lv : Int) = (lv : Int) := by rw [IntKind.wrap_u8']; omega
  have HP := hide (hP.keep (al w (.cells p.cs 25)))
  have B0 := hide (Bx.new w 25 p.cs)
  have HW := hide (al w (.cells p.cs 25))
  obtain ⟨v, hv⟩ : ∃ v, w.alloc (.cells p.cs 25) = v := ⟨_, rfl⟩
  rw [hv] at HP B0 HW
  have PG := hide fun (w1 : World) (hb : Below v.heap.size v w1) => Bx.page (B0.out.keep hb)
  have hil : p.items.length ≤ 8 := by have hk' : p.pg.kind = 2 := hk; have h := (hs.node (by omega : p.pg.kind = 1 ∨ p.pg.kind = 2)).2.2.1; rw [show p.pg.items = p.items.map Iv.it from rfl, List.length_map] at h; exact h
  have HTL := hide (show p.pg.tail = numB p.items.length 1 ++ (p.items.map Iv.it).flatMap (It.bytes 2) from by unfold Pg.tail; rw [if_neg (show ¬ p.pg.kind = 3 by rw [show p.pg.kind = 2 from hk]; decide), show p.pg.kind = 2 from hk, show p.pg.items = p.items.map Iv.it from rfl, List.length_map])
  rw [HTL.out] at HBD
  have HFT := hide fun (k : Nat) (hk2 : k < p.items.length) => (show Fits 2 (p.items.getD k Iv.zero).it from hk ▸ hs.fits (x := (p.items.getD k Iv.zero).it) (List.mem_map.2 ⟨_, getD_memR hk2, rfl⟩))
  have HFL := hide fun (k : Nat) => (show (((p.items.take k).map Iv.it).flatMap (It.bytes 2)).length ≤ 472 from by
    have h := flat_le (kind := 2) (by decide) ((p.items.take k).map Iv.it) (fun x hx => by
      obtain ⟨r, hr, rfl⟩ := List.mem_map.1 hx
      exact hk ▸ hs.fits (x := r.it) (List.mem_map.2 ⟨r, List.mem_of_mem_take hr, rfl⟩))
    rw [List.length_map, List.length_take] at h
    omega)
  have HFS := hide fun (k : Nat) (hk2 : k < p.items.length) => (show ((p.items.take (k + 1)).map Iv.it).flatMap (It.bytes 2) = ((p.items.take k).map Iv.it).flatMap (It.bytes 2) ++ It.bytes 2 (p.items.getD k Iv.zero).it from by
    rw [List.take_succ_eq_append_getElem hk2, List.map_append, List.flatMap_append]
    simp [List.getD_eq_getElem?_getD, hk2])
  have HR := hide fun (w1 : World) (hb : Below v.heap.size v w1) (k : Nat) (hk : k < p.items.length) => (HP.out.it.keep hb).at hk
  have HII := hide fun (w1 : World) (hb : Below v.heap.size v w1) (k : Nat) (hk : k < p.items.length) => (HP.out.it.1 _ (getD_memR hk)).keep hb
  have HALL : Hid (p.items.take p.items.length = p.items) := List.take_length
  clear hP hs
  generalize body no gen p.pg = R at *
  have HN4 := hide (numB_length no 4)
  have HN8 := hide (numB_length gen 8)
  have LA := hide fun (w1 : World) (a1 : Option Addr) (c1 : Nat) (h1 : Od v (fun _ => False) w1 w1 a1 c1 [2, lv]) => low_any v w1 _ a1 2 c1 [2, lv] no 4 h1 (fun _ h => h.elim) rfl hno (by decide) (by simp)
  have LB := hide fun (w1 : World) (a1 : Option Addr) (c1 : Nat) (h1 : Od v (fun _ => False) w1 w1 a1 c1 ([2, lv] ++ numB no 4)) => low_any v w1 _ a1 6 c1 ([2, lv] ++ numB no 4) gen 8 h1 (fun _ h => h.elim) (by simp [HN4.out]) hgen (by decide) (by simp [HN4.out])
  have hbox : Hid (Own v (v.alloc (.cells #[.int .u8 2, .int .u8 (lv : Int)] 5)) (some ⟨v.heap.size, 0, none⟩) 2 [2, lv]) :=
    ⟨Rw.mk (heap_alloc_new _ _) (Nat.le_refl _) (by decide) rfl rfl, fun x hx => .inr (by cases hx; exact Nat.le_refl _), al _ _⟩
  obtain ⟨kind, level, aI, cI, items, aD, cD, data, next⟩ := p
  unfold Pv.vl
  simp only [Pv.cs] at *
  subst hk hlv
  obtain ⟨b0, b1, b2, b3, b4⟩ := PG.out _ (Below.refl _ _)
  go_enter Try.func40, Try.ntmps40
  go_wp2_with fail
  clear hv
  refine (LA.out _ _ _ (Od.first hbox.out)).mono ?_
  rintro e w1 ⟨a1, c1, rfl, o1⟩
  have O1 := hide o1
  clear o1 LA hbox b0 b1 b2 b3 b4
  go_wp2_with fail
  refine (LB.out _ _ _ O1.out.refl').mono ?_
  rintro e w2 ⟨a2, c2, rfl, o2⟩
  have O2 := hide o2
  clear o2 LB O1
  have HL0 : ([2, lv] ++ numB no 4).length + 8 = 14 := by simp [HN4.out]
  rw [HL0]
  have HLH : Hid (([2, lv] ++ numB no 4 ++ numB gen 8).length = 14) := by show _ = _; simp [HN4.out, HN8.out]
  generalize [2, lv] ++ numB no 4 ++ numB gen 8 = hd at *
  obtain ⟨b0, b1, b2, b3, b4⟩ := PG.out _ O2.out.b
  have LC := hide fun (w1 : World) (a1 : Option Addr) (c1 : Nat) (h1 : Od v (fun _ => False) w1 w1 a1 c1 hd) => low_any v w1 _ a1 14 c1 hd items.length 1 h1 (fun _ h => h.elim) HLH.out.symm (by omega) (by decide) (by have := HLH.out; omega)
  have HN1 := hide (numB_length items.length 1)
  go_wp2_with fail
  refine (LC.out _ _ _ O2.out.refl').mono ?_
  rintro e w3 ⟨a3, c3, rfl, o3⟩
  have O3 := hide o3
  rw [HLH.out]
  have HL3 : Hid ((hd ++ numB items.length 1).length = 15) := by show _ = _; simp [HN1.out, HLH.out]
  have HBD := hide (HBD.out.trans (List.append_assoc _ _ _).symm)
  generalize hd ++ numB items.length 1 = h3 at *
  clear o3 LC O2 b0 b1 b2 b3 b4
  go_wp2
  go_loopw [7, 8, 9] (fun o i _ wx => ∃ (k : Nat) (aj : Option Addr) (cj : Nat), k ≤ items.length ∧ i = .int .i64 k ∧ o = .slice aj (15 + (((items.take k).map Iv.it).flatMap (It.bytes 2)).length) cj ∧ Od v (fun _ => False) w3 wx aj cj (h3 ++ ((items.take k).map Iv.it).flatMap (It.bytes 2))) (fun _ i _ _ => items.length - (intOf i).toNat)
  case atStart => exact ⟨0, a3, c3, Nat.zero_le _, rfl, by simp, by simpa using O3.out.refl'⟩
  case round =>
    obtain ⟨k, aj, cj, hk, rfl, rfl, hO⟩ := hrel
    have O0 := hide hO
    obtain ⟨b0, b1, b2, b3, b4⟩ := PG.out _ hO.b
    clear hO
    by_cases hlt : k < items.length
    · have hlti : (k : Int) < (items.length : Int) := by omega
      have hj1 := w64 (j := k) (by omega)
      obtain ⟨bI, off, rfl, hr⟩ := HR.out _ O0.out.b k hlt
      obtain ⟨k0, k1, k2, k3⟩ := range4 hr
      have FT := hide (HFT.out k hlt)
      have FSN := hide (HFS.out k hlt)
      have FL0 := HFL.out k
      have II := hide fun (w1 : World) (hb : Below v.heap.size v w1) => HII.out w1 hb k hlt
      clear hr HR HFT HFS HFL HII
      generalize items.getD k Iv.zero = x at *
      have BI := hide (Bx.new wr 47 x.cs)
      have O1 := hide (O0.out.more (al wr (.cells x.cs 47)) (fun j => j = wr.heap.size) (fun j hj => .inr (Nat.le_of_eq hj.symm)))
      have HG1 := hide (show Gl (fun j => j = wr.heap.size) (wr.alloc (.cells x.cs 47)) from fun j hj => by rw [size_alloc, hj]; omega)
      have A1 := hide (al wr (.cells x.cs 47))
      have BB := hide fun (w1 : World) (h1 : w1.heap[wr.heap.size]? = some (.cells x.cs 47 (0, 0))) => Bx.item (p := x) h1
      generalize ((items.take k).map Iv.it).flatMap (It.bytes 2) = fl at *
      have hl3 : (h3 ++ fl).length = 15 + fl.length := by rw [List.length_append, HL3.out]
      have hkl : x.key.length ≤ 24 := FT.out.key
      have L1 := hide (low_any v _ _ aj (15 + fl.length) cj (h3 ++ fl) x.key.length 1 O1.out HG1.out hl3.symm (by omega) (by decide) (by omega))
      have HN1' := hide (numB_length x.key.length 1)
      have LX := hide fun (w1 w2 : World) (a1 : Option Addr) (n c1 : Nat) (l : List Nat) (y m : Nat) (h1 : Od v (fun j => j = wr.heap.size) w1 w2 a1 c1 l) (hg : Gl (fun j => j = wr.heap.size) w1) (hn : n = l.length) (hy : y < 9223372036854775808) (hm : m ≤ 8) (hl : l.length ≤ 4096) => low_any v w2 _ a1 n c1 l y m h1.refl' (h1.gl hg) hn hy hm hl
      obtain ⟨aK, cK, key, aV, cV, val, child, size⟩ := x
      simp only [Iv.cs, Iv.it] at *
      go_wp2_with fail
      refine L1.out.mono ?_
      rintro e w4 ⟨a4, c4, rfl, o4⟩
      have O4 := hide o4
      rw [hl3]
      obtain ⟨i0, i1, i2, i3⟩ := BB.out w4 (o4.box BI.out rfl)
      clear o4 L1 b0 b1 b2 b3 b4 k0 k1 k2 k3
      obtain ⟨b0, b1, b2, b3, b4⟩ := PG.out _ O4.out.b
      have HL4 : Hid ((h3 ++ fl ++ numB key.length 1).length = 15 + fl.length + 1) := by show _ = _; rw [List.length_append, hl3, HN1'.out]
      go_wp2_with (at_builtin; refine wpList_apB rfl _ _ rfl a4 (15 + fl.length + 1) c4 (h3 ++ fl ++ numB key.length 1) rfl HL4.out.symm O4.out.r aK key.length cK key rfl rfl (II.out _ O4.out.b).bk (by have := HL4.out; omega) ?_)
      intro a5 c5 w5 hR hN hg _
      have O5 := hide (O4.out.grow HG1.out hR hN hg)
      simp only [← List.append_assoc] at O5
      clear hR hN hg i0 i1 i2 i3 b0 b1 b2 b3 b4
      obtain ⟨i0, i1, i2, i3⟩ := BB.out w5 (O5.out.box BI.out rfl)
      obtain ⟨b0, b1, b2, b3, b4⟩ := PG.out _ O5.out.b
      have HL5 : Hid ((h3 ++ fl ++ numB key.length 1 ++ key).length = 15 + fl.length + 1 + key.length) := by show _ = _; rw [List.length_append, HL4.out]
      generalize HE5 : h3 ++ fl ++ numB key.length 1 ++ key = l5 at *
      have HX5 := hide HE5
      clear HE5
      have cb : 1 ≤ child ∧ child ≤ 65536 := (FT.out.index rfl).2.2
      obtain ⟨ch, rfl⟩ := Int.eq_ofNat_of_zero_le (show 0 ≤ child by omega)
      have L6 := hide (LX.out _ _ a5 (15 + fl.length + 1 + key.length) c5 l5 ch 4 O5.out HG1.out HL5.out.symm (by omega) (by decide) (by have := HL5.out; omega))
      go_wp2_with fail
      refine L6.out.mono ?_
      rintro e w6 ⟨a6, c6, rfl, o6⟩
      have O6 := hide (O5.out.trans o6)
      rw [HL5.out]
      clear o6 L6
      have HE6 : Hid (l5 ++ numB ch 4 = h3 ++ (fl ++ It.bytes 2 ⟨key, val, (ch : Int), size⟩)) := by show _ = _; rw [← HX5.out]; simp [It.bytes, List.append_assoc]
      have HL6 : Hid (15 + fl.length + 1 + key.length + 4 = 15 + (fl ++ It.bytes 2 ⟨key, val, (ch : Int), size⟩).length) := by
        show _ = _
        have h := congrArg List.length HE6.out
        simp only [List.length_append, HL5.out, numB_length, HL3.out] at h ⊢
        omega
      rw [HE6.out] at O6
      go_wp2
      go_roundw
      case rel => exact ⟨k + 1, a6, c6, by omega, by first | (go_num; done) | exact congrArg (Value.int IntKind.i64) (by omega), by rw [FSN.out, ← HL6.out], by rw [FSN.out]; exact O0.out.back A1.out O6.out (fun _ h => h.elim)⟩
      case measure => first | exact meas_up _ _ _ hj1 hlt | exact meas_up _ _ _ rfl hlt | (simp [intOf]; omega)
    · obtain rfl : k = items.length := by omega
      rw [HALL.out] at O0 ⊢
      go_wp2
      go_ret
      have HR2 : R = h3 ++ (items.map Iv.it).flatMap (It.bytes 2) := HBD.out
      refine ⟨aj, cj, ?_, ?_⟩
      · rw [HR2, List.length_append, HL3.out]
        rfl
      · rw [HR2]
        exact Own.pre HW.out O0.out.own
set_option maxRecDepth 16000 in
set_option maxHeartbeats 6400000 in
theorem ibody_1 (w : World) (no gen : Nat) (p : Pv) (hP : Pi w p) (hs : Sound p.pg) (hk : p.kind = 1) (hno : no < 9223372036854775808) (hgen : gen < 9223372036854775808) :
    Calls Try.prog 40 #[.int .i64 (no : Int), .int .i64 (gen : Int), p.vl] w fun e w' => ∃ a c, e = .returned (.slice a (body no gen p.pg).length c) ∧ Own w w' a c (body no gen p.pg) := by
  obtain ⟨lv, hlv, hlb⟩ : ∃ lv : Nat, p.level = (lv : Int) ∧ lv < 256 := by
    have hk' : p.pg.kind = 1 := hk
    have h4 := hs.node (by omega)
    exact ⟨p.level.toNat, by show p.pg.level = _; rw [show p.level = p.pg.level from rfl]; omega, by rw [show p.level = p.pg.level from rfl]; omega⟩
  have HBD := hide (show body no gen p.pg = [1, lv] ++ numB no 4 ++ numB gen 8 ++ p.pg.tail from by
    unfold body
    rw [show p.pg.kind = 1 from hk, show p.pg.level = (lv : Int) from hlv]
    simp only [Int.toNat_natCast, numB, List.cons_append, List.nil_append]
    rw [Nat.mod_eq_of_lt hlb]
    rfl)
  have e1 : IntKind.u8.wrap 1 = 1 := by decide
  have e2 : IntKind.u8.wrap (lv : Int) = (lv : Int) := by rw [IntKind.wrap_u8']; omega
  have HP := hide (hP.keep (al w (.cells p.cs 25)))
  have B0 := hide (Bx.new w 25 p.cs)
  have HW := hide (al w (.cells p.cs 25))
  obtain ⟨v, hv⟩ : ∃ v, w.alloc (.cells p.cs 25) = v := ⟨_, rfl⟩
  rw [hv] at HP B0 HW
  have PG := hide fun (w1 : World) (hb : Below v.heap.size v w1) => Bx.page (B0.out.keep hb)
  have hil : p.items.length ≤ 8 := by have hk' : p.pg.kind = 1 := hk; have h := (hs.node (by omega : p.pg.kind = 1 ∨ p.pg.kind = 2)).2.2.1; rw [show p.pg.items = p.items.map Iv.it from rfl, List.length_map] at h; exact h
  have HTL := hide (show p.pg.tail = numB p.items.length 1 ++ (p.items.map Iv.it).flatMap (It.bytes 1) from by unfold Pg.tail; rw [if_neg (show ¬ p.pg.kind = 3 by rw [show p.pg.kind = 1 from hk]; decide), show p.pg.kind = 1 from hk, show p.pg.items = p.items.map Iv.it from rfl, List.length_map])
  rw [HTL.out] at HBD
  have HFT := hide fun (k : Nat) (hk2 : k < p.items.length) => (show Fits 1 (p.items.getD k Iv.zero).it from hk ▸ hs.fits (x := (p.items.getD k Iv.zero).it) (List.mem_map.2 ⟨_, getD_memR hk2, rfl⟩))
  have HFL := hide fun (k : Nat) => (show (((p.items.take k).map Iv.it).flatMap (It.bytes 1)).length ≤ 472 from by
    have h := flat_le (kind := 1) (by decide) ((p.items.take k).map Iv.it) (fun x hx => by
      obtain ⟨r, hr, rfl⟩ := List.mem_map.1 hx
      exact hk ▸ hs.fits (x := r.it) (List.mem_map.2 ⟨r, List.mem_of_mem_take hr, rfl⟩))
    rw [List.length_map, List.length_take] at h
    omega)
  have HFS := hide fun (k : Nat) (hk2 : k < p.items.length) => (show ((p.items.take (k + 1)).map Iv.it).flatMap (It.bytes 1) = ((p.items.take k).map Iv.it).flatMap (It.bytes 1) ++ It.bytes 1 (p.items.getD k Iv.zero).it from by
    rw [List.take_succ_eq_append_getElem hk2, List.map_append, List.flatMap_append]
    simp [List.getD_eq_getElem?_getD, hk2])
  have HR := hide fun (w1 : World) (hb : Below v.heap.size v w1) (k : Nat) (hk : k < p.items.length) => (HP.out.it.keep hb).at hk
  have HII := hide fun (w1 : World) (hb : Below v.heap.size v w1) (k : Nat) (hk : k < p.items.length) => (HP.out.it.1 _ (getD_memR hk)).keep hb
  have HALL : Hid (p.items.take p.items.length = p.items) := List.take_length
  clear hP hs
  generalize body no gen p.pg = R at *
  have HN4 := hide (numB_length no 4)
  have HN8 := hide (numB_length gen 8)
  have LA := hide fun (w1 : World) (a1 : Option Addr) (c1 : Nat) (h1 : Od v (fun _ => False) w1 w1 a1 c1 [1, lv]) => low_any v w1 _ a1 2 c1 [1, lv] no 4 h1 (fun _ h => h.elim) rfl hno (by decide) (by simp)
  have LB := hide fun (w1 : World) (a1 : Option Addr) (c1 : Nat) (h1 : Od v (fun _ => False) w1 w1 a1 c1 ([1, lv] ++ numB no 4)) => low_any v w1 _ a1 6 c1 ([1, lv] ++ numB no 4) gen 8 h1 (fun _ h => h.elim) (by simp [HN4.out]) hgen (by decide) (by simp [HN4.out])
  have hbox : Hid (Own v (v.alloc (.cells #[.int .u8 1, .int .u8 (lv : Int)] 5)) (some ⟨v.heap.size, 0, none⟩) 2 [1, lv]) :=
    ⟨Rw.mk (heap_alloc_new _ _) (Nat.le_refl _) (by decide) rfl rfl, fun x hx => .inr (by cases hx; exact Nat.le_refl _), al _ _⟩
  obtain ⟨kind, level, aI, cI, items, aD, cD, data, next⟩ := p
  unfold Pv.vl
  simp only [Pv.cs] at *
  subst hk hlv
  obtain ⟨b0, b1, b2, b3, b4⟩ := PG.out _ (Below.refl _ _)
  go_enter Try.func40, Try.ntmps40
  go_wp2_with fail
  clear hv
  refine (LA.out _ _ _ (Od.first hbox.out)).mono ?_
  rintro e w1 ⟨a1, c1, rfl, o1⟩
  have O1 := hide o1
  clear o1 LA hbox b0 b1 b2 b3 b4
  go_wp2_with fail
  refine (LB.out _ _ _ O1.out.refl').mono ?_
  rintro e w2 ⟨a2, c2, rfl, o2⟩
  have O2 := hide o2
  clear o2 LB O1
  have HL0 : ([1, lv] ++ numB no 4).length + 8 = 14 := by simp [HN4.out]
  rw [HL0]
  have HLH : Hid (([1, lv] ++ numB no 4 ++ numB gen 8).length = 14) := by show _ = _; simp [HN4.out, HN8.out]
  generalize [1, lv] ++ numB no 4 ++ numB gen 8 = hd at *
  obtain ⟨b0, b1, b2, b3, b4⟩ := PG.out _ O2.out.b
  have LC := hide fun (w1 : World) (a1 : Option Addr) (c1 : Nat) (h1 : Od v (fun _ => False) w1 w1 a1 c1 hd) => low_any v w1 _ a1 14 c1 hd items.length 1 h1 (fun _ h => h.elim) HLH.out.symm (by omega) (by decide) (by have := HLH.out; omega)
  have HN1 := hide (numB_length items.length 1)
  go_wp2_with fail
  refine (LC.out _ _ _ O2.out.refl').mono ?_
  rintro e w3 ⟨a3, c3, rfl, o3⟩
  have O3 := hide o3
  rw [HLH.out]
  have HL3 : Hid ((hd ++ numB items.length 1).length = 15) := by show _ = _; simp [HN1.out, HLH.out]
  have HBD := hide (HBD.out.trans (List.append_assoc _ _ _).symm)
  generalize hd ++ numB items.length 1 = h3 at *
  clear o3 LC O2 b0 b1 b2 b3 b4
  go_wp2
  go_loopw [7, 8, 9] (fun o i _ wx => ∃ (k : Nat) (aj : Option Addr) (cj : Nat), k ≤ items.length ∧ i = .int .i64 k ∧ o = .slice aj (15 + (((items.take k).map Iv.it).flatMap (It.bytes 1)).length) cj ∧ Od v (fun _ => False) w3 wx aj cj (h3 ++ ((items.take k).map Iv.it).flatMap (It.bytes 1))) (fun _ i _ _ => items.length - (intOf i).toNat)
  case atStart => exact ⟨0, a3, c3, Nat.zero_le _, rfl, by simp, by simpa using O3.out.refl'⟩
  case round =>
    obtain ⟨k, aj, cj, hk, rfl, rfl, hO⟩ := hrel
    have O0 := hide hO
    obtain ⟨b0, b1, b2, b3, b4⟩ := PG.out _ hO.b
    clear hO
    by_cases hlt : k < items.length
    · have hlti : (k : Int) < (items.length : Int) := by omega
      have hj1 := w64 (j := k) (by omega)
      obtain ⟨bI, off, rfl, hr⟩ := HR.out _ O0.out.b k hlt
      obtain ⟨k0, k1, k2, k3⟩ := range4 hr
      have FT := hide (HFT.out k hlt)
      have FSN := hide (HFS.out k hlt)
      have FL0 := HFL.out k
      have II := hide fun (w1 : World) (hb : Below v.heap.size v w1) => HII.out w1 hb k hlt
      clear hr HR HFT HFS HFL HII
      generalize items.getD k Iv.zero = x at *
      have BI := hide (Bx.new wr 47 x.cs)
      have O1 := hide (O0.out.more (al wr (.cells x.cs 47)) (fun j => j = wr.heap.size) (fun j hj => .inr (Nat.le_of_eq hj.symm)))
      have HG1 := hide (show Gl (fun j => j = wr.heap.size) (wr.alloc (.cells x.cs 47)) from fun j hj => by rw [size_alloc, hj]; omega)
      have A1 := hide (al wr (.cells x.cs 47))
      have BB := hide fun (w1 : World) (h1 : w1.heap[wr.heap.size]? = some (.cells x.cs 47 (0, 0))) => Bx.item (p := x) h1
      generalize ((items.take k).map Iv.it).flatMap (It.bytes 1) = fl at *
      have hl3 : (h3 ++ fl).length = 15 + fl.length := by rw [List.length_append, HL3.out]
      have hkl : x.key.length ≤ 24 := FT.out.key
      have L1 := hide (low_any v _ _ aj (15 + fl.length) cj (h3 ++ fl) x.key.length 1 O1.out HG1.out hl3.symm (by omega) (by decide) (by omega))
      have HN1' := hide (numB_length x.key.length 1)
      have LX := hide fun (w1 w2 : World) (a1 : Option Addr) (n c1 : Nat) (l : List Nat) (y m : Nat) (h1 : Od v (fun j => j = wr.heap.size) w1 w2 a1 c1 l) (hg : Gl (fun j => j = wr.heap.size) w1) (hn : n = l.length) (hy : y < 9223372036854775808) (hm : m ≤ 8) (hl : l.length ≤ 4096) => low_any v w2 _ a1 n c1 l y m h1.refl' (h1.gl hg) hn hy hm hl
      obtain ⟨aK, cK, key, aV, cV, val, child, size⟩ := x
      simp only [Iv.cs, Iv.it] at *
      go_wp2_with fail
      refine L1.out.mono ?_
      rintro e w4 ⟨a4, c4, rfl, o4⟩
      have O4 := hide o4
      rw [hl3]
      obtain ⟨i0, i1, i2, i3⟩ := BB.out w4 (o4.box BI.out rfl)
      clear o4 L1 b0 b1 b2 b3 b4 k0 k1 k2 k3
      obtain ⟨b0, b1, b2, b3, b4⟩ := PG.out _ O4.out.b
      have HL4 : Hid ((h3 ++ fl ++ numB key.length 1).length = 15 + fl.length + 1) := by show _ = _; rw [List.length_append, hl3, HN1'.out]
      go_wp2_with (at_builtin; refine wpList_apB rfl _ _ rfl a4 (15 + fl.length + 1) c4 (h3 ++ fl ++ numB key.length 1) rfl HL4.out.symm O4.out.r aK key.length cK key rfl rfl (II.out _ O4.out.b).bk (by have := HL4.out; omega) ?_)
      intro a5 c5 w5 hR hN hg _
      have O5 := hide (O4.out.grow HG1.out hR hN hg)
      simp only [← List.append_assoc] at O5
      clear hR hN hg i0 i1 i2 i3 b0 b1 b2 b3 b4
      obtain ⟨i0, i1, i2, i3⟩ := BB.out w5 (O5.out.box BI.out rfl)
      obtain ⟨b0, b1, b2, b3, b4⟩ := PG.out _ O5.out.b
      have HL5 : Hid ((h3 ++ fl ++ numB key.length 1 ++ key).length = 15 + fl.length + 1 + key.length) := by show _ = _; rw [List.length_append, HL4.out]
      generalize HE5 : h3 ++ fl ++ numB key.length 1 ++ key = l5 at *
      have HX5 := hide HE5
      clear HE5
      obtain ⟨s0, s1, s2, s3⟩ : 0 ≤ size ∧ size ≤ 3840 ∧ (size ≤ 32 → (val.length : Int) = size ∧ child = 0) ∧ (32 < size → val = [] ∧ 1 ≤ child ∧ child ≤ 65536) := FT.out.leaf rfl
      obtain ⟨sz, rfl⟩ := Int.eq_ofNat_of_zero_le s0
      have L6 := hide (LX.out _ _ a5 (15 + fl.length + 1 + key.length) c5 l5 sz 2 O5.out HG1.out HL5.out.symm (by omega) (by decide) (by have := HL5.out; omega))
      have S2 := hide s2
      have S3 := hide s3
      clear s2 s3
      go_wp2_with fail
      refine L6.out.mono ?_
      rintro e w6 ⟨a6, c6, rfl, o6⟩
      have O6 := hide (O5.out.trans o6)
      rw [HL5.out]
      clear o6 L6 i0 i1 i2 i3 b0 b1 b2 b3 b4
      obtain ⟨i0, i1, i2, i3⟩ := BB.out w6 (O6.out.box BI.out rfl)
      obtain ⟨b0, b1, b2, b3, b4⟩ := PG.out _ O6.out.b
      have HL6 : Hid ((l5 ++ numB sz 2).length = 15 + fl.length + 1 + key.length + 2) := by show _ = _; rw [List.length_append, HL5.out, numB_length]
      by_cases h32 : sz ≤ 32
      · have h32i : (sz : Int) ≤ 32 := by omega
        have hvl := (S2.out (by omega)).1
        go_wp2_with (at_builtin; refine wpList_apB rfl _ _ rfl a6 (15 + fl.length + 1 + key.length + 2) c6 (l5 ++ numB sz 2) rfl HL6.out.symm O6.out.r aV val.length cV val rfl rfl (II.out _ O6.out.b).bv (by have := HL6.out; omega) ?_)
        intro a7 c7 w7 hR hN hg _
        have O7 := hide (O6.out.grow HG1.out hR hN hg)
        clear hR hN hg
        have HE7 : Hid (l5 ++ numB sz 2 ++ val = h3 ++ (fl ++ It.bytes 1 ⟨key, val, child, (sz : Int)⟩)) := by show _ = _; rw [← HX5.out]; unfold It.bytes; rw [if_pos rfl, if_pos h32i]; simp [List.append_assoc]
        have HL7 : Hid (15 + fl.length + 1 + key.length + 2 + val.length = 15 + (fl ++ It.bytes 1 ⟨key, val, child, (sz : Int)⟩).length) := by
          show _ = _
          have h := congrArg List.length HE7.out
          simp only [List.length_append, HL5.out, numB_length, HL3.out] at h ⊢
          omega
        simp only [← List.append_assoc] at O7
        have HE8 := HE7.out
        simp only [← List.append_assoc] at HE8
        rw [HE8, List.append_assoc] at O7
        go_wp2
        go_roundw
        case rel => exact ⟨k + 1, a7, c7, by omega, by first | (go_num; done) | exact congrArg (Value.int IntKind.i64) (by omega), by rw [FSN.out, ← HL7.out], by rw [FSN.out]; exact O0.out.back A1.out O7.out (fun _ h => h.elim)⟩
        case measure => first | exact meas_up _ _ _ hj1 hlt | exact meas_up _ _ _ rfl hlt | (simp [intOf]; omega)
      · have h32i : (32 : Int) < (sz : Int) := by omega
        have h32d : decide ((sz : Int) ≤ 32) = false := by simp; omega
        have cb := (S3.out h32i).2
        obtain ⟨ch, rfl⟩ := Int.eq_ofNat_of_zero_le (show 0 ≤ child by omega)
        have L7 := hide (LX.out _ _ a6 (15 + fl.length + 1 + key.length + 2) c6 (l5 ++ numB sz 2) ch 4 O6.out HG1.out HL6.out.symm (by omega) (by decide) (by have := HL6.out; omega))
        go_wp2_with fail
        refine L7.out.mono ?_
        rintro e w7 ⟨a7, c7, rfl, o7⟩
        have O7 := hide (O6.out.trans o7)
        rw [HL6.out]
        clear o7 L7
        have HE7 : Hid (l5 ++ numB sz 2 ++ numB ch 4 = h3 ++ (fl ++ It.bytes 1 ⟨key, val, (ch : Int), (sz : Int)⟩)) := by show _ = _; rw [← HX5.out]; unfold It.bytes; rw [if_pos rfl, if_neg (Int.not_le.2 h32i)]; simp [List.append_assoc]
        have HL7 : Hid (15 + fl.length + 1 + key.length + 2 + 4 = 15 + (fl ++ It.bytes 1 ⟨key, val, (ch : Int), (sz : Int)⟩).length) := by
          show _ = _
          have h := congrArg List.length HE7.out
          simp only [List.length_append, HL5.out, numB_length, HL3.out] at h ⊢
          omega
        rw [HE7.out] at O7
        go_wp2
        go_roundw
        case rel => exact ⟨k + 1, a7, c7, by omega, by first | (go_num; done) | exact congrArg (Value.int IntKind.i64) (by omega), by rw [FSN.out, ← HL7.out], by rw [FSN.out]; exact O0.out.back A1.out O7.out (fun _ h => h.elim)⟩
        case measure => first | exact meas_up _ _ _ hj1 hlt | exact meas_up _ _ _ rfl hlt | (simp [intOf]; omega)
    · obtain rfl : k = items.length := by omega
      rw [HALL.out] at O0 ⊢
      go_wp2
      go_ret
      have HR2 : R = h3 ++ (items.map Iv.it).flatMap (It.bytes 1) := HBD.out
      refine ⟨aj, cj, ?_, ?_⟩
      · rw [HR2, List.length_append, HL3.out]
        rfl
      · rw [HR2]
        exact Own.pre HW.out O0.out.own
end Go.Proofs.Ytdngdcjjhabfiaa
