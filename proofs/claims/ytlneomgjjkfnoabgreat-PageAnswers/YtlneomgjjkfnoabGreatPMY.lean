import Derived.Test.YtlneomgjjkfnoabGreatPM
import Derived.Test.YtlneomgjjkfnoabGreatPLF
namespace Go.Proofs.YtlneomgjjkfnoabGreat
open Go.RowKit

set_option maxRecDepth 16000 in
set_option maxHeartbeats 6400000 in
theorem ibody_3 (w : World) (no gen : Nat) (p : Pv) (hP : Pi w p) (hs : Sound p.pg) (hk : p.kind = 3) (hno : no < 9223372036854775808) (hgen : gen < 9223372036854775808) :
    Calls Tryz.prog 52 #[.int .i64 (no : Int), .int .i64 (gen : Int), p.vl] w fun e w' => ∃ a c, e = .returned (.slice a (body no gen p.pg).length c) ∧ Own w w' a c (body no gen p.pg) := by
  obtain ⟨lv, hlv, hlb⟩ : ∃ lv : Nat, p.level = (lv : Int) ∧ lv < 256 := by
    exact ⟨0, (hs.blob hk).1, by decide⟩
  have HBD := hide (show body no gen p.pg = [3, lv] ++ numB no 4 ++ numB gen 8 ++ p.pg.tail from by
    unfold body
    rw [show p.pg.kind = 3 from hk, show p.pg.level = (lv : Int) from hlv]
    simp only [Int.toNat_natCast, numB, List.cons_append, List.nil_append]
    rw [Nat.mod_eq_of_lt hlb]
    rfl)
  have e1 : IntKind.u8.wrap 3 = 3 := by decide
  have e2 : IntKind.u8.wrap (lv : Int) = (lv : Int) := by rw [IntKind.wrap_u8']; omega
  have HP := hide (hP.keep (al w (.cells p.cs 27)))
  have B0 := hide (Bx.new w 27 p.cs)
  have HW := hide (al w (.cells p.cs 27))
  obtain ⟨v, hv⟩ : ∃ v, w.alloc (.cells p.cs 27) = v := ⟨_, rfl⟩
  rw [hv] at HP B0 HW
  have PG := hide fun (w1 : World) (hb : Below v.heap.size v w1) => Bx.page (B0.out.keep hb)
  have hnx : 0 ≤ p.next ∧ p.next ≤ 65536 := ⟨(hs.blob hk).2.2.2.2.1, (hs.blob hk).2.2.2.2.2⟩
  have hdl : p.data.length ≤ 480 := (hs.blob hk).2.2.2.1
  have HBS := hide fun (w1 : World) (hb : Below v.heap.size v w1) => HP.out.bd.keep hb
  have HTL := hide (show p.pg.tail = numB p.data.length 2 ++ numB p.next.toNat 4 ++ p.data from by unfold Pg.tail; rw [if_pos (show p.pg.kind = 3 from hk)]; rfl)
  rw [HTL.out] at HBD
  clear hP hs
  generalize body no gen p.pg = R at *
  have HN4 := hide (numB_length no 4)
  have HN8 := hide (numB_length gen 8)
  have LA := hide fun (w1 : World) (a1 : Option Addr) (c1 : Nat) (h1 : Od v (fun _ => False) w1 w1 a1 c1 [3, lv]) => low_any v w1 _ a1 2 c1 [3, lv] no 4 h1 (fun _ h => h.elim) rfl hno (by decide) (by simp)
  have LB := hide fun (w1 : World) (a1 : Option Addr) (c1 : Nat) (h1 : Od v (fun _ => False) w1 w1 a1 c1 ([3, lv] ++ numB no 4)) => low_any v w1 _ a1 6 c1 ([3, lv] ++ numB no 4) gen 8 h1 (fun _ h => h.elim) (by simp [HN4.out]) hgen (by decide) (by simp [HN4.out])
  have hbox : Hid (Own v (v.alloc (.cells #[.int .u8 3, .int .u8 (lv : Int)] 5)) (some ⟨v.heap.size, 0, none⟩) 2 [3, lv]) :=
    ⟨Rw.mk (heap_alloc_new _ _) (Nat.le_refl _) (by decide) rfl rfl, fun x hx => .inr (by cases hx; exact Nat.le_refl _), al _ _⟩
  obtain ⟨kind, level, aI, cI, items, aD, cD, data, next⟩ := p
  unfold Pv.vl
  simp only [Pv.cs] at *
  subst hk hlv
  obtain ⟨b0, b1, b2, b3, b4⟩ := PG.out _ (Below.refl _ _)
  go_enter Tryz.func52, Tryz.ntmps52
  go_wp2_with fail
  clear hv
  refine (LA.out _ _ _ (Od.first hbox.out)).mono ?_
  rintro e w1 ⟨a1, c1, rfl, o1⟩
  have O1 := hide o1
  clear o1 LA hbox b0 b1 b2 b3 b4
  go_wp2_with fail
  refine (LB.out _ _ _ O1.out.refl').mono ?_
  rintro e w2 ⟨a2, c2, rfl, o2⟩
  have O2 := hide o2
  clear o2 LB O1
  have HL0 : ([3, lv] ++ numB no 4).length + 8 = 14 := by simp [HN4.out]
  rw [HL0]
  have HLH : Hid (([3, lv] ++ numB no 4 ++ numB gen 8).length = 14) := by show _ = _; simp [HN4.out, HN8.out]
  generalize [3, lv] ++ numB no 4 ++ numB gen 8 = hd at *
  obtain ⟨b0, b1, b2, b3, b4⟩ := PG.out _ O2.out.b
  obtain ⟨nx, rfl⟩ := Int.eq_ofNat_of_zero_le hnx.1
  have LC := hide fun (w1 : World) (a1 : Option Addr) (c1 : Nat) (h1 : Od v (fun _ => False) w1 w1 a1 c1 hd) => low_any v w1 _ a1 14 c1 hd data.length 2 h1 (fun _ h => h.elim) HLH.out.symm (by omega) (by decide) (by have := HLH.out; omega)
  have HN2 := hide (numB_length data.length 2)
  have LD := hide fun (w1 : World) (a1 : Option Addr) (c1 : Nat) (h1 : Od v (fun _ => False) w1 w1 a1 c1 (hd ++ numB data.length 2)) => low_any v w1 _ a1 16 c1 (hd ++ numB data.length 2) nx 4 h1 (fun _ h => h.elim) (by simp [HN2.out, HLH.out]) (by omega) (by decide) (by simp [HN2.out, HLH.out])
  go_wp2_with fail
  refine (LC.out _ _ _ O2.out.refl').mono ?_
  rintro e w3 ⟨a3, c3, rfl, o3⟩
  have O3 := hide o3
  clear o3 LC O2 b0 b1 b2 b3 b4
  rw [HLH.out]
  obtain ⟨b0, b1, b2, b3, b4⟩ := PG.out _ O3.out.b
  go_wp2_with fail
  refine (LD.out _ _ _ O3.out.refl').mono ?_
  rintro e w4 ⟨a4, c4, rfl, o4⟩
  have O4 := hide o4
  have HL4 : (hd ++ numB data.length 2).length + 4 = 20 := by simp [HN2.out, HLH.out]
  rw [HL4]
  clear o4 LD O3 b0 b1 b2 b3 b4
  obtain ⟨b0, b1, b2, b3, b4⟩ := PG.out _ O4.out.b
  have HN5 := hide (numB_length nx 4)
  have HL5 : Hid ((hd ++ numB data.length 2 ++ numB nx 4).length = 20) := by show _ = _; simp [HN2.out, HLH.out, HN5.out]
  go_wp2_with (at_builtin; refine wpList_apB rfl _ _ rfl a4 20 c4 (hd ++ numB data.length 2 ++ numB nx 4) rfl HL5.out.symm O4.out.r aD data.length cD data rfl rfl (HBS.out _ O4.out.b) (by have := HL5.out; omega) ?_)
  intro a5 c5 w5 hR hN hg _
  have O5 := hide (O4.out.grow (fun _ h => h.elim) hR hN hg)
  clear hR hN hg
  go_wp2
  go_ret
  have HR : R = hd ++ numB data.length 2 ++ numB nx 4 ++ data := by rw [HBD.out]; simp [List.append_assoc]
  refine ⟨a5, c5, ?_, ?_⟩
  · rw [HR, List.length_append, HL5.out]
    rfl
  · have h7 := Own.pre HW.out O5.out.own
    rw [HR]
    simpa only [List.append_assoc] using h7
end Go.Proofs.YtlneomgjjkfnoabGreat

namespace Go.Proofs.YtlneomgjjkfnoabGreat
open Go.RowKit

set_option maxRecDepth 16000 in
set_option maxHeartbeats 6400000 in
theorem ibody_2 (w : World) (no gen : Nat) (p : Pv) (hP : Pi w p) (hs : Sound p.pg) (hk : p.kind = 2) (hno : no < 9223372036854775808) (hgen : gen < 9223372036854775808) :
    Calls Tryz.prog 52 #[.int .i64 (no : Int), .int .i64 (gen : Int), p.vl] w fun e w' => ∃ a c, e = .returned (.slice a (body no gen p.pg).length c) ∧ Own w w' a c (body no gen p.pg) := by
  obtain ⟨lv, hlv, hlb⟩ : ∃ lv : Nat, p.level = (lv : Int) ∧ lv < 256 := by
    have hk' : p.pg.kind = 2 := hk
    have h4 := hs.node (by omega)
    exact ⟨p.level.toNat, by show p.pg.level = _; rw [show p.level = p.pg.level from rfl]; omega, by rw [show p.level = p.pg.level from rfl]; omega⟩
  have HBD := hide (show body no gen p.pg = [2, lv] ++ numB no 4 ++ numB gen 8 ++ p.pg.tail from by
    unfold body
    rw [show p.pg.kind = 2 from hk, show p.pg.level = (lv : Int) from hlv]
    simp only [Int.toNat_natCast, numB, List.cons_append, List.nil_append]
    rw [Nat.mod_eq_of_lt hlb]
    rfl)
  have e1 : IntKind.u8.wrap 2 = 2 := by decide
  have e2 : IntKind.u8.wrap (lv : Int) = (lv : Int) := by rw [IntKind.wrap_u8']; omega
  have HP := hide (hP.keep (al w (.cells p.cs 27)))
  have B0 := hide (Bx.new w 27 p.cs)
  have HW := hide (al w (.cells p.cs 27))
  obtain ⟨v, hv⟩ : ∃ v, w.alloc (.cells p.cs 27) = v := ⟨_, rfl⟩
  rw [hv] at HP B0 HW
  have PG := hide fun (w1 : World) (hb : Below v.heap.size v w1) => Bx.page (B0.out.keep hb)
  have hil : p.items.length ≤ 8 := by have hk' : p.pg.kind = 2 := hk; have h := (hs.node (by omega : p.pg.kind = 1 ∨ p.pg.kind = 2)).2.2.1; rw [show p.pg.items = p.items.map Iv.it from rfl, List.length_map] at h; exact h
  have HTL := hide (show p.pg.tail = numB p.items.length 1 ++ (p.items.map Iv.it).flatMap (It.bytes 2) from by unfold Pg.tail; rw [if_neg (show ¬ p.pg.kind = 3 by rw [show p.pg.kind = 2 from hk]; decide), show p.pg.kind = 2 from hk, show p.pg.items = p.items.map Iv.it from rfl, List.length_map])
  rw [HTL.out] at HBD
  have HFT := hide fun (k : Nat) (hk2 : k < p.items.length) => (show Fits 2 (p.items.getD k Iv.zero).it from hk ▸ hs.fits (x := (p.items.getD k Iv.zero).it) (List.mem_map.2 ⟨_, getD_memR hk2, rfl⟩))
  have HFL := hide fun (k : Nat) => (show (((p.items.take k).map Iv.it).flatMap (It.bytes 2)).length ≤ 472 from by
    have h := flat_le (kind := 2) (by decide) ((p.items.take k).map Iv.it) (fun x hx => by
      obtain ⟨r, hr, rfl⟩ := List.mem_map.1 hx
      exact hk ▸ hs.fits (x := r.it) (List.mem_map.2 ⟨r, List.mem_of_mem_take hr, rfl⟩))
    rw [List.length_map, List.length_take] at h
    omega)
  have HFS := hide fun (k : Nat) (hk2 : k < p.items.length) => (show ((p.items.take (k + 1)).map Iv.it).flatMap (It.bytes 2) = ((p.items.take k).map Iv.it).flatMap (It.bytes 2) ++ It.bytes 2 (p.items.getD k Iv.zero).it from by
    rw [List.take_succ_eq_append_getElem hk2, List.map_append, List.flatMap_append]
    simp [List.getD_eq_getElem?_getD, hk2])
  have HR := hide fun (w1 : World) (hb : Below v.heap.size v w1) (k : Nat) (hk : k < p.items.length) => (HP.out.it.keep hb).at hk
  have HII := hide fun (w1 : World) (hb : Below v.heap.size v w1) (k : Nat) (hk : k < p.items.length) => (HP.out.it.1 _ (getD_memR hk)).keep hb
  have HALL : Hid (p.items.take p.items.length = p.items) := List.take_length
  clear hP hs
  generalize body no gen p.pg = R at *
  have HN4 := hide (numB_length no 4)
  have HN8 := hide (numB_length gen 8)
  have LA := hide fun (w1 : World) (a1 : Option Addr) (c1 : Nat) (h1 : Od v (fun _ => False) w1 w1 a1 c1 [2, lv]) => low_any v w1 _ a1 2 c1 [2, lv] no 4 h1 (fun _ h => h.elim) rfl hno (by decide) (by simp)
  have LB := hide fun (w1 : World) (a1 : Option Addr) (c1 : Nat) (h1 : Od v (fun _ => False) w1 w1 a1 c1 ([2, lv] ++ numB no 4)) => low_any v w1 _ a1 6 c1 ([2, lv] ++ numB no 4) gen 8 h1 (fun _ h => h.elim) (by simp [HN4.out]) hgen (by decide) (by simp [HN4.out])
  have hbox : Hid (Own v (v.alloc (.cells #[.int .u8 2, .int .u8 (lv : Int)] 5)) (some ⟨v.heap.size, 0, none⟩) 2 [2, lv]) :=
    ⟨Rw.mk (heap_alloc_new _ _) (Nat.le_refl _) (by decide) rfl rfl, fun x hx => .inr (by cases hx; exact Nat.le_refl _), al _ _⟩
  obtain ⟨kind, level, aI, cI, items, aD, cD, data, next⟩ := p
  unfold Pv.vl
  simp only [Pv.cs] at *
  subst hk hlv
  obtain ⟨b0, b1, b2, b3, b4⟩ := PG.out _ (Below.refl _ _)
  go_enter Tryz.func52, Tryz.ntmps52
  go_wp2_with fail
  clear hv
  refine (LA.out _ _ _ (Od.first hbox.out)).mono ?_
  rintro e w1 ⟨a1, c1, rfl, o1⟩
  have O1 := hide o1
  clear o1 LA hbox b0 b1 b2 b3 b4
  go_wp2_with fail
  refine (LB.out _ _ _ O1.out.refl').mono ?_
  rintro e w2 ⟨a2, c2, rfl, o2⟩
  have O2 := hide o2
  clear o2 LB O1
  have HL0 : ([2, lv] ++ numB no 4).length + 8 = 14 := by simp [HN4.out]
  rw [HL0]
  have HLH : Hid (([2, lv] ++ numB no 4 ++ numB gen 8).length = 14) := by show _ = _; simp [HN4.out, HN8.out]
  generalize [2, lv] ++ numB no 4 ++ numB gen 8 = hd at *
  obtain ⟨b0, b1, b2, b3, b4⟩ := PG.out _ O2.out.b
  have LC := hide fun (w1 : World) (a1 : Option Addr) (c1 : Nat) (h1 : Od v (fun _ => False) w1 w1 a1 c1 hd) => low_any v w1 _ a1 14 c1 hd items.length 1 h1 (fun _ h => h.elim) HLH.out.symm (by omega) (by decide) (by have := HLH.out; omega)
  have HN1 := hide (numB_length items.length 1)
  go_wp2_with fail
  refine (LC.out _ _ _ O2.out.refl').mono ?_
  rintro e w3 ⟨a3, c3, rfl, o3⟩
  have O3 := hide o3
  rw [HLH.out]
  have HL3 : Hid ((hd ++ numB items.length 1).length = 15) := by show _ = _; simp [HN1.out, HLH.out]
  have HBD := hide (HBD.out.trans (List.append_assoc _ _ _).symm)
  generalize hd ++ numB items.length 1 = h3 at *
  clear o3 LC O2 b0 b1 b2 b3 b4
  go_wp2
  go_loopw [7, 8, 9] (fun o i _ wx => ∃ (k : Nat) (aj : Option Addr) (cj : Nat), k ≤ items.length ∧ i = .int .i64 k ∧ o = .slice aj (15 + (((items.take k).map Iv.it).flatMap (It.bytes 2)).length) cj ∧ Od v (fun _ => False) w3 wx aj cj (h3 ++ ((items.take k).map Iv.it).flatMap (It.bytes 2))) (fun _ i _ _ => items.length - (intOf i).toNat)
  case atStart => exact ⟨0, a3, c3, Nat.zero_le _, rfl, by simp, by simpa using O3.out.refl'⟩
  case round =>
    obtain ⟨k, aj, cj, hk, rfl, rfl, hO⟩ := hrel
    have O0 := hide hO
    obtain ⟨b0, b1, b2, b3, b4⟩ := PG.out _ hO.b
    clear hO
    by_cases hlt : k < items.length
    · have hlti : (k : Int) < (items.length : Int) := by omega
      have hj1 := w64 (j := k) (by omega)
      obtain ⟨bI, off, rfl, hr⟩ := HR.out _ O0.out.b k hlt
      obtain ⟨k0, k1, k2, k3⟩ := range4 hr
      have FT := hide (HFT.out k hlt)
      have FSN := hide (HFS.out k hlt)
      have FL0 := HFL.out k
      have II := hide fun (w1 : World) (hb : Below v.heap.size v w1) => HII.out w1 hb k hlt
      clear hr HR HFT HFS HFL HII
      generalize items.getD k Iv.zero = x at *
      have BI := hide (Bx.new wr 55 x.cs)
      have O1 := hide (O0.out.more (al wr (.cells x.cs 55)) (fun j => j = wr.heap.size) (fun j hj => .inr (Nat.le_of_eq hj.symm)))
      have HG1 := hide (show Gl (fun j => j = wr.heap.size) (wr.alloc (.cells x.cs 55)) from fun j hj => by rw [size_alloc, hj]; omega)
      have A1 := hide (al wr (.cells x.cs 55))
      have BB := hide fun (w1 : World) (h1 : w1.heap[wr.heap.size]? = some (.cells x.cs 55 (0, 0))) => Bx.item (p := x) h1
      generalize ((items.take k).map Iv.it).flatMap (It.bytes 2) = fl at *
      have hl3 : (h3 ++ fl).length = 15 + fl.length := by rw [List.length_append, HL3.out]
      have hkl : x.key.length ≤ 24 := FT.out.key
      have L1 := hide (low_any v _ _ aj (15 + fl.length) cj (h3 ++ fl) x.key.length 1 O1.out HG1.out hl3.symm (by omega) (by decide) (by omega))
      have HN1' := hide (numB_length x.key.length 1)
      have LX := hide fun (w1 w2 : World) (a1 : Option Addr) (n c1 : Nat) (l : List Nat) (y m : Nat) (h1 : Od v (fun j => j = wr.heap.size) w1 w2 a1 c1 l) (hg : Gl (fun j => j = wr.heap.size) w1) (hn : n = l.length) (hy : y < 9223372036854775808) (hm : m ≤ 8) (hl : l.length ≤ 4096) => low_any v w2 _ a1 n c1 l y m h1.refl' (h1.gl hg) hn hy hm hl
      obtain ⟨aK, cK, key, aV, cV, val, child, size⟩ := x
      simp only [Iv.cs, Iv.it] at *
      go_wp2_with fail
      refine L1.out.mono ?_
      rintro e w4 ⟨a4, c4, rfl, o4⟩
      have O4 := hide o4
      rw [hl3]
      obtain ⟨i0, i1, i2, i3⟩ := BB.out w4 (o4.box BI.out rfl)
      clear o4 L1 b0 b1 b2 b3 b4 k0 k1 k2 k3
      obtain ⟨b0, b1, b2, b3, b4⟩ := PG.out _ O4.out.b
      have HL4 : Hid ((h3 ++ fl ++ numB key.length 1).length = 15 + fl.length + 1) := by show _ = _; rw [List.length_append, hl3, HN1'.out]
      go_wp2_with (at_builtin; refine wpList_apB rfl _ _ rfl a4 (15 + fl.length + 1) c4 (h3 ++ fl ++ numB key.length 1) rfl HL4.out.symm O4.out.r aK key.length cK key rfl rfl (II.out _ O4.out.b).bk (by have := HL4.out; omega) ?_)
      intro a5 c5 w5 hR hN hg _
      have O5 := hide (O4.out.grow HG1.out hR hN hg)
      simp only [← List.append_assoc] at O5
      clear hR hN hg i0 i1 i2 i3 b0 b1 b2 b3 b4
      obtain ⟨i0, i1, i2, i3⟩ := BB.out w5 (O5.out.box BI.out rfl)
      obtain ⟨b0, b1, b2, b3, b4⟩ := PG.out _ O5.out.b
      have HL5 : Hid ((h3 ++ fl ++ numB key.length 1 ++ key).length = 15 + fl.length + 1 + key.length) := by show _ = _; rw [List.length_append, HL4.out]
      generalize HE5 : h3 ++ fl ++ numB key.length 1 ++ key = l5 at *
      have HX5 := hide HE5
      clear HE5
      have cb : 1 ≤ child ∧ child ≤ 65536 := (FT.out.index rfl).2.2
      obtain ⟨ch, rfl⟩ := Int.eq_ofNat_of_zero_le (show 0 ≤ child by omega)
      have L6 := hide (LX.out _ _ a5 (15 + fl.length + 1 + key.length) c5 l5 ch 4 O5.out HG1.out HL5.out.symm (by omega) (by decide) (by have := HL5.out; omega))
      go_wp2_with fail
      refine L6.out.mono ?_
      rintro e w6 ⟨a6, c6, rfl, o6⟩
      have O6 := hide (O5.out.trans o6)
      rw [HL5.out]
      clear o6 L6
      have HE6 : Hid (l5 ++ numB ch 4 = h3 ++ (fl ++ It.bytes 2 ⟨key, val, (ch : Int), size⟩)) := by show _ = _; rw [← HX5.out]; simp [It.bytes, List.append_assoc]
      have HL6 : Hid (15 + fl.length + 1 + key.length + 4 = 15 + (fl ++ It.bytes 2 ⟨key, val, (ch : Int), size⟩).length) := by
        show _ = _
        have h := congrArg List.length HE6.out
        simp only [List.length_append, HL5.out, numB_length, HL3.out] at h ⊢
        omega
      rw [HE6.out] at O6
      go_wp2
      go_roundw
      case rel => exact ⟨k + 1, a6, c6, by omega, by first | (go_num; done) | exact congrArg (Value.int IntKind.i64) (by omega), by rw [FSN.out, ← HL6.out], by rw [FSN.out]; exact O0.out.back A1.out O6.out (fun _ h => h.elim)⟩
      case measure => first | exact meas_up _ _ _ hj1 hlt | exact meas_up _ _ _ rfl hlt | (simp [intOf]; omega)
    · obtain rfl : k = items.length := by omega
      rw [HALL.out] at O0 ⊢
      go_wp2
      go_ret
      have HR2 : R = h3 ++ (items.map Iv.it).flatMap (It.bytes 2) := HBD.out
      refine ⟨aj, cj, ?_, ?_⟩
      · rw [HR2, List.length_append, HL3.out]
        rfl
      · rw [HR2]
        exact Own.pre HW.out O0.out.own
set_option maxRecDepth 16000 in
set_option maxHeartbeats 6400000 in
theorem ibody_1 (w : World) (no gen : Nat) (p : Pv) (hP : Pi w p) (hs : Sound p.pg) (hk : p.kind = 1) (hno : no < 9223372036854775808) (hgen : gen < 9223372036854775808) :
    Calls Tryz.prog 52 #[.int .i64 (no : Int), .int .i64 (gen : Int), p.vl] w fun e w' => ∃ a c, e = .returned (.slice a (body no gen p.pg).length c) ∧ Own w w' a c (body no gen p.pg) := by
  obtain ⟨lv, hlv, hlb⟩ : ∃ lv : Nat, p.level = (lv : Int) ∧ lv < 256 := by
    have hk' : p.pg.kind = 1 := hk
    have h4 := hs.node (by omega)
    exact ⟨p.level.toNat, by show p.pg.level = _; rw [show p.level = p.pg.level from rfl]; omega, by rw [show p.level = p.pg.level from rfl]; omega⟩
  have HBD := hide (show body no gen p.pg = [1, lv] ++ numB no 4 ++ numB gen 8 ++ p.pg.tail from by
    unfold body
    rw [show p.pg.kind = 1 from hk, show p.pg.level = (lv : Int) from hlv]
    simp only [Int.toNat_natCast, numB, List.cons_append, List.nil_append]
    rw [Nat.mod_eq_of_lt hlb]
    rfl)
  have e1 : IntKind.u8.wrap 1 = 1 := by decide
  have e2 : IntKind.u8.wrap (lv : Int) = (lv : Int) := by rw [IntKind.wrap_u8']; omega
  have HP := hide (hP.keep (al w (.cells p.cs 27)))
  have B0 := hide (Bx.new w 27 p.cs)
  have HW := hide (al w (.cells p.cs 27))
  obtain ⟨v, hv⟩ : ∃ v, w.alloc (.cells p.cs 27) = v := ⟨_, rfl⟩
  rw [hv] at HP B0 HW
  have PG := hide fun (w1 : World) (hb : Below v.heap.size v w1) => Bx.page (B0.out.keep hb)
  have hil : p.items.length ≤ 8 := by have hk' : p.pg.kind = 1 := hk; have h := (hs.node (by omega : p.pg.kind = 1 ∨ p.pg.kind = 2)).2.2.1; rw [show p.pg.items = p.items.map Iv.it from rfl, List.length_map] at h; exact h
  have HTL := hide (show p.pg.tail = numB p.items.length 1 ++ (p.items.map Iv.it).flatMap (It.bytes 1) from by unfold Pg.tail; rw [if_neg (show ¬ p.pg.kind = 3 by rw [show p.pg.kind = 1 from hk]; decide), show p.pg.kind = 1 from hk, show p.pg.items = p.items.map Iv.it from rfl, List.length_map])
  rw [HTL.out] at HBD
  have HFT := hide fun (k : Nat) (hk2 : k < p.items.length) => (show Fits 1 (p.items.getD k Iv.zero).it from hk ▸ hs.fits (x := (p.items.getD k Iv.zero).it) (List.mem_map.2 ⟨_, getD_memR hk2, rfl⟩))
  have HFL := hide fun (k : Nat) => (show (((p.items.take k).map Iv.it).flatMap (It.bytes 1)).length ≤ 472 from by
    have h := flat_le (kind := 1) (by decide) ((p.items.take k).map Iv.it) (fun x hx => by
      obtain ⟨r, hr, rfl⟩ := List.mem_map.1 hx
      exact hk ▸ hs.fits (x := r.it) (List.mem_map.2 ⟨r, List.mem_of_mem_take hr, rfl⟩))
    rw [List.length_map, List.length_take] at h
    omega)
  have HFS := hide fun (k : Nat) (hk2 : k < p.items.length) => (show ((p.items.take (k + 1)).map Iv.it).flatMap (It.bytes 1) = ((p.items.take k).map Iv.it).flatMap (It.bytes 1) ++ It.bytes 1 (p.items.getD k Iv.zero).it from by
    rw [List.take_succ_eq_append_getElem hk2, List.map_append, List.flatMap_append]
    simp [List.getD_eq_getElem?_getD, hk2])
  have HR := hide fun (w1 : World) (hb : Below v.heap.size v w1) (k : Nat) (hk : k < p.items.length) => (HP.out.it.keep hb).at hk
  have HII := hide fun (w1 : World) (hb : Below v.heap.size v w1) (k : Nat) (hk : k < p.items.length) => (HP.out.it.1 _ (getD_memR hk)).keep hb
  have HALL : Hid (p.items.take p.items.length = p.items) := List.take_length
  clear hP hs
  generalize body no gen p.pg = R at *
  have HN4 := hide (numB_length no 4)
  have HN8 := hide (numB_length gen 8)
  have LA := hide fun (w1 : World) (a1 : Option Addr) (c1 : Nat) (h1 : Od v (fun _ => False) w1 w1 a1 c1 [1, lv]) => low_any v w1 _ a1 2 c1 [1, lv] no 4 h1 (fun _ h => h.elim) rfl hno (by decide) (by simp)
  have LB := hide fun (w1 : World) (a1 : Option Addr) (c1 : Nat) (h1 : Od v (fun _ => False) w1 w1 a1 c1 ([1, lv] ++ numB no 4)) => low_any v w1 _ a1 6 c1 ([1, lv] ++ numB no 4) gen 8 h1 (fun _ h => h.elim) (by simp [HN4.out]) hgen (by decide) (by simp [HN4.out])
  have hbox : Hid (Own v (v.alloc (.cells #[.int .u8 1, .int .u8 (lv : Int)] 5)) (some ⟨v.heap.size, 0, none⟩) 2 [1, lv]) :=
    ⟨Rw.mk (heap_alloc_new _ _) (Nat.le_refl _) (by decide) rfl rfl, fun x hx => .inr (by cases hx; exact Nat.le_refl _), al _ _⟩
  obtain ⟨kind, level, aI, cI, items, aD, cD, data, next⟩ := p
  unfold Pv.vl
  simp only [Pv.cs] at *
  subst hk hlv
  obtain ⟨b0, b1, b2, b3, b4⟩ := PG.out _ (Below.refl _ _)
  go_enter Tryz.func52, Tryz.ntmps52
  go_wp2_with fail
  clear hv
  refine (LA.out _ _ _ (Od.first hbox.out)).mono ?_
  rintro e w1 ⟨a1, c1, rfl, o1⟩
  have O1 := hide o1
  clear o1 LA hbox b0 b1 b2 b3 b4
  go_wp2_with fail
  refine (LB.out _ _ _ O1.out.refl').mono ?_
  rintro e w2 ⟨a2, c2, rfl, o2⟩
  have O2 := hide o2
  clear o2 LB O1
  have HL0 : ([1, lv] ++ numB no 4).length + 8 = 14 := by simp [HN4.out]
  rw [HL0]
  have HLH : Hid (([1, lv] ++ numB no 4 ++ numB gen 8).length = 14) := by show _ = _; simp [HN4.out, HN8.out]
  generalize [1, lv] ++ numB no 4 ++ numB gen 8 = hd at *
  obtain ⟨b0, b1, b2, b3, b4⟩ := PG.out _ O2.out.b
  have LC := hide fun (w1 : World) (a1 : Option Addr) (c1 : Nat) (h1 : Od v (fun _ => False) w1 w1 a1 c1 hd) => low_any v w1 _ a1 14 c1 hd items.length 1 h1 (fun _ h => h.elim) HLH.out.symm (by omega) (by decide) (by have := HLH.out; omega)
  have HN1 := hide (numB_length items.length 1)
  go_wp2_with fail
  refine (LC.out _ _ _ O2.out.refl').mono ?_
  rintro e w3 ⟨a3, c3, rfl, o3⟩
  have O3 := hide o3
  rw [HLH.out]
  have HL3 : Hid ((hd ++ numB items.length 1).length = 15) := by show _ = _; simp [HN1.out, HLH.out]
  have HBD := hide (HBD.out.trans (List.append_assoc _ _ _).symm)
  generalize hd ++ numB items.length 1 = h3 at *
  clear o3 LC O2 b0 b1 b2 b3 b4
  go_wp2
  go_loopw [7, 8, 9] (fun o i _ wx => ∃ (k : Nat) (aj : Option Addr) (cj : Nat), k ≤ items.length ∧ i = .int .i64 k ∧ o = .slice aj (15 + (((items.take k).map Iv.it).flatMap (It.bytes 1)).length) cj ∧ Od v (fun _ => False) w3 wx aj cj (h3 ++ ((items.take k).map Iv.it).flatMap (It.bytes 1))) (fun _ i _ _ => items.length - (intOf i).toNat)
  case atStart => exact ⟨0, a3, c3, Nat.zero_le _, rfl, by simp, by simpa using O3.out.refl'⟩
  case round =>
    obtain ⟨k, aj, cj, hk, rfl, rfl, hO⟩ := hrel
    have O0 := hide hO
    obtain ⟨b0, b1, b2, b3, b4⟩ := PG.out _ hO.b
    clear hO
    by_cases hlt : k < items.length
    · have hlti : (k : Int) < (items.length : Int) := by omega
      have hj1 := w64 (j := k) (by omega)
      obtain ⟨bI, off, rfl, hr⟩ := HR.out _ O0.out.b k hlt
      obtain ⟨k0, k1, k2, k3⟩ := range4 hr
      have FT := hide (HFT.out k hlt)
      have FSN := hide (HFS.out k hlt)
      have FL0 := HFL.out k
      have II := hide fun (w1 : World) (hb : Below v.heap.size v w1) => HII.out w1 hb k hlt
      clear hr HR HFT HFS HFL HII
      generalize items.getD k Iv.zero = x at *
      have BI := hide (Bx.new wr 55 x.cs)
      have O1 := hide (O0.out.more (al wr (.cells x.cs 55)) (fun j => j = wr.heap.size) (fun j hj => .inr (Nat.le_of_eq hj.symm)))
      have HG1 := hide (show Gl (fun j => j = wr.heap.size) (wr.alloc (.cells x.cs 55)) from fun j hj => by rw [size_alloc, hj]; omega)
      have A1 := hide (al wr (.cells x.cs 55))
      have BB := hide fun (w1 : World) (h1 : w1.heap[wr.heap.size]? = some (.cells x.cs 55 (0, 0))) => Bx.item (p := x) h1
      generalize ((items.take k).map Iv.it).flatMap (It.bytes 1) = fl at *
      have hl3 : (h3 ++ fl).length = 15 + fl.length := by rw [List.length_append, HL3.out]
      have hkl : x.key.length ≤ 24 := FT.out.key
      have L1 := hide (low_any v _ _ aj (15 + fl.length) cj (h3 ++ fl) x.key.length 1 O1.out HG1.out hl3.symm (by omega) (by decide) (by omega))
      have HN1' := hide (numB_length x.key.length 1)
      have LX := hide fun (w1 w2 : World) (a1 : Option Addr) (n c1 : Nat) (l : List Nat) (y m : Nat) (h1 : Od v (fun j => j = wr.heap.size) w1 w2 a1 c1 l) (hg : Gl (fun j => j = wr.heap.size) w1) (hn : n = l.length) (hy : y < 9223372036854775808) (hm : m ≤ 8) (hl : l.length ≤ 4096) => low_any v w2 _ a1 n c1 l y m h1.refl' (h1.gl hg) hn hy hm hl
      obtain ⟨aK, cK, key, aV, cV, val, child, size⟩ := x
      simp only [Iv.cs, Iv.it] at *
      go_wp2_with fail
      refine L1.out.mono ?_
      rintro e w4 ⟨a4, c4, rfl, o4⟩
      have O4 := hide o4
      rw [hl3]
      obtain ⟨i0, i1, i2, i3⟩ := BB.out w4 (o4.box BI.out rfl)
      clear o4 L1 b0 b1 b2 b3 b4 k0 k1 k2 k3
      obtain ⟨b0, b1, b2, b3, b4⟩ := PG.out _ O4.out.b
      have HL4 : Hid ((h3 ++ fl ++ numB key.length 1).length = 15 + fl.length + 1) := by show _ = _; rw [List.length_append, hl3, HN1'.out]
      go_wp2_with (at_builtin; refine wpList_apB rfl _ _ rfl a4 (15 + fl.length + 1) c4 (h3 ++ fl ++ numB key.length 1) rfl HL4.out.symm O4.out.r aK key.length cK key rfl rfl (II.out _ O4.out.b).bk (by have := HL4.out; omega) ?_)
      intro a5 c5 w5 hR hN hg _
      have O5 := hide (O4.out.grow HG1.out hR hN hg)
      simp only [← List.append_assoc] at O5
      clear hR hN hg i0 i1 i2 i3 b0 b1 b2 b3 b4
      obtain ⟨i0, i1, i2, i3⟩ := BB.out w5 (O5.out.box BI.out rfl)
      obtain ⟨b0, b1, b2, b3, b4⟩ := PG.out _ O5.out.b
      have HL5 : Hid ((h3 ++ fl ++ numB key.length 1 ++ key).length = 15 + fl.length + 1 + key.length) := by show _ = _; rw [List.length_append, HL4.out]
      generalize HE5 : h3 ++ fl ++ numB key.length 1 ++ key = l5 at *
      have HX5 := hide HE5
      clear HE5
      obtain ⟨s0, s1, s2, s3⟩ : 0 ≤ size ∧ size ≤ 3840 ∧ (size ≤ 32 → (val.length : Int) = size ∧ child = 0) ∧ (32 < size → val = [] ∧ 1 ≤ child ∧ child ≤ 65536) := FT.out.leaf rfl
      obtain ⟨sz, rfl⟩ := Int.eq_ofNat_of_zero_le s0
      have L6 := hide (LX.out _ _ a5 (15 + fl.length + 1 + key.length) c5 l5 sz 2 O5.out HG1.out HL5.out.symm (by omega) (by decide) (by have := HL5.out; omega))
      have S2 := hide s2
      have S3 := hide s3
      clear s2 s3
      go_wp2_with fail
      refine L6.out.mono ?_
      rintro e w6 ⟨a6, c6, rfl, o6⟩
      have O6 := hide (O5.out.trans o6)
      rw [HL5.out]
      clear o6 L6 i0 i1 i2 i3 b0 b1 b2 b3 b4
      obtain ⟨i0, i1, i2, i3⟩ := BB.out w6 (O6.out.box BI.out rfl)
      obtain ⟨b0, b1, b2, b3, b4⟩ := PG.out _ O6.out.b
      have HL6 : Hid ((l5 ++ numB sz 2).length = 15 + fl.length + 1 + key.length + 2) := by show _ = _; rw [List.length_append, HL5.out, numB_length]
      by_cases h32 : sz ≤ 32
      · have h32i : (sz : Int) ≤ 32 := by omega
        have hvl := (S2.out (by omega)).1
        go_wp2_with (at_builtin; refine wpList_apB rfl _ _ rfl a6 (15 + fl.length + 1 + key.length + 2) c6 (l5 ++ numB sz 2) rfl HL6.out.symm O6.out.r aV val.length cV val rfl rfl (II.out _ O6.out.b).bv (by have := HL6.out; omega) ?_)
        intro a7 c7 w7 hR hN hg _
        have O7 := hide (O6.out.grow HG1.out hR hN hg)
        clear hR hN hg
        have HE7 : Hid (l5 ++ numB sz 2 ++ val = h3 ++ (fl ++ It.bytes 1 ⟨key, val, child, (sz : Int)⟩)) := by show _ = _; rw [← HX5.out]; unfold It.bytes; rw [if_pos rfl, if_pos h32i]; simp [List.append_assoc]
        have HL7 : Hid (15 + fl.length + 1 + key.length + 2 + val.length = 15 + (fl ++ It.bytes 1 ⟨key, val, child, (sz : Int)⟩).length) := by
          show _ = _
          have h := congrArg List.length HE7.out
          simp only [List.length_append, HL5.out, numB_length, HL3.out] at h ⊢
          omega
        simp only [← List.append_assoc] at O7
        have HE8 := HE7.out
        simp only [← List.append_assoc] at HE8
        rw [HE8, List.append_assoc] at O7
        go_wp2
        go_roundw
        case rel => exact ⟨k + 1, a7, c7, by omega, by first | (go_num; done) | exact congrArg (Value.int IntKind.i64) (by omega), by rw [FSN.out, ← HL7.out], by rw [FSN.out]; exact O0.out.back A1.out O7.out (fun _ h => h.elim)⟩
        case measure => first | exact meas_up _ _ _ hj1 hlt | exact meas_up _ _ _ rfl hlt | (simp [intOf]; omega)
      · have h32i : (32 : Int) < (sz : Int) := by omega
        have h32d : decide ((sz : Int) ≤ 32) = false := by simp; omega
        have cb := (S3.out h32i).2
        obtain ⟨ch, rfl⟩ := Int.eq_ofNat_of_zero_le (show 0 ≤ child by omega)
        have L7 := hide (LX.out _ _ a6 (15 + fl.length + 1 + key.length + 2) c6 (l5 ++ numB sz 2) ch 4 O6.out HG1.out HL6.out.symm (by omega) (by decide) (by have := HL6.out; omega))
        go_wp2_with fail
        refine L7.out.mono ?_
        rintro e w7 ⟨a7, c7, rfl, o7⟩
        have O7 := hide (O6.out.trans o7)
        rw [HL6.out]
        clear o7 L7
        have HE7 : Hid (l5 ++ numB sz 2 ++ numB ch 4 = h3 ++ (fl ++ It.bytes 1 ⟨key, val, (ch : Int), (sz : Int)⟩)) := by show _ = _; rw [← HX5.out]; unfold It.bytes; rw [if_pos rfl, if_neg (Int.not_le.2 h32i)]; simp [List.append_assoc]
        have HL7 : Hid (15 + fl.length + 1 + key.length + 2 + 4 = 15 + (fl ++ It.bytes 1 ⟨key, val, (ch : Int), (sz : Int)⟩).length) := by
          show _ = _
          have h := congrArg List.length HE7.out
          simp only [List.length_append, HL5.out, numB_length, HL3.out] at h ⊢
          omega
        rw [HE7.out] at O7
        go_wp2
        go_roundw
        case rel => exact ⟨k + 1, a7, c7, by omega, by first | (go_num; done) | exact congrArg (Value.int IntKind.i64) (by omega), by rw [FSN.out, ← HL7.out], by rw [FSN.out]; exact O0.out.back A1.out O7.out (fun _ h => h.elim)⟩
        case measure => first | exact meas_up _ _ _ hj1 hlt | exact meas_up _ _ _ rfl hlt | (simp [intOf]; omega)
    · obtain rfl : k = items.length := by omega
      rw [HALL.out] at O0 ⊢
      go_wp2
      go_ret
      have HR2 : R = h3 ++ (items.map Iv.it).flatMap (It.bytes 1) := HBD.out
      refine ⟨aj, cj, ?_, ?_⟩
      · rw [HR2, List.length_append, HL3.out]
        rfl
      · rw [HR2]
        exact Own.pre HW.out O0.out.own
end Go.Proofs.YtlneomgjjkfnoabGreat

namespace Go.Proofs.YtlneomgjjkfnoabGreat
open Go.RowKit

theorem ibody_any (w : World) (no gen : Nat) (p : Pv) (hP : Pi w p) (hs : Sound p.pg) (hno : no < 9223372036854775808) (hgen : gen < 9223372036854775808) :
    Calls Tryz.prog 52 #[.int .i64 (no : Int), .int .i64 (gen : Int), p.vl] w fun e w' => ∃ a c, e = .returned (.slice a (body no gen p.pg).length c) ∧ Own w w' a c (body no gen p.pg) := by
  rcases Pg.kindOk_iff.1 hs.k with hk | hk | hk
  · exact ibody_1 w no gen p hP hs hk hno hgen
  · exact ibody_2 w no gen p hP hs hk hno hgen
  · exact ibody_3 w no gen p hP hs hk hno hgen
theorem rep_snoc (l : List Nat) (j : Nat) : l ++ List.replicate j 0 ++ [0] = l ++ List.replicate (j + 1) 0 := by
  rw [List.append_assoc, ← List.replicate_succ']
set_option maxHeartbeats 3200000 in
theorem iSummed_any (w : World) (a : Option Addr) (n cap : Nat) (l : List Nat) (hB : Bs w a l) (hn : n = l.length) (hl : l.length ≤ 508) :
    Calls Tryz.prog 51 #[.slice a n cap] w fun e w' => ∃ a' c', e = .returned (.slice a' 512 c') ∧ Own w w' a' c' (summed l) := by
  subst hn
  have CB := hide (CopyBytes_any w a l.length cap l hB rfl (by omega))
  have H8 := hide hB.1
  clear hB
  go_enter Tryz.func51, Tryz.ntmps51
  go_wp2_with fail
  refine CB.out.mono ?_
  rintro e w1 ⟨a1, c1, rfl, r1, n1, b1⟩
  have O1 := hide (Od.first (v := w) (w := w1) ⟨r1, n1, b1⟩)
  clear r1 n1 b1 CB
  go_wp2
  go_loopw [3] (fun o wx => ∃ (j : Nat) (aj : Option Addr) (cj : Nat), l.length + j ≤ 508 ∧ o = .slice aj (l.length + j) cj ∧ Od w (fun _ => False) w1 wx aj cj (l ++ List.replicate j 0)) (fun o _ => 508 - (match o with | .slice _ n _ => n | _ => 0))
  case atStart => exact ⟨0, a1, c1, by omega, rfl, by simpa using O1.out⟩
  case round =>
    obtain ⟨j, aj, cj, hj, rfl, hO⟩ := hrel
    have O0 := hide hO
    clear hO
    have hz : (l ++ List.replicate j 0).length = l.length + j := by simp
    by_cases hlt : l.length + j < 508
    · have hlti : ((l.length + j : Nat) : Int) < 508 := by omega
      have HS := hide (rep_snoc l j)
      generalize l ++ List.replicate j 0 = L at *
      generalize hm : l.length + j = m at *
      go_wp2_with (at_builtin; refine wpList_ap1 rfl _ _ rfl aj m cj L rfl hz.symm (O0.out.r.keep ((Below.refl _ _).alloc (Nat.le_refl _) _)) ⟨wr.heap.size, 0, none⟩ 1 0 rfl ?c1 (by omega) ?_)
      try case c1 => simp
      intro g c2 w2 hR hN hg hlt2
      have O2 := hide ((O0.out.keep (al wr _)).grow (fun _ h => h.elim) hR hN hg)
      rw [HS.out] at O2
      clear hR hN hg
      go_wp2
      go_roundw
      case rel => exact ⟨j + 1, _, c2, by omega, by rw [← hm, Nat.add_assoc], O2.out⟩
      case measure => simp only []; omega
    · have he : l.length + j = 508 := by omega
      have hp : Hid (l ++ List.replicate j 0 = padded l) := by
        show _ = _
        unfold padded
        rw [show j = 508 - l.length by omega]
      rw [hp.out] at O0 hz
      rw [he] at hz ⊢
      have P8 : Hid (B8 (padded l)) := by
        show B8 _
        rw [← hp.out]
        exact B8.app.2 ⟨H8.out, fun x hx => by have := (List.mem_replicate.1 hx).2; omega⟩
      have SU := hide (show summed l = padded l ++ numB (M.of (padded l)) 4 from rfl)
      have hof : M.of (padded l) < 4294967296 := M.of_lt P8.out
      generalize padded l = Q at *
      have OF := hide (rOf_any aj 508 cj Q wr (O0.out.r.bs P8.out (by omega)) hz.symm)
      generalize M.of Q = s at *
      go_wp2_with fail
      refine OF.out.mono ?_
      rintro e w3 ⟨rfl, rfl⟩
      have LW := hide (low_any w w3 _ aj 508 cj Q s 4 O0.out.refl' (fun _ h => h.elim) hz.symm (by omega) (by decide) (by omega))
      clear OF
      go_wp2_with fail
      refine LW.out.mono ?_
      rintro e w4 ⟨a4, c4, rfl, o4⟩
      rw [hz]
      have O4 := hide o4
      clear o4
      go_wp2
      go_ret
      exact ⟨a4, c4, rfl, by rw [SU.out]; exact O4.out.own⟩
set_option maxRecDepth 8000 in
set_option maxHeartbeats 3200000 in
theorem iEncode_any (w : World) (no gen : Int) (p : Pv) (hP : Pi w p) :
    Calls Tryz.prog 27 #[.int .i64 no, .int .i64 gen, p.vl] w fun e w' => ∃ a c, e = .returned (.tuple #[.slice a (encB no gen p.pg).length c, .int .i64 (encE no gen p.pg : Int)]) ∧ Own w w' a c (encB no gen p.pg) := by
  have HW := hide (al w (.cells p.cs 27))
  have CP := hide fun (w1 : World) (hb : Below (w.alloc (.cells p.cs 27)).heap.size (w.alloc (.cells p.cs 27)) w1) => Bx.page ((Bx.new w 27 p.cs).keep hb)
  have CK := hide fun (w1 : World) (hb : Below w.heap.size w w1) => iCheck_any w1 p (hP.keep hb)
  have IP := hide fun (w1 : World) => IsPage_any w1 no
  have EB : Hid (encB no gen p.pg = if encE no gen p.pg = 0 then blk no gen p.pg else []) := rfl
  have EE : Hid (encE no gen p.pg = if isNum no = false then 15 else if isGen gen = false then 1 else p.pg.check) := rfl
  have CZ := hide (Pg.check_zero (p := p.pg))
  have BO := hide fun (w1 : World) (hb : Below w.heap.size w w1) (hs : Sound p.pg) (n g : Nat) (h1 : n < 9223372036854775808) (h2 : g < 9223372036854775808) => ibody_any w1 n g p (hP.keep hb) hs h1 h2
  have BL := hide fun (hs : Sound p.pg) (n g : Int) => hs.body_le n g
  have BK := hide fun (hs : Sound p.pg) => hs.blk_length no gen
  have BS := hide (show blk no gen p.pg = summed (body no gen p.pg) from rfl)
  have B8' := hide (body_b8 hP.b8 no gen)
  generalize encB no gen p.pg = eb at *
  generalize encE no gen p.pg = ee at *
  generalize p.pg = pg at *
  clear hP
  obtain ⟨kind, level, aI, cI, items, aD, cD, data, next⟩ := p
  unfold Pv.vl at CK BO ⊢
  simp only [Pv.cs] at *
  cases hn : isNum no with
  | false =>
    rw [hn] at IP
    obtain rfl : ee = 15 := by rw [EE.out, if_pos hn]
    obtain rfl : eb = [] := by rw [EB.out]; rfl
    clear CK EE EB CZ BO BL BK BS B8'
    go_enter Tryz.func27, Tryz.ntmps27
    go_wp2_with fail
    refine (IP.out _).mono ?_
    rintro e w1 ⟨rfl, hww⟩
    obtain rfl := hww.symm
    go_wp2
    go_ret2
    exact ⟨none, 0, rfl, Own.nil w HW.out⟩
  | true =>
    rw [hn] at IP
    cases hg : isGen gen with
    | false =>
      obtain rfl : ee = 1 := by rw [EE.out, if_neg (by rw [hn]; simp), if_pos hg]
      obtain rfl : eb = [] := by rw [EB.out]; rfl
      have hg' : gen < 0 ∨ 0 ≤ gen ∧ 1099511627776 < gen := by
        simp only [isGen, Bool.and_eq_false_iff, decide_eq_false_iff_not] at hg
        omega
      clear CK EE EB CZ BO BL BK BS B8' hg hn
      go_enter Tryz.func27, Tryz.ntmps27
      go_wp2_with fail
      refine (IP.out _).mono ?_
      rintro e w1 ⟨rfl, hww⟩
      obtain rfl := hww.symm
      rcases hg' with hg' | ⟨hg', hg2⟩
      · have hd : decide (gen < 0) = true := by simpa using hg'
        go_wp2
        go_ret2
        exact ⟨none, 0, rfl, Own.nil w HW.out⟩
      · have hd : decide (gen < 0) = false := by simpa using hg'
        have hd2 : decide (1099511627776 < gen) = true := by simpa using hg2
        go_wp2
        go_ret2
        exact ⟨none, 0, rfl, Own.nil w HW.out⟩
    | true =>
      obtain rfl : ee = pg.check := by rw [EE.out, if_neg (by rw [hn]; simp), if_neg (by rw [hg]; simp)]
      have hg' : 0 ≤ gen ∧ gen ≤ 1099511627776 := by simpa [isGen] using hg
      have hn' : 1 ≤ no ∧ no ≤ 65536 := by simpa [isNum] using hn
      obtain ⟨N, rfl⟩ := Int.eq_ofNat_of_zero_le (show 0 ≤ no by omega)
      obtain ⟨Gn, rfl⟩ := Int.eq_ofNat_of_zero_le hg'.1
      have hd : decide ((Gn : Int) < 0) = false := by simp
      have hd2 : decide (1099511627776 < (Gn : Int)) = false := by simp; omega
      clear EE hn hg
      obtain ⟨b0, b1, b2, b3, b4⟩ := CP.out _ (Below.refl _ _)
      go_enter Tryz.func27, Tryz.ntmps27
      go_wp2_with fail
      refine (IP.out _).mono ?_
      rintro e w1 ⟨rfl, hww⟩
      obtain rfl := hww.symm
      go_wp2_with fail
      refine (CK.out _ HW.out).mono ?_
      rintro e w2 ⟨rfl, hb2⟩
      have B2 := hide hb2
      clear hb2 b0 b1 b2 b3 b4 CK
      obtain ⟨b0, b1, b2, b3, b4⟩ := CP.out _ B2.out
      by_cases hz : pg.check = 0
      · have hs := CZ.out.1 hz
        obtain rfl : eb = summed (body N Gn pg) := by rw [EB.out, if_pos hz, BS.out]
        rw [hz]
        have HZ := hide hz
        have BD := hide (BO.out w2 (bt HW.out B2.out) hs N Gn (by omega) (by omega))
        have hbl := BL.out hs N Gn
        have hbk := BK.out hs
        rw [BS.out] at hbk
        clear EB CZ BO BL BK BS hz hs
        obtain ⟨bd, hbd⟩ : ∃ bd, body N Gn pg = bd := ⟨_, rfl⟩
        rw [hbd] at BD hbl hbk B8'
        have HBD := hide hbd
        clear hbd
        go_wp2_with fail
        refine BD.out.mono ?_
        rintro e w3 ⟨a3, c3, rfl, o3⟩
        have SM := hide (iSummed_any w3 a3 bd.length c3 bd (o3.bs B8'.out) rfl (by omega))
        have B3 := hide (bt HW.out (bt B2.out o3.b))
        clear o3 BD
        go_wp2_with fail
        refine SM.out.mono ?_
        rintro e w4 ⟨a4, c4, rfl, o4⟩
        have O4 := hide (Own.pre B3.out o4)
        clear o4 SM
        go_wp2
        go_ret2
        exact ⟨a4, c4, by rw [HBD.out, hbk, HZ.out]; rfl, by rw [HBD.out]; exact O4.out⟩
      · obtain rfl : eb = [] := by rw [EB.out, if_neg hz]
        have hzf : ((pg.check : Nat) : Int) ≠ 0 := by omega
        have hzb : (((pg.check : Nat) : Int) != 0) = true := by simpa using hz
        clear EB CZ BO BL BK BS B8'
        obtain ⟨c, hc⟩ : ∃ c, pg.check = c := ⟨_, rfl⟩
        rw [hc] at hzf hzb ⊢
        have HC := hide hc
        clear hc hz
        go_wp2
        go_ret2
        exact ⟨none, 0, by rw [HC.out]; rfl, Own.nil w (bt HW.out B2.out)⟩
end Go.Proofs.YtlneomgjjkfnoabGreat
