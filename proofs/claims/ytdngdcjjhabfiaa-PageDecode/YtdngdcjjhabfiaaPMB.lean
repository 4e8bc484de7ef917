import Derived.Test.YtdngdcjjhabfiaaPM
namespace Go.Proofs.Ytdngdcjjhabfiaa
open Go.RowKit

set_option maxRecDepth 16000 in
set_option maxHeartbeats 6400000 in
theorem ibody_3 (w : World) (no gen : Nat) (p : Pv) (hP : Pi w p) (hs : Sound p.pg) (hk : p.kind = 3) (hno : no < 9223372036854775808) (hgen : gen < 9223372036854775808) :
    Calls Try.prog 40 #[.int .i64 (no : Int), .int .i64 (gen : Int), p.vl] w fun e w' => ∃ a c, e = .returned (.slice a (body no gen p.pg).length c) ∧ Own w w' a c (body no gen p.pg) := by
  obtain ⟨lv, hlv, hlb⟩ : ∃ lv : Nat, p.level = (lv : Int) ∧ lv < 256 := by
    exact ⟨0, (hs.blob hk).1, by decide⟩
  have HBD := hide (show body no gen p.pg = [3, lv] ++ numB no 4 ++ numB gen 8 ++ p.pg.tail from by
    unfold body
    rw [show p.pg.kind = 3 from hk, show p.pg.level = (lv : Int) from hlv]
    simp only [Int.toNat_natCast, numB, List.cons_append, List.nil_append]
    rw [Nat.mod_eq_of_lt hlb]
    rfl)
  have e1 : IntKind.u8.wrap 3 = 3 := by decide
  have e2 : IntKind.u8.wrap (lv : Int) = (lv : Int) := by rw [IntKind.wrap_u8']; omega
  have HP := hide (hP.keep (al w (.cells p.cs 25)))
  have B0 := hide (Bx.new w 25 p.cs)
  have HW := hide (al w (.cells p.cs 25))
  obtain ⟨v, hv⟩ : ∃ v, w.alloc (.cells p.cs 25) = v := ⟨_, rfl⟩
  rw [hv] at HP B0 HW
  have PG := hide fun (w1 : World) (hb : Below v.heap.size v w1) => Bx.page (B0.out.keep hb)
  have hnx : 0 ≤ p.next ∧ p.next ≤ 65536 := ⟨(hs.blob hk).2.2.2.2.1, (hs.blob hk).2.2.2.2.2⟩
  have hdl : p.data.length ≤ 480 := (hs.blob hk).2.2.2.1
  have HBS := hide fun (w1 : World) (hb : Below v.heap.size v w1) => HP.out.bd.keep hb
  have HTL := hide (show p.pg.tail = numB p.data.length 2 ++ numB p.next.toNat 4 ++ p.data from by unfold Pg.tail; rw [if_pos (show p.pg.kind = 3 from hk)]; rfl)
  rw [HTL.out] at HBD
  clear hP hs
  generalize body no gen p.pg = R at *
  have HN4 := hide (numB_length no 4)
  have HN8 := hide (numB_length gen 8)
  have LA := hide fun (w1 : World) (a1 : Option Addr) (c1 : Nat) (h1 : Od v (fun _ => False) w1 w1 a1 c1 [3, lv]) => low_any v w1 _ a1 2 c1 [3, lv] no 4 h1 (fun _ h => h.elim) rfl hno (by decide) (by simp)
  have LB := hide fun (w1 : World) (a1 : Option Addr) (c1 : Nat) (h1 : Od v (fun _ => False) w1 w1 a1 c1 ([3, lv] ++ numB no 4)) => low_any v w1 _ a1 6 c1 ([3, lv] ++ numB no 4) gen 8 h1 (fun _ h => h.elim) (by simp [HN4.out]) hgen (by decide) (by simp [HN4.out])
  have hbox : Hid (Own v (v.alloc (.cells #[.int .u8 3, .int .u8 (lv : Int)] 5)) (some ⟨v.heap.size, 0, none⟩) 2 [3, lv]) :=
    ⟨Rw.mk (heap_alloc_new _ _) (Nat.le_refl _) (by decide) rfl rfl, fun x hx => .inr (by cases hx; exact Nat.le_refl _), al _ _⟩
  obtain ⟨kind, level, aI, cI, items, aD, cD, data, next⟩ := p
  unfold Pv.vl
  simp only [Pv.cs] at *
  subst hk hlv
  obtain ⟨b0, b1, b2, b3, b4⟩ := PG.out _ (Below.refl _ _)
  go_enter Try.func40, Try.ntmps40
  go_wp2_with fail
  clear hv
  refine (LA.out _ _ _ (Od.first hbox.out)).mono ?_
  rintro e w1 ⟨a1, c1, rfl, o1⟩
  have O1 := hide o1
  clear o1 LA hbox b0 b1 b2 b3 b4
  go_wp2_with fail
  refine (LB.out _ _ _ O1.out.refl').mono ?_
  rintro e w2 ⟨a2, c2, rfl, o2⟩
  have O2 := hide o2
  clear o2 LB O1
  have HL0 : ([3, lv] ++ numB no 4).length + 8 = 14 := by simp [HN4.out]
  rw [HL0]
  have HLH : Hid (([3, lv] ++ numB no 4 ++ numB gen 8).length = 14) := by show _ = _; simp [HN4.out, HN8.out]
  generalize [3, lv] ++ numB no 4 ++ numB gen 8 = hd at *
  obtain ⟨b0, b1, b2, b3, b4⟩ := PG.out _ O2.out.b
  obtain ⟨nx, rfl⟩ := Int.eq_ofNat_of_zero_le hnx.1
  have LC := hide fun (w1 : World) (a1 : Option Addr) (c1 : Nat) (h1 : Od v (fun _ => False) w1 w1 a1 c1 hd) => low_any v w1 _ a1 14 c1 hd data.length 2 h1 (fun _ h => h.elim) HLH.out.symm (by omega) (by decide) (by have := HLH.out; omega)
  have HN2 := hide (numB_length data.length 2)
  have LD := hide fun (w1 : World) (a1 : Option Addr) (c1 : Nat) (h1 : Od v (fun _ => False) w1 w1 a1 c1 (hd ++ numB data.length 2)) => low_any v w1 _ a1 16 c1 (hd ++ numB data.length 2) nx 4 h1 (fun _ h => h.elim) (by simp [HN2.out, HLH.out]) (by omega) (by decide) (by simp [HN2.out, HLH.out])
  go_wp2_with fail
  refine (LC.out _ _ _ O2.out.refl').mono ?_
  rintro e w3 ⟨a3, c3, rfl, o3⟩
  have O3 := hide o3
  clear o3 LC O2 b0 b1 b2 b3 b4
  rw [HLH.out]
  obtain ⟨b0, b1, b2, b3, b4⟩ := PG.out _ O3.out.b
  go_wp2_with fail
  refine (LD.out _ _ _ O3.out.refl').mono ?_
  rintro e w4 ⟨a4, c4, rfl, o4⟩
  have O4 := hide o4
  have HL4 : (hd ++ numB data.length 2).length + 4 = 20 := by simp [HN2.out, HLH.out]
  rw [HL4]
  clear o4 LD O3 b0 b1 b2 b3 b4
  obtain ⟨b0, b1, b2, b3, b4⟩ := PG.out _ O4.out.b
  have HN5 := hide (numB_length nx 4)
  have HL5 : Hid ((hd ++ numB data.length 2 ++ numB nx 4).length = 20) := by show _ = _; simp [HN2.out, HLH.out, HN5.out]
  go_wp2_with (at_builtin; refine wpList_apB rfl _ _ rfl a4 20 c4 (hd ++ numB data.length 2 ++ numB nx 4) rfl HL5.out.symm O4.out.r aD data.length cD data rfl rfl (HBS.out _ O4.out.b) (by have := HL5.out; omega) ?_)
  intro a5 c5 w5 hR hN hg _
  have O5 := hide (O4.out.grow (fun _ h => h.elim) hR hN hg)
  clear hR hN hg
  go_wp2
  go_ret
  have HR : R = hd ++ numB data.length 2 ++ numB nx 4 ++ data := by rw [HBD.out]; simp [List.append_assoc]
  refine ⟨a5, c5, ?_, ?_⟩
  · rw [HR, List.length_append, HL5.out]
    rfl
  · have h7 := Own.pre HW.out O5.out.own
    rw [HR]
    simpa only [List.append_assoc] using h7
end Go.Proofs.Ytdngdcjjhabfiaa
