import Derived.Test.YtlneomgjjkfnoabGreatPLE
import Derived.Test.YtlneomgjjkfnoabGreatPSE
namespace Go.Proofs.YtlneomgjjkfnoabGreat
open Go.RowKit

/-- what Encode answers -/
def encE (no gen : Int) (p : Pg) : Nat := if isNum no = false then 15 else if isGen gen = false then 1 else p.check
def encB (no gen : Int) (p : Pg) : List Nat := if encE no gen p = 0 then blk no gen p else []
theorem encE_zero {no gen : Int} {p : Pg} : encE no gen p = 0 ↔ isNum no = true ∧ isGen gen = true ∧ Sound p := by
  unfold encE
  cases isNum no <;> cases isGen gen <;> simp [Pg.check_zero]
theorem Wk.bs {v w : World} {G : Nat → Prop} {b : Nat} {l : List Nat} (h : Wk v G w b l) : ∀ {w' a c}, Own w w' a c l → Bs w' a l := fun ho => ho.bs h.b8
set_option maxRecDepth 8000 in
set_option maxHeartbeats 3200000 in
theorem Encode_any (w : World) (no gen : Int) (p : Pv) (hP : Pi w p) :
    Calls Tryz.prog 19 #[.int .i64 no, .int .i64 gen, p.vl] w fun e w' => ∃ a c, e = .returned (.tuple #[.slice a (encB no gen p.pg).length c, .int .i64 (encE no gen p.pg : Int)]) ∧ Own w w' a c (encB no gen p.pg) := by
  have HP := hide (hP.keep (al w (.cells p.cs 27)))
  have HPG := hide (Bx.page (Bx.new w 27 p.cs))
  have CK := hide fun (w1 : World) (hb : Below w.heap.size w w1) => Check_any w1 p (hP.keep hb)
  cases hn : isNum no with
  | false =>
    have h1 : encE no gen p.pg = 15 := by unfold encE; rw [if_pos hn]
    have h2 : encB no gen p.pg = [] := by unfold encB; rw [h1]; rfl
    rw [h1, h2]
    have IN := hide fun w1 => isNumber_any w1 no
    rw [hn] at IN
    clear HP CK HPG hP hn h1 h2
    unfold Pv.vl Pv.cs
    go_enter Tryz.func19, Tryz.ntmps19
    go_wp2_with (go_at_call 32; refine (IN.out _).mono ?_; rintro y w1 ⟨rfl, hww⟩; obtain rfl := hww.symm)
    go_ret2
    exact ⟨none, 0, rfl, Own.nil w (al _ _)⟩
  | true =>
    have IN := hide fun w1 => isNumber_any w1 no
    rw [hn] at IN
    have IG := hide fun w1 => isGeneration_any w1 gen
    cases hg : isGen gen with
    | false =>
      have h1 : encE no gen p.pg = 1 := by unfold encE; rw [hn, hg]; rfl
      have h2 : encB no gen p.pg = [] := by unfold encB; rw [h1]; rfl
      rw [h1, h2]
      rw [hg] at IG
      clear HP CK HPG hP hn hg h1 h2
      unfold Pv.vl Pv.cs
      go_enter Tryz.func19, Tryz.ntmps19
      go_wp2_with (first | (go_at_call 32; refine (IN.out _).mono ?_; rintro y w1 ⟨rfl, hww⟩; obtain rfl := hww.symm) | (go_at_call 33; refine (IG.out _).mono ?_; rintro y w1 ⟨rfl, hww⟩; obtain rfl := hww.symm))
      go_ret2
      exact ⟨none, 0, rfl, Own.nil w (al _ _)⟩
    | true =>
      rw [hg] at IG
      have h1 : encE no gen p.pg = p.pg.check := by unfold encE; rw [hn, hg]; rfl
      by_cases hc : p.pg.check = 0
      · have h2 : encB no gen p.pg = blk no gen p.pg := by unfold encB; rw [h1, hc]; rfl
        have hS := Pg.check_zero.1 hc
        rw [h1, hc, h2]
        rw [hc] at CK
        have HLEN := hide (hS.blk_length no gen)
        have hbl := hS.body_le no gen
        have WR := hide fun (v w1 : World) (b : Nat) (h : Wk v (fun _ => False) w1 b []) (hv : Pi v p) => write_any v w1 b no gen p h ⟨hS, hn, hg, hv⟩
        have HBK : Hid (blk no gen p.pg = summed (body no gen p.pg)) := rfl
        clear hn hg h1 h2 hc hS
        generalize blk no gen p.pg = BK at *
        generalize body no gen p.pg = BD at *
        obtain ⟨kind, level, aI, cI, items, aD, cD, data, next⟩ := p
        unfold Pv.vl
        simp only [Pv.cs, Pv.vl, ctc] at *
        go_enter Tryz.func19, Tryz.ntmps19
        go_wp2_with (first | (go_at_call 32; refine (IN.out _).mono ?_; rintro y w1 ⟨rfl, hww⟩; obtain rfl := hww.symm) | (go_at_call 33; refine (IG.out _).mono ?_; rintro y w1 ⟨rfl, hww⟩; obtain rfl := hww.symm) | (go_at_call 24; refine (CK.out _ (al _ _)).mono ?_; rintro y w1 ⟨rfl, hb1⟩; have T1 := hide (bt (al w _) hb1); obtain ⟨c0, c1, c2, c3, c4⟩ := HPG.out; have k0 := (hb1.cell (block_lt_of_cell c0)).trans c0; have k1 := (hb1.cell (block_lt_of_cell c1)).trans c1; have k2 := (hb1.cell (block_lt_of_cell c2)).trans c2; have k3 := (hb1.cell (block_lt_of_cell c3)).trans c3; have k4 := (hb1.cell (block_lt_of_cell c4)).trans c4; clear c0 c1 c2 c3 c4 hb1))
        refine (wNew w1).mono ?_
        rintro y w2 ⟨rfl, hk⟩
        have m0 := (hk.1.cell (block_lt_of_cell k0)).trans k0
        have m1 := (hk.1.cell (block_lt_of_cell k1)).trans k1
        have m2 := (hk.1.cell (block_lt_of_cell k2)).trans k2
        have m3 := (hk.1.cell (block_lt_of_cell k3)).trans k3
        have m4 := (hk.1.cell (block_lt_of_cell k4)).trans k4
        have K := hide hk
        have HPV := hide (hP.keep T1.out)
        clear k0 k1 k2 k3 k4 hk CK HP HPG hP
        go_wp2_with fail
        refine (WR.out w1 _ _ K.out HPV.out).mono ?_
        rintro y w3 ⟨rfl, hk⟩
        have K := hide hk
        clear hk WR HPV m0 m1 m2 m3 m4
        go_wp2_with fail
        refine (Close_any w1 w3 _ _ _ K.out (fun _ h => h.elim) (by omega)).mono ?_
        rintro y w8 ⟨a8, c8, rfl, r8, n8, hk⟩
        have O8 : Hid (Own w1 w8 a8 c8 BK) := ⟨by rw [HBK.out]; exact r8, n8.mono K.out.1.size, hk.k.1⟩
        clear r8 n8 hk
        go_wp2
        go_ret2
        exact ⟨a8, c8, by rw [HLEN.out]; rfl, O8.out.r, O8.out.n.mono T1.out.size, bt T1.out O8.out.b⟩
      · have hc' : (((p.pg.check : Nat) : Int) == 0) = false := by simpa using hc
        have h2 : encB no gen p.pg = [] := by unfold encB; rw [h1, if_neg hc]
        rw [h1, h2]
        clear HP hP hn hg h1 h2 hc
        generalize p.pg.check = ce at *
        obtain ⟨kind, level, aI, cI, items, aD, cD, data, next⟩ := p
        unfold Pv.vl
        simp only [Pv.cs, Pv.vl] at *
        go_enter Tryz.func19, Tryz.ntmps19
        go_wp2_with (first | (go_at_call 32; refine (IN.out _).mono ?_; rintro y w1 ⟨rfl, hww⟩; obtain rfl := hww.symm) | (go_at_call 33; refine (IG.out _).mono ?_; rintro y w1 ⟨rfl, hww⟩; obtain rfl := hww.symm) | (go_at_call 24; refine (CK.out _ (al _ _)).mono ?_; rintro y w1 ⟨rfl, hb1⟩; have T1 := hide (bt (al w _) hb1); clear hb1))
        go_ret2
        exact ⟨none, 0, rfl, Own.nil w T1.out⟩
end Go.Proofs.YtlneomgjjkfnoabGreat
