import Derived.Test.YtienamijmccjbabIY
namespace Go.Proofs.Ytienamijmccjbab
open Go.RowKit

theorem xor8 (a b : Nat) (ha : a < 256) (hb : b < 256) : bits .xor .u8 (a : Int) (b : Int) = ((a ^^^ b : Nat) : Int) := u8_xor_nat a b ha hb
set_option maxRecDepth 8000 in
set_option maxHeartbeats 3200000 in
theorem superTells_any (w : World) (s : Su) (a : Option Addr) (c : Nat) (hJ : Js w a s.rs) (hN : s.rs.length ≤ 4398046510976) (_ : s.rs.length ≤ c) (p : Int) (_ : N64 p) (x : Nat) (hx : x < 256) :
    Calls Try.prog 4 #[.agg (suC s a c), .int .i64 p, .int .u8 (x : Int)] w fun e w' => e = .returned (.bool true) ∧ Below w.heap.size w w' := by
  have HA := hide (al w (.cells (suC s a c) 28))
  have HB := hide (Bx.new w 28 (suC s a c))
  have SP := hide fun (w1 : World) (hb : Below w.heap.size w w1) => spare_any w1 s a c (hJ.keep hb) hN
  have EN := hide fun (w1 : World) (a1 : Option Addr) (c1 : Nat) (h : Js w1 a1 s.rs) => Encode_any w1 s a1 c1 h (by omega)
  unfold EnQ at EN
  clear hJ
  by_cases h0 : chE s = 0
  · have hok := chE_ok h0
    have hll := lay_length hok.l
    rw [enB_ok h0, h0, hll] at EN
    by_cases hcond : 0 ≤ p ∧ p < 512 ∧ x ≠ 0
    · obtain ⟨hp0, hp1, hx0⟩ := hcond
      obtain ⟨j, rfl⟩ : ∃ j : Nat, p = (j : Int) := ⟨p.toNat, by omega⟩
      have hj : j < 512 := by omega
      have hsp := de_spoil h0 hj hx hx0
      have hy8 : (lay s).getD j 0 < 256 := lay_b8 s _ (by rw [List.getD_eq_getElem?_getD, List.getElem?_eq_getElem (by omega)]; exact List.getElem_mem _)
      have hxo := xor8 _ _ hy8 hx
      have h8' : B8 ((lay s).set j ((lay s).getD j 0 ^^^ x)) := fun y hy => by
        rcases List.mem_or_eq_of_mem_set hy with h1 | h1
        · exact lay_b8 s y h1
        · rw [h1]; exact Nat.xor_lt_two_pow (n := 8) (by omega) (by omega)
      have DE := hide fun (w1 : World) (a1 : Option Addr) (c1 : Nat) (h : Bs w1 a1 ((lay s).set j ((lay s).getD j 0 ^^^ x))) (hc : 512 ≤ c1) => Decode_any w1 a1 512 c1 _ h (by rw [List.length_set]; exact hll.symm) (by rw [List.length_set, hll]; exact hc)
      unfold DeQ at DE
      rw [deS_no (by rw [hsp]; decide), hsp] at DE
      have EQ := hide fun (w1 : World) (a1 : Option Addr) (c1 : Nat) => EqSuper_same w1 su0 a1 none c1 0 (.inl rfl) (.inl rfl) (by decide)
      have HLL := hide hll
      have H8 := hide h8'
      have hx0' : (((x : Nat) : Int) == 0) = false := by simpa using hx0
      have hx0'' : ¬ x = 0 := hx0
      have hj0 : decide ((j : Int) < 0) = false := by simp
      have hj5 : decide (512 ≤ j) = false := by simpa using hj
      clear h0 hok hll hsp hN h8' hx0 hp0 hp1
      unfold suv suC su0 at *
      dsimp only [List.length_nil] at *
      generalize lay s = B at *
      go_enter Try.func4, Try.ntmps4
      go_wp2_with fail
      refine (works_any _).mono ?_
      rintro y w1 ⟨rfl, hb⟩
      have HL := hide (bt HA.out hb)
      have HB := hide (HB.out.keep hb)
      clear hb
      go_wp2_with (refine wpList_load_row rfl 28 _ rfl w.heap.size rfl 28 _ (0, 0) _ HB.out Try.underlying28 rfl sizeSuper ?_)
      refine (SP.out _ HL.out).mono ?_
      rintro y w2 ⟨g2, rfl, hS⟩
      have HL := hide (bt HL.out hS.b)
      have J2 := hide hS.js
      clear hS SP
      go_wp2_with fail
      refine (EN.out _ _ _ J2.out).mono ?_
      rintro y w3 ⟨a3, c3, rfl, hO⟩
      have HL2 := HL
      have HL := hide (bt HL.out hO.b)
      obtain ⟨g3, rfl⟩ : ∃ g, a3 = some ⟨g, 0, none⟩ := by
        rcases hO.r.cases with ⟨_, _, h1⟩ | ⟨g, cur, h1, _⟩
        · rw [h1] at HLL; exact absurd HLL.out (by decide)
        · exact ⟨g, h1⟩
      have HW : Hid (w.heap.size ≤ g3) := Nat.le_trans HL2.out.size (hO.fresh rfl)
      have R3 := hide hO.r
      have e0 := hO.r.cell (i := j) (by rw [HLL.out]; exact hj)
      have f0 : w3.frozen? ⟨g3, j, none⟩ = false := by
        rcases hO.r.cases with ⟨h1, _⟩ | ⟨g, cur, h1, hg, _⟩
        · cases h1
        · cases h1; exact frozen_of_row _ _ _ _ _ hg
      have R4 := hide (R3.out.set j (B.getD j 0 ^^^ x))
      have HL4 : Hid (Below w.heap.size w (w3.setCell ⟨g3, j, none⟩ (.int .u8 ((B.getD j 0 ^^^ x : Nat) : Int)))) := ((But.ofBelow (S := fun _ => False) HL.out).setCell (p := ⟨g3, j, none⟩) (fun hp => by have := HW.out; dsimp only at hp; omega) _).below fun _ _ h => h
      have HCP : Hid (512 ≤ c3) := by show _ ≤ _; have := R3.out.cap; rw [HLL.out] at this; exact this
      clear hO EN J2 R3
      generalize hyy : B.getD j 0 = yv at *
      generalize hzz : yv ^^^ x = zv at *
      clear hyy hzz
      go_wp2_with fail
      clear e0 f0
      generalize w3.setCell ⟨g3, j, none⟩ (.int .u8 (zv : Int)) = W4 at *
      refine (DE.out _ _ _ (R4.out.bs H8.out R4.out.len_le) HCP.out).mono ?_
      rintro y w5 ⟨a5, c5, rfl, hO⟩
      have HL := hide (bt HL4.out hO.b)
      clear hO DE
      go_wp2_with fail
      refine (EQ.out _ _ _).mono ?_
      rintro y w6 ⟨rfl, hb⟩
      have HL6 := hide (bt (HL.out.alloc HL.out.size _) hb)
      clear hb
      go_wp2
      go_ret
      exact ⟨rfl, HL6.out⟩
    · clear h0 hok hN
      by_cases h1 : p < 0
      · have h1' : decide (p < 0) = true := by simpa using h1
        clear hcond hll
        unfold suv suC at *
        go_enter Try.func4, Try.ntmps4
        go_wp2_with fail
        refine (works_any _).mono ?_
        rintro y w1 ⟨rfl, hb⟩
        have HL := hide (bt HA.out hb)
        have HB := hide (HB.out.keep hb)
        clear hb
        go_wp2_with (refine wpList_load_row rfl 28 _ rfl w.heap.size rfl 28 _ (0, 0) _ HB.out Try.underlying28 rfl sizeSuper ?_)
        refine (SP.out _ HL.out).mono ?_
        rintro y w2 ⟨g2, rfl, hS⟩
        have HL := hide (bt HL.out hS.b)
        have J2 := hide hS.js
        clear hS SP
        go_wp2_with fail
        refine (EN.out _ _ _ J2.out).mono ?_
        rintro y w3 ⟨a3, c3, rfl, hO⟩
        have HL := hide (bt HL.out hO.b)
        clear hO EN J2
        go_wp2
        go_ret
        exact ⟨rfl, HL.out⟩
      · have h1' : decide (p < 0) = false := by simpa using h1
        by_cases h2 : 512 ≤ p
        · have h2' : decide (512 ≤ p) = true := by simpa using h2
          clear hcond hll
          unfold suv suC at *
          go_enter Try.func4, Try.ntmps4
          go_wp2_with fail
          refine (works_any _).mono ?_
          rintro y w1 ⟨rfl, hb⟩
          have HL := hide (bt HA.out hb)
          have HB := hide (HB.out.keep hb)
          clear hb
          go_wp2_with (refine wpList_load_row rfl 28 _ rfl w.heap.size rfl 28 _ (0, 0) _ HB.out Try.underlying28 rfl sizeSuper ?_)
          refine (SP.out _ HL.out).mono ?_
          rintro y w2 ⟨g2, rfl, hS⟩
          have HL := hide (bt HL.out hS.b)
          have J2 := hide hS.js
          clear hS SP
          go_wp2_with fail
          refine (EN.out _ _ _ J2.out).mono ?_
          rintro y w3 ⟨a3, c3, rfl, hO⟩
          have HL := hide (bt HL.out hO.b)
          clear hO EN J2
          go_wp2
          go_ret
          exact ⟨rfl, HL.out⟩
        · have h2' : decide (512 ≤ p) = false := by simpa using h2
          obtain rfl : x = 0 := Classical.byContradiction fun h => hcond ⟨by omega, by omega, h⟩
          clear hcond hll
          unfold suv suC at *
          go_enter Try.func4, Try.ntmps4
          go_wp2_with fail
          refine (works_any _).mono ?_
          rintro y w1 ⟨rfl, hb⟩
          have HL := hide (bt HA.out hb)
          have HB := hide (HB.out.keep hb)
          clear hb
          go_wp2_with (refine wpList_load_row rfl 28 _ rfl w.heap.size rfl 28 _ (0, 0) _ HB.out Try.underlying28 rfl sizeSuper ?_)
          refine (SP.out _ HL.out).mono ?_
          rintro y w2 ⟨g2, rfl, hS⟩
          have HL := hide (bt HL.out hS.b)
          have J2 := hide hS.js
          clear hS SP
          go_wp2_with fail
          refine (EN.out _ _ _ J2.out).mono ?_
          rintro y w3 ⟨a3, c3, rfl, hO⟩
          have HL := hide (bt HL.out hO.b)
          clear hO EN J2
          go_wp2
          go_ret
          exact ⟨rfl, HL.out⟩
  · rw [enB_no h0] at EN
    have h0' : ((chE s : Int) == 0) = false := by simpa using h0
    have h0'' : ¬ chE s = 0 := h0
    clear h0 hN
    generalize chE s = e at *
    unfold suv suC at *
    go_enter Try.func4, Try.ntmps4
    go_wp2_with fail
    refine (works_any _).mono ?_
    rintro y w1 ⟨rfl, hb⟩
    have HL := hide (bt HA.out hb)
    have HB := hide (HB.out.keep hb)
    clear hb
    go_wp2_with (refine wpList_load_row rfl 28 _ rfl w.heap.size rfl 28 _ (0, 0) _ HB.out Try.underlying28 rfl sizeSuper ?_)
    refine (SP.out _ HL.out).mono ?_
    rintro y w2 ⟨g2, rfl, hS⟩
    have HL := hide (bt HL.out hS.b)
    have J2 := hide hS.js
    clear hS SP
    go_wp2_with fail
    refine (EN.out _ _ _ J2.out).mono ?_
    rintro y w3 ⟨a3, c3, rfl, hO⟩
    have HL := hide (bt HL.out hO.b)
    clear hO EN J2
    go_wp2
    go_ret
    exact ⟨rfl, HL.out⟩
end Go.Proofs.Ytienamijmccjbab
