import Derived.Test.YtlneomgjjkfnoabGreatPOB
namespace Go.Proofs.YtlneomgjjkfnoabGreat
open Go.RowKit

theorem rdN_succ (n : Nat) (c : Ct) (s : RS) : rdN (n + 1) c s = rdPart n (rdN n c s).1 (rdN n c s).2 := rfl
theorem Rc.keep {v wx wy : World} {b cb : Nat} {s : RS} {c : Ct} (h : Rc v wx b cb s c) (hb : Below wx.heap.size wx wy) : Rc v wy b cb s c := by
  obtain ⟨P, h1, h2⟩ := h
  exact ⟨P, h1, h2.keep hb⟩
set_option maxRecDepth 8000 in
set_option maxHeartbeats 3200000 in
theorem read_any (v w : World) (b cb : Nat) (s : RS) (h : Rc v w b cb s Ct.zero) (hc : v.heap.size ≤ cb) :
    Calls Tryz.prog 38 #[.pointer (some ⟨cb, 0, none⟩), .pointer (some ⟨b, 0, none⟩)] w fun e w' => e = .returned (.tuple #[]) ∧ Rc v w' b cb (rdAll s).2 (rdAll s).1 ∧ But (Bc b cb) w w' := by
  have IP := hide (headParts_any w)
  have hb1 := al w (.cells #[.int .i64 0, .int .i64 1, .int .i64 2, .int .i64 3] 3)
  have q1 := Bx.new w 3 #[.int .i64 0, .int .i64 1, .int .i64 2, .int .i64 3]
  have BG0 := hide (show b < w.heap.size ∧ cb < w.heap.size from by obtain ⟨P, _, h2⟩ := h; exact ⟨by have := h2.k.blt; have := h2.k.u.size; omega, h2.c.lt⟩)
  have R1 := hide (h.keep hb1)
  obtain ⟨w1, hw1⟩ : ∃ w1, w.alloc (.cells #[.int .i64 0, .int .i64 1, .int .i64 2, .int .i64 3] 3) = w1 := ⟨_, rfl⟩
  rw [hw1] at hb1 q1 R1
  have HB1 := hide hb1
  have HT := hide fun (wx : World) (hU : But (Bc b cb) w1 wx) => (show wx.cell? ⟨w.heap.size, 0, none⟩ = some (.int .i64 0) ∧ wx.cell? ⟨w.heap.size, 1, none⟩ = some (.int .i64 1) ∧ wx.cell? ⟨w.heap.size, 2, none⟩ = some (.int .i64 2) ∧ wx.cell? ⟨w.heap.size, 3, none⟩ = some (.int .i64 3) from by
    have q := q1.but hU (by have := BG0.out; unfold Bc; omega)
    exact ⟨q.cell 0 rfl, q.cell 1 rfl, q.cell 2 rfl, q.cell 3 rfl⟩)
  have HALL : Hid (rdAll s = rdBody (rdN 4 Ct.zero s).1 (rdN 4 Ct.zero s).2) := rfl
  clear h hb1 q1
  go_enter Tryz.func38, Tryz.ntmps38
  go_wp2_with fail
  refine IP.out.mono ?_
  rintro y w3 ⟨rfl, hw3⟩
  rw [hw1] at hw3
  subst hw3
  clear hw1 IP
  obtain ⟨t0, t1, t2, t3⟩ := HT.out _ (But.refl _ _)
  go_wp2
  go_loopw [5, 10] (fun _ i wx => ∃ k : Nat, k ≤ 4 ∧ i = .int .i64 k ∧ Rc v wx b cb (rdN k Ct.zero s).2 (rdN k Ct.zero s).1 ∧ But (Bc b cb) w3 wx) (fun _ i _ => 4 - (intOf i).toNat)
  case atStart => exact ⟨0, by decide, rfl, R1.out, But.refl _ _⟩
  case round =>
    clear R1 t0 t1 t2 t3
    obtain ⟨k, hk, rfl, hR, hU⟩ := hrel
    obtain ⟨t0, t1, t2, t3⟩ := HT.out _ hU
    have R0 := hide hR
    have HU := hide hU
    clear hR hU
    have hk5 : k = 0 ∨ k = 1 ∨ k = 2 ∨ k = 3 ∨ k = 4 := by omega
    rcases hk5 with rfl | rfl | rfl | rfl | rfl
    · go_wp2_with fail
      refine (readPart_0 v _ b cb _ _ R0.out hc).mono ?_
      rintro y w8 ⟨rfl, h8, hb8⟩
      have R0 := hide h8
      have HU := hide (HU.out.c3 hb8)
      clear h8 hb8
      go_wp2
      go_roundw
      case rel => exact ⟨1, by decide, rfl, R0.out, HU.out⟩
      case measure => decide
    · go_wp2_with fail
      refine (readPart_1 v _ b cb _ _ R0.out hc).mono ?_
      rintro y w8 ⟨rfl, h8, hb8⟩
      have R0 := hide h8
      have HU := hide (HU.out.c3 hb8)
      clear h8 hb8
      go_wp2
      go_roundw
      case rel => exact ⟨2, by decide, rfl, R0.out, HU.out⟩
      case measure => decide
    · go_wp2_with fail
      refine (readPart_2 v _ b cb _ _ R0.out hc).mono ?_
      rintro y w8 ⟨rfl, h8, hb8⟩
      have R0 := hide h8
      have HU := hide (HU.out.c3 hb8)
      clear h8 hb8
      go_wp2
      go_roundw
      case rel => exact ⟨3, by decide, rfl, R0.out, HU.out⟩
      case measure => decide
    · go_wp2_with fail
      refine (readPart_3 v _ b cb _ _ R0.out hc).mono ?_
      rintro y w8 ⟨rfl, h8, hb8⟩
      have R0 := hide h8
      have HU := hide (HU.out.c3 hb8)
      clear h8 hb8
      go_wp2
      go_roundw
      case rel => exact ⟨4, by decide, rfl, R0.out, HU.out⟩
      case measure => decide
    · have HU := hide ((But.ofBelow HB1.out).c3 HU.out)
      generalize (rdN 4 Ct.zero s).1 = CN at *
      generalize (rdN 4 Ct.zero s).2 = SN at *
      obtain ⟨P, hpg, hR⟩ := R0.out
      have HPG := hide hpg
      have HKD : Hid (CN.page.kind = P.kind) := by show _ = _; rw [← hpg]; rfl
      have R0 := hide hR
      obtain ⟨c0, c1, c2, c3, c4, c5, c6⟩ := Bx.ct R0.out.c
      clear hpg hR t0 t1 t2 t3 HT HB1
      generalize P.kind = kd at *
      by_cases hk1 : kd = 1 ∨ kd = 2
      · have hb3 := al wr (.cells #[.int .i64 4] 3)
        have q3 := Bx.new wr 3 #[.int .i64 4]
        obtain ⟨w5, hw5⟩ : ∃ w5, wr.alloc (.cells #[.int .i64 4] 3) = w5 := ⟨_, rfl⟩
        rw [hw5] at hb3 q3
        have R5 := hide (R0.out.keep hb3)
        have U5 := hide (HU.out.andBelow hb3)
        have HB2 := hide hb3
        have Q3 := hide q3
        have BG := hide (show b < wr.heap.size ∧ cb < wr.heap.size from ⟨by have := R0.out.k.blt; have := R0.out.k.u.size; omega, R0.out.c.lt⟩)
        clear hb3 q3
        go_wp2_with fail
        refine (bodyParts_node _ kd hk1).mono ?_
        rintro y w6 ⟨rfl, hw6⟩
        rw [hw5] at hw6
        subst hw6
        clear hw5
        have t4 := Q3.out.cell 0 rfl
        go_wp2
        go_loopw [7, 26] (fun _ i wx => ∃ k : Nat, k ≤ 1 ∧ i = .int .i64 k ∧ (k = 0 ∧ Rc v wx b cb SN CN ∨ k = 1 ∧ Rc v wx b cb (rdPart 4 CN SN).2 (rdPart 4 CN SN).1) ∧ But (Bc b cb) w wx ∧ But (Bc b cb) w6 wx) (fun _ i _ => 1 - (intOf i).toNat)
        case atStart => exact ⟨0, by decide, rfl, .inl ⟨rfl, ⟨_, HPG.out, R5.out⟩⟩, U5.out, But.refl _ _⟩
        case round =>
          clear t4
          obtain ⟨k, hk, rfl, hst, hU1, hU2⟩ := hrel
          have t4 := (Q3.out.but hU2 (by have := BG.out; unfold Bc; omega)).cell 0 rfl
          have U1 := hide hU1
          have U2 := hide hU2
          clear hU1 hU2
          rcases hst with ⟨rfl, hR⟩ | ⟨rfl, hR⟩
          · have RR := hide hR
            clear hR
            go_wp2_with fail
            refine (readPart_4 v _ b cb SN CN RR.out hc).mono ?_
            rintro y w8 ⟨rfl, h8, hb8⟩
            have RR := hide h8
            have U1 := hide (U1.out.c3 hb8)
            have U2 := hide (U2.out.c3 hb8)
            clear h8 hb8
            go_wp2
            go_roundw
            case rel => exact ⟨1, by decide, rfl, .inr ⟨rfl, RR.out⟩, U1.out, U2.out⟩
            case measure => decide
          · have RR := hide hR
            clear hR
            go_wp2
            go_end0
            refine ⟨rfl, ?_, U1.out⟩
            have e : rdBody CN SN = rdPart 4 CN SN := by unfold rdBody; rw [if_pos (by rw [HKD.out]; exact hk1)]
            rw [HALL.out, e]
            exact RR.out
      · by_cases hk3 : kd = 3
        · subst hk3
          have hb3 := al wr (.cells #[.int .i64 9] 3)
          have q3 := Bx.new wr 3 #[.int .i64 9]
          obtain ⟨w5, hw5⟩ : ∃ w5, wr.alloc (.cells #[.int .i64 9] 3) = w5 := ⟨_, rfl⟩
          rw [hw5] at hb3 q3
          have R5 := hide (R0.out.keep hb3)
          have U5 := hide (HU.out.andBelow hb3)
          have HB2 := hide hb3
          have Q3 := hide q3
          have BG := hide (show b < wr.heap.size ∧ cb < wr.heap.size from ⟨by have := R0.out.k.blt; have := R0.out.k.u.size; omega, R0.out.c.lt⟩)
          clear hb3 q3
          go_wp2_with fail
          refine (bodyParts_blob _).mono ?_
          rintro y w6 ⟨rfl, hw6⟩
          rw [hw5] at hw6
          subst hw6
          clear hw5
          have t4 := Q3.out.cell 0 rfl
          go_wp2
          go_loopw [7, 26] (fun _ i wx => ∃ k : Nat, k ≤ 1 ∧ i = .int .i64 k ∧ (k = 0 ∧ Rc v wx b cb SN CN ∨ k = 1 ∧ Rc v wx b cb (rdPart 9 CN SN).2 (rdPart 9 CN SN).1) ∧ But (Bc b cb) w wx ∧ But (Bc b cb) w6 wx) (fun _ i _ => 1 - (intOf i).toNat)
          case atStart => exact ⟨0, by decide, rfl, .inl ⟨rfl, ⟨_, HPG.out, R5.out⟩⟩, U5.out, But.refl _ _⟩
          case round =>
            clear t4
            obtain ⟨k, hk, rfl, hst, hU1, hU2⟩ := hrel
            have t4 := (Q3.out.but hU2 (by have := BG.out; unfold Bc; omega)).cell 0 rfl
            have U1 := hide hU1
            have U2 := hide hU2
            clear hU1 hU2
            rcases hst with ⟨rfl, hR⟩ | ⟨rfl, hR⟩
            · have RR := hide hR
              clear hR
              go_wp2_with fail
              refine (readPart_9 v _ b cb SN CN RR.out hc).mono ?_
              rintro y w8 ⟨rfl, h8, hb8⟩
              have RR := hide h8
              have U1 := hide (U1.out.c3 hb8)
              have U2 := hide (U2.out.c3 hb8)
              clear h8 hb8
              go_wp2
              go_roundw
              case rel => exact ⟨1, by decide, rfl, .inr ⟨rfl, RR.out⟩, U1.out, U2.out⟩
              case measure => decide
            · have RR := hide hR
              clear hR
              go_wp2
              go_end0
              refine ⟨rfl, ?_, U1.out⟩
              have e : rdBody CN SN = rdPart 9 CN SN := by unfold rdBody; rw [if_neg (by rw [HKD.out]; exact hk1), if_pos HKD.out]
              rw [HALL.out, e]
              exact RR.out
        · go_wp2_with fail
          refine (bodyParts_none _ kd (fun h => hk1 (.inl h)) (fun h => hk1 (.inr h)) hk3).mono ?_
          rintro y w6 ⟨rfl, hw6⟩
          obtain rfl := hw6.symm
          go_wp2
          go_loopw [7, 26] (fun _ i wx => i = .int .i64 0 ∧ wx = wr) (fun _ _ _ => 0)
          case atStart => exact ⟨rfl, rfl⟩
          case round =>
            obtain ⟨rfl, rfl⟩ := hrel
            go_wp2
            go_end0
            refine ⟨rfl, ?_, HU.out⟩
            have e : rdBody CN SN = (CN, SN) := by unfold rdBody; rw [if_neg (by rw [HKD.out]; exact hk1), if_neg (by rw [HKD.out]; exact hk3)]
            rw [HALL.out, e]
            exact ⟨_, HPG.out, R0.out⟩
end Go.Proofs.YtlneomgjjkfnoabGreat
