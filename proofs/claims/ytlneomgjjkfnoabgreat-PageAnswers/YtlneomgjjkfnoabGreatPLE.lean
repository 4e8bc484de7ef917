import Derived.Test.YtlneomgjjkfnoabGreatPLX
import Derived.Test.YtlneomgjjkfnoabGreatPI
namespace Go.Proofs.YtlneomgjjkfnoabGreat
open Go.RowKit

theorem partB_len (no gen : Int) (p : Pg) : (partB no gen p 0).length = 1 ∧ (partB no gen p 1).length = 1 ∧ (partB no gen p 2).length = 4 ∧ (partB no gen p 3).length = 8 := by
  refine ⟨?_, ?_, ?_, ?_⟩ <;> simp [partB, numB_length]
theorem tail_node {p : Pg} (hk : p.kind = 1 ∨ p.kind = 2) (no gen : Int) : p.tail = partB no gen p 4 := by
  unfold Pg.tail partB
  rw [if_neg (by omega)]
  simp
theorem tail_blob {p : Pg} (hk : p.kind = 3) (no gen : Int) : p.tail = partB no gen p 9 := by
  unfold Pg.tail partB
  rw [if_pos hk]
  simp
theorem body_parts (no gen : Int) (p : Pg) : body no gen p = partB no gen p 0 ++ partB no gen p 1 ++ partB no gen p 2 ++ partB no gen p 3 ++ p.tail := by
  unfold body
  simp [partB]
theorem tags4 {v w2 w3 : World} {G : Nat → Prop} {b g : Nat} {l : List Nat} (hd : Dk v G w2 w3 b l) (q : Bx w2 3 g #[.int .i64 0, .int .i64 1, .int .i64 2, .int .i64 3]) (hG : G g) : w3.cell? ⟨g, 0, none⟩ = some (.int .i64 0) ∧ w3.cell? ⟨g, 1, none⟩ = some (.int .i64 1) ∧ w3.cell? ⟨g, 2, none⟩ = some (.int .i64 2) ∧ w3.cell? ⟨g, 3, none⟩ = some (.int .i64 3) :=
  ⟨Bx.cell (hd.box q hG) 0 rfl, Bx.cell (hd.box q hG) 1 rfl, Bx.cell (hd.box q hG) 2 rfl, Bx.cell (hd.box q hG) 3 rfl⟩
set_option maxRecDepth 8000 in
set_option maxHeartbeats 3200000 in
theorem write_any (v w : World) (b : Nat) (no gen : Int) (p : Pv) (h : Wk v (fun _ => False) w b []) (hW : Wd v no gen p) :
    Calls Tryz.prog 35 #[.agg (ctc no gen p), .pointer (some ⟨b, 0, none⟩)] w fun y w' => y = .returned (.tuple #[]) ∧ Wk v (fun _ => False) w' b (body no gen p.pg) := by
  obtain ⟨L0, L1, L2, L3⟩ := partB_len no gen p.pg
  have hT := hW.s.tail_le
  have HBP := hide (body_parts no gen p.pg)
  have HTN := hide (fun (hk : p.kind = 1 ∨ p.kind = 2) => tail_node (p := p.pg) hk no gen)
  have HTB := hide (fun (hk : p.kind = 3) => tail_blob (p := p.pg) hk no gen)
  have W0 := hide fun (w1 : World) (G : Nat → Prop) (l : List Nat) (h : Wk v G w1 b l) (hG : Gl G w1) => writePart_0 v w1 G b l no gen p h hG hW
  have W1 := hide fun (w1 : World) (G : Nat → Prop) (l : List Nat) (h : Wk v G w1 b l) (hG : Gl G w1) => writePart_1 v w1 G b l no gen p h hG hW
  have W2 := hide fun (w1 : World) (G : Nat → Prop) (l : List Nat) (h : Wk v G w1 b l) (hG : Gl G w1) => writePart_2 v w1 G b l no gen p h hG hW
  have W3 := hide fun (w1 : World) (G : Nat → Prop) (l : List Nat) (h : Wk v G w1 b l) (hG : Gl G w1) => writePart_3 v w1 G b l no gen p h hG hW
  have W4 := hide fun (hk : p.kind = 1 ∨ p.kind = 2) (w1 : World) (G : Nat → Prop) (l : List Nat) (h : Wk v G w1 b l) (hG : Gl G w1) => writePart_4 v w1 G b l no gen p h hG hW hk
  have W9 := hide fun (hk : p.kind = 3) (w1 : World) (G : Nat → Prop) (l : List Nat) (h : Wk v G w1 b l) (hG : Gl G w1) => writePart_9 v w1 G b l no gen p h hG hW hk
  have HKD := hide (Pg.kindOk_iff.1 hW.s.k)
  have hpk : p.pg.kind = p.kind := rfl
  rw [hpk] at HKD
  clear hpk hW
  have hb2 := bt (al w (.cells (ctc no gen p) 62)) (al (w.alloc (.cells (ctc no gen p) 62)) (.cells #[.int .i64 0, .int .i64 1, .int .i64 2, .int .i64 3] 3))
  obtain ⟨q1, q2⟩ := bx2 w 62 3 (ctc no gen p) #[.int .i64 0, .int .i64 1, .int .i64 2, .int .i64 3]
  have IP := hide (headParts_any (w.alloc (.cells (ctc no gen p) 62)))
  rw [size_alloc] at IP
  have hsz : ((w.alloc (.cells (ctc no gen p) 62)).alloc (.cells #[.int .i64 0, .int .i64 1, .int .i64 2, .int .i64 3] 3)).heap.size = w.heap.size + 2 := by rw [size_alloc, size_alloc]
  obtain ⟨G', hG'⟩ : ∃ G' : Nat → Prop, G' = fun k => k = w.heap.size ∨ k = w.heap.size + 1 := ⟨_, rfl⟩
  obtain ⟨w2, hw2⟩ : ∃ w2, (w.alloc (.cells (ctc no gen p) 62)).alloc (.cells #[.int .i64 0, .int .i64 1, .int .i64 2, .int .i64 3] 3) = w2 := ⟨_, rfl⟩
  rw [hw2] at q1 q2 hb2 hsz
  have D0 := hide (Dk.refl (h.more hb2 G' (by subst hG'; exact fun k hk => .inr (by omega))))
  have HGL : Hid (Gl G' w2) := by subst hG'; exact fun k hk => by omega
  have HQ := hide (fun (w3 : World) (l' : List Nat) (hd : Dk v G' w2 w3 b l') => Bx.ct (hd.box q1 (by subst hG'; exact .inl rfl)))
  have HT := hide (fun (w3 : World) (l' : List Nat) (hd : Dk v G' w2 w3 b l') => tags4 hd q2 (by subst hG'; exact .inr rfl))
  have HB := hide (fun (w3 : World) (l' : List Nat) (hd : Dk v G' w2 w3 b l') => (show Bx w3 62 w.heap.size (ctc no gen p) from hd.box q1 (by subst hG'; exact .inl rfl)))
  have HK2 := hide fun (G2 : Nat → Prop) (w3 : World) (l' : List Nat) (hd : Wk v G2 w3 b l') => (show Wk v (fun _ => False) w3 b l' from by obtain ⟨h1, a, cap, h2, h3⟩ := hd; exact ⟨h1, a, cap, h2, fun k hk => ⟨(h3 k hk).1, id⟩⟩)
  have HG1 : Hid (G' w.heap.size) := by subst hG'; exact .inl rfl
  clear h hb2 hsz q1 q2 hG'
  generalize p.pg.tail = PT at *
  generalize partB no gen p.pg 0 = P0 at *
  generalize partB no gen p.pg 1 = P1 at *
  generalize partB no gen p.pg 2 = P2 at *
  generalize partB no gen p.pg 3 = P3 at *
  generalize hp4 : partB no gen p.pg 4 = P4 at *
  generalize hp9 : partB no gen p.pg 9 = P9 at *
  clear hp4 hp9
  generalize body no gen p.pg = BD at *
  obtain ⟨kind, level, aI, cI, items, aD, cD, data, next⟩ := p
  simp only [ctc] at *
  go_enter Tryz.func35, Tryz.ntmps35
  go_wp2_with fail
  refine IP.out.mono ?_
  rintro y w3 ⟨rfl, hw3⟩
  rw [hw2] at hw3
  subst hw3
  clear hw2 IP
  obtain ⟨c0, c1, c2, c3, c4, c5, c6⟩ := HQ.out _ _ D0.out
  obtain ⟨t0, t1, t2, t3⟩ := HT.out _ _ D0.out
  go_wp2
  go_loopw [5, 10] (fun _ i wx => ∃ (k : Nat) (l' : List Nat), k ≤ 4 ∧ i = .int .i64 k ∧ (k = 0 ∧ l' = [] ∨ k = 1 ∧ l' = [] ++ P0 ∨ k = 2 ∧ l' = [] ++ P0 ++ P1 ∨ k = 3 ∧ l' = [] ++ P0 ++ P1 ++ P2 ∨ k = 4 ∧ l' = [] ++ P0 ++ P1 ++ P2 ++ P3) ∧ Dk v G' w3 wx b l') (fun _ i _ => 4 - (intOf i).toNat)
  case atStart => exact ⟨0, [], by decide, rfl, .inl ⟨rfl, rfl⟩, D0.out⟩
  case round =>
    clear D0 c0 c1 c2 c3 c4 c5 c6 t0 t1 t2 t3
    obtain ⟨k, l', hk, rfl, hl2, hd⟩ := hrel
    have D0 := hide hd
    obtain ⟨c0, c1, c2, c3, c4, c5, c6⟩ := HQ.out _ _ D0.out
    obtain ⟨t0, t1, t2, t3⟩ := HT.out _ _ D0.out
    clear hd
    rcases hl2 with ⟨rfl, rfl⟩ | ⟨rfl, rfl⟩ | ⟨rfl, rfl⟩ | ⟨rfl, rfl⟩ | ⟨rfl, rfl⟩
    · go_wp2_with (go_at_call 58; refine (W0.out _ _ _ D0.out.k (D0.out.gl HGL.out) (by first | omega | (simp; omega))).mono ?_; rintro y w4 ⟨rfl, hd⟩; have D0 := hide (D0.out.trans hd); clear hd)
      go_roundw
      case rel => exact ⟨1, _, by decide, rfl, .inr (.inl ⟨rfl, rfl⟩), D0.out⟩
      case measure => decide
    · go_wp2_with (go_at_call 58; refine (W1.out _ _ _ D0.out.k (D0.out.gl HGL.out) (by first | omega | (simp; omega))).mono ?_; rintro y w4 ⟨rfl, hd⟩; have D0 := hide (D0.out.trans hd); clear hd)
      go_roundw
      case rel => exact ⟨2, _, by decide, rfl, .inr (.inr (.inl ⟨rfl, rfl⟩)), D0.out⟩
      case measure => decide
    · go_wp2_with (go_at_call 58; refine (W2.out _ _ _ D0.out.k (D0.out.gl HGL.out) (by first | omega | (simp; omega))).mono ?_; rintro y w4 ⟨rfl, hd⟩; have D0 := hide (D0.out.trans hd); clear hd)
      go_roundw
      case rel => exact ⟨3, _, by decide, rfl, .inr (.inr (.inr (.inl ⟨rfl, rfl⟩))), D0.out⟩
      case measure => decide
    · go_wp2_with (go_at_call 58; refine (W3.out _ _ _ D0.out.k (D0.out.gl HGL.out) (by first | omega | (simp; omega))).mono ?_; rintro y w4 ⟨rfl, hd⟩; have D0 := hide (D0.out.trans hd); clear hd)
      go_roundw
      case rel => exact ⟨4, _, by decide, rfl, .inr (.inr (.inr (.inr ⟨rfl, rfl⟩))), D0.out⟩
      case measure => decide
    · have HLN : Hid (([] ++ P0 ++ P1 ++ P2 ++ P3).length = 14) := by show _ = _; simp only [List.length_append, List.length_nil]; omega
      rcases HKD.out with hk1 | hk1 | hk1
      · subst hk1
        have WP := hide (W4.out (.inl rfl))
        have HE := hide (HTN.out (.inl rfl))
        have hb3 := al wr (.cells #[.int .i64 4] 3)
        have D1 := hide (Dk.refl (D0.out.k.more hb3 (fun k => k = w.heap.size ∨ k = wr.heap.size) (fun k hk => hk.elim (fun h => .inl (h ▸ HG1.out)) (fun h => .inr (by omega)))))
        have HGM : Hid (Gl (fun k => k = w.heap.size ∨ k = wr.heap.size) (wr.alloc (.cells #[.int .i64 4] 3))) := fun k hk => by have := D0.out.gl HGL.out w.heap.size HG1.out; rw [size_alloc]; omega
        have HQ2 := hide fun (w5 : World) (l5 : List Nat) (hd : Dk v (fun k => k = w.heap.size ∨ k = wr.heap.size) (wr.alloc (.cells #[.int .i64 4] 3)) w5 b l5) => (show (w5.cell? ⟨w.heap.size, 0, none⟩ = _ ∧ _) ∧ w5.cell? ⟨wr.heap.size, 0, none⟩ = some (.int .i64 4) from ⟨Bx.ct (no := no) (gen := gen) (p := ⟨1, level, aI, cI, items, aD, cD, data, next⟩) (hd.box ((HB.out _ _ D0.out).keep hb3) (.inl rfl)), Bx.cell (hd.box (Bx.new wr 3 #[.int .i64 4]) (.inr rfl)) 0 rfl⟩)
        obtain ⟨w5, hw5⟩ : ∃ w5, wr.alloc (.cells #[.int .i64 4] 3) = w5 := ⟨_, rfl⟩
        rw [hw5] at D1 HGM HQ2 hb3
        simp only at HQ2
        go_wp2_with fail
        refine (bodyParts_node _ 1 (.inl rfl)).mono ?_
        rintro y w6 ⟨rfl, hw6⟩
        rw [hw5] at hw6
        subst hw6
        clear hw5
        obtain ⟨⟨e0, e1, e2, e3, e4, e5, e6⟩, t4⟩ := HQ2.out _ _ D1.out
        go_wp2
        go_loopw [7, 24] (fun _ i wx => ∃ (k : Nat) (l' : List Nat), k ≤ 1 ∧ i = .int .i64 k ∧ (k = 0 ∧ l' = [] ++ P0 ++ P1 ++ P2 ++ P3 ∨ k = 1 ∧ l' = [] ++ P0 ++ P1 ++ P2 ++ P3 ++ P4) ∧ Dk v (fun k => k = w.heap.size ∨ k = wr.heap.size) w6 wx b l') (fun _ i _ => 1 - (intOf i).toNat)
        case atStart => exact ⟨0, _, by decide, rfl, .inl ⟨rfl, rfl⟩, D1.out⟩
        case round =>
          clear D1 e0 e1 e2 e3 e4 e5 e6 t4
          obtain ⟨k, l', hk, rfl, hl2, hd⟩ := hrel
          have D1 := hide hd
          obtain ⟨⟨e0, e1, e2, e3, e4, e5, e6⟩, t4⟩ := HQ2.out _ _ D1.out
          clear hd
          rcases hl2 with ⟨rfl, rfl⟩ | ⟨rfl, rfl⟩
          · go_wp2_with (go_at_call 58; refine (WP.out _ _ _ D1.out.k (D1.out.gl HGM.out) (by have := HLN.out; have := HE.out; subst this; omega)).mono ?_; rintro y w4 ⟨rfl, hd⟩; have D1 := hide (D1.out.trans hd); clear hd)
            go_roundw
            case rel => exact ⟨1, _, by decide, rfl, .inr ⟨rfl, rfl⟩, D1.out⟩
            case measure => decide
          · go_wp2
            go_end0
            exact ⟨rfl, by rw [HBP.out, HE.out]; have := HK2.out _ _ _ D1.out.k; simpa using this⟩
      · subst hk1
        have WP := hide (W4.out (.inr rfl))
        have HE := hide (HTN.out (.inr rfl))
        have hb3 := al wr (.cells #[.int .i64 4] 3)
        have D1 := hide (Dk.refl (D0.out.k.more hb3 (fun k => k = w.heap.size ∨ k = wr.heap.size) (fun k hk => hk.elim (fun h => .inl (h ▸ HG1.out)) (fun h => .inr (by omega)))))
        have HGM : Hid (Gl (fun k => k = w.heap.size ∨ k = wr.heap.size) (wr.alloc (.cells #[.int .i64 4] 3))) := fun k hk => by have := D0.out.gl HGL.out w.heap.size HG1.out; rw [size_alloc]; omega
        have HQ2 := hide fun (w5 : World) (l5 : List Nat) (hd : Dk v (fun k => k = w.heap.size ∨ k = wr.heap.size) (wr.alloc (.cells #[.int .i64 4] 3)) w5 b l5) => (show (w5.cell? ⟨w.heap.size, 0, none⟩ = _ ∧ _) ∧ w5.cell? ⟨wr.heap.size, 0, none⟩ = some (.int .i64 4) from ⟨Bx.ct (no := no) (gen := gen) (p := ⟨2, level, aI, cI, items, aD, cD, data, next⟩) (hd.box ((HB.out _ _ D0.out).keep hb3) (.inl rfl)), Bx.cell (hd.box (Bx.new wr 3 #[.int .i64 4]) (.inr rfl)) 0 rfl⟩)
        obtain ⟨w5, hw5⟩ : ∃ w5, wr.alloc (.cells #[.int .i64 4] 3) = w5 := ⟨_, rfl⟩
        rw [hw5] at D1 HGM HQ2 hb3
        simp only at HQ2
        go_wp2_with fail
        refine (bodyParts_node _ 2 (.inr rfl)).mono ?_
        rintro y w6 ⟨rfl, hw6⟩
        rw [hw5] at hw6
        subst hw6
        clear hw5
        obtain ⟨⟨e0, e1, e2, e3, e4, e5, e6⟩, t4⟩ := HQ2.out _ _ D1.out
        go_wp2
        go_loopw [7, 24] (fun _ i wx => ∃ (k : Nat) (l' : List Nat), k ≤ 1 ∧ i = .int .i64 k ∧ (k = 0 ∧ l' = [] ++ P0 ++ P1 ++ P2 ++ P3 ∨ k = 1 ∧ l' = [] ++ P0 ++ P1 ++ P2 ++ P3 ++ P4) ∧ Dk v (fun k => k = w.heap.size ∨ k = wr.heap.size) w6 wx b l') (fun _ i _ => 1 - (intOf i).toNat)
        case atStart => exact ⟨0, _, by decide, rfl, .inl ⟨rfl, rfl⟩, D1.out⟩
        case round =>
          clear D1 e0 e1 e2 e3 e4 e5 e6 t4
          obtain ⟨k, l', hk, rfl, hl2, hd⟩ := hrel
          have D1 := hide hd
          obtain ⟨⟨e0, e1, e2, e3, e4, e5, e6⟩, t4⟩ := HQ2.out _ _ D1.out
          clear hd
          rcases hl2 with ⟨rfl, rfl⟩ | ⟨rfl, rfl⟩
          · go_wp2_with (go_at_call 58; refine (WP.out _ _ _ D1.out.k (D1.out.gl HGM.out) (by have := HLN.out; have := HE.out; subst this; omega)).mono ?_; rintro y w4 ⟨rfl, hd⟩; have D1 := hide (D1.out.trans hd); clear hd)
            go_roundw
            case rel => exact ⟨1, _, by decide, rfl, .inr ⟨rfl, rfl⟩, D1.out⟩
            case measure => decide
          · go_wp2
            go_end0
            exact ⟨rfl, by rw [HBP.out, HE.out]; have := HK2.out _ _ _ D1.out.k; simpa using this⟩
      · subst hk1
        have WP := hide (W9.out rfl)
        have HE := hide (HTB.out rfl)
        have hb3 := al wr (.cells #[.int .i64 9] 3)
        have D1 := hide (Dk.refl (D0.out.k.more hb3 (fun k => k = w.heap.size ∨ k = wr.heap.size) (fun k hk => hk.elim (fun h => .inl (h ▸ HG1.out)) (fun h => .inr (by omega)))))
        have HGM : Hid (Gl (fun k => k = w.heap.size ∨ k = wr.heap.size) (wr.alloc (.cells #[.int .i64 9] 3))) := fun k hk => by have := D0.out.gl HGL.out w.heap.size HG1.out; rw [size_alloc]; omega
        have HQ2 := hide fun (w5 : World) (l5 : List Nat) (hd : Dk v (fun k => k = w.heap.size ∨ k = wr.heap.size) (wr.alloc (.cells #[.int .i64 9] 3)) w5 b l5) => (show (w5.cell? ⟨w.heap.size, 0, none⟩ = _ ∧ _) ∧ w5.cell? ⟨wr.heap.size, 0, none⟩ = some (.int .i64 9) from ⟨Bx.ct (no := no) (gen := gen) (p := ⟨3, level, aI, cI, items, aD, cD, data, next⟩) (hd.box ((HB.out _ _ D0.out).keep hb3) (.inl rfl)), Bx.cell (hd.box (Bx.new wr 3 #[.int .i64 9]) (.inr rfl)) 0 rfl⟩)
        obtain ⟨w5, hw5⟩ : ∃ w5, wr.alloc (.cells #[.int .i64 9] 3) = w5 := ⟨_, rfl⟩
        rw [hw5] at D1 HGM HQ2 hb3
        simp only at HQ2
        go_wp2_with fail
        refine (bodyParts_blob _).mono ?_
        rintro y w6 ⟨rfl, hw6⟩
        rw [hw5] at hw6
        subst hw6
        clear hw5
        obtain ⟨⟨e0, e1, e2, e3, e4, e5, e6⟩, t4⟩ := HQ2.out _ _ D1.out
        go_wp2
        go_loopw [7, 24] (fun _ i wx => ∃ (k : Nat) (l' : List Nat), k ≤ 1 ∧ i = .int .i64 k ∧ (k = 0 ∧ l' = [] ++ P0 ++ P1 ++ P2 ++ P3 ∨ k = 1 ∧ l' = [] ++ P0 ++ P1 ++ P2 ++ P3 ++ P9) ∧ Dk v (fun k => k = w.heap.size ∨ k = wr.heap.size) w6 wx b l') (fun _ i _ => 1 - (intOf i).toNat)
        case atStart => exact ⟨0, _, by decide, rfl, .inl ⟨rfl, rfl⟩, D1.out⟩
        case round =>
          clear D1 e0 e1 e2 e3 e4 e5 e6 t4
          obtain ⟨k, l', hk, rfl, hl2, hd⟩ := hrel
          have D1 := hide hd
          obtain ⟨⟨e0, e1, e2, e3, e4, e5, e6⟩, t4⟩ := HQ2.out _ _ D1.out
          clear hd
          rcases hl2 with ⟨rfl, rfl⟩ | ⟨rfl, rfl⟩
          · go_wp2_with (go_at_call 58; refine (WP.out _ _ _ D1.out.k (D1.out.gl HGM.out) (by have := HLN.out; have := HE.out; subst this; omega)).mono ?_; rintro y w4 ⟨rfl, hd⟩; have D1 := hide (D1.out.trans hd); clear hd)
            go_roundw
            case rel => exact ⟨1, _, by decide, rfl, .inr ⟨rfl, rfl⟩, D1.out⟩
            case measure => decide
          · go_wp2
            go_end0
            exact ⟨rfl, by rw [HBP.out, HE.out]; have := HK2.out _ _ _ D1.out.k; simpa using this⟩
end Go.Proofs.YtlneomgjjkfnoabGreat
