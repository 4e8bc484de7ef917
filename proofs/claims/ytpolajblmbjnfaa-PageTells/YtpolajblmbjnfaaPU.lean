import Derived.Test.YtpolajblmbjnfaaPQD
import Derived.Test.YtpolajblmbjnfaaPQE
import Derived.Test.YtpolajblmbjnfaaPT
import Derived.BigRegion
namespace Go.Proofs.Ytpolajblmbjnfaa
open Go.ChangeShapes Go.WideShapes Go.ChangeAt Go.RowKit

/-- a block whose first cells are the bytes of c -/
def OwnB (w : World) (g : Nat) (c : List Nat) : Prop := ∃ cur, w.heap[g]? = some (.cells cur 5 (0, 0)) ∧ ∀ i, i < c.length → cur[i]? = some (.int .u8 ((c.getD i 0 : Nat) : Int))
theorem OwnB.cell {w : World} {g : Nat} {c : List Nat} (h : OwnB w g c) {i : Nat} (hi : i < c.length) : w.cell? ⟨g, i, none⟩ = some (.int .u8 ((c.getD i 0 : Nat) : Int)) := by
  obtain ⟨cur, hg, hc⟩ := h
  rw [cell_of_row _ _ _ _ _ _ hg, hc i hi]
theorem OwnB.frozen {w : World} {g : Nat} {c : List Nat} (h : OwnB w g c) (i : Nat) : w.frozen? ⟨g, i, none⟩ = false := by
  obtain ⟨cur, hg, hc⟩ := h
  exact frozen_of_row w g i _ _ hg
theorem OwnB.set {w : World} {g : Nat} {c : List Nat} (h : OwnB w g c) {i : Nat} (hi : i < c.length) (v : Nat) : OwnB (w.setCell ⟨g, i, none⟩ (.int .u8 (v : Int))) g (c.set i v) := by
  obtain ⟨cur, hg, hc⟩ := h
  refine ⟨_, heap_setCell_same w g i _ _ _ hg, ?_⟩
  intro j hj
  rw [List.length_set] at hj
  have hsz : i < cur.size := by
    have := hc i hi
    exact (Array.getElem?_eq_some_iff.1 this).1
  rw [Array.getElem?_setIfInBounds]
  by_cases e : i = j
  · subst e; simp [hsz, hi]
  · simp [e, hc j hj]
theorem OwnB.drew {w : World} {g : Nat} {c : List Nat} (h : OwnB w g c) : OwnB w.drew g c := h
theorem OwnB.bs {w : World} {g : Nat} {c : List Nat} (h : OwnB w g c) (hl : ∀ x ∈ c, x < 256) (hlen : c.length ≤ 9223372036854775807) : Bs w (some ⟨g, 0, none⟩) c :=
  ⟨hl, hlen, .inr ⟨g, 0, rfl, fun i hi => by rw [Nat.zero_add]; exact h.cell hi⟩⟩
theorem xor8 (a b : Nat) (ha : a < 256) (hb : b < 256) : bits .xor .u8 (a : Int) (b : Int) = ((a ^^^ b : Nat) : Int) := u8_xor_nat a b ha hb

theorem set_lt {c : List Nat} {i v : Nat} (hc : ∀ x ∈ c, x < 256) (hv : v < 256) : ∀ x ∈ c.set i v, x < 256 := fun x hx => by
  rcases List.mem_or_eq_of_mem_set hx with h | h
  · exact hc x h
  · omega

theorem pow8_lt {j : Nat} (h : j < 8) : 2 ^ j < 256 := Nat.pow_lt_pow_right (n := 8) (by decide) h
theorem xor_lt8 {x j : Nat} (hx : x < 256) (hj : j < 8) : x ^^^ 2 ^ j < 256 := Nat.xor_lt_two_pow (n := 8) hx (pow8_lt hj)
theorem xor_pow8 (x j : Nat) (hx : x < 256) (hj : j < 8) : bits .xor .u8 (x : Int) (2 ^ j % 256) = ((x ^^^ 2 ^ j : Nat) : Int) := by
  have hp := pow8_lt hj
  have e : (2 : Int) ^ j % 256 = ((2 ^ j : Nat) : Int) := by
    have e1 : (2 : Int) ^ j = ((2 ^ j : Nat) : Int) := by simp
    rw [e1]
    generalize 2 ^ j = n at hp
    omega
  rw [e]
  exact xor8 x _ hx hp
theorem tst_odd {s k : Nat} (h : s / 2 ^ k % 2 = 1) : (((s : Int) / 2 ^ k).tmod 2 == 0) = false := by
  have e : ((s : Int) / 2 ^ k) = ((s / 2 ^ k : Nat) : Int) := by simp
  rw [e, Int.tmod_eq_emod_of_nonneg (Int.natCast_nonneg _), beq_eq_false_iff_ne]; omega
theorem tst_even {s k : Nat} (h : ¬ s / 2 ^ k % 2 = 1) : (((s : Int) / 2 ^ k).tmod 2 == 0) = true := by
  have e : ((s : Int) / 2 ^ k) = ((s / 2 ^ k : Nat) : Int) := by simp
  rw [e, Int.tmod_eq_emod_of_nonneg (Int.natCast_nonneg _), beq_iff_eq]; omega

theorem Rw.ownB {w : World} {a : Option Addr} {cap : Nat} {l : List Nat} (h : Rw w a cap l) (h0 : l.length = 512) : ∃ g, a = some ⟨g, 0, none⟩ ∧ OwnB w g l := by
  rcases h.cases with ⟨_, _, rfl⟩ | ⟨g, cur, rfl, hg, _, _, _, ht⟩
  · simp at h0
  · refine ⟨g, rfl, cur, hg, fun i hi => ?_⟩
    have e1 : (cur.toList.take l.length)[i]? = (vb l)[i]? := by rw [ht]
    rw [List.getElem?_take, if_pos (by omega)] at e1
    have e2 : (vb l)[i]? = some (.int .u8 ((l.getD i 0 : Nat) : Int)) := by simp [vb, hi]
    rw [← e2, ← e1]
    simp
theorem Bx.other {w : World} {t : TypeId} {g : Nat} {cs : Array Value} (h : Bx w t g cs) {a : Addr} (hn : g ≠ a.block) (v : Value) : Bx (w.setCell a v) t g cs := (heap_setCell_other w a g v hn).trans h
theorem Bx.drew {w : World} {t : TypeId} {g : Nat} {cs : Array Value} (h : Bx w t g cs) : Bx w.drew t g cs := h
theorem odd1 {s k : Nat} (h : s / 2 ^ k % 2 = 1) : (((s : Int) / 2 ^ k).tmod 2 == 1) = true := by
  have e : ((s : Int) / 2 ^ k) = ((s / 2 ^ k : Nat) : Int) := by simp
  rw [e, Int.tmod_eq_emod_of_nonneg (Int.natCast_nonneg _), beq_iff_eq]; omega
theorem even1 {s k : Nat} (h : ¬ s / 2 ^ k % 2 = 1) : (((s : Int) / 2 ^ k).tmod 2 == 1) = false := by
  have e : ((s : Int) / 2 ^ k) = ((s / 2 ^ k : Nat) : Int) := by simp
  rw [e, Int.tmod_eq_emod_of_nonneg (Int.natCast_nonneg _), beq_eq_false_iff_ne]; omega
theorem dec_told {no : Int} {l c : List Nat} {N bits : Nat} (h : decE no l = 0) (h8 : B8 l) (c8 : B8 c) (hcl : c.length = 512) (hb : bits < 4294967296) (h0 : bits ≠ 0) (hon : M.on M.F c = M.on M.F l ^^^ M.st N bits) : decE no c = 6 := by
  obtain ⟨h1, h2, h3, _, _⟩ := decE_zero h
  have hne := M.tells l c N bits hb h0 hon
  unfold decE
  rw [if_neg (by rw [h1]; simp), if_neg (by rw [hcl]; simp), if_pos]
  intro h4
  exact hne ((own_of h8 h2 h3).trans (own_of c8 hcl h4).symm)
set_option maxRecDepth 100000 in
set_option maxHeartbeats 4000000 in
theorem ptells_loop (w : World) (no : Int) (a : Option Addr) (cap : Nat) (l : List Nat) (f bits : Nat) (hB : Bs w a l) (hC : l.length ≤ cap) (hf : f ≤ 9223372036854775807) (hb : bits < 4294967296) (hb0 : bits ≠ 0) (hz : decE no l = 0) :
    Calls Try.prog 8 #[.int .i64 no, .slice a l.length cap, .agg #[.int .i64 f, .int .u32 bits]] w fun e w' => e = .returned (.bool true) ∧ Below w.heap.size w w' := by
  have hl : l.length = 512 := (decE_zero hz).2.1
  have HB := hide hB
  have DE := hide fun (w1 : World) (hb : Below w.heap.size w w1) => Decode_any w1 no a 512 cap l (hB.keep hb) hl.symm hC
  have DC := hide fun (w1 : World) (a1 : Option Addr) (c1 : Nat) (c : List Nat) (h : Bs w1 a1 c) (h1 : c.length = 512) (h2 : 512 ≤ c1) => Decode_any w1 no a1 512 c1 c h h1.symm (by omega)
  have CB := hide fun (w1 : World) (hb : Below w.heap.size w w1) => CopyBytes_any w1 a 512 cap l (hB.keep hb) hl.symm (by omega)
  have FX := hide (fixed_any (w.alloc (.cells #[.int .i64 f, .int .u32 bits] 40)))
  have A0 := hide (al w (.cells #[.int .i64 f, .int .u32 bits] 40))
  have CP := hide fun (w1 : World) (hb : Below (w.alloc (.cells #[.int .i64 f, .int .u32 bits] 40)).heap.size (w.alloc (.cells #[.int .i64 f, .int .u32 bits] 40)) w1) => (Bx.new w 40 #[.int .i64 f, .int .u32 bits]).keep hb
  have TL := hide fun (c : List Nat) (N : Nat) (c8 : B8 c) (hcl : c.length = 512) hon => dec_told (N := N) hz hB.1 c8 hcl hb hb0 hon
  have HZ := hide hz
  have hbt : ((bits : Int) == 0) = false := by rw [beq_eq_false_iff_ne]; omega
  have hfd : decide ((f : Int) < 0) = false := by simp
  rw [hl]
  clear hB hC hz
  go_enter Try.func8, Try.ntmps8
  go_wp2_with fail
  refine FX.out.mono ?_
  rintro e w1 ⟨rfl, hb1⟩
  have B1 := hide (bt A0.out hb1)
  have D1 := hide (DE.out w1 B1.out)
  have CP1 := hide fun (w2 : World) (hb : Below w1.heap.size w1 w2) => CP.out w2 (bt hb1 hb)
  clear FX CP hb1 A0 DE
  go_wp2_with fail
  refine D1.out.mono ?_
  rintro y w3 ⟨Q, rfl, hQ, hpn, hql, hb3⟩
  rw [HZ.out]
  have B3 := hide (bt B1.out (bt hb3 (al w3 (.cells Q.cs 25))))
  have CP3 := hide fun (w2 : World) (hb : Below (w3.alloc (.cells Q.cs 25)).heap.size (w3.alloc (.cells Q.cs 25)) w2) => CP1.out w2 (bt hb3 (bt (al _ _) hb))
  clear hQ hpn hql hb3 HZ D1 CP1 B1
  generalize decG no l = gn at *
  obtain ⟨kind, level, aI, cI, items, aD, cD, data, next⟩ := Q
  simp only [Pv.cs, Pv.vl] at *
  have t0 := (CP3.out _ (Below.refl _ _)).cell 0 rfl
  have t1 := (CP3.out _ (Below.refl _ _)).cell 1 rfl
  go_wp2_with fail
  refine (CB.out _ B3.out).mono ?_
  rintro e w4 ⟨a4, c4, rfl, r4, n4, b4⟩
  obtain ⟨g, rfl, hO⟩ := r4.ownB hl
  have hg' : w.heap.size < g := by
    have h1 := B3.out.size
    rcases n4 _ rfl with ⟨y, hy, _⟩ | h4
    · cases hy
    · have h5 := (CP3.out _ (Below.refl _ _)).lt
      exact Nat.lt_of_lt_of_le h5 h4
  have hbel := bt B3.out b4
  have T4 := CP3.out _ b4
  have hc4 : 512 ≤ c4 := by have := r4.cap; omega
  clear r4 n4 b4 t0 t1 CB CP3 B3
  go_wp2
  go_loopw [11, 12] (fun j _ wx => ∃ (k : Nat) (c : List Nat), k ≤ 32 ∧ j = .int .i64 k ∧ c.length = 512 ∧ (∀ x ∈ c, x < 256) ∧ OwnB wx g c ∧ Below w.heap.size w wx ∧ Bx wx 40 w.heap.size #[.int .i64 f, .int .u32 bits] ∧ M.on M.F c = M.on M.F l ^^^ M.st (8 * 512 - f) (bits % 2 ^ k)) (fun j _ _ => 32 - (intOf j).toNat)
  case atStart =>
    refine ⟨0, l, Nat.zero_le _, rfl, hl, HB.out.1, hO, hbel, T4, ?_⟩
    rw [Nat.pow_zero, Nat.mod_one, M.st_zero, Nat.xor_zero]
  case round =>
    clear hO hbel T4
    obtain ⟨k, c, hk, rfl, hcl, hc8, hO, hbel, hT, hon⟩ := hrel
    have Hon := hide hon
    have Hcl := hide hcl
    have t0 := hT.cell 0 rfl
    have t1 := hT.cell 1 rfl
    clear hon hcl
    by_cases hlt : k < 32
    · by_cases hbit : bits / 2 ^ k % 2 = 1
      · by_cases hin : f + k < 8 * 512
        · have hi1 : (f + k) / 8 < c.length := by rw [Hcl.out]; omega
          have hcell := hO.cell hi1
          have hfro := hO.frozen ((f + k) / 8)
          have ht : (((bits : Int) / 2 ^ k).tmod 2 == 1) = true := odd1 hbit
          have hx8 : c.getD ((f + k) / 8) 0 < 256 := by rw [getD_at c hi1]; exact hc8 _ (List.getElem_mem _)
          have hI0 : (0 : Int) ≤ ((f : Int) + (k : Int)) / 8 := by omega
          have hI1 : ((f : Int) + (k : Int)) / 8 < 512 := by omega
          have hI2 : (f : Int) + (k : Int) < 4096 := by omega
          have Hbit := hide hbit
          have Hx := hide (rfl : c.getD ((f + k) / 8) 0 = c.getD ((f + k) / 8) 0)
          clear hbit
          generalize hxx : c.getD ((f + k) / 8) 0 = x at hcell hx8
          have Hxx := hide hxx
          clear hxx Hx
          go_wp2_with fail
          go_region
          rw [xor_pow8 x ((f + k) % 8) hx8 (by omega)]
          go_wp2
          go_roundw
          case rel =>
            refine ⟨k + 1, c.set ((f + k) / 8) (x ^^^ 2 ^ ((f + k) % 8)), by omega, by go_num, by rw [List.length_set]; exact Hcl.out, set_lt hc8 (xor_lt8 hx8 (by omega)), (hO.set hi1 _).drew, (hbel.setCell (Nat.le_of_lt hg') _).drew, (hT.other (a := ⟨g, _, none⟩) (Nat.ne_of_lt hg') _).drew, ?_⟩
            rw [← Hxx.out, M.on_set _ _ _ _ hi1, Hcl.out, M.bit_at 512 (f + k) ((f + k) / 8) ((f + k) % 8) k f (by omega) rfl hin, Hon.out, Nat.xor_assoc, ← M.st_xor, M.mod_succ_xor, if_pos Hbit.out]
          case measure => simp [intOf]; omega
        · have ht : (((bits : Int) / 2 ^ k).tmod 2 == 1) = true := odd1 hbit
          have hI2 : 4095 - (k : Int) < (f : Int) := by omega
          go_wp2
          go_ret
          exact ⟨rfl, hbel⟩
      · have ht : (((bits : Int) / 2 ^ k).tmod 2 == 1) = false := even1 hbit
        have Hbit := hide hbit
        clear hbit
        go_wp2
        go_roundw
        case rel =>
          refine ⟨k + 1, c, by omega, by go_num, Hcl.out, hc8, hO, hbel, hT, ?_⟩
          rw [Hon.out, M.mod_succ_xor, if_neg Hbit.out, Nat.xor_zero]
        case measure => simp [intOf]; omega
    · obtain rfl : k = 32 := by omega
      have E6 := hide (TL.out c (8 * 512 - f) hc8 Hcl.out (by rw [Hon.out, Nat.mod_eq_of_lt hb]))
      have D2 := hide (DC.out _ (some ⟨g, 0, none⟩) c4 c (hO.bs hc8 (by rw [Hcl.out]; decide)) Hcl.out hc4)
      have BE := hide hbel
      clear hbel
      go_wp2_with fail
      refine D2.out.mono ?_
      rintro y w6 ⟨R, rfl, hR, hpr, hrl, hb6⟩
      rw [E6.out]
      have B6 := hide (bt BE.out (bt hb6 (al w6 (.cells R.cs 25))))
      clear hR hpr hrl hb6 E6 D2
      generalize decG no c = g6 at *
      obtain ⟨kind6, level6, aI6, cI6, items6, aD6, cD6, data6, next6⟩ := R
      simp only [Pv.cs, Pv.vl] at *
      go_wp2
      go_ret
      exact ⟨rfl, B6.out⟩
set_option maxRecDepth 100000 in
set_option maxHeartbeats 4000000 in
theorem ptells_not (w : World) (no : Int) (a : Option Addr) (cap : Nat) (l : List Nat) (f : Int) (bits : Nat) (hB : Bs w a l) (hC : l.length ≤ cap) (hz : decE no l ≠ 0 ∨ bits = 0 ∨ f < 0) :
    Calls Try.prog 8 #[.int .i64 no, .slice a l.length cap, .agg #[.int .i64 f, .int .u32 bits]] w fun e w' => e = .returned (.bool true) ∧ Below w.heap.size w w' := by
  have DE := hide fun (w1 : World) (hb : Below w.heap.size w w1) => Decode_any w1 no a l.length cap l (hB.keep hb) rfl hC
  have FX := hide (fixed_any (w.alloc (.cells #[.int .i64 f, .int .u32 bits] 40)))
  have A0 := hide (al w (.cells #[.int .i64 f, .int .u32 bits] 40))
  have CP := hide fun (w1 : World) (hb : Below (w.alloc (.cells #[.int .i64 f, .int .u32 bits] 40)).heap.size (w.alloc (.cells #[.int .i64 f, .int .u32 bits] 40)) w1) => (Bx.new w 40 #[.int .i64 f, .int .u32 bits]).keep hb
  clear hB hC
  go_enter Try.func8, Try.ntmps8
  go_wp2_with fail
  refine FX.out.mono ?_
  rintro e w1 ⟨rfl, hb1⟩
  have B1 := hide (bt A0.out hb1)
  have D1 := hide (DE.out w1 B1.out)
  have CP1 := hide fun (w2 : World) (hb : Below w1.heap.size w1 w2) => CP.out w2 (bt hb1 hb)
  clear FX CP hb1 A0 DE
  go_wp2_with fail
  refine D1.out.mono ?_
  rintro y w3 ⟨Q, rfl, hQ, hpn, hql, hb3⟩
  have B3 := hide (bt B1.out (bt hb3 (al w3 (.cells Q.cs 25))))
  have CP3 := hide fun (w2 : World) (hb : Below (w3.alloc (.cells Q.cs 25)).heap.size (w3.alloc (.cells Q.cs 25)) w2) => CP1.out w2 (bt hb3 (bt (al _ _) hb))
  clear hQ hpn hql hb3 D1 CP1 B1
  generalize decG no l = gn at *
  generalize decE no l = de at *
  obtain ⟨kind, level, aI, cI, items, aD, cD, data, next⟩ := Q
  simp only [Pv.cs, Pv.vl] at *
  have t0 := (CP3.out _ (Below.refl _ _)).cell 0 rfl
  have t1 := (CP3.out _ (Below.refl _ _)).cell 1 rfl
  by_cases h1 : de = 0
  · subst h1
    by_cases h2 : bits = 0
    · subst h2
      go_wp2
      go_ret
      exact ⟨rfl, B3.out⟩
    · have hbt : ((bits : Int) == 0) = false := by rw [beq_eq_false_iff_ne]; omega
      have hfd : decide (f < 0) = true := by simp; omega
      go_wp2
      go_ret
      exact ⟨rfl, B3.out⟩
  · have hd1 : ((de : Int) != 0) = true := by simpa using h1
    have hd2 : ((de : Int) == 0) = false := by simpa using h1
    go_wp2
    go_ret
    exact ⟨rfl, B3.out⟩
theorem trod_struct2 {H : Type} {enc : TypeId × Value → H} {P : Program} {w : World} {base : Nat} {spare : Nat → Bool} {held : Bool} {t : TypeId} {f0 f1 : Field} {fuel : Nat} {cs : List Value} {x : DataW H × List MemPlace} (ht : P.underlying t = some (.struct #[f0, f1])) (h : DataW.trod enc P w base spare held fuel t cs = some x) :
    ∃ y0 y1 n, x.1 = .agg [y0.1, y1.1] ∧ cs.length = P.cellsOf t ∧ DataW.trod enc P w base spare held n f0.type ((cs.drop f0.offset).take (P.cellsOf f0.type)) = some y0 ∧ DataW.trod enc P w base spare held n f1.type ((cs.drop f1.offset).take (P.cellsOf f1.type)) = some y1 := by
  obtain ⟨xs, n, _, rfl, hl, hlen, hf⟩ := DataW.trod_struct ht h
  match xs, hlen with
  | [y0, y1], _ => exact ⟨y0, y1, n, by simp, hl, by simpa using hf 0 f0 rfl, by simpa using hf 1 f1 rfl⟩
theorem list2 {α : Type} {l : List α} (h : l.length = 2) : ∃ c0 c1, l = [c0, c1] := by
  match l, h with
  | [c0, c1], _ => exact ⟨c0, c1, rfl⟩
theorem cellsTurn : Try.prog.cellsOf 40 = 2 := by kernel_rfl
theorem cellsU32 : Try.prog.cellsOf 38 = 1 := by kernel_rfl
theorem open_turn {H : Type} {enc : TypeId × Value → H} {W : World} {cs : Array Value} {d : DataW H} {p : List MemPlace}
    (h : DataW.Trod enc Try.prog W 0 (fun _ => true) true 40 (.agg cs) d p) : ∃ (f : Int) (bits : Nat), cs = #[.int .i64 f, .int .u32 bits] ∧ N64 f ∧ bits < 4294967296 := by
  obtain ⟨fuel, hf⟩ := h
  obtain ⟨y0, y1, n, hx, hl, h0, h1⟩ := trod_struct2 Try.underlying40 hf
  obtain ⟨c0, c1, e⟩ := list2 (hl.trans cellsTurn)
  rw [e] at h0 h1
  simp only [cellsInt, cellsU32, List.drop_zero, List.drop_succ_cons, List.take_succ_cons, List.take_zero] at h0 h1
  obtain ⟨z0, e0, _, k0⟩ := DataW.trod_int Try.underlying3 h0
  obtain ⟨z1, e1, _, k1⟩ := DataW.trod_int Try.underlying38 h1
  simp only [List.cons.injEq, and_true] at e0 e1
  have hb := bounds_u32 k1
  have e' : cs.toList = [c0, c1] := e
  refine ⟨z0, z1.toNat, Array.toList_inj.1 (by rw [e', e0, e1, Int.toNat_of_nonneg (by omega)]), n64 k0, by omega⟩
theorem pageTells_any (w : World) (no : Int) (_ : N64 no) (a : Option Addr) (cap : Nat) (l : List Nat) (hB : Bs w a l) (_ : l.length + 64 ≤ 140737488355328) (hC : l.length ≤ cap) (f : Int) (bits : Nat) (hf : N64 f) (hb : bits < 4294967296) :
    Calls Try.prog 8 #[.int .i64 no, .slice a l.length cap, .agg #[.int .i64 f, .int .u32 bits]] w fun e w' => e = .returned (.bool true) ∧ Below w.heap.size w w' := by
  by_cases h1 : decE no l ≠ 0 ∨ bits = 0 ∨ f < 0
  · exact ptells_not w no a cap l f bits hB hC h1
  · obtain ⟨F, rfl⟩ := Int.eq_ofNat_of_zero_le (show 0 ≤ f by omega)
    exact ptells_loop w no a cap l F bits hB hC (by have := hf.2; omega) hb (by omega) (by omega)
end Go.Proofs.Ytpolajblmbjnfaa
