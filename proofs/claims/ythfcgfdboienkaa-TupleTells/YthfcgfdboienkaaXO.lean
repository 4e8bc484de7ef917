import Derived.Test.YthfcgfdboienkaaXM
import Derived.Test.YthfcgfdboienkaaVJ
import Derived.Test.YthfcgfdboienkaaVQ
namespace Go.Proofs.Ythfcgfdboienkaa
open Go.RowKit

theorem pc_eq (v : VV) : v.pc = #[.int .i64 v.kind, .bool v.bool, .int .i64 v.int, .float .f64 v.real, .complex .f64 v.re v.im, .string v.text] := rfl
theorem rc_eq (v : VV) : v.rc = #[.int .i64 v.kind, .bool v.bool, .int .i64 v.int, .int .u64 (v.real : Int), .int .u64 (v.re : Int), .int .u64 (v.im : Int), .string v.text] := rfl
theorem valid_below {f : FuncId} {args : Array Value} {w : World} {b : Bool} (h : Calls Try.prog f args w fun e w' => e = .returned (.bool b) ∧ ∃ o, w' = w.alloc o) : Calls Try.prog f args w fun e w' => e = .returned (.bool b) ∧ Below w.heap.size w w' :=
  h.mono fun _ _ ⟨h1, o, h2⟩ => ⟨h1, by rw [h2]; exact al w o⟩
/-- the value's block and the list's stay -/
structure TT (w W : World) (gv b o : Nat) (x : VV) : Prop where
  m : W.heap[gv]? = some (.cells #[.int .i64 x.kind, .bool x.bool, .int .i64 x.int, .float .f64 x.real, .complex .f64 x.re x.im, .string x.text] 26 (0, 0))
  r : W.rangeAt b o x.rc.toList
  u : Below w.heap.size w W
theorem TT.keep {w W W' : World} {gv b o : Nat} {x : VV} (h : TT w W gv b o x) (hb : Below W.heap.size W W') : TT w W' gv b o x :=
  ⟨(hb.block gv (Array.getElem?_eq_some_iff.1 h.m).1).trans h.m, range_below h.r hb, bt h.u hb⟩
theorem TT.s {w W : World} {gv b o : Nat} {x : VV} (h : TT w W gv b o x) : (W.cell? ⟨gv, 0, none⟩ = some (.int .i64 x.kind) ∧ W.cell? ⟨gv, 1, none⟩ = some (.bool x.bool) ∧ W.cell? ⟨gv, 2, none⟩ = some (.int .i64 x.int) ∧ W.cell? ⟨gv, 3, none⟩ = some (.float .f64 x.real) ∧ W.cell? ⟨gv, 4, none⟩ = some (.complex .f64 x.re x.im) ∧ W.cell? ⟨gv, 5, none⟩ = some (.string x.text)) ∧ (W.cell? ⟨b, o, none⟩ = some (.int .i64 x.kind) ∧ W.cell? ⟨b, o + 1, none⟩ = some (.bool x.bool) ∧ W.cell? ⟨b, o + 2, none⟩ = some (.int .i64 x.int) ∧ W.cell? ⟨b, o + 3, none⟩ = some (.int .u64 (x.real : Int)) ∧ W.cell? ⟨b, o + 4, none⟩ = some (.int .u64 (x.re : Int)) ∧ W.cell? ⟨b, o + 5, none⟩ = some (.int .u64 (x.im : Int)) ∧ W.cell? ⟨b, o + 6, none⟩ = some (.string x.text)) := ⟨six_row h.m, seven h.r⟩
set_option maxHeartbeats 1600000 in
theorem tupleTells_any (w : World) (a : Option Addr) (n cap : Nat) (L : List VV) (hL : Rs w a L) (hn : n = L.length) :
    Calls Try.prog 3 #[.slice a n cap] w fun e w' => e = .returned (.bool true) ∧ Below w.heap.size w w' := by
  subst hn
  have hlen := hL.2.1
  have HL := hide hL
  have WK := hide works_any
  have TV := hide tValid_any
  have DV := hide dValid_any
  have TS := hide tSame_any
  have DS := hide dSame_any
  have VL := hide value_any
  have BT := hide bits_any
  have sf := st_float
  have sc := st_complex
  clear hL
  go_enter Try.func3, Try.ntmps3
  go_wp2
  go_loopw [3] (fun i wx => ∃ j : Nat, j ≤ L.length ∧ i = .int .i64 (j : Int) ∧ Below w.heap.size w wx) (fun i _ => L.length - (intOf i).toNat)
  case atStart => exact ⟨0, Nat.zero_le _, rfl, Below.refl _ _⟩
  case round =>
    obtain ⟨j, hj, rfl, hG⟩ := hrel
    have HG := hide hG
    clear hG
    by_cases hlt : j < L.length
    · have hi : (j : Int) < (L.length : Int) := by omega
      have hok := HL.out.1 _ (getD_mem hlt)
      obtain ⟨b, off, rfl, hc⟩ := (HL.out.keep HG.out).at hlt
      generalize L.getD j VV.zero = x at *
      have HC := hide hc
      have V1 := VL.out
      have V1 := fun W => V1 W x
      rw [pc_eq x] at V1
      have V1 := hide V1
      have TVx := fun W => valid_below (TV.out W x)
      rw [pc_eq x] at TVx
      have TVx := hide TVx
      have DVx := fun W => valid_below (DV.out W x)
      rw [rc_eq x] at DVx
      have DVx := hide DVx
      have TSx := fun W => TS.out W x hok
      rw [pc_eq x] at TSx
      have DSx := fun W => DS.out W x hok
      rw [rc_eq x] at DSx
      generalize x.same = y at *
      have TSx := hide TSx
      have DSx := hide DSx
      have BTx := hide (fun W => BT.out W y)
      have hne := neq_same y
      have hvv : (x.valid != x.valid) = false := by simp
      clear hc hok VL TV DV TS DS BT
      generalize x.valid = bv at *
      go_wp2_with (refine wpList_load_mid rfl 30 _ rfl b _ rfl x.rc.toList _ HC.out Try.underlying30 rfl sizeV ?_)
      refine (V1.out _).mono ?_
      rintro e w1 ⟨rfl, hb1⟩
      have B1 := hide (bt HG.out hb1)
      have HC1 := hide (range_below HC.out hb1)
      clear hb1 V1
      go_wp2
      have ST0 : Hid (TT w (w1.alloc (.cells #[.int .i64 x.kind, .bool x.bool, .int .i64 x.int, .float .f64 x.real, .complex .f64 x.re x.im, .string x.text] 26)).drew w1.heap.size b (off + j * 7) x) := ⟨heap_alloc_new _ _, (World.rangeAt_drew _ _ _ _).2 (range_below HC1.out (al _ _)), (B1.out.alloc B1.out.size _).drew⟩
      generalize w1.heap.size = gv at *
      go_region_held3 (fun w' => (w'.cell? ⟨gv, 0, none⟩ = some (.int .i64 x.kind) ∧ w'.cell? ⟨gv, 1, none⟩ = some (.bool x.bool) ∧ w'.cell? ⟨gv, 2, none⟩ = some (.int .i64 x.int) ∧ w'.cell? ⟨gv, 3, none⟩ = some (.float .f64 x.real) ∧ w'.cell? ⟨gv, 4, none⟩ = some (.complex .f64 x.re x.im) ∧ w'.cell? ⟨gv, 5, none⟩ = some (.string x.text)) ∧ (w'.cell? ⟨b, off + j * 7, none⟩ = some (.int .i64 x.kind) ∧ w'.cell? ⟨b, off + j * 7 + 1, none⟩ = some (.bool x.bool) ∧ w'.cell? ⟨b, off + j * 7 + 2, none⟩ = some (.int .i64 x.int) ∧ w'.cell? ⟨b, off + j * 7 + 3, none⟩ = some (.int .u64 (x.real : Int)) ∧ w'.cell? ⟨b, off + j * 7 + 4, none⟩ = some (.int .u64 (x.re : Int)) ∧ w'.cell? ⟨b, off + j * 7 + 5, none⟩ = some (.int .u64 (x.im : Int)) ∧ w'.cell? ⟨b, off + j * 7 + 6, none⟩ = some (.string x.text)))
        (first | exact ST0.out.s | exact ST1.out.s | exact ST2.out.s | exact ST3.out.s | exact ST4.out.s | exact ST5.out.s)
        (first | (go_at_call 10; refine (TVx.out _).mono ?_; rintro e w2 ⟨rfl, hb⟩; have ST1 := hide (ST0.out.keep hb); clear hb) | (go_at_call 11; refine (DVx.out _).mono ?_; rintro e w3 ⟨rfl, hb⟩; have ST2 := hide (ST1.out.keep hb); clear hb) | (go_at_call 13; refine (TSx.out _).mono ?_; rintro e w4 ⟨rfl, hb⟩; have ST3 := hide (ST2.out.keep hb); clear hb) | (go_at_call 12; refine (BTx.out _).mono ?_; rintro e w5 ⟨rfl, hb⟩; have ST4 := hide (ST3.out.keep hb); clear hb) | (go_at_call 14; refine (DSx.out _).mono ?_; rintro e w6 ⟨rfl, hb⟩; have ST5 := hide (ST4.out.keep hb); clear hb))
      go_wp2
      exact ⟨⟨j + 1, by omega, congrArg (Value.int IntKind.i64) (by omega), ST5.out.u⟩, by simp [intOf]; omega⟩
    · obtain rfl : j = L.length := by omega
      have Z1 := fun W => valid_below (TV.out W ⟨5, false, 0, 0, 0, 0, ⟨#[97]⟩⟩)
      rw [show (VV.mk 5 false 0 0 0 0 ⟨#[97]⟩).valid = true by decide] at Z1
      have Z2 := fun W => valid_below (TV.out W ⟨6, false, 0, 0, 0, 0, ⟨#[]⟩⟩)
      rw [show (VV.mk 6 false 0 0 0 0 ⟨#[]⟩).valid = false by decide] at Z2
      unfold VV.pc at Z1 Z2
      have Z1 := hide Z1
      have Z2 := hide Z2
      clear TV DV TS DS VL BT
      go_wp2_with fail
      refine (Z1.out _).mono ?_
      rintro e w1 ⟨rfl, hb1⟩
      have B1 := hide (bt HG.out hb1)
      clear hb1
      go_wp2_with fail
      refine (Z2.out _).mono ?_
      rintro e w2 ⟨rfl, hb2⟩
      have B2 := hide (bt B1.out hb2)
      clear hb2
      go_wp2_with fail
      refine (WK.out _).mono ?_
      rintro e w3 ⟨rfl, hb3⟩
      have B3 := hide (bt B2.out hb3)
      clear hb3
      go_wp2
      go_ret
      exact ⟨rfl, B3.out⟩
end Go.Proofs.Ythfcgfdboienkaa
