import Derived.Test.YtifhkfghjifecaaNO
import Derived.Test.YtifhkfghjifecaaPSX
namespace Go.Proofs.Ytifhkfghjifecaa
open Go.RowKit

/-! ### a block is closed and opened -/
set_option maxRecDepth 8000 in
set_option maxHeartbeats 3200000 in
theorem Close_any (v w : World) (G : Nat → Prop) (b : Nat) (l : List Nat) (h : Wk v G w b l) (hG : Gl G w) (hl : l.length ≤ 508) :
    Calls Try.prog 69 #[.pointer (some ⟨b, 0, none⟩)] w fun y w' => ∃ a c, y = .returned (.tuple #[.slice a 512 c, .int .i64 0]) ∧ Rw w' a c (summed l) ∧ New w none a ∧ Dk v G w w' b (summed l) := by
  have HBK : Hid (summed l = (l ++ List.replicate (508 - l.length) 0) ++ numB (M.of (l ++ List.replicate (508 - l.length) 0)) 4) := rfl
  have hpl : Hid ((l ++ List.replicate (508 - l.length) 0).length = 508) := by
    show _ = _
    rw [List.length_append, List.length_replicate]; omega
  have HSL := hide (summed_length hl)
  generalize summed l = BK at *
  have FI := hide (wFill h hG hl)
  have HG := hide hG
  clear h hG hl
  go_enter Try.func69, Try.ntmps69
  go_wp2_with fail
  refine FI.out.mono ?_
  rintro y w4 ⟨rfl, hk⟩
  have D := hide hk
  clear hk FI
  generalize l ++ List.replicate (508 - l.length) 0 = PAD at *
  have hpad := hpl.out
  go_wp2_with fail
  refine (wDone D.out.k).mono ?_
  rintro y w5 ⟨a5, c5, rfl, ho⟩
  have B5 := hide (ho.r.bs D.out.k.b8 (by omega))
  have D := hide (D.out.keep ho.b)
  clear ho
  rw [hpad]
  go_wp2_with fail
  refine (Of_any a5 508 c5 PAD w5 B5.out hpad.symm).mono ?_
  rintro y w6 ⟨rfl, hb6⟩
  have D := hide (D.out.keep hb6)
  have hof : M.of PAD < 4294967296 := M.of_lt B5.out.1
  clear hb6 B5
  generalize M.of PAD = s at *
  go_wp2_with fail
  refine (wPut32 D.out.k (D.out.gl HG.out) s hof (by omega)).mono ?_
  rintro y w7 ⟨rfl, hk⟩
  have D := hide (D.out.trans hk)
  clear hk
  generalize PAD ++ numB s 4 = R at *
  obtain rfl := HBK.out
  go_wp2_with fail
  refine (wDone D.out.k).mono ?_
  rintro y w8 ⟨a8, c8, rfl, ho⟩
  have O8 := hide (ho.n.mono D.out.s)
  have R8 := hide ho.r
  have D := hide (D.out.keep ho.b)
  clear ho
  go_wp2
  go_ret2
  rw [HSL.out]
  exact ⟨a8, c8, rfl, R8.out, O8.out, D.out⟩
set_option maxRecDepth 8000 in
set_option maxHeartbeats 3200000 in
theorem Open_no (w : World) (a : Option Addr) (c : Nat) (b : List Nat) (hB : Bs w a b) (hl : b.length = 512) (hc : 512 ≤ c) (hs : numV (b.drop 508) ≠ M.of (b.take 508)) :
    Calls Try.prog 12 #[.slice a 512 c] w fun e w' => e = .returned (.tuple #[.pointer none, .bool false]) ∧ Below w.heap.size w w' := by
  obtain ⟨bk, off, rfl, _⟩ := hB.at (j := 0) (by omega)
  have hd : (b.drop 508).length = 4 := by rw [List.length_drop]; omega
  have ht : (b.take 508).length = 508 := by rw [List.length_take]; omega
  have HD := hide (hB.drop 508)
  have HT := hide (hB.take 508)
  have NR := hide (fun c' => kNew w (some ⟨bk, off + 508, none⟩) 4 c' (b.drop 508) HD.out hd.symm (by omega) (by intro h; rw [h] at hd; simp at hd))
  have HG := hide (get_all hd)
  have OF := hide fun (w1 : World) (hb : Below w.heap.size w w1) (c' : Nat) => Of_any (some ⟨bk, off, none⟩) 508 c' (b.take 508) w1 (HT.out.keep hb) ht.symm
  have h512 : (512 : Int) ≤ (c : Int) := by omega
  have h508 : (508 : Int) ≤ (c : Int) := by omega
  have hne : (c == 508) = false := by simp; omega
  have hne' : ¬ c = 508 := by omega
  have hmof : M.of (b.take 508) < 4294967296 := M.of_lt HT.out.1
  have hq : ((((numV (b.drop 508) : Nat) : Int)) == ((M.of (b.take 508) : Nat) : Int)) = false := by rw [beqn]; simpa using hs
  clear hB hd ht HD HT hs
  generalize M.of (b.take 508) = mo at *
  generalize numV (b.drop 508) = nv at *
  generalize b.drop 508 = D at *
  go_enter Try.func12, Try.ntmps12
  go_wp2_with fail
  refine (NR.out _).mono ?_
  rintro y w1 ⟨b1, rfl, hk, hb1, hbl⟩
  have T1 := hide hbl
  have HB1 := hide hb1
  have K1 := hide hk
  clear hk hb1 hbl NR
  go_wp2_with fail
  refine (kGet32 K1.out).mono ?_
  rintro y w2 ⟨rfl, hk, hb2⟩
  have T2 : Hid (Below w.heap.size w w2) := ((But.ofBelow (S := fun _ => False) T1.out).trans hb2 fun x hx e => by have := HB1.out; omega).below fun _ _ h => h
  rw [HG.out]
  clear hk hb2
  go_wp2_with fail
  refine (OF.out _ T2.out _).mono ?_
  rintro y w3 ⟨rfl, hb3⟩
  have T3 := hide (bt T2.out hb3)
  clear hb3
  go_wp2
  go_ret2
  exact ⟨rfl, T3.out⟩
set_option maxRecDepth 8000 in
set_option maxHeartbeats 3200000 in
theorem Open_yes (w : World) (a : Option Addr) (c : Nat) (b : List Nat) (hB : Bs w a b) (hl : b.length = 512) (hc : 512 ≤ c) (hs : numV (b.drop 508) = M.of (b.take 508)) :
    Calls Try.prog 12 #[.slice a 512 c] w fun e w' => ∃ rb, e = .returned (.tuple #[.pointer (some ⟨rb, 0, none⟩), .bool true]) ∧ Rk w' w' rb ⟨b.take 508, 0⟩ ∧ w.heap.size ≤ rb ∧ Below w.heap.size w w' := by
  obtain ⟨bk, off, rfl, _⟩ := hB.at (j := 0) (by omega)
  have hd : (b.drop 508).length = 4 := by rw [List.length_drop]; omega
  have ht : (b.take 508).length = 508 := by rw [List.length_take]; omega
  have HD := hide (hB.drop 508)
  have HT := hide (hB.take 508)
  have NR := hide (fun c' => kNew w (some ⟨bk, off + 508, none⟩) 4 c' (b.drop 508) HD.out hd.symm (by omega) (by intro h; rw [h] at hd; simp at hd))
  have NS := hide fun (w1 : World) (hb : Below w.heap.size w w1) (c' : Nat) => kNew w1 (some ⟨bk, off, none⟩) 508 c' (b.take 508) (HT.out.keep hb) ht.symm (by omega) (by intro h; rw [h] at ht; simp at ht)
  have HG := hide (get_all hd)
  have OF := hide fun (w1 : World) (hb : Below w.heap.size w w1) (c' : Nat) => Of_any (some ⟨bk, off, none⟩) 508 c' (b.take 508) w1 (HT.out.keep hb) ht.symm
  have h512 : (512 : Int) ≤ (c : Int) := by omega
  have h508 : (508 : Int) ≤ (c : Int) := by omega
  have hne : (c == 508) = false := by simp; omega
  have hne' : ¬ c = 508 := by omega
  have hmof : M.of (b.take 508) < 4294967296 := M.of_lt HT.out.1
  rw [hs] at HG
  clear hB hd ht HD HT hs
  generalize M.of (b.take 508) = mo at *
  generalize b.drop 508 = D at *
  generalize b.take 508 = E at *
  go_enter Try.func12, Try.ntmps12
  go_wp2_with fail
  refine (NR.out _).mono ?_
  rintro y w1 ⟨b1, rfl, hk, hb1, hbl⟩
  have T1 := hide hbl
  have HB1 := hide hb1
  have K1 := hide hk
  clear hk hb1 hbl NR
  go_wp2_with fail
  refine (kGet32 K1.out).mono ?_
  rintro y w2 ⟨rfl, hk, hb2⟩
  have T2 : Hid (Below w.heap.size w w2) := ((But.ofBelow (S := fun _ => False) T1.out).trans hb2 fun x hx e => by have := HB1.out; omega).below fun _ _ h => h
  rw [HG.out]
  clear hk hb2
  go_wp2_with fail
  refine (OF.out _ T2.out _).mono ?_
  rintro y w3 ⟨rfl, hb3⟩
  have T3 := hide (bt T2.out hb3)
  clear hb3
  go_wp2_with fail
  refine (NS.out _ T3.out _).mono ?_
  rintro y w4 ⟨b4, rfl, hk, hb4, hbl⟩
  have T4 := hide (bt T3.out hbl)
  have HB4 := hide (Nat.le_trans T3.out.size hb4)
  have K4 := hide hk
  clear hk hb4 hbl NS
  go_wp2
  go_ret2
  exact ⟨b4, rfl, K4.out, HB4.out, T4.out⟩
end Go.Proofs.Ytifhkfghjifecaa
