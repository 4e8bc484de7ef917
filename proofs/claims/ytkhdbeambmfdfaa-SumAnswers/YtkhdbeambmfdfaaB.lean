import Derived.Test.YtkhdbeambmfdfaaA
namespace Go.Proofs.Ytkhdbeambmfdfaa
open Go.RowKit

theorem wpList_built {P : Program} {ops : Array Oper} {rest : List Oper} {o : Oper} {a : Act} {w : World} {Q : Exit → Act → World → Prop} (hg : o.guard = none) (t : TypeId) (parts : Array (Nat × Operand)) (ho : o.op = .build t parts)
    (ps : List (Nat × Value)) (hp : (parts.map fun (i, x) => (i, a.eval x)).toList = ps) (cells : Array Value) (hb : P.built t ps = some cells)
    (h : wpList P ops Q rest (a.put o.dst (.agg cells)) w) : wpList P ops Q (o :: rest) a w := by
  subst hp
  refine wpList_build hg t parts ho (by rw [hb]; rfl) ?_
  rw [hb]
  exact h

theorem pow_mod (k : Nat) (h : k < 32) : (2 : Int) ^ k % 4294967296 = ((2 ^ k : Nat) : Int) := by
  have hlt : 2 ^ k < 2 ^ 32 := Nat.pow_lt_pow_right (by decide) h
  have e : (2 : Int) ^ k = ((2 ^ k : Nat) : Int) := by simp
  rw [e]
  generalize 2 ^ k = n at hlt
  omega
/-- the first column alone -/
def m1 : Nat → Nat := fun i => if i = 0 then 2197175160 else 0
theorem built_m1 : Try.prog.built 48 [(0, .int .u32 2197175160)] = some (mc m1) := by kernel_rfl
theorem ms1 (i : Nat) : ms 1 (i + 1) = 2 ^ i := by
  show M.step (2 ^ (i + 1)) = 2 ^ i
  unfold M.step
  rw [Nat.pow_succ, if_neg (by omega)]
  omega
theorem ms1_0 : ms 1 0 = 2197175160 := by decide +kernel

set_option maxHeartbeats 400000 in
theorem oneStep_any (w : World) :
    Calls Try.prog 33 #[] w fun e w' => e = .returned (.agg (mc (ms 1))) ∧ Below w.heap.size w w' := by
  go_enter Try.func33, Try.ntmps33
  go_wp2_with (first | (refine wpList_built rfl 48 _ rfl _ rfl (mc m1) built_m1 ?_) | (refine wpList_store_row rfl 48 _ _ rfl (w.heap.size + 1) (mc m1) rfl rfl 48 _ (heap_alloc2_new _ _ _) (info_mat _) rfl (mc_one _) ?_))
  go_loopw [2] (fun i wx => ∃ k : Nat, k < 32 ∧ i = .int .i64 ((k : Int) + 1) ∧ Mat wx w.heap.size (fun _ => 0) ∧ Mat wx (w.heap.size + 1) (fun j => if j < k + 1 then ms 1 j else 0) ∧ Below w.heap.size w wx) (fun i _ => 32 - (intOf i).toNat)
  case atStart =>
    refine ⟨0, by decide, rfl, ?_, ?_, ?_⟩
    · rw [mc_zero]; exact (setRow_other _ _ _ _ (by omega)).trans (heap_alloc2_old _ _ _)
    · refine Mat.ext (m := m1) (setRow_heap _ _ _ _ _ _ (heap_alloc2_new _ _ _)) ?_
      intro i _
      by_cases e : i = 0
      · subst e; rw [show (if 0 < 0 + 1 then ms 1 0 else 0) = ms 1 0 from rfl, ms1_0]; rfl
      · simp [m1, e, show ¬ i < 1 by omega]
    · exact below_setRow (((Below.refl _ _).alloc (Nat.le_refl _) _).alloc (by rw [size_alloc]; omega) _) (by omega) _
  case round =>
    obtain ⟨k, hk, rfl, m0, m2, hbel⟩ := hrel
    by_cases hlt : k + 1 < 32
    · have hc1 := m2.cell hlt
      have hf1 := m2.frozen (k + 1)
      rw [if_neg (Nat.lt_irrefl _)] at hc1
      go_wp2
      rw [pow_mod k (by omega), ← ms1 k]
      go_roundw
      case rel =>
        refine ⟨k + 1, by omega, by go_num, m0.other _ _ (by show w.heap.size ≠ w.heap.size + 1; omega), (m2.set (k + 1) _).ext ?_, hbel.setCell (by show w.heap.size ≤ w.heap.size + 1; omega) _⟩
        intro i _
        by_cases e : i = k + 1
        · subst e; simp
        · by_cases e2 : i < k + 1
          · simp [e, e2, show i < k + 1 + 1 by omega]
          · simp [e, e2, show ¬ i < k + 1 + 1 by omega]
      case measure => simp [intOf]; omega
    · obtain rfl : k = 31 := by omega
      have m3 := m2.ext (m' := ms 1) (fun i hi => by simp [hi])
      clear m2
      go_wp2_with (first | (refine wpList_load_row rfl 48 _ rfl (w.heap.size + 1) rfl 48 _ (0, 0) _ m3 Try.underlying48 rfl (info_mat _) ?_) | (refine wpList_store_row rfl 48 _ _ rfl w.heap.size _ rfl rfl 48 _ m0 (info_mat _) (by rw [mc_size, mc_size]) (mc_one _) ?_))
      refine bodyPost_ret (v := .agg (mc (ms 1))) (results_cell_row Try.results33 _ _ w.heap.size 48 _ (0, 0) _ rfl (setRow_heap _ _ _ _ _ _ m0) Try.underlying48 rfl (info_mat _)) rfl ⟨rfl, below_setRow hbel (Nat.le_refl _) _⟩

theorem Mat.row {w : World} {b : Nat} {m : Nat → Nat} (h : Mat w b m) (m' : Nat → Nat) : Mat (w.setRow b (mc m')) b m' := setRow_heap _ _ _ _ _ _ h
theorem Mat.rowOther {w : World} {b g : Nat} {m : Nat → Nat} (h : Mat w b m) (cs : Array Value) (hne : b ≠ g) : Mat (w.setRow g cs) b m := (setRow_other _ _ _ _ hne).trans h

set_option maxHeartbeats 400000 in
theorem eightSteps_any (w : World) :
    Calls Try.prog 28 #[] w fun e w' => e = .returned (.agg (mc (ms 8))) ∧ Below w.heap.size w w' := by
  go_enter Try.func28, Try.ntmps28
  go_wp2_with fail
  refine (oneStep_any _).mono ?_
  rintro e w1 ⟨rfl, hb1⟩
  have z0 : Mat w1 w.heap.size (fun _ => 0) := by
    refine Mat.keep ?_ hb1
    rw [mc_zero]; exact heap_alloc_new _ _
  have bl : Below w.heap.size w w1 := ((Below.refl _ _).alloc (Nat.le_refl _) _).trans (hb1.mono (by rw [size_alloc]; omega))
  have hsz : w.heap.size < w1.heap.size := z0.lt
  clear hb1
  go_wp2_with (refine wpList_store_row rfl 48 _ _ rfl w1.heap.size (mc (ms 1)) rfl rfl 48 _ (heap_alloc_new _ _) (info_mat _) rfl (mc_one _) ?_)
  go_loopw [3] (fun i wx => ∃ k : Nat, k ≤ 3 ∧ i = .int .i64 k ∧ Mat wx w.heap.size (fun _ => 0) ∧ Mat wx w1.heap.size (ms (2 ^ k)) ∧ Below w.heap.size w wx) (fun i _ => 3 - (intOf i).toNat)
  case atStart =>
    refine ⟨0, by decide, rfl, ?_, ?_, ?_⟩
    · exact Mat.rowOther ((heap_alloc_old _ _ hsz).trans z0) _ (by omega)
    · exact Mat.row (m := fun _ => 0) (by rw [mc_zero]; exact heap_alloc_new _ _) _
    · exact below_setRow (bl.alloc (by omega) _) (by omega) _
  case round =>
    obtain ⟨k, hk, rfl, q0, q1, hbel⟩ := hrel
    by_cases hlt : k < 3
    · go_wp2_with (refine wpList_load_row rfl 48 _ rfl w1.heap.size rfl 48 _ (0, 0) _ q1 Try.underlying48 rfl (info_mat _) ?_)
      refine (square_ms (2 ^ k) _).mono ?_
      rintro e w2 ⟨rfl, hb2⟩
      have r0 := q0.keep hb2
      have r1 := q1.keep hb2
      have rb := hbel.trans (hb2.mono hbel.size)
      clear q0 q1 hbel hb2
      go_wp2_with (refine wpList_store_row rfl 48 _ _ rfl w1.heap.size _ rfl rfl 48 _ r1 (info_mat _) (by rw [mc_size, mc_size]) (mc_one _) ?_)
      go_roundw
      case rel =>
        refine ⟨k + 1, by omega, by go_num, r0.rowOther _ (by omega), ?_, below_setRow rb (by omega) _⟩
        rw [show 2 ^ (k + 1) = 2 ^ k + 2 ^ k by rw [Nat.pow_succ]; omega]
        exact r1.row _
      case measure => simp [intOf]; omega
    · obtain rfl : k = 3 := by omega
      go_wp2_with (first | (refine wpList_load_row rfl 48 _ rfl w1.heap.size rfl 48 _ (0, 0) _ q1 Try.underlying48 rfl (info_mat _) ?_) | (refine wpList_store_row rfl 48 _ _ rfl w.heap.size _ rfl rfl 48 _ q0 (info_mat _) (by rw [mc_size, mc_size]) (mc_one _) ?_))
      refine bodyPost_ret (v := .agg (mc (ms 8))) (results_cell_row Try.results28 _ _ w.heap.size 48 _ (0, 0) _ rfl (setRow_heap _ _ _ _ _ _ q0) Try.underlying48 rfl (info_mat _)) rfl ⟨rfl, below_setRow hbel (Nat.le_refl _) _⟩

theorem and1_i64 (n : Nat) (h : n ≤ 9223372036854775807) : bits .and .i64 (n : Int) 1 = ((n % 2 : Nat) : Int) := by
  show IntKind.i64.wrap ((BitVec.ofInt 64 (n : Int) &&& BitVec.ofInt 64 1).toNat : Int) = _
  have h1 : (BitVec.ofInt 64 1).toNat = 1 := by decide
  rw [BitVec.toNat_and, ofInt_u64 n (by omega), h1, M.and1]
  rw [IntKind.wrap_i64]
  omega
theorem half_odd (k x q : Nat) (h : q % 2 = 1) : M.st (8 * 2 ^ (k + 1) * (q / 2)) (M.st (8 * 2 ^ k) x) = M.st (8 * 2 ^ k * q) x := by
  rw [← M.st_add]
  congr 1
  rw [Nat.pow_succ]
  generalize 2 ^ k = p
  have e : q = 2 * (q / 2) + 1 := by omega
  generalize hq : q / 2 = c at e
  rw [e, Nat.mul_add, ← Nat.mul_assoc, ← Nat.mul_assoc (8 * p)]
  omega
theorem half_even (k x q : Nat) (h : ¬ q % 2 = 1) : M.st (8 * 2 ^ (k + 1) * (q / 2)) x = M.st (8 * 2 ^ k * q) x := by
  congr 1
  rw [Nat.pow_succ]
  generalize 2 ^ k = p
  have e : q = 2 * (q / 2) := by omega
  generalize hq : q / 2 = c at e
  rw [e, ← Nat.mul_assoc, ← Nat.mul_assoc (8 * p)]

set_option maxHeartbeats 400000 in
theorem overZeros_any (s : Nat) (n : Int) (w : World) (hs : s < 4294967296) (hn : n ≤ 9223372036854775807) :
    Calls Try.prog 25 #[.int .u32 s, .int .i64 n] w fun e w' => e = .returned (.int .u32 (M.st (8 * n.toNat) s : Nat)) ∧ Below w.heap.size w w' := by
  go_enter Try.func25, Try.ntmps25
  go_wp2_with fail
  refine (eightSteps_any _).mono ?_
  rintro e w1 ⟨rfl, hb1⟩
  go_wp2_with (refine wpList_store_row rfl 48 _ _ rfl w1.heap.size (mc (ms 8)) rfl rfl 48 _ (heap_alloc_new _ _) (info_mat _) rfl (mc_one _) ?_)
  simp only [Act.put]
  have hq : Mat ((w1.alloc (.cells (mc fun _ => 0) 48)).setRow w1.heap.size (mc (ms 8))) w1.heap.size (ms 8) := Mat.row (m := fun _ => 0) (heap_alloc_new _ _) _
  have hqb := below_setRow (hb1.alloc hb1.size (.cells (mc fun _ => 0) 48)) hb1.size (mc (ms 8))
  have hsz := hb1.size
  go_loopw [0, 1] (fun x i wx => ∃ (k y : Nat) (z : Int), i = .int .i64 z ∧ z ≤ 9223372036854775807 ∧ x = .int .u32 y ∧ y < 4294967296 ∧ M.st (8 * 2 ^ k * z.toNat) y = M.st (8 * n.toNat) s ∧ Mat wx w1.heap.size (ms (8 * 2 ^ k)) ∧ Below w.heap.size w wx) (fun _ i _ => (intOf i).toNat)
  case atStart =>
    refine ⟨0, s, n, rfl, hn, rfl, hs, rfl, ?_, ?_⟩
    · rw [mc_zero]; exact hq
    · rw [mc_zero]; exact hqb
  case round =>
    clear hq hqb hb1
    obtain ⟨k, y, z, rfl, hz, rfl, hy, hst, q1, hbel⟩ := hrel
    by_cases h0 : 0 < z
    · obtain ⟨q, rfl⟩ := Int.eq_ofNat_of_zero_le (show 0 ≤ z by omega)
      rw [Int.toNat_natCast] at hst
      have Hst : Hid (M.st (8 * 2 ^ k * q) y = M.st (8 * n.toNat) s) := hst
      clear hst
      by_cases hodd : q % 2 = 1
      · have ht : (bits BinOp.and IntKind.i64 (q : Int) 1 == 1) = true := by rw [and1_i64 q (by omega), hodd]; rfl
        have Ho : Hid (q % 2 = 1) := hodd
        clear hodd
        go_wp2_with (refine wpList_load_row rfl 48 _ rfl w1.heap.size rfl 48 _ (0, 0) _ q1 Try.underlying48 rfl (info_mat _) ?_)
        refine (times_ms (8 * 2 ^ k) y _ hy).mono ?_
        rintro e w2 ⟨rfl, hb2⟩
        have r1 := q1.keep hb2
        have rb := hbel.trans (hb2.mono hbel.size)
        clear q1 hbel hb2
        go_wp2_with (refine wpList_load_row rfl 48 _ rfl w1.heap.size rfl 48 _ (0, 0) _ r1 Try.underlying48 rfl (info_mat _) ?_)
        refine (square_ms (8 * 2 ^ k) _).mono ?_
        rintro e w3 ⟨rfl, hb3⟩
        have t1 := r1.keep hb3
        have tb := rb.trans (hb3.mono rb.size)
        clear r1 rb hb3
        go_wp2_with (refine wpList_store_row rfl 48 _ _ rfl w1.heap.size _ rfl rfl 48 _ t1 (info_mat _) (by rw [mc_size, mc_size]) (mc_one _) ?_)
        go_roundw
        case rel =>
          refine ⟨k + 1, M.st (8 * 2 ^ k) y, (q : Int) / 2, rfl, by omega, rfl, M.st_lt _ hy, ?_, ?_, below_setRow tb hsz _⟩
          · rw [show ((q : Int) / 2).toNat = q / 2 by omega, half_odd k y q Ho.out]; exact Hst.out
          · rw [show 8 * 2 ^ (k + 1) = 8 * 2 ^ k + 8 * 2 ^ k by rw [Nat.pow_succ]; omega]
            exact t1.row _
        case measure => simp [intOf]; omega
      · have ht : (bits BinOp.and IntKind.i64 (q : Int) 1 == 1) = false := by rw [and1_i64 q (by omega), beq_eq_false_iff_ne]; omega
        have Ho : Hid (¬ q % 2 = 1) := hodd
        clear hodd
        go_wp2_with (refine wpList_load_row rfl 48 _ rfl w1.heap.size rfl 48 _ (0, 0) _ q1 Try.underlying48 rfl (info_mat _) ?_)
        refine (square_ms (8 * 2 ^ k) _).mono ?_
        rintro e w3 ⟨rfl, hb3⟩
        have t1 := q1.keep hb3
        have tb := hbel.trans (hb3.mono hbel.size)
        clear q1 hbel hb3
        go_wp2_with (refine wpList_store_row rfl 48 _ _ rfl w1.heap.size _ rfl rfl 48 _ t1 (info_mat _) (by rw [mc_size, mc_size]) (mc_one _) ?_)
        go_roundw
        case rel =>
          refine ⟨k + 1, y, (q : Int) / 2, rfl, by omega, rfl, hy, ?_, ?_, below_setRow tb hsz _⟩
          · rw [show ((q : Int) / 2).toNat = q / 2 by omega, half_even k y q Ho.out]; exact Hst.out
          · rw [show 8 * 2 ^ (k + 1) = 8 * 2 ^ k + 8 * 2 ^ k by rw [Nat.pow_succ]; omega]
            exact t1.row _
        case measure => simp [intOf]; omega
    · have hfin : y = M.st (8 * n.toNat) s := by
        rw [← hst, show z.toNat = 0 by omega, Nat.mul_zero]; rfl
      have Hf : Hid (y = M.st (8 * n.toNat) s) := hfin
      clear hfin hst
      go_wp2
      go_ret
      exact ⟨ret_int (by rw [Hf.out]), hbel⟩
end Go.Proofs.Ytkhdbeambmfdfaa
