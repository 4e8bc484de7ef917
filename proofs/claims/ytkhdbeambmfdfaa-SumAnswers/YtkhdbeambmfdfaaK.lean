import Derived.Test.YtkhdbeambmfdfaaE
import Derived.Test.YtkhdbeambmfdfaaF
import Derived.Deep.RegionHeld3
import Derived.Deep.DrawnRows
namespace Go.Proofs.Ytkhdbeambmfdfaa
open Go.RowKit
attribute [local go_sem ↓] Go.wp_at_zero Go.wp_at_succ

theorem info_arr (m : Nat → Nat) : (Try.prog.info? 47).map (·.size) = some (mc m).size := by rw [mc_size]; kernel_rfl
/-- a block of 32 numbers -/
def Mar (w : World) (b : Nat) (m : Nat → Nat) : Prop := w.heap[b]? = some (.cells (mc m) 47 (0, 0))
theorem Mar.cell {w : World} {b : Nat} {m : Nat → Nat} (h : Mar w b m) {i : Nat} (hi : i < 32) : w.cell? ⟨b, i, none⟩ = some (.int .u32 (m i : Int)) := by
  rw [cell_of_row w b i _ _ _ h, mc_get m i hi]
theorem Mar.frozen {w : World} {b : Nat} {m : Nat → Nat} (h : Mar w b m) (i : Nat) : w.frozen? ⟨b, i, none⟩ = false := frozen_of_row w b i _ _ h
theorem Mar.lt {w : World} {b : Nat} {m : Nat → Nat} (h : Mar w b m) : b < w.heap.size := (Array.getElem?_eq_some_iff.1 h).1
theorem Mar.below {w w' : World} {B b : Nat} {m : Nat → Nat} (h : Mar w b m) (hb : Below B w w') (hB : b < B) : Mar w' b m := (hb.block b hB).trans h
theorem Mar.keep {w w' : World} {b : Nat} {m : Nat → Nat} (h : Mar w b m) (hb : Below w.heap.size w w') : Mar w' b m := h.below hb h.lt
theorem Mar.ext {w : World} {b : Nat} {m m' : Nat → Nat} (h : Mar w b m) (he : ∀ i, i < 32 → m i = m' i) : Mar w b m' := by
  unfold Mar at h ⊢; rw [h, mc_ext m m' he]
theorem Mar.set {w : World} {b : Nat} {m : Nat → Nat} (h : Mar w b m) (i v : Nat) : Mar (w.setCell ⟨b, i, none⟩ (.int .u32 (v : Int))) b fun j => if j = i then v else m j := by
  unfold Mar
  rw [heap_setCell_same w b i _ _ _ h, mc_set]
theorem Mar.other {w : World} {b : Nat} {m : Nat → Nat} (h : Mar w b m) (a : Addr) (v : Value) (hne : b ≠ a.block) : Mar (w.setCell a v) b m :=
  (heap_setCell_other w a b v hne).trans h
theorem Mar.row {w : World} {b : Nat} {m : Nat → Nat} (h : Mar w b m) (m' : Nat → Nat) : Mar (w.setRow b (mc m')) b m' := setRow_heap _ _ _ _ _ _ h
theorem Mar.rowOther {w : World} {b g : Nat} {m : Nat → Nat} (h : Mar w b m) (cs : Array Value) (hne : b ≠ g) : Mar (w.setRow g cs) b m := (setRow_other _ _ _ _ hne).trans h


theorem bit_odd {s k : Nat} (h : s / 2 ^ k % 2 = 1) : (((s : Int) / 2 ^ k).tmod 2 == 1) = true := by
  have e : ((s : Int) / 2 ^ k) = ((s / 2 ^ k : Nat) : Int) := by simp
  rw [e, Int.tmod_eq_emod_of_nonneg (Int.natCast_nonneg _), beq_iff_eq]; omega
theorem bit_even {s k : Nat} (h : ¬ s / 2 ^ k % 2 = 1) : (((s : Int) / 2 ^ k).tmod 2 == 1) = false := by
  have e : ((s : Int) / 2 ^ k) = ((s / 2 ^ k : Nat) : Int) := by simp
  rw [e, Int.tmod_eq_emod_of_nonneg (Int.natCast_nonneg _), beq_eq_false_iff_ne]; omega

set_option maxHeartbeats 400000 in
theorem rTurned_any (m : Nat → Nat) (s : Nat) (w : World) (hm : ∀ i, i < 32 → m i < 4294967296) :
    Calls Try.prog 31 #[.agg (mc m), .int .u32 s] w fun e w' => e = .returned (.int .u32 (M.tmTo m s 32 : Nat)) ∧ Below w.heap.size w w' := by
  go_enter Try.func31, Try.ntmps31
  go_wp2
  go_loopw [5, 6] (fun t i wx => ∃ k : Nat, k ≤ 32 ∧ i = .int .i64 k ∧ t = .int .u32 ((M.tmTo m s k : Nat) : Int) ∧ Mar wx w.heap.size m ∧ Below w.heap.size w wx) (fun _ i _ => 32 - (intOf i).toNat)
  case atStart => exact ⟨0, Nat.zero_le _, rfl, rfl, heap_alloc_new _ _, (Below.refl _ _).alloc (Nat.le_refl _) _⟩
  case round =>
    obtain ⟨k, hk, rfl, rfl, m0, hbel⟩ := hrel
    have htl := M.tmTo_lt m s hm k hk
    by_cases hlt : k < 32
    · have hcell := m0.cell hlt
      have hml := hm k hlt
      by_cases ho : s / 2 ^ k % 2 = 1
      · have Hn : Hid (M.tmTo m s (k + 1) = M.tmTo m s k ^^^ m k) := tm_odd ho
        have ht := bit_odd ho
        have e1 := xor32 _ _ htl hml
        clear ho htl hml hm
        generalize M.tmTo m s k ^^^ m k = u at e1 Hn
        generalize M.tmTo m s k = y at *
        generalize m k = z at *
        go_wp2
        go_roundw
        case rel => exact ⟨k + 1, by omega, by go_num, int_eq (by rw [Hn.out]), m0, hbel⟩
        case measure => simp [intOf]; omega
      · have Hn : Hid (M.tmTo m s (k + 1) = M.tmTo m s k) := tm_even ho
        have ht := bit_even ho
        clear ho htl hml hm
        generalize M.tmTo m s k = y at *
        go_wp2
        go_roundw
        case rel => exact ⟨k + 1, by omega, by go_num, int_eq (by rw [Hn.out]), m0, hbel⟩
        case measure => simp [intOf]; omega
    · obtain rfl : k = 32 := by omega
      go_wp2
      go_ret
      exact ⟨rfl, hbel⟩
theorem rTurned_ms (n s : Nat) (w : World) (hs : s < 4294967296) :
    Calls Try.prog 31 #[.agg (mc (ms n)), .int .u32 s] w fun e w' => e = .returned (.int .u32 (M.st n s : Nat)) ∧ Below w.heap.size w w' := by
  have h := rTurned_any (ms n) s w (ms_lt n)
  rw [M.tm_st (ms n) n s hs fun _ _ => rfl] at h
  exact h

theorem steps_facts {W : World} {g b N i : Nat} {m : Nat → Nat} (h1 : Mar W g (ms N)) (h2 : Mar W b (fun t => if t < i then m t else 0)) (hi : i < 32) :
    W.rangeAt g 0 (mc (ms N)).toList ∧ W.cell? ⟨g, i, none⟩ = some (.int .u32 (ms N i : Nat)) ∧ W.cell? ⟨b, i, none⟩ = some (.int .u32 0) ∧ W.frozen? ⟨b, i, none⟩ = false ∧ True := by
  refine ⟨?_, h1.cell hi, ?_, h2.frozen i, trivial⟩
  · intro j v hv
    rw [Nat.zero_add, cell_of_row _ _ _ _ _ _ h1]
    simpa using hv
  · have h := h2.cell hi
    rw [if_neg (Nat.lt_irrefl _)] at h
    exact h
theorem steps_keep {W W' : World} {g i : Nat} {cs : List Value} {x : Nat} (hb : Below W.heap.size W W')
    (h : W.rangeAt g 0 cs ∧ W.cell? ⟨g, i, none⟩ = some (.int .u32 x)) :
    W'.rangeAt g 0 cs ∧ W'.cell? ⟨g, i, none⟩ = some (.int .u32 x) := by
  obtain ⟨h1, h2⟩ := h
  exact ⟨fun j v hv => (hb.cell (p := ⟨g, 0 + j, none⟩) (show g < W.heap.size from block_lt_of_cell h2)).trans (h1 j v hv), (hb.cell (p := ⟨g, i, none⟩) (block_lt_of_cell h2)).trans h2⟩
theorem steps_store {W : World} {g b i : Nat} {cs : List Value} {x : Nat} {u : Value} (hne : g ≠ b)
    (h : W.rangeAt g 0 cs ∧ W.cell? ⟨g, i, none⟩ = some (.int .u32 x)) :
    (W.setCell ⟨b, i, none⟩ u).rangeAt g 0 cs ∧ (W.setCell ⟨b, i, none⟩ u).cell? ⟨g, i, none⟩ = some (.int .u32 x) := by
  obtain ⟨h1, h2⟩ := h
  have hk : ∀ a : Addr, a.block = g → (W.setCell ⟨b, i, none⟩ u).cell? a = W.cell? a := fun a ha => World.cell?_of_block (w := W) (heap_setCell_other W ⟨b, i, none⟩ a.block u (by rw [ha]; exact hne))
  exact ⟨fun j v hv => (hk _ rfl).trans (h1 j v hv), (hk _ rfl).trans h2⟩

set_option maxRecDepth 100000 in
set_option maxHeartbeats 2000000 in
theorem rSteps_any (s : Nat) (n : Int) (w : World) (hs : s < 4294967296) (hn : n ≤ 9223372036854775807) :
    Calls Try.prog 26 #[.int .u32 s, .int .i64 n] w fun e w' => e = .returned (.int .u32 (M.st (8 * n.toNat) s : Nat)) ∧ Below w.heap.size w w' := by
  go_enter Try.func26, Try.ntmps26
  go_wp2
  go_loopw [6] (fun i wx => ∃ k : Nat, k ≤ 32 ∧ i = .int .i64 k ∧ Mar wx w.heap.size (fun j => if j < k then ms 8 j else 0) ∧ Below w.heap.size w wx) (fun i _ => 32 - (intOf i).toNat)
  case atStart =>
    refine ⟨0, Nat.zero_le _, rfl, ?_, ?_⟩
    · rw [mc_zero]; exact (show Mar _ _ (fun _ => 0) from heap_alloc_new _ _)
    · exact (Below.refl _ _).alloc (Nat.le_refl _) _
  case round =>
    obtain ⟨k, hk, rfl, m0, hbel⟩ := hrel
    by_cases hlt : k < 32
    · have hc1 := m0.cell hlt
      have hf1 := m0.frozen k
      rw [if_neg (Nat.lt_irrefl _)] at hc1
      have hp : 2 ^ k < 2 ^ 32 := Nat.pow_lt_pow_right (by decide) hlt
      rw [show 2 ^ 32 = 4294967296 from rfl] at hp
      have ep := pow_mod k hlt
      have H8 : Hid (ms 8 k = M.st 8 (2 ^ k)) := rfl
      generalize 2 ^ k = p at *
      go_wp2_with (go_at_call 27; refine (rEight_any p _ hp).mono ?_; rintro e w1 ⟨rfl, rfl⟩)
      go_roundw
      case rel =>
        refine ⟨k + 1, by omega, by go_num, ?_, hbel.setCell (Nat.le_refl _) _⟩
        rw [← H8.out]
        refine (m0.set k _).ext ?_
        intro i _
        by_cases e : i = k
        · subst e; simp
        · by_cases e2 : i < k
          · simp [e, e2, show i < k + 1 by omega]
          · simp [e, e2, show ¬ i < k + 1 by omega]
      case measure => simp [intOf]; omega
    · obtain rfl : k = 32 := by omega
      have m3 := m0.ext (m' := ms (8 * 2 ^ 0)) (fun i hi => by simp [hi])
      clear m0 hk hlt
      rw [show ((32 : Nat) : Int) = 32 from rfl]
      go_wp2
      go_loopw [0, 1] (fun x i wx => ∃ (k y : Nat) (z : Int), i = .int .i64 z ∧ z ≤ 9223372036854775807 ∧ x = .int .u32 y ∧ y < 4294967296 ∧ M.st (8 * 2 ^ k * z.toNat) y = M.st (8 * n.toNat) s ∧ Mar wx w.heap.size (ms (8 * 2 ^ k)) ∧ Below w.heap.size w wx) (fun _ i _ => (intOf i).toNat)
      case atStart => exact ⟨0, s, n, rfl, hn, rfl, hs, rfl, m3, hbel⟩
      case round =>
        clear m3 hbel
        obtain ⟨k, y, z, rfl, hz, rfl, hy, hst, q1, hbel⟩ := hrel
        by_cases h0 : 0 < z
        · obtain ⟨q, rfl⟩ := Int.eq_ofNat_of_zero_le (show 0 ≤ z by omega)
          rw [Int.toNat_natCast] at hst
          have Hst : Hid (M.st (8 * 2 ^ k * q) y = M.st (8 * n.toNat) s) := hst
          clear hst
          by_cases hodd : q % 2 = 1
          · have ht : ((q : Int) % 2 == 1) = true := by rw [beq_iff_eq]; omega
            have Ho : Hid (q % 2 = 1) := hodd
            clear hodd
            go_wp2_with (refine wpList_load_row rfl 47 _ rfl w.heap.size rfl 47 _ (0, 0) _ q1 Try.underlying47 rfl (info_arr _) ?_)
            refine (rTurned_ms (8 * 2 ^ k) y _ hy).mono ?_
            rintro e w2 ⟨rfl, hb2⟩
            have r1 := q1.keep hb2
            have rb := hbel.trans (hb2.mono hbel.size)
            clear q1 hbel hb2
            have hsz := r1.lt
            go_wp2
            go_loopw [8] (fun j wx => ∃ i : Nat, i ≤ 32 ∧ j = .int .i64 i ∧ Mar wx w.heap.size (ms (8 * 2 ^ k)) ∧ Mar wx w2.heap.size (fun t => if t < i then ms (8 * 2 ^ k + 8 * 2 ^ k) t else 0) ∧ Below w.heap.size w wx) (fun j _ => 32 - (intOf j).toNat)
            case atStart =>
              refine ⟨0, Nat.zero_le _, rfl, (heap_alloc_old _ _ hsz).trans r1, ?_, rb.alloc (by omega) _⟩
              rw [mc_zero]; exact (show Mar _ _ (fun _ => 0) from heap_alloc_new _ _)
            case round =>
              clear r1 rb
              obtain ⟨i, hi, rfl, s1, s2, sb⟩ := hrel
              by_cases hlt : i < 32
              · have hI0 : (0 : Int) ≤ (i : Int) := Int.natCast_nonneg _
                have hI1 : (i : Int) < 32 := by omega
                have T := hide fun W => rTurned_ms (8 * 2 ^ k) (ms (8 * 2 ^ k) i) W (ms_lt _ i hlt)
                have HV : Hid (ms (8 * 2 ^ k + 8 * 2 ^ k) i = M.st (8 * 2 ^ k) (ms (8 * 2 ^ k) i)) := M.st_add _ _ _
                obtain ⟨u1, u2, u3, u4, u5⟩ := steps_facts s1 s2 hlt
                have hu := Try.underlying47
                have hinfo : (Try.prog.info? 47).map (·.size) = some (mc (ms (8 * 2 ^ k))).toList.length := by rw [Array.length_toList]; exact info_arr _
                have hcl : (mc (ms (8 * 2 ^ k))).toList.length = 32 := by rw [Array.length_toList]; exact mc_size _
                have hco : ∀ v ∈ (mc (ms (8 * 2 ^ k))).toList, v.oneCell' = true := fun v hv => (Array.all_eq_true_iff_forall_mem.1 (mc_one _)) v (by simpa using hv)
                have HC : Hid ((mc (ms (8 * 2 ^ k))).toList.toArray = mc (ms (8 * 2 ^ k))) := by show _ = _; rw [Array.toArray_toList]
                rw [← HC.out] at T
                generalize (mc (ms (8 * 2 ^ k))).toList = cs at *
                generalize M.st (8 * 2 ^ k) (ms (8 * 2 ^ k) i) = v at *
                generalize ms (8 * 2 ^ k) i = x at *
                have hne : w.heap.size ≠ w2.heap.size := by omega
                go_wp2
                go_region_held3 (fun w' => w'.rangeAt w.heap.size 0 cs ∧ w'.cell? ⟨w.heap.size, i, none⟩ = some (.int .u32 x))
                  (first | exact ⟨(World.rangeAt_drew _ _ _ _).2 u1, u2⟩ | (refine steps_store hne ?_; assumption) | (refine steps_keep hb3 ?_; assumption))
                  (first | (go_at_call 31; refine (T.out _).mono ?_; rintro e w3 ⟨rfl, hb3⟩; have hc3 := (hb3.cell (p := ⟨w2.heap.size, i, none⟩) (block_lt_of_cell u3)).trans u3; have hf3 := (hb3.frozen (p := ⟨w2.heap.size, i, none⟩) (block_lt_of_cell u3)).trans u4))
                go_wp2
                go_roundw
                case rel =>
                  refine ⟨i + 1, by omega, by go_num, (Mar.keep (w := wr.drew) s1 hb3).other _ _ hne, ?_, (bt sb.drew hb3).setCell (by show w.heap.size ≤ w2.heap.size; omega) _⟩
                  rw [← HV.out]
                  refine ((Mar.keep (w := wr.drew) s2 hb3).set i _).ext ?_
                  intro t _
                  by_cases e : t = i
                  · subst e; simp
                  · by_cases e2 : t < i
                    · simp [e, e2, show t < i + 1 by omega]
                    · simp [e, e2, show ¬ t < i + 1 by omega]
                case measure => simp [intOf]; omega
              · obtain rfl : i = 32 := by omega
                have s3 := s2.ext (m' := ms (8 * 2 ^ k + 8 * 2 ^ k)) (fun t ht => by simp [ht])
                clear s2 hi hlt
                go_wp2_with (first | (refine wpList_load_row rfl 47 _ rfl w2.heap.size rfl 47 _ (0, 0) _ s3 Try.underlying47 rfl (info_arr _) ?_) | (refine wpList_store_row rfl 47 _ _ rfl w.heap.size _ rfl rfl 47 _ s1 (info_arr _) (by rw [mc_size, mc_size]) (mc_one _) ?_))
                go_roundw
                case rel =>
                  refine ⟨k + 1, M.st (8 * 2 ^ k) y, (q : Int) / 2, rfl, by omega, rfl, M.st_lt _ hy, ?_, ?_, below_setRow sb (Nat.le_refl _) _⟩
                  · rw [show ((q : Int) / 2).toNat = q / 2 by omega, half_odd k y q Ho.out]; exact Hst.out
                  · rw [show 8 * 2 ^ (k + 1) = 8 * 2 ^ k + 8 * 2 ^ k by rw [Nat.pow_succ]; omega]
                    exact s1.row _
                case measure => simp [intOf]; omega
          · have ht : ((q : Int) % 2 == 1) = false := by rw [beq_eq_false_iff_ne]; omega
            have Ho : Hid (¬ q % 2 = 1) := hodd
            clear hodd
            have r1 := q1
            have rb := hbel
            clear q1 hbel
            generalize wr = w2 at *
            have hsz := r1.lt
            go_wp2
            simp only [show 0 < q by omega, decide_true]
            go_loopw [8] (fun j wx => ∃ i : Nat, i ≤ 32 ∧ j = .int .i64 i ∧ Mar wx w.heap.size (ms (8 * 2 ^ k)) ∧ Mar wx w2.heap.size (fun t => if t < i then ms (8 * 2 ^ k + 8 * 2 ^ k) t else 0) ∧ Below w.heap.size w wx) (fun j _ => 32 - (intOf j).toNat)
            case atStart =>
              refine ⟨0, Nat.zero_le _, rfl, (heap_alloc_old _ _ hsz).trans r1, ?_, rb.alloc (by omega) _⟩
              rw [mc_zero]; exact (show Mar _ _ (fun _ => 0) from heap_alloc_new _ _)
            case round =>
              clear r1 rb
              obtain ⟨i, hi, rfl, s1, s2, sb⟩ := hrel
              by_cases hlt : i < 32
              · have hI0 : (0 : Int) ≤ (i : Int) := Int.natCast_nonneg _
                have hI1 : (i : Int) < 32 := by omega
                have T := hide fun W => rTurned_ms (8 * 2 ^ k) (ms (8 * 2 ^ k) i) W (ms_lt _ i hlt)
                have HV : Hid (ms (8 * 2 ^ k + 8 * 2 ^ k) i = M.st (8 * 2 ^ k) (ms (8 * 2 ^ k) i)) := M.st_add _ _ _
                obtain ⟨u1, u2, u3, u4, u5⟩ := steps_facts s1 s2 hlt
                have hu := Try.underlying47
                have hinfo : (Try.prog.info? 47).map (·.size) = some (mc (ms (8 * 2 ^ k))).toList.length := by rw [Array.length_toList]; exact info_arr _
                have hcl : (mc (ms (8 * 2 ^ k))).toList.length = 32 := by rw [Array.length_toList]; exact mc_size _
                have hco : ∀ v ∈ (mc (ms (8 * 2 ^ k))).toList, v.oneCell' = true := fun v hv => (Array.all_eq_true_iff_forall_mem.1 (mc_one _)) v (by simpa using hv)
                have HC : Hid ((mc (ms (8 * 2 ^ k))).toList.toArray = mc (ms (8 * 2 ^ k))) := by show _ = _; rw [Array.toArray_toList]
                rw [← HC.out] at T
                generalize (mc (ms (8 * 2 ^ k))).toList = cs at *
                generalize M.st (8 * 2 ^ k) (ms (8 * 2 ^ k) i) = v at *
                generalize ms (8 * 2 ^ k) i = x at *
                have hne : w.heap.size ≠ w2.heap.size := by omega
                go_wp2
                go_region_held3 (fun w' => w'.rangeAt w.heap.size 0 cs ∧ w'.cell? ⟨w.heap.size, i, none⟩ = some (.int .u32 x))
                  (first | exact ⟨(World.rangeAt_drew _ _ _ _).2 u1, u2⟩ | (refine steps_store hne ?_; assumption) | (refine steps_keep hb3 ?_; assumption))
                  (first | (go_at_call 31; refine (T.out _).mono ?_; rintro e w3 ⟨rfl, hb3⟩; have hc3 := (hb3.cell (p := ⟨w2.heap.size, i, none⟩) (block_lt_of_cell u3)).trans u3; have hf3 := (hb3.frozen (p := ⟨w2.heap.size, i, none⟩) (block_lt_of_cell u3)).trans u4))
                go_wp2
                go_roundw
                case rel =>
                  refine ⟨i + 1, by omega, by go_num, (Mar.keep (w := wr.drew) s1 hb3).other _ _ hne, ?_, (bt sb.drew hb3).setCell (by show w.heap.size ≤ w2.heap.size; omega) _⟩
                  rw [← HV.out]
                  refine ((Mar.keep (w := wr.drew) s2 hb3).set i _).ext ?_
                  intro t _
                  by_cases e : t = i
                  · subst e; simp
                  · by_cases e2 : t < i
                    · simp [e, e2, show t < i + 1 by omega]
                    · simp [e, e2, show ¬ t < i + 1 by omega]
                case measure => simp [intOf]; omega
              · obtain rfl : i = 32 := by omega
                have s3 := s2.ext (m' := ms (8 * 2 ^ k + 8 * 2 ^ k)) (fun t ht => by simp [ht])
                clear s2 hi hlt
                go_wp2_with (first | (refine wpList_load_row rfl 47 _ rfl w2.heap.size rfl 47 _ (0, 0) _ s3 Try.underlying47 rfl (info_arr _) ?_) | (refine wpList_store_row rfl 47 _ _ rfl w.heap.size _ rfl rfl 47 _ s1 (info_arr _) (by rw [mc_size, mc_size]) (mc_one _) ?_))
                go_roundw
                case rel =>
                  refine ⟨k + 1, y, (q : Int) / 2, rfl, by omega, rfl, hy, ?_, ?_, below_setRow sb (Nat.le_refl _) _⟩
                  · rw [show ((q : Int) / 2).toNat = q / 2 by omega, half_even k y q Ho.out]; exact Hst.out
                  · rw [show 8 * 2 ^ (k + 1) = 8 * 2 ^ k + 8 * 2 ^ k by rw [Nat.pow_succ]; omega]
                    exact s1.row _
                case measure => simp [intOf]; omega
        · have hfin : y = M.st (8 * n.toNat) s := by
            rw [← hst, show z.toNat = 0 by omega, Nat.mul_zero]; rfl
          have Hf : Hid (y = M.st (8 * n.toNat) s) := hfin
          clear hfin hst
          go_wp2
          go_ret
          exact ⟨ret_int (by rw [Hf.out]), hbel⟩
end Go.Proofs.Ytkhdbeambmfdfaa
