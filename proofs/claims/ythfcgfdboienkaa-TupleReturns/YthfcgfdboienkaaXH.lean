import Derived.Test.YthfcgfdboienkaaXG
import Derived.Test.YthfcgfdboienkaaVP
import Derived.Laws.CopyOwn
namespace Go.Proofs.Ythfcgfdboienkaa
open Go.RowKit

theorem heap_two0 (w : World) (o1 o2 : Obj) : ((w.alloc o1).alloc o2).heap[w.heap.size]? = some o1 := by
  show ((w.heap.push o1).push o2)[w.heap.size]? = _
  rw [Array.getElem?_push_lt (by simp), Array.getElem_push_eq]
theorem heap_set {w : World} {g k : Nat} {C : Array Value} {t : TypeId} {v : Value} (h : w.heap[g]? = some (.cells C t (0, 0))) : (w.setCell ⟨g, k, none⟩ v).heap[g]? = some (.cells (C.setIfInBounds k v) t (0, 0)) := by
  show (w.heap.modify g _)[g]? = _
  rw [Array.getElem?_modify, if_pos rfl, h]
  rfl
set_option maxHeartbeats 1600000 in
theorem parse_any (w : World) (b off cap n : Nat) (l : List Nat) (hB : Bs w (some ⟨b, off, none⟩) l) (hl : l.length ≤ 4096) (h0 : 0 < l.length) (hcap : l.length ≤ cap) (hf : isFirst (l.getD 0 0) = true)
    (hL : (l.getD 0 0 = 48 → l.length = 9) ∧ (l.getD 0 0 = 56 → l.length = 17) ∧ (23 ≤ l.getD 0 0 ∧ l.getD 0 0 ≤ 40 → l.length ≤ 9) ∧ (l.getD 0 0 = 64 → 2 ≤ l.length)) (hn : n = l.length) :
    Calls Try.prog 70 #[.int .i64 (kof (l.getD 0 0)), .slice (some ⟨b, off, none⟩) n cap] w fun e w' => e = .returned (.agg (vget l).pc) ∧ Below w.heap.size w w' := by
  subst hn
  obtain ⟨_, _, e, hc⟩ := (byte_at hB (Below.refl _ _) h0)
  simp only [Option.some.injEq, Addr.mk.injEq, and_true] at e
  obtain ⟨rfl, rfl⟩ := e
  have hhd : l.headD 0 = l.getD 0 0 := by cases l <;> simp
  have hlw := block_lt_of_cell hc
  have HB := hide hB
  have sf := st_float
  have sc := st_complex
  have hbytes := getD_lt hB.1 h0
  have HD := hide (hB.drop' 1)
  have HD0 : Hid (l.length ≤ 1 → ∀ a', Bs w a' (l.drop 1)) := fun h a' => by rw [List.drop_of_length_le h]; exact Bs.empty _ _
  have hvg : vget l = (if l.getD 0 0 = 1 then VV.zero
  else if l.getD 0 0 ≤ 3 then { VV.zero with kind := 1, bool := decide (l.getD 0 0 = 3) }
  else if l.getD 0 0 ≤ 40 then { VV.zero with kind := 2, int := sint (if l.getD 0 0 < 32 then 18446744073709551616 - 256 ^ (l.drop 1).length + be (l.drop 1) else be (l.drop 1)) }
  else if l.getD 0 0 = 48 then { VV.zero with kind := 3, real := unrank (be (l.drop 1)) }
  else if l.getD 0 0 = 56 then { VV.zero with kind := 4, re := unrank (be ((l.drop 1).take 8)), im := unrank (be ((l.drop 1).drop 8)) }
  else { VV.zero with kind := 5, text := lt (unesc (l.drop 1).dropLast) }) := by
    unfold vget
    simp only [hhd, List.drop_one]
  rw [hvg]
  clear hvg hhd hB
  rw [Nat.add_zero] at hc
  have BB : ∀ o o2, Below w.heap.size w ((w.alloc o).alloc o2) := fun o o2 => ((Below.refl w.heap.size w).alloc (Nat.le_refl _) o).alloc (by rw [size_alloc]; omega) o2
  have hd := of_decide_eq_true hf
  generalize l.getD 0 0 = c at *
  have h7 : c = 1 ∨ c = 2 ∨ c = 3 ∨ c = 48 ∨ c = 56 ∨ c = 64 ∨ (23 ≤ c ∧ c ≤ 31) ∨ (32 ≤ c ∧ c ≤ 40) := by omega
  clear hd
  rcases h7 with rfl | rfl | rfl | rfl | rfl | rfl | ⟨g1, g2⟩ | ⟨g1, g2⟩
  · rw [show kof 1 = 0 from rfl, if_pos rfl]
    unfold VV.pc VV.zero
    rw [show (ByteArray.empty : ByteArray) = ⟨#[]⟩ from rfl]
    go_enter Try.func70, Try.ntmps70
    go_wp2
    all_goals (refine bodyPost_ret (v := .agg _) (by simp [results, Try.results70, go_sem]) rfl ⟨rfl, ?_⟩)
    all_goals first | exact BB _ _ | exact (BB _ _).drew
  · rw [show kof 2 = 1 from rfl, if_neg (by decide), if_pos (by decide)]
    unfold VV.pc VV.zero
    rw [show (ByteArray.empty : ByteArray) = ⟨#[]⟩ from rfl]
    have hc : w.cell? ⟨b, off, none⟩ = some (.int .u8 2) := hc
    go_enter Try.func70, Try.ntmps70
    go_wp2
    all_goals (refine bodyPost_ret (v := .agg _) (by simp [results, Try.results70, go_sem]) rfl ⟨rfl, ?_⟩)
    all_goals first | exact BB _ _ | exact (BB _ _).drew
  · rw [show kof 3 = 1 from rfl, if_neg (by decide), if_pos (by decide)]
    unfold VV.pc VV.zero
    rw [show (ByteArray.empty : ByteArray) = ⟨#[]⟩ from rfl]
    have hc : w.cell? ⟨b, off, none⟩ = some (.int .u8 3) := hc
    go_enter Try.func70, Try.ntmps70
    go_wp2
    all_goals (refine bodyPost_ret (v := .agg _) (by simp [results, Try.results70, go_sem]) rfl ⟨rfl, ?_⟩)
    all_goals first | exact BB _ _ | exact (BB _ _).drew
  · rw [show kof 48 = 3 from rfl, if_neg (by decide), if_neg (by decide), if_neg (by decide), if_pos rfl]
    unfold VV.pc VV.zero
    rw [show (ByteArray.empty : ByteArray) = ⟨#[]⟩ from rfl]
    have h9 := hL.1 rfl
    have HF := hide (fun W (h : Below w.heap.size w W) => highFirst_any W (some ⟨b, off + 1, none⟩) 8 (cap - 1) (l.drop 1) (HD.out.keep h) (by rw [List.length_drop]; omega) (by rw [List.length_drop]; omega))
    have RK := hide (fun W => ranked_any W (be (l.drop 1)) (be_small HD.out.1 (by rw [List.length_drop]; omega)))
    generalize unrank (be (l.drop 1)) = y at *
    generalize be (l.drop 1) = x at *
    go_enter Try.func70, Try.ntmps70
    go_wp2_with fail
    refine (HF.out _ (BB _ _)).mono ?_
    rintro e w1 ⟨rfl, rfl⟩
    go_wp2_with fail
    refine (RK.out _).mono ?_
    rintro e w1 ⟨rfl, rfl⟩
    go_wp2
    all_goals (refine bodyPost_ret (v := .agg _) (by simp [results, Try.results70, go_sem]) rfl ⟨rfl, ?_⟩)
    all_goals first | exact BB _ _ | exact (BB _ _).drew
  · rw [show kof 56 = 4 from rfl, if_neg (by decide), if_neg (by decide), if_neg (by decide), if_neg (by decide), if_pos rfl]
    unfold VV.pc VV.zero
    rw [show (ByteArray.empty : ByteArray) = ⟨#[]⟩ from rfl]
    have h9 := hL.2.1 rfl
    have h1 := hide (fun W (h : Below w.heap.size w W) => highFirst_any W (some ⟨b, off + 1, none⟩) 8 (cap - 1) ((l.drop 1).take 8) ((HD.out.take' 8).keep h) (by rw [List.length_take, List.length_drop]; omega) (by rw [List.length_take, List.length_drop]; omega))
    have h2 := hide (fun W (h : Below w.heap.size w W) => highFirst_any W (some ⟨b, off + 1 + 8, none⟩) 8 (cap - 1 - 8) ((l.drop 1).drop 8) ((HD.out.drop' 8).keep h) (by rw [List.length_drop, List.length_drop]; omega) (by rw [List.length_drop, List.length_drop]; omega))
    have r1 := hide (fun W => ranked_any W (be ((l.drop 1).take 8)) (be_small (HD.out.take' 8).1 (by rw [List.length_take, List.length_drop]; omega)))
    have r2 := hide (fun W => ranked_any W (be ((l.drop 1).drop 8)) (be_small (HD.out.drop' 8).1 (by rw [List.length_drop, List.length_drop]; omega)))
    generalize unrank (be ((l.drop 1).take 8)) = y1 at *
    generalize be ((l.drop 1).take 8) = x1 at *
    generalize unrank (be ((l.drop 1).drop 8)) = y2 at *
    generalize be ((l.drop 1).drop 8) = x2 at *
    have MK : Hid (x1 = x1) := rfl
    have hq9 : ¬ cap = 9 := by omega
    have hq8 : (8 : Int) ≤ ((cap - 1 : Nat) : Int) := by omega
    go_enter Try.func70, Try.ntmps70
    go_wp2
    go_region_held3 (fun _ => True) (trivial)
      (first | (go_at_call 83; have mk2 := MK; clear MK; refine (h1.out _ (BB _ _).drew).mono ?_; rintro e w1 ⟨rfl, rfl⟩) | (go_at_call 83; refine (h2.out _ (BB _ _).drew).mono ?_; rintro e w1 ⟨rfl, rfl⟩) | (go_at_call_of 82 x1; refine (r1.out _).mono ?_; rintro e w1 ⟨rfl, rfl⟩) | (go_at_call_of 82 x2; refine (r2.out _).mono ?_; rintro e w1 ⟨rfl, rfl⟩))
    all_goals (go_wp2; refine bodyPost_ret (v := .agg _) (by simp [results, Try.results70, go_sem]) rfl ⟨rfl, ?_⟩; first | exact BB _ _ | exact (BB _ _).drew)
  · rw [show kof 64 = 5 from rfl, if_neg (by decide), if_neg (by decide), if_neg (by decide), if_neg (by decide), if_neg (by decide)]
    unfold VV.pc VV.zero
    rw [show (ByteArray.empty : ByteArray) = ⟨#[]⟩ from rfl]
    have h9 := hL.2.2.2 rfl
    have PT := hide (fun W (h : Below w.heap.size w W) => parseText_any W (some ⟨b, off + 1, none⟩) (l.length - 1 - 1) (cap - 1) (l.drop 1).dropLast (by rw [List.dropLast_eq_take]; exact (HD.out.take' _).keep h) (by rw [List.length_dropLast, List.length_drop]; omega) (by rw [List.length_dropLast, List.length_drop]))
    generalize lt (unesc (l.drop 1).dropLast) = tx at *
    go_enter Try.func70, Try.ntmps70
    go_wp2_with fail
    refine (PT.out _ (BB _ _)).mono ?_
    rintro e w1 ⟨rfl, hb⟩
    have m0 := (hb.block w.heap.size (by rw [size_alloc, size_alloc]; omega)).trans (heap_two0 _ _ _)
    have m1 := (hb.block (w.heap.size + 1) (by rw [size_alloc, size_alloc]; omega)).trans (heap_alloc2_new _ _ _)
    have hc5 := cell_of_row w1 (w.heap.size + 1) 5 _ _ _ m1
    have hf5 := frozen_of_row w1 (w.heap.size + 1) 5 _ _ m1
    simp only [List.getElem?_toArray, List.getElem?_cons_succ, List.getElem?_cons_zero] at hc5
    have M1 : Hid ((w1.setCell ⟨w.heap.size + 1, 5, none⟩ (.string tx)).heap[w.heap.size + 1]? = some (.cells #[.int .i64 5, .bool false, .int .i64 0, .float .f64 0, .complex .f64 0 0, .string tx] 26 (0, 0))) := by show _ = _; rw [heap_set m1]; simp
    have M0 := hide ((Below.heap_setCell w1 ⟨w.heap.size + 1, 5, none⟩ (.string tx) w.heap.size (by show w.heap.size ≠ w.heap.size + 1; omega)).trans m0)
    have HBL := hide (bt (BB _ _) hb)
    clear hb m0 m1
    go_wp2_with (first | (refine wpList_load_row rfl 26 _ rfl (w.heap.size + 1) rfl 26 _ (0, 0) _ M1.out Try.underlying26 rfl sizeVal ?_) | (refine wpList_store_row rfl 26 _ _ rfl w.heap.size _ rfl rfl 26 _ M0.out sizeVal rfl (by simp [Value.oneCell']) ?_))
    refine bodyPost_ret (v := .agg _) (results_cell_row Try.results70 _ _ w.heap.size 26 _ (0, 0) _ rfl (setRow_heap _ _ _ _ _ _ M0.out) Try.underlying26 rfl sizeVal) rfl ⟨rfl, below_setRow (HBL.out.setCell (Nat.le_succ _) _) (Nat.le_refl _) _⟩
  · have h9 := hL.2.2.1 (by omega)
    rw [show kof c = 2 by unfold kof; rw [if_neg (by omega), if_neg (by omega), if_pos (by omega)], if_neg (by omega), if_neg (by omega), if_pos (by omega)]
    unfold VV.pc VV.zero
    rw [show (ByteArray.empty : ByteArray) = ⟨#[]⟩ from rfl]
    have PI := hide (fun W a' c' (h : Bs W a' (l.drop 1)) => parseInt_any W a' (l.length - 1) c' (l.drop 1) true h (by rw [List.length_drop]; omega) (by rw [List.length_drop]))
    have hlc : (c : Int) < 32 := by omega
    rw [if_pos (by omega)]
    rw [if_pos rfl] at PI
    generalize sint (18446744073709551616 - 256 ^ (l.drop 1).length + be (l.drop 1)) = z at *
    go_enter Try.func70, Try.ntmps70
    go_wp2_with fail
    all_goals (
      refine (PI.out _ _ _ (by first | exact HD.out.keep (BB _ _) | exact (HD0.out (by omega) _).keep (BB _ _))).mono ?_
      rintro e w1 ⟨rfl, rfl⟩
      go_wp2
      refine bodyPost_ret (v := .agg _) (by simp [results, Try.results70, go_sem]) rfl ⟨rfl, ?_⟩
      first | exact BB _ _ | exact (BB _ _).drew)
  · have h9 := hL.2.2.1 (by omega)
    rw [show kof c = 2 by unfold kof; rw [if_neg (by omega), if_neg (by omega), if_pos (by omega)], if_neg (by omega), if_neg (by omega), if_pos (by omega)]
    unfold VV.pc VV.zero
    rw [show (ByteArray.empty : ByteArray) = ⟨#[]⟩ from rfl]
    have PI := hide (fun W a' c' (h : Bs W a' (l.drop 1)) => parseInt_any W a' (l.length - 1) c' (l.drop 1) false h (by rw [List.length_drop]; omega) (by rw [List.length_drop]))
    have hlc : ¬ (c : Int) < 32 := by omega
    rw [if_neg (by omega)]
    rw [if_neg (by decide)] at PI
    generalize sint (be (l.drop 1)) = z at *
    go_enter Try.func70, Try.ntmps70
    go_wp2_with fail
    all_goals (
      refine (PI.out _ _ _ (by first | exact HD.out.keep (BB _ _) | exact (HD0.out (by omega) _).keep (BB _ _))).mono ?_
      rintro e w1 ⟨rfl, rfl⟩
      go_wp2
      refine bodyPost_ret (v := .agg _) (by simp [results, Try.results70, go_sem]) rfl ⟨rfl, ?_⟩
      first | exact BB _ _ | exact (BB _ _).drew)
end Go.Proofs.Ythfcgfdboienkaa
