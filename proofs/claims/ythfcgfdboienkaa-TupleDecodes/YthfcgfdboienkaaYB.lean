import Derived.Test.YthfcgfdboienkaaYA
namespace Go.Proofs.Ythfcgfdboienkaa
open Go.RowKit

/-- bytes laid behind a number, one by one -/
def acc8 (x : Nat) (l : List Nat) : Nat := l.foldl (fun x y => x * 256 % 18446744073709551616 + y) x
theorem acc8_snoc (x : Nat) (l : List Nat) (y : Nat) : acc8 x (l ++ [y]) = acc8 x l * 256 % 18446744073709551616 + y := by
  unfold acc8
  rw [List.foldl_append]
  rfl
theorem acc8_take (x : Nat) {l : List Nat} {j : Nat} (h : j < l.length) : acc8 x (l.take (j + 1)) = acc8 x (l.take j) * 256 % 18446744073709551616 + l.getD j 0 := by rw [← take_snoc l h, acc8_snoc]
theorem pow256 {k : Nat} (h : k ≤ 7) : 256 ^ k * 256 ≤ 18446744073709551616 := by
  have h2 : 256 ^ k ≤ 256 ^ 7 := Nat.pow_le_pow_right (by decide) h
  have h3 : (256 : Nat) ^ 7 = 72057594037927936 := by decide
  omega
theorem acc8_both (l : List Nat) (hb : ∀ y ∈ l, y < 256) (hl : l.length ≤ 8) : acc8 0 l = be l ∧ acc8 18446744073709551615 l = 18446744073709551616 - 256 ^ l.length + be l := by
  have key : ∀ k, k ≤ l.length → acc8 0 (l.take k) = be (l.take k) ∧ acc8 18446744073709551615 (l.take k) = 18446744073709551616 - 256 ^ k + be (l.take k) := by
    intro k
    induction k with
    | zero => intro _; exact ⟨rfl, rfl⟩
    | succ k ih =>
      intro hk
      obtain ⟨i1, i2⟩ := ih (by omega)
      rw [acc8_take 0 (by omega), acc8_take _ (by omega), be_take (by omega), i1, i2]
      have h1 := be_lt (l.take k) (take_lt hb k)
      rw [List.length_take, Nat.min_eq_left (by omega)] at h1
      have h2 := pow256 (k := k) (by omega)
      rw [Nat.pow_succ]
      generalize 256 ^ k = p at *
      generalize be (l.take k) = x at *
      generalize l.getD k 0 = y at *
      exact ⟨by omega, by omega⟩
  have := key l.length (Nat.le_refl _)
  rwa [List.take_length] at this
theorem acc8_lt (x : Nat) (hx : x < 18446744073709551616) (l : List Nat) (hb : ∀ y ∈ l, y < 256) : acc8 x l < 18446744073709551616 := by
  have key : ∀ k, k ≤ l.length → acc8 x (l.take k) < 18446744073709551616 := by
    intro k
    induction k with
    | zero => intro _; exact hx
    | succ k ih =>
      intro hk
      have h1 := ih (by omega)
      have h2 := getD_lt hb (j := k) (by omega)
      rw [acc8_take _ (by omega)]
      omega
  have := key l.length (Nat.le_refl _)
  rwa [List.take_length] at this
theorem or_byte' (z y : Nat) (hz : z < 18446744073709551616) (hm : z % 256 = 0) (hy : y < 256) : bits .or .u64 (z : Int) (y : Int) = ((z + y : Nat) : Int) := by
  have h := u64_or_nat z y hz (by omega)
  rw [nat_join 8 z y hm hy] at h
  exact h
set_option maxRecDepth 8000 in
set_option maxHeartbeats 1600000 in
theorem dget_any (w : World) (b off cap n : Nat) (l : List Nat) (hB : Bs w (some ⟨b, off, none⟩) l) (hl : l.length ≤ 4096) (h0 : 0 < l.length) (hcap : l.length ≤ cap) (hf : isFirst (l.getD 0 0) = true)
    (hL : (l.getD 0 0 = 48 → l.length = 9) ∧ (l.getD 0 0 = 56 → l.length = 17) ∧ (23 ≤ l.getD 0 0 ∧ l.getD 0 0 ≤ 40 → l.length ≤ 9) ∧ (l.getD 0 0 = 64 → 2 ≤ l.length)) (hn : n = l.length) :
    Calls Try.prog 45 #[.slice (some ⟨b, off, none⟩) n cap] w fun e w' => e = .returned (.agg (vget l).rc) ∧ Below w.heap.size w w' := by
  subst hn
  obtain ⟨_, _, e, hc⟩ := (byte_at hB (Below.refl _ _) h0)
  simp only [Option.some.injEq, Addr.mk.injEq, and_true] at e
  obtain ⟨rfl, rfl⟩ := e
  have hhd : l.headD 0 = l.getD 0 0 := by cases l <;> simp
  have hlw := block_lt_of_cell hc
  have HB := hide hB
  have hbytes := getD_lt hB.1 h0
  have HD := hide (hB.drop' 1)
  have hvg : vget l = (if l.getD 0 0 = 1 then VV.zero
  else if l.getD 0 0 ≤ 3 then { VV.zero with kind := 1, bool := decide (l.getD 0 0 = 3) }
  else if l.getD 0 0 ≤ 40 then { VV.zero with kind := 2, int := sint (if l.getD 0 0 < 32 then 18446744073709551616 - 256 ^ (l.drop 1).length + be (l.drop 1) else be (l.drop 1)) }
  else if l.getD 0 0 = 48 then { VV.zero with kind := 3, real := unrank (be (l.drop 1)) }
  else if l.getD 0 0 = 56 then { VV.zero with kind := 4, re := unrank (be ((l.drop 1).take 8)), im := unrank (be ((l.drop 1).drop 8)) }
  else { VV.zero with kind := 5, text := lt (unesc (l.drop 1).dropLast) }) := by
    unfold vget
    simp only [hhd, List.drop_one]
  rw [hvg]
  clear hvg hhd hB
  rw [Nat.add_zero] at hc
  have hli : (0 : Int) < (l.length : Int) := by omega
  have hd := of_decide_eq_true hf
  generalize l.getD 0 0 = c at *
  have h7 : c = 1 ∨ c = 2 ∨ c = 3 ∨ c = 48 ∨ c = 56 ∨ c = 64 ∨ (23 ≤ c ∧ c ≤ 31) ∨ (32 ≤ c ∧ c ≤ 40) := by omega
  clear hd
  rcases h7 with rfl | rfl | rfl | rfl | rfl | rfl | ⟨g1, g2⟩ | ⟨g1, g2⟩
  · rw [if_pos rfl]
    unfold VV.rc VV.zero
    rw [show (ByteArray.empty : ByteArray) = ⟨#[]⟩ from rfl]
    have hc : w.cell? ⟨b, off, none⟩ = some (.int .u8 1) := hc
    go_enter Try.func45, Try.ntmps45
    go_wp2
    all_goals (refine bodyPost_ret (v := .agg _) (by simp [results, Try.results45, go_sem]) rfl ⟨rfl, ?_⟩)
    all_goals exact al _ _
  · rw [if_neg (by decide), if_pos (by decide)]
    unfold VV.rc VV.zero
    rw [show (ByteArray.empty : ByteArray) = ⟨#[]⟩ from rfl]
    have hc : w.cell? ⟨b, off, none⟩ = some (.int .u8 2) := hc
    go_enter Try.func45, Try.ntmps45
    go_wp2
    all_goals (refine bodyPost_ret (v := .agg _) (by simp [results, Try.results45, go_sem]) rfl ⟨rfl, ?_⟩)
    all_goals exact al _ _
  · rw [if_neg (by decide), if_pos (by decide)]
    unfold VV.rc VV.zero
    rw [show (ByteArray.empty : ByteArray) = ⟨#[]⟩ from rfl]
    have hc : w.cell? ⟨b, off, none⟩ = some (.int .u8 3) := hc
    go_enter Try.func45, Try.ntmps45
    go_wp2
    all_goals (refine bodyPost_ret (v := .agg _) (by simp [results, Try.results45, go_sem]) rfl ⟨rfl, ?_⟩)
    all_goals exact al _ _
  · rw [if_neg (by decide), if_neg (by decide), if_neg (by decide), if_pos rfl]
    unfold VV.rc VV.zero
    rw [show (ByteArray.empty : ByteArray) = ⟨#[]⟩ from rfl]
    have h9 := hL.1 rfl
    have hc : w.cell? ⟨b, off, none⟩ = some (.int .u8 48) := hc
    have GR := hide (fun W (h : Below w.heap.size w W) => dgetReal_any W (some ⟨b, off + 1, none⟩) 8 (cap - 1) (l.drop 1) (HD.out.keep h) (by rw [List.length_drop]; omega) (by rw [List.length_drop]; omega))
    rw [List.take_of_length_le (l := l.drop 1) (by rw [List.length_drop]; omega)] at GR
    generalize unrank (be (l.drop 1)) = y at *
    go_enter Try.func45, Try.ntmps45
    go_wp2_with fail
    refine (GR.out _ (al _ _)).mono ?_
    rintro e w1 ⟨rfl, rfl⟩
    go_wp2
    all_goals (refine bodyPost_ret (v := .agg _) (by simp [results, Try.results45, go_sem]) rfl ⟨rfl, ?_⟩)
    all_goals exact al _ _
  · rw [if_neg (by decide), if_neg (by decide), if_neg (by decide), if_neg (by decide), if_pos rfl]
    unfold VV.rc VV.zero
    rw [show (ByteArray.empty : ByteArray) = ⟨#[]⟩ from rfl]
    have h9 := hL.2.1 rfl
    have hc : w.cell? ⟨b, off, none⟩ = some (.int .u8 56) := hc
    have h1 := hide (fun W (h : Below w.heap.size w W) => dgetReal_any W (some ⟨b, off + 1, none⟩) 8 (cap - 1) ((l.drop 1).take 8) ((HD.out.take' 8).keep h) (by rw [List.length_take, List.length_drop]; omega) (by rw [List.length_take, List.length_drop]; omega))
    have h2 := hide (fun W (h : Below w.heap.size w W) => dgetReal_any W (some ⟨b, off + 1 + 8, none⟩) 8 (cap - 1 - 8) ((l.drop 1).drop 8) ((HD.out.drop' 8).keep h) (by rw [List.length_drop, List.length_drop]; omega) (by rw [List.length_drop, List.length_drop]; omega))
    rw [show off + 1 + 8 = off + 9 from rfl, show cap - 1 - 8 = cap - 9 by omega] at h2
    rw [List.take_of_length_le (l := (l.drop 1).take 8) (by rw [List.length_take]; omega)] at h1
    rw [List.take_of_length_le (l := (l.drop 1).drop 8) (by rw [List.length_drop, List.length_drop]; omega)] at h2
    generalize unrank (be ((l.drop 1).take 8)) = y1 at *
    generalize unrank (be ((l.drop 1).drop 8)) = y2 at *
    have hq9 : ¬ cap = 9 := by omega
    have hq1 : ¬ cap = 1 := by omega
    have hq7 : (9 : Int) ≤ (l.length : Int) := by omega
    have hq8 : (9 : Int) ≤ (cap : Int) := by omega
    clear hcap hL hf hbytes hl h0
    have MK : Hid (y1 = y1) := rfl
    go_enter Try.func45, Try.ntmps45
    go_wp2
    go_region_held3 (fun _ => True) (trivial)
      (first | (go_at_call 67; have mk2 := MK; clear MK; refine (h1.out _ (al _ _).drew).mono ?_; rintro e w1 ⟨rfl, rfl⟩) | (go_at_call 67; refine (h2.out _ (al _ _).drew).mono ?_; rintro e w1 ⟨rfl, rfl⟩))
    all_goals (go_wp2; refine bodyPost_ret (v := .agg _) (by simp [results, Try.results45, go_sem]) rfl ⟨rfl, ?_⟩; first | exact al _ _ | exact (al _ _).drew)
  · rw [if_neg (by decide), if_neg (by decide), if_neg (by decide), if_neg (by decide), if_neg (by decide)]
    unfold VV.rc VV.zero
    rw [show (ByteArray.empty : ByteArray) = ⟨#[]⟩ from rfl]
    have h9 := hL.2.2.2 rfl
    have hc : w.cell? ⟨b, off, none⟩ = some (.int .u8 64) := hc
    obtain ⟨t, ht⟩ : ∃ t, t = (l.drop 1).dropLast := ⟨_, rfl⟩
    have HTL : Hid (t.length = l.length - 2) := by show _ = _; rw [ht, List.length_dropLast, List.length_drop]; omega
    have HTG : Hid (∀ j, j < t.length → l.getD (j + 1) 0 = t.getD j 0) := fun j hj => by
      rw [HTL.out] at hj
      rw [ht, List.dropLast_eq_take]
      simp [List.getD_eq_getElem?_getD, show j < l.length - 1 - 1 by omega, show j + 1 < l.length by omega]
    have HU : Hid (∀ x ∈ unesc t, x < 256) := unesc_lt t fun x hx => HD.out.1 x (by rw [ht, List.dropLast_eq_take] at hx; exact List.mem_of_mem_take hx)
    rw [← ht]
    clear ht
    have htl := HTL.out
    have hlm : IntKind.i64.wrap ((l.length : Int) - 1) = (l.length : Int) - 1 := wrapI (by omega) (by omega)
    go_enter Try.func45, Try.ntmps45
    go_wp2
    have M0 := hide (heap_alloc_new w (.cells #[.int .i64 0, .bool false, .int .i64 0, .int .u64 0, .int .u64 0, .int .u64 0, .string ⟨#[]⟩] 30))
    have B0 := hide (al w (.cells #[.int .i64 0, .bool false, .int .i64 0, .int .u64 0, .int .u64 0, .int .u64 0, .string ⟨#[]⟩] 30))
    obtain ⟨W0, hW0⟩ : ∃ W0, W0 = w.alloc (.cells #[.int .i64 0, .bool false, .int .i64 0, .int .u64 0, .int .u64 0, .int .u64 0, .string ⟨#[]⟩] 30) := ⟨_, rfl⟩
    rw [← hW0] at M0 B0
    first | rw [← hW0] | (trace_state; fail)
    clear hW0
    go_loopw [6, 7] (fun v i wx => ∃ (j : Nat) (m : List Nat) (aj : Option Addr) (cj : Nat), j ≤ t.length + 1 ∧ i = .int .i64 ((j + 1 : Nat) : Int) ∧ v = .slice aj m.length cj ∧ (Own W0 wx aj cj m ∧ m ++ unesc (t.drop j) = unesc t ∧ m.length ≤ j)) (fun _ i _ => l.length + 2 - (intOf i).toNat)
    case atStart => exact ⟨0, [], none, 0, Nat.zero_le _, rfl, rfl, Own.nil W0 (Below.refl _ _), rfl, Nat.zero_le _⟩
    case round =>
      obtain ⟨j, m, aj, cj, hj, rfl, rfl, hG⟩ := hrel
      have HG := hide hG
      clear hG
      by_cases hlt : j < t.length
      · have hlt2 : j + 1 < l.length := by omega
        have hi : ((j + 1 : Nat) : Int) < (l.length : Int) - 1 := by omega
        have hi2 : ((j + 1 : Nat) : Int) < (l.length : Int) := by omega
        have HS := hide (unesc_step hlt)
        obtain ⟨b', off', e', hc1⟩ := byte_at HB.out (bt B0.out HG.out.1.b) hlt2
        simp only [Option.some.injEq, Addr.mk.injEq, and_true] at e'
        obtain ⟨rfl, rfl⟩ := e'
        rw [HTG.out j hlt] at hc1
        have hlw1 := block_lt_of_cell hc1
        have HM : Hid (m.length + 1 ≤ 140737488355328) := by have := HG.out.2.2; show _ ≤ _; omega
        generalize t.getD j 0 = y at *
        have HL1 : Hid ((m ++ [y]).length = m.length + 1) := by show _ = _; simp
        have HFR : Hid (¬ At aj b) := fun h => by
          obtain ⟨x, hx, e⟩ := map_some h
          have h1 := own_fresh HG.out.1 hx
          have h2 := B0.out.size
          omega
        by_cases hy : y = 0
        · subst hy
          have HE : Hid ((m ++ [0]) ++ unesc (t.drop (j + 2)) = unesc t) := by show _ = _; rw [← HG.out.2.1, HS.out, if_pos rfl]; simp
          go_wp2_with (at_builtin; refine wpList_ap1 rfl _ _ rfl aj m.length cj m rfl rfl (HG.out.1.r.keep (al _ _)) ⟨wr.heap.size, 0, none⟩ 1 0 rfl ?c1 HM.out ?_)
          try case c1 => simp
          intro g3 cap3 w3 hR hN hg _
          have AP := Apd.ofGrown (al _ _) hR hN hg
          have hc3 := (AP.b.cell (p := ⟨b, off + (j + 1), none⟩) hlw1 HFR.out).trans hc1
          have O3 := hide (HG.out.1.step AP)
          clear hR hN hg AP
          go_wp2
          go_roundw
          case rel => exact ⟨j + 2, m ++ [0], _, cap3, by omega, by first | rfl | go_num | (refine congrArg (Value.int IntKind.i64) ?_; unfold wrap64; omega), by rw [HL1.out], O3.out, HE.out, by rw [HL1.out]; have := HG.out.2.2; omega⟩
          case measure => simp [intOf]; omega
        · have hyf : ((y : Int) == 0) = false := eqf (by omega)
          have HE : Hid ((m ++ [y]) ++ unesc (t.drop (j + 1)) = unesc t) := by show _ = _; rw [← HG.out.2.1, HS.out, if_neg hy]; simp
          clear hy
          go_wp2_with (at_builtin; refine wpList_ap1 rfl _ _ rfl aj m.length cj m rfl rfl (HG.out.1.r.keep (al _ _)) ⟨wr.heap.size, 0, none⟩ 1 y rfl ?c2 HM.out ?_)
          try case c2 => simp
          intro g3 cap3 w3 hR hN hg _
          have AP := Apd.ofGrown (al _ _) hR hN hg
          have hc3 := (AP.b.cell (p := ⟨b, off + (j + 1), none⟩) hlw1 HFR.out).trans hc1
          have O3 := hide (HG.out.1.step AP)
          clear hR hN hg AP
          go_wp2
          go_roundw
          case rel => exact ⟨j + 1, m ++ [y], _, cap3, by omega, by first | rfl | go_num | (refine congrArg (Value.int IntKind.i64) ?_; unfold wrap64; omega), by rw [HL1.out], O3.out, HE.out, by rw [HL1.out]; have := HG.out.2.2; omega⟩
          case measure => simp [intOf]; omega
      · have hi : ¬ ((j + 1 : Nat) : Int) < (l.length : Int) - 1 := by omega
        have hz := HG.out.2.1
        rw [List.drop_of_length_le (by omega)] at hz
        have hz : m = unesc t := by simpa [unesc] using hz
        have hcv := conv_back wr aj cj m (HG.out.1.r.bs (by rw [hz]; exact HU.out) (by have := HG.out.2.2; omega))
        have M1 := hide ((HG.out.1.b.block w.heap.size (Array.getElem?_eq_some_iff.1 M0.out).1).trans M0.out)
        have HBL := hide (bt B0.out HG.out.1.b)
        have HZ := hide hz
        clear hz HTG HTL htl HB HD
        go_wp2_with (refine wpList_store_row rfl 30 _ _ rfl w.heap.size _ rfl rfl 30 _ M1.out sizeV rfl (by simp [Value.oneCell']) ?_)
        refine bodyPost_ret (v := .agg _) (results_cell_row Try.results45 _ _ w.heap.size 30 _ (0, 0) _ rfl (setRow_heap _ _ _ _ _ _ M1.out) Try.underlying30 rfl sizeV) rfl ⟨by rw [← HZ.out]; first | done | rfl, below_setRow HBL.out (Nat.le_refl _) _⟩
  · have h9 := hL.2.2.1 (by omega)
    rw [if_neg (by omega), if_neg (by omega), if_pos (by omega), if_pos (by omega)]
    unfold VV.rc VV.zero
    rw [show (ByteArray.empty : ByteArray) = ⟨#[]⟩ from rfl]
    have q1 : ((c : Int) == 1) = false := eqf (by omega)
    have r3 : ¬ (c : Int) ≤ 3 := by omega
    have r4 : (c : Int) ≤ 40 := by omega
    have r5 : (c : Int) < 32 := by omega
    have HAC := hide (acc8_both (l.drop 1) HD.out.1 (by rw [List.length_drop]; omega)).2
    have HBY := hide HB.out.1
    have hbx0 := acc8_lt 18446744073709551615 (by decide) (l.drop 1) HD.out.1
    rw [← HAC.out, ← wrap64_sint _ hbx0]
    obtain ⟨X, hX⟩ : ∃ X, X = acc8 18446744073709551615 (l.drop 1) := ⟨_, rfl⟩
    rw [← hX]
    rw [← hX] at hbx0
    have HX := hide hX
    clear HAC hX
    go_enter Try.func45, Try.ntmps45
    go_wp2
    obtain ⟨W0, hW0⟩ : ∃ W0, W0 = w.alloc (.cells #[.int .i64 0, .bool false, .int .i64 0, .int .u64 0, .int .u64 0, .int .u64 0, .string ⟨#[]⟩] 30) := ⟨_, rfl⟩
    have M0 := hide (heap_alloc_new w (.cells #[.int .i64 0, .bool false, .int .i64 0, .int .u64 0, .int .u64 0, .int .u64 0, .string ⟨#[]⟩] 30))
    have B0 := hide (al w (.cells #[.int .i64 0, .bool false, .int .i64 0, .int .u64 0, .int .u64 0, .int .u64 0, .string ⟨#[]⟩] 30))
    rw [← hW0] at M0 B0
    first | rw [← hW0] | (trace_state; fail)
    clear hW0
    go_loopw [4, 5] (fun v i wx => ∃ j : Nat, j ≤ (l.drop 1).length ∧ i = .int .i64 ((j + 1 : Nat) : Int) ∧ v = .int .u64 (acc8 18446744073709551615 ((l.drop 1).take j) : Int) ∧ wx = W0) (fun _ i _ => l.length - (intOf i).toNat)
    case atStart => exact ⟨0, Nat.zero_le _, rfl, rfl, rfl⟩
    case round =>
      obtain ⟨j, hj, rfl, rfl, hG⟩ := hrel
      subst hG
      have hdl : (l.drop 1).length = l.length - 1 := List.length_drop
      by_cases hlt : j < (l.drop 1).length
      · have hlt2 : j + 1 < l.length := by omega
        have hi : ((j + 1 : Nat) : Int) < (l.length : Int) := by omega
        have HT := hide (acc8_take 18446744073709551615 hlt)
        have hbx := acc8_lt 18446744073709551615 (by decide) ((l.drop 1).take j) (take_lt HD.out.1 j)
        have hby := getD_lt HD.out.1 hlt
        obtain ⟨b', off', e', hc1⟩ := byte_at HB.out B0.out hlt2
        simp only [Option.some.injEq, Addr.mk.injEq, and_true] at e'
        obtain ⟨rfl, rfl⟩ := e'
        rw [show l.getD (j + 1) 0 = (l.drop 1).getD j 0 by simp [List.getD_eq_getElem?_getD]] at hc1
        generalize (l.drop 1).getD j 0 = y at *
        generalize acc8 18446744073709551615 ((l.drop 1).take j) = x at *
        have hz : x * 256 % 18446744073709551616 < 18446744073709551616 := by omega
        have hm : x * 256 % 18446744073709551616 % 256 = 0 := by omega
        have hor := or_byte' (x * 256 % 18446744073709551616) y hz hm hby
        have hj1 : IntKind.i64.wrap (((j + 1 : Nat) : Int) + 1) = ((j + 2 : Nat) : Int) := by rw [wrapI (by omega) (by omega)]; omega
        have hshl : IntKind.u64.wrap ((x : Int) * 256) = ((x * 256 % 18446744073709551616 : Nat) : Int) := by simp [IntKind.wrap, IntKind.bits, IntKind.signed]
        have hsh2 : (x : Int) * 256 % 18446744073709551616 = ((x * 256 % 18446744073709551616 : Nat) : Int) := by omega
        generalize x * 256 % 18446744073709551616 = z at *
        go_wp2
        go_roundw
        case rel => exact ⟨j + 1, by omega, by first | rfl | go_num | exact congrArg (Value.int IntKind.i64) (by omega), by rw [HT.out]; first | rfl | simp, by first | rfl | trivial⟩
        case measure => first | (simp [intOf]; omega) | (simp [intOf, hj1]; omega)
      · obtain rfl : j = (l.drop 1).length := by omega
        have hi : ¬ (((l.drop 1).length + 1 : Nat) : Int) < (l.length : Int) := by omega
        rw [List.take_length]
        rw [← HX.out]
        go_wp2_with (refine wpList_store_row rfl 30 _ _ rfl w.heap.size _ rfl rfl 30 _ M0.out sizeV rfl (by simp [Value.oneCell']) ?_)
        refine bodyPost_ret (v := .agg _) (results_cell_row Try.results45 _ _ w.heap.size 30 _ (0, 0) _ rfl (setRow_heap _ _ _ _ _ _ M0.out) Try.underlying30 rfl sizeV) rfl ⟨by first | rfl | simp, below_setRow B0.out (Nat.le_refl _) _⟩
  · have h9 := hL.2.2.1 (by omega)
    rw [if_neg (by omega), if_neg (by omega), if_pos (by omega), if_neg (by omega)]
    unfold VV.rc VV.zero
    rw [show (ByteArray.empty : ByteArray) = ⟨#[]⟩ from rfl]
    have q1 : ((c : Int) == 1) = false := eqf (by omega)
    have r3 : ¬ (c : Int) ≤ 3 := by omega
    have r4 : (c : Int) ≤ 40 := by omega
    have r5 : ¬ (c : Int) < 32 := by omega
    have HAC := hide (acc8_both (l.drop 1) HD.out.1 (by rw [List.length_drop]; omega)).1
    have HBY := hide HB.out.1
    have hbx0 := acc8_lt 0 (by decide) (l.drop 1) HD.out.1
    rw [← HAC.out, ← wrap64_sint _ hbx0]
    obtain ⟨X, hX⟩ : ∃ X, X = acc8 0 (l.drop 1) := ⟨_, rfl⟩
    rw [← hX]
    rw [← hX] at hbx0
    have HX := hide hX
    clear HAC hX
    go_enter Try.func45, Try.ntmps45
    go_wp2
    obtain ⟨W0, hW0⟩ : ∃ W0, W0 = w.alloc (.cells #[.int .i64 0, .bool false, .int .i64 0, .int .u64 0, .int .u64 0, .int .u64 0, .string ⟨#[]⟩] 30) := ⟨_, rfl⟩
    have M0 := hide (heap_alloc_new w (.cells #[.int .i64 0, .bool false, .int .i64 0, .int .u64 0, .int .u64 0, .int .u64 0, .string ⟨#[]⟩] 30))
    have B0 := hide (al w (.cells #[.int .i64 0, .bool false, .int .i64 0, .int .u64 0, .int .u64 0, .int .u64 0, .string ⟨#[]⟩] 30))
    rw [← hW0] at M0 B0
    first | rw [← hW0] | (trace_state; fail)
    clear hW0
    go_loopw [4, 5] (fun v i wx => ∃ j : Nat, j ≤ (l.drop 1).length ∧ i = .int .i64 ((j + 1 : Nat) : Int) ∧ v = .int .u64 (acc8 0 ((l.drop 1).take j) : Int) ∧ wx = W0) (fun _ i _ => l.length - (intOf i).toNat)
    case atStart => exact ⟨0, Nat.zero_le _, rfl, rfl, rfl⟩
    case round =>
      obtain ⟨j, hj, rfl, rfl, hG⟩ := hrel
      subst hG
      have hdl : (l.drop 1).length = l.length - 1 := List.length_drop
      by_cases hlt : j < (l.drop 1).length
      · have hlt2 : j + 1 < l.length := by omega
        have hi : ((j + 1 : Nat) : Int) < (l.length : Int) := by omega
        have HT := hide (acc8_take 0 hlt)
        have hbx := acc8_lt 0 (by decide) ((l.drop 1).take j) (take_lt HD.out.1 j)
        have hby := getD_lt HD.out.1 hlt
        obtain ⟨b', off', e', hc1⟩ := byte_at HB.out B0.out hlt2
        simp only [Option.some.injEq, Addr.mk.injEq, and_true] at e'
        obtain ⟨rfl, rfl⟩ := e'
        rw [show l.getD (j + 1) 0 = (l.drop 1).getD j 0 by simp [List.getD_eq_getElem?_getD]] at hc1
        generalize (l.drop 1).getD j 0 = y at *
        generalize acc8 0 ((l.drop 1).take j) = x at *
        have hz : x * 256 % 18446744073709551616 < 18446744073709551616 := by omega
        have hm : x * 256 % 18446744073709551616 % 256 = 0 := by omega
        have hor := or_byte' (x * 256 % 18446744073709551616) y hz hm hby
        have hj1 : IntKind.i64.wrap (((j + 1 : Nat) : Int) + 1) = ((j + 2 : Nat) : Int) := by rw [wrapI (by omega) (by omega)]; omega
        have hshl : IntKind.u64.wrap ((x : Int) * 256) = ((x * 256 % 18446744073709551616 : Nat) : Int) := by simp [IntKind.wrap, IntKind.bits, IntKind.signed]
        have hsh2 : (x : Int) * 256 % 18446744073709551616 = ((x * 256 % 18446744073709551616 : Nat) : Int) := by omega
        generalize x * 256 % 18446744073709551616 = z at *
        go_wp2
        go_roundw
        case rel => exact ⟨j + 1, by omega, by first | rfl | go_num | exact congrArg (Value.int IntKind.i64) (by omega), by rw [HT.out]; first | rfl | simp, by first | rfl | trivial⟩
        case measure => first | (simp [intOf]; omega) | (simp [intOf, hj1]; omega)
      · obtain rfl : j = (l.drop 1).length := by omega
        have hi : ¬ (((l.drop 1).length + 1 : Nat) : Int) < (l.length : Int) := by omega
        rw [List.take_length]
        rw [← HX.out]
        go_wp2_with (refine wpList_store_row rfl 30 _ _ rfl w.heap.size _ rfl rfl 30 _ M0.out sizeV rfl (by simp [Value.oneCell']) ?_)
        refine bodyPost_ret (v := .agg _) (results_cell_row Try.results45 _ _ w.heap.size 30 _ (0, 0) _ rfl (setRow_heap _ _ _ _ _ _ M0.out) Try.underlying30 rfl sizeV) rfl ⟨by first | rfl | simp, below_setRow B0.out (Nat.le_refl _) _⟩
end Go.Proofs.Ythfcgfdboienkaa
