import Derived.Test.YtlkjpljfbmploaaWF
namespace Go.Proofs.Ytlkjpljfbmploaa
open Go.RowKit

/-- a number's bytes, the lowest first -/
def numB : Nat → Nat → List Nat
  | _, 0 => []
  | x, k + 1 => x % 256 :: numB (x / 256) k
theorem numB_length (x k : Nat) : (numB x k).length = k := by
  induction k generalizing x with
  | zero => rfl
  | succ k ih => simp [numB, ih]
theorem numB_get (x k j : Nat) (h : j < k) : (numB x k).getD j 0 = x / 256 ^ j % 256 := by
  induction k generalizing x j with
  | zero => omega
  | succ k ih =>
    cases j with
    | zero => simp [numB]
    | succ j =>
      have := ih (x / 256) j (by omega)
      simp only [numB, List.getD_cons_succ, this]
      rw [Nat.div_div_eq_div_mul, Nat.pow_succ, Nat.mul_comm]
theorem numB_lt (x k : Nat) : ∀ y ∈ numB x k, y < 256 := by
  induction k generalizing x with
  | zero => simp [numB]
  | succ k ih =>
    intro y hy
    simp only [numB, List.mem_cons] at hy
    rcases hy with rfl | hy
    · omega
    · exact ih _ y hy
theorem div_step (x j : Nat) : x / 256 ^ j / 256 = x / 256 ^ (j + 1) := by rw [Nat.div_div_eq_div_mul, Nat.pow_succ]
theorem lt_mem_take {l : List Nat} {k : Nat} (h : ∀ x ∈ l, x < 256) : ∀ x ∈ l.take k, x < 256 := fun x hx => h x (List.mem_of_mem_take hx)

set_option maxHeartbeats 1600000 in
theorem Put8_any (w : World) (b : Nat) (a : Option Addr) (cap : Nat) (s : WS) (x : Nat) (hx : x < 256) (h : Wt 68 w b a cap s) :
    Calls Try.prog 32 #[.pointer (some ⟨b, 0, none⟩), .int .u8 (x : Int)] w fun y w' => y = .returned (.tuple #[]) ∧ Did 68 w w' b a (s.put (numB x 1)) := by
  have H := hide h
  have HM := hide h.2.2.1
  clear h
  have hwr : IntKind.u64.wrap (x : Int) = (x : Int) := by rw [IntKind.wrap_u64]; omega
  by_cases he : s.e = 0
  · have HE := hide he
    by_cases hf : s.l.length + (numB x 1).length ≤ s.most
    · rw [WS.put_fits he hf]
      rw [numB_length] at hf
      have HF := hide hf
      clear hf he
      go_enter Try.func32, Try.ntmps32
      go_wp2_with (first | (go_at_call 65; refine (width8_any _).mono ?_; rintro e w0 ⟨rfl, hw0⟩; subst w0) | (go_at_call 59; refine (takes_yes _ b a cap s _ H.out HE.out (by have := HF.out; omega)).mono ?_; rintro e w1 ⟨rfl, hb1⟩))
      go_loopw [4, 12] (fun r i wx => ∃ (j : Nat) (aj : Option Addr) (cj : Nat), j ≤ 1 ∧ i = .int .i64 j ∧ r = .int .u64 ((x / 256 ^ j : Nat) : Int) ∧ (Wt 68 wx b aj cj ⟨s.most, s.l ++ (numB x 1).take j, 0⟩ ∧ New w a aj ∧ But (Ft b a) w wx)) (fun _ i _ => 1 - (intOf i).toNat)
      case atStart =>
        have hs : (⟨s.most, s.l ++ [], 0⟩ : WS) = s := by rw [List.append_nil]; have := HE.out; cases s; simp_all
        exact ⟨0, a, cap, Nat.zero_le _, rfl, by simp, by rw [List.take_zero, hs]; exact H.out.keep hb1, New.refl _ _, But.ofBelow hb1⟩
      case round =>
        clear hb1
        obtain ⟨j, aj, cj, hj, rfl, rfl, hG⟩ := hrel
        have HG := hide hG
        clear hG
        by_cases hlt : j < 1
        · have hi : (j : Int) < 1 := by omega
          have c1 := HG.out.1.c1
          have hlw := HG.out.1.lt
          have hdiv := div_step x j
          have hxl : x / 256 ^ j < 18446744073709551616 := Nat.lt_of_le_of_lt (Nat.div_le_self _ _) (by omega)
          have hget := numB_get x 1 j hlt
          have hsn := take_snoc (numB x 1) (k := j) (by rw [numB_length]; exact hlt)
          rw [hget] at hsn
          have HSN := hide hsn
          have HDV := hide hdiv
          have hmod : x / 256 ^ j % 256 < 256 := Nat.mod_lt _ (by decide)
          clear hsn hget hdiv
          generalize x / 256 ^ j = y at *
          have hw8 : IntKind.u8.wrap (y : Int) = ((y % 256 : Nat) : Int) := by rw [IntKind.wrap_u8']; omega
          have hz : ((s.l ++ (numB x 1).take j).length) = s.l.length + j := by rw [List.length_append, List.length_take, numB_length]; omega
          dsimp only at c1
          rw [hz] at c1
          have HSL : Hid ((s.l ++ (numB x 1).take j) ++ [y % 256] = s.l ++ (numB x 1).take (j + 1)) := by rw [List.append_assoc, HSN.out]; exact rfl
          generalize s.l ++ (numB x 1).take j = L at *
          go_wp2_with (at_builtin; refine wpList_ap1 rfl _ _ rfl aj (s.l.length + j) cj L rfl hz.symm (HG.out.1.2.1.keep ((Below.refl _ _).alloc (Nat.le_refl _) _)) ⟨wr.heap.size, 0, none⟩ 1 (y % 256) rfl ?c1 (by have := HF.out; have := HM.out; omega) ?_)
          try case c1 => simp
          intro g cap' w2 hR hN hg _
          obtain ⟨d1, e1, G⟩ := (HG.out.1.alloc _).after (n := s.l.length + j + 1) (p := [y % 256]) (by decide) hR hN hg (by intro z hm; rw [List.mem_singleton] at hm; omega) (by have := HF.out; show L.length + 1 ≤ s.most; omega) rfl (by show _ = L.length + 1; omega)
          dsimp only at d1
          rw [hz] at d1
          clear hR hN hg c1
          go_wp2
          go_roundw
          case rel =>
            refine ⟨j + 1, some ⟨g, 0, none⟩, cap', by omega, by go_num, ?_, ?_⟩
            · rw [← HDV.out]; simp
            have h3 := G.out
            dsimp only at h3
            rw [HSL.out] at h3
            refine ⟨h3.1, HG.out.2.1.trans (h3.2.1.mono (by rw [size_alloc]; omega)) HG.out.2.2.size, (HG.out.2.2.alloc _).trans h3.2.2 ?_⟩
            rintro k hk (rfl | ⟨z, hz, e⟩)
            · exact .inl rfl
            · rcases HG.out.2.1 z hz with ⟨u, hu, e2⟩ | h4
              · exact .inr ⟨u, hu, e2.trans e⟩
              · omega
          case measure => simp [intOf]; omega
        · obtain rfl : j = 1 := by omega
          go_wp2
          go_end0
          refine ⟨rfl, aj, cj, ?_⟩
          have h3 := HG.out
          rw [List.take_of_length_le (by rw [numB_length]; exact Nat.le_refl _)] at h3
          exact h3
    · rw [WS.put_many he (by omega)]
      rw [numB_length] at hf
      have HF := hide hf
      clear hf he
      go_enter Try.func32, Try.ntmps32
      go_wp2_with (first | (go_at_call 65; refine (width8_any _).mono ?_; rintro e w0 ⟨rfl, hw0⟩; subst w0) | (go_at_call 59; refine (takes_no _ b a cap s _ H.out HE.out (by have := HF.out; omega)).mono ?_; rintro e w1 ⟨rfl, h1, hb1⟩; have H1 := hide h1; clear h1))
      refine bodyPost_ret (results_none rfl _ _ _) rfl ?_
      exact ⟨rfl, Did.same H1.out (hb1.toFt a)⟩
  · rw [WS.put_err he]
    have HE := hide he
    clear he
    go_enter Try.func32, Try.ntmps32
    go_wp2_with (first | (go_at_call 65; refine (width8_any _).mono ?_; rintro e w0 ⟨rfl, hw0⟩; subst w0) | (go_at_call 59; refine (takes_err _ b a cap s _ H.out HE.out).mono ?_; rintro e w1 ⟨rfl, hb1⟩))
    refine bodyPost_ret (results_none rfl _ _ _) rfl ?_
    exact ⟨rfl, Did.same (H.out.keep hb1) (But.ofBelow hb1)⟩
set_option maxHeartbeats 1600000 in
theorem Put16_any (w : World) (b : Nat) (a : Option Addr) (cap : Nat) (s : WS) (x : Nat) (hx : x < 65536) (h : Wt 68 w b a cap s) :
    Calls Try.prog 34 #[.pointer (some ⟨b, 0, none⟩), .int .u16 (x : Int)] w fun y w' => y = .returned (.tuple #[]) ∧ Did 68 w w' b a (s.put (numB x 2)) := by
  have H := hide h
  have HM := hide h.2.2.1
  clear h
  have hwr : IntKind.u64.wrap (x : Int) = (x : Int) := by rw [IntKind.wrap_u64]; omega
  by_cases he : s.e = 0
  · have HE := hide he
    by_cases hf : s.l.length + (numB x 2).length ≤ s.most
    · rw [WS.put_fits he hf]
      rw [numB_length] at hf
      have HF := hide hf
      clear hf he
      go_enter Try.func34, Try.ntmps34
      go_wp2_with (first | (go_at_call 68; refine (width16_any _).mono ?_; rintro e w0 ⟨rfl, hw0⟩; subst w0) | (go_at_call 59; refine (takes_yes _ b a cap s _ H.out HE.out (by have := HF.out; omega)).mono ?_; rintro e w1 ⟨rfl, hb1⟩))
      go_loopw [4, 12] (fun r i wx => ∃ (j : Nat) (aj : Option Addr) (cj : Nat), j ≤ 2 ∧ i = .int .i64 j ∧ r = .int .u64 ((x / 256 ^ j : Nat) : Int) ∧ (Wt 68 wx b aj cj ⟨s.most, s.l ++ (numB x 2).take j, 0⟩ ∧ New w a aj ∧ But (Ft b a) w wx)) (fun _ i _ => 2 - (intOf i).toNat)
      case atStart =>
        have hs : (⟨s.most, s.l ++ [], 0⟩ : WS) = s := by rw [List.append_nil]; have := HE.out; cases s; simp_all
        exact ⟨0, a, cap, Nat.zero_le _, rfl, by simp, by rw [List.take_zero, hs]; exact H.out.keep hb1, New.refl _ _, But.ofBelow hb1⟩
      case round =>
        clear hb1
        obtain ⟨j, aj, cj, hj, rfl, rfl, hG⟩ := hrel
        have HG := hide hG
        clear hG
        by_cases hlt : j < 2
        · have hi : (j : Int) < 2 := by omega
          have c1 := HG.out.1.c1
          have hlw := HG.out.1.lt
          have hdiv := div_step x j
          have hxl : x / 256 ^ j < 18446744073709551616 := Nat.lt_of_le_of_lt (Nat.div_le_self _ _) (by omega)
          have hget := numB_get x 2 j hlt
          have hsn := take_snoc (numB x 2) (k := j) (by rw [numB_length]; exact hlt)
          rw [hget] at hsn
          have HSN := hide hsn
          have HDV := hide hdiv
          have hmod : x / 256 ^ j % 256 < 256 := Nat.mod_lt _ (by decide)
          clear hsn hget hdiv
          generalize x / 256 ^ j = y at *
          have hw8 : IntKind.u8.wrap (y : Int) = ((y % 256 : Nat) : Int) := by rw [IntKind.wrap_u8']; omega
          have hz : ((s.l ++ (numB x 2).take j).length) = s.l.length + j := by rw [List.length_append, List.length_take, numB_length]; omega
          dsimp only at c1
          rw [hz] at c1
          have HSL : Hid ((s.l ++ (numB x 2).take j) ++ [y % 256] = s.l ++ (numB x 2).take (j + 1)) := by rw [List.append_assoc, HSN.out]; exact rfl
          generalize s.l ++ (numB x 2).take j = L at *
          go_wp2_with (at_builtin; refine wpList_ap1 rfl _ _ rfl aj (s.l.length + j) cj L rfl hz.symm (HG.out.1.2.1.keep ((Below.refl _ _).alloc (Nat.le_refl _) _)) ⟨wr.heap.size, 0, none⟩ 1 (y % 256) rfl ?c1 (by have := HF.out; have := HM.out; omega) ?_)
          try case c1 => simp
          intro g cap' w2 hR hN hg _
          obtain ⟨d1, e1, G⟩ := (HG.out.1.alloc _).after (n := s.l.length + j + 1) (p := [y % 256]) (by decide) hR hN hg (by intro z hm; rw [List.mem_singleton] at hm; omega) (by have := HF.out; show L.length + 1 ≤ s.most; omega) rfl (by show _ = L.length + 1; omega)
          dsimp only at d1
          rw [hz] at d1
          clear hR hN hg c1
          go_wp2
          go_roundw
          case rel =>
            refine ⟨j + 1, some ⟨g, 0, none⟩, cap', by omega, by go_num, ?_, ?_⟩
            · rw [← HDV.out]; simp
            have h3 := G.out
            dsimp only at h3
            rw [HSL.out] at h3
            refine ⟨h3.1, HG.out.2.1.trans (h3.2.1.mono (by rw [size_alloc]; omega)) HG.out.2.2.size, (HG.out.2.2.alloc _).trans h3.2.2 ?_⟩
            rintro k hk (rfl | ⟨z, hz, e⟩)
            · exact .inl rfl
            · rcases HG.out.2.1 z hz with ⟨u, hu, e2⟩ | h4
              · exact .inr ⟨u, hu, e2.trans e⟩
              · omega
          case measure => simp [intOf]; omega
        · obtain rfl : j = 2 := by omega
          go_wp2
          go_end0
          refine ⟨rfl, aj, cj, ?_⟩
          have h3 := HG.out
          rw [List.take_of_length_le (by rw [numB_length]; exact Nat.le_refl _)] at h3
          exact h3
    · rw [WS.put_many he (by omega)]
      rw [numB_length] at hf
      have HF := hide hf
      clear hf he
      go_enter Try.func34, Try.ntmps34
      go_wp2_with (first | (go_at_call 68; refine (width16_any _).mono ?_; rintro e w0 ⟨rfl, hw0⟩; subst w0) | (go_at_call 59; refine (takes_no _ b a cap s _ H.out HE.out (by have := HF.out; omega)).mono ?_; rintro e w1 ⟨rfl, h1, hb1⟩; have H1 := hide h1; clear h1))
      refine bodyPost_ret (results_none rfl _ _ _) rfl ?_
      exact ⟨rfl, Did.same H1.out (hb1.toFt a)⟩
  · rw [WS.put_err he]
    have HE := hide he
    clear he
    go_enter Try.func34, Try.ntmps34
    go_wp2_with (first | (go_at_call 68; refine (width16_any _).mono ?_; rintro e w0 ⟨rfl, hw0⟩; subst w0) | (go_at_call 59; refine (takes_err _ b a cap s _ H.out HE.out).mono ?_; rintro e w1 ⟨rfl, hb1⟩))
    refine bodyPost_ret (results_none rfl _ _ _) rfl ?_
    exact ⟨rfl, Did.same (H.out.keep hb1) (But.ofBelow hb1)⟩
set_option maxHeartbeats 1600000 in
theorem Put32_any (w : World) (b : Nat) (a : Option Addr) (cap : Nat) (s : WS) (x : Nat) (hx : x < 4294967296) (h : Wt 68 w b a cap s) :
    Calls Try.prog 35 #[.pointer (some ⟨b, 0, none⟩), .int .u32 (x : Int)] w fun y w' => y = .returned (.tuple #[]) ∧ Did 68 w w' b a (s.put (numB x 4)) := by
  have H := hide h
  have HM := hide h.2.2.1
  clear h
  have hwr : IntKind.u64.wrap (x : Int) = (x : Int) := by rw [IntKind.wrap_u64]; omega
  by_cases he : s.e = 0
  · have HE := hide he
    by_cases hf : s.l.length + (numB x 4).length ≤ s.most
    · rw [WS.put_fits he hf]
      rw [numB_length] at hf
      have HF := hide hf
      clear hf he
      go_enter Try.func35, Try.ntmps35
      go_wp2_with (first | (go_at_call 69; refine (width32_any _).mono ?_; rintro e w0 ⟨rfl, hw0⟩; subst w0) | (go_at_call 59; refine (takes_yes _ b a cap s _ H.out HE.out (by have := HF.out; omega)).mono ?_; rintro e w1 ⟨rfl, hb1⟩))
      go_loopw [4, 12] (fun r i wx => ∃ (j : Nat) (aj : Option Addr) (cj : Nat), j ≤ 4 ∧ i = .int .i64 j ∧ r = .int .u64 ((x / 256 ^ j : Nat) : Int) ∧ (Wt 68 wx b aj cj ⟨s.most, s.l ++ (numB x 4).take j, 0⟩ ∧ New w a aj ∧ But (Ft b a) w wx)) (fun _ i _ => 4 - (intOf i).toNat)
      case atStart =>
        have hs : (⟨s.most, s.l ++ [], 0⟩ : WS) = s := by rw [List.append_nil]; have := HE.out; cases s; simp_all
        exact ⟨0, a, cap, Nat.zero_le _, rfl, by simp, by rw [List.take_zero, hs]; exact H.out.keep hb1, New.refl _ _, But.ofBelow hb1⟩
      case round =>
        clear hb1
        obtain ⟨j, aj, cj, hj, rfl, rfl, hG⟩ := hrel
        have HG := hide hG
        clear hG
        by_cases hlt : j < 4
        · have hi : (j : Int) < 4 := by omega
          have c1 := HG.out.1.c1
          have hlw := HG.out.1.lt
          have hdiv := div_step x j
          have hxl : x / 256 ^ j < 18446744073709551616 := Nat.lt_of_le_of_lt (Nat.div_le_self _ _) (by omega)
          have hget := numB_get x 4 j hlt
          have hsn := take_snoc (numB x 4) (k := j) (by rw [numB_length]; exact hlt)
          rw [hget] at hsn
          have HSN := hide hsn
          have HDV := hide hdiv
          have hmod : x / 256 ^ j % 256 < 256 := Nat.mod_lt _ (by decide)
          clear hsn hget hdiv
          generalize x / 256 ^ j = y at *
          have hw8 : IntKind.u8.wrap (y : Int) = ((y % 256 : Nat) : Int) := by rw [IntKind.wrap_u8']; omega
          have hz : ((s.l ++ (numB x 4).take j).length) = s.l.length + j := by rw [List.length_append, List.length_take, numB_length]; omega
          dsimp only at c1
          rw [hz] at c1
          have HSL : Hid ((s.l ++ (numB x 4).take j) ++ [y % 256] = s.l ++ (numB x 4).take (j + 1)) := by rw [List.append_assoc, HSN.out]; exact rfl
          generalize s.l ++ (numB x 4).take j = L at *
          go_wp2_with (at_builtin; refine wpList_ap1 rfl _ _ rfl aj (s.l.length + j) cj L rfl hz.symm (HG.out.1.2.1.keep ((Below.refl _ _).alloc (Nat.le_refl _) _)) ⟨wr.heap.size, 0, none⟩ 1 (y % 256) rfl ?c1 (by have := HF.out; have := HM.out; omega) ?_)
          try case c1 => simp
          intro g cap' w2 hR hN hg _
          obtain ⟨d1, e1, G⟩ := (HG.out.1.alloc _).after (n := s.l.length + j + 1) (p := [y % 256]) (by decide) hR hN hg (by intro z hm; rw [List.mem_singleton] at hm; omega) (by have := HF.out; show L.length + 1 ≤ s.most; omega) rfl (by show _ = L.length + 1; omega)
          dsimp only at d1
          rw [hz] at d1
          clear hR hN hg c1
          go_wp2
          go_roundw
          case rel =>
            refine ⟨j + 1, some ⟨g, 0, none⟩, cap', by omega, by go_num, ?_, ?_⟩
            · rw [← HDV.out]; simp
            have h3 := G.out
            dsimp only at h3
            rw [HSL.out] at h3
            refine ⟨h3.1, HG.out.2.1.trans (h3.2.1.mono (by rw [size_alloc]; omega)) HG.out.2.2.size, (HG.out.2.2.alloc _).trans h3.2.2 ?_⟩
            rintro k hk (rfl | ⟨z, hz, e⟩)
            · exact .inl rfl
            · rcases HG.out.2.1 z hz with ⟨u, hu, e2⟩ | h4
              · exact .inr ⟨u, hu, e2.trans e⟩
              · omega
          case measure => simp [intOf]; omega
        · obtain rfl : j = 4 := by omega
          go_wp2
          go_end0
          refine ⟨rfl, aj, cj, ?_⟩
          have h3 := HG.out
          rw [List.take_of_length_le (by rw [numB_length]; exact Nat.le_refl _)] at h3
          exact h3
    · rw [WS.put_many he (by omega)]
      rw [numB_length] at hf
      have HF := hide hf
      clear hf he
      go_enter Try.func35, Try.ntmps35
      go_wp2_with (first | (go_at_call 69; refine (width32_any _).mono ?_; rintro e w0 ⟨rfl, hw0⟩; subst w0) | (go_at_call 59; refine (takes_no _ b a cap s _ H.out HE.out (by have := HF.out; omega)).mono ?_; rintro e w1 ⟨rfl, h1, hb1⟩; have H1 := hide h1; clear h1))
      refine bodyPost_ret (results_none rfl _ _ _) rfl ?_
      exact ⟨rfl, Did.same H1.out (hb1.toFt a)⟩
  · rw [WS.put_err he]
    have HE := hide he
    clear he
    go_enter Try.func35, Try.ntmps35
    go_wp2_with (first | (go_at_call 69; refine (width32_any _).mono ?_; rintro e w0 ⟨rfl, hw0⟩; subst w0) | (go_at_call 59; refine (takes_err _ b a cap s _ H.out HE.out).mono ?_; rintro e w1 ⟨rfl, hb1⟩))
    refine bodyPost_ret (results_none rfl _ _ _) rfl ?_
    exact ⟨rfl, Did.same (H.out.keep hb1) (But.ofBelow hb1)⟩
set_option maxHeartbeats 1600000 in
theorem Put64_any (w : World) (b : Nat) (a : Option Addr) (cap : Nat) (s : WS) (x : Nat) (hx : x < 18446744073709551616) (h : Wt 68 w b a cap s) :
    Calls Try.prog 36 #[.pointer (some ⟨b, 0, none⟩), .int .u64 (x : Int)] w fun y w' => y = .returned (.tuple #[]) ∧ Did 68 w w' b a (s.put (numB x 8)) := by
  have H := hide h
  have HM := hide h.2.2.1
  clear h
  have hwr : IntKind.u64.wrap (x : Int) = (x : Int) := by rw [IntKind.wrap_u64]; omega
  by_cases he : s.e = 0
  · have HE := hide he
    by_cases hf : s.l.length + (numB x 8).length ≤ s.most
    · rw [WS.put_fits he hf]
      rw [numB_length] at hf
      have HF := hide hf
      clear hf he
      go_enter Try.func36, Try.ntmps36
      go_wp2_with (first | (go_at_call 70; refine (width64_any _).mono ?_; rintro e w0 ⟨rfl, hw0⟩; subst w0) | (go_at_call 59; refine (takes_yes _ b a cap s _ H.out HE.out (by have := HF.out; omega)).mono ?_; rintro e w1 ⟨rfl, hb1⟩))
      go_loopw [4, 11] (fun r i wx => ∃ (j : Nat) (aj : Option Addr) (cj : Nat), j ≤ 8 ∧ i = .int .i64 j ∧ r = .int .u64 ((x / 256 ^ j : Nat) : Int) ∧ (Wt 68 wx b aj cj ⟨s.most, s.l ++ (numB x 8).take j, 0⟩ ∧ New w a aj ∧ But (Ft b a) w wx)) (fun _ i _ => 8 - (intOf i).toNat)
      case atStart =>
        have hs : (⟨s.most, s.l ++ [], 0⟩ : WS) = s := by rw [List.append_nil]; have := HE.out; cases s; simp_all
        exact ⟨0, a, cap, Nat.zero_le _, rfl, by simp, by rw [List.take_zero, hs]; exact H.out.keep hb1, New.refl _ _, But.ofBelow hb1⟩
      case round =>
        clear hb1
        obtain ⟨j, aj, cj, hj, rfl, rfl, hG⟩ := hrel
        have HG := hide hG
        clear hG
        by_cases hlt : j < 8
        · have hi : (j : Int) < 8 := by omega
          have c1 := HG.out.1.c1
          have hlw := HG.out.1.lt
          have hdiv := div_step x j
          have hxl : x / 256 ^ j < 18446744073709551616 := Nat.lt_of_le_of_lt (Nat.div_le_self _ _) (by omega)
          have hget := numB_get x 8 j hlt
          have hsn := take_snoc (numB x 8) (k := j) (by rw [numB_length]; exact hlt)
          rw [hget] at hsn
          have HSN := hide hsn
          have HDV := hide hdiv
          have hmod : x / 256 ^ j % 256 < 256 := Nat.mod_lt _ (by decide)
          clear hsn hget hdiv
          generalize x / 256 ^ j = y at *
          have hw8 : IntKind.u8.wrap (y : Int) = ((y % 256 : Nat) : Int) := by rw [IntKind.wrap_u8']; omega
          have hz : ((s.l ++ (numB x 8).take j).length) = s.l.length + j := by rw [List.length_append, List.length_take, numB_length]; omega
          dsimp only at c1
          rw [hz] at c1
          have HSL : Hid ((s.l ++ (numB x 8).take j) ++ [y % 256] = s.l ++ (numB x 8).take (j + 1)) := by rw [List.append_assoc, HSN.out]; exact rfl
          generalize s.l ++ (numB x 8).take j = L at *
          go_wp2_with (at_builtin; refine wpList_ap1 rfl _ _ rfl aj (s.l.length + j) cj L rfl hz.symm (HG.out.1.2.1.keep ((Below.refl _ _).alloc (Nat.le_refl _) _)) ⟨wr.heap.size, 0, none⟩ 1 (y % 256) rfl ?c1 (by have := HF.out; have := HM.out; omega) ?_)
          try case c1 => simp
          intro g cap' w2 hR hN hg _
          obtain ⟨d1, e1, G⟩ := (HG.out.1.alloc _).after (n := s.l.length + j + 1) (p := [y % 256]) (by decide) hR hN hg (by intro z hm; rw [List.mem_singleton] at hm; omega) (by have := HF.out; show L.length + 1 ≤ s.most; omega) rfl (by show _ = L.length + 1; omega)
          dsimp only at d1
          rw [hz] at d1
          clear hR hN hg c1
          go_wp2
          go_roundw
          case rel =>
            refine ⟨j + 1, some ⟨g, 0, none⟩, cap', by omega, by go_num, ?_, ?_⟩
            · rw [← HDV.out]; simp
            have h3 := G.out
            dsimp only at h3
            rw [HSL.out] at h3
            refine ⟨h3.1, HG.out.2.1.trans (h3.2.1.mono (by rw [size_alloc]; omega)) HG.out.2.2.size, (HG.out.2.2.alloc _).trans h3.2.2 ?_⟩
            rintro k hk (rfl | ⟨z, hz, e⟩)
            · exact .inl rfl
            · rcases HG.out.2.1 z hz with ⟨u, hu, e2⟩ | h4
              · exact .inr ⟨u, hu, e2.trans e⟩
              · omega
          case measure => simp [intOf]; omega
        · obtain rfl : j = 8 := by omega
          go_wp2
          go_end0
          refine ⟨rfl, aj, cj, ?_⟩
          have h3 := HG.out
          rw [List.take_of_length_le (by rw [numB_length]; exact Nat.le_refl _)] at h3
          exact h3
    · rw [WS.put_many he (by omega)]
      rw [numB_length] at hf
      have HF := hide hf
      clear hf he
      go_enter Try.func36, Try.ntmps36
      go_wp2_with (first | (go_at_call 70; refine (width64_any _).mono ?_; rintro e w0 ⟨rfl, hw0⟩; subst w0) | (go_at_call 59; refine (takes_no _ b a cap s _ H.out HE.out (by have := HF.out; omega)).mono ?_; rintro e w1 ⟨rfl, h1, hb1⟩; have H1 := hide h1; clear h1))
      refine bodyPost_ret (results_none rfl _ _ _) rfl ?_
      exact ⟨rfl, Did.same H1.out (hb1.toFt a)⟩
  · rw [WS.put_err he]
    have HE := hide he
    clear he
    go_enter Try.func36, Try.ntmps36
    go_wp2_with (first | (go_at_call 70; refine (width64_any _).mono ?_; rintro e w0 ⟨rfl, hw0⟩; subst w0) | (go_at_call 59; refine (takes_err _ b a cap s _ H.out HE.out).mono ?_; rintro e w1 ⟨rfl, hb1⟩))
    refine bodyPost_ret (results_none rfl _ _ _) rfl ?_
    exact ⟨rfl, Did.same (H.out.keep hb1) (But.ofBelow hb1)⟩
end Go.Proofs.Ytlkjpljfbmploaa
