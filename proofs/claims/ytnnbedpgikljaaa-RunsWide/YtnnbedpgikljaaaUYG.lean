import Derived.Test.YtnnbedpgikljaaaUYF
namespace Go.Proofs.Ytnnbedpgikljaaa
set_option linter.unusedVariables false
open Go.RowKit

/-! ### the document's Remove -/
def pc (lo hi : Int) (x : Rn) : List Rn := if x.2 < lo ∨ hi < x.1 then [x] else (if x.1 < lo then [(x.1, lo - 1)] else []) ++ (if hi < x.2 then [(hi + 1, x.2)] else [])
def rem (lo hi : Int) (L : List Rn) : List Rn := (L.map (pc lo hi)).flatten
theorem pc_mem {lo hi : Int} {x r : Rn} (hx : x.1 ≤ x.2) (hle : lo ≤ hi) (h : r ∈ pc lo hi x) : x.1 ≤ r.1 ∧ r.1 ≤ r.2 ∧ r.2 ≤ x.2 := by
  unfold pc at h
  by_cases c : x.2 < lo ∨ hi < x.1
  · rw [if_pos c, List.mem_singleton] at h
    rw [h]
    omega
  · rw [if_neg c, List.mem_append] at h
    rcases h with h | h
    · by_cases c1 : x.1 < lo
      · rw [if_pos c1, List.mem_singleton] at h
        rw [h]
        show x.1 ≤ x.1 ∧ x.1 ≤ lo - 1 ∧ lo - 1 ≤ x.2
        omega
      · rw [if_neg c1] at h
        cases h
    · by_cases c1 : hi < x.2
      · rw [if_pos c1, List.mem_singleton] at h
        rw [h]
        show x.1 ≤ hi + 1 ∧ hi + 1 ≤ x.2 ∧ x.2 ≤ x.2
        omega
      · rw [if_neg c1] at h
        cases h
theorem pc_has {lo hi : Int} {x : Rn} (hle : lo ≤ hi) (z : Int) : has (pc lo hi x) z = ((decide (x.1 ≤ z) && decide (z ≤ x.2)) && !(decide (lo ≤ z) && decide (z ≤ hi))) := by
  unfold pc
  rw [Bool.eq_iff_iff]
  simp only [Bool.and_eq_true, Bool.not_eq_true', Bool.and_eq_false_iff, decide_eq_false_iff_not, decide_eq_true_eq]
  by_cases c : x.2 < lo ∨ hi < x.1
  · rw [if_pos c, has_cons, has_nil]
    simp only [Bool.or_false, Bool.and_eq_true, decide_eq_true_eq]
    omega
  · rw [if_neg c, has_append]
    by_cases c1 : x.1 < lo
    · by_cases c2 : hi < x.2
      · rw [if_pos c1, if_pos c2, has_cons, has_cons, has_nil]
        simp only [Bool.or_false, Bool.or_eq_true, Bool.and_eq_true, decide_eq_true_eq]
        omega
      · rw [if_pos c1, if_neg c2, has_cons, has_nil]
        simp only [Bool.or_false, Bool.and_eq_true, decide_eq_true_eq]
        omega
    · by_cases c2 : hi < x.2
      · rw [if_neg c1, if_pos c2, has_cons, has_nil]
        simp only [Bool.or_false, Bool.false_or, Bool.and_eq_true, decide_eq_true_eq]
        omega
      · rw [if_neg c1, if_neg c2, has_nil]
        simp only [Bool.or_false]
        constructor
        · intro h; cases h
        · intro h; omega
theorem pc_pw {lo hi : Int} {x : Rn} (hx : x.1 ≤ x.2) (hle : lo ≤ hi) : (pc lo hi x).Pairwise fun a b => a.2 + 1 < b.1 := by
  unfold pc
  by_cases c : x.2 < lo ∨ hi < x.1
  · rw [if_pos c]; simp
  · rw [if_neg c]
    by_cases c1 : x.1 < lo
    · by_cases c2 : hi < x.2
      · rw [if_pos c1, if_pos c2]
        simp
        omega
      · rw [if_pos c1, if_neg c2]; simp
    · by_cases c2 : hi < x.2
      · rw [if_neg c1, if_pos c2]; simp
      · rw [if_neg c1, if_neg c2]; simp
theorem pc_length (lo hi : Int) (x : Rn) : (pc lo hi x).length ≤ 2 := by
  unfold pc
  split
  · simp
  · split <;> split <;> simp
theorem rem_cons (lo hi : Int) (x : Rn) (L : List Rn) : rem lo hi (x :: L) = pc lo hi x ++ rem lo hi L := rfl
theorem rem_snoc (lo hi : Int) {L : List Rn} {k : Nat} (hk : k < L.length) : rem lo hi (L.take (k + 1)) = rem lo hi (L.take k) ++ pc lo hi (L.getD k Rn.zero) := by
  unfold rem
  rw [take_next L Rn.zero hk, List.map_append, List.flatten_append]
  simp
theorem rem_spec {lo hi : Int} (hle : lo ≤ hi) : ∀ {L : List Rn}, Can L → Can (rem lo hi L) ∧ (∀ z, has (rem lo hi L) z = (has L z && !(decide (lo ≤ z) && decide (z ≤ hi)))) ∧ (∀ r ∈ rem lo hi L, ∃ x ∈ L, x.1 ≤ r.1 ∧ r.1 ≤ r.2 ∧ r.2 ≤ x.2) ∧ (rem lo hi L).length ≤ 2 * L.length
  | [], _ => ⟨Can.nil, fun z => rfl, by simp [rem], by simp [rem]⟩
  | x :: L, h => by
    obtain ⟨i1, i2, i3, i4⟩ := rem_spec hle h.tail
    have hx := h.1 x (by simp)
    have pw := (List.pairwise_cons.1 h.2).1
    rw [rem_cons]
    refine ⟨⟨fun r hr => ?_, ?_⟩, fun z => ?_, fun r hr => ?_, ?_⟩
    · rcases List.mem_append.1 hr with hr | hr
      · exact (pc_mem hx hle hr).2.1
      · exact i1.1 r hr
    · rw [List.pairwise_append]
      refine ⟨pc_pw hx hle, i1.2, fun a ha b hb => ?_⟩
      obtain ⟨y, hy, y1, y2, y3⟩ := i3 b hb
      have p1 := pc_mem hx hle ha
      have p2 := pw y hy
      omega
    · rw [has_append, pc_has hle, i2, has_cons]
      cases (decide (x.1 ≤ z) && decide (z ≤ x.2)) <;> cases has L z <;> simp
    · rcases List.mem_append.1 hr with hr | hr
      · exact ⟨x, by simp, pc_mem hx hle hr⟩
      · obtain ⟨y, hy, h1⟩ := i3 r hr
        exact ⟨y, by simp [hy], h1⟩
    · have := pc_length lo hi x
      rw [List.length_append, List.length_cons]
      omega
set_option maxHeartbeats 4000000 in
set_option maxRecDepth 20000 in
theorem rRemove_any (w : World) (b : Nat) (a : Option Addr) (cap : Nat) (L : List Rn) (lo hi : Int) (hS : Rt w b a cap L) (hlo : N64 lo) (hhi : N64 hi) (hlen : L.length ≤ 2147483648) :
    Calls Try.prog 13 #[.pointer (some ⟨b, 0, none⟩), .int .i64 lo, .int .i64 hi] w fun e w' => ∃ a' cap' R, e = .returned (.int .i64 ((min (sz L - sz R) mxi : Nat) : Int)) ∧ Rt w' b a' cap' R ∧ (∀ z, has R z = (has L z && !(decide (lo ≤ z) && decide (z ≤ hi)))) ∧ New w a a' ∧ But (fun k => k = b) w w' := by
  by_cases hle : lo ≤ hi
  case neg =>
    have E := hide (show min (sz L - sz L) mxi = 0 by rw [Nat.sub_self]; rfl)
    have HS := hide hS
    have HZ := hide (show ∀ z, has L z = (has L z && !(decide (lo ≤ z) && decide (z ≤ hi))) from fun z => by
      have : (decide (lo ≤ z) && decide (z ≤ hi)) = false := by
        rw [Bool.and_eq_false_iff, decide_eq_false_iff_not, decide_eq_false_iff_not]
        omega
      rw [this]
      simp)
    clear hS hlo hhi hlen
    go_enter Try.func13, Try.ntmps13
    go_wp2
    go_ret
    exact ⟨a, cap, L, by rw [E.out]; rfl, HS.out, fun z => (HZ.out z).trans (by rw [Bool.not_and]), New.refl _ _, But.refl _ _⟩
  have hc := hS.cell
  have C1 := hide (many_any w a cap L hS.row.vs hS.can.ris hS.bnd (by omega))
  have SL := hide (sz_le hS.can.ris hS.bnd)
  have HS := hide hS
  have SP := hide (rem_spec hle hS.can)
  have PL := hide fun (k : Nat) => (rem_spec hle (L := L.take k) ⟨fun r hr => hS.can.1 r (List.mem_of_mem_take hr), hS.can.2.sublist (List.take_sublist _ _)⟩).2.2.2
  have BN := hide (show ∀ r ∈ rem lo hi L, N64 r.1 ∧ N64 r.2 from fun r hr => by
    obtain ⟨x, hx, h1, h2, h3⟩ := (rem_spec hle hS.can).2.2.1 r hr
    have := hS.bnd x hx
    unfold N64 at *
    omega)
  have bl := hS.lt
  obtain ⟨n, hn⟩ : ∃ n : Nat, n = L.length := ⟨_, rfl⟩
  have NL := hide hn
  rw [← hn] at hc hlen C1
  clear hS hn
  obtain ⟨lo1, lo2⟩ := hlo
  obtain ⟨hi1, hi2⟩ := hhi
  obtain ⟨m2, hm2⟩ : ∃ m : Nat, sz L % 18446744073709551616 = m := ⟨_, rfl⟩
  obtain ⟨f2, hf2⟩ : ∃ f : Bool, decide (sz L = 18446744073709551616) = f := ⟨_, rfl⟩
  have M2 := hide hm2
  have F2 := hide hf2
  rw [hm2, hf2] at C1
  have lt2 : m2 < 18446744073709551616 := by omega
  clear hm2 hf2
  go_enter Try.func13, Try.ntmps13
  go_wp2_with fail
  refine C1.out.mono ?_
  rintro e w1 ⟨rfl, hb1⟩
  go_wp2
  go_loopw [9, 10] (fun p i wx => ∃ (k : Nat) (a1 : Option Addr) (c1 n1 : Nat), k ≤ n ∧ i = .int .i64 k ∧ p = .slice a1 n1 c1 ∧ n1 = (rem lo hi (L.take k)).length ∧ Un w1 wx a1 c1 (rem lo hi (L.take k))) (fun _ i _ => n - (intOf i).toNat)
  case atStart => exact ⟨0, none, 0, 0, Nat.zero_le _, rfl, rfl, rfl, Un.nil _⟩
  case round =>
    obtain ⟨k, a1, c1, n1, hk, rfl, rfl, hn1, hT⟩ := hrel
    have hbw := bt hb1 hT.b
    have T := hide hT
    have N1 := hide hn1
    have l1 : n1 ≤ 2 * k := by
      have := PL.out k
      rw [← hn1, List.length_take] at this
      omega
    have hc1 : wr.cell? ⟨b, 0, none⟩ = some (.slice a n cap) := (hbw.cell (p := ⟨b, 0, none⟩) (block_lt_of_cell hc)).trans hc
    clear hT hn1
    by_cases hlt : k < n
    · have hkL : k < L.length := by rw [← NL.out]; exact hlt
      obtain ⟨b1, o1, rfl, d1, d2⟩ := (HS.out.row.vs.keep hbw).at hkL
      have RS := hide (rem_snoc lo hi hkL)
      have bb := HS.out.bnd _ (getD_mem hkL)
      generalize L.getD k Rn.zero = r at *
      obtain ⟨x, y⟩ := r
      simp only at d1 d2 bb
      obtain ⟨⟨bb1, bb2⟩, bb3, bb4⟩ := bb
      have T1 : Un w1 (wr.alloc (.cells #[.int .i64 x, .int .i64 y] 87)) a1 c1 (rem lo hi (L.take k)) := T.out.keep (al wr (.cells #[.int .i64 x, .int .i64 y] 87))
      obtain ⟨v1, v2⟩ := Rf.new_run wr (x, y)
      simp only at v1 v2
      have nA := hide (show ¬ InA a1 wr.heap.size from fun ⟨z, hz, e⟩ => by have := T.out.r1.lt hz; omega)
      have T2 := hide T1
      clear T1 T
      by_cases h1 : y < lo
      · have g1 : decide (y < lo) = true := decide_eq_true h1
        have PC := hide (show pc lo hi (x, y) = [(x, y)] from if_pos (.inl h1))
        obtain ⟨g, cap', w2, hrun, u1, u2, u3⟩ := T2.out.next N1.out (x, y) (by omega)
        simp only [size_alloc] at hrun
        have T7 := hide u1
        clear u1 u2 u3 T2
        go_wp2_with (at_builtin; refine Lib.wpList_append_run _ rfl _ _ _ _ rfl _ _ rfl rfl _ _ hrun ?_)
        go_roundw
        case rel => exact ⟨k + 1, _, cap', n1 + 1, by omega, by simp, rfl, by rw [RS.out, PC.out, List.length_append, ← N1.out]; rfl, by rw [RS.out, PC.out]; exact T7.out⟩
        case measure => simp [intOf]; omega
      · have g1 : decide (y < lo) = false := decide_eq_false h1
        by_cases h2 : hi < x
        · have g2 : decide (hi < x) = true := decide_eq_true h2
          have PC := hide (show pc lo hi (x, y) = [(x, y)] from if_pos (.inr h2))
          obtain ⟨g, cap', w2, hrun, u1, u2, u3⟩ := T2.out.next N1.out (x, y) (by omega)
          simp only [size_alloc] at hrun
          have T7 := hide u1
          clear u1 u2 u3 T2
          go_wp2_with (at_builtin; refine Lib.wpList_append_run _ rfl _ _ _ _ rfl _ _ rfl rfl _ _ hrun ?_)
          go_roundw
          case rel => exact ⟨k + 1, _, cap', n1 + 1, by omega, by simp, rfl, by rw [RS.out, PC.out, List.length_append, ← N1.out]; rfl, by rw [RS.out, PC.out]; exact T7.out⟩
          case measure => simp [intOf]; omega
        · have g2 : decide (hi < x) = false := decide_eq_false h2
          have P0 : pc lo hi (x, y) = (if x < lo then [(x, lo - 1)] else []) ++ (if hi < y then [(hi + 1, y)] else []) := if_neg (by omega)
          by_cases h3 : x < lo
          · have s1 : IntKind.i64.wrap (lo - 1) = lo - 1 := wrapI (by omega) (by omega)
            have s2 : wrap64 (lo - 1) = lo - 1 := by unfold wrap64; omega
            obtain ⟨g, cap', w2, hrun, u1, u2, u3⟩ := T2.out.next N1.out (x, lo - 1) (by omega)
            simp only [size_alloc] at hrun
            have nb' := nA.out
            have vl : wr.heap.size < (wr.alloc (.cells #[.int .i64 x, .int .i64 y] 87)).heap.size := by rw [size_alloc]; omega
            have v3 := (u3.cell (p := ⟨wr.heap.size, 0, none⟩) vl nb').trans v1
            have v4 := (u3.cell (p := ⟨wr.heap.size, 1, none⟩) vl nb').trans v2
            have T7 := hide u1
            clear u1 u2 u3 T2 nb'
            by_cases h4 : hi < y
            · have PC := hide (show pc lo hi (x, y) = [(x, lo - 1)] ++ [(hi + 1, y)] by rw [P0, if_pos h3, if_pos h4])
              have s3 : IntKind.i64.wrap (hi + 1) = hi + 1 := wrapI (by omega) (by omega)
              have s4 : wrap64 (hi + 1) = hi + 1 := by unfold wrap64; omega
              obtain ⟨g', cap'', w3, hrun2, u1, u2, u3⟩ := T7.out.next (n := n1 + 1) (by rw [List.length_append, ← N1.out]; rfl) (hi + 1, y) (by omega)
              simp only at hrun2
              have T8 := hide u1
              clear u1 u2 u3 T7 P0
              go_wp2_with (at_builtin; first | refine Lib.wpList_append_run _ rfl _ _ _ _ rfl _ _ rfl rfl _ _ hrun ?_ | refine Lib.wpList_append_run _ rfl _ _ _ _ rfl _ _ rfl rfl _ _ hrun2 ?_)
              go_roundw
              case rel => exact ⟨k + 1, _, cap'', n1 + 1 + 1, by omega, by simp, rfl, by rw [RS.out, PC.out, List.length_append, ← N1.out]; rfl, by rw [RS.out, PC.out, ← List.append_assoc]; exact T8.out⟩
              case measure => simp [intOf]; omega
            · have PC := hide (show pc lo hi (x, y) = [(x, lo - 1)] by rw [P0, if_pos h3, if_neg h4]; rfl)
              clear P0
              go_wp2_with (at_builtin; refine Lib.wpList_append_run _ rfl _ _ _ _ rfl _ _ rfl rfl _ _ hrun ?_)
              go_roundw
              case rel => exact ⟨k + 1, _, cap', n1 + 1, by omega, by simp, rfl, by rw [RS.out, PC.out, List.length_append, ← N1.out]; rfl, by rw [RS.out, PC.out]; exact T7.out⟩
              case measure => simp [intOf]; omega
          · by_cases h4 : hi < y
            · have PC := hide (show pc lo hi (x, y) = [(hi + 1, y)] by rw [P0, if_neg h3, if_pos h4]; rfl)
              have s3 : IntKind.i64.wrap (hi + 1) = hi + 1 := wrapI (by omega) (by omega)
              have s4 : wrap64 (hi + 1) = hi + 1 := by unfold wrap64; omega
              obtain ⟨g, cap', w2, hrun, u1, u2, u3⟩ := T2.out.next N1.out (hi + 1, y) (by omega)
              simp only [size_alloc] at hrun
              have T7 := hide u1
              clear u1 u2 u3 T2 P0
              go_wp2_with (at_builtin; refine Lib.wpList_append_run _ rfl _ _ _ _ rfl _ _ rfl rfl _ _ hrun ?_)
              go_roundw
              case rel => exact ⟨k + 1, _, cap', n1 + 1, by omega, by simp, rfl, by rw [RS.out, PC.out, List.length_append, ← N1.out]; rfl, by rw [RS.out, PC.out]; exact T7.out⟩
              case measure => simp [intOf]; omega
            · have PC := hide (show pc lo hi (x, y) = [] by rw [P0, if_neg h3, if_neg h4]; rfl)
              clear P0
              go_wp2
              go_roundw
              case rel => exact ⟨k + 1, a1, c1, n1, by omega, by simp, rfl, by rw [RS.out, PC.out, List.append_nil]; exact N1.out, by rw [RS.out, PC.out, List.append_nil]; exact T2.out⟩
              case measure => simp [intOf]; omega
    · obtain rfl : k = n := by omega
      have e1 : L.take k = L := by rw [NL.out, List.take_length]
      rw [e1] at T N1
      clear e1
      obtain ⟨c3, q5, _, q6⟩ := SP.out
      have hb3 := hbw
      have q2 : New w none a1 := T.out.n1.mono hb1.size
      obtain ⟨p1, p2⟩ := HS.out.put hb3 T.out.r1 q2 c3 BN.out (by rw [← NL.out] at q6; omega)
      have hfb : wr.frozen? ⟨b, 0, none⟩ = false := free_of_one ((hb3.block b bl).trans HS.out.blk)
      have hc5 := p1.cell
      have C4 := hide (many_any _ a1 c1 _ p1.row.vs p1.can.ris p1.bnd (by rw [← NL.out] at q6; omega))
      have P1 := hide p1
      have P2 := hide p2
      have HH := hide q5
      have MO := hide (sz_mono c3.ris HS.out.can.ris BN.out HS.out.bnd (fun z hz => by rw [q5 z] at hz; simp at hz; exact hz.1))
      have Q2 := hide (show New w a a1 from fun z hz => by
        rcases q2 z hz with ⟨y, hy, _⟩ | h
        · cases hy
        · exact .inr h)
      rw [← N1.out] at hc5 C4 P1 P2
      generalize rem lo hi L = R at *
      obtain ⟨m1, hm1⟩ : ∃ m : Nat, sz R % 18446744073709551616 = m := ⟨_, rfl⟩
      obtain ⟨f1, hf1⟩ : ∃ f : Bool, decide (sz R = 18446744073709551616) = f := ⟨_, rfl⟩
      rw [hm1, hf1] at C4
      have lt1 : m1 < 18446744073709551616 := by omega
      obtain ⟨mm, hmm⟩ : ∃ m : Nat, (m2 + 18446744073709551616 - m1) % 18446744073709551616 = m := ⟨_, rfl⟩
      have lt3 : mm < 18446744073709551616 := by omega
      have u1 : IntKind.u64.wrap ((m2 : Int) - (m1 : Int)) = (mm : Int) := by rw [IntKind.wrap_u64]; omega
      have C5 := hide fun (W : World) (f : Bool) => told_any W mm f lt3
      have ANS := hide (show tld mm (f2 && !f1 && decide (m1 = 0)) = min (sz L - sz R) mxi by
        rw [← hmm, ← hf1, ← F2.out, ← hm1, ← M2.out]
        exact tld_sub SL.out MO.out)
      clear hm1 hf1 hmm q2 c3 q5 q6 p1 p2 M2 F2 MO SL SP PL BN
      rcases f2 with _ | _
      · go_wp2_with fail
        refine C4.out.mono ?_
        rintro e w5 ⟨rfl, hb5⟩
        go_wp2_with fail
        refine (C5.out w5 false).mono ?_
        rintro e w6 ⟨rfl, rfl⟩
        go_wp2
        go_ret
        exact ⟨a1, c1, R, by rw [← ANS.out]; rfl, P1.out.keep hb5, HH.out, Q2.out, P2.out.andBelow hb5⟩
      · rcases f1 with _ | _
        · by_cases h2 : m1 = 0
          · have h3 : decide (m1 = 0) = true := decide_eq_true h2
            have h4 : ((m1 : Int) == 0) = true := by simp [h2]
            have h5 : decide ((m1 : Int) = 0) = true := by simp [h2]
            have h6 : (m1 == 0) = true := by simp [h2]
            clear h2
            go_wp2_with fail
            refine C4.out.mono ?_
            rintro e w5 ⟨rfl, hb5⟩
            go_wp2_with fail
            refine (C5.out w5 true).mono ?_
            rintro e w6 ⟨rfl, rfl⟩
            go_wp2
            go_ret
            exact ⟨a1, c1, R, by rw [← ANS.out]; rw [h3]; rfl, P1.out.keep hb5, HH.out, Q2.out, P2.out.andBelow hb5⟩
          · have h3 : decide (m1 = 0) = false := decide_eq_false h2
            have h4 : ((m1 : Int) == 0) = false := by simp [h2]
            have h5 : decide ((m1 : Int) = 0) = false := by simp [h2]
            have h6 : (m1 == 0) = false := by simp [h2]
            go_wp2_with fail
            refine C4.out.mono ?_
            rintro e w5 ⟨rfl, hb5⟩
            go_wp2_with fail
            refine (C5.out w5 false).mono ?_
            rintro e w6 ⟨rfl, rfl⟩
            go_wp2
            go_ret
            exact ⟨a1, c1, R, by rw [← ANS.out]; rw [h3]; rfl, P1.out.keep hb5, HH.out, Q2.out, P2.out.andBelow hb5⟩
        · go_wp2_with fail
          refine C4.out.mono ?_
          rintro e w5 ⟨rfl, hb5⟩
          go_wp2_with fail
          refine (C5.out w5 false).mono ?_
          rintro e w6 ⟨rfl, rfl⟩
          go_wp2
          go_ret
          exact ⟨a1, c1, R, by rw [← ANS.out]; rfl, P1.out.keep hb5, HH.out, Q2.out, P2.out.andBelow hb5⟩
end Go.Proofs.Ytnnbedpgikljaaa
