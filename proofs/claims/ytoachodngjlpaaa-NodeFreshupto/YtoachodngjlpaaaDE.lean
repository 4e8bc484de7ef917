import Derived.Test.YtoachodngjlpaaaDA
import Derived.Laws.Externs
import Derived.Laws.CopyOwn
import Derived.Laws.ResultCell
import Derived.Deep.MidRow
import Derived.Lib.SlBytesConst
import Derived.ProofKit
import Derived.OpenShut
import Derived.ShutString
import Derived.ChangeOld
import Derived.Deep.Slices
import Derived.SizedLaws
import Derived.JoinedCond
namespace Go.Proofs.Ytoachodngjlpaaa
set_option linter.unusedVariables false
section
open Go.RowKit
theorem Bs.cut {w : World} {a : Option Addr} {l : List Nat} (h : Bs w a l) (n : Nat) : Bs w a (l.take n) := by
  refine ⟨fun x hx => h.1 x (List.mem_of_mem_take hx), by rw [List.length_take]; have := h.2.1; omega, ?_⟩
  rcases h.2.2 with rfl | ⟨b, off, rfl, hc⟩
  · exact .inl (by simp)
  · refine .inr ⟨b, off, rfl, fun i hi => ?_⟩
    rw [List.length_take] at hi
    rw [hc i (by omega)]
    have : (l.take n).getD i 0 = l.getD i 0 := by
      simp only [List.getD_eq_getElem?_getD]
      rw [List.getElem?_take_of_lt (by omega)]
    rw [this]
theorem getD_lt {l : List Nat} (h : B8 l) (i : Nat) : l.getD i 0 < 256 := by
  by_cases hi : i < l.length
  · rw [getD_at l hi]; exact h _ (List.getElem_mem _)
  · simp [List.getD_eq_getElem?_getD, List.getElem?_eq_none (by omega : l.length ≤ i)]
theorem getD_take {l : List Nat} {i n : Nat} (h : i < n) : (l.take n).getD i 0 = l.getD i 0 := by
  simp only [List.getD_eq_getElem?_getD]
  rw [List.getElem?_take_of_lt h]
set_option maxHeartbeats 1600000 in
theorem Common_any (w : World) (a b : Option Addr) (n c m d : Nat) (l k : List Nat) (hA : Bs w a l) (hB : Bs w b k) (hn : n = l.length) (hm : m = k.length) :
    Calls Try.prog 39 #[.slice a n c, .slice b m d] w fun e w' => e = .returned (.int .i64 (common l k : Nat)) ∧ Below w.heap.size w w' := by
  subst hn hm
  have hlen := hA.2.1
  have hlen2 := hB.2.1
  have HA := hide hA
  have HB := hide hB
  have HC := hide (common_at l k)
  clear hA hB
  obtain ⟨M, hM⟩ : ∃ M, M = min l.length k.length := ⟨_, rfl⟩
  have hmin : ∀ w' : World, (Builtin.min_ #[3, 3] 3 #[.int .i64 (l.length : Int), .int .i64 (k.length : Int)]).run Try.prog w' = .ok (.int .i64 (M : Int)) w' := by
    intro w'
    subst hM
    by_cases h : l.length ≤ k.length
    · simp [Builtin.min_, Builtin.min2, Nat.min_eq_left h]
      omega
    · simp [Builtin.min_, Builtin.min2, Nat.min_eq_right (by omega : k.length ≤ l.length)]
      omega
  have HM := hide hM
  have hM1 : M ≤ l.length := by omega
  have hM2 : M ≤ k.length := by omega
  clear hM
  go_enter Try.func39, Try.ntmps39
  go_wp2
  go_loopw [6, 13] (fun _ i wx => ∃ j : Nat, j ≤ M ∧ i = .int .i64 j ∧ ((∀ i, i < j → l.getD i 0 = k.getD i 0) ∧ Below w.heap.size w wx)) (fun _ i _ => M - (intOf i).toNat)
  case atStart => exact ⟨0, Nat.zero_le _, rfl, fun i hi => by omega, Below.refl _ _⟩
  case round =>
    obtain ⟨j, hj, rfl, hG⟩ := hrel
    have HG := hide hG
    clear hG
    by_cases hlt : j < M
    · have hi : (j : Int) < (M : Int) := by omega
      have hi1 : (j : Int) < (l.length : Int) := by omega
      have hi2 : (j : Int) < (k.length : Int) := by omega
      obtain ⟨b1, o1, rfl, hc1⟩ := byte_at HA.out HG.out.2 (j := j) (by omega)
      obtain ⟨b2, o2, rfl, hc2⟩ := byte_at HB.out HG.out.2 (j := j) (by omega)
      have hj1 := w64 (j := j) (by omega)
      by_cases hx : l.getD j 0 = k.getD j 0
      · have HS : Hid (∀ i, i < j + 1 → l.getD i 0 = k.getD i 0) := fun i hi => by
          by_cases e : i = j
          · rw [e]; exact hx
          · exact HG.out.1 i (by omega)
        rw [hx] at hc1
        generalize k.getD j 0 = x at *
        go_wp2
        go_quiet (fail)
        go_wp2
        go_roundw
        case rel => exact ⟨j + 1, by omega, by first | (go_num; done) | exact congrArg (Value.int IntKind.i64) (by omega), HS.out, bt HG.out.2 (drN _ _)⟩
        case measure => first | exact meas_up _ _ _ hj1 hlt | exact meas_up _ _ _ rfl hlt | (simp [intOf]; omega)
      · have HS : Hid (common l k = j) := HC.out j (by omega) (by omega) HG.out.1 (.inr (.inr hx))
        have hx1 : (((l.getD j 0 : Nat) : Int) == ((k.getD j 0 : Nat) : Int)) = false := eqf (by omega)
        generalize l.getD j 0 = x at *
        generalize k.getD j 0 = y at *
        go_wp2
        go_quiet (fail)
        go_wp2
        go_ret
        exact ⟨by rw [HS.out]; first | done | rfl, bt HG.out.2 (drN _ _)⟩
    · obtain rfl : j = M := by omega
      have HS : Hid (common l k = j) := HC.out j hM1 hM2 HG.out.1 (by have := HM.out; omega)
      go_wp2
      go_ret
      exact ⟨by rw [HS.out]; first | done | rfl, HG.out.2⟩
theorem between_no {a b : List Nat} (h : ¬ a < b) : between a b = ([], false) := by unfold between; rw [if_neg (fun h1 => h h1.1)]
theorem between_far {a b : List Nat} (h : ¬ common a b < 24) : between a b = ([], false) := by unfold between; rw [if_neg (fun h1 => h h1.2)]
theorem between_pre {a b : List Nat} (h : a < b) (h1 : common a b < 24) (h2 : common a b = a.length) : between a b = (a ++ [0], true) := by unfold between; rw [if_pos ⟨h, h1⟩, btw_code a b h, if_pos h2]
theorem between_inc {a b : List Nat} (h : a < b) (h1 : common a b < 24) (h2 : ¬ common a b = a.length) : between a b = (inc (a.take (common a b + 1)), true) := by unfold between; rw [if_pos ⟨h, h1⟩, btw_code a b h, if_neg h2]
set_option maxHeartbeats 1600000 in
theorem Between_any (w : World) (a b : Option Addr) (n c m d : Nat) (l k : List Nat) (hA : Bs w a l) (hB : Bs w b k) (hn : n = l.length) (hm : m = k.length) (hcap : l.length ≤ c) :
    Calls Try.prog 35 #[.slice a n c, .slice b m d] w fun e w' => ∃ a' c', e = .returned (.tuple #[.slice a' (between l k).1.length c', .bool (between l k).2]) ∧ Own w w' a' c' (between l k).1 := by
  subst hn hm
  have CM := hide (sCompare_any w a b l.length c k.length d l k hA hB rfl rfl)
  have CO := hide (Common_any w a b l.length c k.length d l k hA hB rfl rfl)
  by_cases h : l < k
  · have q : ¬ (0 : Int) ≤ cmpB l k := fun h1 => by rw [cmpB_ge] at h1; grind
    generalize cmpB l k = z at *
    by_cases h24 : common l k < 24
    · have q24 : ¬ (24 : Int) ≤ ((common l k : Nat) : Int) := by omega
      by_cases hp : common l k = l.length
      · have HN := hide (between_pre h h24 hp)
        have HR := hide fun w1 (hb : Below w.heap.size w w1) => lengthened_any w1 a l.length c l (hA.keep hb) rfl (by omega)
        rw [hp] at CO q24
        clear hA hB h h24 hp
        go_enter Try.func35, Try.ntmps35
        go_wp2_with fail
        refine CM.out.mono ?_
        rintro e w1 ⟨rfl, hw⟩
        obtain rfl := hw.symm
        go_wp2_with fail
        refine CO.out.mono ?_
        rintro e w1 ⟨rfl, hb⟩
        have HBL := hide hb
        clear hb
        go_wp2_with fail
        refine (HR.out w1 HBL.out).mono ?_
        rintro e w2 ⟨a', c', rfl, ho⟩
        have HO := hide ho
        clear ho
        go_wp2
        refine bodyPost_ret (results_tmp2 Try.results35 _ _ _) rfl ?_
        exact ⟨a', c', by rw [HN.out]; first | rfl | simp, by rw [HN.out]; exact Own.pre HBL.out HO.out⟩
      · have HN := hide (between_inc h h24 hp)
        have hle := (common_le l k).1
        have hlt : common l k < l.length := by omega
        have hl2 := btw_last l k h hp
        have hk8 := getD_lt (B8_of hB) (common l k)
        generalize common l k = j at *
        obtain ⟨bl, off, rfl, _⟩ := hA.at hlt
        have hlen : (l.take (j + 1)).length = j + 1 := by rw [List.length_take]; omega
        have HR := hide fun w1 (hb : Below w.heap.size w w1) => raised_any w1 (some ⟨bl, off, none⟩) (j + 1) (j + 1) (l.take (j + 1)) ((hA.keep hb).cut _) hlen.symm (by omega) (by omega) (by
          rw [hlen, Nat.add_sub_cancel, getD_take (by omega)]; omega)
        have q2 : ((j : Int) == (l.length : Int)) = false := eqf (by omega)
        have q3 : (j : Int) + 1 ≤ (c : Int) := by omega
        have q4 : (j : Int) < 24 := by omega
        clear hA hB h h24 hp hl2 hk8 hlen q24
        go_enter Try.func35, Try.ntmps35
        go_wp2_with fail
        refine CM.out.mono ?_
        rintro e w1 ⟨rfl, hw⟩
        obtain rfl := hw.symm
        go_wp2_with fail
        refine CO.out.mono ?_
        rintro e w1 ⟨rfl, hb⟩
        have HBL := hide hb
        clear hb
        go_wp2_with fail
        refine (HR.out w1 HBL.out).mono ?_
        rintro e w2 ⟨a', c', rfl, ho⟩
        have HO := hide ho
        clear ho
        go_wp2
        refine bodyPost_ret (results_tmp2 Try.results35 _ _ _) rfl ?_
        exact ⟨a', c', by rw [HN.out]; first | rfl | simp, by rw [HN.out]; exact Own.pre HBL.out HO.out⟩
    · have q24 : (24 : Int) ≤ ((common l k : Nat) : Int) := by omega
      have HN := hide (between_far h24)
      clear hA hB h h24
      generalize common l k = j at *
      go_enter Try.func35, Try.ntmps35
      go_wp2_with fail
      refine CM.out.mono ?_
      rintro e w1 ⟨rfl, hw⟩
      obtain rfl := hw.symm
      go_wp2_with fail
      refine CO.out.mono ?_
      rintro e w1 ⟨rfl, hb⟩
      have HBL := hide hb
      clear hb
      go_wp2
      refine bodyPost_ret (results_tmp2 Try.results35 _ _ _) rfl ?_
      exact ⟨none, 0, by rw [HN.out]; first | rfl | simp, by rw [HN.out]; exact Own.nil _ HBL.out⟩
  · have q : (0 : Int) ≤ cmpB l k := by rw [cmpB_ge]; grind
    have HN := hide (between_no h)
    clear hA hB h CO
    generalize cmpB l k = z at *
    go_enter Try.func35, Try.ntmps35
    go_wp2_with fail
    refine CM.out.mono ?_
    rintro e w1 ⟨rfl, hw⟩
    obtain rfl := hw.symm
    go_wp2
    refine bodyPost_ret (results_tmp2 Try.results35 _ _ _) rfl ?_
    exact ⟨none, 0, by rw [HN.out]; first | rfl | simp, by rw [HN.out]; exact Own.nil _ (Below.refl _ _)⟩
end
section
open Go.RowKit
theorem Rw.thaw {w : World} {g c : Nat} {l : List Nat} (h : Rw w (some ⟨g, 0, none⟩) c l) (i : Nat) : w.frozen? ⟨g, i, none⟩ = false := by
  rcases h.cases with ⟨h0, _⟩ | ⟨g', cur, h0, hg, _⟩
  · cases h0
  · simp only [Option.some.injEq, Addr.mk.injEq] at h0
    obtain ⟨rfl, _⟩ := h0
    exact frozen_of_row _ _ _ _ _ hg
end
section
open Go.RowKit
theorem incC_full : ∀ m : Nat, incC (List.replicate m 255) = []
  | 0 => rfl
  | m + 1 => by rw [List.replicate_succ]; simp [incC, incC_full m]
theorem incC_from : ∀ (p : List Nat) (x m : Nat), x ≠ 255 → incC (p ++ x :: List.replicate m 255) = p ++ (x + 1) :: List.replicate m 0
  | [], x, m, h => by simp [incC, incC_full m, h]
  | y :: p, x, m, h => by simp [incC, incC_from p x m h]
/-- the first loop's row -/
def pad (a : List Nat) (n : Nat) : List Nat := a.take n ++ List.replicate (n - a.length) 0
theorem pad_len (a : List Nat) (n : Nat) : (pad a n).length = n := by simp [pad]; omega
theorem pad_in {a : List Nat} {n : Nat} (h : n < a.length) : pad a (n + 1) = pad a n ++ [a.getD n 0] := by
  unfold pad
  rw [List.take_succ_eq_append_getElem h, show n + 1 - a.length = 0 by omega, show n - a.length = 0 by omega, getD_at a h]
  simp
theorem pad_out {a : List Nat} {n : Nat} (h : ¬ n < a.length) : pad a (n + 1) = pad a n ++ [0] := by
  unfold pad
  rw [List.take_of_length_le (by omega), List.take_of_length_le (by omega), show n + 1 - a.length = (n - a.length) + 1 by omega, List.replicate_succ']
  simp
theorem pad_b8 {a : List Nat} (h : B8 a) (n : Nat) : B8 (pad a n) := B8.app.2 ⟨h.take n, fun x hx => by rw [List.eq_of_mem_replicate hx]; decide⟩
theorem abv_long {a : List Nat} {n : Nat} (h : a.length < n) : abv a n = pad a n := by
  unfold abv pad
  rw [if_pos h, List.take_of_length_le (by omega)]
theorem abv_cut {a : List Nat} {n : Nat} (h : ¬ a.length < n) : abv a n = incC (a.take n) ∧ pad a n = a.take n := by
  unfold abv pad
  rw [if_neg h, show n - a.length = 0 by omega]
  simp
/-- the second loop: what is behind place j is 255, and 0 now -/
def Bk (t : List Nat) (n j : Nat) : Prop := t = t.take j ++ List.replicate (n - j) 255
theorem Bk.step {t : List Nat} {n j : Nat} (hl : t.length = n) (h : Bk t n (j + 1)) (hj : j < n) (hx : t.getD j 0 = 255) : Bk t n j := by
  have e : t.take (j + 1) = t.take j ++ [255] := by rw [List.take_succ_eq_append_getElem (by omega), ← getD_at t (by omega), hx]
  unfold Bk at *
  rw [e] at h
  conv => lhs; rw [h]
  rw [List.append_assoc, show n - j = (n - (j + 1)) + 1 by omega, List.replicate_succ]
  rfl
theorem Bk.none {t : List Nat} {n : Nat} (h : Bk t n 0) : incC t = [] := by
  unfold Bk at h
  rw [h]
  simpa using incC_full n
theorem Bk.some {t : List Nat} {n j : Nat} (hl : t.length = n) (h : Bk t n (j + 1)) (hj : j < n) (hx : t.getD j 0 ≠ 255) : incC t = t.take j ++ (t.getD j 0 + 1) :: List.replicate (n - (j + 1)) 0 := by
  have e : t.take (j + 1) = t.take j ++ [t.getD j 0] := by rw [List.take_succ_eq_append_getElem (by omega), ← getD_at t (by omega)]
  unfold Bk at h
  rw [e, List.append_assoc] at h
  conv => lhs; rw [h]
  exact incC_from _ _ _ hx
theorem row_get {t : List Nat} {j m : Nat} (hj : j < t.length) : (t.take (j + 1) ++ List.replicate m 0).getD j 0 = t.getD j 0 := by
  have h1 : j < (t.take (j + 1)).length := by rw [List.length_take]; omega
  simp only [List.getD_eq_getElem?_getD]
  rw [List.getElem?_append_left h1, List.getElem?_take_of_lt (by omega)]
theorem row_set0 {t : List Nat} {n j : Nat} (hl : t.length = n) (hj : j < n) : (t.take (j + 1) ++ List.replicate (n - (j + 1)) 0).set j 0 = t.take j ++ List.replicate (n - j) 0 := by
  rw [List.take_succ_eq_append_getElem (by omega), List.append_assoc, List.set_append_right _ _ (by rw [List.length_take]; omega), List.length_take, show j - min j t.length = 0 by omega, show n - j = (n - (j + 1)) + 1 by omega, List.replicate_succ]
  rfl
theorem row_set1 {t : List Nat} {n j x : Nat} (hl : t.length = n) (hj : j < n) : (t.take (j + 1) ++ List.replicate (n - (j + 1)) 0).set j x = t.take j ++ x :: List.replicate (n - (j + 1)) 0 := by
  rw [List.take_succ_eq_append_getElem (by omega), List.append_assoc, List.set_append_right _ _ (by rw [List.length_take]; omega), List.length_take, show j - min j t.length = 0 by omega]
  rfl
theorem abv_b8 {a : List Nat} (h : B8 a) : ∀ n, B8 (abv a n) := by
  have hc : ∀ p : List Nat, B8 p → B8 (incC p) := by
    intro p
    induction p with
    | nil => intro _; exact B8.nil
    | cons x p ih =>
      intro hp
      have hx := (B8.cons.1 hp).1
      have h2 := ih (B8.cons.1 hp).2
      simp only [incC]
      split
      · split
        · exact B8.nil
        · rw [B8.cons]; exact ⟨by omega, fun y hy => by rw [List.eq_of_mem_replicate hy]; decide⟩
      · rw [B8.cons]; exact ⟨hx, h2⟩
  intro n
  unfold abv
  split
  · exact B8.app.2 ⟨h, fun x hx => by rw [List.eq_of_mem_replicate hx]; decide⟩
  · exact hc _ (h.take n)
end
section
open Go.RowKit
theorem abv_bad {l k : List Nat} {j : Nat} (hj : 1 ≤ j) (h : ¬ l < k ∨ j ≤ common l k) : (abv l j).length ≠ j ∨ 0 < cmpB (abv l j) k := by
  by_cases h0 : abv l j = []
  · left; rw [h0]; simp; omega
  · right
    rw [cmpB_pos]
    rcases h with h | h
    · have := abv_gt l j h0
      grind
    · have := abv_short h h0
      grind
theorem abv_good {l k : List Nat} (h : l < k) (hk : B8 k) : (abv l (common l k + 1)).length = common l k + 1 ∧ cmpB (abv l (common l k + 1)) k ≤ 0 := by
  obtain ⟨_, h2, h3, _⟩ := btw_spec l k h hk
  rw [abv_fit h hk]
  exact ⟨h3, cmpB_le.2 h2⟩
theorem between_yes {l k : List Nat} (h : l < k) (h2 : common l k < 24) (hk : B8 k) : between l k = (abv l (common l k + 1), true) := by
  unfold between
  rw [if_pos ⟨h, h2⟩, abv_fit h hk]
theorem between_not {l k : List Nat} (h : ¬ (l < k ∧ common l k < 24)) : between l k = ([], false) := by unfold between; rw [if_neg h]
end
end Go.Proofs.Ytoachodngjlpaaa
