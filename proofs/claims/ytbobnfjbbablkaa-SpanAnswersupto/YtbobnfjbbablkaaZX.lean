import Derived.Test.YtbobnfjbbablkaaZW
namespace Go.Proofs.Ytbobnfjbbablkaa
open Go.RowKit

theorem incC_full : ∀ m : Nat, incC (List.replicate m 255) = []
  | 0 => rfl
  | m + 1 => by rw [List.replicate_succ]; simp [incC, incC_full m]
theorem incC_from : ∀ (p : List Nat) (x m : Nat), x ≠ 255 → incC (p ++ x :: List.replicate m 255) = p ++ (x + 1) :: List.replicate m 0
  | [], x, m, h => by simp [incC, incC_full m, h]
  | y :: p, x, m, h => by simp [incC, incC_from p x m h]
/-- the first loop's row -/
def pad (a : List Nat) (n : Nat) : List Nat := a.take n ++ List.replicate (n - a.length) 0
theorem pad_len (a : List Nat) (n : Nat) : (pad a n).length = n := by simp [pad]; omega
theorem pad_in {a : List Nat} {n : Nat} (h : n < a.length) : pad a (n + 1) = pad a n ++ [a.getD n 0] := by
  unfold pad
  rw [List.take_succ_eq_append_getElem h, show n + 1 - a.length = 0 by omega, show n - a.length = 0 by omega, getD_at a h]
  simp
theorem pad_out {a : List Nat} {n : Nat} (h : ¬ n < a.length) : pad a (n + 1) = pad a n ++ [0] := by
  unfold pad
  rw [List.take_of_length_le (by omega), List.take_of_length_le (by omega), show n + 1 - a.length = (n - a.length) + 1 by omega, List.replicate_succ']
  simp
theorem pad_b8 {a : List Nat} (h : B8 a) (n : Nat) : B8 (pad a n) := B8.app.2 ⟨h.take n, fun x hx => by rw [List.eq_of_mem_replicate hx]; decide⟩
theorem abv_long {a : List Nat} {n : Nat} (h : a.length < n) : abv a n = pad a n := by
  unfold abv pad
  rw [if_pos h, List.take_of_length_le (by omega)]
theorem abv_cut {a : List Nat} {n : Nat} (h : ¬ a.length < n) : abv a n = incC (a.take n) ∧ pad a n = a.take n := by
  unfold abv pad
  rw [if_neg h, show n - a.length = 0 by omega]
  simp
/-- the second loop: what is behind place j is 255, and 0 now -/
def Bk (t : List Nat) (n j : Nat) : Prop := t = t.take j ++ List.replicate (n - j) 255
theorem Bk.step {t : List Nat} {n j : Nat} (hl : t.length = n) (h : Bk t n (j + 1)) (hj : j < n) (hx : t.getD j 0 = 255) : Bk t n j := by
  have e : t.take (j + 1) = t.take j ++ [255] := by rw [List.take_succ_eq_append_getElem (by omega), ← getD_at t (by omega), hx]
  unfold Bk at *
  rw [e] at h
  conv => lhs; rw [h]
  rw [List.append_assoc, show n - j = (n - (j + 1)) + 1 by omega, List.replicate_succ]
  rfl
theorem Bk.none {t : List Nat} {n : Nat} (h : Bk t n 0) : incC t = [] := by
  unfold Bk at h
  rw [h]
  simpa using incC_full n
theorem Bk.some {t : List Nat} {n j : Nat} (hl : t.length = n) (h : Bk t n (j + 1)) (hj : j < n) (hx : t.getD j 0 ≠ 255) : incC t = t.take j ++ (t.getD j 0 + 1) :: List.replicate (n - (j + 1)) 0 := by
  have e : t.take (j + 1) = t.take j ++ [t.getD j 0] := by rw [List.take_succ_eq_append_getElem (by omega), ← getD_at t (by omega)]
  unfold Bk at h
  rw [e, List.append_assoc] at h
  conv => lhs; rw [h]
  exact incC_from _ _ _ hx
theorem row_get {t : List Nat} {j m : Nat} (hj : j < t.length) : (t.take (j + 1) ++ List.replicate m 0).getD j 0 = t.getD j 0 := by
  have h1 : j < (t.take (j + 1)).length := by rw [List.length_take]; omega
  simp only [List.getD_eq_getElem?_getD]
  rw [List.getElem?_append_left h1, List.getElem?_take_of_lt (by omega)]
theorem row_set0 {t : List Nat} {n j : Nat} (hl : t.length = n) (hj : j < n) : (t.take (j + 1) ++ List.replicate (n - (j + 1)) 0).set j 0 = t.take j ++ List.replicate (n - j) 0 := by
  rw [List.take_succ_eq_append_getElem (by omega), List.append_assoc, List.set_append_right _ _ (by rw [List.length_take]; omega), List.length_take, show j - min j t.length = 0 by omega, show n - j = (n - (j + 1)) + 1 by omega, List.replicate_succ]
  rfl
theorem row_set1 {t : List Nat} {n j x : Nat} (hl : t.length = n) (hj : j < n) : (t.take (j + 1) ++ List.replicate (n - (j + 1)) 0).set j x = t.take j ++ x :: List.replicate (n - (j + 1)) 0 := by
  rw [List.take_succ_eq_append_getElem (by omega), List.append_assoc, List.set_append_right _ _ (by rw [List.length_take]; omega), List.length_take, show j - min j t.length = 0 by omega]
  rfl
theorem abv_b8 {a : List Nat} (h : B8 a) : ∀ n, B8 (abv a n) := by
  have hc : ∀ p : List Nat, B8 p → B8 (incC p) := by
    intro p
    induction p with
    | nil => intro _; exact B8.nil
    | cons x p ih =>
      intro hp
      have hx := (B8.cons.1 hp).1
      have h2 := ih (B8.cons.1 hp).2
      simp only [incC]
      split
      · split
        · exact B8.nil
        · rw [B8.cons]; exact ⟨by omega, fun y hy => by rw [List.eq_of_mem_replicate hy]; decide⟩
      · rw [B8.cons]; exact ⟨hx, h2⟩
  intro n
  unfold abv
  split
  · exact B8.app.2 ⟨h, fun x hx => by rw [List.eq_of_mem_replicate hx]; decide⟩
  · exact hc _ (h.take n)
set_option maxRecDepth 100000 in
set_option maxHeartbeats 3200000 in
theorem eabove_own (w : World) (a : Option Addr) (m c n : Nat) (l : List Nat) (hB : Bs w a l) (hm : m = l.length) (hn : n ≤ 24) :
    Calls Try.prog 54 #[.slice a m c, .int .i64 (n : Int)] w fun e w' => ∃ a' c', e = .returned (.slice a' (abv l n).length c') ∧ Bs w' a' (abv l n) ∧ Below w.heap.size w w' ∧ New w none a' := by
  subst hm
  have HB := hide hB
  have H8 := hide (B8_of hB)
  clear hB
  go_enter Try.func54, Try.ntmps54
  go_wp2
  go_loopw [5, 6] (fun v i wx => ∃ (j : Nat) (aj : Option Addr) (cj : Nat), j ≤ n ∧ i = .int .i64 j ∧ v = .slice aj j cj ∧ (Rw wx aj cj (pad l j) ∧ New w none aj ∧ Below w.heap.size w wx)) (fun _ i _ => n - (intOf i).toNat)
  case atStart => exact ⟨0, some ⟨w.heap.size, 0, none⟩, 0, Nat.zero_le _, rfl, rfl, Rw.mk (cur := #[]) (heap_alloc_new _ _) (by simp [pad]) (Nat.zero_le _) rfl (by simp [pad, vb]), newHere w _ (Nat.le_refl _), al _ _⟩
  case round =>
    obtain ⟨j, aj, cj, hj, rfl, rfl, hG⟩ := hrel
    have HG := hide hG
    clear hG
    by_cases hlt : j < n
    · have hi : (j : Int) < (n : Int) := by omega
      have hz := pad_len l j
      by_cases hl : j < l.length
      · have hi2 : (j : Int) < (l.length : Int) := by omega
        obtain ⟨bs, off, rfl, hcs⟩ := byte_at HB.out HG.out.2.2 hl
        have HS := hide (pad_in hl)
        have hlw := block_lt_of_cell hcs
        generalize l.getD j 0 = x at *
        generalize pad l j = P at *
        go_wp2_with (at_builtin; refine wpList_ap1 rfl _ _ rfl aj j cj P rfl hz.symm (HG.out.1.keep (al _ _)) ⟨wr.heap.size, 0, none⟩ 1 x rfl ?c1 (by omega) ?_)
        try case c1 => simp
        intro g cap' w2 hR hN hg _
        have hx := fresh_step HG.out.2.1 HG.out.2.2 hg hN
        rw [← HS.out] at hR
        have HR := hide hR
        clear hR hN hg
        go_wp2
        go_roundw
        case rel => exact ⟨j + 1, _, cap', by omega, by go_num, rfl, HR.out, hx.1, hx.2⟩
        case measure => simp [intOf]; omega
      · have hi2 : ¬ (j : Int) < (l.length : Int) := by omega
        have HS := hide (pad_out hl)
        generalize pad l j = P at *
        have hPb : P.length + 1 ≤ 140737488355328 := by omega
        go_wp2_with (at_builtin; refine wpList_ap1 rfl _ _ rfl aj j cj P rfl hz.symm (HG.out.1.keep (al _ _)) ⟨wr.heap.size, 0, none⟩ 1 0 rfl (by simp) hPb ?_)
        try case c1 => simp
        intro g cap' w2 hR hN hg _
        have hx := fresh_step HG.out.2.1 HG.out.2.2 hg hN
        rw [← HS.out] at hR
        have HR := hide hR
        clear hR hN hg
        go_wp2
        go_roundw
        case rel => exact ⟨j + 1, _, cap', by omega, by go_num, rfl, HR.out, hx.1, hx.2⟩
        case measure => simp [intOf]; omega
    · obtain rfl : j = n := by omega
      by_cases hln : l.length < j
      · have hi2 : (l.length : Int) < (j : Int) := by omega
        have HE := hide (abv_long hln)
        have hz := pad_len l j
        go_wp2
        go_ret
        have hb := HG.out.1.bs (pad_b8 H8.out j) HG.out.1.len_le
        exact ⟨aj, cj, by rw [HE.out, hz]; rfl, by rw [HE.out]; exact hb, HG.out.2.2, HG.out.2.1⟩
      · have hi2 : ¬ (l.length : Int) < (j : Int) := by omega
        obtain ⟨e1, e2⟩ := abv_cut hln
        have htl : (l.take j).length = j := by rw [List.length_take]; omega
        rw [e2] at HG
        have HE := hide e1
        have HT8 := hide (H8.out.take j)
        generalize l.take j = t at *
        have HTL := hide htl
        have HA8 := hide (abv_b8 H8.out j)
        clear htl e1 e2
        go_wp2
        go_loopw [7] (fun i wx => ∃ k : Nat, k ≤ j ∧ i = .int .i64 ((k : Int) - 1) ∧ (Rw wx aj cj (t.take k ++ List.replicate (j - k) 0) ∧ Bk t j k ∧ Below w.heap.size w wx)) (fun i _ => ((intOf i) + 1).toNat)
        case atStart =>
          refine ⟨j, Nat.le_refl _, rfl, ?_, ?_, HG.out.2.2⟩
          · rw [Nat.sub_self, List.replicate_zero, List.append_nil, List.take_of_length_le (by have := HTL.out; omega)]; exact HG.out.1
          · unfold Bk; rw [Nat.sub_self, List.replicate_zero, List.append_nil, List.take_of_length_le (by have := HTL.out; omega)]
        case round =>
          obtain ⟨k, hk, rfl, hG2⟩ := hrel
          have HG2 := hide hG2
          clear hG2
          cases k with
          | zero =>
            have HN : Hid (abv l j = []) := HE.out.trans HG2.out.2.1.none
            go_wp2
            go_ret
            exact ⟨none, 0, by rw [HN.out]; rfl, by rw [HN.out]; exact Bs.nil _, HG2.out.2.2, New.none _ _⟩
          | succ k =>
            have hkl : k < t.length := by have := HTL.out; omega
            have hrl : (t.take (k + 1) ++ List.replicate (j - (k + 1)) 0).length = j := by rw [List.length_append, List.length_take, List.length_replicate]; have := HTL.out; omega
            obtain ⟨g, hag, _⟩ := HG2.out.1.addr (by omega)
            have hrow := HG2.out.1
            rw [hag] at hrow
            have hcell := hrow.cell (i := k) (by omega)
            rw [row_get hkl] at hcell
            have hfz := hrow.thaw k
            have HAG := hide hag
            have HFR : Hid (w.heap.size ≤ g) := by
              rcases HG.out.2.1 _ hag with ⟨y, hy, _⟩ | h
              · cases hy
              · exact h
            have hkj : (k : Int) < (j : Int) := by omega
            have h256 := getD_lt HT8.out k
            have HROW := hide hrow
            clear hrow hrl
            subst hag
            by_cases hx : t.getD k 0 = 255
            · have HBK := hide (HG2.out.2.1.step HTL.out (by omega) hx)
              rw [hx] at hcell
              have HSET := hide (row_set0 HTL.out (show k < j by omega))
              clear hx
              go_wp2
              go_roundw
              case rel =>
                refine ⟨k, by omega, by first | rfl | (go_num; done) | (congr 1; omega), ?_, HBK.out, HG2.out.2.2.setCell HFR.out _⟩
                rw [← HSET.out]
                exact HROW.out.set k 0
              case measure => simp [intOf]
            · have HE2 : Hid (abv l j = t.take k ++ (t.getD k 0 + 1) :: List.replicate (j - (k + 1)) 0) := HE.out.trans (HG2.out.2.1.some HTL.out (by omega) hx)
              have HSET := hide (row_set1 (x := t.getD k 0 + 1) HTL.out (show k < j by omega))
              have hxb : (((t.getD k 0 : Nat) : Int) == 255) = false := eqf (by omega)
              have hlen : (t.take k ++ (t.getD k 0 + 1) :: List.replicate (j - (k + 1)) 0).length = j := by rw [List.length_append, List.length_take, List.length_cons, List.length_replicate]; have := HTL.out; omega
              rw [← HE2.out] at hlen HSET
              have HLEN := hide hlen
              clear hlen
              generalize t.getD k 0 = x at *
              have hx1 : IntKind.u8.wrap ((x : Int) + 1) = ((x + 1 : Nat) : Int) := by simp [IntKind.wrap, IntKind.bits, IntKind.signed]; omega
              clear hx
              go_wp2
              go_ret
              have hr := HROW.out.set k (x + 1)
              rw [HSET.out] at hr
              have hb1 := hr.bs HA8.out hr.len_le
              have hb2 := HG2.out.2.2.setCell (p := ⟨g, k, none⟩) HFR.out (.int .u8 ((x + 1 : Nat) : Int))
              first | exact ⟨some ⟨g, 0, none⟩, cj, by rw [HLEN.out]; rfl, hb1, hb2, newHere w g HFR.out⟩ | exact ⟨some ⟨g, 0, none⟩, ⟨cj, by rw [HLEN.out]; rfl⟩, hb1, hb2, newHere w g HFR.out⟩
theorem eabove_any (w : World) (a : Option Addr) (m c n : Nat) (l : List Nat) (hB : Bs w a l) (hm : m = l.length) (hn : n ≤ 24) :
    Calls Try.prog 54 #[.slice a m c, .int .i64 (n : Int)] w fun e w' => ∃ a' c', e = .returned (.slice a' (abv l n).length c') ∧ Bs w' a' (abv l n) ∧ Below w.heap.size w w' :=
  (eabove_own w a m c n l hB hm hn).mono fun _ _ ⟨a', c', h1, h2, h3, _⟩ => ⟨a', c', h1, h2, h3⟩
end Go.Proofs.Ytbobnfjbbablkaa
