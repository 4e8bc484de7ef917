import Derived.Test.YtbobnfjbbablkabZR
namespace Go.Proofs.Ytbobnfjbbablkab
open Go.RowKit

theorem Rw.addr {w : World} {a : Option Addr} {cap : Nat} {l : List Nat} (h : Rw w a cap l) (hl : 0 < l.length) : ∃ g, a = some ⟨g, 0, none⟩ ∧ l.length ≤ cap := by
  rcases h.cases with ⟨rfl, rfl, rfl⟩ | ⟨g, cur, rfl, hg, h1, h2, h3, h4⟩
  · simp at hl
  · exact ⟨g, rfl, h1⟩
theorem Rw.thaw {w : World} {g c : Nat} {l : List Nat} (h : Rw w (some ⟨g, 0, none⟩) c l) (i : Nat) : w.frozen? ⟨g, i, none⟩ = false := by
  rcases h.cases with ⟨h0, _⟩ | ⟨g', cur, h0, hg, _⟩
  · cases h0
  · simp only [Option.some.injEq, Addr.mk.injEq] at h0
    obtain ⟨rfl, _⟩ := h0
    exact frozen_of_row _ _ _ _ _ hg
theorem inc_take {l : List Nat} {j x : Nat} (hj : j < l.length) (hx : l.getD j 0 = x) : (l.set j (x + 1)).take (j + 1) = inc (l.take (j + 1)) := by
  unfold inc
  rw [List.length_take, Nat.min_eq_left (by omega), Nat.add_sub_cancel, getD_take (by omega), hx, List.take_set]
set_option maxRecDepth 100000 in
set_option maxHeartbeats 1600000 in
theorem eNext_own (w : World) (a : Option Addr) (n c : Nat) (l : List Nat) (hB : Bs w a l) (hn : n = l.length) (hcap : l.length ≤ c) :
    Calls Try.prog 44 #[.slice a n c] w fun e w' => ∃ a' c', e = .returned (.slice a' (next l).length c') ∧ Bs w' a' (next l) ∧ (next l).length ≤ c' ∧ Below w.heap.size w w' ∧ New w none a' := by
  subst hn
  by_cases h : l.length < 24
  · have q : (l.length : Int) < 24 := by omega
    have CP := hide (CopyBytes_any w a l.length c l hB rfl (by omega))
    have HN := hide (next_short h)
    have HB8 := hide (next_b8 (B8_of hB))
    clear hB
    go_enter Try.func44, Try.ntmps44
    go_wp2_with fail
    refine CP.out.mono ?_
    rintro e w1 ⟨a1, c1, rfl, r1, n1, b1⟩
    have R1 := hide r1
    have N1 := hide n1
    have B1 := hide b1
    clear r1 n1 b1
    go_wp2_with (at_builtin; refine wpList_ap1 rfl _ _ rfl a1 l.length c1 l rfl rfl (R1.out.keep (al _ _)) ⟨w1.heap.size, 0, none⟩ 1 0 rfl ?c1 (by omega) ?_)
    try case c1 => simp
    intro g cap' w2 hR hN hg _
    have hx := fresh_step N1.out B1.out hg hN
    have HR := hide hR
    clear hR hN hg
    go_wp2
    go_ret
    have hb := HR.out.bs (by rw [← HN.out]; exact HB8.out) HR.out.len_le
    exact ⟨some ⟨g, 0, none⟩, cap', by rw [HN.out]; simp, by rw [HN.out]; exact hb, by rw [HN.out]; exact HR.out.cap, hx.2, hx.1⟩
  · have q : ¬ (l.length : Int) < 24 := by omega
    obtain ⟨b, off, rfl, _⟩ := hB.at (j := 0) (by omega)
    have hl : (l.take 24).length = 24 := by rw [List.length_take]; omega
    have CP := hide (CopyBytes_any w (some ⟨b, off, none⟩) 24 c (l.take 24) (hB.cut _) hl.symm (by omega))
    have HN := hide (next_long h)
    have HB8 := hide (next_b8 (B8_of hB))
    have HC := hide (beh_code (l.take 24))
    have T8 := hide ((B8_of hB).take 24)
    have hc24 : (24 : Int) ≤ (c : Int) := by omega
    have hc24' : 24 ≤ c := by omega
    clear hB
    generalize l.take 24 = t at *
    go_enter Try.func44, Try.ntmps44
    go_wp2_with fail
    refine CP.out.mono ?_
    rintro e w1 ⟨a1, c1, rfl, r1, n1, b1⟩
    obtain ⟨g, rfl, hgc⟩ := r1.addr (by omega)
    have R1 := hide r1
    have B1 := hide b1
    have HG : Hid (w.heap.size ≤ g) := by
      rcases n1 _ rfl with ⟨y, hy, _⟩ | h
      · cases hy
      · exact h
    have HL := hide hl
    have hcc : (24 : Int) ≤ (c1 : Int) := by omega
    clear r1 n1 b1
    go_wp2
    go_loopw [3] (fun v wx => ∃ j : Nat, j ≤ 24 ∧ v = .slice (some ⟨g, 0, none⟩) j c1 ∧ (sn t j = sn t 24 ∧ wx = w1)) (fun v _ => (match v with | .slice _ n _ => n | _ => 0))
    case atStart => exact ⟨24, Nat.le_refl _, rfl, rfl, rfl⟩
    case round =>
      obtain ⟨j, hj, rfl, hsn, hw⟩ := hrel
      subst hw
      cases j with
      | zero =>
        have HE : Hid (next l = []) := by
          have h1 := HC.out
          rw [HL.out, ← hsn] at h1
          rw [HN.out, h1]
          exact rfl
        clear hsn
        go_wp2
        go_ret
        exact ⟨none, 0, by rw [HE.out]; rfl, by rw [HE.out]; exact Bs.nil _, by rw [HE.out]; exact Nat.le_refl _, B1.out, New.none _ _⟩
      | succ j =>
        have hj0 : (0 : Int) < (j : Int) + 1 := by omega
        have hlt : j < t.length := by have := HL.out; omega
        have hcell := R1.out.cell hlt
        have hfz := R1.out.thaw j
        have hjc : (j : Int) ≤ (c1 : Int) := by omega
        by_cases hx : t.getD j 0 = 255
        · have hs2 : sn t j = sn t 24 := by rw [← hsn]; simp only [sn]; rw [if_pos hx]
          rw [hx] at hcell
          clear hsn hx
          go_wp2
          go_roundw
          case rel => exact ⟨j, by omega, rfl, hs2, by first | trivial | rfl⟩
          case measure => simp
        · have hs2 : sn t 24 = j + 1 := by rw [← hsn]; simp only [sn]; rw [if_neg hx]
          have hxb : (((t.getD j 0 : Nat) : Int) == 255) = false := eqf (by omega)
          have HE : Hid (next l = inc (t.take (j + 1))) := by
            have h1 := HC.out
            rw [HL.out, hs2, if_neg (by omega)] at h1
            rw [HN.out, h1]
            exact rfl
          have h256 := getD_lt T8.out j
          have HI := hide (fun x (h : t.getD j 0 = x) => inc_take hlt h)
          generalize hxx : t.getD j 0 = x at *
          have hx1 : IntKind.u8.wrap ((x : Int) + 1) = ((x + 1 : Nat) : Int) := by simp [IntKind.wrap, IntKind.bits, IntKind.signed]; omega
          have HI2 := hide (HI.out x rfl)
          have h255 : x + 1 < 256 := by omega
          clear hsn hs2 hx HI
          go_wp2
          go_ret
          have hrow := R1.out.set j (x + 1)
          have hb8 : ∀ y ∈ t.set j (x + 1), y < 256 := fun y hy => by
            rcases List.mem_or_eq_of_mem_set hy with h | h
            · exact T8.out y h
            · omega
          have hbs := (hrow.bs hb8 hrow.len_le).cut (j + 1)
          rw [HI2.out] at hbs
          refine ⟨_, c1, ?_, by rw [HE.out]; exact hbs, ?_, B1.out.setCell HG.out _, fun x hx => .inr (by cases hx; exact HG.out)⟩
          · rw [HE.out, inc_len, List.length_take, Nat.min_eq_left (by omega)]
            rfl
          · rw [HE.out, inc_len, List.length_take, Nat.min_eq_left (by omega)]
            omega
theorem eNext_any (w : World) (a : Option Addr) (n c : Nat) (l : List Nat) (hB : Bs w a l) (hn : n = l.length) (hcap : l.length ≤ c) :
    Calls Try.prog 44 #[.slice a n c] w fun e w' => ∃ a' c', e = .returned (.slice a' (next l).length c') ∧ Bs w' a' (next l) ∧ (next l).length ≤ c' ∧ Below w.heap.size w w' :=
  (eNext_own w a n c l hB hn hcap).mono fun _ _ ⟨a', c', h1, h2, h3, h4, _⟩ => ⟨a', c', h1, h2, h3, h4⟩
end Go.Proofs.Ytbobnfjbbablkab
