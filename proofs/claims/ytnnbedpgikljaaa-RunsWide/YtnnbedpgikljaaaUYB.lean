import Derived.Test.YtnnbedpgikljaaaUYA
import Derived.Test.YtnnbedpgikljaaaUI
import Derived.BigQuiet
namespace Go.Proofs.Ytnnbedpgikljaaa
set_option linter.unusedVariables false
open Go.RowKit

/-! ### the document's set in memory; how many; Len, Has, Lowest -/
structure Rt (w : World) (b : Nat) (a : Option Addr) (cap : Nat) (L : List Rn) : Prop where
  blk : w.heap[b]? = some (.cells #[.slice a L.length cap] 39 (0, 0))
  row : Rf.Vw w a cap L
  can : Can L
  bnd : ∀ r ∈ L, N64 r.1 ∧ N64 r.2
  len : L.length ≤ 4294967296
theorem Rt.ne {w : World} {b : Nat} {a : Option Addr} {cap : Nat} {L : List Rn} (h : Rt w b a cap L) {x : Addr} (hx : a = some x) : x.block ≠ b := by
  rcases h.row.cases with ⟨rfl, _⟩ | ⟨g, Y, rfl, hg, _⟩
  · cases hx
  · cases hx
    intro e
    have h1 := h.blk
    rw [← show g = b from e, show w.heap[g]? = _ from hg] at h1
    simp at h1
theorem Rt.keep {w w' : World} {b : Nat} {a : Option Addr} {cap : Nat} {L : List Rn} (h : Rt w b a cap L) (hb : Below w.heap.size w w') : Rt w' b a cap L :=
  ⟨(hb.block b (Array.getElem?_eq_some_iff.1 h.blk).1).trans h.blk, h.row.keep hb, h.can, h.bnd, h.len⟩
theorem Rt.but {S : Nat → Prop} {w w' : World} {b : Nat} {a : Option Addr} {cap : Nat} {L : List Rn} (h : Rt w b a cap L) (hb : But S w w') (hn : ¬ S b) (ha : ∀ x, a = some x → ¬ S x.block) : Rt w' b a cap L :=
  ⟨hb.same h.blk hn, h.row.but hb ha, h.can, h.bnd, h.len⟩
theorem Rt.lt {w : World} {b : Nat} {a : Option Addr} {cap : Nat} {L : List Rn} (h : Rt w b a cap L) : b < w.heap.size := (Array.getElem?_eq_some_iff.1 h.blk).1
theorem Rt.cell {w : World} {b : Nat} {a : Option Addr} {cap : Nat} {L : List Rn} (h : Rt w b a cap L) : w.cell? ⟨b, 0, none⟩ = some (.slice a L.length cap) := by
  rw [cell_of_row _ _ _ _ _ _ h.blk]
  rfl
theorem sz_le {L : List Rn} (h : Ris L) (hb : ∀ r ∈ L, N64 r.1 ∧ N64 r.2) : sz L ≤ 18446744073709551616 := by
  rw [sz_nb (a := -9223372036854775808) (k := 18446744073709551616) h (fun r hr => by have := hb r hr; unfold N64 at this; omega)]
  exact nb_le _ _ _
theorem sz_pos {L : List Rn} (h : Ris L) (h0 : L ≠ []) : 0 < sz L := by
  cases L with
  | nil => exact absurd rfl h0
  | cons r L =>
    have := h.1 r (by simp)
    show 0 < (r.2 - r.1 + 1).toNat + sz L
    omega
theorem sz_full {L : List Rn} (h : Ris L) (hb : ∀ r ∈ L, N64 r.1 ∧ N64 r.2) (h0 : L ≠ []) : decide (sz L = 18446744073709551616) = decide (sz L % 18446744073709551616 = 0) := by
  have h1 := sz_le h hb
  have h2 := sz_pos h h0
  rw [decide_eq_decide]
  omega
theorem sz_snoc {L : List Rn} {k : Nat} (hk : k < L.length) : sz (L.take (k + 1)) = sz (L.take k) + ((L.getD k Rn.zero).2 - (L.getD k Rn.zero).1 + 1).toNat := by
  rw [take_next L Rn.zero hk, sz_append]
  rfl
set_option maxHeartbeats 2000000 in
set_option maxRecDepth 10000 in
theorem many_any (w : World) (a : Option Addr) (c : Nat) (L : List Rn) (hV : Rf.Vs w a L) (hL : Ris L) (hb : ∀ r ∈ L, N64 r.1 ∧ N64 r.2) (hl : L.length ≤ 8589934592) :
    Calls Try.prog 39 #[.slice a L.length c] w fun e w' => e = .returned (.tuple #[.int .u64 ((sz L % 18446744073709551616 : Nat) : Int), .bool (decide (sz L = 18446744073709551616))]) ∧ Below w.heap.size w w' := by
  obtain ⟨n, hn⟩ : ∃ n : Nat, n = L.length := ⟨_, rfl⟩
  have NL := hide hn
  have VL := hide hV
  have HB := hide hb
  have HL := hide hL
  rw [← hn] at hl ⊢
  clear hn hV hb hL
  go_enter Try.func39, Try.ntmps39
  go_wp2
  go_loopw [2, 4] (fun s i wx => ∃ k : Nat, k ≤ n ∧ i = .int .i64 k ∧ s = .int .u64 ((sz (L.take k) % 18446744073709551616 : Nat) : Int) ∧ Below w.heap.size w wx) (fun _ i _ => n - (intOf i).toNat)
  case atStart => exact ⟨0, Nat.zero_le _, rfl, by rw [List.take_zero]; rfl, Below.refl _ _⟩
  case round =>
    obtain ⟨k, hk, rfl, rfl, hbw⟩ := hrel
    by_cases hlt : k < n
    · have hkL : k < L.length := by rw [← NL.out]; exact hlt
      obtain ⟨b1, o1, rfl, d1, d2⟩ := (VL.out.keep hbw).at hkL
      have sn := hide (sz_snoc hkL)
      have r1 := (HB.out _ (getD_mem hkL))
      have r2 := HL.out.1 _ (getD_mem hkL)
      generalize L.getD k Rn.zero = r at *
      obtain ⟨x, y⟩ := r
      obtain ⟨⟨r3, r4⟩, r5, r6⟩ := r1
      simp only at d1 d2 r2 r3 r4 r5 r6
      generalize hz : sz (L.take k) = z at *
      have hz' := hide hz
      clear hz
      go_wp2
      go_quiet (fail)
      go_wp2
      go_roundw
      case rel => exact ⟨k + 1, by omega, by simp, by rw [sn.out]; simp only [Value.int.injEq, true_and, IntKind.wrap_u64]; omega, bt hbw (drews _ _)⟩
      case measure => simp [intOf]; omega
    · obtain rfl : k = n := by omega
      have e1 : L.take k = L := by rw [NL.out, List.take_length]
      rw [e1]
      by_cases h0 : L = []
      · have h1 : k = 0 := by rw [NL.out, h0]; rfl
        subst h1
        have e2 : sz L % 18446744073709551616 = 0 := by rw [h0]; rfl
        rw [e2]
        have h0' := hide h0
        clear h0 e2 e1
        go_wp2
        go_ret2
        refine ⟨?_, hbw⟩
        rw [h0'.out]
        rfl
      · have h1 : 0 < k := by rw [NL.out]; exact List.length_pos_iff.2 h0
        have E1 := hide (sz_full HL.out HB.out h0)
        obtain ⟨m, hm⟩ : ∃ m : Nat, sz L % 18446744073709551616 = m := ⟨_, rfl⟩
        rw [hm]
        have HM := hide hm
        clear hm h0 e1
        by_cases h2 : m = 0
        · subst h2
          go_wp2
          go_ret2
          refine ⟨?_, hbw⟩
          rw [E1.out, HM.out]
          rfl
        · go_wp2
          go_ret2
          refine ⟨?_, hbw⟩
          rw [E1.out, HM.out]
          simp [h2]
def tld (n : Nat) (f : Bool) : Nat := if f then mxi else min n mxi
theorem told_any (w : World) (n : Nat) (f : Bool) (hn : n < 18446744073709551616) : Calls Try.prog 41 #[.int .u64 ((n : Nat) : Int), .bool f] w fun e w' => e = .returned (.int .i64 ((tld n f : Nat) : Int)) ∧ w' = w := by
  cases f with
  | true =>
    go_enter Try.func41, Try.ntmps41
    go_wp2
    go_ret
    exact ⟨rfl, rfl⟩
  | false =>
    by_cases h : n ≤ 9223372036854775807
    · have e : tld n false = n := by unfold tld mxi; simp; omega
      rw [e]
      go_enter Try.func41, Try.ntmps41
      go_wp2
      go_ret
      exact ⟨rfl, rfl⟩
    · have e : tld n false = 9223372036854775807 := by unfold tld mxi; simp; omega
      rw [e]
      go_enter Try.func41, Try.ntmps41
      go_wp2
      go_ret
      exact ⟨rfl, rfl⟩
theorem tld_len {n : Nat} (h : n ≤ 18446744073709551616) : tld (n % 18446744073709551616) (decide (n = 18446744073709551616)) = min n mxi := by
  unfold tld mxi
  by_cases h1 : n = 18446744073709551616
  · subst h1
    decide
  · rw [decide_eq_false h1, Nat.mod_eq_of_lt (by omega)]
    rfl
/-- how many more: n behind, m ahead -/
theorem tld_sub {n m : Nat} (h : n ≤ 18446744073709551616) (hm : m ≤ n) : tld ((n % 18446744073709551616 + 18446744073709551616 - m % 18446744073709551616) % 18446744073709551616) (decide (n = 18446744073709551616) && !decide (m = 18446744073709551616) && decide (m % 18446744073709551616 = 0)) = min (n - m) mxi := by
  unfold tld mxi
  by_cases h1 : n = 18446744073709551616
  · subst h1
    by_cases h2 : m = 18446744073709551616
    · subst h2
      decide
    · by_cases h3 : m = 0
      · subst h3
        decide
      · rw [decide_eq_false h2, decide_eq_false (show ¬ m % 18446744073709551616 = 0 by omega)]
        simp
        omega
  · rw [decide_eq_false h1]
    simp
    omega
set_option maxHeartbeats 1000000 in
theorem rLen_any (w : World) (b : Nat) (a : Option Addr) (cap : Nat) (L : List Rn) (hS : Rt w b a cap L) :
    Calls Try.prog 17 #[.pointer (some ⟨b, 0, none⟩)] w fun e w' => e = .returned (.int .i64 ((min (sz L) mxi : Nat) : Int)) ∧ Below w.heap.size w w' := by
  have hc := hS.cell
  have hs := sz_le hS.can.ris hS.bnd
  rw [← tld_len hs]
  have C1 := hide (many_any w a cap L hS.row.vs hS.can.ris hS.bnd (by have := hS.len; omega))
  clear hS
  generalize L.length = n at *
  generalize sz L = s at *
  have C2 := hide fun (W : World) => told_any W (s % 18446744073709551616) (decide (s = 18446744073709551616)) (by omega)
  generalize tld (s % 18446744073709551616) (decide (s = 18446744073709551616)) = ans at *
  generalize decide (s = 18446744073709551616) = f at *
  generalize s % 18446744073709551616 = m at *
  go_enter Try.func17, Try.ntmps17
  go_wp2_with fail
  refine C1.out.mono ?_
  rintro e w1 ⟨rfl, hb1⟩
  go_wp2_with fail
  refine (C2.out w1).mono ?_
  rintro e w2 ⟨rfl, rfl⟩
  go_wp2
  go_ret
  exact ⟨rfl, hb1⟩
theorem has_take {L : List Rn} {k : Nat} (hk : k < L.length) (x : Int) : has (L.take (k + 1)) x = (has (L.take k) x || (decide ((L.getD k Rn.zero).1 ≤ x) && decide (x ≤ (L.getD k Rn.zero).2))) := by
  rw [take_next L Rn.zero hk, has_append, has_cons, has_nil, Bool.or_false]
theorem has_sub {L : List Rn} {k : Nat} {x : Int} (h : has (L.take k) x = true) : has L x = true := by
  obtain ⟨r, hr, h1⟩ := (has_iff _ _).1 h
  exact (has_iff _ _).2 ⟨r, List.mem_of_mem_take hr, h1⟩
set_option maxHeartbeats 2000000 in
set_option maxRecDepth 10000 in
theorem rHas_any (w : World) (b : Nat) (a : Option Addr) (cap : Nat) (L : List Rn) (x : Int) (hS : Rt w b a cap L) :
    Calls Try.prog 15 #[.pointer (some ⟨b, 0, none⟩), .int .i64 x] w fun e w' => e = .returned (.bool (has L x)) ∧ Below w.heap.size w w' := by
  have hc := hS.cell
  have VL := hide hS.row.vs
  have hl := hS.len
  obtain ⟨n, hn⟩ : ∃ n : Nat, n = L.length := ⟨_, rfl⟩
  have NL := hide hn
  rw [← hn] at hc hl
  clear hn hS
  go_enter Try.func15, Try.ntmps15
  go_wp2
  go_loopw [5] (fun i wx => ∃ k : Nat, k ≤ n ∧ i = .int .i64 k ∧ has (L.take k) x = false ∧ Below w.heap.size w wx) (fun i _ => n - (intOf i).toNat)
  case atStart => exact ⟨0, Nat.zero_le _, rfl, by rw [List.take_zero]; rfl, Below.refl _ _⟩
  case round =>
    obtain ⟨k, hk, rfl, hh, hbw⟩ := hrel
    have hc1 : wr.cell? ⟨b, 0, none⟩ = some (.slice a n cap) := (hbw.cell (p := ⟨b, 0, none⟩) (block_lt_of_cell hc)).trans hc
    by_cases hlt : k < n
    · have hkL : k < L.length := by rw [← NL.out]; exact hlt
      obtain ⟨b1, o1, rfl, d1, d2⟩ := (VL.out.keep hbw).at hkL
      have ht := hide (has_take hkL x)
      have hs := hide (has_sub (L := L) (k := k + 1) (x := x))
      have hh' := hide hh
      clear hh
      generalize L.getD k Rn.zero = r at *
      obtain ⟨y, z⟩ := r
      simp only at d1 d2
      by_cases h1 : y ≤ x
      · have g1 : decide (y ≤ x) = true := decide_eq_true h1
        by_cases h2 : x ≤ z
        · have g2 : decide (x ≤ z) = true := decide_eq_true h2
          have fin : has L x = true := hs.out (by rw [ht.out, hh'.out]; simp [h1, h2])
          have FIN := hide fin
          clear fin
          go_wp2
          first
            | (go_quiet (fail); go_wp2)
            | skip
          go_ret
          exact ⟨by rw [FIN.out]; rfl, by first | exact bt hbw (drews _ _) | exact hbw⟩
        · have g2 : decide (x ≤ z) = false := decide_eq_false h2
          go_wp2
          first
            | (go_quiet (fail); go_wp2)
            | skip
          go_roundw
          case rel => exact ⟨k + 1, by omega, by simp, by rw [ht.out, hh'.out]; simp [h1, h2], by first | exact bt hbw (drews _ _) | exact hbw⟩
          case measure => simp [intOf]; omega
      · have g1 : decide (y ≤ x) = false := decide_eq_false h1
        go_wp2
        first
          | (go_quiet (fail); go_wp2)
          | skip
        go_roundw
        case rel => exact ⟨k + 1, by omega, by simp, by rw [ht.out, hh'.out]; simp [h1], by first | exact bt hbw (drews _ _) | exact hbw⟩
        case measure => simp [intOf]; omega
    · obtain rfl : k = n := by omega
      have e1 : L.take k = L := by rw [NL.out, List.take_length]
      rw [e1] at hh
      have HH := hide hh
      clear hh
      go_wp2
      go_ret
      exact ⟨by rw [HH.out]; rfl, hbw⟩
/-- the least number, 0 where there is none -/
def low : List Rn → Int
  | [] => 0
  | r :: _ => r.1
set_option maxHeartbeats 1000000 in
theorem rLowest_any (w : World) (b : Nat) (a : Option Addr) (cap : Nat) (L : List Rn) (hS : Rt w b a cap L) :
    Calls Try.prog 19 #[.pointer (some ⟨b, 0, none⟩)] w fun e w' => e = .returned (.tuple #[.int .i64 (low L), .bool (!L.isEmpty)]) ∧ w' = w := by
  have hc := hS.cell
  cases L with
  | nil =>
    rw [List.length_nil] at hc
    clear hS
    go_enter Try.func19, Try.ntmps19
    go_wp2
    go_ret2
    exact ⟨rfl, rfl⟩
  | cons r L =>
    obtain ⟨b1, o1, rfl, d1, d2⟩ := hS.row.vs.at (i := 0) (by simp)
    rw [Nat.zero_mul, Nat.add_zero] at d1
    change w.cell? ⟨b1, o1, none⟩ = some (.int .i64 r.1) at d1
    rw [List.length_cons] at hc
    obtain ⟨n, hn⟩ : ∃ n : Nat, n = L.length + 1 := ⟨_, rfl⟩
    have n0 : 0 < n := by omega
    have nl := hS.len
    rw [List.length_cons, ← hn] at nl
    rw [← hn] at hc
    clear hS hn d2
    show Calls Try.prog 19 #[.pointer (some ⟨b, 0, none⟩)] w fun e w' => e = .returned (.tuple #[.int .i64 r.1, .bool true]) ∧ w' = w
    go_enter Try.func19, Try.ntmps19
    go_wp2
    go_ret2
    exact ⟨rfl, rfl⟩
end Go.Proofs.Ytnnbedpgikljaaa
