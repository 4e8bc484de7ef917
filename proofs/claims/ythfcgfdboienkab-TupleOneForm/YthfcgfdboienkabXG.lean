import Derived.Test.YthfcgfdboienkabXF
namespace Go.Proofs.Ythfcgfdboienkab
open Go.RowKit

theorem Bs.drop' {w : World} {b off : Nat} {l : List Nat} (h : Bs w (some ⟨b, off, none⟩) l) (k : Nat) : Bs w (some ⟨b, off + k, none⟩) (l.drop k) := by
  refine ⟨fun x hx => h.1 x (List.mem_of_mem_drop hx), by rw [List.length_drop]; have := h.2.1; omega, ?_⟩
  rcases h.2.2 with rfl | ⟨b', off', e, hc⟩
  · exact .inl (by simp)
  · simp only [Option.some.injEq, Addr.mk.injEq, and_true] at e
    obtain ⟨rfl, rfl⟩ := e
    refine .inr ⟨b, off + k, rfl, fun i hi => ?_⟩
    rw [List.length_drop] at hi
    have := hc (k + i) (by omega)
    rw [show off + k + i = off + (k + i) by omega, this]
    simp [List.getD_eq_getElem?_getD, List.getElem?_drop]
theorem Bs.take' {w : World} {a : Option Addr} {l : List Nat} (h : Bs w a l) (k : Nat) : Bs w a (l.take k) := by
  refine ⟨fun x hx => h.1 x (List.mem_of_mem_take hx), by rw [List.length_take]; have := h.2.1; omega, ?_⟩
  rcases h.2.2 with rfl | ⟨b', off', e, hc⟩
  · exact .inl (by simp)
  · refine .inr ⟨b', off', e, fun i hi => ?_⟩
    rw [List.length_take] at hi
    rw [hc i (by omega)]
    simp [List.getD_eq_getElem?_getD, show i < k by omega]
theorem tlen_bound : ∀ l, tlen l ≤ l.length + 1 := by
  intro l
  rw [← tlenS_eq]
  induction l with
  | nil => decide
  | cons x l ih =>
    rw [tlenS]
    split
    · simp
    · simp; omega
theorem tlen_le (l : List Nat) : tlen (l.drop 1) ≤ l.length + 1 := by
  have := tlen_bound (l.drop 1)
  rw [List.length_drop] at this
  omega
set_option maxHeartbeats 800000 in
theorem size_any (w : World) (b off cap n : Nat) (l : List Nat) (hB : Bs w (some ⟨b, off, none⟩) l) (hl : l.length ≤ 4096) (h0 : 0 < l.length) (hcap : l.length ≤ cap) (hf : isFirst (l.getD 0 0) = true) (hn : n = l.length) :
    Calls Try.prog 41 #[.int .i64 (kof (l.getD 0 0)), .slice (some ⟨b, off, none⟩) n cap] w fun e w' => e = .returned (.int .i64 (vlen l : Int)) ∧ Below w.heap.size w w' := by
  subst hn
  have hc := (byte_at hB (Below.refl _ _) h0)
  obtain ⟨_, _, e, hc⟩ := hc
  simp only [Option.some.injEq, Addr.mk.injEq, and_true] at e
  obtain ⟨rfl, rfl⟩ := e
  have hhd : l.headD 0 = l.getD 0 0 := by cases l <;> simp
  have TB := hide (fun a' c (h : Bs w a' (l.drop 1)) => textBytes_any w a' (l.length - 1) c (l.drop 1) h (by rw [List.length_drop]; omega) (by rw [List.length_drop]))
  have HD := hide (hB.drop' 1)
  have HD0 : Hid (l.length ≤ 1 → ∀ a', Bs w a' (l.drop 1)) := fun h a' => by rw [List.drop_of_length_le h]; exact Bs.empty _ _
  have hts : tlen (l.drop 1) ≤ l.length + 1 := tlen_le l
  have hvl : vlen l = if 1 ≤ l.getD 0 0 ∧ l.getD 0 0 ≤ 3 then 1 else if 23 ≤ l.getD 0 0 ∧ l.getD 0 0 ≤ 31 then 32 - l.getD 0 0 else if 32 ≤ l.getD 0 0 ∧ l.getD 0 0 ≤ 40 then l.getD 0 0 - 31 else if l.getD 0 0 = 48 then 9 else if l.getD 0 0 = 56 then 17 else if l.getD 0 0 = 64 then 1 + tlen (l.drop 1) else 0 := by
    unfold vlen
    simp only [hhd, List.drop_one]
  rw [hvl]
  have IB := hide intBytes_any
  clear hB hhd hvl
  generalize l.getD 0 0 = c at *
  generalize tlen (l.drop 1) = tt at *
  have hd := of_decide_eq_true hf
  have h7 : c = 1 ∨ c = 2 ∨ c = 3 ∨ c = 48 ∨ c = 56 ∨ c = 64 ∨ (23 ≤ c ∧ c ≤ 31) ∨ (32 ≤ c ∧ c ≤ 40) := by omega
  clear hd
  rw [Nat.add_zero] at hc
  rcases h7 with rfl | rfl | rfl | rfl | rfl | rfl | ⟨g1, g2⟩ | ⟨g1, g2⟩
  · rw [show kof 1 = 0 from rfl, if_pos (by decide)]
    go_enter Try.func41, Try.ntmps41
    go_wp2
    go_ret
    exact ⟨rfl, Below.refl _ _⟩
  · rw [show kof 2 = 1 from rfl, if_pos (by decide)]
    go_enter Try.func41, Try.ntmps41
    go_wp2
    go_ret
    exact ⟨rfl, Below.refl _ _⟩
  · rw [show kof 3 = 1 from rfl, if_pos (by decide)]
    go_enter Try.func41, Try.ntmps41
    go_wp2
    go_ret
    exact ⟨rfl, Below.refl _ _⟩
  · rw [show kof 48 = 3 from rfl, if_neg (by decide), if_neg (by decide), if_neg (by decide), if_pos rfl]
    go_enter Try.func41, Try.ntmps41
    go_wp2
    go_ret
    exact ⟨rfl, Below.refl _ _⟩
  · rw [show kof 56 = 4 from rfl, if_neg (by decide), if_neg (by decide), if_neg (by decide), if_neg (by decide), if_pos rfl]
    go_enter Try.func41, Try.ntmps41
    go_wp2
    go_ret
    exact ⟨rfl, Below.refl _ _⟩
  · rw [show kof 64 = 5 from rfl, if_neg (by decide), if_neg (by decide), if_neg (by decide), if_neg (by decide), if_neg (by decide), if_pos rfl]
    have hadd : IntKind.i64.wrap (1 + (tt : Int)) = ((1 + tt : Nat) : Int) := by rw [wrapI (by omega) (by omega)]; omega
    go_enter Try.func41, Try.ntmps41
    go_wp2_with fail
    all_goals (
      refine (TB.out _ _ (by first | exact HD.out | exact HD0.out (by omega) _)).mono ?_
      rintro e w1 ⟨rfl, hb⟩
      have HB := hide hb
      clear hb
      go_wp2
      go_ret
      exact ⟨by first | rfl | simp, HB.out⟩)
  · have IC := IB.out w c (by omega) (by omega)
    rw [show kof c = 2 by unfold kof; rw [if_neg (by omega), if_neg (by omega), if_pos (by omega)], if_neg (by omega), if_pos ⟨g1, g2⟩]
    rw [if_pos (by omega)] at IC
    have IC := hide IC
    have hq : 31 - c ≤ 8 := by omega
    rw [show 32 - c = 1 + (31 - c) by omega]
    clear IB TB HD HD0 hf g1 g2
    generalize 31 - c = q at *
    have hadd : IntKind.i64.wrap (1 + (q : Int)) = ((1 + q : Nat) : Int) := by rw [wrapI (by omega) (by omega)]; omega
    go_enter Try.func41, Try.ntmps41
    go_wp2_with fail
    refine IC.out.mono ?_
    rintro e w1 ⟨rfl, rfl⟩
    go_wp2
    go_ret
    exact ⟨by first | rfl | simp, Below.refl _ _⟩
  · have IC := IB.out w c (by omega) (by omega)
    rw [show kof c = 2 by unfold kof; rw [if_neg (by omega), if_neg (by omega), if_pos (by omega)], if_neg (by omega), if_neg (by omega), if_pos ⟨g1, g2⟩]
    rw [if_neg (by omega)] at IC
    have IC := hide IC
    have hq : c - 32 ≤ 8 := by omega
    rw [show c - 31 = 1 + (c - 32) by omega]
    clear IB TB HD HD0 hf g1 g2
    generalize c - 32 = q at *
    have hadd : IntKind.i64.wrap (1 + (q : Int)) = ((1 + q : Nat) : Int) := by rw [wrapI (by omega) (by omega)]; omega
    go_enter Try.func41, Try.ntmps41
    go_wp2_with fail
    refine IC.out.mono ?_
    rintro e w1 ⟨rfl, rfl⟩
    go_wp2
    go_ret
    exact ⟨by first | rfl | simp, Below.refl _ _⟩
end Go.Proofs.Ythfcgfdboienkab
