import Derived.Test.YthfcgfdboienkaaVG
namespace Go.Proofs.Ythfcgfdboienkaa
open Go.RowKit

def At (a : Option Addr) (k : Nat) : Prop := a.map Addr.block = some k
/-- bytes were appended -/
structure Apd (w : World) (a : Option Addr) (w' : World) (a' : Option Addr) (cap' : Nat) (l' : List Nat) : Prop where
  r : Rw w' a' cap' l'
  n : New w a a'
  b : But (At a) w w'
theorem Apd.refl {w : World} {a : Option Addr} {cap : Nat} {l : List Nat} (h : Rw w a cap l) : Apd w a w a cap l := ⟨h, New.refl _ _, But.refl _ _⟩
theorem Apd.trans {w w1 w2 : World} {a a1 a2 : Option Addr} {c1 c2 : Nat} {l1 l2 : List Nat} (h : Apd w a w1 a1 c1 l1) (k : Apd w1 a1 w2 a2 c2 l2) : Apd w a w2 a2 c2 l2 := by
  refine ⟨k.r, h.n.trans k.n h.b.size, h.b.trans k.b fun x hx ht => ?_⟩
  obtain ⟨y, hy, e⟩ := map_some ht
  rcases h.n y hy with ⟨z, hz, e2⟩ | h2
  · unfold At; rw [hz]; simp only [Option.map_some, Option.some.injEq]; rw [← e, ← e2]
  · omega
theorem Apd.pre {w w1 w2 : World} {a a2 : Option Addr} {c2 : Nat} {l2 : List Nat} (hb : Below w.heap.size w w1) (k : Apd w1 a w2 a2 c2 l2) : Apd w a w2 a2 c2 l2 :=
  ⟨k.r, k.n.mono hb.size, (But.ofBelow hb).trans k.b fun _ _ h => h⟩
theorem Apd.post {w w1 w2 : World} {a a1 : Option Addr} {c1 : Nat} {l1 : List Nat} (h : Apd w a w1 a1 c1 l1) (hb : Below w1.heap.size w1 w2) : Apd w a w2 a1 c1 l1 :=
  ⟨h.r.keep hb, h.n, h.b.andBelow hb⟩
theorem Apd.ofGrown {w w1 w2 : World} {a a2 : Option Addr} {c2 : Nat} {l2 : List Nat} (hb : Below w.heap.size w w1) (hR : Rw w2 a2 c2 l2) (hN : New w1 a a2) (hg : w1.grownBy w2 (a.map Addr.block)) : Apd w a w2 a2 c2 l2 :=
  Apd.pre hb ⟨hR, hN, (But.refl _ w1).grown hg fun _ hk _ => hk⟩
theorem Apd.below {w w' : World} {a' : Option Addr} {c : Nat} {l : List Nat} (h : Apd w none w' a' c l) : Below w.heap.size w w' := h.b.below fun k _ hk => by unfold At at hk; cases hk
theorem al (w : World) (o : Obj) : Below w.heap.size w (w.alloc o) := (Below.refl _ _).alloc (Nat.le_refl _) o

theorem byte_shr (x i : Nat) : (x : Int) / 2 ^ (8 * i) % 256 = ((x / 256 ^ i % 256 : Nat) : Int) := by
  have e : (2 : Int) ^ (8 * i) = ((256 ^ i : Nat) : Int) := by
    rw [Int.pow_mul]
    simp
  rw [e]
  rfl
set_option maxHeartbeats 1600000 in
theorem dbig_any (w : World) (a : Option Addr) (cap n k : Nat) (l : List Nat) (x : Nat) (hR : Rw w a cap l) (hk : k ≤ 8) (hn : n = l.length) (hlen : l.length + 8 ≤ 140737488355328) :
    Calls Try.prog 77 #[.slice a n cap, .int .u64 (x : Int), .int .i64 (k : Int)] w fun e w' => ∃ a' cap', e = .returned (.slice a' (n + k) cap') ∧ Apd w a w' a' cap' (l ++ hb x k) := by
  subst hn
  have HR := hide hR
  have hk1 : IntKind.i64.wrap ((k : Int) - 1) = (k : Int) - 1 := wrapI (by omega) (by omega)
  clear hR
  go_enter Try.func77, Try.ntmps77
  go_wp2
  go_loopw [0, 7] (fun v i wx => ∃ (r : Nat) (m : List Nat) (aj : Option Addr) (cj : Nat), r ≤ k ∧ i = .int .i64 ((r : Int) - 1) ∧ v = .slice aj m.length cj ∧ (Apd w a wx aj cj m ∧ m ++ hb x r = l ++ hb x k ∧ m.length = l.length + (k - r))) (fun _ i _ => (intOf i + 1).toNat)
  case atStart => exact ⟨k, l, a, cap, Nat.le_refl _, rfl, rfl, Apd.refl HR.out, rfl, by omega⟩
  case round =>
    obtain ⟨r, m, aj, cj, hr, rfl, rfl, hG⟩ := hrel
    have HG := hide hG
    clear hG
    cases r with
    | zero =>
      go_wp2
      go_ret
      have h := HG.out
      simp only [hb, List.append_nil] at h
      obtain ⟨h1, h2, h3⟩ := h
      subst h2
      exact ⟨aj, cj, by simp [hb_length], h1⟩
    | succ r =>
      rw [show ((r + 1 : Nat) : Int) - 1 = (r : Int) by omega]
      have h8 : IntKind.i64.wrap (8 * (r : Int)) = ((8 * r : Nat) : Int) := by rw [wrapI (by omega) (by omega)]; omega
      have hd1 : IntKind.i64.wrap ((r : Int) - 1) = (r : Int) - 1 := wrapI (by omega) (by omega)
      have hv := byte_shr x r
      have HE : Hid ((m ++ [x / 256 ^ r % 256]) ++ hb x r = l ++ hb x k) := by rw [List.append_assoc]; exact HG.out.2.1
      have HM : Hid (m.length + 1 ≤ 140737488355328) := by have := HG.out.2.2; show _ ≤ _; omega
      have HL : Hid ((m ++ [x / 256 ^ r % 256]).length = l.length + (k - r)) := by have := HG.out.2.2; show _ = _; rw [List.length_append, this]; simp; omega
      have HL2 : Hid ((m ++ [x / 256 ^ r % 256]).length = m.length + 1) := by show _ = _; simp
      generalize x / 256 ^ r % 256 = y at *
      go_wp2_with (at_builtin; refine wpList_ap1 rfl _ _ rfl aj m.length cj m rfl rfl (HG.out.1.r.keep (al _ _)) ⟨wr.heap.size, 0, none⟩ 1 y rfl ?c1 HM.out ?_)
      try case c1 => simp
      intro g cap' w2 hR hN hg _
      have H2 := hide (HG.out.1.trans (Apd.ofGrown (al _ _) hR hN hg))
      clear hR hN hg
      go_wp2
      go_roundw
      case rel => exact ⟨r, m ++ [y], _, cap', by omega, by first | rfl | go_num, by rw [HL2.out], H2.out, HE.out, HL.out⟩
      case measure => simp [intOf]; try omega
set_option maxHeartbeats 1600000 in
theorem appendHF_any (w : World) (a : Option Addr) (cap n k : Nat) (l : List Nat) (x : Nat) (hR : Rw w a cap l) (hk : k ≤ 8) (hn : n = l.length) (hlen : l.length + 8 ≤ 140737488355328) :
    Calls Try.prog 64 #[.slice a n cap, .int .u64 (x : Int), .int .i64 (k : Int)] w fun e w' => ∃ a' cap', e = .returned (.slice a' (n + k) cap') ∧ Apd w a w' a' cap' (l ++ hb x k) := by
  subst hn
  have HR := hide hR
  have hk1 : IntKind.i64.wrap ((k : Int) - 1) = (k : Int) - 1 := wrapI (by omega) (by omega)
  clear hR
  go_enter Try.func64, Try.ntmps64
  go_wp2
  go_loopw [0, 7] (fun v i wx => ∃ (r : Nat) (m : List Nat) (aj : Option Addr) (cj : Nat), r ≤ k ∧ i = .int .i64 ((r : Int) - 1) ∧ v = .slice aj m.length cj ∧ (Apd w a wx aj cj m ∧ m ++ hb x r = l ++ hb x k ∧ m.length = l.length + (k - r))) (fun _ i _ => (intOf i + 1).toNat)
  case atStart => exact ⟨k, l, a, cap, Nat.le_refl _, rfl, rfl, Apd.refl HR.out, rfl, by omega⟩
  case round =>
    obtain ⟨r, m, aj, cj, hr, rfl, rfl, hG⟩ := hrel
    have HG := hide hG
    clear hG
    cases r with
    | zero =>
      go_wp2
      go_ret
      have h := HG.out
      simp only [hb, List.append_nil] at h
      obtain ⟨h1, h2, h3⟩ := h
      subst h2
      exact ⟨aj, cj, by simp [hb_length], h1⟩
    | succ r =>
      rw [show ((r + 1 : Nat) : Int) - 1 = (r : Int) by omega]
      have h8 : IntKind.i64.wrap (8 * (r : Int)) = ((8 * r : Nat) : Int) := by rw [wrapI (by omega) (by omega)]; omega
      have hd1 : IntKind.i64.wrap ((r : Int) - 1) = (r : Int) - 1 := wrapI (by omega) (by omega)
      have hv := byte_shr x r
      have HE : Hid ((m ++ [x / 256 ^ r % 256]) ++ hb x r = l ++ hb x k) := by rw [List.append_assoc]; exact HG.out.2.1
      have HM : Hid (m.length + 1 ≤ 140737488355328) := by have := HG.out.2.2; show _ ≤ _; omega
      have HL : Hid ((m ++ [x / 256 ^ r % 256]).length = l.length + (k - r)) := by have := HG.out.2.2; show _ = _; rw [List.length_append, this]; simp; omega
      have HL2 : Hid ((m ++ [x / 256 ^ r % 256]).length = m.length + 1) := by show _ = _; simp
      generalize x / 256 ^ r % 256 = y at *
      go_wp2_with (at_builtin; refine wpList_ap1 rfl _ _ rfl aj m.length cj m rfl rfl (HG.out.1.r.keep (al _ _)) ⟨wr.heap.size, 0, none⟩ 1 y rfl ?c1 HM.out ?_)
      try case c1 => simp
      intro g cap' w2 hR hN hg _
      have H2 := hide (HG.out.1.trans (Apd.ofGrown (al _ _) hR hN hg))
      clear hR hN hg
      go_wp2
      go_roundw
      case rel => exact ⟨r, m ++ [y], _, cap', by omega, by first | rfl | go_num, by rw [HL2.out], H2.out, HE.out, HL.out⟩
      case measure => simp [intOf]; try omega

theorem dwidth_any (w : World) (x : Nat) (hx : x < 18446744073709551616) : Calls Try.prog 76 #[.int .u64 (x : Int)] w fun e w' => e = .returned (.int .i64 (wd x : Int)) ∧ w' = w := by
  have hw8 := wd_le hx
  go_enter Try.func76, Try.ntmps76
  go_wp2
  go_loopw [0, 3] (fun v n wx => ∃ (y c : Nat), v = .int .u64 (y : Int) ∧ n = .int .i64 (c : Int) ∧ (c + wd y = wd x ∧ wx = w)) (fun v _ _ => (intOf v).toNat)
  case atStart => exact ⟨x, 0, rfl, rfl, by omega, rfl⟩
  case round =>
    obtain ⟨y, c, rfl, rfl, hc, rfl⟩ := hrel
    by_cases hy : y = 0
    · subst hy
      rw [wd_zero] at hc
      have HC := hide hc
      clear hc
      go_wp2
      go_ret
      exact ⟨by rw [← HC.out]; rfl, rfl⟩
    · have hy2 : (0 : Int) < (y : Int) := by omega
      rw [wd_pos (by omega)] at hc
      have hadd : IntKind.i64.wrap ((c : Int) + 1) = (c : Int) + 1 := wrapI (by omega) (by omega)
      have HC := hide hc
      clear hc
      go_wp2
      go_roundw
      case rel => exact ⟨y / 256, c + 1, by first | rfl | simp, by first | rfl | go_num, by have := HC.out; omega, by first | rfl | trivial⟩
      case measure => simp [intOf]; omega
end Go.Proofs.Ythfcgfdboienkaa
