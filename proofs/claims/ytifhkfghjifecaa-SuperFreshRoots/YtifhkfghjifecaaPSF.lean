import Derived.Test.YtifhkfghjifecaaPSX
namespace Go.Proofs.Ytifhkfghjifecaa
open Go.RowKit

theorem div2_cast (s : Nat) : ((s : Int) / 2) = ((s / 2 : Nat) : Int) := by simp
theorem xorP (s : Nat) (hs : s < 4294967296) : bits .xor .u32 ((s : Int) / 2) 2197175160 = ((s / 2 ^^^ M.poly : Nat) : Int) := by
  rw [div2_cast]; exact xor32 _ 2197175160 (by omega) (by decide)

set_option maxHeartbeats 400000 in
theorem rStep_any (s : Nat) (w : World) (hs : s < 4294967296) :
    Calls Try.prog 74 #[.int .u32 s] w fun e w' => e = .returned (.int .u32 (M.step s : Nat)) ∧ w' = w := by
  by_cases ho : s % 2 = 1
  · have h1 : M.step s = s / 2 ^^^ M.poly := by unfold M.step; rw [if_pos ho]
    have e1 := xorP s hs
    have ht : ((s : Int) % 2 == 1) = true := by rw [beq_iff_eq]; omega
    rw [h1]
    generalize s / 2 ^^^ M.poly = r at *
    clear ho h1
    go_enter Try.func74, Try.ntmps74
    go_wp2
    go_ret
    exact ⟨rfl, rfl⟩
  · have h1 : M.step s = s / 2 := by unfold M.step; rw [if_neg ho]
    have ht : ((s : Int) % 2 == 1) = false := by rw [beq_eq_false_iff_ne]; omega
    have e1 := div2_cast s
    rw [h1]
    generalize s / 2 = r at *
    clear ho h1
    go_enter Try.func74, Try.ntmps74
    go_wp2
    go_ret
    exact ⟨rfl, rfl⟩

set_option maxHeartbeats 400000 in
theorem rEight_any (s : Nat) (w : World) (hs : s < 4294967296) :
    Calls Try.prog 61 #[.int .u32 s] w fun e w' => e = .returned (.int .u32 (M.st 8 s : Nat)) ∧ w' = w := by
  go_enter Try.func61, Try.ntmps61
  go_wp2
  go_loop [0, 3] (fun x i => ∃ k : Nat, k ≤ 8 ∧ i = .int .i64 k ∧ x = .int .u32 (M.st k s : Nat)) (fun _ i => 8 - (intOf i).toNat)
  case atStart => exact ⟨0, Nat.zero_le _, rfl, rfl⟩
  case round =>
    obtain ⟨k, hk, rfl, rfl⟩ := hrel
    by_cases hlt : k < 8
    · have hy := M.st_lt k hs
      have Hn : Hid (M.st (k + 1) s = M.step (M.st k s)) := M.st_succ' k s
      generalize M.st k s = y at *
      go_wp2_with (go_at_call 74; refine (rStep_any y _ hy).mono ?_; rintro e w1 ⟨rfl, rfl⟩)
      go_round
      case rel => exact ⟨k + 1, by omega, by go_num, int_eq (by rw [Hn.out])⟩
      case measure => simp [intOf]; omega
    · obtain rfl : k = 8 := by omega
      go_wp2
      go_ret
      exact ⟨rfl, rfl⟩

set_option maxHeartbeats 400000 in
theorem rOn_some (s : Nat) (b off cap : Nat) (l : List Nat) (w : World) (hs : s < 4294967296) (hl : ∀ x ∈ l, x < 256) (hlen : l.length ≤ 9223372036854775807)
    (hcell : ∀ i, i < l.length → w.cell? ⟨b, off + i, none⟩ = some (.int .u8 ((l.getD i 0 : Nat) : Int))) :
    Calls Try.prog 41 #[.int .u32 s, .slice (some ⟨b, off, none⟩) l.length cap] w fun e w' => e = .returned (.int .u32 (M.on s l : Nat)) ∧ w' = w := by
  go_enter Try.func41, Try.ntmps41
  go_wp2
  go_loop [0, 5] (fun x i => ∃ k : Nat, k ≤ l.length ∧ i = .int .i64 k ∧ x = .int .u32 (M.on s (l.take k) : Nat)) (fun _ i => l.length - (intOf i).toNat)
  case atStart => exact ⟨0, Nat.zero_le _, rfl, rfl⟩
  case round =>
    obtain ⟨k, hk, rfl, rfl⟩ := hrel
    by_cases hlt : k < l.length
    · have hx0 : l.getD k 0 < 256 := by
        rw [getD_at l hlt]; exact hl _ (List.getElem_mem _)
      have hc0 := hcell k hlt
      have hon : M.on s (l.take (k + 1)) = M.st 8 (M.on s (l.take k) ^^^ l.getD k 0) := by
        rw [List.take_succ_eq_append_getElem hlt, M.on_snoc, getD_at l hlt]
      have hy0 : M.on s (l.take k) < 4294967296 := M.on_lt _ (fun x hx => hl x (List.mem_of_mem_take hx)) hs
      have HON : Hid (M.on s (l.take (k + 1)) = M.st 8 (M.on s (l.take k) ^^^ l.getD k 0)) := hon
      clear hon hcell
      generalize l.getD k 0 = x at hc0 HON hx0
      generalize M.on s (l.take k) = y at HON hy0 ⊢
      have e1 := xor32 y x hy0 (by omega)
      have hv0 : y ^^^ x < 4294967296 := Nat.xor_lt_two_pow (n := 32) hy0 (by omega)
      generalize y ^^^ x = v at e1 HON hv0
      go_wp2_with (go_at_call 61; refine (rEight_any v _ hv0).mono ?_; rintro e w1 ⟨rfl, rfl⟩)
      go_round
      case rel => exact ⟨k + 1, by omega, by go_num, int_eq (by rw [HON.out])⟩
      case measure => simp [intOf]; omega
    · obtain rfl : k = l.length := by omega
      go_wp2
      go_ret
      exact ⟨rfl, rfl⟩
set_option maxHeartbeats 400000 in
theorem rOn_nil (s : Nat) (a : Option Addr) (cap : Nat) (w : World) :
    Calls Try.prog 41 #[.int .u32 s, .slice a 0 cap] w fun e w' => e = .returned (.int .u32 (s : Nat)) ∧ w' = w := by
  go_enter Try.func41, Try.ntmps41
  go_wp2
  go_loop [0, 5] (fun x i => i = .int .i64 0 ∧ x = .int .u32 (s : Nat)) (fun _ _ => 0)
  case atStart => exact ⟨rfl, rfl⟩
  case round =>
    obtain ⟨rfl, rfl⟩ := hrel
    go_wp2
    go_ret
    exact ⟨rfl, rfl⟩
theorem rOn_any (s : Nat) (a : Option Addr) (n cap : Nat) (l : List Nat) (w : World) (hs : s < 4294967296) (hB : Bs w a l) (hn : n = l.length) :
    Calls Try.prog 41 #[.int .u32 s, .slice a n cap] w fun e w' => e = .returned (.int .u32 (M.on s l : Nat)) ∧ w' = w := by
  subst hn
  obtain ⟨hl, hlen, h⟩ := hB
  rcases h with rfl | ⟨b, off, rfl, hcell⟩
  · exact rOn_nil s a cap w
  · exact rOn_some s b off cap l w hs hl hlen hcell

set_option maxHeartbeats 400000 in
theorem rOf_any (a : Option Addr) (n cap : Nat) (l : List Nat) (w : World) (hB : Bs w a l) (hn : n = l.length) :
    Calls Try.prog 20 #[.slice a n cap] w fun e w' => e = .returned (.int .u32 (M.of l : Nat)) ∧ w' = w := by
  have e2 := not32 _ (M.on_lt l hB.1 (w := M.F) M.F_lt)
  have hG := rOn_any M.F a n cap l w M.F_lt hB hn
  rw [show ((M.F : Nat) : Int) = 4294967295 from rfl] at hG
  have HG := hide hG
  have HB : Hid (M.of l = M.neg (M.on M.F l)) := M.of_eq l
  clear hG hB hn
  generalize M.of l = r at HB ⊢
  generalize M.on M.F l = t at *
  generalize M.neg t = t' at *
  have hsg : IntKind.u32.signed = false := rfl
  have hmx : IntKind.u32.max = 4294967295 := rfl
  go_enter Try.func20, Try.ntmps20
  go_wp2_with fail
  refine HG.out.mono ?_
  rintro e w1 ⟨rfl, rfl⟩
  go_wp2
  go_ret
  exact ⟨ret_int (by rw [HB.out]), rfl⟩
end Go.Proofs.Ytifhkfghjifecaa
