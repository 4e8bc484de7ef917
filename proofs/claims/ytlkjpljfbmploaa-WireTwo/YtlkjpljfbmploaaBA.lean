import Derived.Test.YtlkjpljfbmploaaRE
import Derived.Test.YtlkjpljfbmploaaRD
import Derived.Test.YtlkjpljfbmploaaWK
namespace Go.Proofs.Ytlkjpljfbmploaa
open Go.RowKit

theorem numB_mod (x k m : Nat) (h : k ≤ m) : numB (x % 256 ^ m) k = numB x k := by
  induction k generalizing x m with
  | zero => rfl
  | succ k ih =>
    obtain ⟨m, rfl⟩ : ∃ q, m = q + 1 := ⟨m - 1, by omega⟩
    simp only [numB]
    have e1 : x % 256 ^ (m + 1) % 256 = x % 256 := Nat.mod_mod_of_dvd _ ⟨256 ^ m, by rw [Nat.pow_succ, Nat.mul_comm]⟩
    have e2 : x % 256 ^ (m + 1) / 256 = x / 256 % 256 ^ m := by rw [Nat.pow_succ, Nat.mul_comm, Nat.mod_mul_right_div_self]
    rw [e1, e2, ih _ m (by omega)]

/-- a call, as a struct -/
structure Fd where
  kind : Int
  n : Nat
  a : Option Addr
  c : Nat
  l : List Nat
  k : Int
def Fd.cells (f : Fd) : Array Value := #[.int .i64 f.kind, .int .u64 (f.n : Int), .slice f.a f.l.length f.c, .int .i64 f.k]
def FdAt (w : World) (b o : Nat) (f : Fd) : Prop :=
  w.cell? ⟨b, o, none⟩ = some (.int .i64 f.kind) ∧ w.cell? ⟨b, o + 1, none⟩ = some (.int .u64 (f.n : Int)) ∧ w.cell? ⟨b, o + 2, none⟩ = some (.slice f.a f.l.length f.c) ∧ w.cell? ⟨b, o + 3, none⟩ = some (.int .i64 f.k)
def Fd.ok (w : World) (f : Fd) : Prop := f.n < 18446744073709551616 ∧ f.k ≤ 9223372036854775807 ∧ Bs w f.a f.l ∧ f.l.length + 64 ≤ 140737488355328
/-- calls in memory -/
def Fds (w : World) (b off m : Nat) (F : Nat → Fd) : Prop := ∀ r, r < m → FdAt w b (off + r * 4) (F r) ∧ (F r).ok w
theorem FdAt.but {S : Nat → Prop} {w w' : World} {b o : Nat} {f : Fd} (h : FdAt w b o f) (hb : But S w w') (hn : ¬ S b) : FdAt w' b o f := by
  obtain ⟨h0, h1, h2, h3⟩ := h
  have hk := block_lt_of_cell h0
  exact ⟨(hb.cell (p := ⟨b, o, none⟩) hk hn).trans h0, (hb.cell (p := ⟨b, o + 1, none⟩) hk hn).trans h1, (hb.cell (p := ⟨b, o + 2, none⟩) hk hn).trans h2, (hb.cell (p := ⟨b, o + 3, none⟩) hk hn).trans h3⟩
theorem kinds (k : Int) : k = 1 ∨ k = 2 ∨ k = 4 ∨ k = 8 ∨ k = 0 ∨ (k ≠ 1 ∧ k ≠ 2 ∧ k ≠ 4 ∧ k ≠ 8 ∧ k ≠ 0) := by omega
def isSh (k : Int) : Bool := decide (k ≠ 1 ∧ k ≠ 2 ∧ k ≠ 4 ∧ k ≠ 8 ∧ k ≠ 0)
/-- how many bytes a field has, and which -/
def Fd.size (f : Fd) : Nat := if f.kind = 1 then 1 else if f.kind = 2 then 2 else if f.kind = 4 then 4 else if f.kind = 8 then 8 else if f.kind = 0 then f.l.length else f.l.length + 1
def Fd.bytes (f : Fd) : List Nat := if f.kind = 1 then numB f.n 1 else if f.kind = 2 then numB f.n 2 else if f.kind = 4 then numB f.n 4 else if f.kind = 8 then numB f.n 8 else if f.kind = 0 then f.l else f.l.length :: f.l
def WS.fld (s : WS) (f : Fd) : WS := if f.kind = 1 then s.put (numB f.n 1) else if f.kind = 2 then s.put (numB f.n 2) else if f.kind = 4 then s.put (numB f.n 4) else if f.kind = 8 then s.put (numB f.n 8) else if f.kind = 0 then s.put f.l else s.short f.l
theorem Fd.bytes_length (f : Fd) : f.bytes.length = f.size := by
  unfold Fd.bytes Fd.size
  repeat' split
  all_goals first | exact numB_length _ _ | rfl
theorem eqf {k c : Int} (h : k ≠ c) : (k == c) = false := beq_eq_false_iff_ne.2 h

theorem Long_any (w : World) (n : Int) : Calls Try.prog 21 #[.int .i64 n] w fun x w' => x = .returned (.bool (decide (1048576 < n))) ∧ w' = w := by
  go_enter Try.func21, Try.ntmps21
  go_wp2
  all_goals (go_ret; simp_all)

set_option maxHeartbeats 1600000 in
theorem isShort_any (w : World) (f : Fd) : Calls Try.prog 19 #[.agg f.cells] w fun x w' => x = .returned (.bool (isSh f.kind)) ∧ Below w.heap.size w w' := by
  unfold Fd.cells
  rcases kinds f.kind with h | h | h | h | h | ⟨h1, h2, h4, h8, h0⟩
  · rw [h, show isSh 1 = false from rfl]
    clear h
    go_enter Try.func19, Try.ntmps19
    go_wp2
    go_ret
    exact ⟨rfl, (Below.refl _ _).alloc (Nat.le_refl _) _⟩
  · rw [h, show isSh 2 = false from rfl]
    clear h
    go_enter Try.func19, Try.ntmps19
    go_wp2
    go_ret
    exact ⟨rfl, (Below.refl _ _).alloc (Nat.le_refl _) _⟩
  · rw [h, show isSh 4 = false from rfl]
    clear h
    go_enter Try.func19, Try.ntmps19
    go_wp2
    go_ret
    exact ⟨rfl, (Below.refl _ _).alloc (Nat.le_refl _) _⟩
  · rw [h, show isSh 8 = false from rfl]
    clear h
    go_enter Try.func19, Try.ntmps19
    go_wp2
    go_ret
    exact ⟨rfl, (Below.refl _ _).alloc (Nat.le_refl _) _⟩
  · rw [h, show isSh 0 = false from rfl]
    clear h
    go_enter Try.func19, Try.ntmps19
    go_wp2
    go_ret
    exact ⟨rfl, (Below.refl _ _).alloc (Nat.le_refl _) _⟩
  · rw [show isSh f.kind = true by unfold isSh; exact decide_eq_true ⟨h1, h2, h4, h8, h0⟩]
    have q1 := eqf h1
    have q2 := eqf h2
    have q4 := eqf h4
    have q8 := eqf h8
    have q0 := eqf h0
    clear h1 h2 h4 h8 h0
    go_enter Try.func19, Try.ntmps19
    go_wp2
    go_ret
    exact ⟨rfl, (Below.refl _ _).alloc (Nat.le_refl _) _⟩

set_option maxHeartbeats 1600000 in
theorem size_any (w : World) (f : Fd) (hl : f.l.length + 1 ≤ 9223372036854775807) : Calls Try.prog 20 #[.agg f.cells] w fun x w' => x = .returned (.int .i64 (f.size : Int)) ∧ Below w.heap.size w w' := by
  unfold Fd.cells
  rcases kinds f.kind with h | h | h | h | h | ⟨h1, h2, h4, h8, h0⟩
  · rw [show f.size = 1 by unfold Fd.size; simp [h], h]
    clear h
    go_enter Try.func20, Try.ntmps20
    go_wp2
    go_ret
    exact ⟨rfl, (Below.refl _ _).alloc (Nat.le_refl _) _⟩
  · rw [show f.size = 2 by unfold Fd.size; simp [h], h]
    clear h
    go_enter Try.func20, Try.ntmps20
    go_wp2
    go_ret
    exact ⟨rfl, (Below.refl _ _).alloc (Nat.le_refl _) _⟩
  · rw [show f.size = 4 by unfold Fd.size; simp [h], h]
    clear h
    go_enter Try.func20, Try.ntmps20
    go_wp2
    go_ret
    exact ⟨rfl, (Below.refl _ _).alloc (Nat.le_refl _) _⟩
  · rw [show f.size = 8 by unfold Fd.size; simp [h], h]
    clear h
    go_enter Try.func20, Try.ntmps20
    go_wp2
    go_ret
    exact ⟨rfl, (Below.refl _ _).alloc (Nat.le_refl _) _⟩
  · rw [show f.size = f.l.length by unfold Fd.size; simp [h], h]
    clear h
    go_enter Try.func20, Try.ntmps20
    go_wp2
    go_ret
    exact ⟨rfl, (Below.refl _ _).alloc (Nat.le_refl _) _⟩
  · rw [show f.size = f.l.length + 1 by unfold Fd.size; simp [h1, h2, h4, h8, h0]]
    have q1 := eqf h1
    have q2 := eqf h2
    have q4 := eqf h4
    have q8 := eqf h8
    have q0 := eqf h0
    have hadd : IntKind.i64.wrap ((f.l.length : Int) + 1) = ((f.l.length + 1 : Nat) : Int) := by rw [wrapI (by omega) (by omega)]; omega
    clear h1 h2 h4 h8 h0
    go_enter Try.func20, Try.ntmps20
    go_wp2
    go_ret
    exact ⟨rfl, (Below.refl _ _).alloc (Nat.le_refl _) _⟩

def allS (s : WS) (F : Nat → Fd) : Nat → WS
  | 0 => s
  | k + 1 => (allS s F k).fld (F k)
theorem did_more {T : TypeId} {w w1 w2 w3 : World} {b : Nat} {a a1 : Option Addr} {s1 s2 : WS} {cap1 : Nat} (h : Wt T w1 b a1 cap1 s1 ∧ New w a a1 ∧ But (Ft b a) w w1) (hb : Below w1.heap.size w1 w2) (k : Did T w2 w3 b a1 s2) :
    ∃ a2 cap2, Wt T w3 b a2 cap2 s2 ∧ New w a a2 ∧ But (Ft b a) w w3 := Did.step h (Did.pre hb k)

set_option maxRecDepth 100000 in
set_option maxHeartbeats 4000000 in
theorem all_some (w : World) (b : Nat) (a : Option Addr) (cap : Nat) (s : WS) (bf off m capf : Nat) (F : Nat → Fd) (h : Wt 68 w b a cap s) (hF : Fds w bf off m F) (hm : m ≤ 9223372036854775807) (hbf : ¬ Ft b a bf) (hsep : ∀ r, r < m → ∀ x, (F r).a = some x → (F r).l ≠ [] → ¬ Ft b a x.block) :
    Calls Try.prog 22 #[.pointer (some ⟨b, 0, none⟩), .slice (some ⟨bf, off, none⟩) m capf] w fun x w' => x = .returned (.tuple #[]) ∧ Did 68 w w' b a (allS s F m) := by
  have H := hide h
  have HF := hide hF
  have HS := hide hsep
  have HBF := hide hbf
  clear h hF hsep hbf
  go_enter Try.func22, Try.ntmps22
  go_wp2
  go_loopw [4, 5] (fun i _ wx => ∃ (j : Nat) (aj : Option Addr) (cj : Nat), j ≤ m ∧ i = .int .i64 j ∧ (Wt 68 wx b aj cj (allS s F j) ∧ New w a aj ∧ But (Ft b a) w wx)) (fun i _ _ => m - (intOf i).toNat)
  case atStart => exact ⟨0, a, cap, Nat.zero_le _, rfl, H.out, New.refl _ _, But.refl _ _⟩
  case round =>
    obtain ⟨j, aj, cj, hj, rfl, hG⟩ := hrel
    have HG := hide hG
    clear hG
    by_cases hlt : j < m
    · have hi : (j : Int) < (m : Int) := by omega
      obtain ⟨hat, hn, hk, hB, hlen⟩ := HF.out j hlt
      have hnx := block_lt_of_cell hat.1
      have hat1 := hat.but HG.out.2.2 HBF.out
      have hB1 := hB.but HG.out.2.2 (HS.out j hlt)
      have hsp : ∀ x, (F j).a = some x → (F j).l ≠ [] → ¬ Ft b aj x.block := fun x hx h0 => by
        refine sep_new (w := w) (HS.out j hlt x hx h0) ?_ HG.out.2.1
        rcases hB.2.2 with h | ⟨q, o, e, hc⟩
        · exact absurd h h0
        · rw [hx, Option.some.injEq] at e; subst e; exact block_lt_of_cell (hc 0 (List.length_pos_iff.2 h0))
      have HST : Hid (allS s F (j + 1) = (allS s F j).fld (F j)) := rfl
      generalize hs2 : allS s F (j + 1) = s2 at HST
      have HS2 := hide hs2
      clear hs2
      generalize allS s F j = s1 at *
      generalize F j = f at *
      obtain ⟨kind, n, fa, fc, l, k⟩ := f
      obtain ⟨e0, e1, e2, e3⟩ := hat1
      dsimp only at e0 e1 e2 e3 hn hk hB hB1 hlen hsp HST
      have HB1 := hide hB1
      have HSP := hide hsp
      clear hat hB1 hsp hB
      have hw8 : IntKind.u8.wrap (n : Int) = ((n % 256 : Nat) : Int) := by rw [IntKind.wrap_u8']; omega
      have hw16 : IntKind.u16.wrap (n : Int) = ((n % 65536 : Nat) : Int) := by rw [IntKind.wrap_u16]; omega
      have hw32 : IntKind.u32.wrap (n : Int) = ((n % 4294967296 : Nat) : Int) := by rw [IntKind.wrap_u32']; omega
      generalize hx8 : n % 256 = x8 at *
      generalize hx16 : n % 65536 = x16 at *
      generalize hx32 : n % 4294967296 = x32 at *
      have HX8 := hide hx8
      have HX16 := hide hx16
      have HX32 := hide hx32
      clear hx8 hx16 hx32
      rcases kinds kind with rfl | rfl | rfl | rfl | rfl | ⟨h1, h2, h4, h8, h0⟩
      · skip
        go_wp2_with fail
        refine (Put8_any _ b aj cj s1 x8 (by rw [← HX8.out]; omega) (HG.out.1.keep ((Below.refl _ _).alloc (Nat.le_refl _) _))).mono ?_
        rintro e w2 ⟨rfl, h2⟩
        obtain ⟨a2, c2, h3⟩ := did_more HG.out ((Below.refl _ _).alloc (Nat.le_refl _) _) h2
        rw [show s1.put (numB x8 1) = s1.fld ⟨1, n, fa, fc, l, k⟩ by unfold WS.fld; rw [← HX8.out, show numB (n % 256) 1 = numB n 1 from numB_mod n 1 1 (Nat.le_refl _)]; simp] at h3
        rw [← HST.out] at h3
        have H3 := hide h3
        clear h2 h3
        go_wp2
        go_roundw
        case rel => refine ⟨j + 1, a2, c2, by omega, by go_num, ?_⟩; rw [HS2.out]; exact H3.out
        case measure => simp [intOf]; omega
      · skip
        go_wp2_with fail
        refine (Put16_any _ b aj cj s1 x16 (by rw [← HX16.out]; omega) (HG.out.1.keep ((Below.refl _ _).alloc (Nat.le_refl _) _))).mono ?_
        rintro e w2 ⟨rfl, h2⟩
        obtain ⟨a2, c2, h3⟩ := did_more HG.out ((Below.refl _ _).alloc (Nat.le_refl _) _) h2
        rw [show s1.put (numB x16 2) = s1.fld ⟨2, n, fa, fc, l, k⟩ by unfold WS.fld; rw [← HX16.out, show numB (n % 65536) 2 = numB n 2 from numB_mod n 2 2 (Nat.le_refl _)]; simp] at h3
        rw [← HST.out] at h3
        have H3 := hide h3
        clear h2 h3
        go_wp2
        go_roundw
        case rel => refine ⟨j + 1, a2, c2, by omega, by go_num, ?_⟩; rw [HS2.out]; exact H3.out
        case measure => simp [intOf]; omega
      · skip
        go_wp2_with fail
        refine (Put32_any _ b aj cj s1 x32 (by rw [← HX32.out]; omega) (HG.out.1.keep ((Below.refl _ _).alloc (Nat.le_refl _) _))).mono ?_
        rintro e w2 ⟨rfl, h2⟩
        obtain ⟨a2, c2, h3⟩ := did_more HG.out ((Below.refl _ _).alloc (Nat.le_refl _) _) h2
        rw [show s1.put (numB x32 4) = s1.fld ⟨4, n, fa, fc, l, k⟩ by unfold WS.fld; rw [← HX32.out, show numB (n % 4294967296) 4 = numB n 4 from numB_mod n 4 4 (Nat.le_refl _)]; simp] at h3
        rw [← HST.out] at h3
        have H3 := hide h3
        clear h2 h3
        go_wp2
        go_roundw
        case rel => refine ⟨j + 1, a2, c2, by omega, by go_num, ?_⟩; rw [HS2.out]; exact H3.out
        case measure => simp [intOf]; omega
      · skip
        go_wp2_with fail
        refine (Put64_any _ b aj cj s1 n hn (HG.out.1.keep ((Below.refl _ _).alloc (Nat.le_refl _) _))).mono ?_
        rintro e w2 ⟨rfl, h2⟩
        obtain ⟨a2, c2, h3⟩ := did_more HG.out ((Below.refl _ _).alloc (Nat.le_refl _) _) h2
        rw [show s1.put (numB n 8) = s1.fld ⟨8, n, fa, fc, l, k⟩ by unfold WS.fld; simp] at h3
        rw [← HST.out] at h3
        have H3 := hide h3
        clear h2 h3
        go_wp2
        go_roundw
        case rel => refine ⟨j + 1, a2, c2, by omega, by go_num, ?_⟩; rw [HS2.out]; exact H3.out
        case measure => simp [intOf]; omega
      · skip
        go_wp2_with fail
        refine (Raw_any _ b aj cj s1 fa l.length fc l (HG.out.1.keep ((Below.refl _ _).alloc (Nat.le_refl _) _)) (HB1.out.keep ((Below.refl _ _).alloc (Nat.le_refl _) _)) rfl).mono ?_
        rintro e w2 ⟨rfl, h2⟩
        obtain ⟨a2, c2, h3⟩ := did_more HG.out ((Below.refl _ _).alloc (Nat.le_refl _) _) h2
        rw [show s1.put l = s1.fld ⟨0, n, fa, fc, l, k⟩ by unfold WS.fld; simp] at h3
        rw [← HST.out] at h3
        have H3 := hide h3
        clear h2 h3
        go_wp2
        go_roundw
        case rel => refine ⟨j + 1, a2, c2, by omega, by go_num, ?_⟩; rw [HS2.out]; exact H3.out
        case measure => simp [intOf]; omega
      · have q1 := eqf h1
        have q2 := eqf h2
        have q4 := eqf h4
        have q8 := eqf h8
        have q0 := eqf h0
        have HEQ : Hid (s1.short l = s1.fld ⟨kind, n, fa, fc, l, k⟩) := by unfold Hid WS.fld; simp [h1, h2, h4, h8, h0]
        clear h1 h2 h4 h8 h0
        go_wp2_with fail
        refine (Short_any _ b aj cj s1 fa l.length fc l (HG.out.1.keep ((Below.refl _ _).alloc (Nat.le_refl _) _)) (HB1.out.keep ((Below.refl _ _).alloc (Nat.le_refl _) _)) rfl HSP.out).mono ?_
        rintro e w2 ⟨rfl, h2⟩
        obtain ⟨a2, c2, h3⟩ := did_more HG.out ((Below.refl _ _).alloc (Nat.le_refl _) _) h2
        rw [HEQ.out] at h3
        rw [← HST.out] at h3
        have H3 := hide h3
        clear h2 h3
        go_wp2
        go_roundw
        case rel => refine ⟨j + 1, a2, c2, by omega, by go_num, ?_⟩; rw [HS2.out]; exact H3.out
        case measure => simp [intOf]; omega
    · obtain rfl : m = j := by omega
      go_wp2
      go_end0
      exact ⟨rfl, aj, cj, HG.out⟩
theorem all_none (w : World) (b : Nat) (a : Option Addr) (cap : Nat) (s : WS) (af : Option Addr) (capf : Nat) (F : Nat → Fd) (h : Wt 68 w b a cap s) :
    Calls Try.prog 22 #[.pointer (some ⟨b, 0, none⟩), .slice af 0 capf] w fun x w' => x = .returned (.tuple #[]) ∧ Did 68 w w' b a (allS s F 0) := by
  have H := hide h
  clear h
  go_enter Try.func22, Try.ntmps22
  go_wp2
  refine wp_loop_rounds 1 ?_
  rw [rounds_succ]
  go_wp2
  go_end0
  exact ⟨rfl, Did.same H.out (But.refl _ _)⟩
end Go.Proofs.Ytlkjpljfbmploaa
