import Derived.Test.YtifhkfghjifecaaVA
import Derived.BigRegion
import Derived.BigQuiet
import Derived.Deep.QuietTactic
import Derived.Laws.BitsAllLaws
import Derived.Laws.Cover3
import Derived.Lib.AppendZerosOnto
import Derived.Test.YtifhkfghjifecaaPN
namespace Go.Proofs.Ytifhkfghjifecaa
open Go.RowKit

theorem But.cell1 (w : World) (b i : Nat) (u : Value) : But (fun k => k = b) w (w.setCell ⟨b, i, none⟩ u) := (But.refl (fun k => k = b) w).setCell (p := ⟨b, i, none⟩) (fun _ => rfl) u

/-- a writer, as the document has it -/
structure WS where
  most : Nat
  l : List Nat
  e : Nat
def WS.ok (s : WS) : Prop := s.most ≤ 16777216 ∧ s.l.length ≤ s.most ∧ ∀ x ∈ s.l, x < 256
def WS.err (s : WS) (e : Nat) : WS := ⟨s.most, s.l, e⟩
def WS.put (s : WS) (p : List Nat) : WS := if s.e ≠ 0 then s else if s.most < s.l.length + p.length then s.err 4 else ⟨s.most, s.l ++ p, 0⟩
def WS.short (s : WS) (p : List Nat) : WS := if s.e ≠ 0 then s else if 255 < p.length then s.err 3 else s.put (p.length :: p)
def WS.fill (s : WS) (n : Int) : WS := if s.e ≠ 0 then s else if n < s.l.length then s.err 3 else if (s.most : Int) < n then s.err 4 else ⟨s.most, s.l ++ List.replicate (n.toNat - s.l.length) 0, 0⟩
theorem WS.ok.err {s : WS} (h : s.ok) (e : Nat) : (s.err e).ok := h
theorem WS.put_ok {s : WS} (h : s.ok) {p : List Nat} (hp : ∀ x ∈ p, x < 256) : (s.put p).ok := by
  unfold WS.put
  split
  · exact h
  · split
    · exact h.err 4
    · rename_i h1 h2
      refine ⟨h.1, ?_, ?_⟩
      · show (s.l ++ p).length ≤ s.most
        rw [List.length_append]; omega
      · intro x hx
        rcases List.mem_append.1 hx with hx | hx
        · exact h.2.2 x hx
        · exact hp x hx
theorem WS.put_err {s : WS} (h : s.e ≠ 0) (p : List Nat) : s.put p = s := by unfold WS.put; rw [if_pos h]
theorem WS.put_many {s : WS} (h : s.e = 0) {p : List Nat} (hm : s.most < s.l.length + p.length) : s.put p = s.err 4 := by unfold WS.put; rw [if_neg (by omega), if_pos hm]
theorem WS.put_fits {s : WS} (h : s.e = 0) {p : List Nat} (hm : s.l.length + p.length ≤ s.most) : s.put p = ⟨s.most, s.l ++ p, 0⟩ := by unfold WS.put; rw [if_neg (by omega), if_neg (by omega)]

/-- a writer in memory -/
def Wt (T : TypeId) (w : World) (b : Nat) (a : Option Addr) (cap : Nat) (s : WS) : Prop :=
  w.heap[b]? = some (.cells #[.int .i64 (s.most : Int), .slice a s.l.length cap, .int .i64 (s.e : Int)] T (0, 0)) ∧ Rw w a cap s.l ∧ s.ok
/-- the blocks of a writer -/
def Ft (b : Nat) (a : Option Addr) (k : Nat) : Prop := k = b ∨ ∃ x, a = some x ∧ x.block = k
/-- what a call of a writer has done -/
def Did (T : TypeId) (w w' : World) (b : Nat) (a : Option Addr) (s' : WS) : Prop := ∃ a' cap', Wt T w' b a' cap' s' ∧ New w a a' ∧ But (Ft b a) w w'

section
variable {T : TypeId} {w w' : World} {b : Nat} {a : Option Addr} {cap : Nat} {s : WS}
theorem Wt.lt (h : Wt T w b a cap s) : b < w.heap.size := (Array.getElem?_eq_some_iff.1 h.1).1
theorem Wt.c0 (h : Wt T w b a cap s) : w.cell? ⟨b, 0, none⟩ = some (.int .i64 (s.most : Int)) := by rw [cell_of_row _ _ _ _ _ _ h.1]; rfl
theorem Wt.c1 (h : Wt T w b a cap s) : w.cell? ⟨b, 1, none⟩ = some (.slice a s.l.length cap) := by rw [cell_of_row _ _ _ _ _ _ h.1]; rfl
theorem Wt.c2 (h : Wt T w b a cap s) : w.cell? ⟨b, 2, none⟩ = some (.int .i64 (s.e : Int)) := by rw [cell_of_row _ _ _ _ _ _ h.1]; rfl
theorem Wt.f (h : Wt T w b a cap s) (i : Nat) : w.frozen? ⟨b, i, none⟩ = false := frozen_of_row w b i _ _ h.1
/-- the struct's block is not the bytes' one -/
theorem Wt.ne (h : Wt T w b a cap s) (hT : T ≠ 5) {x : Addr} (hx : a = some x) : x.block ≠ b := by
  intro e
  rcases h.2.1.cases with ⟨h0, _⟩ | ⟨g, cur, h0, hg, _⟩
  · rw [hx] at h0; cases h0
  · rw [hx, Option.some.injEq] at h0
    subst h0
    have e' : g = b := e
    subst e'
    have := h.1
    rw [hg] at this
    simp at this
    exact hT this.2.symm
theorem Wt.but {S : Nat → Prop} (h : Wt T w b a cap s) (hb : But S w w') (hn : ∀ k, Ft b a k → ¬ S k) : Wt T w' b a cap s :=
  ⟨(hb.block b h.lt (hn b (.inl rfl))).trans h.1, h.2.1.but hb fun x hx => hn _ (.inr ⟨x, hx, rfl⟩), h.2.2⟩
theorem Wt.keep (h : Wt T w b a cap s) (hb : Below w.heap.size w w') : Wt T w' b a cap s := h.but (S := fun _ => False) (But.ofBelow hb) fun _ _ hf => hf
theorem Wt.drew (h : Wt T w b a cap s) : Wt T w.drew b a cap s := h.keep (Below.refl _ _).drew
theorem Wt.alloc (h : Wt T w b a cap s) (o : Obj) : Wt T (w.alloc o) b a cap s := h.keep ((Below.refl _ _).alloc (Nat.le_refl _) o)
theorem Wt.setE (h : Wt T w b a cap s) (hT : T ≠ 5) (e : Nat) : Wt T (w.setCell ⟨b, 2, none⟩ (.int .i64 (e : Int))) b a cap (s.err e) := by
  refine ⟨heap_setCell_same w b 2 _ _ _ h.1, ?_, h.2.2⟩
  exact h.2.1.but (S := fun k => k = b) (But.cell1 _ _ _ _) fun x hx => h.ne hT hx
theorem Did.same (h : Wt T w' b a cap s) (hb : But (Ft b a) w w') : Did T w w' b a s := ⟨a, cap, h, New.refl _ _, hb⟩
theorem But.toFt {b : Nat} (a : Option Addr) (hb : But (fun k => k = b) w w') : But (Ft b a) w w' := hb.mono fun _ _ e => .inl e
/-- the bytes have grown in memory, and the field is written -/
theorem Wt.grow (h : Wt T w b a cap s) (hT : T ≠ 5) {w1 : World} {a' : Option Addr} {n cap' : Nat} {p : List Nat} (hR : Rw w1 a' cap' (s.l ++ p)) (hN : New w a a') (hg : w.grownBy w1 (a.map Addr.block))
    (hp : ∀ x ∈ p, x < 256) (hm : s.l.length + p.length ≤ s.most) (he : s.e = 0) (hn : n = s.l.length + p.length) :
    Wt T (w1.setCell ⟨b, 1, none⟩ (.slice a' n cap')) b a' cap' ⟨s.most, s.l ++ p, 0⟩ ∧ New w a a' ∧ But (Ft b a) w (w1.setCell ⟨b, 1, none⟩ (.slice a' n cap')) := by
  have hb1 : But (Ft b a) w w1 := (But.refl _ _).grown hg fun k hk _ => by
    obtain ⟨x, hx, e⟩ := map_some hk
    exact .inr ⟨x, hx, e⟩
  have hblk : w1.heap[b]? = w.heap[b]? := hg.block b h.lt fun e => by
    obtain ⟨x, hx, e⟩ := map_some e.symm
    exact h.ne hT hx e
  have hne : ∀ x, a' = some x → x.block ≠ b := by
    intro x hx e
    rcases hN x hx with ⟨y, hy, e2⟩ | h2
    · exact h.ne hT hy (e2.trans e)
    · have := h.lt; omega
  refine ⟨⟨?_, ?_, h.2.2.1, ?_, ?_⟩, hN, hb1.setCell (fun _ => .inl rfl) _⟩
  · rw [heap_setCell_same w1 b 1 _ _ _ (hblk.trans h.1)]
    subst hn
    simp [he]
  · exact hR.but (S := fun k => k = b) (But.cell1 _ _ _ _) fun x hx => hne x hx
  · show (s.l ++ p).length ≤ s.most
    rw [List.length_append]; exact hm
  · intro x hx
    rcases List.mem_append.1 hx with hx | hx
    · exact h.2.2.2.2 x hx
    · exact hp x hx
theorem Did.trans {w1 w2 : World} {s1 s2 : WS} (h : Did T w w1 b a s1) (k : ∀ a1 cap1, Wt T w1 b a1 cap1 s1 → Did T w1 w2 b a1 s2) : Did T w w2 b a s2 := by
  obtain ⟨a1, cap1, h1, h2, h3⟩ := h
  obtain ⟨a2, cap2, k1, k2, k3⟩ := k a1 cap1 h1
  refine ⟨a2, cap2, k1, h2.trans k2 h3.size, h3.trans k3 ?_⟩
  rintro x hx (rfl | ⟨y, hy, e⟩)
  · exact .inl rfl
  · rcases h2 y hy with ⟨z, hz, e2⟩ | h4
    · exact .inr ⟨z, hz, e2.trans e⟩
    · omega
end

set_option maxHeartbeats 400000 in
theorem fail_ok (w : World) (b : Nat) (a : Option Addr) (cap : Nat) (s : WS) (e : Nat) (h : Wt 104 w b a cap s) (he : s.e = 0) :
    Calls Try.prog 78 #[.pointer (some ⟨b, 0, none⟩), .int .i64 (e : Int)] w fun x w' => x = .returned (.tuple #[]) ∧ Wt 104 w' b a cap (s.err e) ∧ But (fun k => k = b) w w' := by
  have c2 := h.c2
  have f2 := h.f 2
  rw [he] at c2
  have H := hide h
  clear h he
  go_enter Try.func78, Try.ntmps78
  go_wp2
  go_end0
  exact ⟨rfl, H.out.setE (by decide) e, But.cell1 _ _ _ _⟩
set_option maxHeartbeats 400000 in
theorem fail_err (w : World) (b : Nat) (a : Option Addr) (cap : Nat) (s : WS) (e : Nat) (h : Wt 104 w b a cap s) (he : s.e ≠ 0) :
    Calls Try.prog 78 #[.pointer (some ⟨b, 0, none⟩), .int .i64 (e : Int)] w fun x w' => x = .returned (.tuple #[]) ∧ w' = w := by
  have c2 := h.c2
  have hz : (((s.e : Nat) : Int) == 0) = false := by simp; omega
  clear h he
  go_enter Try.func78, Try.ntmps78
  go_wp2
  go_end0
  exact ⟨rfl, rfl⟩
end Go.Proofs.Ytifhkfghjifecaa

namespace Go.Proofs.Ytifhkfghjifecaa
open Go.RowKit

set_option maxHeartbeats 800000 in
theorem takes_yes (w : World) (b : Nat) (a : Option Addr) (cap : Nat) (s : WS) (n : Int) (h : Wt 104 w b a cap s) (he : s.e = 0) (hn : n + s.l.length ≤ s.most) :
    Calls Try.prog 75 #[.pointer (some ⟨b, 0, none⟩), .int .i64 n] w fun x w' => x = .returned (.bool true) ∧ Below w.heap.size w w' := by
  have c0 := h.c0
  have c1 := h.c1
  have c2 := h.c2
  have hm := h.2.2.1
  have hl := h.2.2.2.1
  rw [he] at c2
  have hs : IntKind.i64.wrap ((s.most : Int) - (s.l.length : Int)) = (s.most : Int) - (s.l.length : Int) := wrapI (by omega) (by omega)
  have hgt2 : ¬ (s.most : Int) - (s.l.length : Int) < n := by omega
  generalize s.l.length = len at *
  generalize s.most = mo at *
  clear h he hn hm hl
  go_enter Try.func75, Try.ntmps75
  go_wp2
  go_quiet (fail)
  go_wp2
  go_ret
  exact ⟨rfl, drN _ _⟩
set_option maxHeartbeats 800000 in
theorem takes_no (w : World) (b : Nat) (a : Option Addr) (cap : Nat) (s : WS) (n : Int) (h : Wt 104 w b a cap s) (he : s.e = 0) (hn : (s.most : Int) < n + s.l.length) :
    Calls Try.prog 75 #[.pointer (some ⟨b, 0, none⟩), .int .i64 n] w fun x w' => x = .returned (.bool false) ∧ Wt 104 w' b a cap (s.err 4) ∧ But (fun k => k = b) w w' := by
  have c0 := h.c0
  have c1 := h.c1
  have hm := h.2.2.1
  have hl := h.2.2.2.1
  have hs : IntKind.i64.wrap ((s.most : Int) - (s.l.length : Int)) = (s.most : Int) - (s.l.length : Int) := wrapI (by omega) (by omega)
  have hgt2 : (s.most : Int) - (s.l.length : Int) < n := by omega
  have H := hide h
  have HE := hide he
  generalize s.l.length = len at *
  generalize s.most = mo at *
  clear h he hn hm hl
  go_enter Try.func75, Try.ntmps75
  go_wp2
  go_quiet (fail)
  go_wp2_with fail
  refine (fail_ok _ b a cap s 4 (H.out.keep (drN _ _)) HE.out).mono ?_
  rintro e w1 ⟨rfl, h1, hb1⟩
  have d2 := h1.c2
  have H1 := hide h1
  clear h1
  go_wp2
  go_ret
  exact ⟨rfl, H1.out, (But.ofBelow (drN _ _)).trans hb1 fun _ _ e => e⟩
set_option maxHeartbeats 800000 in
theorem takes_err (w : World) (b : Nat) (a : Option Addr) (cap : Nat) (s : WS) (n : Int) (h : Wt 104 w b a cap s) (he : s.e ≠ 0) :
    Calls Try.prog 75 #[.pointer (some ⟨b, 0, none⟩), .int .i64 n] w fun x w' => x = .returned (.bool false) ∧ Below w.heap.size w w' := by
  have c0 := h.c0
  have c1 := h.c1
  have c2 := h.c2
  have hm := h.2.2.1
  have hl := h.2.2.2.1
  have hz : (((s.e : Nat) : Int) == 0) = false := by simp; omega
  have hs : IntKind.i64.wrap ((s.most : Int) - (s.l.length : Int)) = (s.most : Int) - (s.l.length : Int) := wrapI (by omega) (by omega)
  have H := hide h
  have HE := hide he
  by_cases hgt2 : (s.most : Int) - (s.l.length : Int) < n
  · generalize s.l.length = len at *
    generalize s.most = mo at *
    clear h he hm hl
    go_enter Try.func75, Try.ntmps75
    go_wp2
    go_quiet (fail)
    go_wp2_with fail
    refine (fail_err _ b a cap s 4 (H.out.keep (drN _ _)) HE.out).mono ?_
    rintro e w1 ⟨rfl, rfl⟩
    go_wp2
    go_ret
    exact ⟨rfl, drN _ _⟩
  · generalize s.l.length = len at *
    generalize s.most = mo at *
    clear h he hm hl H HE
    go_enter Try.func75, Try.ntmps75
    go_wp2
    go_quiet (fail)
    go_wp2
    go_ret
    exact ⟨rfl, drN _ _⟩

theorem Did.pre {T : TypeId} {w w1 w2 : World} {b : Nat} {a : Option Addr} {s : WS} (hb : Below w.heap.size w w1) (h : Did T w1 w2 b a s) : Did T w w2 b a s := by
  obtain ⟨a', cap', h1, h2, h3⟩ := h
  exact ⟨a', cap', h1, h2.mono hb.size, (But.ofBelow hb).trans h3 fun _ _ h => h⟩
theorem Did.post {T : TypeId} {w w1 w2 : World} {b : Nat} {a : Option Addr} {s : WS} (h : Did T w w1 b a s) (hb : Below w1.heap.size w1 w2) : Did T w w2 b a s := by
  obtain ⟨a', cap', h1, h2, h3⟩ := h
  exact ⟨a', cap', h1.keep hb, h2, h3.andBelow hb⟩
/-- what the walk wants behind an append to the bytes -/
theorem Wt.after {T : TypeId} {w w1 : World} {b : Nat} {a : Option Addr} {cap : Nat} {s : WS} (h : Wt T w b a cap s) (hT : T ≠ 5) {a' : Option Addr} {n cap' : Nat} {p : List Nat} (hR : Rw w1 a' cap' (s.l ++ p)) (hN : New w a a') (hg : w.grownBy w1 (a.map Addr.block))
    (hp : ∀ x ∈ p, x < 256) (hm : s.l.length + p.length ≤ s.most) (he : s.e = 0) (hn : n = s.l.length + p.length) :
    w1.cell? ⟨b, 1, none⟩ = some (.slice a s.l.length cap) ∧ w1.frozen? ⟨b, 1, none⟩ = false ∧ Hid (Wt T (w1.setCell ⟨b, 1, none⟩ (.slice a' n cap')) b a' cap' ⟨s.most, s.l ++ p, 0⟩ ∧ New w a a' ∧ But (Ft b a) w (w1.setCell ⟨b, 1, none⟩ (.slice a' n cap'))) := by
  have hblk : w1.heap[b]? = w.heap[b]? := hg.block b h.lt fun e => by
    obtain ⟨x, hx, e⟩ := map_some e.symm
    exact h.ne hT hx e
  exact ⟨(World.cell?_of_block hblk).trans h.c1, (World.frozen?_of_block hblk).trans (h.f 1), h.grow hT hR hN hg hp hm he hn⟩

end Go.Proofs.Ytifhkfghjifecaa

namespace Go.Proofs.Ytifhkfghjifecaa
open Go.RowKit
set_option maxRecDepth 1000000 in
set_option maxHeartbeats 1600000 in
theorem len64_8 (w : World) : Calls Try.prog 70 #[.int .u64 255] w fun x w' => x = .returned (.int .i64 8) ∧ w' = w := by
  go_enter Try.func70, Try.ntmps70
  go_wp2
  go_ret
  exact ⟨by kernel_rfl, rfl⟩
theorem width8_any (w : World) : Calls Try.prog 56 #[] w fun x w' => x = .returned (.int .i64 1) ∧ w' = w := by
  go_enter Try.func56, Try.ntmps56
  go_wp2_with fail
  refine (len64_8 _).mono ?_
  rintro e w1 ⟨rfl, rfl⟩
  go_wp2
  go_ret
  exact ⟨rfl, rfl⟩
set_option maxRecDepth 1000000 in
set_option maxHeartbeats 1600000 in
theorem len64_16 (w : World) : Calls Try.prog 70 #[.int .u64 65535] w fun x w' => x = .returned (.int .i64 16) ∧ w' = w := by
  go_enter Try.func70, Try.ntmps70
  go_wp2
  go_ret
  exact ⟨by kernel_rfl, rfl⟩
set_option maxRecDepth 1000000 in
set_option maxHeartbeats 1600000 in
theorem len64_32 (w : World) : Calls Try.prog 70 #[.int .u64 4294967295] w fun x w' => x = .returned (.int .i64 32) ∧ w' = w := by
  go_enter Try.func70, Try.ntmps70
  go_wp2
  go_ret
  exact ⟨by kernel_rfl, rfl⟩
theorem width32_any (w : World) : Calls Try.prog 50 #[] w fun x w' => x = .returned (.int .i64 4) ∧ w' = w := by
  go_enter Try.func50, Try.ntmps50
  go_wp2_with fail
  refine (len64_32 _).mono ?_
  rintro e w1 ⟨rfl, rfl⟩
  go_wp2
  go_ret
  exact ⟨rfl, rfl⟩
set_option maxRecDepth 1000000 in
set_option maxHeartbeats 1600000 in
theorem len64_64 (w : World) : Calls Try.prog 70 #[.int .u64 18446744073709551615] w fun x w' => x = .returned (.int .i64 64) ∧ w' = w := by
  go_enter Try.func70, Try.ntmps70
  go_wp2
  go_ret
  exact ⟨by kernel_rfl, rfl⟩
theorem width64_any (w : World) : Calls Try.prog 54 #[] w fun x w' => x = .returned (.int .i64 8) ∧ w' = w := by
  go_enter Try.func54, Try.ntmps54
  go_wp2_with fail
  refine (len64_64 _).mono ?_
  rintro e w1 ⟨rfl, rfl⟩
  go_wp2
  go_ret
  exact ⟨rfl, rfl⟩
end Go.Proofs.Ytifhkfghjifecaa

namespace Go.Proofs.Ytifhkfghjifecaa
open Go.RowKit

theorem Did.step {T : TypeId} {w w1 w2 : World} {b : Nat} {a a1 : Option Addr} {cap1 : Nat} {s1 s2 : WS} (h : Wt T w1 b a1 cap1 s1 ∧ New w a a1 ∧ But (Ft b a) w w1) (k : Did T w1 w2 b a1 s2) : Did T w w2 b a s2 := by
  obtain ⟨h1, h2, h3⟩ := h
  obtain ⟨a2, cap2, k1, k2, k3⟩ := k
  refine ⟨a2, cap2, k1, h2.trans k2 h3.size, h3.trans k3 ?_⟩
  rintro x hx (rfl | ⟨y, hy, e⟩)
  · exact .inl rfl
  · rcases h2 y hy with ⟨z, hz, e2⟩ | h4
    · exact .inr ⟨z, hz, e2.trans e⟩
    · omega

end Go.Proofs.Ytifhkfghjifecaa

namespace Go.Proofs.Ytifhkfghjifecaa
open Go.RowKit

set_option maxHeartbeats 800000 in
theorem Done_ok (w : World) (b : Nat) (a : Option Addr) (cap : Nat) (s : WS) (h : Wt 104 w b a cap s) (he : s.e = 0) :
    Calls Try.prog 77 #[.pointer (some ⟨b, 0, none⟩)] w fun x w' => ∃ a' cap', x = .returned (.tuple #[.slice a' s.l.length cap', .int .i64 0]) ∧ Rw w' a' cap' s.l ∧ New w none a' ∧ Below w.heap.size w w' := by
  have c1 := h.c1
  have c2 := h.c2
  rw [he] at c2
  have H := hide h
  clear h he
  go_enter Try.func77, Try.ntmps77
  go_wp2_with fail
  refine (Clone_any w a s.l.length cap s.l (H.out.2.1.bs H.out.2.2.2.2 H.out.2.1.len_le) rfl (by have := H.out.2.2.1; have := H.out.2.2.2.1; omega)).mono ?_
  rintro e w1 ⟨a', cap', rfl, hR, hN, hb⟩
  have HR := hide hR
  clear hR
  go_wp2
  go_ret2
  exact ⟨a', cap', rfl, HR.out, hN, hb⟩
set_option maxHeartbeats 800000 in
theorem Done_err (w : World) (b : Nat) (a : Option Addr) (cap : Nat) (s : WS) (h : Wt 104 w b a cap s) (he : s.e ≠ 0) :
    Calls Try.prog 77 #[.pointer (some ⟨b, 0, none⟩)] w fun x w' => x = .returned (.tuple #[.slice none 0 0, .int .i64 (s.e : Int)]) ∧ Below w.heap.size w w' := by
  have c2 := h.c2
  have hz : (((s.e : Nat) : Int) == 0) = false := by simp; omega
  have hz2 : (((s.e : Nat) : Int) != 0) = true := by simp; omega
  clear h he
  go_enter Try.func77, Try.ntmps77
  go_wp2
  go_region
  all_goals go_wp2
  all_goals go_ret2
  all_goals exact ⟨rfl, (Below.refl _ _).drew⟩

def clamp (m : Int) : Nat := (min (max m 0) 16777216).toNat
theorem clamp_ok (m : Int) : (⟨clamp m, [], 0⟩ : WS).ok := ⟨by show (min (max m 0) 16777216).toNat ≤ _; omega, Nat.zero_le _, by simp⟩
theorem newWt (T : TypeId) (w : World) (m x : Int) (hx : x = clamp m) : Wt T (w.alloc (.cells #[.int .i64 x, .slice none 0 0, .int .i64 0] T)) w.heap.size none 0 ⟨clamp m, [], 0⟩ :=
  ⟨by subst hx; exact heap_alloc_new _ _, Rw.nil _, clamp_ok m⟩
set_option maxHeartbeats 800000 in
theorem NewWriter_any (w : World) (m : Int) :
    Calls Try.prog 65 #[.int .i64 m] w fun x w' => x = .returned (.pointer (some ⟨w.heap.size, 0, none⟩)) ∧ Wt 104 w' w.heap.size none 0 ⟨clamp m, [], 0⟩ ∧ Below w.heap.size w w' := by
  go_enter Try.func65, Try.ntmps65
  go_wp2
  all_goals go_ret
  all_goals exact ⟨rfl, newWt _ _ _ _ (by unfold clamp; omega), (Below.refl _ _).alloc (Nat.le_refl _) _⟩
end Go.Proofs.Ytifhkfghjifecaa

namespace Go.Proofs.Ytifhkfghjifecaa
open Go.RowKit

theorem zeroCells_u8 (k : Nat) : Builtin.zeroCells (Value.int .u8 0).cells k = (vb (List.replicate k 0)).toArray := by
  apply Array.ext
  · simp [Builtin.zeroCells, Value.cells, vb]
  · intro i h1 h2
    simp only [Builtin.zeroCells, Value.cells, vb, Array.getElem_map, List.getElem_toArray, List.getElem_map, List.getElem_replicate]
    simp [Nat.mod_one]
theorem run_apZ (w : World) (ty : TypeId) (a : Option Addr) (n cap : Nat) (l : List Nat) (hn : n = l.length) (hR : Rw w a cap l) (m : Nat) (hlen : l.length + m ≤ 140737488355328) :
    ∃ a' cap' w', (Builtin.append_ #[22, 3] ty #[.slice a n cap, .int .i64 (m : Int)]).run Try.prog w = .ok (.slice a' (n + m) cap') w' ∧
      Rw w' a' cap' (l ++ List.replicate m 0) ∧ New w a a' ∧ w.grownBy w' (a.map Addr.block) := by
  subst hn
  obtain ⟨i0, hi, hz0, hz1, hz2⟩ := info_parts infoU8
  have hw : IntKind.i64.wrap (m : Int) = m := wrapI (by omega) (by omega)
  have hneg : ¬ ((m : Int) < 0) := by omega
  have h48i : ¬ (281474976710656 < (m : Int)) := by omega
  by_cases h0 : m = 0
  · subst h0
    refine ⟨a, cap, w, ?_, by simpa using hR, New.refl _ _, ⟨rfl, rfl, rfl, Nat.le_refl _, fun _ _ _ => rfl⟩⟩
    rcases hR.cases with ⟨rfl, rfl, rfl⟩ | ⟨g, cur, rfl, hg, h1, h2, h3, h4⟩
    · simp [Builtin.append_, run_underlying Try.underlying22, run_underlying Try.underlying3, sizeOf, typeInfo, hi, hz2, asInt, asIntOf, IntKind.wrap_i64]
    · simp [Builtin.append_, run_underlying Try.underlying22, run_underlying Try.underlying3, sizeOf, typeInfo, hi, hz2, asInt, asIntOf, IntKind.wrap_i64, h1, storeCells]
  · have hvl : (vb (List.replicate m 0)).length = m := by rw [vb_length, List.length_replicate]
    have hll : (l ++ List.replicate m 0).length = l.length + m := by rw [List.length_append, List.length_replicate]
    by_cases hroom : l.length + m ≤ cap
    · rcases hR.cases with ⟨rfl, rfl, rfl⟩ | ⟨g, cur, rfl, hg, h1, h2, h3, h4⟩
      · simp at hroom; omega
      · have hst := run_storeCells_at Try.prog g (l.length * 1) 5 (vb (List.replicate m 0)) 0 cur w hg (by rw [hvl]; omega) (vb_one _)
        simp only [Nat.add_zero, Nat.mul_one] at hst
        generalize hC : (List.take l.length cur.toList ++ vb (List.replicate m 0) ++ List.drop (l.length + (vb (List.replicate m 0)).length) cur.toList).toArray = C at hst
        have hCs : C.size = cap := by rw [← hC]; simp [hvl]; omega
        have hCt : C.toList.take (l ++ List.replicate m 0).length = vb (l ++ List.replicate m 0) := by
          rw [← hC, h4, ← vb_append]
          rw [← vb_length (l ++ List.replicate m 0)]
          exact List.take_left
        refine ⟨some ⟨g, 0, none⟩, cap, w.setRow g C, ?_, Rw.mk (setRow_heap w g cur _ _ _ hg) (by rw [hll]; exact hroom) h2 hCs hCt, New.refl _ _, ⟨rfl, rfl, rfl, by simp, fun k _ hk => setRow_other w g k _ (fun e => hk (by simp [e]))⟩⟩
        simp [Builtin.append_, run_underlying Try.underlying22, run_underlying Try.underlying3, sizeOf, typeInfo, zeroValue, hi, hz0, hz1, hz2, asInt, asIntOf, hw, hneg, h48i, h0, hroom, zeroCells_u8, Addr.add_lit, hst]
    · have hold : (Builtin.firstCells i0.size l.length (.slice a l.length cap)).run Try.prog w.drew = .ok (vb l).toArray w.drew := by
        rw [hz1]
        rcases hR.cases with ⟨rfl, rfl, rfl⟩ | ⟨g, cur, rfl, hg, h1, h2, h3, h4⟩
        · rfl
        · refine run_firstCells_some w.drew 1 l.length _ l.length cap (vb l) (by rw [vb_length, Nat.mul_one]) ?_
          intro j u hj
          have hlt : j < l.length := by
            have := (List.getElem?_eq_some_iff.1 hj).1
            rwa [vb_length] at this
          rw [vb_get l j hlt, Option.some.injEq] at hj
          subst hj
          have ea : (⟨g, 0, none⟩ : Addr).add j = ⟨g, j, none⟩ := by unfold Addr.add; split <;> simp_all
          rw [ea]
          exact hR.cell hlt
      have hr := Lib.run_append_grow_zeros (P := Try.prog) w 22 3 ty 5 i0 (.int .u8 0) .i64 .i64 Try.underlying22 Try.underlying3 hi hz0 a l.length cap (vb l) hold m (by omega) (by omega) (by omega) (by omega) (by rw [hz2]; omega) (growslice_fits (by omega) (by rw [hz2]; omega))
      refine ⟨some ⟨w.heap.size, 0, none⟩, _, _, hr, Rw.mk (heap_alloc_new w.drew _) (by rw [hll]; exact grownCap_ge w _ _ _) (grownCap_le_maxLen w _ _ _ (by unfold maxLen; omega)) ?_ ?_, fun x hx => .inr (by simp only [Option.some.injEq] at hx; subst hx; exact Nat.le_refl _), ⟨rfl, rfl, rfl, by simp, fun k hk _ => heap_alloc_old w.drew _ hk⟩⟩
      · have := grownCap_ge w (l.length + m) cap 5
        simp only [zeroCells_u8, Array.size_append, List.size_toArray, vb_length, List.length_replicate]
        omega
      · simp only [zeroCells_u8, Array.toList_append]
        rw [← vb_append, ← vb_length (l ++ List.replicate m 0)]
        exact List.take_left
theorem wpList_apZ {w : World} {ops : Array Oper} {rest : List Oper} {o : Oper} {a : Act} {Q : Exit → Act → World → Prop} (hgd : o.guard = none) (s x : Operand)
    (ho : o.op = .call { callee := .builtin .append, args := #[s, x], argTypes := #[22, 3] }) (ao : Option Addr) (n cap : Nat) (l : List Nat) (hs : a.eval s = .slice ao n cap) (hn : n = l.length) (hR : Rw w ao cap l)
    (m : Nat) (hx : a.eval x = .int .i64 (m : Int)) (hlen : l.length + m ≤ 140737488355328)
    (h : ∀ a' cap' w', Rw w' a' cap' (l ++ List.replicate m 0) → New w ao a' → w.grownBy w' (ao.map Addr.block) → wpList Try.prog ops Q rest (a.put o.dst (.slice a' (n + m) cap')) w') : wpList Try.prog ops Q (o :: rest) a w := by
  obtain ⟨a', cap', w', hr, h1, h2, h3⟩ := run_apZ w o.type ao n cap l hn hR m hlen
  exact Lib.wpList_append_run w hgd s x 22 3 ho _ _ hs hx _ _ hr (h a' cap' w' h1 h2 h3)

set_option maxHeartbeats 800000 in
theorem Fill_any (w : World) (b : Nat) (a : Option Addr) (cap : Nat) (s : WS) (n : Int) (h : Wt 104 w b a cap s) (hn : n ≤ 9223372036854775807) :
    Calls Try.prog 76 #[.pointer (some ⟨b, 0, none⟩), .int .i64 n] w fun x w' => x = .returned (.tuple #[]) ∧ Did 104 w w' b a (s.fill n) := by
  have c1 := h.c1
  have hm := h.2.2.1
  have hl := h.2.2.2.1
  have H := hide h
  have HM := hide hm
  have HL := hide hl
  clear h hm hl
  by_cases hlt : n < (s.l.length : Int)
  · by_cases he : s.e = 0
    · rw [show s.fill n = s.err 3 by unfold WS.fill; rw [if_neg (by omega), if_pos hlt]]
      have HE := hide he
      clear he
      go_enter Try.func76, Try.ntmps76
      go_wp2_with fail
      refine (fail_ok _ b a cap s 3 H.out HE.out).mono ?_
      rintro e w1 ⟨rfl, h1, hb1⟩
      have H1 := hide h1
      clear h1
      go_wp2
      refine bodyPost_ret (results_none rfl _ _ _) rfl ?_
      exact ⟨rfl, Did.same H1.out (hb1.toFt a)⟩
    · rw [show s.fill n = s by unfold WS.fill; rw [if_pos he]]
      have HE := hide he
      clear he
      go_enter Try.func76, Try.ntmps76
      go_wp2_with fail
      refine (fail_err _ b a cap s 3 H.out HE.out).mono ?_
      rintro e w1 ⟨rfl, rfl⟩
      go_wp2
      refine bodyPost_ret (results_none rfl _ _ _) rfl ?_
      exact ⟨rfl, Did.same H.out (But.refl _ _)⟩
  · obtain ⟨m, rfl⟩ : ∃ m : Nat, n = (s.l.length : Int) + (m : Int) := ⟨(n - s.l.length).toNat, by omega⟩
    have hsub : IntKind.i64.wrap ((s.l.length : Int) + (m : Int) - (s.l.length : Int)) = (m : Int) := by rw [wrapI (by omega) (by omega)]; omega
    have hlt2 : decide ((s.l.length : Int) + (m : Int) < (s.l.length : Int)) = false := by simp; omega
    have HLT := hide hlt
    clear hlt
    by_cases he : s.e = 0
    · have HE := hide he
      by_cases hf : s.l.length + m ≤ s.most
      · rw [show s.fill ((s.l.length : Int) + (m : Int)) = ⟨s.most, s.l ++ List.replicate m 0, 0⟩ by
          unfold WS.fill; rw [if_neg (by omega), if_neg HLT.out, if_neg (by omega), show ((s.l.length : Int) + (m : Int)).toNat - s.l.length = m by omega]]
        have HF := hide hf
        clear hf he
        go_enter Try.func76, Try.ntmps76
        go_wp2_with fail
        refine (takes_yes _ b a cap s _ H.out HE.out (by have := HF.out; omega)).mono ?_
        rintro e w1 ⟨rfl, hb1⟩
        have H1 := hide (H.out.keep hb1)
        have d1 := H1.out.c1
        clear c1
        go_wp2_with (at_builtin; refine wpList_apZ rfl _ _ rfl a s.l.length cap s.l rfl rfl H1.out.2.1 m rfl (by have := HF.out; have := HM.out; omega) ?_)
        intro a' cap' w2 hR hN hg
        obtain ⟨d2, e2, G⟩ := H1.out.after (n := s.l.length + m) (by decide) hR hN hg (by intro x hx; rw [List.mem_replicate] at hx; omega) (by rw [List.length_replicate]; exact HF.out) HE.out (by rw [List.length_replicate])
        clear hR hN hg d1
        go_wp2
        go_end0
        exact ⟨rfl, Did.pre hb1 ⟨_, _, G.out⟩⟩
      · rw [show s.fill ((s.l.length : Int) + (m : Int)) = s.err 4 by unfold WS.fill; rw [if_neg (by omega), if_neg HLT.out, if_pos (by omega)]]
        have HF := hide hf
        clear hf he
        go_enter Try.func76, Try.ntmps76
        go_wp2_with fail
        refine (takes_no _ b a cap s _ H.out HE.out (by have := HF.out; omega)).mono ?_
        rintro e w1 ⟨rfl, h1, hb1⟩
        have H1 := hide h1
        clear h1
        go_wp2
        go_end0
        exact ⟨rfl, Did.same H1.out (hb1.toFt a)⟩
    · rw [show s.fill ((s.l.length : Int) + (m : Int)) = s by unfold WS.fill; rw [if_pos he]]
      have HE := hide he
      clear he
      go_enter Try.func76, Try.ntmps76
      go_wp2_with fail
      refine (takes_err _ b a cap s _ H.out HE.out).mono ?_
      rintro e w1 ⟨rfl, hb1⟩
      go_wp2
      go_end0
      exact ⟨rfl, Did.same (H.out.keep hb1) (But.ofBelow hb1)⟩
end Go.Proofs.Ytifhkfghjifecaa

namespace Go.Proofs.Ytifhkfghjifecaa
open Go.RowKit

set_option maxHeartbeats 1600000 in
theorem Put8_any (w : World) (b : Nat) (a : Option Addr) (cap : Nat) (s : WS) (x : Nat) (hx : x < 256) (h : Wt 104 w b a cap s) :
    Calls Try.prog 68 #[.pointer (some ⟨b, 0, none⟩), .int .u8 (x : Int)] w fun y w' => y = .returned (.tuple #[]) ∧ Did 104 w w' b a (s.put (numB x 1)) := by
  have H := hide h
  have HM := hide h.2.2.1
  clear h
  have hwr : IntKind.u64.wrap (x : Int) = (x : Int) := by rw [IntKind.wrap_u64]; omega
  by_cases he : s.e = 0
  · have HE := hide he
    by_cases hf : s.l.length + (numB x 1).length ≤ s.most
    · rw [WS.put_fits he hf]
      rw [numB_length] at hf
      have HF := hide hf
      clear hf he
      go_enter Try.func68, Try.ntmps68
      go_wp2_with (first | (go_at_call 56; refine (width8_any _).mono ?_; rintro e w0 ⟨rfl, hw0⟩; subst w0) | (go_at_call 75; refine (takes_yes _ b a cap s _ H.out HE.out (by have := HF.out; omega)).mono ?_; rintro e w1 ⟨rfl, hb1⟩))
      go_loopw [4, 12] (fun r i wx => ∃ (j : Nat) (aj : Option Addr) (cj : Nat), j ≤ 1 ∧ i = .int .i64 j ∧ r = .int .u64 ((x / 256 ^ j : Nat) : Int) ∧ (Wt 104 wx b aj cj ⟨s.most, s.l ++ (numB x 1).take j, 0⟩ ∧ New w a aj ∧ But (Ft b a) w wx)) (fun _ i _ => 1 - (intOf i).toNat)
      case atStart =>
        have hs : (⟨s.most, s.l ++ [], 0⟩ : WS) = s := by rw [List.append_nil]; have := HE.out; cases s; simp_all
        exact ⟨0, a, cap, Nat.zero_le _, rfl, by simp, by rw [List.take_zero, hs]; exact H.out.keep hb1, New.refl _ _, But.ofBelow hb1⟩
      case round =>
        clear hb1
        obtain ⟨j, aj, cj, hj, rfl, rfl, hG⟩ := hrel
        have HG := hide hG
        clear hG
        by_cases hlt : j < 1
        · have hi : (j : Int) < 1 := by omega
          have c1 := HG.out.1.c1
          have hlw := HG.out.1.lt
          have hdiv := div_step x j
          have hxl : x / 256 ^ j < 18446744073709551616 := Nat.lt_of_le_of_lt (Nat.div_le_self _ _) (by omega)
          have hget := numB_get x 1 j hlt
          have hsn := take_snoc (numB x 1) (k := j) (by rw [numB_length]; exact hlt)
          rw [hget] at hsn
          have HSN := hide hsn
          have HDV := hide hdiv
          have hmod : x / 256 ^ j % 256 < 256 := Nat.mod_lt _ (by decide)
          clear hsn hget hdiv
          generalize x / 256 ^ j = y at *
          have hw8 : IntKind.u8.wrap (y : Int) = ((y % 256 : Nat) : Int) := by rw [IntKind.wrap_u8']; omega
          have hz : ((s.l ++ (numB x 1).take j).length) = s.l.length + j := by rw [List.length_append, List.length_take, numB_length]; omega
          dsimp only at c1
          rw [hz] at c1
          have HSL : Hid ((s.l ++ (numB x 1).take j) ++ [y % 256] = s.l ++ (numB x 1).take (j + 1)) := by rw [List.append_assoc, HSN.out]; exact rfl
          generalize s.l ++ (numB x 1).take j = L at *
          go_wp2_with (at_builtin; refine wpList_ap1 rfl _ _ rfl aj (s.l.length + j) cj L rfl hz.symm (HG.out.1.2.1.keep ((Below.refl _ _).alloc (Nat.le_refl _) _)) ⟨wr.heap.size, 0, none⟩ 1 (y % 256) rfl ?c1 (by have := HF.out; have := HM.out; omega) ?_)
          try case c1 => simp
          intro g cap' w2 hR hN hg _
          obtain ⟨d1, e1, G⟩ := (HG.out.1.alloc _).after (n := s.l.length + j + 1) (p := [y % 256]) (by decide) hR hN hg (by intro z hm; rw [List.mem_singleton] at hm; omega) (by have := HF.out; show L.length + 1 ≤ s.most; omega) rfl (by show _ = L.length + 1; omega)
          dsimp only at d1
          rw [hz] at d1
          clear hR hN hg c1
          go_wp2
          go_roundw
          case rel =>
            refine ⟨j + 1, some ⟨g, 0, none⟩, cap', by omega, by go_num, ?_, ?_⟩
            · rw [← HDV.out]; simp
            have h3 := G.out
            dsimp only at h3
            rw [HSL.out] at h3
            refine ⟨h3.1, HG.out.2.1.trans (h3.2.1.mono (by rw [size_alloc]; omega)) HG.out.2.2.size, (HG.out.2.2.alloc _).trans h3.2.2 ?_⟩
            rintro k hk (rfl | ⟨z, hz, e⟩)
            · exact .inl rfl
            · rcases HG.out.2.1 z hz with ⟨u, hu, e2⟩ | h4
              · exact .inr ⟨u, hu, e2.trans e⟩
              · omega
          case measure => simp [intOf]; omega
        · obtain rfl : j = 1 := by omega
          go_wp2
          go_end0
          refine ⟨rfl, aj, cj, ?_⟩
          have h3 := HG.out
          rw [List.take_of_length_le (by rw [numB_length]; exact Nat.le_refl _)] at h3
          exact h3
    · rw [WS.put_many he (by omega)]
      rw [numB_length] at hf
      have HF := hide hf
      clear hf he
      go_enter Try.func68, Try.ntmps68
      go_wp2_with (first | (go_at_call 56; refine (width8_any _).mono ?_; rintro e w0 ⟨rfl, hw0⟩; subst w0) | (go_at_call 75; refine (takes_no _ b a cap s _ H.out HE.out (by have := HF.out; omega)).mono ?_; rintro e w1 ⟨rfl, h1, hb1⟩; have H1 := hide h1; clear h1))
      refine bodyPost_ret (results_none rfl _ _ _) rfl ?_
      exact ⟨rfl, Did.same H1.out (hb1.toFt a)⟩
  · rw [WS.put_err he]
    have HE := hide he
    clear he
    go_enter Try.func68, Try.ntmps68
    go_wp2_with (first | (go_at_call 56; refine (width8_any _).mono ?_; rintro e w0 ⟨rfl, hw0⟩; subst w0) | (go_at_call 75; refine (takes_err _ b a cap s _ H.out HE.out).mono ?_; rintro e w1 ⟨rfl, hb1⟩))
    refine bodyPost_ret (results_none rfl _ _ _) rfl ?_
    exact ⟨rfl, Did.same (H.out.keep hb1) (But.ofBelow hb1)⟩
set_option maxHeartbeats 1600000 in
theorem Put32_any (w : World) (b : Nat) (a : Option Addr) (cap : Nat) (s : WS) (x : Nat) (hx : x < 4294967296) (h : Wt 104 w b a cap s) :
    Calls Try.prog 66 #[.pointer (some ⟨b, 0, none⟩), .int .u32 (x : Int)] w fun y w' => y = .returned (.tuple #[]) ∧ Did 104 w w' b a (s.put (numB x 4)) := by
  have H := hide h
  have HM := hide h.2.2.1
  clear h
  have hwr : IntKind.u64.wrap (x : Int) = (x : Int) := by rw [IntKind.wrap_u64]; omega
  by_cases he : s.e = 0
  · have HE := hide he
    by_cases hf : s.l.length + (numB x 4).length ≤ s.most
    · rw [WS.put_fits he hf]
      rw [numB_length] at hf
      have HF := hide hf
      clear hf he
      go_enter Try.func66, Try.ntmps66
      go_wp2_with (first | (go_at_call 50; refine (width32_any _).mono ?_; rintro e w0 ⟨rfl, hw0⟩; subst w0) | (go_at_call 75; refine (takes_yes _ b a cap s _ H.out HE.out (by have := HF.out; omega)).mono ?_; rintro e w1 ⟨rfl, hb1⟩))
      go_loopw [4, 12] (fun r i wx => ∃ (j : Nat) (aj : Option Addr) (cj : Nat), j ≤ 4 ∧ i = .int .i64 j ∧ r = .int .u64 ((x / 256 ^ j : Nat) : Int) ∧ (Wt 104 wx b aj cj ⟨s.most, s.l ++ (numB x 4).take j, 0⟩ ∧ New w a aj ∧ But (Ft b a) w wx)) (fun _ i _ => 4 - (intOf i).toNat)
      case atStart =>
        have hs : (⟨s.most, s.l ++ [], 0⟩ : WS) = s := by rw [List.append_nil]; have := HE.out; cases s; simp_all
        exact ⟨0, a, cap, Nat.zero_le _, rfl, by simp, by rw [List.take_zero, hs]; exact H.out.keep hb1, New.refl _ _, But.ofBelow hb1⟩
      case round =>
        clear hb1
        obtain ⟨j, aj, cj, hj, rfl, rfl, hG⟩ := hrel
        have HG := hide hG
        clear hG
        by_cases hlt : j < 4
        · have hi : (j : Int) < 4 := by omega
          have c1 := HG.out.1.c1
          have hlw := HG.out.1.lt
          have hdiv := div_step x j
          have hxl : x / 256 ^ j < 18446744073709551616 := Nat.lt_of_le_of_lt (Nat.div_le_self _ _) (by omega)
          have hget := numB_get x 4 j hlt
          have hsn := take_snoc (numB x 4) (k := j) (by rw [numB_length]; exact hlt)
          rw [hget] at hsn
          have HSN := hide hsn
          have HDV := hide hdiv
          have hmod : x / 256 ^ j % 256 < 256 := Nat.mod_lt _ (by decide)
          clear hsn hget hdiv
          generalize x / 256 ^ j = y at *
          have hw8 : IntKind.u8.wrap (y : Int) = ((y % 256 : Nat) : Int) := by rw [IntKind.wrap_u8']; omega
          have hz : ((s.l ++ (numB x 4).take j).length) = s.l.length + j := by rw [List.length_append, List.length_take, numB_length]; omega
          dsimp only at c1
          rw [hz] at c1
          have HSL : Hid ((s.l ++ (numB x 4).take j) ++ [y % 256] = s.l ++ (numB x 4).take (j + 1)) := by rw [List.append_assoc, HSN.out]; exact rfl
          generalize s.l ++ (numB x 4).take j = L at *
          go_wp2_with (at_builtin; refine wpList_ap1 rfl _ _ rfl aj (s.l.length + j) cj L rfl hz.symm (HG.out.1.2.1.keep ((Below.refl _ _).alloc (Nat.le_refl _) _)) ⟨wr.heap.size, 0, none⟩ 1 (y % 256) rfl ?c1 (by have := HF.out; have := HM.out; omega) ?_)
          try case c1 => simp
          intro g cap' w2 hR hN hg _
          obtain ⟨d1, e1, G⟩ := (HG.out.1.alloc _).after (n := s.l.length + j + 1) (p := [y % 256]) (by decide) hR hN hg (by intro z hm; rw [List.mem_singleton] at hm; omega) (by have := HF.out; show L.length + 1 ≤ s.most; omega) rfl (by show _ = L.length + 1; omega)
          dsimp only at d1
          rw [hz] at d1
          clear hR hN hg c1
          go_wp2
          go_roundw
          case rel =>
            refine ⟨j + 1, some ⟨g, 0, none⟩, cap', by omega, by go_num, ?_, ?_⟩
            · rw [← HDV.out]; simp
            have h3 := G.out
            dsimp only at h3
            rw [HSL.out] at h3
            refine ⟨h3.1, HG.out.2.1.trans (h3.2.1.mono (by rw [size_alloc]; omega)) HG.out.2.2.size, (HG.out.2.2.alloc _).trans h3.2.2 ?_⟩
            rintro k hk (rfl | ⟨z, hz, e⟩)
            · exact .inl rfl
            · rcases HG.out.2.1 z hz with ⟨u, hu, e2⟩ | h4
              · exact .inr ⟨u, hu, e2.trans e⟩
              · omega
          case measure => simp [intOf]; omega
        · obtain rfl : j = 4 := by omega
          go_wp2
          go_end0
          refine ⟨rfl, aj, cj, ?_⟩
          have h3 := HG.out
          rw [List.take_of_length_le (by rw [numB_length]; exact Nat.le_refl _)] at h3
          exact h3
    · rw [WS.put_many he (by omega)]
      rw [numB_length] at hf
      have HF := hide hf
      clear hf he
      go_enter Try.func66, Try.ntmps66
      go_wp2_with (first | (go_at_call 50; refine (width32_any _).mono ?_; rintro e w0 ⟨rfl, hw0⟩; subst w0) | (go_at_call 75; refine (takes_no _ b a cap s _ H.out HE.out (by have := HF.out; omega)).mono ?_; rintro e w1 ⟨rfl, h1, hb1⟩; have H1 := hide h1; clear h1))
      refine bodyPost_ret (results_none rfl _ _ _) rfl ?_
      exact ⟨rfl, Did.same H1.out (hb1.toFt a)⟩
  · rw [WS.put_err he]
    have HE := hide he
    clear he
    go_enter Try.func66, Try.ntmps66
    go_wp2_with (first | (go_at_call 50; refine (width32_any _).mono ?_; rintro e w0 ⟨rfl, hw0⟩; subst w0) | (go_at_call 75; refine (takes_err _ b a cap s _ H.out HE.out).mono ?_; rintro e w1 ⟨rfl, hb1⟩))
    refine bodyPost_ret (results_none rfl _ _ _) rfl ?_
    exact ⟨rfl, Did.same (H.out.keep hb1) (But.ofBelow hb1)⟩
set_option maxHeartbeats 1600000 in
theorem Put64_any (w : World) (b : Nat) (a : Option Addr) (cap : Nat) (s : WS) (x : Nat) (hx : x < 18446744073709551616) (h : Wt 104 w b a cap s) :
    Calls Try.prog 67 #[.pointer (some ⟨b, 0, none⟩), .int .u64 (x : Int)] w fun y w' => y = .returned (.tuple #[]) ∧ Did 104 w w' b a (s.put (numB x 8)) := by
  have H := hide h
  have HM := hide h.2.2.1
  clear h
  have hwr : IntKind.u64.wrap (x : Int) = (x : Int) := by rw [IntKind.wrap_u64]; omega
  by_cases he : s.e = 0
  · have HE := hide he
    by_cases hf : s.l.length + (numB x 8).length ≤ s.most
    · rw [WS.put_fits he hf]
      rw [numB_length] at hf
      have HF := hide hf
      clear hf he
      go_enter Try.func67, Try.ntmps67
      go_wp2_with (first | (go_at_call 54; refine (width64_any _).mono ?_; rintro e w0 ⟨rfl, hw0⟩; subst w0) | (go_at_call 75; refine (takes_yes _ b a cap s _ H.out HE.out (by have := HF.out; omega)).mono ?_; rintro e w1 ⟨rfl, hb1⟩))
      go_loopw [4, 11] (fun r i wx => ∃ (j : Nat) (aj : Option Addr) (cj : Nat), j ≤ 8 ∧ i = .int .i64 j ∧ r = .int .u64 ((x / 256 ^ j : Nat) : Int) ∧ (Wt 104 wx b aj cj ⟨s.most, s.l ++ (numB x 8).take j, 0⟩ ∧ New w a aj ∧ But (Ft b a) w wx)) (fun _ i _ => 8 - (intOf i).toNat)
      case atStart =>
        have hs : (⟨s.most, s.l ++ [], 0⟩ : WS) = s := by rw [List.append_nil]; have := HE.out; cases s; simp_all
        exact ⟨0, a, cap, Nat.zero_le _, rfl, by simp, by rw [List.take_zero, hs]; exact H.out.keep hb1, New.refl _ _, But.ofBelow hb1⟩
      case round =>
        clear hb1
        obtain ⟨j, aj, cj, hj, rfl, rfl, hG⟩ := hrel
        have HG := hide hG
        clear hG
        by_cases hlt : j < 8
        · have hi : (j : Int) < 8 := by omega
          have c1 := HG.out.1.c1
          have hlw := HG.out.1.lt
          have hdiv := div_step x j
          have hxl : x / 256 ^ j < 18446744073709551616 := Nat.lt_of_le_of_lt (Nat.div_le_self _ _) (by omega)
          have hget := numB_get x 8 j hlt
          have hsn := take_snoc (numB x 8) (k := j) (by rw [numB_length]; exact hlt)
          rw [hget] at hsn
          have HSN := hide hsn
          have HDV := hide hdiv
          have hmod : x / 256 ^ j % 256 < 256 := Nat.mod_lt _ (by decide)
          clear hsn hget hdiv
          generalize x / 256 ^ j = y at *
          have hw8 : IntKind.u8.wrap (y : Int) = ((y % 256 : Nat) : Int) := by rw [IntKind.wrap_u8']; omega
          have hz : ((s.l ++ (numB x 8).take j).length) = s.l.length + j := by rw [List.length_append, List.length_take, numB_length]; omega
          dsimp only at c1
          rw [hz] at c1
          have HSL : Hid ((s.l ++ (numB x 8).take j) ++ [y % 256] = s.l ++ (numB x 8).take (j + 1)) := by rw [List.append_assoc, HSN.out]; exact rfl
          generalize s.l ++ (numB x 8).take j = L at *
          go_wp2_with (at_builtin; refine wpList_ap1 rfl _ _ rfl aj (s.l.length + j) cj L rfl hz.symm (HG.out.1.2.1.keep ((Below.refl _ _).alloc (Nat.le_refl _) _)) ⟨wr.heap.size, 0, none⟩ 1 (y % 256) rfl ?c1 (by have := HF.out; have := HM.out; omega) ?_)
          try case c1 => simp
          intro g cap' w2 hR hN hg _
          obtain ⟨d1, e1, G⟩ := (HG.out.1.alloc _).after (n := s.l.length + j + 1) (p := [y % 256]) (by decide) hR hN hg (by intro z hm; rw [List.mem_singleton] at hm; omega) (by have := HF.out; show L.length + 1 ≤ s.most; omega) rfl (by show _ = L.length + 1; omega)
          dsimp only at d1
          rw [hz] at d1
          clear hR hN hg c1
          go_wp2
          go_roundw
          case rel =>
            refine ⟨j + 1, some ⟨g, 0, none⟩, cap', by omega, by go_num, ?_, ?_⟩
            · rw [← HDV.out]; simp
            have h3 := G.out
            dsimp only at h3
            rw [HSL.out] at h3
            refine ⟨h3.1, HG.out.2.1.trans (h3.2.1.mono (by rw [size_alloc]; omega)) HG.out.2.2.size, (HG.out.2.2.alloc _).trans h3.2.2 ?_⟩
            rintro k hk (rfl | ⟨z, hz, e⟩)
            · exact .inl rfl
            · rcases HG.out.2.1 z hz with ⟨u, hu, e2⟩ | h4
              · exact .inr ⟨u, hu, e2.trans e⟩
              · omega
          case measure => simp [intOf]; omega
        · obtain rfl : j = 8 := by omega
          go_wp2
          go_end0
          refine ⟨rfl, aj, cj, ?_⟩
          have h3 := HG.out
          rw [List.take_of_length_le (by rw [numB_length]; exact Nat.le_refl _)] at h3
          exact h3
    · rw [WS.put_many he (by omega)]
      rw [numB_length] at hf
      have HF := hide hf
      clear hf he
      go_enter Try.func67, Try.ntmps67
      go_wp2_with (first | (go_at_call 54; refine (width64_any _).mono ?_; rintro e w0 ⟨rfl, hw0⟩; subst w0) | (go_at_call 75; refine (takes_no _ b a cap s _ H.out HE.out (by have := HF.out; omega)).mono ?_; rintro e w1 ⟨rfl, h1, hb1⟩; have H1 := hide h1; clear h1))
      refine bodyPost_ret (results_none rfl _ _ _) rfl ?_
      exact ⟨rfl, Did.same H1.out (hb1.toFt a)⟩
  · rw [WS.put_err he]
    have HE := hide he
    clear he
    go_enter Try.func67, Try.ntmps67
    go_wp2_with (first | (go_at_call 54; refine (width64_any _).mono ?_; rintro e w0 ⟨rfl, hw0⟩; subst w0) | (go_at_call 75; refine (takes_err _ b a cap s _ H.out HE.out).mono ?_; rintro e w1 ⟨rfl, hb1⟩))
    refine bodyPost_ret (results_none rfl _ _ _) rfl ?_
    exact ⟨rfl, Did.same (H.out.keep hb1) (But.ofBelow hb1)⟩
end Go.Proofs.Ytifhkfghjifecaa
