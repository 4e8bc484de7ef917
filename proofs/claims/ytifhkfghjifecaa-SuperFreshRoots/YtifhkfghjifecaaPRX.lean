import Derived.Test.YtifhkfghjifecaaPWX
import Derived.Test.YtifhkfghjifecaaPN
import Derived.Defers
import Derived.Recover
import Derived.Deep.RegionWith
import Derived.Deep.RegionLaw
import Derived.Deep.RegionHeld3
namespace Go.Proofs.Ytifhkfghjifecaa
open Go.RowKit

/-- a reader in memory -/
def Rd (w : World) (b : Nat) (a : Option Addr) (cap : Nat) (s : RS) : Prop :=
  w.heap[b]? = some (.cells #[.slice a s.l.length cap, .int .i64 (s.e : Int)] 76 (0, 0)) ∧ Bs w a s.l ∧ s.l.length ≤ cap ∧ cap ≤ maxLen ∧ s.l.length ≤ 140737488355328 ∧ (a = none → cap = 0) ∧ (∀ x, a = some x → x.spot = none ∧ x.block ≠ b)
section
variable {w w' : World} {b : Nat} {a : Option Addr} {cap : Nat} {s : RS}
theorem Rd.lt (h : Rd w b a cap s) : b < w.heap.size := (Array.getElem?_eq_some_iff.1 h.1).1
theorem Rd.c0 (h : Rd w b a cap s) : w.cell? ⟨b, 0, none⟩ = some (.slice a s.l.length cap) := by rw [cell_of_row _ _ _ _ _ _ h.1]; rfl
theorem Rd.c1 (h : Rd w b a cap s) : w.cell? ⟨b, 1, none⟩ = some (.int .i64 (s.e : Int)) := by rw [cell_of_row _ _ _ _ _ _ h.1]; rfl
theorem Rd.f (h : Rd w b a cap s) (i : Nat) : w.frozen? ⟨b, i, none⟩ = false := frozen_of_row w b i _ _ h.1
theorem Rd.but {S : Nat → Prop} (h : Rd w b a cap s) (hb : But S w w') (hn : ∀ k, Ft b a k → ¬ S k) : Rd w' b a cap s :=
  ⟨(hb.block b h.lt (hn b (.inl rfl))).trans h.1, h.2.1.but hb fun x hx _ => hn _ (.inr ⟨x, hx, rfl⟩), h.2.2⟩
theorem Rd.keep (h : Rd w b a cap s) (hb : Below w.heap.size w w') : Rd w' b a cap s := h.but (S := fun _ => False) (But.ofBelow hb) fun _ _ hf => hf
theorem Rd.setE (h : Rd w b a cap s) (e : Nat) : Rd (w.setCell ⟨b, 1, none⟩ (.int .i64 (e : Int))) b a cap ⟨s.l, e⟩ :=
  ⟨heap_setCell_same w b 1 _ _ _ h.1, h.2.1.but (But.cell1 _ _ _ _) fun x hx _ e => (h.2.2.2.2.2.2 x hx).2 e, h.2.2⟩
theorem Rd.setL (h : Rd w b a cap s) {a' : Option Addr} {cap' : Nat} {l' : List Nat} {n : Nat} (hn : n = l'.length) (hB : Bs w a' l') (h1 : l'.length ≤ cap') (h2 : cap' ≤ maxLen) (h3 : l'.length ≤ 140737488355328) (h4 : a' = none → cap' = 0) (h5 : ∀ x, a' = some x → x.spot = none ∧ x.block ≠ b) :
    Rd (w.setCell ⟨b, 0, none⟩ (.slice a' n cap')) b a' cap' ⟨l', s.e⟩ := by
  subst hn
  exact ⟨heap_setCell_same w b 0 _ _ _ h.1, hB.but (But.cell1 _ _ _ _) fun x hx _ e => (h5 x hx).2 e, h1, h2, h3, h4, h5⟩
end
/-- the same memory, or none -/
def Stay (_ : World) (a a' : Option Addr) : Prop := ∀ x, a' = some x → ∃ y, a = some y ∧ y.block = x.block
theorem Stay.refl (w : World) (a : Option Addr) : Stay w a a := fun x hx => ⟨x, hx, rfl⟩
theorem Stay.none (w : World) (a : Option Addr) : Stay w a Option.none := fun x hx => by cases hx
theorem Stay.mono {w w1 : World} {a b : Option Addr} (h : Stay w1 a b) (_ : w.heap.size ≤ w1.heap.size) : Stay w a b := h
/-- what a call of a reader has done -/
def DidR (w w' : World) (b : Nat) (a : Option Addr) (s' : RS) : Prop := ∃ a' cap', Rd w' b a' cap' s' ∧ Stay w a a' ∧ But (fun k => k = b) w w'

/-- the panic of a call that gives up -/
def pan (e : Nat) : List PanicEntry := [{ v := .iface 29 (.int .i64 (e : Int)), recovered := false }]

theorem ahead_err (w : World) (b : Nat) (a : Option Addr) (cap : Nat) (s : RS) (n : Int) (h : Rd w b a cap s) (he : s.e ≠ 0) :
    Calls Try.prog 36 #[.pointer (some ⟨b, 0, none⟩), .int .i64 n] w fun x w' => x = .panicked (pan s.e) ∧ w' = w := by
  have c1 := h.c1
  have hz : (((s.e : Nat) : Int) == 0) = false := by simp; omega
  have hz2 : (((s.e : Nat) : Int) != 0) = true := by simp; omega
  clear h he
  go_enter Try.func36, Try.ntmps36
  go_wp2
  exact ⟨rfl, rfl, rfl⟩
theorem ahead_neg (w : World) (b : Nat) (a : Option Addr) (cap : Nat) (s : RS) (n : Int) (h : Rd w b a cap s) (he : s.e = 0) (hn : n < 0) :
    Calls Try.prog 36 #[.pointer (some ⟨b, 0, none⟩), .int .i64 n] w fun x w' => x = .panicked (pan 1) ∧ w' = w := by
  have c1 := h.c1
  rw [he] at c1
  clear h he
  go_enter Try.func36, Try.ntmps36
  go_wp2
  exact ⟨rfl, rfl, rfl⟩
theorem ahead_short (w : World) (b : Nat) (a : Option Addr) (cap : Nat) (s : RS) (n : Int) (h : Rd w b a cap s) (he : s.e = 0) (hn : (s.l.length : Int) < n) :
    Calls Try.prog 36 #[.pointer (some ⟨b, 0, none⟩), .int .i64 n] w fun x w' => x = .panicked (pan 2) ∧ w' = w := by
  have c0 := h.c0
  have c1 := h.c1
  rw [he] at c1
  have hn2 : ¬ n < 0 := by omega
  clear h he
  go_enter Try.func36, Try.ntmps36
  go_wp2
  exact ⟨rfl, rfl, rfl⟩
theorem ahead_ok (w : World) (b : Nat) (a : Option Addr) (cap : Nat) (s : RS) (n : Nat) (h : Rd w b a cap s) (he : s.e = 0) (hn : n ≤ s.l.length) :
    Calls Try.prog 36 #[.pointer (some ⟨b, 0, none⟩), .int .i64 (n : Int)] w fun x w' => x = .returned (.slice a n cap) ∧ w' = w := by
  have c0 := h.c0
  have c1 := h.c1
  rw [he] at c1
  have hn2 : ¬ (n : Int) < 0 := by omega
  have hn3 : ¬ (s.l.length : Int) < (n : Int) := by omega
  have hI1 : (n : Int) ≤ (cap : Int) := by have := h.2.2.1; omega
  have hI2 : (0 : Int) ≤ (n : Int) := by omega
  have hcm := h.2.2.2.1
  unfold maxLen at hcm
  have hI3 : (cap : Int) ≤ 9223372036854775807 := by omega
  have hcap := h.2.2.2.2.2.1
  clear h he hcm
  cases a with
  | none =>
    obtain rfl := hcap rfl
    obtain rfl : n = 0 := by omega
    clear hcap
    go_enter Try.func36, Try.ntmps36
    go_wp2
    go_ret
    exact ⟨rfl, rfl⟩
  | some x =>
    clear hcap
    go_enter Try.func36, Try.ntmps36
    go_wp2
    go_ret
    exact ⟨rfl, rfl⟩

theorem run_assert (v : Value) (w : World) : (Instr.typeAssert (.iface 29 v) 20 29 false).run Try.prog w = .ok v w := by
  simp [Instr.typeAssert, run_underlying Try.underlying29]
theorem stop_any (w : World) (b : Nat) (a : Option Addr) (cap : Nat) (s : RS) (er : Nat) (h : Rd w b a cap s) :
    Calls Try.prog 35 #[.pointer (some ⟨b, 0, none⟩), .iface 29 (.int .i64 (er : Int))] w fun x w' => x = .returned (.tuple #[]) ∧ w' = w.setCell ⟨b, 1, none⟩ (.int .i64 (er : Int)) := by
  have c1 := h.c1
  have f1 := h.f 1
  clear h
  have hta := run_assert (.int .i64 (er : Int))
  go_enter Try.func35, Try.ntmps35
  go_wp2
  go_end0
  exact ⟨rfl, rfl⟩

theorem ahead_pan (w : World) (b : Nat) (a : Option Addr) (cap : Nat) (s : RS) (n : Int) (h : Rd w b a cap s) (hf : s.fail n ≠ 0) :
    Calls Try.prog 36 #[.pointer (some ⟨b, 0, none⟩), .int .i64 n] w fun x w' => x = .panicked (pan (s.fail n)) ∧ w' = w := by
  unfold RS.fail at hf ⊢
  by_cases he : s.e = 0
  · rw [if_neg (by omega)] at hf ⊢
    by_cases hn : n < 0
    · rw [if_pos hn]; exact ahead_neg w b a cap s n h he hn
    · rw [if_neg hn] at hf ⊢
      by_cases hl : (s.l.length : Int) < n
      · rw [if_pos hl]; exact ahead_short w b a cap s n h he hl
      · rw [if_neg hl] at hf; exact absurd rfl hf
  · rw [if_pos he]; exact ahead_err w b a cap s n h he
theorem add_off (g off n : Nat) : (⟨g, off, none⟩ : Addr).add n = ⟨g, off + n, none⟩ := by unfold Addr.add; split <;> simp_all
theorem Bs.drop {w : World} {g off : Nat} {l : List Nat} (h : Bs w (some ⟨g, off, none⟩) l) (n : Nat) : Bs w (some ⟨g, off + n, none⟩) (l.drop n) := by
  obtain ⟨h1, h2, h3⟩ := h
  refine ⟨fun x hx => h1 x (List.mem_of_mem_drop hx), by rw [List.length_drop]; omega, ?_⟩
  rcases h3 with rfl | ⟨b, o, e, hc⟩
  · exact .inl (by simp)
  · simp only [Option.some.injEq, Addr.mk.injEq] at e
    obtain ⟨rfl, rfl, _⟩ := e
    refine .inr ⟨g, off + n, rfl, fun i hi => ?_⟩
    rw [List.length_drop] at hi
    rw [Nat.add_assoc, hc (n + i) (by omega)]
    congr 3
    simp [List.getD, List.getElem?_drop]
theorem Bs.take {w : World} {a : Option Addr} {l : List Nat} (h : Bs w a l) (n : Nat) : Bs w a (l.take n) := by
  obtain ⟨h1, h2, h3⟩ := h
  refine ⟨fun x hx => h1 x (List.mem_of_mem_take hx), by rw [List.length_take]; omega, ?_⟩
  rcases h3 with rfl | ⟨b, o, rfl, hc⟩
  · exact .inl (by simp)
  · refine .inr ⟨b, o, rfl, fun i hi => ?_⟩
    rw [List.length_take] at hi
    rw [hc i (by omega)]
    congr 3
    simp [List.getD, show i < n by omega]

set_option maxHeartbeats 800000 in
theorem pass_any (w : World) (b : Nat) (a : Option Addr) (cap : Nat) (s : RS) (n : Nat) (h : Rd w b a cap s) (hn : n ≤ s.l.length) :
    Calls Try.prog 37 #[.pointer (some ⟨b, 0, none⟩), .int .i64 (n : Int)] w fun x w' => x = .returned (.tuple #[]) ∧ DidR w w' b a ⟨s.l.drop n, s.e⟩ := by
  have c0 := h.c0
  have f0 := h.f 0
  have hcl := h.2.2.1
  have hcm := h.2.2.2.1
  unfold maxLen at hcm
  have hI1 : (n : Int) ≤ (s.l.length : Int) := by omega
  have hI4 : (s.l.length : Int) ≤ (cap : Int) := by omega
  have hI2 : (0 : Int) ≤ (n : Int) := by omega
  have hI3 : (cap : Int) ≤ 9223372036854775807 := by omega
  have H := hide h
  have hcap := h.2.2.2.2.2.1
  clear h hcm
  cases a with
  | none =>
    obtain rfl := hcap rfl
    have hl0 : s.l = [] := List.length_eq_zero_iff.1 (by omega)
    obtain rfl : n = 0 := by omega
    rw [List.drop_zero]
    clear hcap hcl
    go_enter Try.func37, Try.ntmps37
    go_wp2
    go_end0
    exact ⟨rfl, none, 0, H.out.setL (by rw [hl0]; rfl) H.out.2.1 H.out.2.2.1 H.out.2.2.2.1 H.out.2.2.2.2.1 (fun _ => rfl) (fun x hx => by cases hx), Stay.none w _, But.cell1 _ _ _ _⟩
  | some x =>
    obtain ⟨g, off, spot⟩ := x
    obtain rfl : spot = none := (H.out.2.2.2.2.2.2 _ rfl).1
    clear hcap
    go_enter Try.func37, Try.ntmps37
    go_wp2
    · go_end0
      have hl0 : s.l.drop n = [] := List.drop_eq_nil_iff.2 (by omega)
      refine ⟨rfl, some ⟨g, off, none⟩, 0, H.out.setL (by rw [hl0]; show s.l.length - n = 0; omega) (by rw [hl0]; exact Bs.empty _ _) (by rw [hl0]; exact Nat.le_refl _) (Nat.zero_le _) (by rw [hl0]; exact Nat.zero_le _) (fun h => by cases h) H.out.2.2.2.2.2.2, Stay.refl w _, But.cell1 _ _ _ _⟩
    · go_end0
      refine ⟨rfl, some ⟨g, off + n, none⟩, cap - n, H.out.setL (by rw [List.length_drop]) (H.out.2.1.drop n) (by rw [List.length_drop]; omega) (by have := H.out.2.2.2.1; omega) (by rw [List.length_drop]; have := H.out.2.2.2.2.1; omega) (fun h => by cases h) (fun x hx => ?_), fun x hx => ⟨_, rfl, ?_⟩, But.cell1 _ _ _ _⟩
      · simp only [Option.some.injEq] at hx
        subst hx
        exact ⟨rfl, (H.out.2.2.2.2.2.2 _ rfl).2⟩
      · simp only [Option.some.injEq] at hx
        subst hx
        rfl

theorem catch_pan_pGet8C (w : World) (p : Addr) (b : Nat) (a : Option Addr) (cap : Nat) (s : RS) (er : Nat) (h : Rd w b a cap s) (hp : w.cell? p = some (.pointer (some ⟨b, 0, none⟩))) :
    CallsD Try.prog 55 #[.pointer (some p)] (.panicking (pan er)) w fun e u' w' =>
      e = .returned (.tuple #[]) ∧ u' = .panicking [{ v := .iface 29 (.int .i64 (er : Int)), recovered := true }] ∧ w' = w.setCell ⟨b, 1, none⟩ (.int .i64 (er : Int)) := by
  refine callsD_of_wpS Try.func55 rfl fun c₀ cs hu => ?_
  apply wpS_seq
  apply wpS_region
  simp [wpOpsS, go_sem, recoverD, hu, pan, Try.ntmps55, Exit.thenS]
  have R := hide (stop_any w b a cap s er h)
  clear h hu
  refine wpS_of_wp ?_
  generalize hB : bodyPostS Try.prog Try.f55 c₀ cs _ = B
  have ht : (#[Value.pointer (some p)] ++ ((Array.replicate 7 undef).setIfInBounds 1 (Value.iface 29 (Value.int IntKind.i64 ↑er))).setIfInBounds 0 (Value.iface 29 (Value.int IntKind.i64 ↑er))) = #[.pointer (some p), .iface 29 (.int .i64 (er : Int)), .iface 29 (.int .i64 (er : Int)), undef, undef, undef, undef, undef] := by rfl
  rw [ht]
  go_wp2_with fail
  refine R.out.mono ?_
  rintro e w1 ⟨rfl, rfl⟩
  go_wp2
  rw [← hB]
  exact ⟨rfl, _, rfl, _, results_none rfl _ _ _, rfl, rfl, rfl⟩
theorem catch_idle_pGet8C (w : World) (p : Addr) :
    CallsD Try.prog 55 #[.pointer (some p)] .returning w fun e u' w' => e = .returned (.tuple #[]) ∧ u' = .returning ∧ w' = w := by
  refine callsD_of_wpS Try.func55 rfl fun c₀ cs hu => ?_
  apply wpS_seq
  apply wpS_region
  simp [wpOpsS, go_sem, recoverD, hu, Try.ntmps55, Exit.thenS]
  refine wpS_of_wp ?_
  generalize hB : bodyPostS Try.prog Try.f55 c₀ cs _ = B
  have ht : (#[Value.pointer (some p)] ++ ((Array.replicate 7 undef).setIfInBounds 1 Value.nilIface).setIfInBounds 0 Value.nilIface) = #[.pointer (some p), .nilIface, .nilIface, undef, undef, undef, undef, undef] := by rfl
  rw [ht]
  go_wp2
  rw [← hB]
  cases c₀
  simp only at hu
  subst hu
  exact ⟨rfl, _, rfl, _, results_none rfl _ _ _, rfl, rfl, rfl⟩

theorem catch_pan_pGet32C (w : World) (p : Addr) (b : Nat) (a : Option Addr) (cap : Nat) (s : RS) (er : Nat) (h : Rd w b a cap s) (hp : w.cell? p = some (.pointer (some ⟨b, 0, none⟩))) :
    CallsD Try.prog 49 #[.pointer (some p)] (.panicking (pan er)) w fun e u' w' =>
      e = .returned (.tuple #[]) ∧ u' = .panicking [{ v := .iface 29 (.int .i64 (er : Int)), recovered := true }] ∧ w' = w.setCell ⟨b, 1, none⟩ (.int .i64 (er : Int)) := by
  refine callsD_of_wpS Try.func49 rfl fun c₀ cs hu => ?_
  apply wpS_seq
  apply wpS_region
  simp [wpOpsS, go_sem, recoverD, hu, pan, Try.ntmps49, Exit.thenS]
  have R := hide (stop_any w b a cap s er h)
  clear h hu
  refine wpS_of_wp ?_
  generalize hB : bodyPostS Try.prog Try.f49 c₀ cs _ = B
  have ht : (#[Value.pointer (some p)] ++ ((Array.replicate 7 undef).setIfInBounds 1 (Value.iface 29 (Value.int IntKind.i64 ↑er))).setIfInBounds 0 (Value.iface 29 (Value.int IntKind.i64 ↑er))) = #[.pointer (some p), .iface 29 (.int .i64 (er : Int)), .iface 29 (.int .i64 (er : Int)), undef, undef, undef, undef, undef] := by rfl
  rw [ht]
  go_wp2_with fail
  refine R.out.mono ?_
  rintro e w1 ⟨rfl, rfl⟩
  go_wp2
  rw [← hB]
  exact ⟨rfl, _, rfl, _, results_none rfl _ _ _, rfl, rfl, rfl⟩
theorem catch_idle_pGet32C (w : World) (p : Addr) :
    CallsD Try.prog 49 #[.pointer (some p)] .returning w fun e u' w' => e = .returned (.tuple #[]) ∧ u' = .returning ∧ w' = w := by
  refine callsD_of_wpS Try.func49 rfl fun c₀ cs hu => ?_
  apply wpS_seq
  apply wpS_region
  simp [wpOpsS, go_sem, recoverD, hu, Try.ntmps49, Exit.thenS]
  refine wpS_of_wp ?_
  generalize hB : bodyPostS Try.prog Try.f49 c₀ cs _ = B
  have ht : (#[Value.pointer (some p)] ++ ((Array.replicate 7 undef).setIfInBounds 1 Value.nilIface).setIfInBounds 0 Value.nilIface) = #[.pointer (some p), .nilIface, .nilIface, undef, undef, undef, undef, undef] := by rfl
  rw [ht]
  go_wp2
  rw [← hB]
  cases c₀
  simp only at hu
  subst hu
  exact ⟨rfl, _, rfl, _, results_none rfl _ _ _, rfl, rfl, rfl⟩

theorem catch_pan_pGet64C (w : World) (p : Addr) (b : Nat) (a : Option Addr) (cap : Nat) (s : RS) (er : Nat) (h : Rd w b a cap s) (hp : w.cell? p = some (.pointer (some ⟨b, 0, none⟩))) :
    CallsD Try.prog 53 #[.pointer (some p)] (.panicking (pan er)) w fun e u' w' =>
      e = .returned (.tuple #[]) ∧ u' = .panicking [{ v := .iface 29 (.int .i64 (er : Int)), recovered := true }] ∧ w' = w.setCell ⟨b, 1, none⟩ (.int .i64 (er : Int)) := by
  refine callsD_of_wpS Try.func53 rfl fun c₀ cs hu => ?_
  apply wpS_seq
  apply wpS_region
  simp [wpOpsS, go_sem, recoverD, hu, pan, Try.ntmps53, Exit.thenS]
  have R := hide (stop_any w b a cap s er h)
  clear h hu
  refine wpS_of_wp ?_
  generalize hB : bodyPostS Try.prog Try.f53 c₀ cs _ = B
  have ht : (#[Value.pointer (some p)] ++ ((Array.replicate 7 undef).setIfInBounds 1 (Value.iface 29 (Value.int IntKind.i64 ↑er))).setIfInBounds 0 (Value.iface 29 (Value.int IntKind.i64 ↑er))) = #[.pointer (some p), .iface 29 (.int .i64 (er : Int)), .iface 29 (.int .i64 (er : Int)), undef, undef, undef, undef, undef] := by rfl
  rw [ht]
  go_wp2_with fail
  refine R.out.mono ?_
  rintro e w1 ⟨rfl, rfl⟩
  go_wp2
  rw [← hB]
  exact ⟨rfl, _, rfl, _, results_none rfl _ _ _, rfl, rfl, rfl⟩
theorem catch_idle_pGet64C (w : World) (p : Addr) :
    CallsD Try.prog 53 #[.pointer (some p)] .returning w fun e u' w' => e = .returned (.tuple #[]) ∧ u' = .returning ∧ w' = w := by
  refine callsD_of_wpS Try.func53 rfl fun c₀ cs hu => ?_
  apply wpS_seq
  apply wpS_region
  simp [wpOpsS, go_sem, recoverD, hu, Try.ntmps53, Exit.thenS]
  refine wpS_of_wp ?_
  generalize hB : bodyPostS Try.prog Try.f53 c₀ cs _ = B
  have ht : (#[Value.pointer (some p)] ++ ((Array.replicate 7 undef).setIfInBounds 1 Value.nilIface).setIfInBounds 0 Value.nilIface) = #[.pointer (some p), .nilIface, .nilIface, undef, undef, undef, undef, undef] := by rfl
  rw [ht]
  go_wp2
  rw [← hB]
  cases c₀
  simp only at hu
  subst hu
  exact ⟨rfl, _, rfl, _, results_none rfl _ _ _, rfl, rfl, rfl⟩

theorem catch_pan_pRZerosC (w : World) (p : Addr) (b : Nat) (a : Option Addr) (cap : Nat) (s : RS) (er : Nat) (h : Rd w b a cap s) (hp : w.cell? p = some (.pointer (some ⟨b, 0, none⟩))) :
    CallsD Try.prog 34 #[.pointer (some p)] (.panicking (pan er)) w fun e u' w' =>
      e = .returned (.tuple #[]) ∧ u' = .panicking [{ v := .iface 29 (.int .i64 (er : Int)), recovered := true }] ∧ w' = w.setCell ⟨b, 1, none⟩ (.int .i64 (er : Int)) := by
  refine callsD_of_wpS Try.func34 rfl fun c₀ cs hu => ?_
  apply wpS_seq
  apply wpS_region
  simp [wpOpsS, go_sem, recoverD, hu, pan, Try.ntmps34, Exit.thenS]
  have R := hide (stop_any w b a cap s er h)
  clear h hu
  refine wpS_of_wp ?_
  generalize hB : bodyPostS Try.prog Try.f34 c₀ cs _ = B
  have ht : (#[Value.pointer (some p)] ++ ((Array.replicate 7 undef).setIfInBounds 1 (Value.iface 29 (Value.int IntKind.i64 ↑er))).setIfInBounds 0 (Value.iface 29 (Value.int IntKind.i64 ↑er))) = #[.pointer (some p), .iface 29 (.int .i64 (er : Int)), .iface 29 (.int .i64 (er : Int)), undef, undef, undef, undef, undef] := by rfl
  rw [ht]
  go_wp2_with fail
  refine R.out.mono ?_
  rintro e w1 ⟨rfl, rfl⟩
  go_wp2
  rw [← hB]
  exact ⟨rfl, _, rfl, _, results_none rfl _ _ _, rfl, rfl, rfl⟩
theorem catch_idle_pRZerosC (w : World) (p : Addr) :
    CallsD Try.prog 34 #[.pointer (some p)] .returning w fun e u' w' => e = .returned (.tuple #[]) ∧ u' = .returning ∧ w' = w := by
  refine callsD_of_wpS Try.func34 rfl fun c₀ cs hu => ?_
  apply wpS_seq
  apply wpS_region
  simp [wpOpsS, go_sem, recoverD, hu, Try.ntmps34, Exit.thenS]
  refine wpS_of_wp ?_
  generalize hB : bodyPostS Try.prog Try.f34 c₀ cs _ = B
  have ht : (#[Value.pointer (some p)] ++ ((Array.replicate 7 undef).setIfInBounds 1 Value.nilIface).setIfInBounds 0 Value.nilIface) = #[.pointer (some p), .nilIface, .nilIface, undef, undef, undef, undef, undef] := by rfl
  rw [ht]
  go_wp2
  rw [← hB]
  cases c₀
  simp only at hu
  subst hu
  exact ⟨rfl, _, rfl, _, results_none rfl _ _ _, rfl, rfl, rfl⟩
end Go.Proofs.Ytifhkfghjifecaa

namespace Go.Proofs.Ytifhkfghjifecaa
open Go.RowKit

theorem mkf : ∀ (fn : Fn) (first cap : Array Value) (w : World), (Instr.makeFunc fn first cap).run Try.prog w = .ok (.func fn first cap) w := fun _ _ _ _ => rfl
theorem DidR.pre {w w1 w2 : World} {b : Nat} {a : Option Addr} {s : RS} (hb : Below w.heap.size w w1) (h : DidR w1 w2 b a s) : DidR w w2 b a s := by
  obtain ⟨a', cap', h1, h2, h3⟩ := h
  exact ⟨a', cap', h1, h2.mono hb.size, (But.ofBelow hb).trans h3 fun _ _ h => h⟩
theorem DidR.post {w w1 w2 : World} {b : Nat} {a : Option Addr} {s : RS} (h : DidR w w1 b a s) (hb : Below w1.heap.size w1 w2) : DidR w w2 b a s := by
  obtain ⟨a', cap', h1, h2, h3⟩ := h
  exact ⟨a', cap', h1.keep hb, h2, h3.andBelow hb⟩
/-- what a call that gave up has done -/
theorem gave_up {w w1 : World} {b : Nat} {a : Option Addr} {cap : Nat} {s : RS} (h : Rd w1 b a cap s) (hb : Below w.heap.size w w1) (er : Nat) : DidR w (w1.setCell ⟨b, 1, none⟩ (.int .i64 (er : Int))) b a ⟨s.l, er⟩ :=
  ⟨a, cap, h.setE er, Stay.refl w _, (But.ofBelow hb).trans (But.cell1 _ _ _ _) fun _ _ h => h⟩

theorem Rw.didR {w w1 w2 : World} {b : Nat} {a a' : Option Addr} {cap' : Nat} {l : List Nat} {s : RS} (hR : Rw w1 a' cap' l) (hN : New w none a') (hlt : b < w.heap.size) (h : DidR w1 w2 b a s) : Rw w2 a' cap' l := by
  obtain ⟨_, _, _, _, h3⟩ := h
  refine hR.but h3 fun x hx e => ?_
  rcases hN x hx with ⟨y, hy, _⟩ | h
  · cases hy
  · omega

end Go.Proofs.Ytifhkfghjifecaa

namespace Go.Proofs.Ytifhkfghjifecaa
open Go.RowKit

theorem End_any (w : World) (b : Nat) (a : Option Addr) (cap : Nat) (s : RS) (h : Rd w b a cap s) :
    Calls Try.prog 16 #[.pointer (some ⟨b, 0, none⟩)] w fun x w' => x = .returned (.int .i64 (s.fin : Int)) ∧ w' = w := by
  have c0 := h.c0
  have c1 := h.c1
  unfold RS.fin
  clear h
  by_cases he : s.e = 0
  · rw [he] at c1
    rw [if_neg (by omega)]
    clear he
    by_cases hl : s.l.length = 0
    · rw [if_pos hl]
      rw [hl] at c0
      clear hl
      go_enter Try.func16, Try.ntmps16
      go_wp2
      go_ret
      exact ⟨rfl, rfl⟩
    · rw [if_neg hl]
      have hp : (0 : Int) < (s.l.length : Int) := by omega
      clear hl
      go_enter Try.func16, Try.ntmps16
      go_wp2
      go_ret
      exact ⟨rfl, rfl⟩
  · rw [if_pos he]
    have hz : (((s.e : Nat) : Int) == 0) = false := by simp; omega
    clear he
    go_enter Try.func16, Try.ntmps16
    go_wp2
    go_ret
    exact ⟨rfl, rfl⟩

set_option maxHeartbeats 800000 in
theorem NewReader_any (w : World) (aa : Option Addr) (n capa : Nat) (p : List Nat) (hB : Bs w aa p) (hn : n = p.length) (hlen : p.length ≤ 140737488355328) :
    Calls Try.prog 29 #[.slice aa n capa] w fun x w' => ∃ b a cap, x = .returned (.pointer (some ⟨b, 0, none⟩)) ∧ Rd w' b a cap ⟨p, 0⟩ ∧ w.heap.size ≤ b ∧ New w none a ∧ Below w.heap.size w w' := by
  subst hn
  have C := hide (Clone_any w aa p.length capa p hB rfl hlen)
  have HB := hide hB
  clear hB
  go_enter Try.func29, Try.ntmps29
  go_wp2_with fail
  refine C.out.mono ?_
  rintro e w1 ⟨a', cap', rfl, hR, hN, hb⟩
  have HR := hide hR
  clear hR
  go_wp2
  go_ret
  have hR2 := HR.out.keep ((Below.refl _ w1).alloc (Nat.le_refl _) (.cells #[.slice a' p.length cap', .int .i64 0] 76))
  refine ⟨w1.heap.size, a', cap', rfl, ⟨heap_alloc_new _ _, hR2.bs HB.out.1 HB.out.2.1, ?_, ?_, hlen, ?_, ?_⟩, hb.size, hN, hb.alloc hb.size _⟩
  · rcases HR.out.cases with ⟨rfl, rfl, rfl⟩ | ⟨g, cur, rfl, hg, h1, h2, h3, h4⟩
    · exact Nat.le_refl _
    · exact h1
  · rcases HR.out.cases with ⟨rfl, rfl, rfl⟩ | ⟨g, cur, rfl, hg, h1, h2, h3, h4⟩
    · exact Nat.zero_le _
    · exact h2
  · intro h
    rcases HR.out.cases with ⟨_, rfl, _⟩ | ⟨g, cur, rfl, hg, h1, h2, h3, h4⟩
    · rfl
    · cases h
  · intro x hx
    have hlt := HR.out.lt hx
    rcases HR.out.cases with ⟨rfl, _, _⟩ | ⟨g, cur, rfl, hg, h1, h2, h3, h4⟩
    · cases hx
    · simp only [Option.some.injEq] at hx
      subst hx
      exact ⟨rfl, by show g ≠ _; have : g < w1.heap.size := hlt; omega⟩
end Go.Proofs.Ytifhkfghjifecaa

namespace Go.Proofs.Ytifhkfghjifecaa
open Go.RowKit

theorem Bs.at' {w : World} {aa : Option Addr} {p : List Nat} (hB : Bs w aa p) {j : Nat} (hj : j < p.length) : ∃ b off, aa = some ⟨b, off, none⟩ ∧ w.cell? ⟨b, off + j, none⟩ = some (.int .u8 ((p.getD j 0 : Nat) : Int)) := by
  rcases hB.2.2 with rfl | ⟨b, off, rfl, hc⟩
  · simp at hj
  · exact ⟨b, off, rfl, hc j hj⟩
theorem box_kept {w W w3 : World} {b : Nat} {a : Option Addr} {s : RS} (hlt : b < w.heap.size) (hp : W.cell? ⟨w.heap.size, 0, none⟩ = some (.pointer (some ⟨b, 0, none⟩))) (h : DidR W.drew w3 b a s) : w3.cell? ⟨w.heap.size, 0, none⟩ = some (.pointer (some ⟨b, 0, none⟩)) := by
  obtain ⟨_, _, _, _, h3⟩ := h
  exact (h3.cell (p := ⟨w.heap.size, 0, none⟩) (block_lt_of_cell hp) (by show ¬ w.heap.size = b; omega)).trans hp
theorem meas_up' (n j : Nat) (x : Int) (hx : x = (j : Int) + 1) (h : j < n) : n - (intOf (.int .i64 x)).toNat < n - (intOf (.int .i64 (j : Int))).toNat := by
  subst hx
  simp only [intOf]
  omega
theorem or_step (v y j : Nat) (hv : v < 256 ^ j) (hy : y < 256) (hj : j < 8) : bits BinOp.or IntKind.u64 (v : Int) (IntKind.u64.wrap (IntKind.u64.wrap (y : Int) * 2 ^ (8 * j))) = ((v + y * 256 ^ j : Nat) : Int) := by
  have e : (256 : Nat) ^ j = 2 ^ (8 * j) := by rw [show (256 : Nat) = 2 ^ 8 from rfl, ← Nat.pow_mul]
  rw [e] at hv ⊢
  have hb : y * 2 ^ (8 * j) < 18446744073709551616 := by
    have h1 : (2 : Nat) ^ (8 * j) ≤ 2 ^ 56 := Nat.pow_le_pow_right (by decide) (by omega)
    have h2 : y * 2 ^ (8 * j) ≤ 255 * 2 ^ 56 := Nat.mul_le_mul (by omega) h1
    omega
  have hvb : v < 18446744073709551616 := by
    have h1 : (2 : Nat) ^ (8 * j) ≤ 2 ^ 56 := Nat.pow_le_pow_right (by decide) (by omega)
    omega
  have e1 : IntKind.u64.wrap (y : Int) = (y : Int) := by rw [IntKind.wrap_u64]; omega
  have e2 : ((y : Int) * 2 ^ (8 * j)) = ((y * 2 ^ (8 * j) : Nat) : Int) := by simp
  have e3 : IntKind.u64.wrap ((y * 2 ^ (8 * j) : Nat) : Int) = ((y * 2 ^ (8 * j) : Nat) : Int) := by rw [IntKind.wrap_u64]; omega
  rw [e1, e2, e3, u64_or_nat v (y * 2 ^ (8 * j)) hvb hb]
  congr 1
  rw [Nat.or_comm, Nat.mul_comm y, Nat.add_comm]
  exact (Nat.two_pow_add_eq_or_of_lt hv y).symm

set_option maxHeartbeats 1600000 in
theorem Get8_pan (w : World) (b : Nat) (a : Option Addr) (cap : Nat) (s : RS) (h : Rd w b a cap s) (hf : s.fail 1 ≠ 0) :
    Calls Try.prog 32 #[.pointer (some ⟨b, 0, none⟩)] w fun x w' => x = .returned (.int .u8 0) ∧ DidR w w' b a ⟨s.l, s.fail 1⟩ := by
  have hmf := mkf
  have hb0 : Below w.heap.size w (w.alloc (.cells #[.pointer (some ⟨b, 0, none⟩)] 37)).drew := ((Below.refl _ _).alloc (Nat.le_refl _) _).drew
  have H := hide (h.keep hb0)
  have A := hide (ahead_pan _ b a cap s 1 H.out hf)
  have HB0 := hide hb0
  clear h hf hb0
  generalize s.fail 1 = er at *
  have FIN : Hid (∀ tmps : Array Value, tmps.getD 2 undef = .int .u8 0 → bodyPostD Try.prog Try.f32 (fun x w' => x = .returned (.int .u8 0) ∧ DidR w w' b a ⟨s.l, er⟩) (Exit.panic (pan er))
      { tmps := tmps, defers := [{ target := Target.fn (Fn.func 55) #[.pointer (some ⟨w.heap.size, 0, none⟩)], args := #[] }] } (w.alloc (.cells #[.pointer (some ⟨b, 0, none⟩)] 37)).drew) := by
    intro tmps ht
    refine leaves_cons (f := 55) (args := #[.pointer (some ⟨w.heap.size, 0, none⟩)]) (by simp) (by simp [go_sem]) ?_
    refine (catch_pan_pGet8C _ ⟨w.heap.size, 0, none⟩ b a cap s er H.out ?_).mono ?_
    · simp [go_sem]
    rintro e u' w'' ⟨rfl, rfl, rfl⟩
    have G := gave_up H.out HB0.out er
    simp only [settle]
    refine ⟨_, results_tmp rfl _ _ _, ?_, G⟩
    rw [ht]
  go_enter_defers Try.func32, Try.ntmps32
  go_wp2
  refine wp_region_any (by kernel_rfl) ?_
  change wpAny _ _ _ _ _ _ _ (World.drew _)
  refine wpAny_ready (rs := [0, 1, 4]) (by kernel_rfl) (by simp) ?_
  refine AllReady.cons rfl (fun K hK => ?_) ?_
  · go_simp
    refine hK _ _ ?_
    clear hK K
    refine wpAny_ready (rs := [1, 4]) (by kernel_rfl) (by simp) ?_
    refine AllReady.cons rfl (fun K hK => ?_) ?_
    · go_simp
      go_wp2_with (go_at_call 56; refine (width8_any _).mono ?_; rintro e w0 ⟨rfl, hw0⟩; subst w0)
      try refine hK _ _ ?_
      try clear hK K
      refine wpAny_ready (rs := [2, 4]) (by kernel_rfl) (by simp) ?_
      refine AllReady.cons rfl (fun K hK => ?_) ?_
      · go_simp
        go_wp2_with (go_at_call 36; refine A.out.mono ?_; rintro e w1 ⟨rfl, hw1⟩; subst w1)
        exact FIN.out _ (by rfl)
      refine AllReady.cons rfl (fun K hK => ?_) ?_
      · go_simp
        refine hK _ _ ?_
        clear hK K
        refine wpAny_ready (rs := [2]) (by kernel_rfl) (by simp) ?_
        refine AllReady.cons rfl (fun K hK => ?_) ?_
        · go_simp
          go_wp2_with (go_at_call 36; refine A.out.mono ?_; rintro e w1 ⟨rfl, hw1⟩; subst w1)
          exact FIN.out _ (by rfl)
        exact AllReady.nil
      exact AllReady.nil
    refine AllReady.cons rfl (fun K hK => ?_) ?_
    · go_simp
      refine hK _ _ ?_
      clear hK K
      refine wpAny_ready (rs := [1]) (by kernel_rfl) (by simp) ?_
      refine AllReady.cons rfl (fun K hK => ?_) ?_
      · go_simp
        go_wp2_with (go_at_call 56; refine (width8_any _).mono ?_; rintro e w0 ⟨rfl, hw0⟩; subst w0)
        try refine hK _ _ ?_
        try clear hK K
        refine wpAny_ready (rs := [2]) (by kernel_rfl) (by simp) ?_
        refine AllReady.cons rfl (fun K hK => ?_) ?_
        · go_simp
          go_wp2_with (go_at_call 36; refine A.out.mono ?_; rintro e w1 ⟨rfl, hw1⟩; subst w1)
          exact FIN.out _ (by rfl)
        exact AllReady.nil
      exact AllReady.nil
    exact AllReady.nil
  refine AllReady.cons rfl (fun K hK => ?_) ?_
  · go_simp
    go_wp2_with (go_at_call 56; refine (width8_any _).mono ?_; rintro e w0 ⟨rfl, hw0⟩; subst w0)
    try refine hK _ _ ?_
    try clear hK K
    refine wpAny_ready (rs := [0, 4]) (by kernel_rfl) (by simp) ?_
    refine AllReady.cons rfl (fun K hK => ?_) ?_
    · go_simp
      refine hK _ _ ?_
      clear hK K
      refine wpAny_ready (rs := [2, 4]) (by kernel_rfl) (by simp) ?_
      refine AllReady.cons rfl (fun K hK => ?_) ?_
      · go_simp
        go_wp2_with (go_at_call 36; refine A.out.mono ?_; rintro e w1 ⟨rfl, hw1⟩; subst w1)
        exact FIN.out _ (by rfl)
      refine AllReady.cons rfl (fun K hK => ?_) ?_
      · go_simp
        refine hK _ _ ?_
        clear hK K
        refine wpAny_ready (rs := [2]) (by kernel_rfl) (by simp) ?_
        refine AllReady.cons rfl (fun K hK => ?_) ?_
        · go_simp
          go_wp2_with (go_at_call 36; refine A.out.mono ?_; rintro e w1 ⟨rfl, hw1⟩; subst w1)
          exact FIN.out _ (by rfl)
        exact AllReady.nil
      exact AllReady.nil
    refine AllReady.cons rfl (fun K hK => ?_) ?_
    · go_simp
      refine hK _ _ ?_
      clear hK K
      refine wpAny_ready (rs := [0]) (by kernel_rfl) (by simp) ?_
      refine AllReady.cons rfl (fun K hK => ?_) ?_
      · go_simp
        refine hK _ _ ?_
        clear hK K
        refine wpAny_ready (rs := [2]) (by kernel_rfl) (by simp) ?_
        refine AllReady.cons rfl (fun K hK => ?_) ?_
        · go_simp
          go_wp2_with (go_at_call 36; refine A.out.mono ?_; rintro e w1 ⟨rfl, hw1⟩; subst w1)
          exact FIN.out _ (by rfl)
        exact AllReady.nil
      exact AllReady.nil
    exact AllReady.nil
  refine AllReady.cons rfl (fun K hK => ?_) ?_
  · go_simp
    refine hK _ _ ?_
    clear hK K
    refine wpAny_ready (rs := [0, 1]) (by kernel_rfl) (by simp) ?_
    refine AllReady.cons rfl (fun K hK => ?_) ?_
    · go_simp
      refine hK _ _ ?_
      clear hK K
      refine wpAny_ready (rs := [1]) (by kernel_rfl) (by simp) ?_
      refine AllReady.cons rfl (fun K hK => ?_) ?_
      · go_simp
        go_wp2_with (go_at_call 56; refine (width8_any _).mono ?_; rintro e w0 ⟨rfl, hw0⟩; subst w0)
        try refine hK _ _ ?_
        try clear hK K
        refine wpAny_ready (rs := [2]) (by kernel_rfl) (by simp) ?_
        refine AllReady.cons rfl (fun K hK => ?_) ?_
        · go_simp
          go_wp2_with (go_at_call 36; refine A.out.mono ?_; rintro e w1 ⟨rfl, hw1⟩; subst w1)
          exact FIN.out _ (by rfl)
        exact AllReady.nil
      exact AllReady.nil
    refine AllReady.cons rfl (fun K hK => ?_) ?_
    · go_simp
      go_wp2_with (go_at_call 56; refine (width8_any _).mono ?_; rintro e w0 ⟨rfl, hw0⟩; subst w0)
      try refine hK _ _ ?_
      try clear hK K
      refine wpAny_ready (rs := [0]) (by kernel_rfl) (by simp) ?_
      refine AllReady.cons rfl (fun K hK => ?_) ?_
      · go_simp
        refine hK _ _ ?_
        clear hK K
        refine wpAny_ready (rs := [2]) (by kernel_rfl) (by simp) ?_
        refine AllReady.cons rfl (fun K hK => ?_) ?_
        · go_simp
          go_wp2_with (go_at_call 36; refine A.out.mono ?_; rintro e w1 ⟨rfl, hw1⟩; subst w1)
          exact FIN.out _ (by rfl)
        exact AllReady.nil
      exact AllReady.nil
    exact AllReady.nil
  exact AllReady.nil

set_option maxHeartbeats 1600000 in
theorem Get32_pan (w : World) (b : Nat) (a : Option Addr) (cap : Nat) (s : RS) (h : Rd w b a cap s) (hf : s.fail 4 ≠ 0) :
    Calls Try.prog 28 #[.pointer (some ⟨b, 0, none⟩)] w fun x w' => x = .returned (.int .u32 0) ∧ DidR w w' b a ⟨s.l, s.fail 4⟩ := by
  have hmf := mkf
  have hb0 : Below w.heap.size w (w.alloc (.cells #[.pointer (some ⟨b, 0, none⟩)] 37)).drew := ((Below.refl _ _).alloc (Nat.le_refl _) _).drew
  have H := hide (h.keep hb0)
  have A := hide (ahead_pan _ b a cap s 4 H.out hf)
  have HB0 := hide hb0
  clear h hf hb0
  generalize s.fail 4 = er at *
  have FIN : Hid (∀ tmps : Array Value, tmps.getD 2 undef = .int .u32 0 → bodyPostD Try.prog Try.f28 (fun x w' => x = .returned (.int .u32 0) ∧ DidR w w' b a ⟨s.l, er⟩) (Exit.panic (pan er))
      { tmps := tmps, defers := [{ target := Target.fn (Fn.func 49) #[.pointer (some ⟨w.heap.size, 0, none⟩)], args := #[] }] } (w.alloc (.cells #[.pointer (some ⟨b, 0, none⟩)] 37)).drew) := by
    intro tmps ht
    refine leaves_cons (f := 49) (args := #[.pointer (some ⟨w.heap.size, 0, none⟩)]) (by simp) (by simp [go_sem]) ?_
    refine (catch_pan_pGet32C _ ⟨w.heap.size, 0, none⟩ b a cap s er H.out ?_).mono ?_
    · simp [go_sem]
    rintro e u' w'' ⟨rfl, rfl, rfl⟩
    have G := gave_up H.out HB0.out er
    simp only [settle]
    refine ⟨_, results_tmp rfl _ _ _, ?_, G⟩
    rw [ht]
  go_enter_defers Try.func28, Try.ntmps28
  go_wp2
  refine wp_region_any (by kernel_rfl) ?_
  change wpAny _ _ _ _ _ _ _ (World.drew _)
  refine wpAny_ready (rs := [0, 1, 4]) (by kernel_rfl) (by simp) ?_
  refine AllReady.cons rfl (fun K hK => ?_) ?_
  · go_simp
    refine hK _ _ ?_
    clear hK K
    refine wpAny_ready (rs := [1, 4]) (by kernel_rfl) (by simp) ?_
    refine AllReady.cons rfl (fun K hK => ?_) ?_
    · go_simp
      go_wp2_with (go_at_call 50; refine (width32_any _).mono ?_; rintro e w0 ⟨rfl, hw0⟩; subst w0)
      try refine hK _ _ ?_
      try clear hK K
      refine wpAny_ready (rs := [2, 4]) (by kernel_rfl) (by simp) ?_
      refine AllReady.cons rfl (fun K hK => ?_) ?_
      · go_simp
        go_wp2_with (go_at_call 36; refine A.out.mono ?_; rintro e w1 ⟨rfl, hw1⟩; subst w1)
        exact FIN.out _ (by rfl)
      refine AllReady.cons rfl (fun K hK => ?_) ?_
      · go_simp
        refine hK _ _ ?_
        clear hK K
        refine wpAny_ready (rs := [2]) (by kernel_rfl) (by simp) ?_
        refine AllReady.cons rfl (fun K hK => ?_) ?_
        · go_simp
          go_wp2_with (go_at_call 36; refine A.out.mono ?_; rintro e w1 ⟨rfl, hw1⟩; subst w1)
          exact FIN.out _ (by rfl)
        exact AllReady.nil
      exact AllReady.nil
    refine AllReady.cons rfl (fun K hK => ?_) ?_
    · go_simp
      refine hK _ _ ?_
      clear hK K
      refine wpAny_ready (rs := [1]) (by kernel_rfl) (by simp) ?_
      refine AllReady.cons rfl (fun K hK => ?_) ?_
      · go_simp
        go_wp2_with (go_at_call 50; refine (width32_any _).mono ?_; rintro e w0 ⟨rfl, hw0⟩; subst w0)
        try refine hK _ _ ?_
        try clear hK K
        refine wpAny_ready (rs := [2]) (by kernel_rfl) (by simp) ?_
        refine AllReady.cons rfl (fun K hK => ?_) ?_
        · go_simp
          go_wp2_with (go_at_call 36; refine A.out.mono ?_; rintro e w1 ⟨rfl, hw1⟩; subst w1)
          exact FIN.out _ (by rfl)
        exact AllReady.nil
      exact AllReady.nil
    exact AllReady.nil
  refine AllReady.cons rfl (fun K hK => ?_) ?_
  · go_simp
    go_wp2_with (go_at_call 50; refine (width32_any _).mono ?_; rintro e w0 ⟨rfl, hw0⟩; subst w0)
    try refine hK _ _ ?_
    try clear hK K
    refine wpAny_ready (rs := [0, 4]) (by kernel_rfl) (by simp) ?_
    refine AllReady.cons rfl (fun K hK => ?_) ?_
    · go_simp
      refine hK _ _ ?_
      clear hK K
      refine wpAny_ready (rs := [2, 4]) (by kernel_rfl) (by simp) ?_
      refine AllReady.cons rfl (fun K hK => ?_) ?_
      · go_simp
        go_wp2_with (go_at_call 36; refine A.out.mono ?_; rintro e w1 ⟨rfl, hw1⟩; subst w1)
        exact FIN.out _ (by rfl)
      refine AllReady.cons rfl (fun K hK => ?_) ?_
      · go_simp
        refine hK _ _ ?_
        clear hK K
        refine wpAny_ready (rs := [2]) (by kernel_rfl) (by simp) ?_
        refine AllReady.cons rfl (fun K hK => ?_) ?_
        · go_simp
          go_wp2_with (go_at_call 36; refine A.out.mono ?_; rintro e w1 ⟨rfl, hw1⟩; subst w1)
          exact FIN.out _ (by rfl)
        exact AllReady.nil
      exact AllReady.nil
    refine AllReady.cons rfl (fun K hK => ?_) ?_
    · go_simp
      refine hK _ _ ?_
      clear hK K
      refine wpAny_ready (rs := [0]) (by kernel_rfl) (by simp) ?_
      refine AllReady.cons rfl (fun K hK => ?_) ?_
      · go_simp
        refine hK _ _ ?_
        clear hK K
        refine wpAny_ready (rs := [2]) (by kernel_rfl) (by simp) ?_
        refine AllReady.cons rfl (fun K hK => ?_) ?_
        · go_simp
          go_wp2_with (go_at_call 36; refine A.out.mono ?_; rintro e w1 ⟨rfl, hw1⟩; subst w1)
          exact FIN.out _ (by rfl)
        exact AllReady.nil
      exact AllReady.nil
    exact AllReady.nil
  refine AllReady.cons rfl (fun K hK => ?_) ?_
  · go_simp
    refine hK _ _ ?_
    clear hK K
    refine wpAny_ready (rs := [0, 1]) (by kernel_rfl) (by simp) ?_
    refine AllReady.cons rfl (fun K hK => ?_) ?_
    · go_simp
      refine hK _ _ ?_
      clear hK K
      refine wpAny_ready (rs := [1]) (by kernel_rfl) (by simp) ?_
      refine AllReady.cons rfl (fun K hK => ?_) ?_
      · go_simp
        go_wp2_with (go_at_call 50; refine (width32_any _).mono ?_; rintro e w0 ⟨rfl, hw0⟩; subst w0)
        try refine hK _ _ ?_
        try clear hK K
        refine wpAny_ready (rs := [2]) (by kernel_rfl) (by simp) ?_
        refine AllReady.cons rfl (fun K hK => ?_) ?_
        · go_simp
          go_wp2_with (go_at_call 36; refine A.out.mono ?_; rintro e w1 ⟨rfl, hw1⟩; subst w1)
          exact FIN.out _ (by rfl)
        exact AllReady.nil
      exact AllReady.nil
    refine AllReady.cons rfl (fun K hK => ?_) ?_
    · go_simp
      go_wp2_with (go_at_call 50; refine (width32_any _).mono ?_; rintro e w0 ⟨rfl, hw0⟩; subst w0)
      try refine hK _ _ ?_
      try clear hK K
      refine wpAny_ready (rs := [0]) (by kernel_rfl) (by simp) ?_
      refine AllReady.cons rfl (fun K hK => ?_) ?_
      · go_simp
        refine hK _ _ ?_
        clear hK K
        refine wpAny_ready (rs := [2]) (by kernel_rfl) (by simp) ?_
        refine AllReady.cons rfl (fun K hK => ?_) ?_
        · go_simp
          go_wp2_with (go_at_call 36; refine A.out.mono ?_; rintro e w1 ⟨rfl, hw1⟩; subst w1)
          exact FIN.out _ (by rfl)
        exact AllReady.nil
      exact AllReady.nil
    exact AllReady.nil
  exact AllReady.nil

set_option maxHeartbeats 1600000 in
theorem Get64_pan (w : World) (b : Nat) (a : Option Addr) (cap : Nat) (s : RS) (h : Rd w b a cap s) (hf : s.fail 8 ≠ 0) :
    Calls Try.prog 31 #[.pointer (some ⟨b, 0, none⟩)] w fun x w' => x = .returned (.int .u64 0) ∧ DidR w w' b a ⟨s.l, s.fail 8⟩ := by
  have hmf := mkf
  have hb0 : Below w.heap.size w (w.alloc (.cells #[.pointer (some ⟨b, 0, none⟩)] 37)).drew := ((Below.refl _ _).alloc (Nat.le_refl _) _).drew
  have H := hide (h.keep hb0)
  have A := hide (ahead_pan _ b a cap s 8 H.out hf)
  have HB0 := hide hb0
  clear h hf hb0
  generalize s.fail 8 = er at *
  have FIN : Hid (∀ tmps : Array Value, tmps.getD 2 undef = .int .u64 0 → bodyPostD Try.prog Try.f31 (fun x w' => x = .returned (.int .u64 0) ∧ DidR w w' b a ⟨s.l, er⟩) (Exit.panic (pan er))
      { tmps := tmps, defers := [{ target := Target.fn (Fn.func 53) #[.pointer (some ⟨w.heap.size, 0, none⟩)], args := #[] }] } (w.alloc (.cells #[.pointer (some ⟨b, 0, none⟩)] 37)).drew) := by
    intro tmps ht
    refine leaves_cons (f := 53) (args := #[.pointer (some ⟨w.heap.size, 0, none⟩)]) (by simp) (by simp [go_sem]) ?_
    refine (catch_pan_pGet64C _ ⟨w.heap.size, 0, none⟩ b a cap s er H.out ?_).mono ?_
    · simp [go_sem]
    rintro e u' w'' ⟨rfl, rfl, rfl⟩
    have G := gave_up H.out HB0.out er
    simp only [settle]
    refine ⟨_, results_tmp rfl _ _ _, ?_, G⟩
    rw [ht]
  go_enter_defers Try.func31, Try.ntmps31
  go_wp2
  refine wp_region_any (by kernel_rfl) ?_
  change wpAny _ _ _ _ _ _ _ (World.drew _)
  refine wpAny_ready (rs := [0, 1, 4]) (by kernel_rfl) (by simp) ?_
  refine AllReady.cons rfl (fun K hK => ?_) ?_
  · go_simp
    refine hK _ _ ?_
    clear hK K
    refine wpAny_ready (rs := [1, 4]) (by kernel_rfl) (by simp) ?_
    refine AllReady.cons rfl (fun K hK => ?_) ?_
    · go_simp
      go_wp2_with (go_at_call 54; refine (width64_any _).mono ?_; rintro e w0 ⟨rfl, hw0⟩; subst w0)
      try refine hK _ _ ?_
      try clear hK K
      refine wpAny_ready (rs := [2, 4]) (by kernel_rfl) (by simp) ?_
      refine AllReady.cons rfl (fun K hK => ?_) ?_
      · go_simp
        go_wp2_with (go_at_call 36; refine A.out.mono ?_; rintro e w1 ⟨rfl, hw1⟩; subst w1)
        exact FIN.out _ (by rfl)
      refine AllReady.cons rfl (fun K hK => ?_) ?_
      · go_simp
        refine hK _ _ ?_
        clear hK K
        refine wpAny_ready (rs := [2]) (by kernel_rfl) (by simp) ?_
        refine AllReady.cons rfl (fun K hK => ?_) ?_
        · go_simp
          go_wp2_with (go_at_call 36; refine A.out.mono ?_; rintro e w1 ⟨rfl, hw1⟩; subst w1)
          exact FIN.out _ (by rfl)
        exact AllReady.nil
      exact AllReady.nil
    refine AllReady.cons rfl (fun K hK => ?_) ?_
    · go_simp
      refine hK _ _ ?_
      clear hK K
      refine wpAny_ready (rs := [1]) (by kernel_rfl) (by simp) ?_
      refine AllReady.cons rfl (fun K hK => ?_) ?_
      · go_simp
        go_wp2_with (go_at_call 54; refine (width64_any _).mono ?_; rintro e w0 ⟨rfl, hw0⟩; subst w0)
        try refine hK _ _ ?_
        try clear hK K
        refine wpAny_ready (rs := [2]) (by kernel_rfl) (by simp) ?_
        refine AllReady.cons rfl (fun K hK => ?_) ?_
        · go_simp
          go_wp2_with (go_at_call 36; refine A.out.mono ?_; rintro e w1 ⟨rfl, hw1⟩; subst w1)
          exact FIN.out _ (by rfl)
        exact AllReady.nil
      exact AllReady.nil
    exact AllReady.nil
  refine AllReady.cons rfl (fun K hK => ?_) ?_
  · go_simp
    go_wp2_with (go_at_call 54; refine (width64_any _).mono ?_; rintro e w0 ⟨rfl, hw0⟩; subst w0)
    try refine hK _ _ ?_
    try clear hK K
    refine wpAny_ready (rs := [0, 4]) (by kernel_rfl) (by simp) ?_
    refine AllReady.cons rfl (fun K hK => ?_) ?_
    · go_simp
      refine hK _ _ ?_
      clear hK K
      refine wpAny_ready (rs := [2, 4]) (by kernel_rfl) (by simp) ?_
      refine AllReady.cons rfl (fun K hK => ?_) ?_
      · go_simp
        go_wp2_with (go_at_call 36; refine A.out.mono ?_; rintro e w1 ⟨rfl, hw1⟩; subst w1)
        exact FIN.out _ (by rfl)
      refine AllReady.cons rfl (fun K hK => ?_) ?_
      · go_simp
        refine hK _ _ ?_
        clear hK K
        refine wpAny_ready (rs := [2]) (by kernel_rfl) (by simp) ?_
        refine AllReady.cons rfl (fun K hK => ?_) ?_
        · go_simp
          go_wp2_with (go_at_call 36; refine A.out.mono ?_; rintro e w1 ⟨rfl, hw1⟩; subst w1)
          exact FIN.out _ (by rfl)
        exact AllReady.nil
      exact AllReady.nil
    refine AllReady.cons rfl (fun K hK => ?_) ?_
    · go_simp
      refine hK _ _ ?_
      clear hK K
      refine wpAny_ready (rs := [0]) (by kernel_rfl) (by simp) ?_
      refine AllReady.cons rfl (fun K hK => ?_) ?_
      · go_simp
        refine hK _ _ ?_
        clear hK K
        refine wpAny_ready (rs := [2]) (by kernel_rfl) (by simp) ?_
        refine AllReady.cons rfl (fun K hK => ?_) ?_
        · go_simp
          go_wp2_with (go_at_call 36; refine A.out.mono ?_; rintro e w1 ⟨rfl, hw1⟩; subst w1)
          exact FIN.out _ (by rfl)
        exact AllReady.nil
      exact AllReady.nil
    exact AllReady.nil
  refine AllReady.cons rfl (fun K hK => ?_) ?_
  · go_simp
    refine hK _ _ ?_
    clear hK K
    refine wpAny_ready (rs := [0, 1]) (by kernel_rfl) (by simp) ?_
    refine AllReady.cons rfl (fun K hK => ?_) ?_
    · go_simp
      refine hK _ _ ?_
      clear hK K
      refine wpAny_ready (rs := [1]) (by kernel_rfl) (by simp) ?_
      refine AllReady.cons rfl (fun K hK => ?_) ?_
      · go_simp
        go_wp2_with (go_at_call 54; refine (width64_any _).mono ?_; rintro e w0 ⟨rfl, hw0⟩; subst w0)
        try refine hK _ _ ?_
        try clear hK K
        refine wpAny_ready (rs := [2]) (by kernel_rfl) (by simp) ?_
        refine AllReady.cons rfl (fun K hK => ?_) ?_
        · go_simp
          go_wp2_with (go_at_call 36; refine A.out.mono ?_; rintro e w1 ⟨rfl, hw1⟩; subst w1)
          exact FIN.out _ (by rfl)
        exact AllReady.nil
      exact AllReady.nil
    refine AllReady.cons rfl (fun K hK => ?_) ?_
    · go_simp
      go_wp2_with (go_at_call 54; refine (width64_any _).mono ?_; rintro e w0 ⟨rfl, hw0⟩; subst w0)
      try refine hK _ _ ?_
      try clear hK K
      refine wpAny_ready (rs := [0]) (by kernel_rfl) (by simp) ?_
      refine AllReady.cons rfl (fun K hK => ?_) ?_
      · go_simp
        refine hK _ _ ?_
        clear hK K
        refine wpAny_ready (rs := [2]) (by kernel_rfl) (by simp) ?_
        refine AllReady.cons rfl (fun K hK => ?_) ?_
        · go_simp
          go_wp2_with (go_at_call 36; refine A.out.mono ?_; rintro e w1 ⟨rfl, hw1⟩; subst w1)
          exact FIN.out _ (by rfl)
        exact AllReady.nil
      exact AllReady.nil
    exact AllReady.nil
  exact AllReady.nil

set_option maxHeartbeats 3200000 in
theorem Get8_ok (w : World) (b : Nat) (a : Option Addr) (cap : Nat) (s : RS) (h : Rd w b a cap s) (he : s.e = 0) (hk : 1 ≤ s.l.length) :
    Calls Try.prog 32 #[.pointer (some ⟨b, 0, none⟩)] w fun x w' => x = .returned (.int .u8 (numV (s.l.take 1) : Int)) ∧ DidR w w' b a ⟨s.l.drop 1, s.e⟩ := by
  have hmf := mkf
  have hb0 : Below w.heap.size w (w.alloc (.cells #[.pointer (some ⟨b, 0, none⟩)] 37)).drew := ((Below.refl _ _).alloc (Nat.le_refl _) _).drew
  have hp0 : (w.alloc (.cells #[.pointer (some ⟨b, 0, none⟩)] 37)).drew.cell? ⟨w.heap.size, 0, none⟩ = some (.pointer (some ⟨b, 0, none⟩)) := by simp
  have H := hide (h.keep hb0)
  have HLT := hide h.lt
  have A := hide (ahead_ok _ b a cap s 1 H.out he hk)
  have HB0 := hide hb0
  have HK := hide hk
  clear h hb0 hk
  go_enter_defers Try.func32, Try.ntmps32
  go_wp2
  go_region_held3 (fun w' => w'.cell? ⟨w.heap.size, 0, none⟩ = some (.pointer (some ⟨b, 0, none⟩)))
    (first | exact hp0)
    (first | (go_at_call 56; refine (width8_any _).mono ?_; rintro e w0 ⟨rfl, hw0⟩; subst w0) | (go_at_call 36; refine A.out.mono ?_; rintro e w1 ⟨rfl, hw1⟩; subst w1))
  generalize (w.alloc (.cells #[.pointer (some ⟨b, 0, none⟩)] 37)).drew = W at *
  go_wp2
  go_loopw [3, 11] (fun v i wx => ∃ j : Nat, j ≤ 1 ∧ i = .int .i64 j ∧ v = .int .u64 ((numV (s.l.take j) : Nat) : Int) ∧ wx = W) (fun _ i _ => 1 - (intOf i).toNat)
  case atStart => exact ⟨0, Nat.zero_le _, rfl, rfl, rfl⟩
  case round =>
    obtain ⟨j, hj, rfl, rfl, hw⟩ := hrel
    subst wr
    by_cases hlt : j < 1
    · have hi : (j : Int) < 1 := by omega
      have hjl : j < s.l.length := by have := HK.out; omega
      obtain ⟨g, off, rfl, hc⟩ := H.out.2.1.at' (j := j) hjl
      have hy : s.l.getD j 0 < 256 := by rw [getD_at s.l hjl]; exact H.out.2.1.1 _ (List.getElem_mem _)
      have hv : numV (s.l.take j) < 256 ^ j := by
        have h1 := numV_lt (s.l.take j) fun x hx => H.out.2.1.1 x (List.mem_of_mem_take hx)
        rwa [List.length_take, Nat.min_eq_left (by omega)] at h1
      have hor := or_step _ _ j hv hy (by omega)
      rw [← numV_snoc s.l j hjl] at hor
      clear hv hy
      generalize hu : numV (s.l.take (j + 1)) = u at *
      have HU := hide hu
      clear hu
      generalize s.l.getD j 0 = y at *
      generalize numV (s.l.take j) = v at *
      go_wp2
      refine ⟨⟨j + 1, by omega, congrArg (Value.int IntKind.i64) (by omega), ?_, trivial⟩, meas_up' _ _ _ rfl hlt⟩
      rw [HU.out]
    · obtain rfl : j = 1 := by omega
      have hv := numV_lt (s.l.take 1) fun x hx => H.out.2.1.1 x (List.mem_of_mem_take hx)
      rw [List.length_take, Nat.min_eq_left HK.out] at hv
      have hcv : IntKind.u8.wrap ((numV (s.l.take 1) : Nat) : Int) = ((numV (s.l.take 1) : Nat) : Int) := by rw [IntKind.wrap_u8']; omega
      have hbW : Below W.heap.size W W.drew := (Below.refl _ _).drew
      have PS := hide (pass_any W.drew b a cap s 1 (H.out.keep hbW) HK.out)
      have HBW := hide hbW
      clear hbW A
      generalize hgv : numV (s.l.take 1) = v at *
      have HGV := hide hgv
      clear hgv
      go_wp2
      go_region_held3 (fun w' => w'.cell? ⟨w.heap.size, 0, none⟩ = some (.pointer (some ⟨b, 0, none⟩)))
        (first | exact hp0 | exact hp3)
        (first | (go_at_call 56; refine (width8_any _).mono ?_; rintro e w0 ⟨rfl, hw0⟩; subst w0) | (go_at_call 37; refine PS.out.mono ?_; rintro e w3 ⟨rfl, h3⟩; have hp3 := box_kept HLT.out hp0 h3; have H3 := hide h3; clear h3))
      go_wp2
      refine leaves_cons (f := 55) (args := #[.pointer (some ⟨w.heap.size, 0, none⟩)]) (by simp) (by simp [go_sem]) ?_
      refine (catch_idle_pGet8C _ ⟨w.heap.size, 0, none⟩).mono ?_
      rintro e u' w'' ⟨rfl, rfl, rfl⟩
      simp only [settle]
      exact ⟨_, results_tmp rfl _ _ _, by rw [HGV.out]; rfl, DidR.pre (bt HB0.out HBW.out) H3.out⟩

set_option maxHeartbeats 3200000 in
theorem Get32_ok (w : World) (b : Nat) (a : Option Addr) (cap : Nat) (s : RS) (h : Rd w b a cap s) (he : s.e = 0) (hk : 4 ≤ s.l.length) :
    Calls Try.prog 28 #[.pointer (some ⟨b, 0, none⟩)] w fun x w' => x = .returned (.int .u32 (numV (s.l.take 4) : Int)) ∧ DidR w w' b a ⟨s.l.drop 4, s.e⟩ := by
  have hmf := mkf
  have hb0 : Below w.heap.size w (w.alloc (.cells #[.pointer (some ⟨b, 0, none⟩)] 37)).drew := ((Below.refl _ _).alloc (Nat.le_refl _) _).drew
  have hp0 : (w.alloc (.cells #[.pointer (some ⟨b, 0, none⟩)] 37)).drew.cell? ⟨w.heap.size, 0, none⟩ = some (.pointer (some ⟨b, 0, none⟩)) := by simp
  have H := hide (h.keep hb0)
  have HLT := hide h.lt
  have A := hide (ahead_ok _ b a cap s 4 H.out he hk)
  have HB0 := hide hb0
  have HK := hide hk
  clear h hb0 hk
  go_enter_defers Try.func28, Try.ntmps28
  go_wp2
  go_region_held3 (fun w' => w'.cell? ⟨w.heap.size, 0, none⟩ = some (.pointer (some ⟨b, 0, none⟩)))
    (first | exact hp0)
    (first | (go_at_call 50; refine (width32_any _).mono ?_; rintro e w0 ⟨rfl, hw0⟩; subst w0) | (go_at_call 36; refine A.out.mono ?_; rintro e w1 ⟨rfl, hw1⟩; subst w1))
  generalize (w.alloc (.cells #[.pointer (some ⟨b, 0, none⟩)] 37)).drew = W at *
  go_wp2
  go_loopw [3, 11] (fun v i wx => ∃ j : Nat, j ≤ 4 ∧ i = .int .i64 j ∧ v = .int .u64 ((numV (s.l.take j) : Nat) : Int) ∧ wx = W) (fun _ i _ => 4 - (intOf i).toNat)
  case atStart => exact ⟨0, Nat.zero_le _, rfl, rfl, rfl⟩
  case round =>
    obtain ⟨j, hj, rfl, rfl, hw⟩ := hrel
    subst wr
    by_cases hlt : j < 4
    · have hi : (j : Int) < 4 := by omega
      have hjl : j < s.l.length := by have := HK.out; omega
      obtain ⟨g, off, rfl, hc⟩ := H.out.2.1.at' (j := j) hjl
      have hy : s.l.getD j 0 < 256 := by rw [getD_at s.l hjl]; exact H.out.2.1.1 _ (List.getElem_mem _)
      have hv : numV (s.l.take j) < 256 ^ j := by
        have h1 := numV_lt (s.l.take j) fun x hx => H.out.2.1.1 x (List.mem_of_mem_take hx)
        rwa [List.length_take, Nat.min_eq_left (by omega)] at h1
      have hor := or_step _ _ j hv hy (by omega)
      rw [← numV_snoc s.l j hjl] at hor
      clear hv hy
      generalize hu : numV (s.l.take (j + 1)) = u at *
      have HU := hide hu
      clear hu
      generalize s.l.getD j 0 = y at *
      generalize numV (s.l.take j) = v at *
      go_wp2
      refine ⟨⟨j + 1, by omega, congrArg (Value.int IntKind.i64) (by omega), ?_, trivial⟩, meas_up' _ _ _ rfl hlt⟩
      rw [HU.out]
    · obtain rfl : j = 4 := by omega
      have hv := numV_lt (s.l.take 4) fun x hx => H.out.2.1.1 x (List.mem_of_mem_take hx)
      rw [List.length_take, Nat.min_eq_left HK.out] at hv
      have hcv : IntKind.u32.wrap ((numV (s.l.take 4) : Nat) : Int) = ((numV (s.l.take 4) : Nat) : Int) := by rw [IntKind.wrap_u32']; omega
      have hbW : Below W.heap.size W W.drew := (Below.refl _ _).drew
      have PS := hide (pass_any W.drew b a cap s 4 (H.out.keep hbW) HK.out)
      have HBW := hide hbW
      clear hbW A
      generalize hgv : numV (s.l.take 4) = v at *
      have HGV := hide hgv
      clear hgv
      go_wp2
      go_region_held3 (fun w' => w'.cell? ⟨w.heap.size, 0, none⟩ = some (.pointer (some ⟨b, 0, none⟩)))
        (first | exact hp0 | exact hp3)
        (first | (go_at_call 50; refine (width32_any _).mono ?_; rintro e w0 ⟨rfl, hw0⟩; subst w0) | (go_at_call 37; refine PS.out.mono ?_; rintro e w3 ⟨rfl, h3⟩; have hp3 := box_kept HLT.out hp0 h3; have H3 := hide h3; clear h3))
      go_wp2
      refine leaves_cons (f := 49) (args := #[.pointer (some ⟨w.heap.size, 0, none⟩)]) (by simp) (by simp [go_sem]) ?_
      refine (catch_idle_pGet32C _ ⟨w.heap.size, 0, none⟩).mono ?_
      rintro e u' w'' ⟨rfl, rfl, rfl⟩
      simp only [settle]
      exact ⟨_, results_tmp rfl _ _ _, by rw [HGV.out]; rfl, DidR.pre (bt HB0.out HBW.out) H3.out⟩

set_option maxHeartbeats 3200000 in
theorem Get64_ok (w : World) (b : Nat) (a : Option Addr) (cap : Nat) (s : RS) (h : Rd w b a cap s) (he : s.e = 0) (hk : 8 ≤ s.l.length) :
    Calls Try.prog 31 #[.pointer (some ⟨b, 0, none⟩)] w fun x w' => x = .returned (.int .u64 (numV (s.l.take 8) : Int)) ∧ DidR w w' b a ⟨s.l.drop 8, s.e⟩ := by
  have hmf := mkf
  have hb0 : Below w.heap.size w (w.alloc (.cells #[.pointer (some ⟨b, 0, none⟩)] 37)).drew := ((Below.refl _ _).alloc (Nat.le_refl _) _).drew
  have hp0 : (w.alloc (.cells #[.pointer (some ⟨b, 0, none⟩)] 37)).drew.cell? ⟨w.heap.size, 0, none⟩ = some (.pointer (some ⟨b, 0, none⟩)) := by simp
  have H := hide (h.keep hb0)
  have HLT := hide h.lt
  have A := hide (ahead_ok _ b a cap s 8 H.out he hk)
  have HB0 := hide hb0
  have HK := hide hk
  clear h hb0 hk
  go_enter_defers Try.func31, Try.ntmps31
  go_wp2
  go_region_held3 (fun w' => w'.cell? ⟨w.heap.size, 0, none⟩ = some (.pointer (some ⟨b, 0, none⟩)))
    (first | exact hp0)
    (first | (go_at_call 54; refine (width64_any _).mono ?_; rintro e w0 ⟨rfl, hw0⟩; subst w0) | (go_at_call 36; refine A.out.mono ?_; rintro e w1 ⟨rfl, hw1⟩; subst w1))
  generalize (w.alloc (.cells #[.pointer (some ⟨b, 0, none⟩)] 37)).drew = W at *
  go_wp2
  go_loopw [3, 11] (fun v i wx => ∃ j : Nat, j ≤ 8 ∧ i = .int .i64 j ∧ v = .int .u64 ((numV (s.l.take j) : Nat) : Int) ∧ wx = W) (fun _ i _ => 8 - (intOf i).toNat)
  case atStart => exact ⟨0, Nat.zero_le _, rfl, rfl, rfl⟩
  case round =>
    obtain ⟨j, hj, rfl, rfl, hw⟩ := hrel
    subst wr
    by_cases hlt : j < 8
    · have hi : (j : Int) < 8 := by omega
      have hjl : j < s.l.length := by have := HK.out; omega
      obtain ⟨g, off, rfl, hc⟩ := H.out.2.1.at' (j := j) hjl
      have hy : s.l.getD j 0 < 256 := by rw [getD_at s.l hjl]; exact H.out.2.1.1 _ (List.getElem_mem _)
      have hv : numV (s.l.take j) < 256 ^ j := by
        have h1 := numV_lt (s.l.take j) fun x hx => H.out.2.1.1 x (List.mem_of_mem_take hx)
        rwa [List.length_take, Nat.min_eq_left (by omega)] at h1
      have hor := or_step _ _ j hv hy (by omega)
      rw [← numV_snoc s.l j hjl] at hor
      clear hv hy
      generalize hu : numV (s.l.take (j + 1)) = u at *
      have HU := hide hu
      clear hu
      generalize s.l.getD j 0 = y at *
      generalize numV (s.l.take j) = v at *
      go_wp2
      refine ⟨⟨j + 1, by omega, congrArg (Value.int IntKind.i64) (by omega), ?_, trivial⟩, meas_up' _ _ _ rfl hlt⟩
      rw [HU.out]
    · obtain rfl : j = 8 := by omega
      have hv := numV_lt (s.l.take 8) fun x hx => H.out.2.1.1 x (List.mem_of_mem_take hx)
      rw [List.length_take, Nat.min_eq_left HK.out] at hv
      have hcv : IntKind.u64.wrap ((numV (s.l.take 8) : Nat) : Int) = ((numV (s.l.take 8) : Nat) : Int) := by rw [IntKind.wrap_u64]; omega
      have hbW : Below W.heap.size W W.drew := (Below.refl _ _).drew
      have PS := hide (pass_any W.drew b a cap s 8 (H.out.keep hbW) HK.out)
      have HBW := hide hbW
      clear hbW A
      generalize hgv : numV (s.l.take 8) = v at *
      have HGV := hide hgv
      clear hgv
      go_wp2
      go_region_held3 (fun w' => w'.cell? ⟨w.heap.size, 0, none⟩ = some (.pointer (some ⟨b, 0, none⟩)))
        (first | exact hp0 | exact hp3)
        (first | (go_at_call 54; refine (width64_any _).mono ?_; rintro e w0 ⟨rfl, hw0⟩; subst w0) | (go_at_call 37; refine PS.out.mono ?_; rintro e w3 ⟨rfl, h3⟩; have hp3 := box_kept HLT.out hp0 h3; have H3 := hide h3; clear h3))
      go_wp2
      refine leaves_cons (f := 53) (args := #[.pointer (some ⟨w.heap.size, 0, none⟩)]) (by simp) (by simp [go_sem]) ?_
      refine (catch_idle_pGet64C _ ⟨w.heap.size, 0, none⟩).mono ?_
      rintro e u' w'' ⟨rfl, rfl, rfl⟩
      simp only [settle]
      exact ⟨_, results_tmp rfl _ _ _, by rw [HGV.out]; rfl, DidR.pre (bt HB0.out HBW.out) H3.out⟩
end Go.Proofs.Ytifhkfghjifecaa

namespace Go.Proofs.Ytifhkfghjifecaa
open Go.RowKit

theorem box_at {w w3 : World} {b : Nat} {a : Option Addr} {s : RS} {W : World} (hlt : b < w.heap.size) (hp : W.cell? ⟨w.heap.size, 0, none⟩ = some (.pointer (some ⟨b, 0, none⟩))) (h : DidR W.drew w3 b a s) : w3.cell? ⟨w.heap.size, 0, none⟩ = some (.pointer (some ⟨b, 0, none⟩)) := by
  obtain ⟨_, _, _, _, h3⟩ := h
  exact (h3.cell (p := ⟨w.heap.size, 0, none⟩) (block_lt_of_cell hp) (by show ¬ w.heap.size = b; omega)).trans hp
theorem Bs.at2 {w : World} {aa : Option Addr} {p : List Nat} (hB : Bs w aa p) {j : Nat} (hj : j < p.length) : ∃ b off, aa = some ⟨b, off, none⟩ ∧ w.cell? ⟨b, off + j, none⟩ = some (.int .u8 ((p.getD j 0 : Nat) : Int)) := by
  rcases hB.2.2 with rfl | ⟨b, off, rfl, hc⟩
  · simp at hj
  · exact ⟨b, off, rfl, hc j hj⟩
/-- the first byte that is not 0 -/
theorem first_not {l : List Nat} (h : l.all (· == 0) = false) : ∃ m, m < l.length ∧ l.getD m 0 ≠ 0 ∧ ∀ i, i < m → l.getD i 0 = 0 := by
  induction l with
  | nil => simp at h
  | cons x r ih =>
    by_cases hx : x = 0
    · subst hx
      have h2 : r.all (· == 0) = false := by simpa using h
      obtain ⟨m, h1, h2, h3⟩ := ih h2
      refine ⟨m + 1, by simpa using h1, by simpa using h2, fun i hi => ?_⟩
      cases i with
      | zero => rfl
      | succ i => simpa using h3 i (by omega)
    · exact ⟨0, by simp, by simpa using hx, fun i hi => by omega⟩
theorem all_zero {l : List Nat} (h : l.all (· == 0) = true) (i : Nat) : l.getD i 0 = 0 := by
  rcases Nat.lt_or_ge i l.length with hi | hi
  · rw [getD_at l hi]
    have := List.all_eq_true.1 h l[i] (List.getElem_mem _)
    simpa using this
  · simp [List.getD, List.getElem?_eq_none hi]

set_option maxHeartbeats 3200000 in
theorem Zeros_ok (w : World) (b : Nat) (a : Option Addr) (cap : Nat) (s : RS) (h : Rd w b a cap s) (he : s.e = 0) (hz : ∀ i, s.l.getD i 0 = 0) :
    Calls Try.prog 14 #[.pointer (some ⟨b, 0, none⟩)] w fun x w' => x = .returned (.tuple #[]) ∧ DidR w w' b a ⟨[], s.e⟩ := by
  have hmf := mkf
  have hb0 : Below w.heap.size w (w.alloc (.cells #[.pointer (some ⟨b, 0, none⟩)] 37)).drew := ((Below.refl _ _).alloc (Nat.le_refl _) _).drew
  have hp0 : (w.alloc (.cells #[.pointer (some ⟨b, 0, none⟩)] 37)).drew.cell? ⟨w.heap.size, 0, none⟩ = some (.pointer (some ⟨b, 0, none⟩)) := by simp
  have H := hide (h.keep hb0)
  have c0 := H.out.c0
  have HLT := hide h.lt
  have hlen := h.2.2.2.2.1
  have A := hide (ahead_ok _ b a cap s s.l.length H.out he (Nat.le_refl _))
  have HB0 := hide hb0
  have HZ := hide hz
  clear h hb0 hz
  go_enter_defers Try.func14, Try.ntmps14
  go_wp2
  go_region_held3 (fun w' => w'.cell? ⟨w.heap.size, 0, none⟩ = some (.pointer (some ⟨b, 0, none⟩)) ∧ w'.cell? ⟨b, 0, none⟩ = some (.slice a s.l.length cap))
    (first | exact ⟨hp0, c0⟩)
    (first | (go_at_call 36; refine A.out.mono ?_; rintro e w1 ⟨rfl, hw1⟩; subst w1))
  generalize (w.alloc (.cells #[.pointer (some ⟨b, 0, none⟩)] 37)).drew = W at *
  clear A
  go_wp2
  go_loopw [13] (fun i wx => ∃ j : Nat, j ≤ s.l.length ∧ i = .int .i64 j ∧ wx = W) (fun i _ => s.l.length - (intOf i).toNat)
  case atStart => exact ⟨0, Nat.zero_le _, rfl, rfl⟩
  case round =>
    obtain ⟨j, hj, rfl, hw⟩ := hrel
    subst wr
    by_cases hlt : j < s.l.length
    · have hi : (j : Int) < (s.l.length : Int) := by omega
      obtain ⟨g, off, rfl, hc⟩ := H.out.2.1.at2 (j := j) hlt
      rw [HZ.out j] at hc
      go_wp2
      go_roundw
      case rel => exact ⟨j + 1, by omega, by go_num, trivial⟩
      case measure => simp [intOf]; omega
    · obtain rfl : j = s.l.length := by omega
      have hbW : Below W.heap.size W W.drew := (Below.refl _ _).drew
      have PS := hide (pass_any W.drew b a cap s s.l.length (H.out.keep hbW) (Nat.le_refl _))
      have HBW := hide hbW
      clear hbW
      go_wp2
      refine wp_region_noPanic ?_
      go_region_with (first | (go_at_call 37; refine PS.out.mono ?_; rintro e w3 ⟨rfl, h3⟩; have H3 := hide h3; clear h3))
      all_goals (
        refine NoPanic.normal ?_
        go_wp2
        refine leaves_cons (f := 34) (args := #[.pointer (some ⟨w.heap.size, 0, none⟩)]) (by simp) (by simp [go_sem]) ?_
        refine (catch_idle_pRZerosC _ ⟨w.heap.size, 0, none⟩).mono ?_
        rintro e u' w'' ⟨rfl, rfl, rfl⟩
        have h3 := H3.out
        rw [List.drop_length] at h3
        simp only [settle]
        exact ⟨_, results_none rfl _ _ _, rfl, DidR.pre (bt HB0.out HBW.out) h3⟩)

def PanQ (er : Nat) (W : World) (D : List Deferred) : Exit → Act → World → Prop
  | .panic c, a, w => c = pan er ∧ w = W ∧ a.defers = D
  | _, _, _ => False
theorem PanQ.imp {er : Nat} {W : World} {D : List Deferred} {Q : Exit → Act → World → Prop} (hQ : ∀ tmps, Q (.panic (pan er)) { tmps := tmps, defers := D } W) : ∀ (e : Exit) (a : Act) (w : World), PanQ er W D e a w → Q e a w := fun e a w h => by
  cases e with
  | panic c =>
    obtain ⟨rfl, rfl, rfl⟩ := h
    exact hQ a.tmps
  | _ => exact (h : False).elim
theorem wp_region_pan {id : Nat} {ops : Array Oper} {t : Bool} {Q : Exit → Act → World → Prop} {a : Act} {w : World} (er : Nat) (W : World) (D : List Deferred) (hQ : ∀ tmps, Q (.panic (pan er)) { tmps := tmps, defers := D } W) (h : (Code.region id ops t).wp Try.prog (PanQ er W D) a w) : (Code.region id ops t).wp Try.prog Q a w :=
  Code.wp_mono (PanQ.imp hQ) h

/-- the end of Zeros by a panic -/
theorem zeros_fin (w W : World) (b : Nat) (a : Option Addr) (cap : Nat) (s : RS) (er : Nat) (H : Rd W b a cap s) (hb : Below w.heap.size w W) (hp : W.cell? ⟨w.heap.size, 0, none⟩ = some (.pointer (some ⟨b, 0, none⟩))) (tmps : Array Value) :
    bodyPostD Try.prog Try.f14 (fun x w' => x = .returned (.tuple #[]) ∧ DidR w w' b a ⟨s.l, er⟩) (Exit.panic (pan er)) { tmps := tmps, defers := [{ target := Target.fn (Fn.func 34) #[.pointer (some ⟨w.heap.size, 0, none⟩)], args := #[] }] } W := by
  refine leaves_cons (f := 34) (args := #[.pointer (some ⟨w.heap.size, 0, none⟩)]) (by simp) (by simp [go_sem]) ?_
  refine (catch_pan_pRZerosC _ ⟨w.heap.size, 0, none⟩ b a cap s er H hp).mono ?_
  rintro e u' w'' ⟨rfl, rfl, rfl⟩
  have G := gave_up H hb er
  simp only [settle]
  exact ⟨_, results_none rfl _ _ _, rfl, G⟩

set_option maxHeartbeats 3200000 in
theorem Zeros_err (w : World) (b : Nat) (a : Option Addr) (cap : Nat) (s : RS) (h : Rd w b a cap s) (he : s.e ≠ 0) :
    Calls Try.prog 14 #[.pointer (some ⟨b, 0, none⟩)] w fun x w' => x = .returned (.tuple #[]) ∧ DidR w w' b a ⟨s.l, s.e⟩ := by
  have hmf := mkf
  have hb0 : Below w.heap.size w (w.alloc (.cells #[.pointer (some ⟨b, 0, none⟩)] 37)).drew := ((Below.refl _ _).alloc (Nat.le_refl _) _).drew
  have hp0 : (w.alloc (.cells #[.pointer (some ⟨b, 0, none⟩)] 37)).drew.cell? ⟨w.heap.size, 0, none⟩ = some (.pointer (some ⟨b, 0, none⟩)) := by simp
  have H := hide (h.keep hb0)
  have c0 := H.out.c0
  have A := hide (ahead_err _ b a cap s s.l.length H.out he)
  have FIN := hide (zeros_fin w _ b a cap s s.e H.out hb0 hp0)
  clear h hb0 he
  go_enter_defers Try.func14, Try.ntmps14
  go_wp2
  refine wp_region_pan s.e (w.alloc (.cells #[.pointer (some ⟨b, 0, none⟩)] 37)).drew [{ target := Target.fn (Fn.func 34) #[.pointer (some ⟨w.heap.size, 0, none⟩)], args := #[] }] (fun tmps => FIN.out tmps) ?_
  refine wp_region_any (by kernel_rfl) ?_
  change wpAny _ _ _ _ _ _ _ (World.drew _)
  refine wpAny_take (i := 8) (v := .int .i64 0) rfl (by kernel_rfl) (by kernel_rfl) (by kernel_rfl) (fun _ _ _ h => h) (Or.inl ⟨by rfl, ?_⟩) ?_
  · intro w; go_simp
  refine wpAny_ready (rs := [0, 1]) (by kernel_rfl) (by simp) ?_
  refine AllReady.cons rfl (fun K hK => ?_) ?_
  · go_simp
    refine hK _ _ ?_
    clear hK K
    refine wpAny_ready (rs := [1]) (by kernel_rfl) (by simp) ?_
    refine AllReady.cons rfl (fun K hK => ?_) ?_
    · go_simp
      refine hK _ _ ?_
      clear hK K
      refine wpAny_ready (rs := [2]) (by kernel_rfl) (by simp) ?_
      refine AllReady.cons rfl (fun K hK => ?_) ?_
      · go_simp
        refine hK _ _ ?_
        clear hK K
        refine wpAny_ready (rs := [3]) (by kernel_rfl) (by simp) ?_
        refine AllReady.cons rfl (fun K hK => ?_) ?_
        · go_simp
          refine hK _ _ ?_
          clear hK K
          refine wpAny_ready (rs := [4]) (by kernel_rfl) (by simp) ?_
          refine AllReady.cons rfl (fun K hK => ?_) ?_
          · go_simp
            refine hK _ _ ?_
            clear hK K
            refine wpAny_ready (rs := [5]) (by kernel_rfl) (by simp) ?_
            refine AllReady.cons rfl (fun K hK => ?_) ?_
            · go_simp
              refine hK _ _ ?_
              clear hK K
              refine wpAny_ready (rs := [6]) (by kernel_rfl) (by simp) ?_
              refine AllReady.cons rfl (fun K hK => ?_) ?_
              · go_simp
                go_wp2_with (go_at_call 36; refine A.out.mono ?_; rintro e w1 ⟨rfl, hw1⟩; subst w1)
                exact ⟨rfl, rfl, rfl⟩
              exact AllReady.nil
            exact AllReady.nil
          exact AllReady.nil
        exact AllReady.nil
      exact AllReady.nil
    exact AllReady.nil
  refine AllReady.cons rfl (fun K hK => ?_) ?_
  · go_simp
    refine hK _ _ ?_
    clear hK K
    refine wpAny_ready (rs := [0, 2]) (by kernel_rfl) (by simp) ?_
    refine AllReady.cons rfl (fun K hK => ?_) ?_
    · go_simp
      refine hK _ _ ?_
      clear hK K
      refine wpAny_ready (rs := [2]) (by kernel_rfl) (by simp) ?_
      refine AllReady.cons rfl (fun K hK => ?_) ?_
      · go_simp
        refine hK _ _ ?_
        clear hK K
        refine wpAny_ready (rs := [3]) (by kernel_rfl) (by simp) ?_
        refine AllReady.cons rfl (fun K hK => ?_) ?_
        · go_simp
          refine hK _ _ ?_
          clear hK K
          refine wpAny_ready (rs := [4]) (by kernel_rfl) (by simp) ?_
          refine AllReady.cons rfl (fun K hK => ?_) ?_
          · go_simp
            refine hK _ _ ?_
            clear hK K
            refine wpAny_ready (rs := [5]) (by kernel_rfl) (by simp) ?_
            refine AllReady.cons rfl (fun K hK => ?_) ?_
            · go_simp
              refine hK _ _ ?_
              clear hK K
              refine wpAny_ready (rs := [6]) (by kernel_rfl) (by simp) ?_
              refine AllReady.cons rfl (fun K hK => ?_) ?_
              · go_simp
                go_wp2_with (go_at_call 36; refine A.out.mono ?_; rintro e w1 ⟨rfl, hw1⟩; subst w1)
                exact ⟨rfl, rfl, rfl⟩
              exact AllReady.nil
            exact AllReady.nil
          exact AllReady.nil
        exact AllReady.nil
      exact AllReady.nil
    refine AllReady.cons rfl (fun K hK => ?_) ?_
    · go_simp
      refine hK _ _ ?_
      clear hK K
      refine wpAny_ready (rs := [0, 3]) (by kernel_rfl) (by simp) ?_
      refine AllReady.cons rfl (fun K hK => ?_) ?_
      · go_simp
        refine hK _ _ ?_
        clear hK K
        refine wpAny_ready (rs := [3]) (by kernel_rfl) (by simp) ?_
        refine AllReady.cons rfl (fun K hK => ?_) ?_
        · go_simp
          refine hK _ _ ?_
          clear hK K
          refine wpAny_ready (rs := [4]) (by kernel_rfl) (by simp) ?_
          refine AllReady.cons rfl (fun K hK => ?_) ?_
          · go_simp
            refine hK _ _ ?_
            clear hK K
            refine wpAny_ready (rs := [5]) (by kernel_rfl) (by simp) ?_
            refine AllReady.cons rfl (fun K hK => ?_) ?_
            · go_simp
              refine hK _ _ ?_
              clear hK K
              refine wpAny_ready (rs := [6]) (by kernel_rfl) (by simp) ?_
              refine AllReady.cons rfl (fun K hK => ?_) ?_
              · go_simp
                go_wp2_with (go_at_call 36; refine A.out.mono ?_; rintro e w1 ⟨rfl, hw1⟩; subst w1)
                exact ⟨rfl, rfl, rfl⟩
              exact AllReady.nil
            exact AllReady.nil
          exact AllReady.nil
        exact AllReady.nil
      refine AllReady.cons rfl (fun K hK => ?_) ?_
      · go_simp
        refine hK _ _ ?_
        clear hK K
        refine wpAny_ready (rs := [0, 4]) (by kernel_rfl) (by simp) ?_
        refine AllReady.cons rfl (fun K hK => ?_) ?_
        · go_simp
          refine hK _ _ ?_
          clear hK K
          refine wpAny_ready (rs := [4]) (by kernel_rfl) (by simp) ?_
          refine AllReady.cons rfl (fun K hK => ?_) ?_
          · go_simp
            refine hK _ _ ?_
            clear hK K
            refine wpAny_ready (rs := [5]) (by kernel_rfl) (by simp) ?_
            refine AllReady.cons rfl (fun K hK => ?_) ?_
            · go_simp
              refine hK _ _ ?_
              clear hK K
              refine wpAny_ready (rs := [6]) (by kernel_rfl) (by simp) ?_
              refine AllReady.cons rfl (fun K hK => ?_) ?_
              · go_simp
                go_wp2_with (go_at_call 36; refine A.out.mono ?_; rintro e w1 ⟨rfl, hw1⟩; subst w1)
                exact ⟨rfl, rfl, rfl⟩
              exact AllReady.nil
            exact AllReady.nil
          exact AllReady.nil
        refine AllReady.cons rfl (fun K hK => ?_) ?_
        · go_simp
          refine hK _ _ ?_
          clear hK K
          refine wpAny_ready (rs := [0, 5]) (by kernel_rfl) (by simp) ?_
          refine AllReady.cons rfl (fun K hK => ?_) ?_
          · go_simp
            refine hK _ _ ?_
            clear hK K
            refine wpAny_ready (rs := [5]) (by kernel_rfl) (by simp) ?_
            refine AllReady.cons rfl (fun K hK => ?_) ?_
            · go_simp
              refine hK _ _ ?_
              clear hK K
              refine wpAny_ready (rs := [6]) (by kernel_rfl) (by simp) ?_
              refine AllReady.cons rfl (fun K hK => ?_) ?_
              · go_simp
                go_wp2_with (go_at_call 36; refine A.out.mono ?_; rintro e w1 ⟨rfl, hw1⟩; subst w1)
                exact ⟨rfl, rfl, rfl⟩
              exact AllReady.nil
            exact AllReady.nil
          refine AllReady.cons rfl (fun K hK => ?_) ?_
          · go_simp
            refine hK _ _ ?_
            clear hK K
            refine wpAny_ready (rs := [0]) (by kernel_rfl) (by simp) ?_
            refine AllReady.cons rfl (fun K hK => ?_) ?_
            · go_simp
              refine hK _ _ ?_
              clear hK K
              refine wpAny_ready (rs := [6]) (by kernel_rfl) (by simp) ?_
              refine AllReady.cons rfl (fun K hK => ?_) ?_
              · go_simp
                go_wp2_with (go_at_call 36; refine A.out.mono ?_; rintro e w1 ⟨rfl, hw1⟩; subst w1)
                exact ⟨rfl, rfl, rfl⟩
              exact AllReady.nil
            exact AllReady.nil
          exact AllReady.nil
        exact AllReady.nil
      exact AllReady.nil
    exact AllReady.nil
  exact AllReady.nil

set_option maxHeartbeats 3200000 in
theorem Zeros_not (w : World) (b : Nat) (a : Option Addr) (cap : Nat) (s : RS) (m : Nat) (h : Rd w b a cap s) (he : s.e = 0) (hm : m < s.l.length) (hnz : s.l.getD m 0 ≠ 0) (hz : ∀ i, i < m → s.l.getD i 0 = 0) :
    Calls Try.prog 14 #[.pointer (some ⟨b, 0, none⟩)] w fun x w' => x = .returned (.tuple #[]) ∧ DidR w w' b a ⟨s.l, 5⟩ := by
  have hmf := mkf
  have hb0 : Below w.heap.size w (w.alloc (.cells #[.pointer (some ⟨b, 0, none⟩)] 37)).drew := ((Below.refl _ _).alloc (Nat.le_refl _) _).drew
  have hp0 : (w.alloc (.cells #[.pointer (some ⟨b, 0, none⟩)] 37)).drew.cell? ⟨w.heap.size, 0, none⟩ = some (.pointer (some ⟨b, 0, none⟩)) := by simp
  have H := hide (h.keep hb0)
  have c0 := H.out.c0
  have hlen := h.2.2.2.2.1
  have A := hide (ahead_ok _ b a cap s s.l.length H.out he (Nat.le_refl _))
  have FIN := hide (zeros_fin w _ b a cap s 5 H.out hb0 hp0)
  have HZ := hide hz
  have HNZ := hide hnz
  clear h hb0 hz hnz
  go_enter_defers Try.func14, Try.ntmps14
  go_wp2
  go_region_held3 (fun w' => w'.cell? ⟨w.heap.size, 0, none⟩ = some (.pointer (some ⟨b, 0, none⟩)) ∧ w'.cell? ⟨b, 0, none⟩ = some (.slice a s.l.length cap))
    (first | exact ⟨hp0, c0⟩)
    (first | (go_at_call 36; refine A.out.mono ?_; rintro e w1 ⟨rfl, hw1⟩; subst w1))
  generalize (w.alloc (.cells #[.pointer (some ⟨b, 0, none⟩)] 37)).drew = W at *
  clear A
  go_wp2
  go_loopw [13] (fun i wx => ∃ j : Nat, j ≤ m ∧ i = .int .i64 j ∧ wx = W) (fun i _ => m - (intOf i).toNat)
  case atStart => exact ⟨0, Nat.zero_le _, rfl, rfl⟩
  case round =>
    obtain ⟨j, hj, rfl, hw⟩ := hrel
    subst wr
    have hjl : j < s.l.length := by omega
    have hi : (j : Int) < (s.l.length : Int) := by omega
    obtain ⟨g, off, rfl, hc⟩ := H.out.2.1.at2 (j := j) hjl
    by_cases hlt : j < m
    · rw [HZ.out j hlt] at hc
      go_wp2
      go_roundw
      case rel => exact ⟨j + 1, by omega, by go_num, trivial⟩
      case measure => simp [intOf]; omega
    · obtain rfl : m = j := by omega
      have h0 := HNZ.out
      generalize s.l.getD m 0 = y at *
      have hne : ((y : Int) == 0) = false := by simp; omega
      have hne2 : ((y : Int) != 0) = true := by simp; omega
      clear h0
      go_wp2
      exact FIN.out _

theorem Zeros_any (w : World) (b : Nat) (a : Option Addr) (cap : Nat) (s : RS) (h : Rd w b a cap s) :
    Calls Try.prog 14 #[.pointer (some ⟨b, 0, none⟩)] w fun x w' => x = .returned (.tuple #[]) ∧ DidR w w' b a s.zeros := by
  unfold RS.zeros
  by_cases he : s.e = 0
  · by_cases hz : s.l.all (· == 0) = true
    · have hE : s.zerosE = 0 := by unfold RS.zerosE; rw [if_neg (by omega), if_pos hz]
      rw [hE, if_neg (by decide)]
      have := Zeros_ok w b a cap s h he (all_zero hz)
      rw [he] at this
      exact this
    · have hE : s.zerosE = 5 := by unfold RS.zerosE; rw [if_neg (by omega), if_neg hz]
      rw [hE, if_pos (by decide)]
      obtain ⟨m, h1, h2, h3⟩ := first_not (by simpa using hz)
      exact Zeros_not w b a cap s m h he h1 h2 h3
  · have hE : s.zerosE = s.e := by unfold RS.zerosE; rw [if_pos he]
    rw [hE, if_pos he]
    exact Zeros_err w b a cap s h he
end Go.Proofs.Ytifhkfghjifecaa
