import Derived.Test.YtlkjpljfbmploaaWE
import Derived.Defers
import Derived.Recover
namespace Go.Proofs.Ytlkjpljfbmploaa
open Go.RowKit

/-- a reader, as the document has it: what is left, and its error -/
structure RS where
  l : List Nat
  e : Nat
/-- a reader in memory -/
def Rd (w : World) (b : Nat) (a : Option Addr) (cap : Nat) (s : RS) : Prop :=
  w.heap[b]? = some (.cells #[.slice a s.l.length cap, .int .i64 (s.e : Int)] 78 (0, 0)) ∧ Bs w a s.l ∧ s.l.length ≤ cap ∧ cap ≤ maxLen ∧ s.l.length ≤ 140737488355328 ∧ (a = none → cap = 0) ∧ (∀ x, a = some x → x.spot = none ∧ x.block ≠ b)
section
variable {w w' : World} {b : Nat} {a : Option Addr} {cap : Nat} {s : RS}
theorem Rd.lt (h : Rd w b a cap s) : b < w.heap.size := (Array.getElem?_eq_some_iff.1 h.1).1
theorem Rd.c0 (h : Rd w b a cap s) : w.cell? ⟨b, 0, none⟩ = some (.slice a s.l.length cap) := by rw [cell_of_row _ _ _ _ _ _ h.1]; rfl
theorem Rd.c1 (h : Rd w b a cap s) : w.cell? ⟨b, 1, none⟩ = some (.int .i64 (s.e : Int)) := by rw [cell_of_row _ _ _ _ _ _ h.1]; rfl
theorem Rd.f (h : Rd w b a cap s) (i : Nat) : w.frozen? ⟨b, i, none⟩ = false := frozen_of_row w b i _ _ h.1
theorem Rd.but {S : Nat → Prop} (h : Rd w b a cap s) (hb : But S w w') (hn : ∀ k, Ft b a k → ¬ S k) : Rd w' b a cap s :=
  ⟨(hb.block b h.lt (hn b (.inl rfl))).trans h.1, h.2.1.but hb fun x hx _ => hn _ (.inr ⟨x, hx, rfl⟩), h.2.2⟩
theorem Rd.keep (h : Rd w b a cap s) (hb : Below w.heap.size w w') : Rd w' b a cap s := h.but (S := fun _ => False) (But.ofBelow hb) fun _ _ hf => hf
theorem Rd.setE (h : Rd w b a cap s) (e : Nat) : Rd (w.setCell ⟨b, 1, none⟩ (.int .i64 (e : Int))) b a cap ⟨s.l, e⟩ :=
  ⟨heap_setCell_same w b 1 _ _ _ h.1, h.2.1.but (But.cell1 _ _ _ _) fun x hx _ e => (h.2.2.2.2.2.2 x hx).2 e, h.2.2⟩
theorem Rd.setL (h : Rd w b a cap s) {a' : Option Addr} {cap' : Nat} {l' : List Nat} {n : Nat} (hn : n = l'.length) (hB : Bs w a' l') (h1 : l'.length ≤ cap') (h2 : cap' ≤ maxLen) (h3 : l'.length ≤ 140737488355328) (h4 : a' = none → cap' = 0) (h5 : ∀ x, a' = some x → x.spot = none ∧ x.block ≠ b) :
    Rd (w.setCell ⟨b, 0, none⟩ (.slice a' n cap')) b a' cap' ⟨l', s.e⟩ := by
  subst hn
  exact ⟨heap_setCell_same w b 0 _ _ _ h.1, hB.but (But.cell1 _ _ _ _) fun x hx _ e => (h5 x hx).2 e, h1, h2, h3, h4, h5⟩
end
/-- the same memory, or none -/
def Stay (_ : World) (a a' : Option Addr) : Prop := ∀ x, a' = some x → ∃ y, a = some y ∧ y.block = x.block
theorem Stay.refl (w : World) (a : Option Addr) : Stay w a a := fun x hx => ⟨x, hx, rfl⟩
theorem Stay.none (w : World) (a : Option Addr) : Stay w a Option.none := fun x hx => by cases hx
theorem Stay.mono {w w1 : World} {a b : Option Addr} (h : Stay w1 a b) (_ : w.heap.size ≤ w1.heap.size) : Stay w a b := h
/-- what a call of a reader has done -/
def DidR (w w' : World) (b : Nat) (a : Option Addr) (s' : RS) : Prop := ∃ a' cap', Rd w' b a' cap' s' ∧ Stay w a a' ∧ But (fun k => k = b) w w'

/-- the panic of a call that gives up -/
def pan (e : Nat) : List PanicEntry := [{ v := .iface 54 (.int .i64 (e : Int)), recovered := false }]

theorem ahead_err (w : World) (b : Nat) (a : Option Addr) (cap : Nat) (s : RS) (n : Int) (h : Rd w b a cap s) (he : s.e ≠ 0) :
    Calls Try.prog 62 #[.pointer (some ⟨b, 0, none⟩), .int .i64 n] w fun x w' => x = .panicked (pan s.e) ∧ w' = w := by
  have c1 := h.c1
  have hz : (((s.e : Nat) : Int) == 0) = false := by simp; omega
  have hz2 : (((s.e : Nat) : Int) != 0) = true := by simp; omega
  clear h he
  go_enter Try.func62, Try.ntmps62
  go_wp2
  exact ⟨rfl, rfl, rfl⟩
theorem ahead_neg (w : World) (b : Nat) (a : Option Addr) (cap : Nat) (s : RS) (n : Int) (h : Rd w b a cap s) (he : s.e = 0) (hn : n < 0) :
    Calls Try.prog 62 #[.pointer (some ⟨b, 0, none⟩), .int .i64 n] w fun x w' => x = .panicked (pan 1) ∧ w' = w := by
  have c1 := h.c1
  rw [he] at c1
  clear h he
  go_enter Try.func62, Try.ntmps62
  go_wp2
  exact ⟨rfl, rfl, rfl⟩
theorem ahead_short (w : World) (b : Nat) (a : Option Addr) (cap : Nat) (s : RS) (n : Int) (h : Rd w b a cap s) (he : s.e = 0) (hn : (s.l.length : Int) < n) :
    Calls Try.prog 62 #[.pointer (some ⟨b, 0, none⟩), .int .i64 n] w fun x w' => x = .panicked (pan 2) ∧ w' = w := by
  have c0 := h.c0
  have c1 := h.c1
  rw [he] at c1
  have hn2 : ¬ n < 0 := by omega
  clear h he
  go_enter Try.func62, Try.ntmps62
  go_wp2
  exact ⟨rfl, rfl, rfl⟩
theorem ahead_ok (w : World) (b : Nat) (a : Option Addr) (cap : Nat) (s : RS) (n : Nat) (h : Rd w b a cap s) (he : s.e = 0) (hn : n ≤ s.l.length) :
    Calls Try.prog 62 #[.pointer (some ⟨b, 0, none⟩), .int .i64 (n : Int)] w fun x w' => x = .returned (.slice a n cap) ∧ w' = w := by
  have c0 := h.c0
  have c1 := h.c1
  rw [he] at c1
  have hn2 : ¬ (n : Int) < 0 := by omega
  have hn3 : ¬ (s.l.length : Int) < (n : Int) := by omega
  have hI1 : (n : Int) ≤ (cap : Int) := by have := h.2.2.1; omega
  have hI2 : (0 : Int) ≤ (n : Int) := by omega
  have hcm := h.2.2.2.1
  unfold maxLen at hcm
  have hI3 : (cap : Int) ≤ 9223372036854775807 := by omega
  have hcap := h.2.2.2.2.2.1
  clear h he hcm
  cases a with
  | none =>
    obtain rfl := hcap rfl
    obtain rfl : n = 0 := by omega
    clear hcap
    go_enter Try.func62, Try.ntmps62
    go_wp2
    go_ret
    exact ⟨rfl, rfl⟩
  | some x =>
    clear hcap
    go_enter Try.func62, Try.ntmps62
    go_wp2
    go_ret
    exact ⟨rfl, rfl⟩

theorem run_assert (v : Value) (w : World) : (Instr.typeAssert (.iface 54 v) 20 54 false).run Try.prog w = .ok v w := by
  simp [Instr.typeAssert, run_underlying Try.underlying54]
theorem stop_any (w : World) (b : Nat) (a : Option Addr) (cap : Nat) (s : RS) (er : Nat) (h : Rd w b a cap s) :
    Calls Try.prog 61 #[.pointer (some ⟨b, 0, none⟩), .iface 54 (.int .i64 (er : Int))] w fun x w' => x = .returned (.tuple #[]) ∧ w' = w.setCell ⟨b, 1, none⟩ (.int .i64 (er : Int)) := by
  have c1 := h.c1
  have f1 := h.f 1
  clear h
  have hta := run_assert (.int .i64 (er : Int))
  go_enter Try.func61, Try.ntmps61
  go_wp2
  go_end0
  exact ⟨rfl, rfl⟩

/-- the error with which a look at the next n bytes gives up; 0: none -/
def RS.fail (s : RS) (n : Int) : Nat := if s.e ≠ 0 then s.e else if n < 0 then 1 else if (s.l.length : Int) < n then 2 else 0
theorem ahead_pan (w : World) (b : Nat) (a : Option Addr) (cap : Nat) (s : RS) (n : Int) (h : Rd w b a cap s) (hf : s.fail n ≠ 0) :
    Calls Try.prog 62 #[.pointer (some ⟨b, 0, none⟩), .int .i64 n] w fun x w' => x = .panicked (pan (s.fail n)) ∧ w' = w := by
  unfold RS.fail at hf ⊢
  by_cases he : s.e = 0
  · rw [if_neg (by omega)] at hf ⊢
    by_cases hn : n < 0
    · rw [if_pos hn]; exact ahead_neg w b a cap s n h he hn
    · rw [if_neg hn] at hf ⊢
      by_cases hl : (s.l.length : Int) < n
      · rw [if_pos hl]; exact ahead_short w b a cap s n h he hl
      · rw [if_neg hl] at hf; exact absurd rfl hf
  · rw [if_pos he]; exact ahead_err w b a cap s n h he
theorem RS.fail_zero {s : RS} {n : Int} (h : s.fail n = 0) : s.e = 0 ∧ 0 ≤ n ∧ n ≤ s.l.length := by
  unfold RS.fail at h
  by_cases he : s.e = 0
  · rw [if_neg (by omega)] at h
    by_cases hn : n < 0
    · rw [if_pos hn] at h; cases h
    · rw [if_neg hn] at h
      by_cases hl : (s.l.length : Int) < n
      · rw [if_pos hl] at h; cases h
      · exact ⟨he, by omega, by omega⟩
  · rw [if_pos he] at h; exact absurd h he
theorem RS.fail_ok {s : RS} {n : Int} (he : s.e = 0) (h0 : 0 ≤ n) (hn : n ≤ s.l.length) : s.fail n = 0 := by
  unfold RS.fail
  rw [if_neg (by omega), if_neg (by omega), if_neg (by omega)]

theorem add_off (g off n : Nat) : (⟨g, off, none⟩ : Addr).add n = ⟨g, off + n, none⟩ := by unfold Addr.add; split <;> simp_all
theorem Bs.drop {w : World} {g off : Nat} {l : List Nat} (h : Bs w (some ⟨g, off, none⟩) l) (n : Nat) : Bs w (some ⟨g, off + n, none⟩) (l.drop n) := by
  obtain ⟨h1, h2, h3⟩ := h
  refine ⟨fun x hx => h1 x (List.mem_of_mem_drop hx), by rw [List.length_drop]; omega, ?_⟩
  rcases h3 with rfl | ⟨b, o, e, hc⟩
  · exact .inl (by simp)
  · simp only [Option.some.injEq, Addr.mk.injEq] at e
    obtain ⟨rfl, rfl, _⟩ := e
    refine .inr ⟨g, off + n, rfl, fun i hi => ?_⟩
    rw [List.length_drop] at hi
    rw [Nat.add_assoc, hc (n + i) (by omega)]
    congr 3
    simp [List.getD, List.getElem?_drop]
theorem Bs.take {w : World} {a : Option Addr} {l : List Nat} (h : Bs w a l) (n : Nat) : Bs w a (l.take n) := by
  obtain ⟨h1, h2, h3⟩ := h
  refine ⟨fun x hx => h1 x (List.mem_of_mem_take hx), by rw [List.length_take]; omega, ?_⟩
  rcases h3 with rfl | ⟨b, o, rfl, hc⟩
  · exact .inl (by simp)
  · refine .inr ⟨b, o, rfl, fun i hi => ?_⟩
    rw [List.length_take] at hi
    rw [hc i (by omega)]
    congr 3
    simp [List.getD, show i < n by omega]

set_option maxHeartbeats 800000 in
theorem pass_any (w : World) (b : Nat) (a : Option Addr) (cap : Nat) (s : RS) (n : Nat) (h : Rd w b a cap s) (hn : n ≤ s.l.length) :
    Calls Try.prog 63 #[.pointer (some ⟨b, 0, none⟩), .int .i64 (n : Int)] w fun x w' => x = .returned (.tuple #[]) ∧ DidR w w' b a ⟨s.l.drop n, s.e⟩ := by
  have c0 := h.c0
  have f0 := h.f 0
  have hcl := h.2.2.1
  have hcm := h.2.2.2.1
  unfold maxLen at hcm
  have hI1 : (n : Int) ≤ (s.l.length : Int) := by omega
  have hI4 : (s.l.length : Int) ≤ (cap : Int) := by omega
  have hI2 : (0 : Int) ≤ (n : Int) := by omega
  have hI3 : (cap : Int) ≤ 9223372036854775807 := by omega
  have H := hide h
  have hcap := h.2.2.2.2.2.1
  clear h hcm
  cases a with
  | none =>
    obtain rfl := hcap rfl
    have hl0 : s.l = [] := List.length_eq_zero_iff.1 (by omega)
    obtain rfl : n = 0 := by omega
    rw [List.drop_zero]
    clear hcap hcl
    go_enter Try.func63, Try.ntmps63
    go_wp2
    go_end0
    exact ⟨rfl, none, 0, H.out.setL (by rw [hl0]; rfl) H.out.2.1 H.out.2.2.1 H.out.2.2.2.1 H.out.2.2.2.2.1 (fun _ => rfl) (fun x hx => by cases hx), Stay.none w _, But.cell1 _ _ _ _⟩
  | some x =>
    obtain ⟨g, off, spot⟩ := x
    obtain rfl : spot = none := (H.out.2.2.2.2.2.2 _ rfl).1
    clear hcap
    go_enter Try.func63, Try.ntmps63
    go_wp2
    · go_end0
      have hl0 : s.l.drop n = [] := List.drop_eq_nil_iff.2 (by omega)
      refine ⟨rfl, some ⟨g, off, none⟩, 0, H.out.setL (by rw [hl0]; show s.l.length - n = 0; omega) (by rw [hl0]; exact Bs.empty _ _) (by rw [hl0]; exact Nat.le_refl _) (Nat.zero_le _) (by rw [hl0]; exact Nat.zero_le _) (fun h => by cases h) H.out.2.2.2.2.2.2, Stay.refl w _, But.cell1 _ _ _ _⟩
    · go_end0
      refine ⟨rfl, some ⟨g, off + n, none⟩, cap - n, H.out.setL (by rw [List.length_drop]) (H.out.2.1.drop n) (by rw [List.length_drop]; omega) (by have := H.out.2.2.2.1; omega) (by rw [List.length_drop]; have := H.out.2.2.2.2.1; omega) (fun h => by cases h) (fun x hx => ?_), fun x hx => ⟨_, rfl, ?_⟩, But.cell1 _ _ _ _⟩
      · simp only [Option.some.injEq] at hx
        subst hx
        exact ⟨rfl, (H.out.2.2.2.2.2.2 _ rfl).2⟩
      · simp only [Option.some.injEq] at hx
        subst hx
        rfl

theorem catch_pan_pGet8C (w : World) (p : Addr) (b : Nat) (a : Option Addr) (cap : Nat) (s : RS) (er : Nat) (h : Rd w b a cap s) (hp : w.cell? p = some (.pointer (some ⟨b, 0, none⟩))) :
    CallsD Try.prog 72 #[.pointer (some p)] (.panicking (pan er)) w fun e u' w' =>
      e = .returned (.tuple #[]) ∧ u' = .panicking [{ v := .iface 54 (.int .i64 (er : Int)), recovered := true }] ∧ w' = w.setCell ⟨b, 1, none⟩ (.int .i64 (er : Int)) := by
  refine callsD_of_wpS Try.func72 rfl fun c₀ cs hu => ?_
  apply wpS_seq
  apply wpS_region
  simp [wpOpsS, go_sem, recoverD, hu, pan, Try.ntmps72, Exit.thenS]
  have R := hide (stop_any w b a cap s er h)
  clear h hu
  refine wpS_of_wp ?_
  generalize hB : bodyPostS Try.prog Try.f72 c₀ cs _ = B
  have ht : (#[Value.pointer (some p)] ++ ((Array.replicate 7 undef).setIfInBounds 1 (Value.iface 54 (Value.int IntKind.i64 ↑er))).setIfInBounds 0 (Value.iface 54 (Value.int IntKind.i64 ↑er))) = #[.pointer (some p), .iface 54 (.int .i64 (er : Int)), .iface 54 (.int .i64 (er : Int)), undef, undef, undef, undef, undef] := by rfl
  rw [ht]
  go_wp2_with fail
  refine R.out.mono ?_
  rintro e w1 ⟨rfl, rfl⟩
  go_wp2
  rw [← hB]
  exact ⟨rfl, _, rfl, _, results_none rfl _ _ _, rfl, rfl, rfl⟩
theorem catch_idle_pGet8C (w : World) (p : Addr) :
    CallsD Try.prog 72 #[.pointer (some p)] .returning w fun e u' w' => e = .returned (.tuple #[]) ∧ u' = .returning ∧ w' = w := by
  refine callsD_of_wpS Try.func72 rfl fun c₀ cs hu => ?_
  apply wpS_seq
  apply wpS_region
  simp [wpOpsS, go_sem, recoverD, hu, Try.ntmps72, Exit.thenS]
  refine wpS_of_wp ?_
  generalize hB : bodyPostS Try.prog Try.f72 c₀ cs _ = B
  have ht : (#[Value.pointer (some p)] ++ ((Array.replicate 7 undef).setIfInBounds 1 Value.nilIface).setIfInBounds 0 Value.nilIface) = #[.pointer (some p), .nilIface, .nilIface, undef, undef, undef, undef, undef] := by rfl
  rw [ht]
  go_wp2
  rw [← hB]
  cases c₀
  simp only at hu
  subst hu
  exact ⟨rfl, _, rfl, _, results_none rfl _ _ _, rfl, rfl, rfl⟩

theorem catch_pan_pGet16C (w : World) (p : Addr) (b : Nat) (a : Option Addr) (cap : Nat) (s : RS) (er : Nat) (h : Rd w b a cap s) (hp : w.cell? p = some (.pointer (some ⟨b, 0, none⟩))) :
    CallsD Try.prog 73 #[.pointer (some p)] (.panicking (pan er)) w fun e u' w' =>
      e = .returned (.tuple #[]) ∧ u' = .panicking [{ v := .iface 54 (.int .i64 (er : Int)), recovered := true }] ∧ w' = w.setCell ⟨b, 1, none⟩ (.int .i64 (er : Int)) := by
  refine callsD_of_wpS Try.func73 rfl fun c₀ cs hu => ?_
  apply wpS_seq
  apply wpS_region
  simp [wpOpsS, go_sem, recoverD, hu, pan, Try.ntmps73, Exit.thenS]
  have R := hide (stop_any w b a cap s er h)
  clear h hu
  refine wpS_of_wp ?_
  generalize hB : bodyPostS Try.prog Try.f73 c₀ cs _ = B
  have ht : (#[Value.pointer (some p)] ++ ((Array.replicate 7 undef).setIfInBounds 1 (Value.iface 54 (Value.int IntKind.i64 ↑er))).setIfInBounds 0 (Value.iface 54 (Value.int IntKind.i64 ↑er))) = #[.pointer (some p), .iface 54 (.int .i64 (er : Int)), .iface 54 (.int .i64 (er : Int)), undef, undef, undef, undef, undef] := by rfl
  rw [ht]
  go_wp2_with fail
  refine R.out.mono ?_
  rintro e w1 ⟨rfl, rfl⟩
  go_wp2
  rw [← hB]
  exact ⟨rfl, _, rfl, _, results_none rfl _ _ _, rfl, rfl, rfl⟩
theorem catch_idle_pGet16C (w : World) (p : Addr) :
    CallsD Try.prog 73 #[.pointer (some p)] .returning w fun e u' w' => e = .returned (.tuple #[]) ∧ u' = .returning ∧ w' = w := by
  refine callsD_of_wpS Try.func73 rfl fun c₀ cs hu => ?_
  apply wpS_seq
  apply wpS_region
  simp [wpOpsS, go_sem, recoverD, hu, Try.ntmps73, Exit.thenS]
  refine wpS_of_wp ?_
  generalize hB : bodyPostS Try.prog Try.f73 c₀ cs _ = B
  have ht : (#[Value.pointer (some p)] ++ ((Array.replicate 7 undef).setIfInBounds 1 Value.nilIface).setIfInBounds 0 Value.nilIface) = #[.pointer (some p), .nilIface, .nilIface, undef, undef, undef, undef, undef] := by rfl
  rw [ht]
  go_wp2
  rw [← hB]
  cases c₀
  simp only at hu
  subst hu
  exact ⟨rfl, _, rfl, _, results_none rfl _ _ _, rfl, rfl, rfl⟩

theorem catch_pan_pGet32C (w : World) (p : Addr) (b : Nat) (a : Option Addr) (cap : Nat) (s : RS) (er : Nat) (h : Rd w b a cap s) (hp : w.cell? p = some (.pointer (some ⟨b, 0, none⟩))) :
    CallsD Try.prog 74 #[.pointer (some p)] (.panicking (pan er)) w fun e u' w' =>
      e = .returned (.tuple #[]) ∧ u' = .panicking [{ v := .iface 54 (.int .i64 (er : Int)), recovered := true }] ∧ w' = w.setCell ⟨b, 1, none⟩ (.int .i64 (er : Int)) := by
  refine callsD_of_wpS Try.func74 rfl fun c₀ cs hu => ?_
  apply wpS_seq
  apply wpS_region
  simp [wpOpsS, go_sem, recoverD, hu, pan, Try.ntmps74, Exit.thenS]
  have R := hide (stop_any w b a cap s er h)
  clear h hu
  refine wpS_of_wp ?_
  generalize hB : bodyPostS Try.prog Try.f74 c₀ cs _ = B
  have ht : (#[Value.pointer (some p)] ++ ((Array.replicate 7 undef).setIfInBounds 1 (Value.iface 54 (Value.int IntKind.i64 ↑er))).setIfInBounds 0 (Value.iface 54 (Value.int IntKind.i64 ↑er))) = #[.pointer (some p), .iface 54 (.int .i64 (er : Int)), .iface 54 (.int .i64 (er : Int)), undef, undef, undef, undef, undef] := by rfl
  rw [ht]
  go_wp2_with fail
  refine R.out.mono ?_
  rintro e w1 ⟨rfl, rfl⟩
  go_wp2
  rw [← hB]
  exact ⟨rfl, _, rfl, _, results_none rfl _ _ _, rfl, rfl, rfl⟩
theorem catch_idle_pGet32C (w : World) (p : Addr) :
    CallsD Try.prog 74 #[.pointer (some p)] .returning w fun e u' w' => e = .returned (.tuple #[]) ∧ u' = .returning ∧ w' = w := by
  refine callsD_of_wpS Try.func74 rfl fun c₀ cs hu => ?_
  apply wpS_seq
  apply wpS_region
  simp [wpOpsS, go_sem, recoverD, hu, Try.ntmps74, Exit.thenS]
  refine wpS_of_wp ?_
  generalize hB : bodyPostS Try.prog Try.f74 c₀ cs _ = B
  have ht : (#[Value.pointer (some p)] ++ ((Array.replicate 7 undef).setIfInBounds 1 Value.nilIface).setIfInBounds 0 Value.nilIface) = #[.pointer (some p), .nilIface, .nilIface, undef, undef, undef, undef, undef] := by rfl
  rw [ht]
  go_wp2
  rw [← hB]
  cases c₀
  simp only at hu
  subst hu
  exact ⟨rfl, _, rfl, _, results_none rfl _ _ _, rfl, rfl, rfl⟩

theorem catch_pan_pGet64C (w : World) (p : Addr) (b : Nat) (a : Option Addr) (cap : Nat) (s : RS) (er : Nat) (h : Rd w b a cap s) (hp : w.cell? p = some (.pointer (some ⟨b, 0, none⟩))) :
    CallsD Try.prog 75 #[.pointer (some p)] (.panicking (pan er)) w fun e u' w' =>
      e = .returned (.tuple #[]) ∧ u' = .panicking [{ v := .iface 54 (.int .i64 (er : Int)), recovered := true }] ∧ w' = w.setCell ⟨b, 1, none⟩ (.int .i64 (er : Int)) := by
  refine callsD_of_wpS Try.func75 rfl fun c₀ cs hu => ?_
  apply wpS_seq
  apply wpS_region
  simp [wpOpsS, go_sem, recoverD, hu, pan, Try.ntmps75, Exit.thenS]
  have R := hide (stop_any w b a cap s er h)
  clear h hu
  refine wpS_of_wp ?_
  generalize hB : bodyPostS Try.prog Try.f75 c₀ cs _ = B
  have ht : (#[Value.pointer (some p)] ++ ((Array.replicate 7 undef).setIfInBounds 1 (Value.iface 54 (Value.int IntKind.i64 ↑er))).setIfInBounds 0 (Value.iface 54 (Value.int IntKind.i64 ↑er))) = #[.pointer (some p), .iface 54 (.int .i64 (er : Int)), .iface 54 (.int .i64 (er : Int)), undef, undef, undef, undef, undef] := by rfl
  rw [ht]
  go_wp2_with fail
  refine R.out.mono ?_
  rintro e w1 ⟨rfl, rfl⟩
  go_wp2
  rw [← hB]
  exact ⟨rfl, _, rfl, _, results_none rfl _ _ _, rfl, rfl, rfl⟩
theorem catch_idle_pGet64C (w : World) (p : Addr) :
    CallsD Try.prog 75 #[.pointer (some p)] .returning w fun e u' w' => e = .returned (.tuple #[]) ∧ u' = .returning ∧ w' = w := by
  refine callsD_of_wpS Try.func75 rfl fun c₀ cs hu => ?_
  apply wpS_seq
  apply wpS_region
  simp [wpOpsS, go_sem, recoverD, hu, Try.ntmps75, Exit.thenS]
  refine wpS_of_wp ?_
  generalize hB : bodyPostS Try.prog Try.f75 c₀ cs _ = B
  have ht : (#[Value.pointer (some p)] ++ ((Array.replicate 7 undef).setIfInBounds 1 Value.nilIface).setIfInBounds 0 Value.nilIface) = #[.pointer (some p), .nilIface, .nilIface, undef, undef, undef, undef, undef] := by rfl
  rw [ht]
  go_wp2
  rw [← hB]
  cases c₀
  simp only at hu
  subst hu
  exact ⟨rfl, _, rfl, _, results_none rfl _ _ _, rfl, rfl, rfl⟩

theorem catch_pan_pRRawC (w : World) (p : Addr) (b : Nat) (a : Option Addr) (cap : Nat) (s : RS) (er : Nat) (h : Rd w b a cap s) (hp : w.cell? p = some (.pointer (some ⟨b, 0, none⟩))) :
    CallsD Try.prog 76 #[.pointer (some p)] (.panicking (pan er)) w fun e u' w' =>
      e = .returned (.tuple #[]) ∧ u' = .panicking [{ v := .iface 54 (.int .i64 (er : Int)), recovered := true }] ∧ w' = w.setCell ⟨b, 1, none⟩ (.int .i64 (er : Int)) := by
  refine callsD_of_wpS Try.func76 rfl fun c₀ cs hu => ?_
  apply wpS_seq
  apply wpS_region
  simp [wpOpsS, go_sem, recoverD, hu, pan, Try.ntmps76, Exit.thenS]
  have R := hide (stop_any w b a cap s er h)
  clear h hu
  refine wpS_of_wp ?_
  generalize hB : bodyPostS Try.prog Try.f76 c₀ cs _ = B
  have ht : (#[Value.pointer (some p)] ++ ((Array.replicate 7 undef).setIfInBounds 1 (Value.iface 54 (Value.int IntKind.i64 ↑er))).setIfInBounds 0 (Value.iface 54 (Value.int IntKind.i64 ↑er))) = #[.pointer (some p), .iface 54 (.int .i64 (er : Int)), .iface 54 (.int .i64 (er : Int)), undef, undef, undef, undef, undef] := by rfl
  rw [ht]
  go_wp2_with fail
  refine R.out.mono ?_
  rintro e w1 ⟨rfl, rfl⟩
  go_wp2
  rw [← hB]
  exact ⟨rfl, _, rfl, _, results_none rfl _ _ _, rfl, rfl, rfl⟩
theorem catch_idle_pRRawC (w : World) (p : Addr) :
    CallsD Try.prog 76 #[.pointer (some p)] .returning w fun e u' w' => e = .returned (.tuple #[]) ∧ u' = .returning ∧ w' = w := by
  refine callsD_of_wpS Try.func76 rfl fun c₀ cs hu => ?_
  apply wpS_seq
  apply wpS_region
  simp [wpOpsS, go_sem, recoverD, hu, Try.ntmps76, Exit.thenS]
  refine wpS_of_wp ?_
  generalize hB : bodyPostS Try.prog Try.f76 c₀ cs _ = B
  have ht : (#[Value.pointer (some p)] ++ ((Array.replicate 7 undef).setIfInBounds 1 Value.nilIface).setIfInBounds 0 Value.nilIface) = #[.pointer (some p), .nilIface, .nilIface, undef, undef, undef, undef, undef] := by rfl
  rw [ht]
  go_wp2
  rw [← hB]
  cases c₀
  simp only at hu
  subst hu
  exact ⟨rfl, _, rfl, _, results_none rfl _ _ _, rfl, rfl, rfl⟩

theorem catch_pan_pRShortC (w : World) (p : Addr) (b : Nat) (a : Option Addr) (cap : Nat) (s : RS) (er : Nat) (h : Rd w b a cap s) (hp : w.cell? p = some (.pointer (some ⟨b, 0, none⟩))) :
    CallsD Try.prog 78 #[.pointer (some p)] (.panicking (pan er)) w fun e u' w' =>
      e = .returned (.tuple #[]) ∧ u' = .panicking [{ v := .iface 54 (.int .i64 (er : Int)), recovered := true }] ∧ w' = w.setCell ⟨b, 1, none⟩ (.int .i64 (er : Int)) := by
  refine callsD_of_wpS Try.func78 rfl fun c₀ cs hu => ?_
  apply wpS_seq
  apply wpS_region
  simp [wpOpsS, go_sem, recoverD, hu, pan, Try.ntmps78, Exit.thenS]
  have R := hide (stop_any w b a cap s er h)
  clear h hu
  refine wpS_of_wp ?_
  generalize hB : bodyPostS Try.prog Try.f78 c₀ cs _ = B
  have ht : (#[Value.pointer (some p)] ++ ((Array.replicate 7 undef).setIfInBounds 1 (Value.iface 54 (Value.int IntKind.i64 ↑er))).setIfInBounds 0 (Value.iface 54 (Value.int IntKind.i64 ↑er))) = #[.pointer (some p), .iface 54 (.int .i64 (er : Int)), .iface 54 (.int .i64 (er : Int)), undef, undef, undef, undef, undef] := by rfl
  rw [ht]
  go_wp2_with fail
  refine R.out.mono ?_
  rintro e w1 ⟨rfl, rfl⟩
  go_wp2
  rw [← hB]
  exact ⟨rfl, _, rfl, _, results_none rfl _ _ _, rfl, rfl, rfl⟩
theorem catch_idle_pRShortC (w : World) (p : Addr) :
    CallsD Try.prog 78 #[.pointer (some p)] .returning w fun e u' w' => e = .returned (.tuple #[]) ∧ u' = .returning ∧ w' = w := by
  refine callsD_of_wpS Try.func78 rfl fun c₀ cs hu => ?_
  apply wpS_seq
  apply wpS_region
  simp [wpOpsS, go_sem, recoverD, hu, Try.ntmps78, Exit.thenS]
  refine wpS_of_wp ?_
  generalize hB : bodyPostS Try.prog Try.f78 c₀ cs _ = B
  have ht : (#[Value.pointer (some p)] ++ ((Array.replicate 7 undef).setIfInBounds 1 Value.nilIface).setIfInBounds 0 Value.nilIface) = #[.pointer (some p), .nilIface, .nilIface, undef, undef, undef, undef, undef] := by rfl
  rw [ht]
  go_wp2
  rw [← hB]
  cases c₀
  simp only at hu
  subst hu
  exact ⟨rfl, _, rfl, _, results_none rfl _ _ _, rfl, rfl, rfl⟩

theorem catch_pan_pRZerosC (w : World) (p : Addr) (b : Nat) (a : Option Addr) (cap : Nat) (s : RS) (er : Nat) (h : Rd w b a cap s) (hp : w.cell? p = some (.pointer (some ⟨b, 0, none⟩))) :
    CallsD Try.prog 60 #[.pointer (some p)] (.panicking (pan er)) w fun e u' w' =>
      e = .returned (.tuple #[]) ∧ u' = .panicking [{ v := .iface 54 (.int .i64 (er : Int)), recovered := true }] ∧ w' = w.setCell ⟨b, 1, none⟩ (.int .i64 (er : Int)) := by
  refine callsD_of_wpS Try.func60 rfl fun c₀ cs hu => ?_
  apply wpS_seq
  apply wpS_region
  simp [wpOpsS, go_sem, recoverD, hu, pan, Try.ntmps60, Exit.thenS]
  have R := hide (stop_any w b a cap s er h)
  clear h hu
  refine wpS_of_wp ?_
  generalize hB : bodyPostS Try.prog Try.f60 c₀ cs _ = B
  have ht : (#[Value.pointer (some p)] ++ ((Array.replicate 7 undef).setIfInBounds 1 (Value.iface 54 (Value.int IntKind.i64 ↑er))).setIfInBounds 0 (Value.iface 54 (Value.int IntKind.i64 ↑er))) = #[.pointer (some p), .iface 54 (.int .i64 (er : Int)), .iface 54 (.int .i64 (er : Int)), undef, undef, undef, undef, undef] := by rfl
  rw [ht]
  go_wp2_with fail
  refine R.out.mono ?_
  rintro e w1 ⟨rfl, rfl⟩
  go_wp2
  rw [← hB]
  exact ⟨rfl, _, rfl, _, results_none rfl _ _ _, rfl, rfl, rfl⟩
theorem catch_idle_pRZerosC (w : World) (p : Addr) :
    CallsD Try.prog 60 #[.pointer (some p)] .returning w fun e u' w' => e = .returned (.tuple #[]) ∧ u' = .returning ∧ w' = w := by
  refine callsD_of_wpS Try.func60 rfl fun c₀ cs hu => ?_
  apply wpS_seq
  apply wpS_region
  simp [wpOpsS, go_sem, recoverD, hu, Try.ntmps60, Exit.thenS]
  refine wpS_of_wp ?_
  generalize hB : bodyPostS Try.prog Try.f60 c₀ cs _ = B
  have ht : (#[Value.pointer (some p)] ++ ((Array.replicate 7 undef).setIfInBounds 1 Value.nilIface).setIfInBounds 0 Value.nilIface) = #[.pointer (some p), .nilIface, .nilIface, undef, undef, undef, undef, undef] := by rfl
  rw [ht]
  go_wp2
  rw [← hB]
  cases c₀
  simp only at hu
  subst hu
  exact ⟨rfl, _, rfl, _, results_none rfl _ _ _, rfl, rfl, rfl⟩
end Go.Proofs.Ytlkjpljfbmploaa
