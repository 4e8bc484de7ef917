import Derived.Test.YtlkjpljfbmploaaRA
import Derived.Deep.RegionWith
namespace Go.Proofs.Ytlkjpljfbmploaa
open Go.RowKit

theorem mkf : ∀ (fn : Fn) (first cap : Array Value) (w : World), (Instr.makeFunc fn first cap).run Try.prog w = .ok (.func fn first cap) w := fun _ _ _ _ => rfl
theorem DidR.pre {w w1 w2 : World} {b : Nat} {a : Option Addr} {s : RS} (hb : Below w.heap.size w w1) (h : DidR w1 w2 b a s) : DidR w w2 b a s := by
  obtain ⟨a', cap', h1, h2, h3⟩ := h
  exact ⟨a', cap', h1, h2.mono hb.size, (But.ofBelow hb).trans h3 fun _ _ h => h⟩
theorem DidR.post {w w1 w2 : World} {b : Nat} {a : Option Addr} {s : RS} (h : DidR w w1 b a s) (hb : Below w1.heap.size w1 w2) : DidR w w2 b a s := by
  obtain ⟨a', cap', h1, h2, h3⟩ := h
  exact ⟨a', cap', h1.keep hb, h2, h3.andBelow hb⟩
/-- what a call that gave up has done -/
theorem gave_up {w w1 : World} {b : Nat} {a : Option Addr} {cap : Nat} {s : RS} (h : Rd w1 b a cap s) (hb : Below w.heap.size w w1) (er : Nat) : DidR w (w1.setCell ⟨b, 1, none⟩ (.int .i64 (er : Int))) b a ⟨s.l, er⟩ :=
  ⟨a, cap, h.setE er, Stay.refl w _, (But.ofBelow hb).trans (But.cell1 _ _ _ _) fun _ _ h => h⟩

set_option maxHeartbeats 800000 in
theorem RRaw_pan (w : World) (b : Nat) (a : Option Addr) (cap : Nat) (s : RS) (n : Int) (h : Rd w b a cap s) (hf : s.fail n ≠ 0) :
    Calls Try.prog 50 #[.pointer (some ⟨b, 0, none⟩), .int .i64 n] w fun x w' => x = .returned (.slice none 0 0) ∧ DidR w w' b a ⟨s.l, s.fail n⟩ := by
  have hmf := mkf
  have hb0 : Below w.heap.size w (w.alloc (.cells #[.pointer (some ⟨b, 0, none⟩)] 40)) := (Below.refl _ _).alloc (Nat.le_refl _) _
  have H := hide (h.keep hb0)
  have A := hide (ahead_pan _ b a cap s n H.out hf)
  clear h hf
  generalize s.fail n = er at *
  go_enter_defers Try.func50, Try.ntmps50
  go_wp2_with (go_at_call 62; refine A.out.mono ?_; rintro e w1 ⟨rfl, hw1⟩; subst w1)
  refine leaves_cons (f := 76) (args := #[.pointer (some ⟨w.heap.size, 0, none⟩)]) (by simp) (by simp [go_sem]) ?_
  refine (catch_pan_pRRawC _ ⟨w.heap.size, 0, none⟩ b a cap s er H.out ?_).mono ?_
  · simp [go_sem]
  rintro e u' w'' ⟨rfl, rfl, rfl⟩
  have G := gave_up H.out hb0 er
  simp [Leaves, settle, results, Try.results50, go_sem]
  exact G

theorem Rw.didR {w w1 w2 : World} {b : Nat} {a a' : Option Addr} {cap' : Nat} {l : List Nat} {s : RS} (hR : Rw w1 a' cap' l) (hN : New w none a') (hlt : b < w.heap.size) (h : DidR w1 w2 b a s) : Rw w2 a' cap' l := by
  obtain ⟨_, _, _, _, h3⟩ := h
  refine hR.but h3 fun x hx e => ?_
  rcases hN x hx with ⟨y, hy, _⟩ | h
  · cases hy
  · omega

/-- what Raw reads, and what is left -/
def RS.raw (s : RS) (n : Int) : List Nat × RS := if s.fail n ≠ 0 then ([], ⟨s.l, s.fail n⟩) else (s.l.take n.toNat, ⟨s.l.drop n.toNat, 0⟩)
set_option maxHeartbeats 800000 in
theorem RRaw_any (w : World) (b : Nat) (a : Option Addr) (cap : Nat) (s : RS) (n : Int) (h : Rd w b a cap s) :
    Calls Try.prog 50 #[.pointer (some ⟨b, 0, none⟩), .int .i64 n] w fun x w' => ∃ a' cap', x = .returned (.slice a' (s.raw n).1.length cap') ∧ Rw w' a' cap' (s.raw n).1 ∧ New w none a' ∧ DidR w w' b a (s.raw n).2 := by
  by_cases hf : s.fail n ≠ 0
  · refine (RRaw_pan w b a cap s n h hf).mono ?_
    rintro e w1 ⟨rfl, h1⟩
    unfold RS.raw
    rw [if_pos hf]
    exact ⟨none, 0, rfl, Rw.nil _, New.none _ _, h1⟩
  · have hf0 : s.fail n = 0 := by omega
    obtain ⟨he, h0, hn⟩ := RS.fail_zero hf0
    obtain ⟨k, rfl⟩ : ∃ k : Nat, n = (k : Int) := ⟨n.toNat, by omega⟩
    have hk : k ≤ s.l.length := by omega
    have hlenk : (s.l.take k).length = k := by rw [List.length_take]; omega
    have hr : s.raw (k : Int) = (s.l.take k, ⟨s.l.drop k, s.e⟩) := by unfold RS.raw; rw [if_neg (by omega), he]; rfl
    rw [hr]
    dsimp only
    rw [hlenk]
    clear hf hf0 h0 hn hr
    have hmf := mkf
    have hb0 : Below w.heap.size w (w.alloc (.cells #[.pointer (some ⟨b, 0, none⟩)] 40)) := (Below.refl _ _).alloc (Nat.le_refl _) _
    have HLT := hide h.lt
    have H := hide (h.keep hb0)
    have A := hide (ahead_ok _ b a cap s k H.out he hk)
    have C := hide (Clone_any _ a k cap (s.l.take k) (H.out.2.1.take k) hlenk.symm (by have := H.out.2.2.2.2.1; omega))
    have HK := hide hk
    have HB0 := hide hb0
    clear h he hk hlenk hb0
    go_enter_defers Try.func50, Try.ntmps50
    go_wp2_with (go_at_call 62; refine A.out.mono ?_; rintro e w1 ⟨rfl, hw1⟩; subst w1)
    refine C.out.mono ?_
    rintro e w2 ⟨a', cap', rfl, hR, hN, hb⟩
    have hp : w2.cell? ⟨w.heap.size, 0, none⟩ = some (.pointer (some ⟨b, 0, none⟩)) := by
      rw [hb.cell (p := ⟨w.heap.size, 0, none⟩) (by rw [size_alloc]; exact Nat.lt_succ_self _)]; simp
    have PS := hide (pass_any w2 b a cap s k (H.out.keep hb) HK.out)
    have HR := hide hR
    have HNW := hide hN
    have HBB := hide hb
    clear hR hN hb
    go_wp2_with fail
    refine PS.out.mono ?_
    rintro e w3 ⟨rfl, h3⟩
    have H3 := hide h3
    clear h3
    go_wp2
    refine leaves_cons (f := 76) (args := #[.pointer (some ⟨w.heap.size, 0, none⟩)]) (by simp) (by simp [go_sem]) ?_
    refine (catch_idle_pRRawC _ ⟨w.heap.size, 0, none⟩).mono ?_
    rintro e u' w'' ⟨rfl, rfl, rfl⟩
    have hNN : New w none a' := HNW.out.mono (by rw [size_alloc]; omega)
    simp [Leaves, settle, results, Try.results50, go_sem]
    exact ⟨a', cap', ⟨rfl, rfl⟩, HR.out.didR hNN HLT.out H3.out, hNN, DidR.pre (bt HB0.out HBB.out) H3.out⟩

/-- what Short reads, and what is left -/
def RS.shortE (s : RS) (most : Int) : Nat := if s.fail 1 ≠ 0 then s.fail 1 else if most < (s.l.headD 0 : Nat) then 4 else s.fail (1 + (s.l.headD 0 : Nat))
def RS.short (s : RS) (most : Int) : List Nat × RS :=
  if s.shortE most ≠ 0 then ([], ⟨s.l, s.shortE most⟩) else ((s.l.drop 1).take (s.l.headD 0), ⟨s.l.drop (1 + s.l.headD 0), 0⟩)
set_option maxHeartbeats 1600000 in
theorem RShort_pan (w : World) (b : Nat) (a : Option Addr) (cap : Nat) (s : RS) (most : Int) (h : Rd w b a cap s) (hf : s.shortE most ≠ 0) :
    Calls Try.prog 53 #[.pointer (some ⟨b, 0, none⟩), .int .i64 most] w fun x w' => x = .returned (.slice none 0 0) ∧ DidR w w' b a ⟨s.l, s.shortE most⟩ := by
  have hmf := mkf
  have hb0 : Below w.heap.size w (w.alloc (.cells #[.pointer (some ⟨b, 0, none⟩)] 40)) := (Below.refl _ _).alloc (Nat.le_refl _) _
  have H := hide (h.keep hb0)
  have HB0 := hide hb0
  clear h hb0
  by_cases h1 : s.fail 1 ≠ 0
  · have he : s.shortE most = s.fail 1 := by unfold RS.shortE; rw [if_pos h1]
    rw [he] at hf ⊢
    have A := hide (ahead_pan _ b a cap s 1 H.out h1)
    clear h1 hf he
    generalize s.fail 1 = er at *
    go_enter_defers Try.func53, Try.ntmps53
    go_wp2_with (go_at_call 62; refine A.out.mono ?_; rintro e w1 ⟨rfl, hw1⟩; subst w1)
    refine leaves_cons (f := 78) (args := #[.pointer (some ⟨w.heap.size, 0, none⟩)]) (by simp) (by simp [go_sem]) ?_
    refine (catch_pan_pRShortC _ ⟨w.heap.size, 0, none⟩ b a cap s er H.out ?_).mono ?_
    · simp [go_sem]
    rintro e u' w'' ⟨rfl, rfl, rfl⟩
    have G := gave_up H.out HB0.out er
    simp [Leaves, settle, results, Try.results53, go_sem]
    exact G
  · have h10 : s.fail 1 = 0 := by omega
    obtain ⟨he, _, hn⟩ := RS.fail_zero h10
    have hpos : 0 < s.l.length := by omega
    have A := hide (ahead_ok _ b a cap s 1 H.out he hpos)
    obtain ⟨g, off, rfl, hc⟩ : ∃ g off, a = some ⟨g, off, none⟩ ∧ (w.alloc (.cells #[.pointer (some ⟨b, 0, none⟩)] 40)).cell? ⟨g, off, none⟩ = some (.int .u8 ((s.l.headD 0 : Nat) : Int)) := by
      rcases H.out.2.1.2.2 with h0 | ⟨g, off, rfl, hc⟩
      · rw [h0] at hpos; simp at hpos
      · refine ⟨g, off, rfl, ?_⟩
        have := hc 0 hpos
        rw [Nat.add_zero] at this
        rw [this]
        cases hl : s.l with
        | nil => rw [hl] at hpos; simp at hpos
        | cons x r => rfl
    have hhd : s.l.headD 0 < 256 := by
      cases hl : s.l with
      | nil => rw [hl] at hpos; simp at hpos
      | cons x r => exact H.out.2.1.1 x (by rw [hl]; simp)
    have hw64 : IntKind.i64.wrap ((s.l.headD 0 : Nat) : Int) = ((s.l.headD 0 : Nat) : Int) := wrapI (by omega) (by omega)
    have hadd : IntKind.i64.wrap (1 + ((s.l.headD 0 : Nat) : Int)) = 1 + ((s.l.headD 0 : Nat) : Int) := wrapI (by omega) (by omega)
    by_cases hm : most < ((s.l.headD 0 : Nat) : Int)
    · have hee : s.shortE most = 4 := by unfold RS.shortE; rw [if_neg h1, if_pos hm]
      rw [hee]
      clear h1 h10 hn hee hf he hpos
      generalize s.l.headD 0 = n at *
      go_enter_defers Try.func53, Try.ntmps53
      go_wp2_with (go_at_call 62; refine A.out.mono ?_; rintro e w1 ⟨rfl, hw1⟩; subst w1)
      refine leaves_cons (f := 78) (args := #[.pointer (some ⟨w.heap.size, 0, none⟩)]) (by simp) (by simp [go_sem]) ?_
      refine (catch_pan_pRShortC _ ⟨w.heap.size, 0, none⟩ b (some ⟨g, off, none⟩) cap s 4 H.out ?_).mono ?_
      · simp [go_sem]
      rintro e u' w'' ⟨rfl, rfl, rfl⟩
      have G := gave_up H.out HB0.out 4
      simp [Leaves, settle, results, Try.results53, go_sem]
      exact G
    · have hee : s.shortE most = s.fail (1 + ((s.l.headD 0 : Nat) : Int)) := by unfold RS.shortE; rw [if_neg h1, if_neg hm]
      rw [hee] at hf ⊢
      have A2 := hide (ahead_pan _ b (some ⟨g, off, none⟩) cap s _ H.out hf)
      clear h1 h10 hn hee hf he hpos
      generalize s.l.headD 0 = n at *
      generalize s.fail (1 + ((n : Nat) : Int)) = er at *
      go_enter_defers Try.func53, Try.ntmps53
      go_wp2_with (first | (go_at_call_of 62 (Value.int IntKind.i64 1); refine A.out.mono ?_; rintro e w1 ⟨rfl, hw1⟩; subst w1) | (go_at_call 62; refine A2.out.mono ?_; rintro e w1 ⟨rfl, hw1⟩; subst w1))
      refine leaves_cons (f := 78) (args := #[.pointer (some ⟨w.heap.size, 0, none⟩)]) (by simp) (by simp [go_sem]) ?_
      refine (catch_pan_pRShortC _ ⟨w.heap.size, 0, none⟩ b (some ⟨g, off, none⟩) cap s er H.out ?_).mono ?_
      · simp [go_sem]
      rintro e u' w'' ⟨rfl, rfl, rfl⟩
      have G := gave_up H.out HB0.out er
      simp [Leaves, settle, results, Try.results53, go_sem]
      exact G
end Go.Proofs.Ytlkjpljfbmploaa
