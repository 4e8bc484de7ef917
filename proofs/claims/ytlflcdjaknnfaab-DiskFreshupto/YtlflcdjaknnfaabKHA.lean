import Derived.Test.YtlflcdjaknnfaabKO
namespace Go.Proofs.Ytlflcdjaknnfaab
open Go.RowKit

section
variable {F : Nat → Prop} {w w' : World} {q la lc : Nat} {wa : Option Addr} {wc : Nat} {A : List (Nat × Nat)} {S : Sd}
theorem HkAt.nl (h : HkAt F w q la lc wa wc A S) : la ≠ q := own_ne h.l h.blk (by decide) _ rfl
theorem HkAt.nw (h : HkAt F w q la lc wa wc A S) : ∀ x, wa = some x → x.block ≠ q := own_ne h.u h.blk (by decide)
theorem HkAt.na (h : HkAt F w q la lc wa wc A S) {j : Nat} {u : Nat × List Nat} {x : Nat × Nat} (h1 : S.uns[j]? = some u) (h2 : A[j]? = some x) : x.1 ≠ q := own_ne (h.r j u x h1 h2).1 h.blk (by decide) _ rfl
/-- the struct's numbers turn -/
theorem HkAt.turn (h : HkAt F w q la lc wa wc A S) {W : World} {S' : Sd} (hb : But (· = q) w W) (hblk : W.heap[q]? = some (.cells (hc S' la lc wa wc).toArray 52 (0, 0))) (hok : S'.ok) (hn : S'.n = S.n) (hl : S'.last = S.last) (hu : S'.uns = S.uns) : HkAt F W q la lc wa wc A S' where
  ok := hok
  blk := hblk
  l := by unfold Sd.img; rw [hn, hl]; exact h.l.but hb (fun x hx => by cases hx; exact h.nl)
  u := by rw [hu]; exact own_but h.u hb h.nw
  a := by rw [hu]; exact h.a
  r := fun j u x h1 h2 => by
    rw [hu] at h1
    exact ⟨(h.r j u x h1 h2).1.but hb (fun y hy => by cases hy; exact h.na h1 h2), (h.r j u x h1 h2).2⟩
  fq := h.fq
  fl := h.fl
  fw := h.fw
  lt := fun k hk => Nat.lt_of_lt_of_le (h.lt k hk) hb.size
theorem HkAt.set (h : HkAt F w q la lc wa wc A S) (i : Nat) (v : Value) (S' : Sd) (hok : S'.ok) (hc' : (hc S la lc wa wc).set i v = hc S' la lc wa wc) (hn : S'.n = S.n) (hl : S'.last = S.last) (hu : S'.uns = S.uns) : HkAt F (w.setCell ⟨q, i, none⟩ v) q la lc wa wc A S' :=
  h.turn (set_but w q i v) (by rw [set_blk h.blk, hc']) hok hn hl hu
theorem HkAt.but1 (h : HkAt F w q la lc wa wc A S) {W : World} (hb : But (· = q) w W) : But F w W := hb.mono (fun _ _ e => e ▸ h.fq)
theorem hOff_any (h : HkAt F w q la lc wa wc A S) : Calls Try.prog 33 #[.pointer (some ⟨q, 0, none⟩)] w fun e w' => e = .returned (.tuple #[]) ∧ HkAt F w' q la lc wa wc A S.off ∧ But F w w' := by
  have c4 : w.cell? ⟨q, 2, none⟩ = some (.bool S.pow) := h.cell 2
  have f4 := h.frozen 2
  have c5 : w.cell? ⟨q, 3, none⟩ = some (.int .i64 S.alm) := h.cell 3
  have f5 := h.frozen 3
  have HF := hide (show HkAt F ((w.setCell ⟨q, 2, none⟩ (.bool false)).setCell ⟨q, 3, none⟩ (.int .i64 (-1))) q la lc wa wc A S.off ∧ But F w ((w.setCell ⟨q, 2, none⟩ (.bool false)).setCell ⟨q, 3, none⟩ (.int .i64 (-1))) from
    ⟨(h.set 2 (.bool false) { S with pow := false } { h.ok with uns := h.ok.uns } rfl rfl rfl rfl).set 3 (.int .i64 (-1)) S.off h.ok.off rfl rfl rfl rfl,
      h.but1 ((set_but w q 2 _).trans (set_but _ q 3 _) (fun _ _ h => h))⟩)
  clear h
  go_enter Try.func33, Try.ntmps33
  go_wp2
  go_end0
  exact ⟨rfl, HF.out⟩
theorem hact_any (h : HkAt F w q la lc wa wc A S) : Calls Try.prog 43 #[.pointer (some ⟨q, 0, none⟩)] w fun e w' => e = .returned (.bool S.acts) ∧ HkAt F w' q la lc wa wc A S.act ∧ But F w w' := by
  have c4 : w.cell? ⟨q, 2, none⟩ = some (.bool S.pow) := h.cell 2
  have f4 := h.frozen 2
  have c5 : w.cell? ⟨q, 3, none⟩ = some (.int .i64 S.alm) := h.cell 3
  have f5 := h.frozen 3
  have a0 := h.ok.a0
  have a1 := h.ok.a1
  have H := hide h
  have HF := hide (show HkAt F ((w.setCell ⟨q, 2, none⟩ (.bool false)).setCell ⟨q, 3, none⟩ (.int .i64 (-1))) q la lc wa wc A S.off ∧ But F w ((w.setCell ⟨q, 2, none⟩ (.bool false)).setCell ⟨q, 3, none⟩ (.int .i64 (-1))) from
    ⟨(h.set 2 (.bool false) { S with pow := false } { h.ok with uns := h.ok.uns } rfl rfl rfl rfl).set 3 (.int .i64 (-1)) S.off h.ok.off rfl rfl rfl rfl,
      h.but1 ((set_but w q 2 _).trans (set_but _ q 3 _) (fun _ _ h => h))⟩)
  clear h
  unfold Sd.acts Sd.act
  generalize ha : S.alm = a at *
  by_cases h0 : a = 0
  · rw [if_pos h0, decide_eq_false (by simpa using h0)]
    subst h0
    go_enter Try.func43, Try.ntmps43
    go_wp2
    go_ret
    exact ⟨rfl, HF.out⟩
  · rw [if_neg h0, decide_eq_true h0]
    have e0 := eqf h0
    clear HF
    by_cases h1 : a = -1
    · rw [if_pos h1]
      subst h1
      go_enter Try.func43, Try.ntmps43
      go_wp2
      go_ret
      exact ⟨rfl, H.out, But.refl _ _⟩
    · rw [if_neg h1]
      have e1 : (0 : Int) < a := by omega
      have e2 : wrap64 (a - 1) = a - 1 := by unfold wrap64; omega
      have HF := hide (show HkAt F (w.setCell ⟨q, 3, none⟩ (.int .i64 (a - 1))) q la lc wa wc A { S with alm := a - 1 } ∧ But F w (w.setCell ⟨q, 3, none⟩ (.int .i64 (a - 1))) from
        ⟨H.out.set 3 (.int .i64 (a - 1)) { S with alm := a - 1 } { H.out.ok with a0 := by show -1 ≤ a - 1; omega, a1 := by show a - 1 ≤ _; omega, uns := H.out.ok.uns } rfl rfl rfl rfl, H.out.but1 (set_but w q 3 _)⟩)
      go_enter Try.func43, Try.ntmps43
      go_wp2
      go_ret
      exact ⟨rfl, HF.out⟩
theorem hArm_any (h : HkAt F w q la lc wa wc A S) (a : Int) (ha : a ≤ 9223372036854775807) : Calls Try.prog 31 #[.pointer (some ⟨q, 0, none⟩), .int .i64 a] w fun e w' => e = .returned (.tuple #[]) ∧ HkAt F w' q la lc wa wc A (S.arm a) ∧ But F w w' := by
  have c4 : w.cell? ⟨q, 2, none⟩ = some (.bool S.pow) := h.cell 2
  have c5 : w.cell? ⟨q, 3, none⟩ = some (.int .i64 S.alm) := h.cell 3
  have f5 := h.frozen 3
  have hok := h.ok.arm ha
  have H := hide h
  clear h
  cases hpw : S.pow with
  | false =>
    have e : S.arm a = S := by unfold Sd.arm; rw [if_pos hpw]
    rw [e]
    rw [hpw] at c4
    go_enter Try.func31, Try.ntmps31
    go_wp2
    go_end0
    exact ⟨rfl, H.out, But.refl _ _⟩
  | true =>
    by_cases hl : a < 0
    · have e : S.arm a = { S with alm := -1 } := by unfold Sd.arm; rw [if_neg (by rw [hpw]; decide), show max a (-1) = -1 by omega]
      have HF := hide (show HkAt F ((w.setCell ⟨q, 3, none⟩ (.int .i64 a)).setCell ⟨q, 3, none⟩ (.int .i64 (-1))) q la lc wa wc A (S.arm a) ∧ But F w ((w.setCell ⟨q, 3, none⟩ (.int .i64 a)).setCell ⟨q, 3, none⟩ (.int .i64 (-1))) from
        ⟨by rw [e] at hok ⊢; exact H.out.turn ((set_but w q 3 _).trans (set_but _ q 3 _) (fun _ _ h => h)) (by rw [set_blk (set_blk H.out.blk)]; rfl) hok rfl rfl rfl, H.out.but1 ((set_but w q 3 _).trans (set_but _ q 3 _) (fun _ _ h => h))⟩)
      rw [hpw] at c4
      clear hok e hpw
      generalize S.arm a = S' at *
      go_enter Try.func31, Try.ntmps31
      go_wp2
      go_end0
      first | exact ⟨rfl, HF.out⟩ | (refine ⟨rfl, ?_⟩; have := HF.out; rw [World.setCell_setCell] at this; exact this)
    · have e : S.arm a = { S with alm := a } := by unfold Sd.arm; rw [if_neg (by rw [hpw]; decide), show max a (-1) = a by omega]
      have HF := hide (show HkAt F (w.setCell ⟨q, 3, none⟩ (.int .i64 a)) q la lc wa wc A (S.arm a) ∧ But F w (w.setCell ⟨q, 3, none⟩ (.int .i64 a)) from
        ⟨by rw [e] at hok ⊢; exact H.out.set 3 (.int .i64 a) { S with alm := a } hok rfl rfl rfl rfl, H.out.but1 (set_but w q 3 _)⟩)
      rw [hpw] at c4
      clear hok e hpw
      generalize S.arm a = S' at *
      go_enter Try.func31, Try.ntmps31
      go_wp2
      go_end0
      exact ⟨rfl, HF.out⟩
theorem hIsOn_any (h : HkAt F w q la lc wa wc A S) : Calls Try.prog 53 #[.pointer (some ⟨q, 0, none⟩)] w fun e w' => e = .returned (.bool S.pow) ∧ w' = w := by
  have c4 : w.cell? ⟨q, 2, none⟩ = some (.bool S.pow) := h.cell 2
  clear h
  go_enter Try.func53, Try.ntmps53
  go_wp2
  go_ret
  exact ⟨rfl, rfl⟩
theorem hActs_any (h : HkAt F w q la lc wa wc A S) : Calls Try.prog 55 #[.pointer (some ⟨q, 0, none⟩)] w fun e w' => e = .returned (.tuple #[.int .i64 (S.wr : Int), .int .i64 (S.sy : Int)]) ∧ Below w.heap.size w w' := by
  have c6 : w.cell? ⟨q, 4, none⟩ = some (.int .i64 (S.wr : Int)) := h.cell 4
  have c7 : w.cell? ⟨q, 5, none⟩ = some (.int .i64 (S.sy : Int)) := h.cell 5
  clear h
  go_enter Try.func55, Try.ntmps55
  go_wp2
  go_quiet (fail)
  go_wp2
  go_ret2
  exact ⟨rfl, drN _ _⟩
theorem hhas_any (h : HkAt F w q la lc wa wc A S) (i : Int) : Calls Try.prog 42 #[.pointer (some ⟨q, 0, none⟩), .int .i64 i] w fun e w' => e = .returned (.bool (S.has i)) ∧ w' = w := by
  have R := hide (hBlocks_any ⟨_, _, _, _, _, h⟩)
  have hh : S.has i = (decide (0 ≤ i) && decide (i < (S.n : Int))) := rfl
  rw [hh]
  clear hh h
  generalize S.n = n at *
  by_cases h1 : 0 ≤ i
  · by_cases h2 : i < (n : Int)
    · have d1 : decide (0 ≤ i) = true := decide_eq_true h1
      have d2 : decide (i < (n : Int)) = true := decide_eq_true h2
      go_enter Try.func42, Try.ntmps42
      go_wp2_with (go_at_call 57; refine R.out.mono ?_; rintro e w1 ⟨rfl, e1⟩; have e1 := e1.symm; subst e1)
      go_ret
      exact ⟨by first | rfl | (rw [d1, d2]; rfl), rfl⟩
    · have d1 : decide (0 ≤ i) = true := decide_eq_true h1
      have d2 : decide (i < (n : Int)) = false := decide_eq_false h2
      go_enter Try.func42, Try.ntmps42
      go_wp2_with (go_at_call 57; refine R.out.mono ?_; rintro e w1 ⟨rfl, e1⟩; have e1 := e1.symm; subst e1)
      go_ret
      exact ⟨by first | rfl | (rw [d1, d2]; rfl), rfl⟩
  · have d1 : decide (0 ≤ i) = false := decide_eq_false h1
    go_enter Try.func42, Try.ntmps42
    go_wp2
    go_ret
    exact ⟨by first | rfl | (rw [d1]; rfl), rfl⟩
end
end Go.Proofs.Ytlflcdjaknnfaab
