import Derived.Test.YtbhigodjbfoeoaaGreatWqB9
import Derived.Test.YtbhigodjbfoeoaaGreatWqB10
import Derived.Deep.RegionHeld3
section
namespace Go.Proofs.YtbhigodjbfoeoaaGreat
open Go.RowKit
theorem check_form {p : Pg} (h : p.formE ≠ 0) : p.check = p.formE := by
  unfold Pg.check Pg.formE at *
  split
  · rfl
  · rename_i h1
    rw [if_neg h1] at h
    split
    · rfl
    · rename_i h2; rw [if_neg h2] at h; exact absurd rfl h
theorem form_zero {p : Pg} (h : p.formE = 0) : p.kindOk = true ∧ p.form = true := by
  unfold Pg.formE at h
  cases hk : p.kindOk <;> cases hf : p.form <;> simp [hk, hf] at h ⊢
theorem check_on {p : Pg} (h : p.formE = 0) : p.check = tel (firstE p.itemE p.items.length) (decide (p.next ≠ 0) && !isNum p.next) 15 := by
  obtain ⟨h1, h2⟩ := form_zero h
  unfold Pg.check tel
  rw [if_neg (by rw [h1]; simp), if_neg (by rw [h2]; simp)]
  by_cases he : firstE p.itemE p.items.length = 0
  · rw [if_neg (by rw [he]; simp), he]
    unfold Pg.nextOk
    have hn : p.kind ≠ 3 → p.next = 0 := by
      intro hk
      unfold Pg.form at h2
      rw [if_neg hk] at h2
      simp at h2
      exact h2.1.1.2
    by_cases hk : p.kind = 3
    · simp [hk]
    · simp [hk, hn hk]
  · rw [if_pos he, if_neg (by simp [he])]
theorem firstE_snoc (f : Nat → Nat) (n : Nat) : firstE f (n + 1) = els (firstE f n) (f n) := rfl
theorem kinds {p : Pg} (h : p.formE = 0) (hi : 0 < p.items.length) : p.kind = 1 ∨ p.kind = 2 := by
  obtain ⟨h1, h2⟩ := form_zero h
  rcases Pg.kindOk_iff.1 h1 with h | h | h
  · exact .inl h
  · exact .inr h
  · unfold Pg.form at h2
    rw [if_pos h] at h2
    simp at h2
    rw [h2.1.1.2] at hi
    simp at hi
set_option maxRecDepth 8000 in
set_option maxHeartbeats 3200000 in
theorem Check_any (w : World) (p : Pv) (hP : Pi w p) : Calls Tryz.prog 95 #[p.vl] w fun e w' => e = .returned (.int .i64 (p.pg.check : Int)) ∧ Below w.heap.size w w' := by
  have HP := hide (hP.keep (al w (.cells p.cs 93)))
  have hin : p.items.length ≤ 9223372036854775807 := by have := hP.it.2.1; omega
  have B0 := hide (Bx.new w 93 p.cs)
  have hsz := size_alloc w (.cells p.cs 93)
  have HW := hide (al w (.cells p.cs 93))
  obtain ⟨v, hv⟩ : ∃ v, w.alloc (.cells p.cs 93) = v := ⟨_, rfl⟩
  rw [hv] at HP B0 hsz HW
  have hne : w.heap.size ≠ v.heap.size := by omega
  have FA := hide (faults_any v)
  have H0 : Hid (Kt v v.heap.size (v.alloc (.cells #[.int .i64 0] 59)) 0) := ⟨Bx.new v 59 #[.int .i64 0], al _ _, Nat.le_refl _⟩
  have TN := hide fun (w1 : World) (e : Nat) (hk : Kt v v.heap.size w1 e) (wrong : Bool) (xi : Int) (hx : 0 ≤ xi) => tell_any v w1 v.heap.size e 93 w.heap.size p.cs hk (B0.out.keep hk.b) hne wrong xi xi.toNat (by omega)
  have CF := hide fun (w1 : World) (hk : Kt v v.heap.size w1 0) => checkForm_any v w1 v.heap.size p hk
  have CI := hide fun (w1 : World) (e i : Nat) (hk : Kt v v.heap.size w1 e) (hi : i < p.items.length) (hkd : p.kind = 1 ∨ p.kind = 2) => checkItem_any v w1 v.heap.size e i p hk HP.out hi hkd
  have PG := hide fun (w1 : World) (hb : Below v.heap.size v w1) => Bx.page (B0.out.keep hb)
  have HF := hide (fun h : p.pg.formE ≠ 0 => check_form h)
  have HO := hide (fun h : p.pg.formE = 0 => check_on h)
  have HK := hide (fun (h : p.pg.formE = 0) (hi : 0 < p.pg.items.length) => kinds h hi)
  have HS := hide fun n => firstE_snoc p.pg.itemE n
  have hpl : p.pg.items.length = p.items.length := by simp [Pv.pg]
  have hpn : p.pg.next = p.next := rfl
  have hpk : p.pg.kind = p.kind := rfl
  rw [hpl, hpn] at HO
  rw [hpl, hpk] at HK
  clear hpl hpn hpk hP
  generalize p.pg.check = ans at *
  generalize p.pg.formE = fe at *
  generalize p.pg.itemE = f at *
  obtain ⟨kind, level, aI, cI, items, aD, cD, data, next⟩ := p
  unfold Pv.vl
  simp only [Pv.cs, Pv.vl, tv, fv] at *
  generalize hvb : v.heap.size = kb at *
  have HVB := hide hvb
  rw [← hvb] at PG
  clear hvb
  by_cases hfe : fe = 0
  · subst hfe
    obtain rfl := HO.out rfl
    clear HF HO
    have HK2 : Hid (0 < items.length → kind = 1 ∨ kind = 2) := fun h => HK.out rfl h
    go_enter Tryz.func95, Tryz.ntmps95
    go_wp2_with fail
    refine FA.out.mono ?_
    rintro y w1 ⟨rfl, hw⟩
    obtain rfl := hw.symm
    clear hv hsz hw FA
    obtain ⟨b0, b1, b2, b3, b4⟩ := PG.out _ (al v (.cells #[.int .i64 0] 59))
    go_wp2_with (first | (go_at_call 119; refine (CF.out _ H0.out).mono ?_; rintro y w1 ⟨rfl, hk⟩; have H := hide hk; obtain ⟨c0, c1, c2, c3, c4⟩ := PG.out _ hk.b; clear hk) | (go_at_call 141; refine (first_any _ _ _ H.out.c).mono ?_; rintro y w2 ⟨rfl, hw⟩; obtain rfl := hw.symm))
    go_loopw [6, 22] (fun _ i wx => ∃ k : Nat, k ≤ items.length ∧ i = .int .i64 k ∧ Hid (Kt v kb wx (firstE f k))) (fun _ i _ => items.length - (intOf i).toNat)
    case atStart => exact ⟨0, Nat.zero_le _, rfl, H.out⟩
    case round =>
      obtain ⟨k, hk, rfl, H⟩ := hrel
      obtain ⟨c0, c1, c2, c3, c4⟩ := PG.out _ H.out.b
      by_cases hlt : k < items.length
      · have hlti : (k : Int) < (items.length : Int) := by omega
        have hj1 := w64 (j := k) (by omega)
        go_wp2_with fail
        refine (CI.out _ _ k H.out hlt (HK2.out (by omega))).mono ?_
        rintro y w1 ⟨rfl, hk1⟩
        have H := hide hk1
        clear hk1
        go_wp2
        go_roundw
        case rel => exact ⟨k + 1, by omega, by first | (go_num; done) | exact congrArg (Value.int IntKind.i64) (by omega), by rw [HS.out]; exact H.out⟩
        case measure => first | exact meas_up _ _ _ hj1 hlt | exact meas_up _ _ _ rfl hlt | (simp [intOf]; omega)
      · obtain rfl : k = items.length := by omega
        by_cases hn0 : next = 0
        · subst hn0
          go_wp2_with (first | (go_at_call 140; refine (TN.out _ _ H.out _ _ (by decide)).mono ?_; rintro y w1 ⟨rfl, hk1, _, _⟩; have H := hide hk1; clear hk1) | (go_at_call 141; refine (first_any _ _ _ H.out.c).mono ?_; rintro y w2 ⟨rfl, hw⟩; obtain rfl := hw.symm))
          go_ret
          exact ⟨by simp, bt HW.out H.out.b⟩
        · have hn0' : (next == 0) = false := by simpa using hn0
          go_wp2_with (first | (go_at_call 121; refine (isNumber_any _ _).mono ?_; rintro y w1 ⟨rfl, hww⟩; obtain rfl := hww.symm) | (go_at_call 140; refine (TN.out _ _ H.out _ _ (by decide)).mono ?_; rintro y w1 ⟨rfl, hk1, _, _⟩; have H := hide hk1; clear hk1) | (go_at_call 141; refine (first_any _ _ _ H.out.c).mono ?_; rintro y w2 ⟨rfl, hw⟩; obtain rfl := hw.symm))
          go_ret
          exact ⟨by simp [bne, hn0', hn0], bt HW.out H.out.b⟩
  · have hfe' : (((fe : Nat) : Int) == 0) = false := by simpa using hfe
    obtain rfl := HF.out hfe
    clear HO
    go_enter Tryz.func95, Tryz.ntmps95
    go_wp2_with fail
    refine FA.out.mono ?_
    rintro y w1 ⟨rfl, hw⟩
    obtain rfl := hw.symm
    clear hv hsz hw FA
    obtain ⟨b0, b1, b2, b3, b4⟩ := PG.out _ (al v (.cells #[.int .i64 0] 59))
    go_wp2_with (first | (go_at_call 119; refine (CF.out _ H0.out).mono ?_; rintro y w1 ⟨rfl, hk⟩; have H := hide hk; obtain ⟨c0, c1, c2, c3, c4⟩ := PG.out _ hk.b; clear hk) | (go_at_call 141; refine (first_any _ _ _ H.out.c).mono ?_; rintro y w2 ⟨rfl, hw⟩; obtain rfl := hw.symm))
    go_ret
    exact ⟨rfl, bt HW.out H.out.b⟩
end Go.Proofs.YtbhigodjbfoeoaaGreat
end
section
namespace Go.Proofs.YtbhigodjbfoeoaaGreat
set_option linter.unusedVariables false
set_option linter.unusedSimpArgs false
open Go.RowKit
set_option maxHeartbeats 4000000 in
theorem end_no (w : World) (b : Nat) (P : Q.Po) (fl : Nat) (D : Vd) (pc col : Nat → Nat) (h : Vq w b P fl D pc col) (k m : Nat) (hm : m ≤ D.ch.length) (hk : P.mark ≤ 9223372036854775807) (e : Int) (he : e ≠ 0) :
    Calls Tryz.prog 70 #[.pointer (some ⟨b, 0, none⟩), .agg #[.int .i64 ((k : Nat) : Int), .int .i64 ((m : Nat) : Int)], .int .i64 e] w fun x w' => x = .returned (.int .i64 e) ∧ ∃ pc' col', Vq w' b (P.undo ((k : Nat) : Int)) fl { D with f := unl D.f (D.ch.drop m), ch := D.ch.take m } pc' col' ∧ Vf w col w' col' := by
  have aB := al w (.cells #[.int .i64 ((k : Nat) : Int), .int .i64 ((m : Nat) : Int)] 115)
  obtain ⟨x0, x1⟩ := two_cells (World.alloc_heap_new w (.cells #[.int .i64 ((k : Nat) : Int), .int .i64 ((m : Nat) : Int)] 115))
  have BK := hide (back_any _ b P fl D pc col (h.keep aB) k m hm hk)
  have AB := hide aB
  have e0 : (e == 0) = false := by simp [he]
  clear h aB hm
  go_enter Tryz.func70, Tryz.ntmps70
  go_wp2_with fail
  refine BK.out.mono ?_
  rintro _ w1 ⟨rfl, pc1, col1, hv, hf⟩
  have V1 := hide hv
  have F1 := hide ((Vf.keep AB.out).trans hf)
  clear hv hf BK x0 x1
  go_wp2
  go_ret
  exact ⟨rfl, _, _, V1.out, F1.out⟩
end Go.Proofs.YtbhigodjbfoeoaaGreat
namespace Go.Proofs.YtbhigodjbfoeoaaGreat
set_option linter.unusedVariables false
set_option linter.unusedSimpArgs false
open Go.RowKit
end Go.Proofs.YtbhigodjbfoeoaaGreat
namespace Go.Proofs.YtbhigodjbfoeoaaGreat
set_option linter.unusedVariables false
set_option linter.unusedSimpArgs false
open Go.RowKit
end Go.Proofs.YtbhigodjbfoeoaaGreat
namespace Go.Proofs.YtbhigodjbfoeoaaGreat
set_option linter.unusedVariables false
set_option linter.unusedSimpArgs false
open Go.RowKit
structure Vm where
  P : Q.Po
  f : Int → Option Pv
  ch : List (Int × Pv)
def Vm.on (X : Vm) (z : Int) : Pv := (X.f z).getD Pv.zero
def Vd.st (D : Vd) (X : Vm) (ac : Option Addr) (cc : Nat) : Vd := { D with f := X.f, ch := X.ch, ac := ac, cc := cc }
def Vx (w : World) (b : Nat) (X : Vm) (fl : Nat) (D : Vd) (pc col : Nat → Nat) : Prop := ∃ ac cc, Vq w b X.P fl (D.st X ac cc) pc col
theorem Vx.keep {w w' : World} {b : Nat} {X : Vm} {fl : Nat} {D : Vd} {pc col : Nat → Nat} (h : Vx w b X fl D pc col) (hb : Below w.heap.size w w') : Vx w' b X fl D pc col := by
  obtain ⟨ac, cc, h⟩ := h
  exact ⟨ac, cc, h.keep hb⟩
end Go.Proofs.YtbhigodjbfoeoaaGreat
namespace Go.Proofs.YtbhigodjbfoeoaaGreat
set_option linter.unusedVariables false
set_option linter.unusedSimpArgs false
open Go.RowKit
theorem Vx.on_z {w : World} {b : Nat} {X : Vm} {fl : Nat} {D : Vd} {pc col : Nat → Nat} (h : Vx w b X fl D pc col) (z : Int) : Pz (fun k => col k = 6) w (X.on z) := by
  obtain ⟨ac, cc, h⟩ := h
  exact wasOn_z h z
theorem Vx.look {w : World} {b : Nat} {X : Vm} {fl : Nat} {D : Vd} {pc col : Nat → Nat} (h : Vx w b X fl D pc col) (z : Int) : (Instr.lookup 46 (.map (some D.mb)) (.int .i64 z) false).run Tryz.prog w = .ok (X.on z).vl w := by
  obtain ⟨ac, cc, h⟩ := h
  exact look_on h z
theorem Vx.c01 {w : World} {b : Nat} {X : Vm} {fl : Nat} {D : Vd} {pc col : Nat → Nat} (h : Vx w b X fl D pc col) : w.cell? ⟨b, 0, none⟩ = some (.pointer (some ⟨D.pb, 0, none⟩)) ∧ w.cell? ⟨b, 1, none⟩ = some (.map (some D.mb)) := by
  obtain ⟨ac, cc, h⟩ := h
  exact ⟨h.cells.1, h.cells.2.1⟩
theorem Vx.lb {w : World} {b : Nat} {X : Vm} {fl : Nat} {D : Vd} {pc col : Nat → Nat} (h : Vx w b X fl D pc col) : b < w.heap.size := by
  obtain ⟨ac, cc, h⟩ := h
  exact h.lb
theorem Vx.z {w : World} {b : Nat} {X : Vm} {fl : Nat} {D : Vd} {pc col : Nat → Nat} (h : Vx w b X fl D pc col) {k : Nat} (hk : w.heap.size ≤ k) : col k = 0 := by
  obtain ⟨ac, cc, h⟩ := h
  cases e : col k with
  | zero => rfl
  | succ n => have := h.lt k (by omega); omega
end Go.Proofs.YtbhigodjbfoeoaaGreat
end
section
namespace Go.Proofs.YtbhigodjbfoeoaaGreat
open Go.RowKit
set_option maxHeartbeats 400000 in
theorem IsPage_any (w : World) (n : Int) : Calls Tryz.prog 100 #[.int .i64 n] w fun e w' => e = .returned (.bool (isNum n)) ∧ w' = w := by
  unfold isNum
  by_cases h1 : 1 ≤ n
  · have h1' : decide (1 ≤ n) = true := by simpa using h1
    go_enter Tryz.func100, Tryz.ntmps100
    go_wp2
    go_ret
    exact ⟨by simp [h1], rfl⟩
  · have h1' : decide (1 ≤ n) = false := by simpa using h1
    go_enter Tryz.func100, Tryz.ntmps100
    go_wp2
    go_ret
    exact ⟨by simp, rfl⟩
theorem retb {a b : Bool} (h : a = b) : Ending.returned (.bool a) = .returned (.bool b) := by rw [h]
set_option maxRecDepth 8000 in
set_option maxHeartbeats 1600000 in
theorem iform_any (w : World) (p : Pv) : Calls Tryz.prog 96 #[p.vl] w fun e w' => e = .returned (.bool p.pg.form) ∧ Below w.heap.size w w' := by
  unfold Pv.vl Pv.cs Pg.form Pv.pg
  simp only [List.length_map]
  obtain ⟨kind, level, aI, cI, items, aD, cD, data, next⟩ := p
  dsimp only
  generalize items.length = n
  generalize data.length = d
  by_cases k3 : kind = 3
  · subst k3
    go_enter Tryz.func96, Tryz.ntmps96
    go_wp2
    all_goals (go_ret; refine ⟨retb ?_, al _ _⟩; first | grind | (simp; grind) | (simp [beqd]; grind))
  · have k3' : (kind == 3) = false := by simpa using k3
    rw [if_neg k3]
    by_cases k1 : kind = 1
    · subst k1
      go_enter Tryz.func96, Tryz.ntmps96
      go_wp2
      all_goals (go_ret; refine ⟨retb ?_, al _ _⟩; first | grind | (simp; grind) | (simp [beqd]; grind))
    · have k1' : (kind == 1) = false := by simpa using k1
      rw [if_neg k1]
      go_enter Tryz.func96, Tryz.ntmps96
      go_wp2
      all_goals (go_ret; refine ⟨retb ?_, al _ _⟩; first | grind | (simp; grind) | (simp [beqd]; grind))
set_option maxHeartbeats 1600000 in
theorem ikey_any (w : World) (p : Pv) (i : Nat) (hP : Pi w p) (hi : i < p.items.length) : Calls Tryz.prog 97 #[p.vl, .int .i64 (i : Int)] w fun e w' => e = .returned (.bool (p.pg.keyOk i)) ∧ Below w.heap.size w w' := by
  obtain ⟨bI, off, hbo, hr⟩ := (hP.it.keep (al w (.cells p.cs 93))).at hi
  obtain ⟨k0, k1, k2, k3⟩ := range4 hr
  have hiI : (i : Int) < (p.items.length : Int) := by omega
  unfold Pg.keyOk
  rw [Pv.at]
  generalize p.items.getD i Iv.zero = x at *
  clear hr hP k1 k2 k3
  obtain ⟨kind, level, aI, cI, items, aD, cD, data, next⟩ := p
  unfold Pv.vl Iv.it
  simp only [Pv.cs, Pv.pg] at *
  subst hbo
  generalize x.key.length = n at *
  by_cases hk : kind = 2 ∧ i = 0
  · obtain ⟨rfl, rfl⟩ := hk
    simp only [Nat.zero_mul, Nat.add_zero] at k0
    go_enter Tryz.func97, Tryz.ntmps97
    go_wp2
    all_goals (go_ret; refine ⟨retb ?_, al _ _⟩; first | grind | (simp; grind) | (simp [beqd]; grind))
  · by_cases k2 : kind = 2
    · subst k2
      have i0 : ((i : Int) == 0) = false := by simp; omega
      go_enter Tryz.func97, Tryz.ntmps97
      go_wp2
      all_goals (go_ret; refine ⟨retb ?_, al _ _⟩; first | grind | (simp; grind) | (simp [beqd]; grind))
    · have k2' : (kind == 2) = false := by simpa using k2
      go_enter Tryz.func97, Tryz.ntmps97
      go_wp2
      all_goals (go_ret; refine ⟨retb ?_, al _ _⟩; first | grind | (simp; grind) | (simp [beqd]; grind))
set_option maxHeartbeats 1600000 in
theorem ivalue_any (w : World) (p : Pv) (x : Iv) : Calls Tryz.prog 98 #[p.vl, x.vl] w fun e w' => e = .returned (.bool (x.it.valOk p.kind)) ∧ Below w.heap.size w w' := by
  unfold It.valOk
  obtain ⟨kind, level, aI, cI, items, aD, cD, data, next⟩ := p
  obtain ⟨aK, cK, key, aV, cV, val, child, size⟩ := x
  unfold Pv.vl Iv.vl Iv.it
  simp only [Pv.cs, Iv.cs]
  generalize val.length = n
  by_cases k2 : kind = 2
  · subst k2
    go_enter Tryz.func98, Tryz.ntmps98
    go_wp2
    all_goals (go_ret; refine ⟨retb ?_, bt (al _ _) (al _ _)⟩; first | grind | (simp; grind) | (simp [beqd]; grind))
  · have k2' : (kind == 2) = false := by simpa using k2
    rw [if_neg k2]
    go_enter Tryz.func98, Tryz.ntmps98
    go_wp2
    all_goals (go_ret; refine ⟨retb ?_, bt (al _ _) (al _ _)⟩; first | grind | (simp; grind) | (simp [beqd]; grind))
set_option maxHeartbeats 1600000 in
theorem ichild_any (w : World) (p : Pv) (x : Iv) : Calls Tryz.prog 99 #[p.vl, x.vl] w fun e w' => e = .returned (.bool (x.it.kidOk p.kind)) ∧ Below w.heap.size w w' := by
  unfold It.kidOk
  obtain ⟨kind, level, aI, cI, items, aD, cD, data, next⟩ := p
  obtain ⟨aK, cK, key, aV, cV, val, child, size⟩ := x
  unfold Pv.vl Iv.vl Iv.it
  simp only [Pv.cs, Iv.cs]
  by_cases k2 : kind = 1 ∧ size ≤ 32
  · obtain ⟨rfl, h32⟩ := k2
    have h32' : decide (size ≤ 32) = true := by simpa using h32
    rw [if_pos ⟨rfl, h32⟩]
    go_enter Tryz.func99, Tryz.ntmps99
    go_wp2
    all_goals (go_ret; refine ⟨retb ?_, bt (al _ _) (al _ _)⟩; simp [beqd])
  · rw [if_neg k2]
    by_cases k1 : kind = 1
    · subst k1
      have h32' : decide (size ≤ 32) = false := by simp; omega
      go_enter Tryz.func99, Tryz.ntmps99
      go_wp2_with (go_at_call 100; refine (IsPage_any _ _).mono ?_; rintro y w1 ⟨rfl, hww⟩; obtain rfl := hww.symm)
      go_ret
      exact ⟨rfl, bt (al _ _) (al _ _)⟩
    · have k1' : (kind == 1) = false := by simpa using k1
      go_enter Tryz.func99, Tryz.ntmps99
      go_wp2_with (go_at_call 100; refine (IsPage_any _ _).mono ?_; rintro y w1 ⟨rfl, hww⟩; obtain rfl := hww.symm)
      go_ret
      exact ⟨rfl, bt (al _ _) (al _ _)⟩
theorem check_at {p : Pg} {k : Nat} (h : p.formE = 0) (h0 : firstE p.itemE k = 0) (hk : k < p.items.length) (hx : p.itemE k ≠ 0) : p.check = p.itemE k := by
  obtain ⟨h1, h2⟩ := form_zero h
  unfold Pg.check
  rw [if_neg (by rw [h1]; simp), if_neg (by rw [h2]; simp), firstE_stop h0 hx _ hk, if_pos hx]
theorem check_end {p : Pg} (h : p.formE = 0) (h0 : firstE p.itemE p.items.length = 0) : p.check = if p.nextOk = false then 15 else 0 := by
  obtain ⟨h1, h2⟩ := form_zero h
  unfold Pg.check
  rw [if_neg (by rw [h1]; simp), if_neg (by rw [h2]; simp), h0, if_neg (by simp)]
end Go.Proofs.YtbhigodjbfoeoaaGreat
end
section
namespace Go.Proofs.YtbhigodjbfoeoaaGreat
open Go.RowKit
theorem ret_nat {a b : Nat} (h : b = a) : Ending.returned (.int .i64 (a : Int)) = .returned (.int .i64 (b : Int)) := by rw [h]
theorem rowAt {w : World} {bI off : Nat} {L : List Iv} (h : Js w (some ⟨bI, off, none⟩) L) {k : Nat} (hk : k < L.length) : w.cell? ⟨bI, off + k * 4, none⟩ = some (.slice (L.getD k Iv.zero).aK (L.getD k Iv.zero).key.length (L.getD k Iv.zero).cK) ∧ w.cell? ⟨bI, off + k * 4 + 1, none⟩ = some (.slice (L.getD k Iv.zero).aV (L.getD k Iv.zero).val.length (L.getD k Iv.zero).cV) ∧ w.cell? ⟨bI, off + k * 4 + 2, none⟩ = some (.int .i64 (L.getD k Iv.zero).child) ∧ w.cell? ⟨bI, off + k * 4 + 3, none⟩ = some (.int .i64 (L.getD k Iv.zero).size) := by
  obtain ⟨b2, o2, e2, r2⟩ := h.at hk
  simp only [Option.some.injEq, Addr.mk.injEq, and_true] at e2
  obtain ⟨rfl, rfl⟩ := e2
  exact range4 r2
end Go.Proofs.YtbhigodjbfoeoaaGreat
end
