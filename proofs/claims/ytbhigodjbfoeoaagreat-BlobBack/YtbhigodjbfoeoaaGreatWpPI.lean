import Derived.Test.YtbhigodjbfoeoaaGreatWpPHX
namespace Go.Proofs.YtbhigodjbfoeoaaGreat
open Go.RowKit
theorem check_form {p : Pg} (h : p.formE ≠ 0) : p.check = p.formE := by
  unfold Pg.check Pg.formE at *
  split
  · rfl
  · rename_i h1
    rw [if_neg h1] at h
    split
    · rfl
    · rename_i h2; rw [if_neg h2] at h; exact absurd rfl h
theorem form_zero {p : Pg} (h : p.formE = 0) : p.kindOk = true ∧ p.form = true := by
  unfold Pg.formE at h
  cases hk : p.kindOk <;> cases hf : p.form <;> simp [hk, hf] at h ⊢
theorem check_on {p : Pg} (h : p.formE = 0) : p.check = tel (firstE p.itemE p.items.length) (decide (p.next ≠ 0) && !isNum p.next) 15 := by
  obtain ⟨h1, h2⟩ := form_zero h
  unfold Pg.check tel
  rw [if_neg (by rw [h1]; simp), if_neg (by rw [h2]; simp)]
  by_cases he : firstE p.itemE p.items.length = 0
  · rw [if_neg (by rw [he]; simp), he]
    unfold Pg.nextOk
    have hn : p.kind ≠ 3 → p.next = 0 := by
      intro hk
      unfold Pg.form at h2
      rw [if_neg hk] at h2
      simp at h2
      exact h2.1.1.2
    by_cases hk : p.kind = 3
    · simp [hk]
    · simp [hk, hn hk]
  · rw [if_pos he, if_neg (by simp [he])]
theorem firstE_snoc (f : Nat → Nat) (n : Nat) : firstE f (n + 1) = els (firstE f n) (f n) := rfl
theorem kinds {p : Pg} (h : p.formE = 0) (hi : 0 < p.items.length) : p.kind = 1 ∨ p.kind = 2 := by
  obtain ⟨h1, h2⟩ := form_zero h
  rcases Pg.kindOk_iff.1 h1 with h | h | h
  · exact .inl h
  · exact .inr h
  · unfold Pg.form at h2
    rw [if_pos h] at h2
    simp at h2
    rw [h2.1.1.2] at hi
    simp at hi
set_option maxRecDepth 8000 in
set_option maxHeartbeats 3200000 in
theorem Check_any (w : World) (p : Pv) (hP : Pi w p) : Calls Tryz.prog 95 #[p.vl] w fun e w' => e = .returned (.int .i64 (p.pg.check : Int)) ∧ Below w.heap.size w w' := by
  have HP := hide (hP.keep (al w (.cells p.cs 93)))
  have hin : p.items.length ≤ 9223372036854775807 := by have := hP.it.2.1; omega
  have B0 := hide (Bx.new w 93 p.cs)
  have hsz := size_alloc w (.cells p.cs 93)
  have HW := hide (al w (.cells p.cs 93))
  obtain ⟨v, hv⟩ : ∃ v, w.alloc (.cells p.cs 93) = v := ⟨_, rfl⟩
  rw [hv] at HP B0 hsz HW
  have hne : w.heap.size ≠ v.heap.size := by omega
  have FA := hide (faults_any v)
  have H0 : Hid (Kt v v.heap.size (v.alloc (.cells #[.int .i64 0] 59)) 0) := ⟨Bx.new v 59 #[.int .i64 0], al _ _, Nat.le_refl _⟩
  have TN := hide fun (w1 : World) (e : Nat) (hk : Kt v v.heap.size w1 e) (wrong : Bool) (xi : Int) (hx : 0 ≤ xi) => tell_any v w1 v.heap.size e 93 w.heap.size p.cs hk (B0.out.keep hk.b) hne wrong xi xi.toNat (by omega)
  have CF := hide fun (w1 : World) (hk : Kt v v.heap.size w1 0) => checkForm_any v w1 v.heap.size p hk
  have CI := hide fun (w1 : World) (e i : Nat) (hk : Kt v v.heap.size w1 e) (hi : i < p.items.length) (hkd : p.kind = 1 ∨ p.kind = 2) => checkItem_any v w1 v.heap.size e i p hk HP.out hi hkd
  have PG := hide fun (w1 : World) (hb : Below v.heap.size v w1) => Bx.page (B0.out.keep hb)
  have HF := hide (fun h : p.pg.formE ≠ 0 => check_form h)
  have HO := hide (fun h : p.pg.formE = 0 => check_on h)
  have HK := hide (fun (h : p.pg.formE = 0) (hi : 0 < p.pg.items.length) => kinds h hi)
  have HS := hide fun n => firstE_snoc p.pg.itemE n
  have hpl : p.pg.items.length = p.items.length := by simp [Pv.pg]
  have hpn : p.pg.next = p.next := rfl
  have hpk : p.pg.kind = p.kind := rfl
  rw [hpl, hpn] at HO
  rw [hpl, hpk] at HK
  clear hpl hpn hpk hP
  generalize p.pg.check = ans at *
  generalize p.pg.formE = fe at *
  generalize p.pg.itemE = f at *
  obtain ⟨kind, level, aI, cI, items, aD, cD, data, next⟩ := p
  unfold Pv.vl
  simp only [Pv.cs, Pv.vl, tv, fv] at *
  generalize hvb : v.heap.size = kb at *
  have HVB := hide hvb
  rw [← hvb] at PG
  clear hvb
  by_cases hfe : fe = 0
  · subst hfe
    obtain rfl := HO.out rfl
    clear HF HO
    have HK2 : Hid (0 < items.length → kind = 1 ∨ kind = 2) := fun h => HK.out rfl h
    go_enter Tryz.func95, Tryz.ntmps95
    go_wp2_with fail
    refine FA.out.mono ?_
    rintro y w1 ⟨rfl, hw⟩
    obtain rfl := hw.symm
    clear hv hsz hw FA
    obtain ⟨b0, b1, b2, b3, b4⟩ := PG.out _ (al v (.cells #[.int .i64 0] 59))
    go_wp2_with (first | (go_at_call 119; refine (CF.out _ H0.out).mono ?_; rintro y w1 ⟨rfl, hk⟩; have H := hide hk; obtain ⟨c0, c1, c2, c3, c4⟩ := PG.out _ hk.b; clear hk) | (go_at_call 141; refine (first_any _ _ _ H.out.c).mono ?_; rintro y w2 ⟨rfl, hw⟩; obtain rfl := hw.symm))
    go_loopw [6, 22] (fun _ i wx => ∃ k : Nat, k ≤ items.length ∧ i = .int .i64 k ∧ Hid (Kt v kb wx (firstE f k))) (fun _ i _ => items.length - (intOf i).toNat)
    case atStart => exact ⟨0, Nat.zero_le _, rfl, H.out⟩
    case round =>
      obtain ⟨k, hk, rfl, H⟩ := hrel
      obtain ⟨c0, c1, c2, c3, c4⟩ := PG.out _ H.out.b
      by_cases hlt : k < items.length
      · have hlti : (k : Int) < (items.length : Int) := by omega
        have hj1 := w64 (j := k) (by omega)
        go_wp2_with fail
        refine (CI.out _ _ k H.out hlt (HK2.out (by omega))).mono ?_
        rintro y w1 ⟨rfl, hk1⟩
        have H := hide hk1
        clear hk1
        go_wp2
        go_roundw
        case rel => exact ⟨k + 1, by omega, by first | (go_num; done) | exact congrArg (Value.int IntKind.i64) (by omega), by rw [HS.out]; exact H.out⟩
        case measure => first | exact meas_up _ _ _ hj1 hlt | exact meas_up _ _ _ rfl hlt | (simp [intOf]; omega)
      · obtain rfl : k = items.length := by omega
        by_cases hn0 : next = 0
        · subst hn0
          go_wp2_with (first | (go_at_call 140; refine (TN.out _ _ H.out _ _ (by decide)).mono ?_; rintro y w1 ⟨rfl, hk1, _, _⟩; have H := hide hk1; clear hk1) | (go_at_call 141; refine (first_any _ _ _ H.out.c).mono ?_; rintro y w2 ⟨rfl, hw⟩; obtain rfl := hw.symm))
          go_ret
          exact ⟨by simp, bt HW.out H.out.b⟩
        · have hn0' : (next == 0) = false := by simpa using hn0
          go_wp2_with (first | (go_at_call 121; refine (isNumber_any _ _).mono ?_; rintro y w1 ⟨rfl, hww⟩; obtain rfl := hww.symm) | (go_at_call 140; refine (TN.out _ _ H.out _ _ (by decide)).mono ?_; rintro y w1 ⟨rfl, hk1, _, _⟩; have H := hide hk1; clear hk1) | (go_at_call 141; refine (first_any _ _ _ H.out.c).mono ?_; rintro y w2 ⟨rfl, hw⟩; obtain rfl := hw.symm))
          go_ret
          exact ⟨by simp [bne, hn0', hn0], bt HW.out H.out.b⟩
  · have hfe' : (((fe : Nat) : Int) == 0) = false := by simpa using hfe
    obtain rfl := HF.out hfe
    clear HO
    go_enter Tryz.func95, Tryz.ntmps95
    go_wp2_with fail
    refine FA.out.mono ?_
    rintro y w1 ⟨rfl, hw⟩
    obtain rfl := hw.symm
    clear hv hsz hw FA
    obtain ⟨b0, b1, b2, b3, b4⟩ := PG.out _ (al v (.cells #[.int .i64 0] 59))
    go_wp2_with (first | (go_at_call 119; refine (CF.out _ H0.out).mono ?_; rintro y w1 ⟨rfl, hk⟩; have H := hide hk; obtain ⟨c0, c1, c2, c3, c4⟩ := PG.out _ hk.b; clear hk) | (go_at_call 141; refine (first_any _ _ _ H.out.c).mono ?_; rintro y w2 ⟨rfl, hw⟩; obtain rfl := hw.symm))
    go_ret
    exact ⟨rfl, bt HW.out H.out.b⟩
end Go.Proofs.YtbhigodjbfoeoaaGreat
