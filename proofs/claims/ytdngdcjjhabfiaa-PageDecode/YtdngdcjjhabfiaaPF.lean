import Derived.Test.YtdngdcjjhabfiaaPE
namespace Go.Proofs.Ytdngdcjjhabfiaa
open Go.RowKit

theorem box_ne {w0 w : World} {kb e : Nat} (h : Kt w0 kb w e) : w.heap.size ≠ kb := by have := h.c.lt; omega
/-- what is wrong with a page's kind and form -/
def Pg.formE (p : Pg) : Nat := if p.kindOk = false then 22 else if p.form = false then 5 else 0
set_option maxHeartbeats 1600000 in
theorem checkForm_any (w0 w : World) (kb : Nat) (p : Pv) (h : Kt w0 kb w 0) : Calls Try.prog 23 #[p.vl, tv kb] w fun x w' => x = .returned (.tuple #[]) ∧ Kt w0 kb w' p.pg.formE := by
  have hne := box_ne h
  have H := hide (h.keep (al w (.cells p.cs 25)))
  have B := hide (Bx.new w 25 p.cs)
  have TN := hide fun (w1 : World) (e : Nat) (hk : Kt w0 kb w1 e) (hB : Bx w1 25 w.heap.size p.cs) (wrong : Bool) (xi : Int) (x : Nat) (hx : xi = x) => tell_any w0 w1 kb e 25 w.heap.size p.cs hk hB hne wrong xi x hx
  have HA := hide fun (w1 : World) (f : Int) => hasItemsAlone_any w1 p f
  have PG := hide fun (w1 : World) (hB : Bx w1 25 w.heap.size p.cs) => Bx.page hB
  clear h
  obtain ⟨kind, level, aI, cI, items, aD, cD, data, next⟩ := p
  unfold Pv.vl tv
  simp only [Pv.cs, Pv.vl] at *
  by_cases k1 : kind = 1
  · subst k1
    go_enter Try.func23, Try.ntmps23
    go_wp2_with (first | (go_at_call 50; refine (TN.out _ _ H.out B.out _ _ 5 rfl).mono ?_; rintro y w1 ⟨rfl, hk, hb, _⟩; have H := hide hk; have B := hide hb; obtain ⟨c0, c1, c2, c3, c4⟩ := PG.out _ hb; clear hk hb) | (go_at_call 52; refine (HA.out _ _).mono ?_; rintro y w1 ⟨rfl, hbl⟩; have H := hide (H.out.keep hbl); have B := hide (B.out.keep hbl); obtain ⟨c0, c1, c2, c3, c4⟩ := PG.out _ B.out; clear hbl))
    all_goals (go_end0; refine ⟨rfl, (congrArg (Kt w0 kb _) ?_).mp H.out⟩; simp [tel, Pg.formE, Pg.kindOk, Pg.form, Pv.pg]; grind)
  · by_cases k2 : kind = 2
    · subst k2
      go_enter Try.func23, Try.ntmps23
      go_wp2_with (first | (go_at_call 50; refine (TN.out _ _ H.out B.out _ _ 5 rfl).mono ?_; rintro y w1 ⟨rfl, hk, hb, _⟩; have H := hide hk; have B := hide hb; obtain ⟨c0, c1, c2, c3, c4⟩ := PG.out _ hb; clear hk hb) | (go_at_call 52; refine (HA.out _ _).mono ?_; rintro y w1 ⟨rfl, hbl⟩; have H := hide (H.out.keep hbl); have B := hide (B.out.keep hbl); obtain ⟨c0, c1, c2, c3, c4⟩ := PG.out _ B.out; clear hbl))
      all_goals (go_end0; refine ⟨rfl, (congrArg (Kt w0 kb _) ?_).mp H.out⟩; simp [tel, Pg.formE, Pg.kindOk, Pg.form, Pv.pg]; grind)
    · by_cases k3 : kind = 3
      · subst k3
        go_enter Try.func23, Try.ntmps23
        go_wp2_with (first | (go_at_call 50; refine (TN.out _ _ H.out B.out _ _ 5 rfl).mono ?_; rintro y w1 ⟨rfl, hk, hb, _⟩; have H := hide hk; have B := hide hb; obtain ⟨c0, c1, c2, c3, c4⟩ := PG.out _ hb; clear hk hb) | (go_at_call 52; refine (HA.out _ _).mono ?_; rintro y w1 ⟨rfl, hbl⟩; have H := hide (H.out.keep hbl); have B := hide (B.out.keep hbl); obtain ⟨c0, c1, c2, c3, c4⟩ := PG.out _ B.out; clear hbl))
        all_goals (go_end0; refine ⟨rfl, (congrArg (Kt w0 kb _) ?_).mp H.out⟩; clear H B TN HA PG; have hi : (0 < items.length) = ¬ items = [] := (by rw [List.length_pos_iff]); simp [tel, Pg.formE, Pg.kindOk, Pg.form, Pv.pg]; grind)
      · have k1' : (kind == 1) = false := by simpa using k1
        have k2' : (kind == 2) = false := by simpa using k2
        have k3' : (kind == 3) = false := by simpa using k3
        go_enter Try.func23, Try.ntmps23
        go_wp2_with (go_at_call 50; refine (TN.out _ _ H.out B.out _ _ 22 rfl).mono ?_; rintro y w1 ⟨rfl, hk, hb, _⟩; have H := hide hk)
        all_goals (go_end0; refine ⟨rfl, (congrArg (Kt w0 kb _) ?_).mp H.out⟩; simp [tel, Pg.formE, Pg.kindOk, Pg.form, Pv.pg]; grind)
end Go.Proofs.Ytdngdcjjhabfiaa
