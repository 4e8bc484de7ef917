import Derived.Test.YtdngdcjjhabfiaaPF
namespace Go.Proofs.Ytdngdcjjhabfiaa
open Go.RowKit

/-- what is wrong with a leaf's value and child -/
def It.leafE (x : It) : Nat := if x.valOk 1 = false then 8 else if x.kidOk 1 = false then 15 else 0
/-- the first of two faults -/
def els (e x : Nat) : Nat := if e ≠ 0 then e else x
set_option maxHeartbeats 1600000 in
theorem checkValue_any (w0 w : World) (kb e : Nat) (p : Iv) (h : Kt w0 kb w e) : Calls Try.prog 54 #[p.vl, tv kb] w fun x w' => x = .returned (.tuple #[]) ∧ Kt w0 kb w' (els e p.it.leafE) ∧ But (fun k => k = kb) w w' := by
  have hne := box_ne h
  have H := hide (h.keep (al w (.cells p.cs 47)))
  have B := hide (Bx.new w 47 p.cs)
  have U := hide (But.ofBelow (S := fun k => k = kb) (al w (.cells p.cs 47)))
  have TN := hide fun (w1 : World) (e : Nat) (hk : Kt w0 kb w1 e) (hB : Bx w1 47 w.heap.size p.cs) (wrong : Bool) (xi : Int) (hx : 0 ≤ xi) => tell_any w0 w1 kb e 47 w.heap.size p.cs hk hB hne wrong xi xi.toNat (by omega)
  have SH := hide fun (w1 : World) => standsHere_any w1 p
  have PG := hide fun (w1 : World) (hB : Bx w1 47 w.heap.size p.cs) => Bx.item hB
  clear h
  obtain ⟨aK, cK, key, aV, cV, val, child, size⟩ := p
  unfold Iv.vl tv
  simp only [Iv.cs, Iv.vl] at *
  by_cases h32 : size ≤ 32
  · have h32' : decide (size ≤ 32) = true := by simpa using h32
    rw [h32'] at SH
    go_enter Try.func54, Try.ntmps54
    go_wp2_with (first | (go_at_call 50; refine (TN.out _ _ H.out B.out _ _ (by decide)).mono ?_; rintro y w1 ⟨rfl, hk, hb, UU⟩; have U := hide (U.out.trans UU (fun _ _ h => h)); have H := hide hk; have B := hide hb; obtain ⟨c0, c1, c2, c3⟩ := PG.out _ hb; clear hk hb) | (go_at_call 73; refine (SH.out _).mono ?_; rintro y w1 ⟨rfl, o1, rfl⟩; have U := hide (U.out.andBelow (al _ o1)); have H := hide (H.out.keep (al _ o1)); have B := hide (B.out.keep (al _ o1)); obtain ⟨c0, c1, c2, c3⟩ := PG.out _ B.out) | (go_at_call 25; refine (isNumber_any _ _).mono ?_; rintro y w1 ⟨rfl, hww⟩; obtain rfl := hww.symm))
    all_goals (go_end0; refine ⟨rfl, (congrArg (Kt w0 kb _) ?_).mp H.out, U.out⟩; clear H B TN SH PG; have hi : (0 < val.length) = ¬ val = [] := (by rw [List.length_pos_iff]); simp [tel, els, It.leafE, It.valOk, It.kidOk, Iv.it, h32]; grind)
  · have h32' : decide (size ≤ 32) = false := by simpa using h32
    rw [h32'] at SH
    go_enter Try.func54, Try.ntmps54
    go_wp2_with (first | (go_at_call 50; refine (TN.out _ _ H.out B.out _ _ (by decide)).mono ?_; rintro y w1 ⟨rfl, hk, hb, UU⟩; have U := hide (U.out.trans UU (fun _ _ h => h)); have H := hide hk; have B := hide hb; obtain ⟨c0, c1, c2, c3⟩ := PG.out _ hb; clear hk hb) | (go_at_call 73; refine (SH.out _).mono ?_; rintro y w1 ⟨rfl, o1, rfl⟩; have U := hide (U.out.andBelow (al _ o1)); have H := hide (H.out.keep (al _ o1)); have B := hide (B.out.keep (al _ o1)); obtain ⟨c0, c1, c2, c3⟩ := PG.out _ B.out) | (go_at_call 25; refine (isNumber_any _ _).mono ?_; rintro y w1 ⟨rfl, hww⟩; obtain rfl := hww.symm))
    all_goals (go_end0; refine ⟨rfl, (congrArg (Kt w0 kb _) ?_).mp H.out, U.out⟩; clear H B TN SH PG; have hi : (0 < val.length) = ¬ val = [] := (by rw [List.length_pos_iff]); simp [tel, els, It.leafE, It.valOk, It.kidOk, Iv.it]; grind)
end Go.Proofs.Ytdngdcjjhabfiaa
