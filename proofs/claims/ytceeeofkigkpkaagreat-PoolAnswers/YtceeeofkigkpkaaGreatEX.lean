import Derived.Test.YtceeeofkigkpkaaGreatES
namespace Go.Proofs.YtceeeofkigkpkaaGreat
set_option linter.unusedVariables false
open Go.RowKit

theorem stt_las3 {x : Pg} (h0 : 0 ≤ x.1) (h : stt x = 3) : stt (las x) = 4 := by
  obtain ⟨c, l⟩ := x
  unfold stt at h
  unfold las stt
  simp only at h h0 ⊢
  by_cases e : c = 0
  · rw [if_pos e] at h; split at h <;> omega
  · rw [if_neg e, decide_eq_true (show 0 < c by omega)]; rfl
theorem stt_las2 {x : Pg} (h : stt x = 2) : stt (las x) = 1 := by
  obtain ⟨c, l⟩ := x
  unfold stt at h
  unfold las stt
  simp only at h ⊢
  by_cases e : c = 0
  · subst e; rfl
  · rw [if_neg e] at h; split at h <;> omega
theorem settle_two {P : Po} (h : P.Ok) : ((P.setl 3).setl 2).pg = P.pg.map fun x => (x.1, decide (0 < x.1)) := by
  have hl : ((P.setl 3).setl 2).pg.length = P.pg.length := (sel_length _ _).trans (sel_length _ _)
  refine getD_ext (by rw [hl, List.length_map]) fun i hi => ?_
  rw [hl] at hi
  have h3 : i < (P.setl 3).pg.length := by show i < (sel _ _).length; rw [sel_length]; exact hi
  have e1 : (P.setl 3).pg.getD i Pg.zero = if inS P.pg 3 ((i : Int) + 1) then las (P.pg.getD i Pg.zero) else P.pg.getD i Pg.zero := sel_get _ _ hi
  have e2 : ((P.setl 3).setl 2).pg.getD i Pg.zero = if inS (P.setl 3).pg 2 ((i : Int) + 1) then las ((P.setl 3).pg.getD i Pg.zero) else (P.setl 3).pg.getD i Pg.zero := sel_get _ _ h3
  have e3 : (P.pg.map fun x => (x.1, decide (0 < x.1))).getD i Pg.zero = las (P.pg.getD i Pg.zero) := by simp [hi, las]
  rw [e2, e3, inS_get h3, e1, inS_get hi]
  have h0 := (h.cs _ (getD_memP hi)).1
  generalize P.pg.getD i Pg.zero = y at *
  obtain ⟨c, l⟩ := y
  have h0 : 0 ≤ c := h0
  unfold las stt
  by_cases ec : c = 0
  · subst ec; cases l <;> rfl
  · have d : decide (0 < c) = true := decide_eq_true (by omega)
    cases l <;> simp [ec, d]
set_option maxHeartbeats 2000000 in
theorem Settle_any (w : World) (b : Nat) (P : Po) (col : Nat → Nat) (h : Pl w b P col) (hm : P.mark ≤ 9223372036854775807) :
    Calls Tryz.prog 28 #[.pointer (some ⟨b, 0, none⟩)] w fun e w' => e = .returned (.tuple #[]) ∧ ∃ col', Pl w' b P.settle col' ∧ Fr w col w' col' := by
  have ok := h.ok
  obtain ⟨D, h⟩ := h
  have S1 := hide (settle_any w b P D col h 3 4 (by decide) (by decide) (by decide) (fun x hx => stt_las3 (ok.cs x hx).1))
  have S2 := hide fun (W : World) (D' : Pd) (c' : Nat → Nat) (h' : Pm W b (P.setl 3) c' D') => settle_any W b (P.setl 3) D' c' h' 2 1 (by decide) (by decide) (by decide) (fun x hx => stt_las2)
  have HM := hide hm
  have OK := hide ok
  clear h ok
  go_enter Tryz.func28, Tryz.ntmps28
  go_wp2_with fail
  refine S1.out.mono ?_
  rintro _ w1 ⟨rfl, c1, ⟨D1, h1⟩, f1⟩
  have F1 := hide f1
  have H1 := hide h1
  clear h1 f1 S1
  go_wp2_with fail
  refine (S2.out _ _ _ H1.out).mono ?_
  rintro _ w2 ⟨rfl, c2, ⟨D2, h2⟩, f2⟩
  have F2 := hide (F1.out.trans f2)
  have MK := hide (Mark_any w2 b ((P.setl 3).setl 2) D2 c2 h2.q HM.out)
  have H2 := hide h2
  clear h2 f2 S2 H1 F1
  rw [show ((P.setl 3).setl 2).mark = P.mark from rfl] at MK
  go_wp2_with fail
  refine MK.out.mono ?_
  rintro _ w3 ⟨rfl, hb⟩
  have q3 := H2.out.q.keep hb
  have F3 := hide (F2.out.below hb)
  have c7 := q3.c7
  have c8 := q3.c8
  have f7 := q3.free 7
  have f8 := q3.free 8
  have c7' : (w3.setCell ⟨b, 8, none⟩ (.int .i64 ((P.mark : Nat) : Int))).cell? ⟨b, 7, none⟩ = some (.slice D2.aa ((P.setl 3).setl 2).ac.length D2.ac) := by
    rw [cell_of_row _ _ _ _ _ _ (heap_setCell_same w3 b 8 _ _ (.int .i64 ((P.mark : Nat) : Int)) q3.box)]
    rfl
  have f7' : (w3.setCell ⟨b, 8, none⟩ (.int .i64 ((P.mark : Nat) : Int))).frozen? ⟨b, 7, none⟩ = false := by simp [World.frozen?, heap_setCell_same w3 b 8 _ _ (.int .i64 ((P.mark : Nat) : Int)) q3.box]
  have FIN := hide (show ∃ col', Pl ((w3.setCell ⟨b, 8, none⟩ (.int .i64 ((P.mark : Nat) : Int))).setCell ⟨b, 7, none⟩ (.slice none 0 0)) b P.settle col' ∧ Fr w col ((w3.setCell ⟨b, 8, none⟩ (.int .i64 ((P.mark : Nat) : Int))).setCell ⟨b, 7, none⟩ (.slice none 0 0)) col' from by
    have bS : But (fun k => k = b) w3 ((w3.setCell ⟨b, 8, none⟩ (.int .i64 ((P.mark : Nat) : Int))).setCell ⟨b, 7, none⟩ (.slice none 0 0)) := ((But.refl (fun k => k = b) w3).setCell (p := ⟨b, 8, none⟩) (fun _ => rfl) _).setCell (p := ⟨b, 7, none⟩) (fun _ => rfl) _
    have ne : ∀ {k : Nat}, c2 k ≠ 1 → ¬ (k = b) := fun h1 e => h1 (by rw [e]; exact q3.cb)
    have ps : P.settle = ⟨P.rf, ((P.setl 3).setl 2).pg, [], P.mark⟩ := by unfold Po.settle; rw [settle_two OK.out]
    refine ⟨c2, ⟨{ D2 with aa := none, ac := 0, B := [] }, ?_, OK.out.settle, ?_⟩, F3.out.trans ⟨bS.mono fun k _ hk => by rw [hk, q3.cb]; decide, fun _ _ => rfl⟩⟩
    · rw [ps]
      refine ⟨?_, bS.same q3.pgs (ne (by rw [q3.cg]; decide)), fun s hs => (q3.set s hs).but bS (ne (by rw [q3.cs s hs]; omega)) (fun y hy => ne (by rw [q3.ca s hs y hy]; omega)), Gw.nil _ _ _, rfl, fun q hq => (by cases hq), q3.cb, q3.cg, q3.cs, q3.ca, fun x hx => (by cases hx), fun t ht => (by cases ht), fun k hk => Nat.lt_of_lt_of_le (q3.lt k hk) bS.size⟩
      rw [heap_setCell_same _ _ _ _ _ _ (heap_setCell_same w3 b 8 _ _ (.int .i64 ((P.mark : Nat) : Int)) q3.box)]
      rfl
    · intro s hs z
      rw [ps]
      exact H2.out.mem s hs z)
  clear q3 F3 F2 H2 MK
  go_wp2
  go_end0
  exact ⟨rfl, FIN.out⟩
end Go.Proofs.YtceeeofkigkpkaaGreat
