import Derived.Test.YteaclamgahfbjaaUYE
namespace Go.Proofs.Yteaclamgahfbjaa
set_option linter.unusedVariables false
open Go.RowKit

/-! ### the document's Add -/
theorem nb_mono {p q : Int → Bool} {a : Int} : ∀ {k : Nat}, (∀ x, p x = true → q x = true) → nb p a k ≤ nb q a k
  | 0, _ => Nat.le_refl _
  | k + 1, h => by
    rw [nb_succ, nb_succ]
    have := nb_mono (k := k) (a := a) h
    by_cases c : p (a + k) = true
    · rw [if_pos c, if_pos (h _ c)]
      omega
    · rw [if_neg c]
      omega
theorem sz_64 {L : List Rn} (h : Ris L) (hb : ∀ r ∈ L, N64 r.1 ∧ N64 r.2) : sz L = nb (has L) (-9223372036854775808) 18446744073709551616 :=
  sz_nb h (fun r hr => by have := hb r hr; unfold N64 at this; omega)
theorem sz_mono {L M : List Rn} (hL : Ris L) (hM : Ris M) (bL : ∀ r ∈ L, N64 r.1 ∧ N64 r.2) (bM : ∀ r ∈ M, N64 r.1 ∧ N64 r.2) (h : ∀ z, has L z = true → has M z = true) : sz L ≤ sz M := by
  rw [sz_64 hL bL, sz_64 hM bM]
  exact nb_mono h
theorem Rt.put {w w' : World} {b : Nat} {a a' : Option Addr} {cap cap' : Nat} {L R : List Rn} (h : Rt w b a cap L) (hw : Below w.heap.size w w') (hR : Rf.Vw w' a' cap' R) (hN : New w none a') (hc : Can R) (hb : ∀ r ∈ R, N64 r.1 ∧ N64 r.2) (hl : R.length ≤ 4294967296) :
    Rt (w'.setCell ⟨b, 0, none⟩ (.slice a' R.length cap')) b a' cap' R ∧ But (fun k => k = b) w (w'.setCell ⟨b, 0, none⟩ (.slice a' R.length cap')) := by
  have h1 := (hw.block b h.lt).trans h.blk
  refine ⟨⟨one_setCell h1, hR.but (S := fun k => k = b) ((But.refl (fun k => k = b) w').setCell (p := ⟨b, 0, none⟩) (fun _ => rfl) _) (fun x hx e => ?_), hc, hb, hl⟩, (But.ofBelow (S := fun k => k = b) hw).setCell (p := ⟨b, 0, none⟩) (fun _ => rfl) _⟩
  have hlt := h.lt
  rcases hN x hx with ⟨y, hy, _⟩ | h2
  · cases hy
  · omega
/-- the list under way -/
def Un (w wx : World) (a : Option Addr) (c : Nat) (P : List Rn) : Prop := Rf.Two w wx a none c 0 P []
theorem Un.nil (w : World) : Un w w none 0 [] := ⟨Rf.Vw.nil _, Rf.Vw.nil _, New.none _ _, New.none _ _, fun x y hx _ => by (cases hx), Below.refl _ _⟩
theorem Un.next {w wx : World} {a : Option Addr} {n c : Nat} {P : List Rn} (h : Un w wx a c P) (hn : n = P.length) (r : Rn) (hl : n + 1 ≤ 8589934592) :
    ∃ g cap' w', (Builtin.append_ #[36, 36] 36 #[.slice a n c, .slice (some ⟨wx.heap.size, 0, none⟩) 1 1]).run Try.prog (wx.alloc (.cells #[.int .i64 r.1, .int .i64 r.2] 86)) = .ok (.slice (some ⟨g, 0, none⟩) (n + 1) cap') w' ∧ Un w w' (some ⟨g, 0, none⟩) cap' (P ++ [r]) ∧ Below wx.heap.size wx (wx.alloc (.cells #[.int .i64 r.1, .int .i64 r.2] 86)) ∧ But (InA a) wx w' := by
  have T6 := h.keep (al wx (.cells #[.int .i64 r.1, .int .i64 r.2] 86))
  obtain ⟨g, cap', w1, hrun, v1, v2, v3⟩ := Rf.run_apR (wx.alloc (.cells #[.int .i64 r.1, .int .i64 r.2] 86)) 36 a n c P hn T6.r1 (some ⟨wx.heap.size, 0, none⟩) 1 1 [r] rfl (Rf.vs_new1 wx r) (by simp) (by rw [← hn]; simpa using hl)
  exact ⟨g, cap', w1, hrun, T6.one v1 v2 v3, al _ _, (But.ofBelow (al _ _)).trans (But.inA v3) (fun _ _ h => h)⟩
set_option maxHeartbeats 4000000 in
set_option maxRecDepth 20000 in
theorem rAdd_any (w : World) (b : Nat) (a : Option Addr) (cap : Nat) (L : List Rn) (lo hi : Int) (hS : Rt w b a cap L) (hlo : N64 lo) (hhi : N64 hi) (hlen : L.length + 1 ≤ 4294967296) :
    Calls Try.prog 11 #[.pointer (some ⟨b, 0, none⟩), .int .i64 lo, .int .i64 hi] w fun e w' => ∃ a' cap' R, e = .returned (.int .i64 ((min (sz R - sz L) mxi : Nat) : Int)) ∧ Rt w' b a' cap' R ∧ (∀ z, has R z = (has L z || (decide (lo ≤ z) && decide (z ≤ hi)))) ∧ R.length ≤ L.length + 1 ∧ New w none a' ∧ But (fun k => k = b) w w' := by
  have hc := hS.cell
  have C1 := hide (many_any w a cap L hS.row.vs hS.can.ris hS.bnd (by omega))
  have C2 := hide fun (W : World) (g c : Nat) (hV : Rf.Vs W (some ⟨g, 0, none⟩) (L ++ [(lo, hi)])) => Norm_any W (some ⟨g, 0, none⟩) c (L ++ [(lo, hi)]) hV (fun r hr => by
    rcases List.mem_append.1 hr with hr | hr
    · exact hS.bnd r hr
    · rw [List.mem_singleton.1 hr]; exact ⟨hlo, hhi⟩) (by simpa using hlen)
  have SL := hide (sz_le hS.can.ris hS.bnd)
  have HS := hide hS
  have bl := hS.lt
  obtain ⟨n, hn⟩ : ∃ n : Nat, n = L.length := ⟨_, rfl⟩
  have NL := hide hn
  rw [← hn] at hc hlen C1 ⊢
  rw [List.length_append, List.length_singleton, ← hn] at C2
  clear hS hn hlo hhi
  obtain ⟨m2, hm2⟩ : ∃ m : Nat, sz L % 18446744073709551616 = m := ⟨_, rfl⟩
  obtain ⟨f2, hf2⟩ : ∃ f : Bool, decide (sz L = 18446744073709551616) = f := ⟨_, rfl⟩
  have M2 := hide hm2
  have F2 := hide hf2
  rw [hm2, hf2] at C1
  have lt2 : m2 < 18446744073709551616 := by omega
  clear hm2 hf2
  go_enter Try.func11, Try.ntmps11
  go_wp2_with fail
  refine C1.out.mono ?_
  rintro e w1 ⟨rfl, hb1⟩
  go_wp2
  go_loopw [9, 10] (fun p i wx => ∃ (k : Nat) (a1 : Option Addr) (c1 : Nat), k ≤ n ∧ i = .int .i64 k ∧ p = .slice a1 k c1 ∧ Un w1 wx a1 c1 (L.take k)) (fun _ i _ => n - (intOf i).toNat)
  case atStart => exact ⟨0, none, 0, Nat.zero_le _, rfl, rfl, Un.nil _⟩
  case round =>
    obtain ⟨k, a1, c1, hk, rfl, rfl, hT⟩ := hrel
    have hbw := bt hb1 hT.b
    have T := hide hT
    have lk : k = (L.take k).length := by rw [List.length_take, ← NL.out]; omega
    have LK := hide lk
    have hc1 : wr.cell? ⟨b, 0, none⟩ = some (.slice a n cap) := (hbw.cell (p := ⟨b, 0, none⟩) (block_lt_of_cell hc)).trans hc
    clear hT lk
    by_cases hlt : k < n
    · have hkL : k < L.length := by rw [← NL.out]; exact hlt
      obtain ⟨b1, o1, rfl, d1, d2⟩ := (HS.out.row.vs.keep hbw).at hkL
      have TK := hide (take_next L Rn.zero hkL)
      generalize L.getD k Rn.zero = r at *
      obtain ⟨g, cap', w2, hrun, u1, u2, u3⟩ := T.out.next LK.out r (by omega)
      have T7 := hide u1
      clear u1 u2 u3 T
      go_wp2_with (at_builtin; refine Lib.wpList_append_run _ rfl _ _ _ _ rfl _ _ rfl rfl _ _ hrun ?_)
      go_roundw
      case rel => exact ⟨k + 1, _, cap', by omega, by simp, rfl, by rw [TK.out]; exact T7.out⟩
      case measure => simp [intOf]; omega
    · obtain rfl : k = n := by omega
      have e1 : L.take k = L := by rw [NL.out, List.take_length]
      rw [e1] at T
      obtain ⟨g, cap', w2, hrun, u1, u2, u3⟩ := T.out.next NL.out (lo, hi) (by omega)
      simp only at hrun
      have T7 := hide u1
      have hb2 := bt hb1 u1.b
      clear u1 u2 u3 T e1 LK
      go_wp2_with (at_builtin; refine Lib.wpList_append_run _ rfl _ _ _ _ rfl _ _ rfl rfl _ _ hrun ?_)
      refine (C2.out w2 g cap' T7.out.r1.vs).mono ?_
      rintro e w3 ⟨a', cc, R, rfl, q1, q2, q3, q4, q5, q6, q7⟩
      have hb3 := bt hb2 q7
      obtain ⟨p1, p2⟩ := HS.out.put hb3 q1 (q2.mono hb2.size) q3 q4 (by omega)
      have hcb : w3.cell? ⟨b, 0, none⟩ = some (.slice a k cap) := (hb3.cell (p := ⟨b, 0, none⟩) (block_lt_of_cell hc)).trans hc
      have hfb : w3.frozen? ⟨b, 0, none⟩ = false := free_of_one ((hb3.block b bl).trans HS.out.blk)
      have hc5 := p1.cell
      have C4 := hide (many_any _ a' cc R p1.row.vs p1.can.ris p1.bnd (by omega))
      have P1 := hide p1
      have P2 := hide p2
      have HH := hide (show ∀ z, has R z = (has L z || (decide (lo ≤ z) && decide (z ≤ hi))) from fun z => by rw [q5 z, has_append, has_cons, has_nil, Bool.or_false])
      have MO := hide (sz_mono HS.out.can.ris q3.ris HS.out.bnd q4 (fun z hz => by rw [HH.out z, hz]; rfl))
      have SR := hide (sz_le q3.ris q4)
      have Q2 := hide (q2.mono hb2.size)
      have Q6 := hide q6
      obtain ⟨nr, hnr⟩ : ∃ m : Nat, m = R.length := ⟨_, rfl⟩
      rw [← hnr] at hc5 C4 P1 P2 ⊢
      obtain ⟨m1, hm1⟩ : ∃ m : Nat, sz R % 18446744073709551616 = m := ⟨_, rfl⟩
      obtain ⟨f1, hf1⟩ : ∃ f : Bool, decide (sz R = 18446744073709551616) = f := ⟨_, rfl⟩
      rw [hm1, hf1] at C4
      have lt1 : m1 < 18446744073709551616 := by omega
      obtain ⟨mm, hmm⟩ : ∃ m : Nat, (m1 + 18446744073709551616 - m2) % 18446744073709551616 = m := ⟨_, rfl⟩
      have lt3 : mm < 18446744073709551616 := by omega
      have u1 : IntKind.u64.wrap ((m1 : Int) - (m2 : Int)) = (mm : Int) := by rw [IntKind.wrap_u64]; omega
      have C5 := hide fun (W : World) (f : Bool) => told_any W mm f lt3
      have ANS := hide (show tld mm (f1 && !f2 && decide (m2 = 0)) = min (sz R - sz L) mxi by
        rw [← hmm, ← hf1, ← F2.out, ← hm1, ← M2.out]
        exact tld_sub SR.out MO.out)
      clear hnr hm1 hf1 hmm q1 q2 q3 q4 q5 q6 q7 p1 p2 M2 F2 SR MO SL
      rcases f1 with _ | _
      · go_wp2_with fail
        refine C4.out.mono ?_
        rintro e w5 ⟨rfl, hb5⟩
        go_wp2_with fail
        refine (C5.out w5 false).mono ?_
        rintro e w6 ⟨rfl, rfl⟩
        go_wp2
        go_ret
        exact ⟨a', cc, R, by rw [← ANS.out]; rfl, P1.out.keep hb5, HH.out, Q6.out, Q2.out, P2.out.andBelow hb5⟩
      · rcases f2 with _ | _
        · by_cases h2 : m2 = 0
          · have h3 : decide (m2 = 0) = true := decide_eq_true h2
            have h4 : ((m2 : Int) == 0) = true := by simp [h2]
            have h5 : decide ((m2 : Int) = 0) = true := by simp [h2]
            have h6 : (m2 == 0) = true := by simp [h2]
            clear h2
            go_wp2_with fail
            refine C4.out.mono ?_
            rintro e w5 ⟨rfl, hb5⟩
            go_wp2_with fail
            refine (C5.out w5 true).mono ?_
            rintro e w6 ⟨rfl, rfl⟩
            go_wp2
            go_ret
            exact ⟨a', cc, R, by rw [← ANS.out]; rw [h3]; rfl, P1.out.keep hb5, HH.out, Q6.out, Q2.out, P2.out.andBelow hb5⟩
          · have h3 : decide (m2 = 0) = false := decide_eq_false h2
            have h4 : ((m2 : Int) == 0) = false := by simp [h2]
            have h5 : decide ((m2 : Int) = 0) = false := by simp [h2]
            have h6 : (m2 == 0) = false := by simp [h2]
            go_wp2_with fail
            refine C4.out.mono ?_
            rintro e w5 ⟨rfl, hb5⟩
            go_wp2_with fail
            refine (C5.out w5 false).mono ?_
            rintro e w6 ⟨rfl, rfl⟩
            go_wp2
            go_ret
            exact ⟨a', cc, R, by rw [← ANS.out]; rw [h3]; rfl, P1.out.keep hb5, HH.out, Q6.out, Q2.out, P2.out.andBelow hb5⟩
        · go_wp2_with fail
          refine C4.out.mono ?_
          rintro e w5 ⟨rfl, hb5⟩
          go_wp2_with fail
          refine (C5.out w5 false).mono ?_
          rintro e w6 ⟨rfl, rfl⟩
          go_wp2
          go_ret
          exact ⟨a', cc, R, by rw [← ANS.out]; rfl, P1.out.keep hb5, HH.out, Q6.out, Q2.out, P2.out.andBelow hb5⟩
end Go.Proofs.Yteaclamgahfbjaa
