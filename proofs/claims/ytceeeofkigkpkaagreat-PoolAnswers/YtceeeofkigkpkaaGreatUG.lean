import Derived.Test.YtceeeofkigkpkaaGreatUF
namespace Go.Proofs.YtceeeofkigkpkaaGreat
open Go.RowKit Go.Shelf
attribute [local go_sem] Oper.semAt_some

theorem parts_any (w : World) (b : Nat) (lo hi : Int) : Calls Tryz.prog 83 #[.pointer (some ⟨b, 0, none⟩), .int .i64 lo, .int .i64 hi] w fun e w' =>
    e = .returned (.func (.func 95) #[] #[.pointer (some ⟨w.heap.size, 0, none⟩), .pointer (some ⟨w.heap.size + 1, 0, none⟩), .pointer (some ⟨w.heap.size + 1 + 1, 0, none⟩)]) ∧ w' = w3 w b lo hi := by
  go_enter Tryz.func83, Tryz.ntmps83
  go_wp2
  go_ret
  exact ⟨rfl, rfl⟩
theorem clip_length (M : List Rn) (lo hi : Int) : (clip M lo hi).length = M.length := by simp [clip]
theorem clip_getD (M : List Rn) (lo hi : Int) {k : Nat} (h : k < M.length) : (clip M lo hi).getD k Rn.zero = (max lo (M.getD k Rn.zero).1, min hi (M.getD k Rn.zero).2) := by
  simp [clip, h]
/-- what of a set is read -/
def Inb (b : Nat) (a : Option Addr) (k : Nat) : Prop := k = b ∨ ∃ x, a = some x ∧ x.block = k
theorem Vs.mid {w : World} {a : Option Addr} {A M B : List Rn} (h : Vs w a (A ++ M ++ B)) (hM : M ≠ []) : ∃ b o, a = some ⟨b, o, none⟩ ∧ Vs w (some ⟨b, o + A.length * 2, none⟩) M := by
  rcases h with h | ⟨b, o, e, hc⟩
  · simp at h
    exact absurd h.2.1 hM
  · refine ⟨b, o, e, .inr ⟨b, o + A.length * 2, rfl, fun j u hu => ?_⟩⟩
    have := hc (A.length * 2 + j) u (by
      rw [rc_append, rc_append, List.append_assoc, List.getElem?_append_right (by rw [rc_length]; omega), rc_length, Nat.add_sub_cancel_left, List.getElem?_append_left (List.getElem?_eq_some_iff.1 hu).1]
      exact hu)
    rw [← Nat.add_assoc] at this
    exact this
set_option maxHeartbeats 4000000 in
set_option maxRecDepth 10000 in
theorem parts_seq (w : World) (b B1 B2 B3 : Nat) (a : Option Addr) (cap : Nat) (L A M B : List Rn) (lo hi : Int) (hS : St w b a cap L) (sp : Spl L lo hi A M B) (hle : lo ≤ hi)
    (c1 : w.cell? ⟨B1, 0, none⟩ = some (.pointer (some ⟨b, 0, none⟩))) (c2 : w.cell? ⟨B2, 0, none⟩ = some (.int .i64 lo)) (c3 : w.cell? ⟨B3, 0, none⟩ = some (.int .i64 hi)) :
    Seqs Tryz.prog 95 #[.pointer (some ⟨B1, 0, none⟩), .pointer (some ⟨B2, 0, none⟩), .pointer (some ⟨B3, 0, none⟩)] enR (clip M lo hi) w (fun k => Inb b a k ∨ k = B1 ∨ k = B2 ∨ k = B3) := by
  intro l S J Jx W hW hX aJ aJx hY h0
  have nS : ∀ k, (Inb b a k ∨ k = B1 ∨ k = B2 ∨ k = B3) → ¬ S k := fun k h hs => (hX _ hs).1 h
  have c1W : W.cell? ⟨B1, 0, none⟩ = some (.pointer (some ⟨b, 0, none⟩)) := (hW.cell (p := ⟨B1, 0, none⟩) (block_lt_of_cell c1) (fun h => h (.inr (.inl rfl)))).trans c1
  have c2W : W.cell? ⟨B2, 0, none⟩ = some (.int .i64 lo) := (hW.cell (p := ⟨B2, 0, none⟩) (block_lt_of_cell c2) (fun h => h (.inr (.inr (.inl rfl))))).trans c2
  have c3W : W.cell? ⟨B3, 0, none⟩ = some (.int .i64 hi) := (hW.cell (p := ⟨B3, 0, none⟩) (block_lt_of_cell c3) (fun h => h (.inr (.inr (.inr rfl))))).trans c3
  have hSW : St W b a cap L := hS.but hW (fun h => h (.inl (.inl rfl))) (fun x hx h => h (.inl (.inr ⟨x, hx, rfl⟩)))
  clear c1 c2 c3 hS hW
  have Y := hide hY
  clear hY
  have C := hide (meeting_any W b a cap L lo hi A M B hSW sp hle)
  have hL := hide hSW
  have hc := hSW.cell
  have hl := hSW.len
  have hcap := hSW.row.len
  have hLl : L.length = A.length + M.length + B.length := by rw [sp.eq]; simp [Nat.add_assoc]
  have hM1 := hide (show ∀ k, k < M.length → lo ≤ (M.getD k Rn.zero).2 ∧ (M.getD k Rn.zero).1 ≤ hi from fun k hk => sp.m _ (getD_mem hk))
  have eL := hide sp.eq
  clear hSW sp
  obtain ⟨n, hn⟩ : ∃ n : Nat, n = M.length := ⟨_, rfl⟩
  obtain ⟨n0, hn0⟩ : ∃ n : Nat, n = A.length := ⟨_, rfl⟩
  have hn' := hide hn
  have hn0' := hide hn0
  rw [← hn, ← hn0] at hLl C
  obtain ⟨nL, hnL⟩ : ∃ n : Nat, n = L.length := ⟨_, rfl⟩
  rw [← hnL] at hLl hc hl hcap
  clear hnL hn hn0
  obtain ⟨hcap1, hcap2⟩ := hcap
  unfold maxLen at hcap2
  obtain ⟨n1, hn1⟩ : ∃ m : Nat, m = n0 + n := ⟨_, rfl⟩
  rw [← hn1] at C
  have hne : n0 ≤ n1 := by omega
  have hne2 : n1 ≤ cap := by omega
  have hsub : (n1 : Int) - (n0 : Int) = (n : Int) := by omega
  have hsubN : n1 - n0 = n := by omega
  have hn0L : n0 + n ≤ nL := by omega
  have hn1' := hide hn1
  clear hn1 hLl
  refine callsIn_of_wp Tryz.func95 rfl trivial ?_ rfl
  simp only [Tryz.ntmps95, List.size_toArray, List.length_cons, List.length_nil, Nat.reduceAdd, Nat.reduceSub, Array.replicate_succ, Array.replicate_zero, List.push_toArray, List.append_toArray, List.nil_append, List.cons_append]
  gi_wp2_with fail
  refine ⟨trivial, rfl, ?_⟩
  refine (callsIn_wide.2 C.out).mono ?_
  rintro e W1 ⟨rfl, hb1⟩
  have hW1s := hb1.size
  have k1 := (hb1.cell (p := ⟨B1, 0, none⟩) (block_lt_of_cell c1W)).trans c1W
  have kc := (hb1.cell (p := ⟨b, 0, none⟩) (block_lt_of_cell hc)).trans hc
  have J1 : J [] W1 := aJ _ _ _ h0 (Nat.le_refl _) (But.ofBelow hb1)
  by_cases hz : n = 0
  · subst hz
    obtain rfl : n1 = n0 := by have := hn1'.out; omega
    clear hsub hsubN hn1'
    have hM0 : M = [] := List.length_eq_zero_iff.1 hn'.out.symm
    by_cases hcz : cap = n1
    · gi_wp2
      gi_loopw [24] (fun i wr => i = .int .i64 0 ∧ wr = W1) (fun _ _ => 0)
      case atStart => exact ⟨rfl, rfl⟩
      case round =>
        obtain ⟨rfl, rfl⟩ := hrel
        gi_wp2
        go_end0
        exact ⟨⟨_, rfl⟩, But.ofBelow hb1, .inl (by rw [hM0]; exact J1)⟩
    · gi_wp2
      gi_loopw [24] (fun i wr => i = .int .i64 0 ∧ wr = W1) (fun _ _ => 0)
      case atStart => exact ⟨rfl, rfl⟩
      case round =>
        obtain ⟨rfl, rfl⟩ := hrel
        gi_wp2
        go_end0
        exact ⟨⟨_, rfl⟩, But.ofBelow hb1, .inl (by rw [hM0]; exact J1)⟩
  · have hpos : 0 < M.length := by rw [← hn'.out]; omega
    obtain ⟨bb, o, rfl, _⟩ := Vs.mid (A := A) (M := M) (B := B) (by rw [← eL.out]; exact hL.out.row.vs) (List.length_pos_iff.1 hpos)
    have hnc : ¬ cap = n0 := by omega
    gi_wp2
    gi_loopw [24] (fun i wr => ∃ k : Nat, k ≤ n ∧ i = .int .i64 k ∧ J ((clip M lo hi).take k) wr ∧ But S W wr)
      (fun i _ => n - (intOf i).toNat)
    case atStart => exact ⟨0, Nat.zero_le _, rfl, J1, But.ofBelow hb1⟩
    case round =>
      obtain ⟨k, hk, rfl, hJ, hB⟩ := hrel
      by_cases hlt : k < n
      · have hkM : k < M.length := by rw [← hn'.out]; exact hlt
        have hVr := (hL.out.row.vs.but hB (fun x hx h => nS _ (.inl (.inr ⟨x, hx, rfl⟩)) h))
        rw [eL.out] at hVr
        obtain ⟨bb', o', e', hVm⟩ := hVr.mid (List.length_pos_iff.1 hpos)
        simp only [Option.some.injEq, Addr.mk.injEq, and_true] at e'
        obtain ⟨rfl, rfl⟩ := e'
        obtain ⟨b2, o2, e2, d1, d2⟩ := hVm.at hkM
        simp only [Option.some.injEq, Addr.mk.injEq, and_true] at e2
        obtain ⟨rfl, rfl⟩ := e2
        rw [← hn0'.out] at d1 d2
        have hkC : k < (clip M lo hi).length := by rw [clip_length]; exact hkM
        have hgC := clip_getD M lo hi hkM
        have hsz := hB.size
        have c2r := (hB.cell (p := ⟨B2, 0, none⟩) (block_lt_of_cell c2W) (nS _ (.inr (.inr (.inl rfl))))).trans c2W
        have c3r := (hB.cell (p := ⟨B3, 0, none⟩) (block_lt_of_cell c3W) (nS _ (.inr (.inr (.inr rfl))))).trans c3W
        generalize hr : M.getD k Rn.zero = r at *
        have ha : Below wr.heap.size wr (wr.alloc (.cells #[.int .i64 r.1, .int .i64 r.2] 92)) := al _ _
        have c2a := (ha.cell (p := ⟨B2, 0, none⟩) (block_lt_of_cell c2r)).trans c2r
        have c3a := (ha.cell (p := ⟨B3, 0, none⟩) (block_lt_of_cell c3r)).trans c3r
        obtain ⟨p, hp⟩ : ∃ p, (if lo < r.1 then r.1 else lo) = p := ⟨_, rfl⟩
        obtain ⟨q, hq⟩ : ∃ q, (if r.2 < hi then r.2 else hi) = q := ⟨_, rfl⟩
        have epq : (max lo r.1, min hi r.2) = (p, q) := by rw [← hp, ← hq]; exact Prod.ext (by simp only; split <;> omega) (by simp only; split <;> omega)
        rw [epq] at hgC
        obtain ⟨fn, tmps, assign, body, hy, hR⟩ := Y.out ((clip M lo hi).take k) (p, q) ((clip M lo hi).drop (k + 1)) (wr.alloc (.cells #[.int .i64 r.1, .int .i64 r.2] 92)) (by rw [← hgC]; exact take_split _ Rn.zero hkC) (aJ _ _ _ hJ hsz (But.ofBelow ha)) (by rw [size_alloc]; omega)
        simp only [enR, rcs] at hy
        have hBa := hide (hB.andBelow ha)
        clear hr epq
        have hgC' := hide hgC
        clear hgC
        gi_wp2
        refine ⟨rfl, hR.mono ?_⟩
        rintro e W3 ⟨h3, ⟨rfl, hJ3⟩ | ⟨rfl, hJ3⟩⟩
        · gi_wp2
          go_roundw
          case rel => exact ⟨k + 1, by omega, by simp, by rw [take_next _ Rn.zero hkC, hgC'.out]; exact hJ3, hBa.out.trans h3 (fun _ _ h => h)⟩
          case measure => simp [intOf]; omega
        · gi_wp2
          refine bodyPost_ret (results_none rfl _ _ _) rfl ?_
          exact ⟨⟨_, rfl⟩, hBa.out.trans h3 (fun _ _ h => h), .inr ⟨_, (clip M lo hi).drop (k + 1), by rw [List.append_assoc, ← hgC'.out]; exact take_split _ Rn.zero hkC, hJ3⟩⟩
      · obtain rfl : k = n := by omega
        gi_wp2
        go_end0
        exact ⟨⟨_, rfl⟩, hB, .inl (by rw [hn'.out, ← clip_length M lo hi, List.take_length] at hJ; exact hJ)⟩
end Go.Proofs.YtceeeofkigkpkaaGreat
