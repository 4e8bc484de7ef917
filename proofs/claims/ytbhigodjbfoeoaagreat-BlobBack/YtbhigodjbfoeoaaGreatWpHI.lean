import Derived.Test.YtbhigodjbfoeoaaGreatWpHH
namespace Go.Proofs.YtbhigodjbfoeoaaGreat
set_option linter.unusedVariables false
set_option linter.unusedSimpArgs false
open Go.RowKit
/-! ### what a page that is taken leaves as it was -/
theorem alloc_yes {P : Q.Po} (h0 : P.alloc.1.2 = 0) : ∃ i : Nat, i < P.pg.length ∧ Q.stt (P.pg.getD i Q.Pg.zero) = 1 ∧ P.alloc.1.1 = (i : Int) + 1 ∧ P.alloc.2.pg = P.pg.set i (1, (P.pg.getD i Q.Pg.zero).2) ∧ P.alloc.2.rf = P.rf := by
  unfold Q.Po.alloc at h0 ⊢
  split at h0
  · cases h0
  · rename_i n T hp
    have hn : n ∈ Q.pagesOf P.pg 1 := by rw [hp]; exact List.mem_cons_self
    unfold Q.pagesOf at hn
    obtain ⟨i, hi, e⟩ := List.mem_map.1 hn
    have hl := List.mem_range.1 (List.mem_filter.1 hi).1
    have hs : Q.stt (P.pg.getD i Q.Pg.zero) = 1 := by simpa using (List.mem_filter.1 hi).2
    have et : n.toNat - 1 = i := by omega
    refine ⟨i, hl, hs, e.symm, ?_, rfl⟩
    show P.pg.set (n.toNat - 1) (1, (P.pg.getD (n.toNat - 1) Q.Pg.zero).2) = _
    rw [et]
theorem stt_one {x : Q.Pg} (h : Q.stt x = 1) : x.1 = 0 ∧ x.2 = false := by
  unfold Q.stt at h
  split at h
  · split at h
    · omega
    · rename_i h1 h2
      exact ⟨h1, by simpa using h2⟩
  · split at h <;> omega
theorem count_set {P P' : Q.Po} {i : Nat} {y : Q.Pg} (hi : i < P.pg.length) (e : P'.pg = P.pg.set i y) (z : Int) : P'.count z = if z = (i : Int) + 1 then y.1 else P.count z := by
  unfold Q.Po.count Q.Po.has
  rw [e, List.length_set]
  by_cases hz : z = (i : Int) + 1
  · subst hz
    have e1 : ((i : Int) + 1 - 1).toNat = i := by omega
    rw [if_pos rfl, if_pos (by simp; omega), e1]
    simp [hi]
  · rw [if_neg hz]
    by_cases hh : (decide (1 ≤ z) && decide (z ≤ P.pg.length)) = true
    · rw [if_pos hh, if_pos hh]
      simp only [Bool.and_eq_true, decide_eq_true_eq] at hh
      have ne : i ≠ (z - 1).toNat := by omega
      rw [List.getD_eq_getElem?_getD, List.getD_eq_getElem?_getD, List.getElem?_set_ne ne]
    · rw [if_neg hh, if_neg hh]
theorem alloc_count {P : Q.Po} (h0 : P.alloc.1.2 = 0) : P.count P.alloc.1.1 = 0 ∧ ∀ z, P.alloc.2.count z = if z = P.alloc.1.1 then 1 else P.count z := by
  obtain ⟨i, hi, hs, en, eg, _⟩ := alloc_yes h0
  rw [en]
  refine ⟨?_, fun z => count_set hi eg z⟩
  unfold Q.Po.count Q.Po.has
  rw [if_pos (by simp; omega), show ((i : Int) + 1 - 1).toNat = i by omega]
  exact (stt_one hs).1
theorem pagesOf_len (s : Nat) : ∀ L : List Q.Pg, (Q.pagesOf L s).length = L.countP (fun x => decide (Q.stt x = s))
  | [] => rfl
  | x :: T => by
    have ih := pagesOf_len s T
    unfold Q.pagesOf at ih ⊢
    rw [List.length_map] at ih ⊢
    rw [List.length_cons, List.range_succ_eq_map, List.filter_cons, List.countP_cons]
    have e : ((List.map Nat.succ (List.range T.length)).filter fun i => decide (Q.stt ((x :: T).getD i Q.Pg.zero) = s)).length = T.countP (fun x => decide (Q.stt x = s)) := by
      rw [List.filter_map, List.length_map]
      exact ih
    by_cases h : Q.stt x = s
    · rw [if_pos (by simpa using h)]
      simp only [List.length_cons, e]
      simp [h]
    · rw [if_neg (by simpa using h), e]
      simp [h]
theorem pages_alloc {P : Q.Po} (h0 : P.alloc.1.2 = 0) : (P.alloc.2.pages 1).length + 1 = (P.pages 1).length := by
  obtain ⟨i, hi, hs, en, eg, _⟩ := alloc_yes h0
  show (if (1 : Int) ≤ 1 ∧ (1 : Int) ≤ 4 then _ else _ : List Int).length + 1 = (if (1 : Int) ≤ 1 ∧ (1 : Int) ≤ 4 then _ else _ : List Int).length
  rw [if_pos (by omega), if_pos (by omega), eg]
  show (Q.pagesOf _ 1).length + 1 = (Q.pagesOf _ 1).length
  rw [pagesOf_len, pagesOf_len, List.countP_set hi]
  have hx : P.pg[i] = P.pg.getD i Q.Pg.zero := by simp [hi]
  have h1 : decide (Q.stt P.pg[i] = 1) = true := by rw [hx]; simpa using hs
  have h2 : decide (Q.stt (1, (P.pg.getD i Q.Pg.zero).2) = 1) = false := by
    rw [(stt_one hs).2]; rfl
  rw [h1, h2]
  have hp : 0 < P.pg.countP (fun x => decide (Q.stt x = 1)) := List.countP_pos_iff.2 ⟨P.pg[i], List.getElem_mem hi, h1⟩
  simp
  omega
theorem alloc_no {P : Q.Po} (h0 : P.alloc.1.2 ≠ 0) : P.alloc.1.2 = 12 ∧ (P.pages 1).length = 0 := by
  unfold Q.Po.alloc at h0 ⊢
  split at h0
  · rename_i hp
    refine ⟨rfl, ?_⟩
    show (if (1 : Int) ≤ 1 ∧ (1 : Int) ≤ 4 then _ else _ : List Int).length = 0
    rw [if_pos (by omega)]
    show (Q.pagesOf _ 1).length = 0
    rw [hp]; rfl
  · exact absurd rfl h0
theorem Chn.mono {S S' : Vs} {l : List Nat} {k : Nat} (h : ∀ z, 0 < S.X.P.count z → S'.X.P.count z = S.X.P.count z ∧ S'.X.on z = S.X.on z) : ∀ (r : Nat) (n : Int), Chn S l k r n → Chn S' l k r n
  | 0, _, hc => hc
  | r + 1, n, ⟨c1, nx, g, hz, hc⟩ => by
    obtain ⟨e1, e2⟩ := h n c1
    exact ⟨by rw [e1]; exact c1, nx, by rw [e2]; exact g, hz, Chn.mono h r nx hc⟩
/-- a vault behind pages that were all made -/
structure Spo (l : List Nat) (k : Nat) (S0 : Vs) (m : Nat) (S : Vs) (nx : Int) : Prop where
  s : Spr l k S0 m S nx
  v : Ve S0.X S.X
  fl : S.fl = S0.fl
  a : S = S0 ∨ ∃ A, S.al = S0.al ++ (S0.X.P.mark, S0.X.ch.length) :: A
  la : S.al.length = S0.al.length + m
  lm : S.X.P.mark = S0.X.P.mark + m
  lc : S.X.ch.length = S0.X.ch.length + m
  nz : nx = 0 ↔ m = 0
  st : ∀ z, 0 < S0.X.P.count z → S.X.P.count z = S0.X.P.count z ∧ S.X.on z = S0.X.on z
  fr : (S.X.P.pages 1).length + m = (S0.X.P.pages 1).length
  c : Chn S l k m nx
  nx : 0 ≤ nx ∧ nx ≤ 65536
theorem Spo.zero {l : List Nat} {k : Nat} {S0 : Vs} : Spo l k S0 0 S0 0 := ⟨⟨rfl, rfl⟩, Ve.refl _, rfl, .inl rfl, rfl, rfl, rfl, by simp, fun _ _ => ⟨rfl, rfl⟩, rfl, rfl, ⟨by omega, by omega⟩⟩
theorem alloc_ok {P : Q.Po} (h : P.Ok) (h0 : P.alloc.1.2 = 0) : 1 ≤ P.alloc.1.1 ∧ P.alloc.1.1 ≤ 65536 ∧ P.alloc.2.mark = P.mark + 1 := by
  unfold Q.Po.alloc at h0 ⊢
  split at h0
  · cases h0
  · rename_i n T hp
    have hn : n ∈ Q.pagesOf P.pg 1 := by rw [hp]; exact List.mem_cons_self
    unfold Q.pagesOf at hn
    obtain ⟨i, hi, e⟩ := List.mem_map.1 hn
    have hl := List.mem_range.1 (List.mem_filter.1 hi).1
    have := h.l2
    refine ⟨by show 1 ≤ n; omega, by show n ≤ 65536; omega, ?_⟩
    simp [Q.Po.act, Q.Po.mark]
    omega
theorem Spo.step {l : List Nat} {k : Nat} {S0 : Vs} {m : Nat} {S : Vs} {nx : Int} {q : Pv} (h : Spo l k S0 m S nx) (hP : S.X.P.Ok) (hq : q.pg = mkp l (k - 1 - m) nx) (hi : 480 * (k - 1 - m) < l.length) (h0 : (S.makeR (mkp l (k - 1 - m) nx)).2 = 0) : Spo l k S0 (m + 1) (S.makeS (mkp l (k - 1 - m) nx) q) (S.makeR (mkp l (k - 1 - m) nx)).1 := by
  have hc := mkp_check (l := l) (i := k - 1 - m) (nx := nx) hi h.nx.1 h.nx.2
  have eR : S.makeR (mkp l (k - 1 - m) nx) = S.X.P.alloc.1 := by unfold Vs.makeR; rw [if_pos hc]
  rw [eR] at h0
  obtain ⟨a1, a2, a3⟩ := alloc_ok hP h0
  have eS : S.makeS (mkp l (k - 1 - m) nx) q = ⟨S.X.allocd.lay S.X.P.alloc.1.1 q, S.al ++ [(S.X.P.mark, S.X.ch.length)], S.fl⟩ := by
    unfold Vs.makeS
    rw [if_pos hc, h0]
    unfold Vs.done
    simp
  obtain ⟨cn, cz⟩ := alloc_count h0
  have qk : q.kind = 3 := congrArg Pg.kind hq
  have oS : (S.makeS (mkp l (k - 1 - m) nx) q).X.P = S.X.P.alloc.2 := by rw [eS]; rfl
  have fS : (S.makeS (mkp l (k - 1 - m) nx) q).X.f = fput S.X.f S.X.P.alloc.1.1 q := by rw [eS]; rfl
  have ST : ∀ z, 0 < S.X.P.count z → (S.makeS (mkp l (k - 1 - m) nx) q).X.P.count z = S.X.P.count z ∧ (S.makeS (mkp l (k - 1 - m) nx) q).X.on z = S.X.on z := fun z hz => by
    have ne : z ≠ S.X.P.alloc.1.1 := fun e => by rw [e, cn] at hz; omega
    refine ⟨by rw [oS, cz, if_neg ne], ?_⟩
    unfold Vm.on
    rw [fS]
    simp [fput, ne]
  have ON : (S.makeS (mkp l (k - 1 - m) nx) q).X.on S.X.P.alloc.1.1 = q := by
    unfold Vm.on
    rw [fS]
    simp [fput, qk]
  refine ⟨⟨S, nx, q, h.s, hq, rfl, rfl⟩, ?_, ?_, ?_, ?_, ?_, ?_, ?_, ?_, ?_, ?_, ?_⟩
  · rw [eS]
    exact h.v.trans ((Ve.pool (X := S.X) (Pe.alloc S.X.P)).trans (Ve.lay S.X.allocd _ q))
  · rw [eS]; exact h.fl
  · rw [eS]
    refine .inr ?_
    rcases h.a with e | ⟨A, hA⟩
    · exact ⟨[], by show S.al ++ [_] = _; rw [e]⟩
    · exact ⟨A ++ [(S.X.P.mark, S.X.ch.length)], by show S.al ++ [_] = _; rw [hA]; simp⟩
  · rw [eS]; show (S.al ++ [_]).length = _; rw [List.length_append, h.la]; rfl
  · rw [eS]; show S.X.P.alloc.2.mark = _; rw [a3, h.lm]; rfl
  · rw [eS]; show (S.X.ch ++ [_]).length = _; rw [List.length_append, h.lc]; rfl
  · rw [eR]; constructor <;> intro e <;> omega
  · intro z hz
    obtain ⟨e1, e2⟩ := h.st z hz
    obtain ⟨e3, e4⟩ := ST z (by rw [e1]; exact hz)
    exact ⟨e3.trans e1, e4.trans e2⟩
  · rw [oS]
    have := pages_alloc h0
    have := h.fr
    omega
  · rw [eR]
    exact ⟨by rw [oS, cz, if_pos rfl]; omega, nx, by rw [ON]; exact hq, h.nz, Chn.mono ST m nx h.c⟩
  · rw [eR]; omega
end Go.Proofs.YtbhigodjbfoeoaaGreat
