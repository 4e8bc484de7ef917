import Derived.Test.YtbhigodjbfoeoaaGreatWpHM
namespace Go.Proofs.YtbhigodjbfoeoaaGreat
set_option linter.unusedVariables false
set_option linter.unusedSimpArgs false
open Go.RowKit
/-! ### what is dropped of two vaults that are alike -/
theorem state_one {P : Q.Po} {z : Int} (h : P.state z = 1) : P.count z = 0 := by
  unfold Q.Po.state at h
  unfold Q.Po.count
  split at h
  · rename_i hh
    rw [if_pos hh]
    exact (stt_one h).1
  · cases h
theorem dec_ans (P : Q.Po) (z : Int) : (P.dec z).1 = if P.count z = 0 then (0, 15) else (P.count z - 1, 0) := by
  unfold Q.Po.dec
  split <;> rfl
theorem dec_rf (P : Q.Po) (z : Int) : (P.dec z).2.rf = P.rf := by
  unfold Q.Po.dec
  split <;> rfl
theorem dec_mark (P : Q.Po) (z : Int) : (P.dec z).2.mark = P.mark + (if P.count z = 0 then 0 else 1) := by
  unfold Q.Po.dec
  split
  · rfl
  · simp [Q.Po.act, Q.Po.mark]; omega
theorem dec_pg (P : Q.Po) (z : Int) : (P.dec z).2.pg = if P.count z = 0 then P.pg else P.pg.set (z.toNat - 1) (P.count z - 1, (P.pg.getD (z.toNat - 1) Q.Pg.zero).2) := by
  unfold Q.Po.dec
  split <;> rfl
theorem dec_count (P : Q.Po) (z y : Int) : (P.dec z).2.count y = if y = z ∧ P.count z ≠ 0 then P.count z - 1 else P.count y := by
  by_cases hc : P.count z = 0
  · rw [if_neg (fun e => e.2 hc)]
    unfold Q.Po.count Q.Po.has
    rw [dec_pg, if_pos hc]
  · obtain ⟨h1, h2⟩ := Q.Po.count_has hc
    have e := dec_pg P z
    rw [if_neg hc] at e
    rw [count_set (by omega) e y]
    by_cases hy : y = z
    · subst hy
      rw [if_pos (by omega), if_pos ⟨rfl, hc⟩]
    · rw [if_neg (by omega), if_neg (fun e => hy e.1)]
structure Sim (X Y : Vm) : Prop where
  pg : X.P.pg = Y.P.pg
  rf : X.P.rf = Y.P.rf
  on : ∀ z, X.P.count z ≠ 0 → (X.on z).pg = (Y.on z).pg
theorem Sim.count {X Y : Vm} (h : Sim X Y) (z : Int) : X.P.count z = Y.P.count z := by
  unfold Q.Po.count Q.Po.has
  rw [h.pg]
theorem Sim.refl (X : Vm) : Sim X X := ⟨rfl, rfl, fun _ _ => rfl⟩
theorem Sim.symm {X Y : Vm} (h : Sim X Y) : Sim Y X := ⟨h.pg.symm, h.rf.symm, fun z hz => (h.on z (by rw [h.count]; exact hz)).symm⟩
theorem Sim.trans {X Y Z : Vm} (h : Sim X Y) (k : Sim Y Z) : Sim X Z := ⟨h.pg.trans k.pg, h.rf.trans k.rf, fun z hz => (h.on z hz).trans (k.on z (by rw [← h.count]; exact hz))⟩
structure Gro (X Y X' Y' : Vm) : Prop where
  m : X'.P.mark + Y.P.mark = Y'.P.mark + X.P.mark
  c : X'.ch.length + Y.ch.length = Y'.ch.length + X.ch.length
theorem Gro.refl (X Y : Vm) : Gro X Y X Y := ⟨by omega, by omega⟩
theorem Gro.trans {X Y X1 Y1 X2 Y2 : Vm} (h : Gro X Y X1 Y1) (k : Gro X1 Y1 X2 Y2) : Gro X Y X2 Y2 := ⟨by have := h.m; have := k.m; omega, by have := h.c; have := k.c; omega⟩
theorem Sim.decs {X Y : Vm} (h : Sim X Y) (z : Int) : (X.P.dec z).1 = (Y.P.dec z).1 ∧ (X.P.dec z).2.pg = (Y.P.dec z).2.pg ∧ (X.P.dec z).2.state z = (Y.P.dec z).2.state z := by
  have e : (X.P.dec z).2.pg = (Y.P.dec z).2.pg := by rw [dec_pg, dec_pg, h.pg, h.count]
  refine ⟨by rw [dec_ans, dec_ans, h.count], e, ?_⟩
  unfold Q.Po.state Q.Po.has
  rw [e]
theorem Vm.less_on {X : Vm} {z y : Int} (h : (X.less z).P.count y ≠ 0) : X.P.count y ≠ 0 ∧ (X.less z).on y = X.on y := by
  rw [Vm.less_P, dec_count] at h
  constructor
  · by_cases hy : y = z ∧ X.P.count z ≠ 0
    · rw [hy.1]; exact hy.2
    · rw [if_neg hy] at h; exact h
  · unfold Vm.less
    split
    · rename_i hc
      have ne : y ≠ z := fun e => by
        have k := state_one hc.2
        rw [dec_count] at k
        subst e
        by_cases hq : X.P.count y = 0
        · rw [if_neg (fun q => q.2 hq)] at h; exact h hq
        · rw [if_pos ⟨rfl, hq⟩] at h k; exact h k
      unfold Vm.on
      simp [fput, ne]
    · rfl
theorem Sim.less {X Y : Vm} (h : Sim X Y) (z : Int) : Sim (X.less z) (Y.less z) ∧ Gro X Y (X.less z) (Y.less z) := by
  obtain ⟨e1, e2, e3⟩ := h.decs z
  refine ⟨⟨by rw [Vm.less_P, Vm.less_P]; exact e2, by rw [Vm.less_P, Vm.less_P, dec_rf, dec_rf]; exact h.rf, fun y hy => ?_⟩, ⟨?_, ?_⟩⟩
  · obtain ⟨k1, k2⟩ := Vm.less_on hy
    have hy2 : (Y.less z).P.count y ≠ 0 := by
      rw [Vm.less_P, dec_count] at hy ⊢
      rw [← h.count, ← h.count]; exact hy
    rw [k2, (Vm.less_on hy2).2]
    exact h.on y k1
  · rw [Vm.less_P, Vm.less_P, dec_mark, dec_mark, h.count]; omega
  · unfold Vm.less
    rw [e1, e3]
    split <;> simp <;> omega
theorem Sim.dropL {F : Vm → Int → Int × Vm} (hF : ∀ X Y z, Sim X Y → (F X z).1 = (F Y z).1 ∧ Sim (F X z).2 (F Y z).2 ∧ Gro X Y (F X z).2 (F Y z).2) : ∀ (L : List Int) (X Y : Vm), Sim X Y → (dropL F X L).1 = (dropL F Y L).1 ∧ Sim (dropL F X L).2 (dropL F Y L).2 ∧ Gro X Y (dropL F X L).2 (dropL F Y L).2
  | [], X, Y, h => ⟨rfl, h, Gro.refl X Y⟩
  | z :: L, X, Y, h => by
    obtain ⟨a1, a2, a3⟩ := hF X Y z h
    unfold Go.Proofs.YtbhigodjbfoeoaaGreat.dropL
    rw [← a1]
    split
    · obtain ⟨b1, b2, b3⟩ := Sim.dropL hF L _ _ a2
      exact ⟨b1, b2, a3.trans b3⟩
    · exact ⟨a1, a2, a3⟩
theorem Sim.dropM : ∀ (t : Nat) (X Y : Vm) (z : Int), Sim X Y → (dropM t X z).1 = (dropM t Y z).1 ∧ Sim (dropM t X z).2 (dropM t Y z).2 ∧ Gro X Y (dropM t X z).2 (dropM t Y z).2
  | 0, X, Y, z, h => ⟨rfl, h, Gro.refl X Y⟩
  | t + 1, X, Y, z, h => by
    obtain ⟨e1, e2, e3⟩ := h.decs z
    obtain ⟨l1, l2⟩ := h.less z
    unfold Go.Proofs.YtbhigodjbfoeoaaGreat.dropM
    rw [← e1]
    split
    · exact ⟨rfl, l1, l2⟩
    · rename_i hc
      have h0 : X.P.count z ≠ 0 := fun e => hc (.inl (by rw [dec_ans, if_pos e]; decide))
      rw [← h.on z h0]
      obtain ⟨b1, b2, b3⟩ := Sim.dropL (Sim.dropM t) (X.on z).pg.kids _ _ l1
      exact ⟨b1, b2, l2.trans b3⟩
/-! ### the pages of a value, from the last one made -/
theorem makeS_ok {S : Vs} {l : List Nat} {i : Nat} {nx : Int} {q : Pv} (hi : 480 * i < l.length) (h0 : 0 ≤ nx) (h1 : nx ≤ 65536) (hr : (S.makeR (mkp l i nx)).2 = 0) : S.makeR (mkp l i nx) = S.X.P.alloc.1 ∧ S.X.P.alloc.1.2 = 0 ∧ S.makeS (mkp l i nx) q = ⟨S.X.allocd.lay S.X.P.alloc.1.1 q, S.al ++ [(S.X.P.mark, S.X.ch.length)], S.fl⟩ := by
  have hc := mkp_check (l := l) (i := i) (nx := nx) hi h0 h1
  have eR : S.makeR (mkp l i nx) = S.X.P.alloc.1 := by unfold Vs.makeR; rw [if_pos hc]
  rw [eR] at hr
  refine ⟨eR, hr, ?_⟩
  unfold Vs.makeS
  rw [if_pos hc, hr]
  unfold Vs.done
  simp
theorem makeS_al (S : Vs) (p : Pg) (q : Pv) : (S.makeS p q).al.length ≤ S.al.length + 1 ∧ ((S.makeS p q).al.length = S.al.length + 1 → (S.makeR p).2 = 0) := by
  unfold Vs.makeS Vs.makeR Vs.done
  split
  · split
    · rename_i e
      exact ⟨by simp, fun _ => e⟩
    · exact ⟨by simp, fun e => by simp at e⟩
  · exact ⟨by simp, fun e => by simp at e⟩
theorem spr_al {l : List Nat} {k : Nat} {S0 : Vs} : ∀ (m : Nat) (S : Vs) (nx : Int), Spr l k S0 m S nx → S.al.length ≤ S0.al.length + m
  | 0, S, nx, h => by rw [h.1]; exact Nat.le_refl _
  | m + 1, S, nx, ⟨S1, n1, q, h, _, _, e⟩ => by
    have := spr_al m S1 n1 h
    have := (makeS_al S1 (mkp l (k - 1 - m) n1) q).1
    rw [e]; omega
theorem alloc_Ok {P : Q.Po} (h : P.Ok) (h0 : P.alloc.1.2 = 0) : P.alloc.2.Ok := by
  unfold Q.Po.alloc at h0 ⊢
  split at h0
  · cases h0
  · rename_i n T hp
    have hn : n ∈ Q.pagesOf P.pg 1 := by rw [hp]; exact List.mem_cons_self
    unfold Q.pagesOf at hn
    obtain ⟨i, hi, e⟩ := List.mem_map.1 hn
    have hl := List.mem_range.1 (List.mem_filter.1 hi).1
    have := h.r1
    exact h.act (by omega) (by omega) ⟨by omega, by omega⟩
theorem spr_step {l : List Nat} {k : Nat} {S0 : Vs} (h0 : S0.X.P.Ok) (hl : 480 * (k - 1) < l.length) : ∀ (m : Nat) (S : Vs) (nx : Int), Spr l k S0 m S nx → S.al.length = S0.al.length + m → Spo l k S0 m S nx ∧ S.X.P.Ok ∧ ∀ m', m = m' + 1 → ∃ (S1 : Vs) (n1 : Int) (q : Pv), Spo l k S0 m' S1 n1 ∧ S1.X.P.Ok ∧ q.pg = mkp l (k - 1 - m') n1 ∧ (S1.makeR (mkp l (k - 1 - m') n1)).2 = 0 ∧ nx = (S1.makeR (mkp l (k - 1 - m') n1)).1 ∧ S = S1.makeS (mkp l (k - 1 - m') n1) q
  | 0, S, nx, h, _ => by
    obtain ⟨rfl, rfl⟩ := h
    exact ⟨Spo.zero, h0, fun m' e => by omega⟩
  | m + 1, S, nx, h, ha => by
    obtain ⟨S1, n1, q, hs, hq, hn, hS⟩ := h
    have a1 := spr_al m S1 n1 hs
    obtain ⟨a2, a3⟩ := makeS_al S1 (mkp l (k - 1 - m) n1) q
    rw [← hS] at a2 a3
    have hr := a3 (by omega)
    obtain ⟨o, ok, _⟩ := spr_step h0 hl m S1 n1 hs (by omega)
    have hi : 480 * (k - 1 - m) < l.length := by omega
    have st := o.step ok hq hi hr
    rw [← hS, ← hn] at st
    obtain ⟨_, k1, k2⟩ := makeS_ok (q := q) hi o.nx.1 o.nx.2 hr
    refine ⟨st, ?_, fun m' e => ?_⟩
    · rw [hS, k2]
      exact alloc_Ok ok k1
    · obtain rfl : m = m' := by omega
      exact ⟨S1, n1, q, o, ok, hq, hr, hn, hS⟩
theorem set_back {L : List Q.Pg} {i : Nat} {f : Bool} (hi : i < L.length) (h : L.getD i Q.Pg.zero = (0, f)) : L.set i (0, f) = L := by
  apply List.ext_getElem
  · simp
  · intro j h1 h2
    by_cases hj : i = j
    · subst hj
      simp [hi] at h ⊢
      exact h.symm
    · simp [hj]
/-- what is made and dropped again is gone -/
theorem drop_one {S : Vs} {l : List Nat} {i : Nat} {nx : Int} {q : Pv} (hok : S.X.P.Ok) (hi : 480 * i < l.length) (h0 : 0 ≤ nx) (h1 : nx ≤ 65536) (hq : q.pg = mkp l i nx) (hr : (S.makeR (mkp l i nx)).2 = 0) (t : Nat) :
    dropM (t + 1) (S.makeS (mkp l i nx) q).X (S.makeR (mkp l i nx)).1 = dropL (dropM t) ((S.makeS (mkp l i nx) q).X.less (S.makeR (mkp l i nx)).1) (if nx = 0 then [] else [nx]) ∧ Sim ((S.makeS (mkp l i nx) q).X.less (S.makeR (mkp l i nx)).1) S.X ∧ ((S.makeS (mkp l i nx) q).X.less (S.makeR (mkp l i nx)).1).P.mark = (S.makeS (mkp l i nx) q).X.P.mark + 1 ∧ ((S.makeS (mkp l i nx) q).X.less (S.makeR (mkp l i nx)).1).ch.length ≤ (S.makeS (mkp l i nx) q).X.ch.length + 1 := by
  obtain ⟨eR, e0, eS⟩ := makeS_ok (q := q) hi h0 h1 hr
  rw [eR, eS]
  show dropM (t + 1) (S.X.allocd.lay S.X.P.alloc.1.1 q) S.X.P.alloc.1.1 = _ ∧ Sim ((S.X.allocd.lay S.X.P.alloc.1.1 q).less S.X.P.alloc.1.1) S.X ∧ ((S.X.allocd.lay S.X.P.alloc.1.1 q).less S.X.P.alloc.1.1).P.mark = _ ∧ _
  obtain ⟨cn, cz⟩ := alloc_count e0
  obtain ⟨j, hj, hs, en, eg, erf⟩ := alloc_yes e0
  obtain ⟨n, hn⟩ : ∃ n, S.X.P.alloc.1.1 = n := ⟨_, rfl⟩
  rw [hn] at cn cz en ⊢
  have qk : q.kind = 3 := congrArg Pg.kind hq
  have cX : (S.X.allocd.lay n q).P.count n = 1 := by show S.X.P.alloc.2.count n = 1; rw [cz, if_pos rfl]
  have oX : (S.X.allocd.lay n q).on n = q := by
    unfold Vm.on Vm.lay
    simp [fput, qk]
  have kd : (mkp l i nx).kids = if nx = 0 then [] else [nx] := by
    unfold mkp Pg.kids
    by_cases hz : nx = 0 <;> simp [hz]
  have pgE : ((S.X.allocd.lay n q).less n).P.pg = S.X.P.pg := by
    rw [Vm.less_P, dec_pg, cX]
    show (if (1 : Int) = 0 then _ else (S.X.P.alloc.2.pg.set (n.toNat - 1) (1 - 1, (S.X.P.alloc.2.pg.getD (n.toNat - 1) Q.Pg.zero).2))) = _
    rw [if_neg (by decide), eg, show n.toNat - 1 = j by omega, List.set_set]
    obtain ⟨z1, z2⟩ := stt_one hs
    have e3 : ((S.X.P.pg.set j (1, (S.X.P.pg.getD j Q.Pg.zero).2)).getD j Q.Pg.zero).2 = (S.X.P.pg.getD j Q.Pg.zero).2 := by simp [hj]
    rw [e3]
    exact set_back hj (Prod.ext z1 rfl)
  have cE : ∀ y, ((S.X.allocd.lay n q).less n).P.count y = S.X.P.count y := fun y => by
    unfold Q.Po.count Q.Po.has
    rw [pgE]
  refine ⟨?_, ⟨pgE, ?_, fun y hy => ?_⟩, ?_, Vm.less_ch _ _⟩
  · rw [show dropM (t + 1) (S.X.allocd.lay n q) n = if ((S.X.allocd.lay n q).P.dec n).1.2 ≠ 0 ∨ 0 < ((S.X.allocd.lay n q).P.dec n).1.1 then (((S.X.allocd.lay n q).P.dec n).1.2, (S.X.allocd.lay n q).less n) else dropL (dropM t) ((S.X.allocd.lay n q).less n) ((S.X.allocd.lay n q).on n).pg.kids from rfl]
    rw [dec_ans, cX, oX, hq, kd]
    simp
  · rw [Vm.less_P, dec_rf]
    exact erf
  · have k := Vm.less_on hy
    rw [k.2]
    rw [cE] at hy
    have ne : y ≠ n := fun e => hy (by rw [e]; exact cn)
    have : (S.X.allocd.lay n q).on y = S.X.on y := by
      unfold Vm.on Vm.lay
      simp [fput, ne]
      rfl
    rw [this]
  · rw [Vm.less_P, dec_mark, cX]; rfl
theorem drop_spo {l : List Nat} {k : Nat} {S0 : Vs} (hok : S0.X.P.Ok) (hl : 480 * (k - 1) < l.length) : ∀ (m : Nat) (S : Vs) (nx : Int), Spo l k S0 (m + 1) S nx → ∀ t, m < t → (dropM t S.X nx).1 = 0 ∧ Sim (dropM t S.X nx).2 S0.X ∧ (dropM t S.X nx).2.P.mark ≤ S.X.P.mark + (m + 1) ∧ (dropM t S.X nx).2.ch.length ≤ S.X.ch.length + (m + 1)
  | m, S, nx, h, 0, ht => by omega
  | 0, S, nx, h, t + 1, ht => by
    obtain ⟨_, _, hd⟩ := spr_step hok hl 1 S nx h.s h.la
    obtain ⟨S1, n1, q, o, ok, hq, hr, hn, hS⟩ := hd 0 rfl
    have z : n1 = 0 := o.nz.2 rfl
    obtain ⟨d1, d2, d3, d4⟩ := drop_one (S := S1) (q := q) ok (show 480 * (k - 1 - 0) < l.length by omega) o.nx.1 o.nx.2 hq hr t
    have e0 : S1 = S0 := o.s.1
    rw [← hS, ← hn] at d1 d2 d3 d4
    rw [if_pos z] at d1
    rw [d1]
    rw [e0] at d2
    exact ⟨rfl, d2, by show (S.X.less nx).P.mark ≤ _; omega, d4⟩
  | m + 1, S, nx, h, t + 1, ht => by
    obtain ⟨_, _, hd⟩ := spr_step hok hl (m + 2) S nx h.s h.la
    obtain ⟨S1, n1, q, o, ok, hq, hr, hn, hS⟩ := hd (m + 1) rfl
    have z : ¬ n1 = 0 := fun e => by have := o.nz.1 e; omega
    obtain ⟨d1, d2, d3, d4⟩ := drop_one (S := S1) (q := q) ok (show 480 * (k - 1 - (m + 1)) < l.length by omega) o.nx.1 o.nx.2 hq hr t
    rw [← hS, ← hn] at d1 d2 d3 d4
    rw [if_neg z] at d1
    obtain ⟨i1, i2, i3, i4⟩ := drop_spo hok hl m S1 n1 o t (by omega)
    obtain ⟨c1, c2, c3⟩ := Sim.dropM t _ _ n1 d2
    rw [i1] at c1
    have e : dropL (dropM t) (S.X.less nx) [n1] = dropM t (S.X.less nx) n1 := by
      show (if (dropM t (S.X.less nx) n1).1 = 0 then ((0 : Int), (dropM t (S.X.less nx) n1).2) else dropM t (S.X.less nx) n1) = _
      rw [if_pos c1]
      exact Prod.ext c1.symm rfl
    rw [d1, e]
    have := c3.m
    have := c3.c
    exact ⟨c1, c2.trans i2, by omega, by omega⟩
/-! ### how great all counts can be -/
theorem sum_le' {α : Type} (g : α → Nat) (B : Nat) : ∀ L : List α, (∀ x ∈ L, g x ≤ B) → (L.map g).sum ≤ L.length * B
  | [], _ => by simp
  | x :: T, h => by
    have h1 := h x List.mem_cons_self
    have h2 := sum_le' g B T (fun y hy => h y (List.mem_cons_of_mem _ hy))
    simp only [List.map_cons, List.sum_cons, List.length_cons, Nat.succ_mul]
    omega
theorem tot_le {P : Q.Po} (h : P.Ok) : tot P ≤ P.pg.length * P.rf.toNat := sum_le' _ _ _ (fun x hx => by have := h.cs x hx; show x.1.toNat ≤ _; omega)
theorem spo_err {l : List Nat} {k : Nat} {S : Vs} {m : Nat} {S1 : Vs} {n1 er : Int} (h : Spo l k S m S1 n1) (hi : 480 * (k - 1 - m) < l.length) (e : (S1.makeR (mkp l (k - 1 - m) n1)).2 = er) (hne : er ≠ 0) : er = 12 ∧ (S.X.P.pages 1).length = m := by
  have hc := mkp_check (l := l) (i := k - 1 - m) (nx := n1) hi h.nx.1 h.nx.2
  have eR : S1.makeR (mkp l (k - 1 - m) n1) = S1.X.P.alloc.1 := by unfold Vs.makeR; rw [if_pos hc]
  rw [eR] at e
  obtain ⟨a, b⟩ := alloc_no (P := S1.X.P) (by rw [e]; exact hne)
  have := h.fr
  exact ⟨by rw [← e]; exact a, by omega⟩
theorem start_free (r : Int) (n : Nat) : ((Q.Po.start r (List.replicate n 0)).pages 1).length = n := by
  show (if (1 : Int) ≤ 1 ∧ (1 : Int) ≤ 4 then _ else _ : List Int).length = n
  rw [if_pos (by omega)]
  show (Q.pagesOf _ 1).length = n
  rw [pagesOf_len]
  unfold Q.Po.start
  rw [List.map_replicate, List.countP_replicate]
  simp [Q.stt]
end Go.Proofs.YtbhigodjbfoeoaaGreat
