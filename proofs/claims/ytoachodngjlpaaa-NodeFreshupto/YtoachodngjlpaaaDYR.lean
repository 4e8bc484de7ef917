import Derived.Test.YtoachodngjlpaaaDYQ
namespace Go.Proofs.Ytoachodngjlpaaa
set_option linter.unusedVariables false
set_option linter.unusedSimpArgs false
open Go.RowKit
def Brz : Br := ⟨none, 0, []⟩
def tAq (T : List Br) (i : Nat) : Option Addr := (T.getD i Brz).a
def tCq (T : List Br) (i : Nat) : Nat := (T.getD i Brz).c
def tLq (T : List Br) (i : Nat) : List Nat := (T.getD i Brz).l
theorem t_memq {T : List Br} {i : Nat} (h : i < T.length) : T.getD i Brz ∈ T := by simp [h]
theorem Fam.rowsG {w W : World} {T : List Br} (h : Fam w W T) : RowsG W T.length (tAq T) (tCq T) (tLq T) := fun _ hi => (h.own _ (t_memq hi)).1.r
theorem Fam.distG {w W : World} {T : List Br} (h : Fam w W T) : Dist T.length (tAq T) := by
  intro i j hi hj hne x y hx hy
  have hp := List.pairwise_iff_getElem.1 h.dist
  have ei : T.getD i Brz = T[i] := by simp [hi]
  have ej : T.getD j Brz = T[j] := by simp [hj]
  unfold tAq at hx hy
  rw [ei] at hx
  rw [ej] at hy
  rcases Nat.lt_or_gt_of_ne hne with h1 | h1
  · exact hp i j hi hj h1 x y hx hy
  · exact fun e => hp j i hj hi h1 y x hy hx e.symm
theorem bv_getq (T : List Br) {i : Nat} (hi : i < T.length) : (T.map bv)[i]? = some (.slice (tAq T i) (tLq T i).length (tCq T i)) := by
  simp [hi, bv, tAq, tLq, tCq]
theorem rows_valq (T : List Br) : T.map bv = (List.range T.length).map (fun i => Value.slice (tAq T i) (tLq T i).length (tCq T i)) := by
  apply List.ext_getElem?
  intro i
  by_cases hi : i < T.length
  · rw [bv_getq _ hi]; simp only [List.getElem?_map, List.getElem?_range hi, Option.map_some]
  · rw [List.getElem?_eq_none (by rw [List.length_map]; omega), List.getElem?_eq_none (by rw [List.length_map, List.length_range]; omega)]
structure Fm (v W : World) (P : List Pv) (T R : List Br) (aP : Option Addr) (cP : Nat) (aQ : Option Addr) (cQ : Nat) : Prop where
  g : Gm v W P T
  p : Pw W aP cP P
  pn : New v none aP
  t : Ax v W aQ cQ R
theorem Fm.keep {v W W' : World} {P : List Pv} {T R : List Br} {aP : Option Addr} {cP : Nat} {aQ : Option Addr} {cQ : Nat} (h : Fm v W P T R aP cP aQ cQ) (hb : Below W.heap.size W W') : Fm v W' P T R aP cP aQ cQ := ⟨h.g.keep hb, h.p.keep hb, h.pn, h.t.keep hb⟩
theorem Fm.push {v W W2 : World} {P : List Pv} {T R : List Br} {aP : Option Addr} {cP : Nat} {aQ : Option Addr} {cQ : Nat} {t : Br} {g c' : Nat} {o : Obj} (h : Fm v W P T R aP cP aQ cQ)
    (hR : Ar W2 (some ⟨g, 0, none⟩) c' (R.map bv ++ [bv t])) (hN : New (W.alloc o) aQ (some ⟨g, 0, none⟩)) (hg : (W.alloc o).grownBy W2 (aQ.map Addr.block)) : Fm v W2 P T (R ++ [t]) aP cP (some ⟨g, 0, none⟩) c' := by
  have B1 := al W o
  have hw := below_grown (bt h.t.b B1) h.t.n hg
  refine ⟨(h.g.keep B1).but (grown_but hg) (fun k ⟨x, hx, e⟩ => ?_) hw, (h.p.keep B1).but (grown_but hg) (fun x hx ⟨y, hy, e⟩ => ?_), h.pn, h.t.step (U := [t]) B1 hR hN hg⟩
  · obtain ⟨cs, hc⟩ := (h.t.r.keep B1).bxs hx
    subst e
    exact ⟨_, _, hc, by decide, by decide⟩
  · obtain ⟨c1, k1⟩ := (h.p.keep B1).bxs hx
    obtain ⟨c2, k2⟩ := (h.t.r.keep B1).bxs hy
    exact bx_ne k2 k1 (by decide) e
theorem l_push {W W2 : World} {aQ : Option Addr} {g g1 ct : Nat} {vs : List Value} {o : Obj} (hl : Ar W (some ⟨g1, 0, none⟩) ct vs) (hne : ∀ x, aQ = some x → x.block ≠ g1) (hN : New (W.alloc o) aQ (some ⟨g, 0, none⟩)) (hg : (W.alloc o).grownBy W2 (aQ.map Addr.block)) :
    Ar W2 (some ⟨g1, 0, none⟩) ct vs ∧ ∀ x, (some (⟨g, 0, none⟩ : Addr)) = some x → x.block ≠ g1 := by
  refine ⟨(hl.keep (al W o)).but (grown_but hg) (fun x hx ⟨y, hy, e⟩ => ?_), fun x hx e => ?_⟩
  · cases hx
    exact hne y hy e
  · have hlt := hl.lt rfl
    rcases hN x hx with ⟨y, hy, e2⟩ | h2
    · exact hne y hy (by omega)
    · rw [size_alloc] at h2
      dsimp only at hlt
      omega
theorem rp_len (p : Pv) : (rp p).length = 1 + 2 * p.items.length := by
  unfold rp
  rw [List.length_cons, rowsOf_len]
  omega
theorem rps_take {P : List Pv} {j : Nat} (h : j < P.length) : rps (P.take (j + 1)) = rps (P.take j) ++ rp (P.getD j Pv.zero) := by
  have e : P.getD j Pv.zero = P[j] := by simp [h]
  rw [List.take_succ_eq_append_getElem h, rps_app, e]
  simp [rps]
theorem take_snocB {R : List Br} {m : Nat} (h : m < R.length) : R.take (m + 1) = R.take m ++ [R.getD m Brz] := by
  have e : R.getD m Brz = R[m] := by simp [h]
  rw [List.take_succ_eq_append_getElem h, e]
theorem Gm.js {v W : World} {P : List Pv} {T : List Br} (h : Gm v W P T) {p : Pv} (hp : p ∈ P) : Js W p.aI p.items := by
  have hf : Fam v W (rowsOf p.items) := h.f.sub (by
    refine List.Sublist.trans ?_ (List.sublist_append_right _ _)
    refine List.Sublist.trans (List.sublist_cons_self (⟨p.aD, p.cD, p.data⟩ : Br) (rowsOf p.items)) ?_
    exact List.sublist_flatten_of_mem (List.mem_map.2 ⟨p, hp, rfl⟩))
  have hn := (h.n p hp).n
  have e : p.pg.items.length = p.items.length := List.length_map _
  exact (h.j p hp).1.qs (hf.ii (h.m p hp)) (by omega)
theorem rp_small {p : Pv} (h : p.pg.Bd) : ∀ t ∈ rp p, t.l.length ≤ 140737488355300 := by
  intro t ht
  unfold rp at ht
  rcases List.mem_cons.1 ht with rfl | ht
  · have := h.d
    show p.data.length ≤ _
    have e : p.pg.data.length = p.data.length := rfl
    omega
  · obtain ⟨r, hr, ht⟩ := List.mem_flatMap.1 ht
    have := h.i r.it (List.mem_map.2 ⟨r, hr, rfl⟩)
    simp only [Iv.it] at this
    simp only [Iv.rows, List.mem_cons, List.not_mem_nil, or_false] at ht
    rcases ht with rfl | rfl
    · dsimp only; omega
    · dsimp only; omega
theorem rps_len {N : Nat} : ∀ (P : List Pv), (∀ p ∈ P, p.items.length ≤ N) → (rps P).length ≤ P.length * (1 + 2 * N)
  | [], _ => by simp [rps]
  | p :: P, h => by
    have h1 := rps_len P (fun q hq => h q (List.mem_cons_of_mem _ hq))
    have h2 := h p (List.mem_cons_self)
    have e : rps (p :: P) = rp p ++ rps P := by simp [rps]
    rw [e, List.length_append, rp_len, List.length_cons, Nat.add_mul]
    omega
theorem Apart_fm (w B0 : World) (T : List Br) (a : Option Addr) (ct n : Nat) (hn' : n = T.length) (hf : Fam B0 w T) (hw : Below B0.heap.size B0 w) (hA : Ar w a ct (T.map bv)) (hn : T.length ≤ 2932031007410) (hl : ∀ t ∈ T, t.l.length ≤ 140737488355300) :
    Calls Try.prog 14 #[.slice a n ct] w fun x w' => x = .returned (.bool true) ∧ But (InRows T.length (tAq T)) w w' ∧ Below B0.heap.size B0 w' := by
  subst hn'
  rw [rows_valq] at hA
  refine (Apart_some w _ ct _ _ _ _ hA hf.rowsG hf.distG (by omega) fun i hi => ?_).mono ?_
  · have := hl _ (t_memq hi)
    unfold tLq
    omega
  · rintro x w' ⟨rfl, hbut⟩
    refine ⟨rfl, hbut, ((But.ofBelow (S := InRows T.length (tAq T)) hw).trans hbut fun _ _ e => e).below fun k hk ⟨i, hi, y, hy, e⟩ => ?_⟩
    have := new_at (hf.own _ (t_memq hi)).1.n hy
    omega
theorem papart_fm (w W v : World) (P : List Pv) (T : List Br) (aP : Option Addr) (cP n : Nat) (hn : n = P.length) (h0 : 0 < P.length) (hG : Gm v w P T) (hP : Pw w aP cP P) (hpn : New v none aP) (hbut : But (InRows (T ++ rps P).length (tAq (T ++ rps P))) w W) (hW : Below v.heap.size v W) (h1 : P.length ≤ 1000) :
    Calls Try.prog 15 #[.slice aP n cP] W fun x w' => x = .returned (.bool true) ∧ Below v.heap.size v w' := by
  subst hn
  have off : ∀ {a : Option Addr} {x : Addr} {t : TypeId} {cs : Array Value}, Bx w t x.block cs → t ≠ 5 → ¬ InRows (T ++ rps P).length (tAq (T ++ rps P)) x.block := by
    intro a x t cs hx ht ⟨i, hi, y, hy, e⟩
    exact (hG.f.own _ (t_memq hi)).1.r.nty hx ht hy e
  have hP2 : Pw W aP cP P := hP.but hbut (fun x hx => by
    obtain ⟨cs, hc⟩ := hP.bxs hx
    exact off (a := aP) hc (by decide))
  obtain ⟨gp, pcs, haP, hbx, hcl⟩ := hP2.at h0
  subst haP
  have cap : P.length ≤ cP := by
    rcases hP.cases with ⟨h, _⟩ | ⟨_, _, _, _, h, _⟩
    · cases h
    · exact h
  have hmem : ∀ i, i < P.length → P.getD i Pv.zero ∈ P := fun i hi => by simp [hi]
  have hJ : RowsJ W P.length (fun i => (P.getD i Pv.zero).aI) (fun i => (P.getD i Pv.zero).cI) (fun i => (P.getD i Pv.zero).items) := fun i hi => by
    have k := (hG.j _ (hmem i hi)).1
    refine k.but hbut (fun x hx ⟨q, hq, y, hy, e⟩ => ?_)
    exact k.ne (hG.f.own _ (t_memq hq)).1.r hx hy e.symm
  have hD : Dist P.length (fun i => (P.getD i Pv.zero).aI) := by
    intro i j hi hj hne x y hx hy
    have hp := List.pairwise_iff_getElem.1 hG.d
    have ei : P.getD i Pv.zero = P[i] := by simp [hi]
    have ej : P.getD j Pv.zero = P[j] := by simp [hj]
    dsimp only at hx hy
    rw [ei] at hx
    rw [ej] at hy
    rcases Nat.lt_or_gt_of_ne hne with h1 | h1
    · exact hp i j hi hj h1 x y hx hy
    · exact fun e => hp j i hj hi h1 y x hy hx e.symm
  refine (papart_some W gp cP P.length pcs _ _ _ hbx (fun i hi => hcl i 2 _ hi (by decide) rfl) cap hJ hD h1 (fun i hi => ?_)).mono ?_
  · have hn := (hG.n _ (hmem i hi)).n
    have e : (P.getD i Pv.zero).pg.items.length = (P.getD i Pv.zero).items.length := List.length_map _
    omega
  · rintro x w' ⟨rfl, hb⟩
    refine ⟨rfl, ((But.ofBelow (S := InRows P.length (fun i => (P.getD i Pv.zero).aI)) hW).trans hb fun _ _ e => e).below fun k hk ⟨i, hi, y, hy, e⟩ => ?_⟩
    have := new_at (hG.j _ (hmem i hi)).2 hy
    omega
end Go.Proofs.Ytoachodngjlpaaa
