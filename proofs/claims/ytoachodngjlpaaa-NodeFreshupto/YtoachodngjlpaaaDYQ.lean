import Derived.Test.YtoachodngjlpaaaDYO
import Derived.Test.YtoachodngjlpaaaDLA
namespace Go.Proofs.Ytoachodngjlpaaa
set_option linter.unusedVariables false
set_option linter.unusedSimpArgs false
open Go.RowKit
/-! ### how great what is answered can be -/
structure Pg.Bd (p : Pg) : Prop where
  n : p.items.length ≤ 4200000
  d : p.data.length ≤ 140737488355264
  i : ∀ x ∈ p.items, x.key.length ≤ 140737488355264 ∧ x.val.length ≤ 140737488355264
theorem Pg.Bd.zero : Pg.zero.Bd := ⟨by decide, by decide, fun x hx => by cases hx⟩
theorem Pg.Bd.wi {p : Pg} (h : p.data.length ≤ 140737488355264) {L : List It} (hn : L.length ≤ 4200000) (hi : ∀ x ∈ L, x.key.length ≤ 140737488355264 ∧ x.val.length ≤ 140737488355264) : (p.wi L).Bd := ⟨hn, h, hi⟩
theorem ins_bd {p : Pg} (h : p.Bd) {x : It} (hx : x.key.length ≤ 140737488355264 ∧ x.val.length ≤ 140737488355264) (i : Int) : (Pg.ins p i x).1.Bd := by
  unfold Pg.ins
  split
  · exact Pg.Bd.zero
  · rename_i hc
    refine Pg.Bd.wi h.d ?_ (fun y hy => ?_)
    · simp only [List.length_append, List.length_take, List.length_cons, List.length_drop]; omega
    · rcases List.mem_append.1 hy with hy | hy
      · exact h.i y (List.mem_of_mem_take hy)
      · rcases List.mem_cons.1 hy with rfl | hy
        · exact hx
        · exact h.i y (List.mem_of_mem_drop hy)
theorem rep_bd {p : Pg} (h : p.Bd) {x : It} (hx : x.key.length ≤ 140737488355264 ∧ x.val.length ≤ 140737488355264) (i : Int) : (Pg.rep p i x).1.Bd := by
  unfold Pg.rep
  split
  · exact Pg.Bd.zero
  · rename_i hc
    have hn := h.n
    refine Pg.Bd.wi h.d ?_ (fun y hy => ?_)
    · simp only [List.length_append, List.length_take, List.length_cons, List.length_drop]; omega
    · rcases List.mem_append.1 hy with hy | hy
      · exact h.i y (List.mem_of_mem_take hy)
      · rcases List.mem_cons.1 hy with rfl | hy
        · exact hx
        · exact h.i y (List.mem_of_mem_drop hy)
theorem rem_bd {p : Pg} (h : p.Bd) (i : Int) : (Pg.rem p i).1.Bd := by
  unfold Pg.rem
  split
  · exact Pg.Bd.zero
  · rename_i hc
    have hn := h.n
    refine Pg.Bd.wi h.d ?_ (fun y hy => ?_)
    · simp only [List.length_append, List.length_take, List.length_drop]; omega
    · rcases List.mem_append.1 hy with hy | hy
      · exact h.i y (List.mem_of_mem_take hy)
      · exact h.i y (List.mem_of_mem_drop hy)
theorem btw_len : ∀ a b : List Nat, (btw a b).length ≤ a.length + 1
  | [], b => by cases b <;> simp [btw]
  | x :: a, [] => by simp [btw]
  | x :: a, y :: b => by
    have := btw_len a b
    simp only [btw]
    split <;> simp <;> omega
theorem between_len (a b : List Nat) : (between a b).1.length ≤ a.length + 1 := by
  unfold between
  split
  · exact btw_len a b
  · simp
theorem at_bd {p : Pg} (h : p.Bd) (k : Nat) : (p.at k).key.length ≤ 140737488355264 ∧ (p.at k).val.length ≤ 140737488355264 := by
  unfold Pg.at
  by_cases hk : k < p.items.length
  · have e : p.items.getD k It.zero = p.items[k] := by simp [hk]
    rw [e]
    exact h.i _ (List.getElem_mem hk)
  · have e : p.items.getD k It.zero = It.zero := by simp [List.getElem?_eq_none (show p.items.length ≤ k by omega)]
    rw [e]
    exact ⟨by decide, by decide⟩
structure Hv.Bd (z : Hv) : Prop where
  l : z.l.Bd
  r : z.r.Bd
  s : z.s.length ≤ 140737488355300
theorem Hv.Bd.none : Hv.none.Bd := ⟨Pg.Bd.zero, Pg.Bd.zero, by decide⟩
theorem prt_bd {l r : Pg} (hl : l.Bd) (hr : r.Bd) (h1 : 1 ≤ r.items.length) : (prt l r).Bd := by
  unfold prt
  split
  · refine ⟨hl, Pg.Bd.wi hr.d ?_ (fun y hy => ?_), ?_⟩
    · have := hr.n
      simp only [List.length_cons, List.length_drop]; omega
    · rcases List.mem_cons.1 hy with rfl | hy
      · exact ⟨by simp [It.keyed], (at_bd hr 0).2⟩
      · exact hr.i y (List.mem_of_mem_drop hy)
    · have := (at_bd hr 0).1
      show (r.at 0).key.length ≤ _
      omega
  · split
    · refine ⟨hl, hr, ?_⟩
      have := between_len (l.at (l.items.length - 1)).key (r.at 0).key
      have := (at_bd hl (l.items.length - 1)).1
      show (between _ _).1.length ≤ _
      omega
    · exact Hv.Bd.none
theorem spl_bd {p : Pg} (h : p.Bd) : (spl p).Bd := by
  unfold spl
  split
  · rename_i hc
    refine prt_bd (Pg.Bd.wi h.d ?_ (fun y hy => h.i y (List.mem_of_mem_take hy))) (Pg.Bd.wi h.d ?_ (fun y hy => h.i y (List.mem_of_mem_drop hy))) ?_
    · have := h.n; rw [List.length_take]; omega
    · have := h.n; rw [List.length_drop]; omega
    · show 1 ≤ (p.items.drop 4).length
      rw [List.length_drop]; omega
  · exact Hv.Bd.none
theorem jnd_bd {l r : Pg} {s : List Nat} (hl : l.Bd) (hr : r.Bd) (hs : s.length ≤ 140737488355264) : ∀ x ∈ jnd l r s, x.key.length ≤ 140737488355264 ∧ x.val.length ≤ 140737488355264 := by
  intro x hx
  unfold jnd at hx
  rcases List.mem_append.1 hx with hx | hx
  · exact hl.i x hx
  · rcases List.mem_cons.1 hx with rfl | hx
    · split
      · exact ⟨hs, (at_bd hr 0).2⟩
      · exact at_bd hr 0
    · exact hr.i x (List.mem_of_mem_drop hx)
theorem jnd_len (l r : Pg) (s : List Nat) : (jnd l r s).length = l.items.length + (1 + (r.items.length - 1)) := by
  unfold jnd
  rw [List.length_append, List.length_cons, List.length_drop]
  omega
theorem joi_bd {l r : Pg} {s : List Nat} (hl : l.Bd) (hr : r.Bd) (hs : s.length ≤ 140737488355264) : (joi l r s).1.Bd := by
  unfold joi
  split
  · rename_i hc
    refine Pg.Bd.wi hl.d ?_ (jnd_bd hl hr hs)
    rw [jnd_len]; omega
  · exact Pg.Bd.zero
theorem lend_bd {l r : Pg} {s : List Nat} (t : Bool) (hl : l.Bd) (hr : r.Bd) (ml : l.items.length ≤ 1048576) (mr : r.items.length ≤ 1048576) (hs : s.length ≤ 140737488355264) : (lend l r s t).Bd := by
  have hj := jnd_bd hl hr hs
  have hn := jnd_len l r s
  unfold lend
  cases t
  · simp only [Bool.false_eq_true, if_false]
    split
    · rename_i hc
      have hm := hc.2
      simp only [mayL, Bool.and_eq_true, decide_eq_true_eq] at hm
      refine prt_bd (Pg.Bd.wi hl.d ?_ (fun y hy => hj y (List.mem_of_mem_take hy))) (Pg.Bd.wi hr.d ?_ (fun y hy => hj y (List.mem_of_mem_drop hy))) ?_
      · rw [List.length_take]; omega
      · rw [List.length_drop]; omega
      · show 1 ≤ ((jnd l r s).drop _).length
        rw [List.length_drop]; omega
    · exact Hv.Bd.none
  · simp only [if_true]
    split
    · rename_i hc
      have hm := hc.2
      simp only [mayL, Bool.and_eq_true, decide_eq_true_eq] at hm
      refine prt_bd (Pg.Bd.wi hl.d ?_ (fun y hy => hj y (List.mem_of_mem_take hy))) (Pg.Bd.wi hr.d ?_ (fun y hy => hj y (List.mem_of_mem_drop hy))) ?_
      · rw [List.length_take]; omega
      · rw [List.length_drop]; omega
      · show 1 ≤ ((jnd l r s).drop _).length
        rw [List.length_drop]; omega
    · exact Hv.Bd.none
/-! ### pages and lists, all in memory of their own -/
def itApart (p q : Pv) : Prop := ∀ x y, p.aI = some x → q.aI = some y → x.block ≠ y.block
def rps (P : List Pv) : List Br := (P.map rp).flatten
theorem rps_app (A B : List Pv) : rps (A ++ B) = rps A ++ rps B := by simp [rps]
structure Gm (v W : World) (P : List Pv) (T : List Br) : Prop where
  b : Below v.heap.size v W
  f : Fam v W (T ++ rps P)
  j : ∀ p ∈ P, Jw W p.aI p.cI p.items ∧ New v none p.aI
  d : P.Pairwise itApart
  n : ∀ p ∈ P, p.pg.Bd
  s : ∀ t ∈ T, t.l.length ≤ 140737488355300
  m : ∀ p ∈ P, ∀ r ∈ p.items, N64 r.child ∧ N64 r.size
theorem Gm.keep {v W W' : World} {P : List Pv} {T : List Br} (h : Gm v W P T) (hb : Below W.heap.size W W') : Gm v W' P T := ⟨bt h.b hb, h.f.keep hb, fun p hp => ⟨(h.j p hp).1.keep hb, (h.j p hp).2⟩, h.d, h.n, h.s, h.m⟩
theorem Gm.start {v W : World} (hb : Below v.heap.size v W) : Gm v W [] [] := ⟨hb, Fam.nil _ _, (fun _ h => by cases h), List.Pairwise.nil, (fun _ h => by cases h), (fun _ h => by cases h), (fun _ h => by cases h)⟩
theorem Gm.but {S : Nat → Prop} {v W W' : World} {P : List Pv} {T : List Br} (h : Gm v W P T) (hb : But S W W') (hS : ∀ k, S k → ∃ t cs, Bx W t k cs ∧ t ≠ 5 ∧ t ≠ 29) (hw : Below v.heap.size v W') : Gm v W' P T := by
  refine ⟨hw, h.f.but hb hw (fun t ht x hx e => ?_), fun p hp => ⟨(h.j p hp).1.but hb (fun x hx e => ?_), (h.j p hp).2⟩, h.d, h.n, h.s, h.m⟩
  · obtain ⟨ty, cs, h1, h2, h3⟩ := hS _ e
    exact (h.f.own t ht).1.r.nty h1 h2 hx rfl
  · obtain ⟨ty, cs, h1, h2, h3⟩ := hS _ e
    exact (h.j p hp).1.nty h1 h3 hx rfl
theorem Gm.page {v W W' : World} {P : List Pv} {T : List Br} {q : Pv} (h : Gm v W P T) (hq : Pn W W' q) (hb : Below W.heap.size W W') (hd : q.pg.Bd) : Gm v W' (P ++ [q]) T := by
  refine ⟨bt h.b hb, ?_, fun p hp => ?_, ?_, fun p hp => ?_, h.s, fun p hp => ?_⟩
  · rw [rps_app, ← List.append_assoc]
    have e : rps [q] = rp q := by simp [rps]
    rw [e]
    exact h.f.add (hq.fam hb) hb h.b
  · rcases List.mem_append.1 hp with hp | hp
    · exact ⟨(h.j p hp).1.keep hb, (h.j p hp).2⟩
    · rw [List.mem_singleton.1 hp]; exact ⟨hq.it, hq.itn.mono h.b.size⟩
  · refine List.pairwise_append.2 ⟨h.d, List.pairwise_singleton _ _, fun p hp r hr x y hx hy e => ?_⟩
    rw [List.mem_singleton.1 hr] at hy
    have h1 := (h.j p hp).1.lt hx
    have h2 := new_at hq.itn hy
    omega
  · rcases List.mem_append.1 hp with hp | hp
    · exact h.n p hp
    · rw [List.mem_singleton.1 hp]; exact hd
  · rcases List.mem_append.1 hp with hp | hp
    · exact h.m p hp
    · rw [List.mem_singleton.1 hp]; exact hq.ns
theorem Gm.two {v W W' : World} {P : List Pv} {T : List Br} {q1 q2 : Pv} {a : Option Addr} {c : Nat} {s : List Nat} (h : Gm v W P T) (hq : Hq W W' q1 q2 a c s) (h1 : q1.pg.Bd) (h2 : q2.pg.Bd) (hs : s.length ≤ 140737488355300) : Gm v W' (P ++ [q1, q2]) (T ++ [⟨a, c, s⟩]) := by
  refine ⟨bt h.b hq.b, ?_, fun p hp => ?_, ?_, fun p hp => ?_, fun t ht => ?_, fun p hp => ?_⟩
  · refine (h.f.add hq.f hq.b h.b).perm ?_
    have e : rps [q1, q2] = rp q1 ++ rp q2 := by simp [rps]
    rw [rps_app, e]
    have p1 : (rp q1 ++ (rp q2 ++ [(⟨a, c, s⟩ : Br)])).Perm (⟨a, c, s⟩ :: (rp q1 ++ rp q2)) := by
      rw [← List.append_assoc]
      exact List.perm_append_comm
    refine List.Perm.trans ?_ (List.Perm.append_left _ p1.symm)
    simp only [List.append_assoc, List.cons_append, List.nil_append]
    refine List.Perm.append_left _ ?_
    exact (List.perm_middle (a := (⟨a, c, s⟩ : Br)) (l₁ := rps P) (l₂ := rp q1 ++ rp q2)).symm
  · rcases List.mem_append.1 hp with hp | hp
    · exact ⟨(h.j p hp).1.keep hq.b, (h.j p hp).2⟩
    · rcases List.mem_cons.1 hp with rfl | hp
      · exact ⟨hq.j1, hq.n1.mono h.b.size⟩
      · rw [List.mem_singleton.1 hp]; exact ⟨hq.j2, hq.n2.mono h.b.size⟩
  · refine List.pairwise_append.2 ⟨h.d, List.pairwise_cons.2 ⟨fun r hr => by rw [List.mem_singleton.1 hr]; exact hq.ap, List.pairwise_singleton _ _⟩, fun p hp r hr x y hx hy e => ?_⟩
    have k1 := (h.j p hp).1.lt hx
    rcases List.mem_cons.1 hr with rfl | hr
    · have := new_at hq.n1 hy; omega
    · rw [List.mem_singleton.1 hr] at hy
      have := new_at hq.n2 hy; omega
  · rcases List.mem_append.1 hp with hp | hp
    · exact h.n p hp
    · rcases List.mem_cons.1 hp with rfl | hp
      · exact h1
      · rw [List.mem_singleton.1 hp]; exact h2
  · rcases List.mem_append.1 ht with ht | ht
    · exact h.s t ht
    · rw [List.mem_singleton.1 ht]; exact hs
  · rcases List.mem_append.1 hp with hp | hp
    · exact h.m p hp
    · rcases List.mem_cons.1 hp with rfl | hp
      · exact hq.k1.1
      · rw [List.mem_singleton.1 hp]; exact hq.k2.1
structure Fl (v W : World) (P : List Pv) (T : List Br) (aP : Option Addr) (cP : Nat) (aT : Option Addr) (cT : Nat) : Prop where
  g : Gm v W P T
  p : Pw W aP cP P
  pn : New v none aP
  t : Ax v W aT cT T
theorem Fl.keep {v W W' : World} {P : List Pv} {T : List Br} {aP : Option Addr} {cP : Nat} {aT : Option Addr} {cT : Nat} (h : Fl v W P T aP cP aT cT) (hb : Below W.heap.size W W') : Fl v W' P T aP cP aT cT := ⟨h.g.keep hb, h.p.keep hb, h.pn, h.t.keep hb⟩
theorem Fl.start {v W : World} (hb : Below v.heap.size v W) : Fl v W [] [] none 0 none 0 := ⟨Gm.start hb, Pw.nil _, New.none _ _, Ar.nil _, New.none _ _, hb⟩
theorem below_grown {v W W' : World} {a : Option Addr} (hb : Below v.heap.size v W) (hn : New v none a) (hg : W.grownBy W' (a.map Addr.block)) : Below v.heap.size v W' := by
  have hh : But (fun _ => False) v W' := (But.ofBelow hb).grown hg fun k hk hlt => by
    obtain ⟨y, hy, e⟩ := map_some hk
    have := new_at hn hy
    omega
  exact hh.below fun _ _ h => h
theorem Pw.bxs {w : World} {a : Option Addr} {cap : Nat} {P : List Pv} (h : Pw w a cap P) {x : Addr} (hx : a = some x) : ∃ cs, Bx w 25 x.block cs := by
  rcases h.cases with ⟨rfl, _⟩ | ⟨g, cur, rfl, hg, _⟩
  · cases hx
  · cases hx; exact ⟨cur, hg⟩
theorem Ar.bxs {w : World} {a : Option Addr} {cap : Nat} {vs : List Value} (h : Ar w a cap vs) {x : Addr} (hx : a = some x) : ∃ cs, Bx w 23 x.block cs := by
  rcases h.cases with ⟨rfl, _⟩ | ⟨g, cur, rfl, hg, _⟩
  · cases hx
  · cases hx; exact ⟨cur, hg⟩
theorem bx_ne {w : World} {t t' : TypeId} {g g' : Nat} {c c' : Array Value} (h : Bx w t g c) (k : Bx w t' g' c') (hn : t ≠ t') : g ≠ g' := fun e => by
  subst e
  have h1 : some _ = some _ := h.symm.trans k
  simp only [Option.some.injEq, Obj.cells.injEq] at h1
  exact hn h1.2.1
theorem Fl.pages {v W W' W2 : World} {P M : List Pv} {T U : List Br} {aP : Option Addr} {cP : Nat} {aT : Option Addr} {cT : Nat} {g c' : Nat} {o : Obj} (h : Fl v W P T aP cP aT cT) (hb : Below W.heap.size W W') (hG : Gm v W' (P ++ M) U)
    (hP : Pw W2 (some ⟨g, 0, none⟩) c' (P ++ M)) (hN : New (W'.alloc o) aP (some ⟨g, 0, none⟩)) (hg : (W'.alloc o).grownBy W2 (aP.map Addr.block)) :
    Gm v W2 (P ++ M) U ∧ New v none (some ⟨g, 0, none⟩) ∧ Ax v W2 aT cT T ∧ Below v.heap.size v W2 := by
  have B1 := bt hb (al W' o)
  have bv := bt h.g.b B1
  have hw := below_grown bv h.pn hg
  have p1 := h.p.keep B1
  refine ⟨(hG.keep (al W' o)).but (grown_but hg) (fun k ⟨x, hx, e⟩ => ?_) hw, h.pn.trans hN bv.size, ⟨?_, h.t.n, hw⟩, hw⟩
  · obtain ⟨cs, hc⟩ := p1.bxs hx
    subst e
    exact ⟨_, _, hc, by decide, by decide⟩
  · refine (h.t.r.keep B1).but (grown_but hg) (fun x hx ⟨y, hy, e⟩ => ?_)
    obtain ⟨c1, k1⟩ := (h.t.r.keep B1).bxs hx
    obtain ⟨c2, k2⟩ := p1.bxs hy
    exact bx_ne k1 k2 (by decide) e.symm
theorem Fl.lists {v W W' W4 : World} {P : List Pv} {T U : List Br} {aP : Option Addr} {cP : Nat} {aT : Option Addr} {cT : Nat} {g c' : Nat} {o : Obj} (hb : Below W.heap.size W W') (hG : Gm v W' P (T ++ U)) (hP : Pw W' aP cP P) (hpn : New v none aP) (hT : Ax v W aT cT T)
    (hR : Ar W4 (some ⟨g, 0, none⟩) c' (T.map bv ++ U.map bv)) (hN : New (W'.alloc o) aT (some ⟨g, 0, none⟩)) (hg : (W'.alloc o).grownBy W4 (aT.map Addr.block)) :
    Fl v W4 P (T ++ U) aP cP (some ⟨g, 0, none⟩) c' := by
  have B1 := bt hb (al W' o)
  have bv := bt hT.b B1
  have hw := below_grown bv hT.n hg
  refine ⟨(hG.keep (al W' o)).but (grown_but hg) (fun k ⟨x, hx, e⟩ => ?_) hw, (hP.keep (al W' o)).but (grown_but hg) (fun x hx ⟨y, hy, e⟩ => ?_), hpn, hT.step B1 hR hN hg⟩
  · obtain ⟨cs, hc⟩ := (hT.r.keep B1).bxs hx
    subst e
    exact ⟨_, _, hc, by decide, by decide⟩
  · obtain ⟨c1, k1⟩ := (hP.keep (al W' o)).bxs hx
    obtain ⟨c2, k2⟩ := (hT.r.keep B1).bxs hy
    exact bx_ne k2 k1 (by decide) e
theorem fresh_pages (W : World) (M : List Pv) (C : Array Value) (h : C.toList = vpg M) : ∀ j u, (vpg M)[j]? = some u → (W.alloc (.cells C 25)).cell? ((⟨W.heap.size, 0, none⟩ : Addr).add j) = some u := by
  intro j u hu
  rw [Addr.add_mid, Nat.zero_add, cell_of_row _ _ _ _ _ _ (heap_alloc_new _ _)]
  rw [← h] at hu
  simpa using hu
theorem fresh_lists (W : World) (us : List Value) (C : Array Value) (h : C.toList = us) : ∀ j u, us[j]? = some u → (W.alloc (.cells C 23)).cell? ((⟨W.heap.size, 0, none⟩ : Addr).add j) = some u := by
  intro j u hu
  rw [Addr.add_mid, Nat.zero_add, cell_of_row _ _ _ _ _ _ (heap_alloc_new _ _)]
  rw [← h] at hu
  simpa using hu
theorem same_pg {x l : Pv} (e : x.pg = l.pg) (hd : l.data.length ≤ 140737488355264) (hs : Sml l.items) : x.items.length = l.items.length ∧ x.data.length ≤ 140737488355264 ∧ Sml x.items := by
  have e1 : x.items.map Iv.it = l.items.map Iv.it := congrArg Pg.items e
  have e2 : x.data = l.data := congrArg Pg.data e
  refine ⟨by have := congrArg List.length e1; simpa using this, by rw [e2]; exact hd, fun r hr => ?_⟩
  have hm : r.it ∈ l.items.map Iv.it := by rw [← e1]; exact List.mem_map.2 ⟨r, hr, rfl⟩
  obtain ⟨r', hr', e3⟩ := List.mem_map.1 hm
  have k1 : r'.key = r.key := congrArg It.key e3
  have k2 : r'.val = r.val := congrArg It.val e3
  rw [← k1, ← k2]
  exact hs r' hr'
theorem bd_pg {l : Pv} (hd : l.data.length ≤ 140737488355264) (hs : Sml l.items) (hn : l.items.length ≤ 1048576) : l.pg.Bd := by
  refine ⟨?_, hd, fun x hx => ?_⟩
  · show (l.items.map Iv.it).length ≤ _
    rw [List.length_map]; omega
  · obtain ⟨r, hr, rfl⟩ := List.mem_map.1 hx
    exact hs r hr
end Go.Proofs.Ytoachodngjlpaaa
