import Derived.Test.YtceeeofkigkpkaaGreatEP
import Derived.Test.YtceeeofkigkpkaaGreatEN
namespace Go.Proofs.YtceeeofkigkpkaaGreat
set_option linter.unusedVariables false
open Go.RowKit Go.Shelf
attribute [local go_sem] Oper.semAt_some

/-! ### what is now is what lasts -/
def las (x : Pg) : Pg := (x.1, decide (0 < x.1))
def sel (L : List Pg) (p : Int → Bool) : List Pg := (List.range L.length).map fun (i : Nat) => if p (((i : Nat) : Int) + 1) then las (L.getD i Pg.zero) else L.getD i Pg.zero
theorem sel_length (L : List Pg) (p : Int → Bool) : (sel L p).length = L.length := by simp [sel]
theorem sel_get (L : List Pg) (p : Int → Bool) {i : Nat} (h : i < L.length) : (sel L p).getD i Pg.zero = if p ((i : Int) + 1) then las (L.getD i Pg.zero) else L.getD i Pg.zero := by
  unfold sel
  simp [h]
theorem getD_ext {L M : List Pg} (hl : L.length = M.length) (h : ∀ i, i < L.length → L.getD i Pg.zero = M.getD i Pg.zero) : L = M := by
  refine List.ext_getElem hl fun i h1 h2 => ?_
  have := h i h1
  simpa [h1, h2] using this
theorem sel_none (L : List Pg) : sel L (fun _ => false) = L := getD_ext (sel_length _ _) fun i hi => by
  rw [sel_length] at hi
  rw [sel_get L _ hi]; rfl
theorem set_getD (L : List Pg) (i j : Nat) (x : Pg) (hj : j < L.length) : (L.set i x).getD j Pg.zero = if i = j then x else L.getD j Pg.zero := by
  by_cases h : i = j
  · subst h
    rw [if_pos rfl, List.getD_eq_getElem?_getD, List.getElem?_set_self hj]; rfl
  · rw [if_neg h, List.getD_eq_getElem?_getD, List.getElem?_set_ne h, ← List.getD_eq_getElem?_getD]
theorem sel_set {L : List Pg} {p : Int → Bool} {i : Nat} (h : i < L.length) (hp : p ((i : Int) + 1) = false) : (sel L p).set i (las (L.getD i Pg.zero)) = sel L (fun z => p z || decide (z = (i : Int) + 1)) := by
  refine getD_ext (by rw [List.length_set, sel_length, sel_length]) fun j hj => ?_
  rw [List.length_set, sel_length] at hj
  rw [set_getD _ _ _ _ (by rw [sel_length]; exact hj), sel_get L _ hj, sel_get L _ hj]
  by_cases e : i = j
  · subst e; rw [if_pos rfl]; simp
  · rw [if_neg e]
    have : decide ((j : Int) + 1 = (i : Int) + 1) = false := decide_eq_false (by omega)
    rw [this, Bool.or_false]
theorem sel_congr {L : List Pg} {p q : Int → Bool} (h : ∀ i, i < L.length → p ((i : Int) + 1) = q ((i : Int) + 1)) : sel L p = sel L q := getD_ext (by rw [sel_length, sel_length]) fun i hi => by
  rw [sel_length] at hi
  rw [sel_get L _ hi, sel_get L _ hi, h i hi]
def Po.setl (P : Po) (f : Nat) : Po := { P with pg := sel P.pg (inS P.pg f) }
theorem inS_get {L : List Pg} {s : Nat} {i : Nat} (h : i < L.length) : inS L s ((i : Int) + 1) = decide (stt (L.getD i Pg.zero) = s) := by
  have := inS_at (P := L) (n := i + 1) (s := s) (by omega) (by omega)
  rw [show (((i + 1 : Nat)) : Int) = (i : Int) + 1 by omega] at this
  exact this
/-- the states behind that -/
theorem inS_setl {L : List Pg} {f t : Nat} (hft : f ≠ t) (h : ∀ x ∈ L, stt x = f → stt (las x) = t) (s : Nat) (z : Int) : inS (sel L (inS L f)) s z = if s = t then (inS L t z || inS L f z) else if s = f then false else inS L s z := by
  by_cases hz : 1 ≤ z ∧ z ≤ L.length
  · obtain ⟨i, rfl⟩ : ∃ i : Nat, z = (i : Int) + 1 := ⟨(z - 1).toNat, by omega⟩
    have hi : i < L.length := by omega
    rw [inS_get (by rw [sel_length]; exact hi), sel_get L _ hi, inS_get hi, inS_get hi, inS_get hi]
    by_cases e : stt (L.getD i Pg.zero) = f
    · rw [decide_eq_true e, if_pos rfl, h _ (getD_memP hi) e]
      by_cases st : s = t
      · subst st; simp
      · rw [if_neg st, decide_eq_false (fun e => st e.symm), e]
        by_cases sf : s = f
        · rw [if_pos sf]
        · rw [if_neg sf, decide_eq_false (fun e => sf e.symm)]
    · rw [decide_eq_false e, if_neg (by decide)]
      by_cases st : s = t
      · subst st; simp
      · rw [if_neg st]
        by_cases sf : s = f
        · subst sf; rw [if_pos rfl, decide_eq_false e]
        · rw [if_neg sf]
  · have e : ∀ (M : List Pg) (q : Nat), M.length = L.length → inS M q z = false := fun M q hM => by
      unfold inS
      by_cases h1 : 1 ≤ z
      · rw [decide_eq_false (show ¬ z ≤ (M.length : Int) by omega)]; simp
      · rw [decide_eq_false h1]; simp
    rw [e _ s (sel_length _ _), e L t rfl, e L f rfl, e L s rfl]
    simp
theorem Pq.repage {w w' : World} {b : Nat} {P : Po} {D : Pd} {col : Nat → Nat} (h : Pq w b P D col) (pg' : List Pg) (hl : pg'.length = P.pg.length) (hg : w'.heap[D.g]? = some (.cells (pgc pg').toArray 74 (0, 0))) (hb : But (fun k => k = D.g) w w') : Pq w' b { P with pg := pg' } D col := by
  have ne : ∀ {k : Nat}, col k ≠ 2 → ¬ (k = D.g) := fun h1 e => h1 (by rw [e]; exact h.cg)
  have lb := hb.same h.box (ne (by rw [h.cb]; decide))
  refine ⟨?_, hg, fun s hs => (h.set s hs).but hb (ne (by rw [h.cs s hs]; omega)) (fun y hy => ne (by rw [h.ca s hs y hy]; omega)), h.acr.but hb (fun y hy => ne (by rw [h.cc y hy]; decide)), h.acl, fun q hq => ?_, h.cb, h.cg, h.cs, h.ca, h.cc, h.cB, fun k hk => Nat.lt_of_lt_of_le (h.lt k hk) hb.size⟩
  · rw [lb]
    show some (Obj.cells (boxC P D) _ _) = some (Obj.cells (boxC { P with pg := pg' } D) _ _)
    unfold boxC
    rw [hl]
  · obtain ⟨c1, c2, c3⟩ := h.cB _ (zip_left hq).1
    exact (h.acb q hq).but hb (ne (by rw [c1]; decide)) (ne (by rw [c2]; decide)) (ne (by rw [c3]; decide))
/-- a set is replaced by a new one -/
theorem Pq.newSet {w W w' : World} {b : Nat} {P : Po} {D : Pd} {col : Nat → Nat} (h : Pq w b P D col) {s : Nat} (hs : s < 5) (hW : Below w.heap.size w W) {b' : Nat} {a' : Option Addr} {c' : Nat} {R : List Rn} (hN : Nw W w' b' a' c' R) :
    Pq (w'.setCell ⟨b, 2 + s, none⟩ (.pointer (some ⟨b', 0, none⟩))) b P { D with s := upd D.s s b', a := upd D.a s a', c := upd D.c s c', L := upd D.L s R } (recol col w w' (3 + s)) ∧ Fr w col (w'.setCell ⟨b, 2 + s, none⟩ (.pointer (some ⟨b', 0, none⟩))) (recol col w w' (3 + s)) := by
  have bw : Below w.heap.size w w' := bt hW hN.w
  have old : ∀ {k : Nat}, col k ≠ 0 → recol col w w' (3 + s) k = col k := fun hk => recol_old (h.lt _ hk)
  have bS : But (fun k => k = b) w (w'.setCell ⟨b, 2 + s, none⟩ (.pointer (some ⟨b', 0, none⟩))) := (But.ofBelow (S := fun k => k = b) bw).setCell (p := ⟨b, 2 + s, none⟩) (fun _ => rfl) _
  have bS' : But (fun k => k = b) w' (w'.setCell ⟨b, 2 + s, none⟩ (.pointer (some ⟨b', 0, none⟩))) := (But.refl (fun k => k = b) _).setCell (p := ⟨b, 2 + s, none⟩) (fun _ => rfl) _
  have hsz := hW.size
  have lb := h.lb
  have nb : ∀ k, w.heap.size ≤ k → k ≠ b := fun k hk e => by omega
  have ne : ∀ {k : Nat}, col k ≠ 1 → ¬ (k = b) := fun h1 e => h1 (by rw [e]; exact h.cb)
  have hb' : w'.heap[b]? = _ := (bw.block b lb).trans h.box
  refine ⟨⟨?_, bS.same h.pgs (ne (by rw [h.cg]; decide)), fun t ht => ?_, h.acr.but bS (fun y hy => ne (by rw [h.cc y hy]; decide)), h.acl, fun q hq => ?_, (old (by rw [h.cb]; decide)).trans h.cb, (old (by rw [h.cg]; decide)).trans h.cg, fun t ht => ?_, fun t ht x hx => ?_, fun x hx => (old (by rw [h.cc x hx]; decide)).trans (h.cc x hx), fun t ht => ?_, fun k hk => ?_⟩, ⟨bS.mono fun k _ hk => by rw [hk, h.cb]; decide, fun k hk => recol_old hk⟩⟩
  · rw [heap_setCell_same _ _ _ _ _ _ hb']
    rcases lt5 hs with rfl | rfl | rfl | rfl | rfl <;> rfl
  · show St _ (upd D.s s b' t) (upd D.a s a' t) (upd D.c s c' t) (upd D.L s R t)
    by_cases e : t = s
    · subst e
      rw [upd_same, upd_same, upd_same, upd_same]
      exact hN.st.but bS' (nb _ (Nat.le_trans hsz hN.b)) (fun x hx => nb _ (Nat.le_trans hsz (hN.a x hx)))
    · rw [upd_ne _ _ e, upd_ne _ _ e, upd_ne _ _ e, upd_ne _ _ e]
      exact (h.set t ht).but bS (ne (by rw [h.cs t ht]; omega)) (fun x hx => ne (by rw [h.ca t ht x hx]; omega))
  · obtain ⟨c1, c2, c3⟩ := h.cB _ (zip_left hq).1
    exact (h.acb q hq).but bS (ne (by rw [c1]; decide)) (ne (by rw [c2]; decide)) (ne (by rw [c3]; decide))
  · show recol col w w' (3 + s) (upd D.s s b' t) = 3 + t
    by_cases e : t = s
    · subst e; rw [upd_same]; exact recol_new (Nat.le_trans hsz hN.b) hN.st.lt
    · rw [upd_ne _ _ e, old (by rw [h.cs t ht]; omega)]; exact h.cs t ht
  · have hx : upd D.a s a' t = some x := hx
    by_cases e : t = s
    · subst e; rw [upd_same] at hx; exact recol_new (Nat.le_trans hsz (hN.a x hx)) (hN.st.row.lt hx)
    · rw [upd_ne _ _ e] at hx
      rw [old (by rw [h.ca t ht x hx]; omega)]; exact h.ca t ht x hx
  · obtain ⟨c1, c2, c3⟩ := h.cB t ht
    exact ⟨(old (by rw [c1]; decide)).trans c1, (old (by rw [c2]; decide)).trans c2, (old (by rw [c3]; decide)).trans c3⟩
  · exact Nat.lt_of_lt_of_le (recol_lt bw.size hk) bS'.size
end Go.Proofs.YtceeeofkigkpkaaGreat
