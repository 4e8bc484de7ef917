import Derived.Test.YtlflcdjaknnfaabKC
namespace Go.Proofs.Ytlflcdjaknnfaab
open Go.RowKit
open Go.ChangeMaps (setBlock)

/-- what may be touched, and what is new -/
def ext (F : Nat → Prop) (w w' : World) (k : Nat) : Prop := F k ∨ w.heap.size ≤ k ∧ k < w'.heap.size
theorem ext_lt {F : Nat → Prop} {w w' : World} (hF : ∀ k, F k → k < w.heap.size) (hs : w.heap.size ≤ w'.heap.size) : ∀ k, ext F w w' k → k < w'.heap.size := fun k hk => by
  rcases hk with h | h
  · exact Nat.lt_of_lt_of_le (hF k h) hs
  · exact h.2
theorem ext_ext {F : Nat → Prop} {w w1 w2 : World} (h1 : w.heap.size ≤ w1.heap.size) (h2 : w1.heap.size ≤ w2.heap.size) : ∀ k, ext (ext F w w1) w1 w2 k → ext F w w2 k := fun k hk => by
  rcases hk with (h | h) | h
  · exact .inl h
  · exact .inr ⟨h.1, by omega⟩
  · exact .inr ⟨by omega, h.2⟩
theorem but_ext {F : Nat → Prop} {w w1 w2 : World} (h : But F w w1) (k : But (ext F w w1) w1 w2) : But F w w2 := h.trans k fun x hx hk => by
  rcases hk with h | h
  · exact h
  · omega
theorem al (w : World) (o : Obj) : Below w.heap.size w (w.alloc o) := (Below.refl _ _).alloc (Nat.le_refl _) o
theorem drw (w : World) : Below w.heap.size w w.drew := ⟨rfl, rfl, rfl, Nat.le_refl _, fun _ _ => rfl⟩

/-- what lies in the map of what lasts -/
def mpL (n : Nat) (L : Nat → List Nat) : Int → Option Value := fun k => if 0 ≤ k ∧ k < (n : Int) ∧ L k.toNat ≠ zb then some (.agg (vb (L k.toNat)).toArray) else none
theorem mpL_del {n : Nat} {L : Nat → List Nat} {i : Nat} : ∀ k, mpL n (fun x => if x = i then zb else L x) k = del (mpL n L) (i : Int) k := by
  intro k
  unfold mpL del
  by_cases e : k = (i : Int)
  · subst e; simp
  · rw [if_neg e]
    by_cases h0 : 0 ≤ k
    · have h1 : ¬ k.toNat = i := by omega
      simp only [h1, if_false]
    · simp only [h0, false_and, if_false]
theorem mpL_put {n : Nat} {L : Nat → List Nat} {i : Nat} {b : List Nat} (hi : i < n) (hb : b ≠ zb) : ∀ k, mpL n (fun x => if x = i then b else L x) k = put (mpL n L) (i : Int) (.agg (vb b).toArray) k := by
  intro k
  unfold mpL put
  by_cases e : k = (i : Int)
  · subst e; simp [hi, hb]
  · rw [if_neg e]
    by_cases h0 : 0 ≤ k
    · have h1 : ¬ k.toNat = i := by omega
      simp only [h1, if_false]
    · simp only [h0, false_and, if_false]
/-- where the last write to a block stands -/
structure Nw (f : Int → Option Value) (U : Uns) : Prop where
  hit : ∀ k v, f k = some v → ∃ j : Nat, v = .int .i64 (j : Int) ∧ ∃ u, U[j]? = some u ∧ (u.1 : Int) = k ∧ ∀ j' u', j < j' → U[j']? = some u' → (u'.1 : Int) ≠ k
  miss : ∀ k, f k = none → ∀ u ∈ U, (u.1 : Int) ≠ k
theorem Nw.nil : Nw (fun _ => none) [] := ⟨by simp, by simp⟩
theorem Nw.snoc {f : Int → Option Value} {U : Uns} (h : Nw f U) (i : Nat) (b : List Nat) : Nw (put f (i : Int) (.int .i64 (U.length : Int))) (U ++ [(i, b)]) := by
  have hlast : ∀ j' u', (U ++ [(i, b)])[j']? = some u' → (j' < U.length ∧ U[j']? = some u') ∨ (j' = U.length ∧ u' = (i, b)) := by
    intro j' u' hu
    by_cases hj : j' < U.length
    · rw [List.getElem?_append_left hj] at hu
      exact .inl ⟨hj, hu⟩
    · rw [List.getElem?_append_right (by omega)] at hu
      have := (List.getElem?_eq_some_iff.1 hu).1
      simp at this
      have e : j' = U.length := by omega
      subst e
      simp at hu
      exact .inr ⟨rfl, hu.symm⟩
  refine ⟨fun k v hv => ?_, fun k hk u hu => ?_⟩
  · unfold put at hv
    by_cases e : k = (i : Int)
    · rw [if_pos e] at hv
      cases hv
      refine ⟨U.length, rfl, (i, b), by simp, e.symm, fun j' u' hj hu => ?_⟩
      rcases hlast j' u' hu with ⟨h1, _⟩ | ⟨h1, _⟩ <;> omega
    · rw [if_neg e] at hv
      obtain ⟨j, rfl, u, hu, hk, hn⟩ := h.hit k v hv
      have hlt := (List.getElem?_eq_some_iff.1 hu).1
      refine ⟨j, rfl, u, by rw [List.getElem?_append_left hlt]; exact hu, hk, fun j' u' hj hu' => ?_⟩
      rcases hlast j' u' hu' with ⟨_, h2⟩ | ⟨_, rfl⟩
      · exact hn j' u' hj h2
      · exact fun e' => e e'.symm
  · unfold put at hk
    by_cases e : k = (i : Int)
    · rw [if_pos e] at hk; cases hk
    · rw [if_neg e] at hk
      rcases List.mem_append.1 hu with h1 | h1
      · exact h.miss k hk u h1
      · simp only [List.mem_singleton] at h1
        subst h1
        exact fun e' => e e'.symm
/-- the cells of the writes that were not synced -/
def vU (U : Uns) : List Value := U.flatMap fun u => .int .i64 ((u.1 : Nat) : Int) :: vb u.2
theorem vU_snoc (U : Uns) (u : Nat × List Nat) : vU (U ++ [u]) = vU U ++ (.int .i64 ((u.1 : Nat) : Int) :: vb u.2) := by
  unfold vU
  rw [List.flatMap_append]
  simp
theorem vU_len {U : Uns} (h : ∀ u ∈ U, u.2.length = 512) : (vU U).length = U.length * 513 := by
  induction U with
  | nil => rfl
  | cons u U ih =>
    have e : vU (u :: U) = (.int .i64 ((u.1 : Nat) : Int) :: vb u.2) ++ vU U := rfl
    rw [e, List.length_append, ih fun v hv => h v (by simp [hv]), List.length_cons, vb_length, h u (by simp), List.length_cons]
    omega
theorem vU_at {U : Uns} (h : ∀ u ∈ U, u.2.length = 512) {j : Nat} {u : Nat × List Nat} (hj : U[j]? = some u) : ((vU U).drop (j * 513)).take 513 = .int .i64 ((u.1 : Nat) : Int) :: vb u.2 := by
  have e : U = U.take j ++ ([u] ++ U.drop (j + 1)) := by
    obtain ⟨h1, h2⟩ := List.getElem?_eq_some_iff.1 hj
    rw [← h2, List.singleton_append, List.getElem_cons_drop, List.take_append_drop]
  have hlt := (List.getElem?_eq_some_iff.1 hj).1
  have e2 : vU U = vU (U.take j) ++ ((.int .i64 ((u.1 : Nat) : Int) :: vb u.2) ++ vU (U.drop (j + 1))) := by
    conv => lhs; rw [e]
    unfold vU
    rw [List.flatMap_append, List.flatMap_append]
    simp
  have l1 : (vU (U.take j)).length = j * 513 := by
    rw [vU_len fun v hv => h v (List.mem_of_mem_take hv), List.length_take]
    congr 1
    omega
  have hu := h u (List.mem_of_getElem? hj)
  rw [e2, ← l1, List.drop_left, List.take_left' (by rw [List.length_cons, vb_length, hu])]

/-- the struct's cells -/
def dc (S : Sd) (bl bn : Nat) (ua : Option Addr) (uc : Nat) : List Value :=
  [.int .i64 (S.n : Int), .map (some bl), .slice ua S.uns.length uc, .map (some bn), .bool S.pow, .int .i64 S.alm, .int .i64 (S.wr : Int), .int .i64 (S.sy : Int)]
/-- a disk in memory: F, what belongs to it -/
structure DkAt (F : Nat → Prop) (w : World) (p bl bn : Nat) (ua : Option Addr) (uc : Nat) (S : Sd) : Prop where
  ok : S.ok
  blk : w.heap[p]? = some (.cells (dc S bl bn ua uc).toArray 69 (0, 0))
  l : Mp w bl (mpL S.n S.last)
  n : ∃ f, Mp w bn f ∧ Nw f S.uns
  u : w.ownsRow 0 75 513 (.slice ua S.uns.length uc) S.uns.length (vU S.uns)
  fp : F p
  fl : F bl
  fn : F bn
  fu : ∀ x, ua = some x → F x.block
  ne : bl ≠ bn
  lt : ∀ k, F k → k < w.heap.size
theorem own_but {T : Nat → Prop} {w w' : World} {e s n : Nat} {a : Option Addr} {m c : Nat} {C : List Value} (h : w.ownsRow 0 e s (.slice a m c) n C) (hb : But T w w') (hn : ∀ x, a = some x → ¬ T x.block) : w'.ownsRow 0 e s (.slice a m c) n C := by
  obtain ⟨h1, h2⟩ := h
  refine ⟨h1, ?_⟩
  rcases h2 with ⟨hv, h0⟩ | ⟨g, cap', cur, hv, h3, hg, hr⟩
  · exact .inl ⟨hv, h0⟩
  · simp only [Value.slice.injEq] at hv
    exact .inr ⟨g, cap', cur, by simp only [Value.slice.injEq]; exact hv, h3, (hb.block g (Array.getElem?_eq_some_iff.1 hg).1 (hn _ hv.1)).trans hg, hr⟩
section
variable {F : Nat → Prop} {w w' : World} {p bl bn : Nat} {ua : Option Addr} {uc : Nat} {S : Sd}
theorem DkAt.but {T : Nat → Prop} (h : DkAt F w p bl bn ua uc S) (hb : But T w w') (hn : ∀ k, F k → ¬ T k) : DkAt F w' p bl bn ua uc S where
  ok := h.ok
  blk := (hb.block p (h.lt _ h.fp) (hn _ h.fp)).trans h.blk
  l := h.l.but hb (hn _ h.fl)
  n := by obtain ⟨f, h1, h2⟩ := h.n; exact ⟨f, h1.but hb (hn _ h.fn), h2⟩
  u := own_but h.u hb fun x hx => hn _ (h.fu x hx)
  fp := h.fp
  fl := h.fl
  fn := h.fn
  fu := h.fu
  ne := h.ne
  lt := fun k hk => Nat.lt_of_lt_of_le (h.lt k hk) hb.size
theorem DkAt.keep (h : DkAt F w p bl bn ua uc S) (hb : Below w.heap.size w w') : DkAt F w' p bl bn ua uc S := h.but (T := fun _ => False) (But.ofBelow hb) fun _ _ h => h
theorem DkAt.mono {G : Nat → Prop} (h : DkAt F w p bl bn ua uc S) (hG : ∀ k, F k → G k) (hl : ∀ k, G k → k < w.heap.size) : DkAt G w p bl bn ua uc S :=
  { h with fp := hG _ h.fp, fl := hG _ h.fl, fn := hG _ h.fn, fu := fun x hx => hG _ (h.fu x hx), lt := hl }
theorem DkAt.np (h : DkAt F w p bl bn ua uc S) : p ≠ bl ∧ p ≠ bn := by
  refine ⟨fun e => ?_, fun e => ?_⟩
  · obtain ⟨es, c, hb, _⟩ := h.l
    rw [← e, h.blk] at hb
    cases hb
  · obtain ⟨f, ⟨es, c, hb, _⟩, _⟩ := h.n
    rw [← e, h.blk] at hb
    cases hb
theorem DkAt.cell (h : DkAt F w p bl bn ua uc S) (i : Nat) : w.cell? ⟨p, i, none⟩ = (dc S bl bn ua uc)[i]? := by
  rw [cell_of_row _ _ _ _ _ _ h.blk]
  simp
theorem DkAt.frozen (h : DkAt F w p bl bn ua uc S) (i : Nat) : w.frozen? ⟨p, i, none⟩ = false := frozen_of_row w p i _ _ h.blk
theorem own_ne {e s n : Nat} {a : Option Addr} {m c : Nat} {C D : List Value} {t : TypeId} (h : w.ownsRow 0 e s (.slice a m c) n C) (hp : w.heap[p]? = some (.cells D.toArray t (0, 0))) (hne : t ≠ e) : ∀ x, a = some x → x.block ≠ p := by
  intro x hx e'
  obtain ⟨h1, h2⟩ := h
  rcases h2 with ⟨hv, h0⟩ | ⟨g, cap', cur, hv, h3, hg, hr⟩
  · simp only [Value.slice.injEq] at hv
    rw [hx] at hv
    cases hv.1
  · simp only [Value.slice.injEq] at hv
    rw [hx] at hv
    simp only [Option.some.injEq] at hv
    rw [hv.1] at e'
    subst e'
    rw [hg] at hp
    simp only [Option.some.injEq, Obj.cells.injEq] at hp
    exact hne hp.2.1.symm
theorem own_nmap {e s n : Nat} {a : Option Addr} {m c : Nat} {C : List Value} {b : Nat} {f : Int → Option Value} (h : w.ownsRow 0 e s (.slice a m c) n C) (hm : Mp w b f) : ∀ x, a = some x → x.block ≠ b := by
  intro x hx e'
  obtain ⟨es, cl, hb, _⟩ := hm
  obtain ⟨h1, h2⟩ := h
  rcases h2 with ⟨hv, h0⟩ | ⟨g, cap', cur, hv, h3, hg, hr⟩
  · simp only [Value.slice.injEq] at hv
    rw [hx] at hv
    cases hv.1
  · simp only [Value.slice.injEq] at hv
    rw [hx] at hv
    simp only [Option.some.injEq] at hv
    rw [hv.1] at e'
    subst e'
    rw [hg] at hb
    cases hb
theorem set_but (w : World) (X n : Nat) (v : Value) : But (fun k => k = X) w (w.setCell ⟨X, n, none⟩ v) := (But.refl (fun k => k = X) w).setCell (p := ⟨X, n, none⟩) (fun _ => rfl) v
theorem set_size (w : World) (a : Addr) (v : Value) : (w.setCell a v).heap.size = w.heap.size := by simp [World.setCell]
theorem set_blk {w : World} {X n : Nat} {C : List Value} {v : Value} {T : TypeId} (h : w.heap[X]? = some (.cells C.toArray T (0, 0))) : (w.setCell ⟨X, n, none⟩ v).heap[X]? = some (.cells (C.set n v).toArray T (0, 0)) := by
  rw [heap_setCell_same w X n _ _ _ h]
  simp
/-- one of the struct's numbers turns -/
theorem DkAt.set (h : DkAt F w p bl bn ua uc S) (i : Nat) (v : Value) (S' : Sd) (hok : S'.ok) (hc : (dc S bl bn ua uc).set i v = dc S' bl bn ua uc) (hn : S'.n = S.n) (hl : S'.last = S.last) (hu : S'.uns = S.uns) : DkAt F (w.setCell ⟨p, i, none⟩ v) p bl bn ua uc S' where
  ok := hok
  blk := by rw [set_blk h.blk, hc]
  l := by rw [hn, hl]; exact h.l.but (set_but w p i v) (fun e => h.np.1 e.symm)
  n := by rw [hu]; obtain ⟨f, h1, h2⟩ := h.n; exact ⟨f, h1.but (set_but w p i v) (fun e => h.np.2 e.symm), h2⟩
  u := by rw [hu]; exact own_but h.u (set_but w p i v) (own_ne h.u h.blk (by decide))
  fp := h.fp
  fl := h.fl
  fn := h.fn
  fu := h.fu
  ne := h.ne
  lt := fun k hk => by rw [set_size]; exact h.lt k hk
/-- the map of what lasts turns -/
theorem DkAt.lays (h : DkAt F w p bl bn ua uc S) {i : Nat} {b : List Nat} (hb : Blk b) (hw : But (· = bl) w w') (hm : Mp w' bl (mpL S.n (S.lay i b).last)) : DkAt F w' p bl bn ua uc (S.lay i b) where
  ok := h.ok.lay hb
  blk := (hw.block p (h.lt _ h.fp) h.np.1).trans h.blk
  l := hm
  n := by obtain ⟨f, h1, h2⟩ := h.n; exact ⟨f, h1.but hw (fun e => h.ne e.symm), h2⟩
  u := own_but h.u hw (own_nmap h.u h.l)
  fp := h.fp
  fl := h.fl
  fn := h.fn
  fu := h.fu
  ne := h.ne
  lt := fun k hk => Nat.lt_of_lt_of_le (h.lt k hk) hw.size
end
end Go.Proofs.Ytlflcdjaknnfaab
