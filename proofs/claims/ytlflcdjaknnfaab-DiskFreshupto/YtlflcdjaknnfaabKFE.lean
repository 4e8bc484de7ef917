import Derived.Test.YtlflcdjaknnfaabKFD
namespace Go.Proofs.Ytlflcdjaknnfaab
open Go.RowKit

/-- a list that was told: where it lies, its room, what it held -/
structure Rb where
  a : Option Addr
  c : Nat
  l : List Nat
def rv (r : Rb) : Value := .slice r.a r.l.length r.c
def Rb.off (r s : Rb) : Prop := ∀ x y, r.a = some x → s.a = some y → x.block ≠ y.block
def Rb.z : Rb := ⟨none, 0, []⟩
theorem rv_one (T : List Rb) : ∀ u ∈ T.map rv, u.oneCell' = true := by
  intro u hu
  obtain ⟨r, _, rfl⟩ := List.mem_map.1 hu
  rfl
theorem own_own_ne {w : World} {e s n e' s' n' : Nat} {a a' : Option Addr} {m c m' c' : Nat} {C C' : List Value} (h : w.ownsRow 0 e s (.slice a m c) n C) (h' : w.ownsRow 0 e' s' (.slice a' m' c') n' C') (hne : e ≠ e') : ∀ x y, a = some x → a' = some y → x.block ≠ y.block := by
  intro x y hx hy
  obtain ⟨_, h2⟩ := h'
  rcases h2 with ⟨hv, h0⟩ | ⟨g, cap', cur, hv, h3, hg, _⟩
  · simp only [Value.slice.injEq] at hv
    rw [hy] at hv
    cases hv.1
  · simp only [Value.slice.injEq] at hv
    have e1 := hv.1
    rw [hy] at e1
    cases e1
    exact own_ne (D := cur.toList) h (by simpa using hg) (fun e => hne e.symm) x hx
/-- the lists that were told -/
structure Told (w V : World) (Z : Nat → Prop) (ab : Option Addr) (cb : Nat) (T : List Rb) (ai : Option Addr) (ci : Nat) (U : List Rb) : Prop where
  ar : Ar V ab cb (T.map rv)
  ria : Ai V ai ci (U.map rv)
  rt : ∀ r ∈ T, Rw V r.a r.c r.l
  ru : ∀ r ∈ U, Ig V r.a r.c r.l
  dt : T.Pairwise Rb.off
  du : U.Pairwise Rb.off
  za : ∀ x, ab = some x → Z x.block
  zi : ∀ x, ai = some x → Z x.block
  zt : ∀ r ∈ T, ∀ x, r.a = some x → Z x.block
  zu : ∀ r ∈ U, ∀ x, r.a = some x → Z x.block
  z0 : ∀ k, Z k → w.heap.size ≤ k
  z1 : ∀ k, Z k → k < V.heap.size
  lt : ∀ r ∈ T, r.l.length ≤ 33554432
  lu : ∀ r ∈ U, r.l.length ≤ 268435436
section
variable {w V V' W1 V2 : World} {X Z : Nat → Prop} {ab ai : Option Addr} {cb ci : Nat} {T U : List Rb}
theorem Ig.but' {w w' : World} {a : Option Addr} {cap : Nat} {l : List Nat} {S : Nat → Prop} (h : Ig w a cap l) (hb : But S w w') (hn : ∀ x, a = some x → ¬ S x.block) : Ig w' a cap l := own_but h hb hn
theorem Told.nil (w V : World) : Told w V (fun _ => False) none 0 [] none 0 [] :=
  ⟨Ar.nil _, Ai.nil _, fun r hr => (by cases hr), fun r hr => (by cases hr), .nil, .nil, fun x hx => (by cases hx), fun x hx => (by cases hx), fun r hr => (by cases hr), fun r hr => (by cases hr), fun k hk => hk.elim, fun k hk => hk.elim, fun r hr => (by cases hr), fun r hr => (by cases hr)⟩
theorem Told.but (h : Told w V Z ab cb T ai ci U) (hb : But X V V') (hn : ∀ k, Z k → ¬ X k) : Told w V' Z ab cb T ai ci U :=
  { h with ar := h.ar.but hb (fun x hx => hn _ (h.za x hx)), ria := h.ria.but hb (fun x hx => hn _ (h.zi x hx)),
           rt := fun r hr => (h.rt r hr).but hb (fun x hx => hn _ (h.zt r hr x hx)), ru := fun r hr => (h.ru r hr).but' hb (fun x hx => hn _ (h.zu r hr x hx)),
           z1 := fun k hk => Nat.lt_of_lt_of_le (h.z1 k hk) hb.size }
theorem Told.keep (h : Told w V Z ab cb T ai ci U) (hb : Below V.heap.size V V') : Told w V' Z ab cb T ai ci U := h.but (X := fun _ => False) (But.ofBelow hb) (fun _ _ h => h)
/-- two lists of bytes more -/
theorem Told.addB (h : Told w V Z ab cb T ai ci U) (hw : w.heap.size ≤ V.heap.size) (hb : Below V.heap.size V W1) {r1 r2 : Rb} (h1 : Rw W1 r1.a r1.c r1.l) (h2 : Rw W1 r2.a r2.c r2.l)
    (n1 : ∀ x, r1.a = some x → V.heap.size ≤ x.block) (n2 : ∀ x, r2.a = some x → V.heap.size ≤ x.block) (h12 : Rb.off r1 r2) (l1 : r1.l.length ≤ 33554432) (l2 : r2.l.length ≤ 33554432)
    {g c' : Nat} (hA : Ar V2 (some ⟨g, 0, none⟩) c' (T.map rv ++ [rv r1, rv r2])) (hN : New W1 ab (some ⟨g, 0, none⟩)) (hg : W1.grownBy V2 (ab.map Addr.block)) :
    Told w V2 (ext Z V V2) (some ⟨g, 0, none⟩) c' (T ++ [r1, r2]) ai ci U ∧ But Z V V2 := by
  have hs1 := hb.size
  have hgb := grown_but hg
  have hs2 := hgb.size
  have h0 := h.keep hb
  have hnew : ∀ {r : Rb}, (∀ x, r.a = some x → V.heap.size ≤ x.block) → ∀ x, r.a = some x → ¬ ∃ y, ab = some y ∧ y.block = x.block := by
    rintro r hr x hx ⟨y, hy, e⟩
    have := hr x hx
    have := h.z1 _ (h.za y hy)
    omega
  have k1 := h1.but hgb (hnew n1)
  have k2 := h2.but hgb (hnew n2)
  have e2 : T.map rv ++ [rv r1, rv r2] = (T ++ [r1, r2]).map rv := by simp
  rw [e2] at hA
  have hmem : ∀ r ∈ T ++ [r1, r2], r ∈ T ∨ r = r1 ∨ r = r2 := fun r hr => by simpa using hr
  have hz : But Z V V2 := (But.ofBelow hb).trans hgb (fun x hx ⟨y, hy, e⟩ => e ▸ h.za y hy)
  refine ⟨{ ar := hA, ria := h0.ria.but hgb (fun x hx ⟨y, hy, e⟩ => own_own_ne h0.ar h0.ria (by decide) y x hy hx e), rt := fun r hr => ?_, ru := fun r hr => (h0.ru r hr).but' hgb (fun x hx ⟨y, hy, e⟩ => own_own_ne h0.ar (h0.ru r hr) (by decide) y x hy hx e),
            dt := ?_, du := h.du, za := fun x hx => ?_, zi := fun x hx => .inl (h.zi x hx), zt := fun r hr x hx => ?_, zu := fun r hr x hx => .inl (h.zu r hr x hx), z0 := fun k hk => ?_, z1 := fun k hk => ?_, lt := fun r hr => ?_, lu := h.lu }, hz⟩
  · rcases hmem r hr with hr | rfl | rfl
    · exact (h0.rt r hr).but hgb (fun x hx ⟨y, hy, e⟩ => h0.ar.ne (h0.rt r hr) hy hx e)
    · exact k1
    · exact k2
  · refine List.pairwise_append.2 ⟨h.dt, ?_, fun r hr s hs => ?_⟩
    · simp [h12]
    · have hs' : s = r1 ∨ s = r2 := by simpa using hs
      intro x y hx hy
      have q1 := h.z1 _ (h.zt r hr x hx)
      rcases hs' with rfl | rfl
      · have := n1 y hy; omega
      · have := n2 y hy; omega
  · cases hx
    rcases hN _ rfl with ⟨y, hy, e⟩ | hk
    · exact .inl (e ▸ h.za y hy)
    · exact .inr ⟨Nat.le_trans hs1 hk, hA.lt rfl⟩
  · rcases hmem r hr with hr | rfl | rfl
    · exact .inl (h.zt r hr x hx)
    · exact .inr ⟨n1 x hx, k1.lt hx⟩
    · exact .inr ⟨n2 x hx, k2.lt hx⟩
  · rcases hk with hk | hk
    · exact h.z0 k hk
    · omega
  · rcases hk with hk | hk
    · have := h.z1 k hk; omega
    · exact hk.2
  · rcases hmem r hr with hr | rfl | rfl
    · exact h.lt r hr
    · exact l1
    · exact l2
/-- two lists of numbers more -/
theorem Told.addI (h : Told w V Z ab cb T ai ci U) (hw : w.heap.size ≤ V.heap.size) (hb : Below V.heap.size V W1) {r1 r2 : Rb} (h1 : Ig W1 r1.a r1.c r1.l) (h2 : Ig W1 r2.a r2.c r2.l)
    (n1 : ∀ x, r1.a = some x → V.heap.size ≤ x.block) (n2 : ∀ x, r2.a = some x → V.heap.size ≤ x.block) (h12 : Rb.off r1 r2) (l1 : r1.l.length ≤ 268435436) (l2 : r2.l.length ≤ 268435436)
    {g c' : Nat} (hA : Ai V2 (some ⟨g, 0, none⟩) c' (U.map rv ++ [rv r1, rv r2])) (hN : New W1 ai (some ⟨g, 0, none⟩)) (hg : W1.grownBy V2 (ai.map Addr.block)) :
    Told w V2 (ext Z V V2) ab cb T (some ⟨g, 0, none⟩) c' (U ++ [r1, r2]) ∧ But Z V V2 := by
  have hs1 := hb.size
  have hgb := grown_but hg
  have hs2 := hgb.size
  have h0 := h.keep hb
  have hnew : ∀ {r : Rb}, (∀ x, r.a = some x → V.heap.size ≤ x.block) → ∀ x, r.a = some x → ¬ ∃ y, ai = some y ∧ y.block = x.block := by
    rintro r hr x hx ⟨y, hy, e⟩
    have := hr x hx
    have := h.z1 _ (h.zi y hy)
    omega
  have k1 := h1.but' hgb (hnew n1)
  have k2 := h2.but' hgb (hnew n2)
  have e2 : U.map rv ++ [rv r1, rv r2] = (U ++ [r1, r2]).map rv := by simp
  rw [e2] at hA
  have hmem : ∀ r ∈ U ++ [r1, r2], r ∈ U ∨ r = r1 ∨ r = r2 := fun r hr => by simpa using hr
  have hz : But Z V V2 := (But.ofBelow hb).trans hgb (fun x hx ⟨y, hy, e⟩ => e ▸ h.zi y hy)
  refine ⟨{ ria := hA, ar := h0.ar.but hgb (fun x hx ⟨y, hy, e⟩ => own_own_ne h0.ar h0.ria (by decide) x y hx hy e.symm), ru := fun r hr => ?_, rt := fun r hr => (h0.rt r hr).but hgb (fun x hx ⟨y, hy, e⟩ => own_own_ne h0.ria (h0.rt r hr) (by decide) y x hy hx e),
            du := ?_, dt := h.dt, zi := fun x hx => ?_, za := fun x hx => .inl (h.za x hx), zu := fun r hr x hx => ?_, zt := fun r hr x hx => .inl (h.zt r hr x hx), z0 := fun k hk => ?_, z1 := fun k hk => ?_, lu := fun r hr => ?_, lt := h.lt }, hz⟩
  · rcases hmem r hr with hr | rfl | rfl
    · exact (h0.ru r hr).but' hgb (fun x hx ⟨y, hy, e⟩ => h0.ria.ne (h0.ru r hr) hy hx e)
    · exact k1
    · exact k2
  · refine List.pairwise_append.2 ⟨h.du, ?_, fun r hr s hs => ?_⟩
    · simp [h12]
    · have hs' : s = r1 ∨ s = r2 := by simpa using hs
      intro x y hx hy
      have q1 := h.z1 _ (h.zu r hr x hx)
      rcases hs' with rfl | rfl
      · have := n1 y hy; omega
      · have := n2 y hy; omega
  · cases hx
    rcases hN _ rfl with ⟨y, hy, e⟩ | hk
    · exact .inl (e ▸ h.zi y hy)
    · exact .inr ⟨Nat.le_trans hs1 hk, hA.lt rfl⟩
  · rcases hmem r hr with hr | rfl | rfl
    · exact .inl (h.zu r hr x hx)
    · exact .inr ⟨n1 x hx, k1.lt hx⟩
    · exact .inr ⟨n2 x hx, k2.lt hx⟩
  · rcases hk with hk | hk
    · exact h.z0 k hk
    · omega
  · rcases hk with hk | hk
    · have := h.z1 k hk; omega
    · exact hk.2
  · rcases hmem r hr with hr | rfl | rfl
    · exact h.lu r hr
    · exact l1
    · exact l2
theorem rv_range (T : List Rb) : T.map rv = (List.range T.length).map fun i => Value.slice (T.getD i Rb.z).a (T.getD i Rb.z).l.length (T.getD i Rb.z).c := by
  apply List.ext_getElem (by simp)
  intro i h1 h2
  simp only [List.length_map] at h1
  simp [h1, rv]
theorem rb_mem {T : List Rb} {i : Nat} (hi : i < T.length) : T.getD i Rb.z ∈ T := by
  rw [List.getD_eq_getElem?_getD, List.getElem?_eq_getElem hi]
  exact List.getElem_mem hi
theorem rb_dist {T : List Rb} (h : T.Pairwise Rb.off) : Dist T.length (fun i => (T.getD i Rb.z).a) := by
  have hp := List.pairwise_iff_getElem.1 h
  intro i j hi hj hne x y hx hy
  have gi : T.getD i Rb.z = T[i] := by rw [List.getD_eq_getElem?_getD, List.getElem?_eq_getElem hi]; rfl
  have gj : T.getD j Rb.z = T[j] := by rw [List.getD_eq_getElem?_getD, List.getElem?_eq_getElem hj]; rfl
  dsimp only at hx hy
  rw [gi] at hx
  rw [gj] at hy
  rcases Nat.lt_or_gt_of_ne hne with hl | hl
  · exact hp i j hi hj hl x y hx hy
  · exact fun e => hp j i hj hi hl y x hy hx e.symm
theorem Told.apart (h : Told w V Z ab cb T ai ci U) (hT : T.length ≤ 2097152) : Calls Try.prog 18 #[.slice ab T.length cb] V fun e V' => e = .returned (.bool true) ∧ But Z V V' ∧ Ai V' ai ci (U.map rv) ∧ (∀ r ∈ U, Ig V' r.a r.c r.l) := by
  have ha := h.ar
  rw [rv_range] at ha
  refine (Apart_some V ab cb T.length (fun i => (T.getD i Rb.z).a) (fun i => (T.getD i Rb.z).c) (fun i => (T.getD i Rb.z).l) ha (fun i hi => h.rt _ (rb_mem hi)) (rb_dist h.dt) (by omega) (fun i hi => by have := h.lt _ (rb_mem hi); omega)).mono ?_
  rintro e V' ⟨rfl, hb⟩
  have hin : ∀ k, InRows T.length (fun i => (T.getD i Rb.z).a) k → ∃ r ∈ T, ∃ x, r.a = some x ∧ x.block = k := fun k ⟨i, hi, x, hx, e⟩ => ⟨_, rb_mem hi, x, hx, e⟩
  refine ⟨rfl, hb.mono (fun k _ hk => ?_), h.ria.but hb (fun x hx hk => ?_), fun s hs => (h.ru s hs).but' hb (fun x hx hk => ?_)⟩
  · obtain ⟨r, hr, y, hy, e⟩ := hin k hk
    exact e ▸ h.zt r hr y hy
  · obtain ⟨r, hr, y, hy, e⟩ := hin _ hk
    exact own_own_ne h.ria (h.rt r hr) (by decide) x y hx hy e.symm
  · obtain ⟨r, hr, y, hy, e⟩ := hin _ hk
    exact own_own_ne (h.ru s hs) (h.rt r hr) (by decide) x y hx hy e.symm
theorem Told.apartI (h : Told w V Z ab cb T ai ci U) (hU : U.length ≤ 2097152) (h1 : Ai V' ai ci (U.map rv)) (h2 : ∀ r ∈ U, Ig V' r.a r.c r.l) : Calls Try.prog 19 #[.slice ai U.length ci] V' fun e V2 => e = .returned (.bool true) ∧ But Z V' V2 := by
  rw [rv_range] at h1
  refine (ApartInts_some V' ai ci U.length (fun i => (U.getD i Rb.z).a) (fun i => (U.getD i Rb.z).c) (fun i => (U.getD i Rb.z).l) h1 (fun i hi => h2 _ (rb_mem hi)) (rb_dist h.du) (by omega) (fun i hi => h.lu _ (rb_mem hi))).mono ?_
  rintro e V2 ⟨rfl, hb⟩
  refine ⟨rfl, hb.mono (fun k _ hk => ?_)⟩
  obtain ⟨i, hi, x, hx, e⟩ := hk
  exact e ▸ h.zu _ (rb_mem hi) x hx
end
/-- the copy that is handed in, spoilt byte by byte -/
def Xb (w : World) (g N : Nat) : Prop := ∃ cur : List Value, w.heap[g]? = some (.cells cur.toArray 5 (0, 0)) ∧ ∀ i, i < N → ∃ y : Int, cur[i]? = some (.int .u8 y)
theorem Xb.ofRw {w : World} {g c : Nat} {l : List Nat} (h : Rw w (some ⟨g, 0, none⟩) c l) : Xb w g l.length := by
  rcases h.cases with ⟨e, _⟩ | ⟨g', cur, e, hg, h1, _, h3, h4⟩
  · cases e
  · cases e
    refine ⟨cur.toList, by simpa using hg, fun i hi => ⟨((l.getD i 0 : Nat) : Int), ?_⟩⟩
    rw [← vb_get l i hi, ← h4, List.getElem?_take, if_pos hi]
theorem Xb.cell {w : World} {g N i : Nat} (h : Xb w g N) (hi : i < N) : ∃ y : Int, w.cell? ⟨g, i, none⟩ = some (.int .u8 y) ∧ w.frozen? ⟨g, i, none⟩ = false := by
  obtain ⟨cur, hg, hc⟩ := h
  obtain ⟨y, hy⟩ := hc i hi
  exact ⟨y, by rw [cell_of_row _ _ _ _ _ _ hg]; simpa using hy, frozen_of_row _ _ _ _ _ hg⟩
theorem Xb.set {w : World} {g N : Nat} (h : Xb w g N) (k : Nat) (v : Int) : Xb (w.setCell ⟨g, k, none⟩ (.int .u8 v)) g N := by
  obtain ⟨cur, hg, hc⟩ := h
  refine ⟨cur.set k (.int .u8 v), set_blk hg, fun i hi => ?_⟩
  obtain ⟨y, hy⟩ := hc i hi
  rw [List.getElem?_set]
  by_cases e : k = i
  · subst e
    rw [if_pos rfl, if_pos (List.getElem?_eq_some_iff.1 hy).1]
    exact ⟨v, rfl⟩
  · rw [if_neg e]
    exact ⟨y, hy⟩
theorem Bt.but {w V V' : World} {F G X : Nat → Prop} {p q : Nat} {S T : Sd} (h : Bt w V F G p q S T) (hb : But X V V') (hF : ∀ k, F k → ¬ X k) (hG : ∀ k, G k → ¬ X k) (hX : ∀ k, X k → w.heap.size ≤ k) : Bt w V' F G p q S T :=
  ⟨h.d.but hb hF, h.m.but hb hG, h.f, h.g, h.fg, below_by h.b hb hX⟩
end Go.Proofs.Ytlflcdjaknnfaab
