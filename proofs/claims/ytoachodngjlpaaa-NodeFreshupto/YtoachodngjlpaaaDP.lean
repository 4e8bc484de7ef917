import Derived.Test.YtoachodngjlpaaaDJ
namespace Go.Proofs.Ytoachodngjlpaaa
set_option linter.unusedVariables false
set_option linter.unusedSimpArgs false
open Go.RowKit

/-! ### two pages and what lies between, all in memory of their own -/
structure Hq (v W : World) (q1 q2 : Pv) (a : Option Addr) (c : Nat) (s : List Nat) : Prop where
  f : Fam v W (rp q1 ++ (rp q2 ++ [⟨a, c, s⟩]))
  j1 : Jw W q1.aI q1.cI q1.items
  n1 : New v none q1.aI
  j2 : Jw W q2.aI q2.cI q2.items
  n2 : New v none q2.aI
  ap : ∀ x y, q1.aI = some x → q2.aI = some y → x.block ≠ y.block
  k1 : (∀ r ∈ q1.items, N64 r.child ∧ N64 r.size) ∧ N64 q1.kind ∧ N64 q1.level ∧ N64 q1.next
  k2 : (∀ r ∈ q2.items, N64 r.child ∧ N64 r.size) ∧ N64 q2.kind ∧ N64 q2.level ∧ N64 q2.next
  b : Below v.heap.size v W
theorem Hq.p1 {v W : World} {q1 q2 : Pv} {a : Option Addr} {c : Nat} {s : List Nat} (h : Hq v W q1 q2 a c s) : Pn v W q1 := Pn.ofFam (h.f.sub (List.sublist_append_left _ _)) h.j1 h.n1 h.k1.1 h.k1.2.1 h.k1.2.2.1 h.k1.2.2.2
theorem Hq.p2 {v W : World} {q1 q2 : Pv} {a : Option Addr} {c : Nat} {s : List Nat} (h : Hq v W q1 q2 a c s) : Pn v W q2 := Pn.ofFam (h.f.sub ((List.sublist_append_left _ _).trans (List.sublist_append_right _ _))) h.j2 h.n2 h.k2.1 h.k2.2.1 h.k2.2.2.1 h.k2.2.2.2
theorem Hq.sp {v W : World} {q1 q2 : Pv} {a : Option Addr} {c : Nat} {s : List Nat} (h : Hq v W q1 q2 a c s) : Own v W a c s ∧ B8 s := h.f.own ⟨a, c, s⟩ (by simp)
theorem Hq.but {S : Nat → Prop} {v W W' : World} {q1 q2 : Pv} {a : Option Addr} {c : Nat} {s : List Nat} (h : Hq v W q1 q2 a c s) (hb : But S W W') (hS : ∀ k, S k → ∃ t cs, Bx W t k cs ∧ t ≠ 5 ∧ t ≠ 29) (hw : Below v.heap.size v W') : Hq v W' q1 q2 a c s := by
  refine ⟨h.f.but hb hw (fun t ht x hx hs => ?_), h.j1.but hb (fun x hx hs => ?_), h.n1, h.j2.but hb (fun x hx hs => ?_), h.n2, h.ap, h.k1, h.k2, hw⟩
  · obtain ⟨t', cs, h1, h2, h3⟩ := hS _ hs
    exact (h.f.own t ht).1.r.nty h1 h2 hx rfl
  · obtain ⟨t', cs, h1, h2, h3⟩ := hS _ hs
    exact h.j1.nty h1 h3 hx rfl
  · obtain ⟨t', cs, h1, h2, h3⟩ := hS _ hs
    exact h.j2.nty h1 h3 hx rfl
theorem Hq.keep {v W W' : World} {q1 q2 : Pv} {a : Option Addr} {c : Nat} {s : List Nat} (h : Hq v W q1 q2 a c s) (hb : Below W.heap.size W W') : Hq v W' q1 q2 a c s := h.but (S := fun _ => False) (But.ofBelow hb) (fun _ h => h.elim) (bt h.b hb)
theorem Hq.pre {v v' W : World} {q1 q2 : Pv} {a : Option Addr} {c : Nat} {s : List Nat} (h : Hq v W q1 q2 a c s) (hb : Below v'.heap.size v' v) : Hq v' W q1 q2 a c s := ⟨Fam.pre hb h.f, h.j1, h.n1.mono hb.size, h.j2, h.n2.mono hb.size, h.ap, h.k1, h.k2, bt hb h.b⟩
theorem Hq.zero {v W : World} (hb : Below v.heap.size v W) : Hq v W Pv.zero Pv.zero none 0 [] := by
  have z : Own v W none 0 [] ∧ B8 ([] : List Nat) := ⟨Own.nil v hb, B8.nil⟩
  have k : (∀ r ∈ Pv.zero.items, N64 r.child ∧ N64 r.size) ∧ N64 Pv.zero.kind ∧ N64 Pv.zero.level ∧ N64 Pv.zero.next := ⟨fun _ h => (by cases h), by simp [N64, Pv.zero], by simp [N64, Pv.zero], by simp [N64, Pv.zero]⟩
  refine ⟨⟨fun t ht => ?_, ?_⟩, Jw.nil _, New.none _ _, Jw.nil _, New.none _ _, (fun _ _ h => by cases h), k, k, hb⟩
  · have e : rp Pv.zero ++ (rp Pv.zero ++ [(⟨none, 0, []⟩ : Br)]) = [⟨none, 0, []⟩, ⟨none, 0, []⟩, ⟨none, 0, []⟩] := rfl
    rw [e] at ht
    have : t = ⟨none, 0, []⟩ := by simpa using ht
    rw [this]; exact z
  · have e : rp Pv.zero ++ (rp Pv.zero ++ [(⟨none, 0, []⟩ : Br)]) = [⟨none, 0, []⟩, ⟨none, 0, []⟩, ⟨none, 0, []⟩] := rfl
    rw [e]
    simp [brApart]
/-- the separator is found -/
theorem Hq.sep {v W W' : World} {q1 q2 : Pv} {a : Option Addr} {c : Nat} {s : List Nat} (h : Hq v W q1 q2 none 0 []) (hO : Own W W' a c s) (h8 : B8 s) : Hq v W' q1 q2 a c s := by
  have k := h.keep hO.b
  have f0 : Fam v W (rp q1 ++ rp q2) := h.f.sub (by rw [← List.append_assoc]; exact List.sublist_append_left _ _)
  have f1 : Fam W W' [(⟨a, c, s⟩ : Br)] := ⟨fun t ht => by rw [List.mem_singleton.1 ht]; exact ⟨hO, h8⟩, List.pairwise_singleton _ _⟩
  have f2 := f0.add f1 hO.b h.b
  rw [List.append_assoc] at f2
  exact ⟨f2, k.j1, k.n1, k.j2, k.n2, k.ap, k.k1, k.k2, k.b⟩
/-- the right page's first key becomes the separator -/
theorem Hq.cut {v W : World} {q1 : Pv} {kind level next : Int} {g cI : Nat} {aK aV : Option Addr} {cK cV : Nat} {key val : List Nat} {child size : Int} {L : List Iv} {aD : Option Addr} {cD : Nat} {data : List Nat}
    (h : Hq v W q1 ⟨kind, level, some ⟨g, 0, none⟩, cI, ⟨aK, cK, key, aV, cV, val, child, size⟩ :: L, aD, cD, data, next⟩ none 0 []) :
    Hq v (W.setCell ⟨g, 0, none⟩ (.slice none 0 0)) q1 ⟨kind, level, some ⟨g, 0, none⟩, cI, ⟨none, 0, [], aV, cV, val, child, size⟩ :: L, aD, cD, data, next⟩ aK cK key := by
  have hB := But.cell1 W g 0 (.slice none 0 0)
  have hgv : v.heap.size ≤ g := by
    rcases h.n2 _ rfl with ⟨z, hz, _⟩ | h2
    · cases hz
    · exact h2
  have hw : Below v.heap.size v (W.setCell ⟨g, 0, none⟩ (.slice none 0 0)) := ((But.ofBelow (S := fun k => k = g) h.b).trans hB (fun _ _ e => e)).below (fun k hk e => by omega)
  have f1 := h.f.but hB hw (fun t ht x hx e => h.j2.ne (h.f.own t ht).1.r rfl hx e.symm)
  have j2 : Jw (W.setCell ⟨g, 0, none⟩ (.slice none 0 0)) (some ⟨g, 0, none⟩) cI (⟨none, 0, [], aV, cV, val, child, size⟩ :: L) := by
    rcases h.j2.cases with ⟨h0, _⟩ | ⟨g', cur, ha, hg, h1, h2, h3, h4⟩
    · cases h0
    · cases ha
      refine Jw.mk (heap_setCell_same _ _ _ _ _ _ hg) h1 h2 (by simpa using h3) ?_
      have e : (⟨none, 0, [], aV, cV, val, child, size⟩ :: L : List Iv).length = (⟨aK, cK, key, aV, cV, val, child, size⟩ :: L : List Iv).length := rfl
      simp only at h4
      rw [Array.toList_setIfInBounds, e, List.take_set, h4]
      simp [Jc, Iv.cs]
  refine ⟨?_, h.j1.but hB (fun x hx e => h.ap x _ hx rfl e), h.n1, j2, h.n2, h.ap, h.k1, ⟨fun r hr => ?_, h.k2.2⟩, hw⟩
  · have p : (rp q1 ++ (rp (⟨kind, level, some ⟨g, 0, none⟩, cI, ⟨none, 0, [], aV, cV, val, child, size⟩ :: L, aD, cD, data, next⟩ : Pv) ++ [(⟨aK, cK, key⟩ : Br)])).Perm (rp q1 ++ (rp (⟨kind, level, some ⟨g, 0, none⟩, cI, ⟨aK, cK, key, aV, cV, val, child, size⟩ :: L, aD, cD, data, next⟩ : Pv) ++ [(⟨none, 0, []⟩ : Br)])) := by
      refine List.Perm.append_left _ ?_
      simp only [rp, rowsOf_cons, Iv.rows, List.cons_append, List.nil_append]
      refine List.Perm.cons _ ?_
      have e1 : (((⟨none, 0, []⟩ : Br) :: ⟨aV, cV, val⟩ :: (rowsOf L ++ [(⟨aK, cK, key⟩ : Br)])) : List Br).Perm ((⟨none, 0, []⟩ : Br) :: (⟨aK, cK, key⟩ : Br) :: ⟨aV, cV, val⟩ :: rowsOf L) := by
        refine List.Perm.cons _ ?_
        have := List.perm_append_singleton (⟨aK, cK, key⟩ : Br) ((⟨aV, cV, val⟩ : Br) :: rowsOf L)
        simpa using this
      have e2 : (((⟨aK, cK, key⟩ : Br) :: ⟨aV, cV, val⟩ :: (rowsOf L ++ [(⟨none, 0, []⟩ : Br)])) : List Br).Perm ((⟨none, 0, []⟩ : Br) :: (⟨aK, cK, key⟩ : Br) :: ⟨aV, cV, val⟩ :: rowsOf L) := by
        have := List.perm_append_singleton (⟨none, 0, []⟩ : Br) ((⟨aK, cK, key⟩ : Br) :: (⟨aV, cV, val⟩ : Br) :: rowsOf L)
        simpa using this
      exact e1.trans e2.symm
    exact f1.perm p
  · have k := h.k2.1
    simp only [List.mem_cons] at hr k
    rcases hr with rfl | hr
    · exact k ⟨aK, cK, key, aV, cV, val, child, size⟩ (.inl rfl)
    · exact k r (.inr hr)
theorem results_cells {P : Program} {fn : Func} {p p2 q r : Tmp} {ty : TypeId} (h : fn.results = #[.cell p ty, .cell p2 ty, .tmp q, .tmp r]) (tmps : Array Value) (w : World) (g g2 : Nat) (t t2 : TypeId) (cs cs2 : Array Value) (fr fr2 : Nat × Nat) (d : TypeDesc)
    (hp : tmps.getD p undef = .pointer (some ⟨g, 0, none⟩)) (hg : w.heap[g]? = some (.cells cs t fr)) (hp2 : tmps.getD p2 undef = .pointer (some ⟨g2, 0, none⟩)) (hg2 : w.heap[g2]? = some (.cells cs2 t2 fr2))
    (hu : P.underlying ty = some d) (hd : (match d with | .struct _ | .array _ _ => true | _ => false) = true) (hi : (P.info? ty).map (·.size) = some cs.size) (hi2 : (P.info? ty).map (·.size) = some cs2.size) :
    (results fn tmps).run P w = .ok (.tuple #[.agg cs, .agg cs2, tmps.getD q undef, tmps.getD r undef]) w := by
  have hp' : tmps[p]?.getD undef = .pointer (some ⟨g, 0, none⟩) := by simpa using hp
  have hp2' : tmps[p2]?.getD undef = .pointer (some ⟨g2, 0, none⟩) := by simpa using hp2
  simp [results, h, hp', hp2', asAddr, run_loadVar_row w g t ty cs fr d hg hu hd hi, run_loadVar_row w g2 t2 ty cs2 fr2 d hg2 hu hd hi2]
set_option maxHeartbeats 16000000 in
set_option maxRecDepth 8000 in
theorem parted_index (v w : World) (l r : Pv) (h : Hq v w l r none 0 []) (h1 : 0 < l.items.length) (h2 : 0 < r.items.length) (hl1 : l.items.length ≤ 2199023255520) (hl2 : r.items.length ≤ 2199023255520) (hk : r.kind = 2) :
    Calls Try.prog 27 #[l.vl, r.vl] w fun e w' => ∃ (q1 q2 : Pv) (a : Option Addr) (c : Nat), e = .returned (.tuple #[q1.vl, q2.vl, .slice a (prt l.pg r.pg).s.length c, .bool (prt l.pg r.pg).ok]) ∧ Hq v w' q1 q2 a c (prt l.pg r.pg).s ∧ q1.pg = (prt l.pg r.pg).l ∧ q2.pg = (prt l.pg r.pg).r := by
  have PL := hide (h.p1.pi hl1)
  have PR := hide (h.p2.pi hl2)
  obtain ⟨kind, level, aI, cI, L, aD, cD, data, next⟩ := l
  obtain ⟨kind2, level2, aI2, cI2, L2, aD2, cD2, data2, next2⟩ := r
  obtain ⟨gL, eL, -, -⟩ := h.j1.addr h1
  obtain ⟨gR, eR, -, -⟩ := h.j2.addr h2
  simp only at eL eR h1 h2 hl1 hl2 hk
  subst eL eR
  cases L2 with
  | nil => simp at h2
  | cons X R =>
  obtain ⟨m, hm⟩ : ∃ m, L.length = m + 1 := ⟨L.length - 1, by omega⟩
  have HM := hide hm
  have hmL : m < L.length := by omega
  have IT := hide (PL.out.it.1 _ (getD_memR hmL))
  have IX := hide (PR.out.it.1 X List.mem_cons_self)
  have H0 := hide h
  have PE : Hid ((Pg.at (Pv.pg ⟨kind, level, some ⟨gL, 0, none⟩, cI, L, aD, cD, data, next⟩) ((Pv.pg ⟨kind, level, some ⟨gL, 0, none⟩, cI, L, aD, cD, data, next⟩).items.length - 1)) = (L.getD m Iv.zero).it) := by
    show _ = _
    rw [Pv.at, show (Pv.pg ⟨kind, level, some ⟨gL, 0, none⟩, cI, L, aD, cD, data, next⟩).items.length - 1 = m from by show (L.map Iv.it).length - 1 = m; rw [List.length_map, hm]; rfl]
  have PF : Hid (Pg.at (Pv.pg ⟨kind2, level2, some ⟨gR, 0, none⟩, cI2, X :: R, aD2, cD2, data2, next2⟩) 0 = X.it) := rfl
  unfold Pv.vl
  simp only [Pv.cs]
  obtain ⟨m2, hm2⟩ : ∃ m2, (X :: R).length = m2 := ⟨_, rfl⟩
  have HM2 := hide hm2
  rw [hm, hm2]
  have hm2p : 0 < m2 := by rw [← hm2]; exact h2
  have hm2l : m2 ≤ 2199023255520 := by rw [← hm2]; exact hl2
  have hml : m + 1 ≤ 2199023255520 := by rw [← hm]; exact hl1
  have hm2I : (0 : Int) < (m2 : Int) := by omega
  have JT := hide fun (W : World) (hb : Below w.heap.size w W) => (h.j1.keep hb).item4 hmL
  have JR := hide fun (W : World) (hb : Below w.heap.size w W) => (h.j2.keep hb).item4 (k := 0) (by simp)
  clear h h1 h2 hm hm2 hmL
  generalize L.getD m Iv.zero = T at *
  obtain ⟨tK, tcK, tkey, tV, tcV, tval, tch, tsz⟩ := T
  obtain ⟨hK, hcK, hkey, hV, hcV, hval, hch, hsz⟩ := X
  simp only [List.getD_cons_zero, Nat.zero_mul, Nat.zero_add] at JT JR
  subst hk
  have hgL := (JT.out w (Below.refl _ _)).1.1
  have U4 := hide (four_blocks w (.cells #[.int .i64 kind, .int .i64 level, .slice (some ⟨gL, 0, none⟩) (m + 1) cI, .slice aD data.length cD, .int .i64 next] 25) (.cells #[.int .i64 2, .int .i64 level2, .slice (some ⟨gR, 0, none⟩) m2 cI2, .slice aD2 data2.length cD2, .int .i64 next2] 25) (.cells #[.int .i64 0, .int .i64 0, .slice none 0 0, .slice none 0 0, .int .i64 0] 25) (.cells #[.int .i64 0, .int .i64 0, .slice none 0 0, .slice none 0 0, .int .i64 0] 25))
  clear hgL
  go_enter Try.func27, Try.ntmps27
  go_wp2_with fail
  have BP := hide U4.out.1
  have BQ := hide U4.out.2.1
  have BR1 := hide U4.out.2.2.1
  have BR2 := hide U4.out.2.2.2.1
  have B4 := hide U4.out.2.2.2.2
  clear U4
  generalize ((((w.alloc (.cells #[.int .i64 kind, .int .i64 level, .slice (some ⟨gL, 0, none⟩) (m + 1) cI, .slice aD data.length cD, .int .i64 next] 25)).alloc (.cells #[.int .i64 2, .int .i64 level2, .slice (some ⟨gR, 0, none⟩) m2 cI2, .slice aD2 data2.length cD2, .int .i64 next2] 25)).alloc (.cells #[.int .i64 0, .int .i64 0, .slice none 0 0, .slice none 0 0, .int .i64 0] 25)).alloc (.cells #[.int .i64 0, .int .i64 0, .slice none 0 0, .slice none 0 0, .int .i64 0] 25)) = w4 at *
  have hz4 : w.heap.size + 3 < w4.heap.size := (Array.getElem?_eq_some_iff.1 BR2.out).1
  have SS := hide fun (W : World) (hb : Below w4.heap.size w4 W) => (show W.cell? ⟨w.heap.size, 2, none⟩ = some (.slice (some ⟨gL, 0, none⟩) (m + 1) cI) ∧ W.cell? ⟨w.heap.size + 1, 2, none⟩ = some (.slice (some ⟨gR, 0, none⟩) m2 cI2) ∧ (W.cell? ⟨gL, m * 4, none⟩ = some (.slice tK tkey.length tcK) ∧ W.cell? ⟨gL, m * 4 + 1, none⟩ = some (.slice tV tval.length tcV) ∧ W.cell? ⟨gL, m * 4 + 2, none⟩ = some (.int .i64 tch) ∧ W.cell? ⟨gL, m * 4 + 3, none⟩ = some (.int .i64 tsz)) from ⟨(cells5 (blk_keep BP.out hb)).2.2.1, (cells5 (blk_keep BQ.out hb)).2.2.1, (JT.out W (bt B4.out hb)).1⟩)
  have D4 := hide (dr2 w4)
  have WS : Hid (IntKind.i64.wrap (m : Int) = (m : Int)) := wrapI (by omega) (by omega)
  have hm0 : (0 : Int) ≤ (m : Int) := by omega
  have hmm : (m : Int) < (m : Int) + 1 := by omega
  refine wp_region_held_drew (S := fun W => W.cell? ⟨w.heap.size, 2, none⟩ = some (.slice (some ⟨gL, 0, none⟩) (m + 1) cI) ∧ W.cell? ⟨w.heap.size + 1, 2, none⟩ = some (.slice (some ⟨gR, 0, none⟩) m2 cI2) ∧ (W.cell? ⟨gL, m * 4, none⟩ = some (.slice tK tkey.length tcK) ∧ W.cell? ⟨gL, m * 4 + 1, none⟩ = some (.slice tV tval.length tcV) ∧ W.cell? ⟨gL, m * 4 + 2, none⟩ = some (.int .i64 tch) ∧ W.cell? ⟨gL, m * 4 + 3, none⟩ = some (.int .i64 tsz))) (by kernel_rfl) (SS.out _ D4.out) (fun hHeld => ?_)
  refine wpAnyH_take (i := 0) (v := ?vaa0) rfl (by kernel_rfl) (by kernel_rfl) (by kernel_rfl) (fun _ _ _ h => h) (Or.inl ⟨by rfl, ?hya0⟩) (by assumption) ?raa0
  case hya0 => (intro wq hSw; (try dsimp only at hSw); obtain ⟨e0, e1, f0, f1, f2, f3⟩ := hSw; go_simp <;> with_reducible rfl)
  try simp only [Act.put, List.getElem_toArray, List.getElem_cons_zero, List.setIfInBounds_toArray, List.set_cons_zero, List.set_cons_succ]
  refine wpAnyH_take (i := 1) (v := ?vaa1) rfl (by kernel_rfl) (by kernel_rfl) (by kernel_rfl) (fun _ _ _ h => h) (Or.inl ⟨by rfl, ?hya1⟩) (by assumption) ?raa1
  case hya1 => (intro wq hSw; (try dsimp only at hSw); obtain ⟨e0, e1, f0, f1, f2, f3⟩ := hSw; go_simp <;> with_reducible rfl)
  try simp only [Act.put, List.getElem_toArray, List.getElem_cons_zero, List.getElem_cons_succ, List.setIfInBounds_toArray, List.set_cons_zero, List.set_cons_succ]
  refine wpAnyH_take (i := 2) (v := ?vaa2) rfl (by kernel_rfl) (by kernel_rfl) (by kernel_rfl) (fun _ _ _ h => h) (Or.inl ⟨by rfl, ?hya2⟩) (by assumption) ?raa2
  case hya2 => (intro wq hSw; (try dsimp only at hSw); obtain ⟨e0, e1, f0, f1, f2, f3⟩ := hSw; go_simp <;> with_reducible rfl)
  try simp only [Act.put, List.getElem_toArray, List.getElem_cons_zero, List.getElem_cons_succ, List.setIfInBounds_toArray, List.set_cons_zero, List.set_cons_succ]
  refine wpAnyH_take (i := 3) (v := ?vaa3) rfl (by kernel_rfl) (by kernel_rfl) (by kernel_rfl) (fun _ _ _ h => h) (Or.inl ⟨by rfl, ?hya3⟩) (by assumption) ?raa3
  case hya3 => (intro wq hSw; (try dsimp only at hSw); obtain ⟨e0, e1, f0, f1, f2, f3⟩ := hSw; go_simp <;> with_reducible rfl)
  try simp only [Act.put, List.getElem_toArray, List.getElem_cons_zero, List.getElem_cons_succ, List.setIfInBounds_toArray, List.set_cons_zero, List.set_cons_succ]
  refine wpAnyH_take (i := 4) (v := ?vaa4) rfl (by kernel_rfl) (by kernel_rfl) (by kernel_rfl) (fun _ _ _ h => h) (Or.inl ⟨by rfl, ?hya4⟩) (by assumption) ?raa4
  case hya4 => (intro wq hSw; (try dsimp only at hSw); obtain ⟨e0, e1, f0, f1, f2, f3⟩ := hSw; go_simp <;> with_reducible rfl)
  try simp only [Act.put, List.getElem_toArray, List.getElem_cons_zero, List.getElem_cons_succ, List.setIfInBounds_toArray, List.set_cons_zero, List.set_cons_succ]
  refine wpAnyH_take (i := 5) (v := ?vaa5) rfl (by kernel_rfl) (by kernel_rfl) (by kernel_rfl) (fun _ _ _ h => h) (Or.inl ⟨by rfl, ?hya5⟩) (by assumption) ?raa5
  case hya5 => (intro wq hSw; (try dsimp only at hSw); obtain ⟨e0, e1, f0, f1, f2, f3⟩ := hSw; go_simp <;> with_reducible rfl)
  try simp only [Act.put, List.getElem_toArray, List.getElem_cons_zero, List.getElem_cons_succ, List.setIfInBounds_toArray, List.set_cons_zero, List.set_cons_succ]
  try simp only [WS.out]
  refine wpAnyH_take (i := 6) (v := ?vaa6) rfl (by kernel_rfl) (by kernel_rfl) (by kernel_rfl) (fun _ _ _ h => h) (Or.inl ⟨by rfl, ?hya6⟩) (by assumption) ?raa6
  case hya6 => (intro wq hSw; (try dsimp only at hSw); obtain ⟨e0, e1, f0, f1, f2, f3⟩ := hSw; go_simp <;> with_reducible rfl)
  try simp only [Act.put, List.getElem_toArray, List.getElem_cons_zero, List.getElem_cons_succ, List.setIfInBounds_toArray, List.set_cons_zero, List.set_cons_succ]
  refine wpAnyH_take (i := 7) (v := ?vaa7) rfl (by kernel_rfl) (by kernel_rfl) (by kernel_rfl) (fun _ _ _ h => h) (Or.inl ⟨by rfl, ?hya7⟩) (by assumption) ?raa7
  case hya7 => (intro wq hSw; (try dsimp only at hSw); obtain ⟨e0, e1, f0, f1, f2, f3⟩ := hSw; go_simp <;> with_reducible rfl)
  try simp only [Act.put, List.getElem_toArray, List.getElem_cons_zero, List.getElem_cons_succ, List.setIfInBounds_toArray, List.set_cons_zero, List.set_cons_succ]
  refine wpAnyH_take (i := 8) (v := ?vaa8) rfl (by kernel_rfl) (by kernel_rfl) (by kernel_rfl) (fun _ _ _ h => h) (Or.inl ⟨by rfl, ?hya8⟩) (by assumption) ?raa8
  case hya8 => (intro wq hSw; (try dsimp only at hSw); obtain ⟨e0, e1, f0, f1, f2, f3⟩ := hSw; go_simp <;> with_reducible rfl)
  try simp only [Act.put, List.getElem_toArray, List.getElem_cons_zero, List.getElem_cons_succ, List.setIfInBounds_toArray, List.set_cons_zero, List.set_cons_succ]
  refine wpAnyH_take (i := 9) (v := ?vaa9) rfl (by kernel_rfl) (by kernel_rfl) (by kernel_rfl) (fun _ _ _ h => h) (Or.inl ⟨by rfl, ?hya9⟩) (by assumption) ?raa9
  case hya9 => (intro wq hSw; (try dsimp only at hSw); obtain ⟨e0, e1, f0, f1, f2, f3⟩ := hSw; go_simp <;> with_reducible rfl)
  try simp only [Act.put, List.getElem_toArray, List.getElem_cons_zero, List.getElem_cons_succ, List.setIfInBounds_toArray, List.set_cons_zero, List.set_cons_succ]
  refine wpAnyH_take (i := 10) (v := ?vaa10) rfl (by kernel_rfl) (by kernel_rfl) (by kernel_rfl) (fun _ _ _ h => h) (Or.inl ⟨by rfl, ?hya10⟩) (by assumption) ?raa10
  case hya10 => (intro wq hSw; (try dsimp only at hSw); obtain ⟨e0, e1, f0, f1, f2, f3⟩ := hSw; go_simp <;> with_reducible rfl)
  try simp only [Act.put, List.getElem_toArray, List.getElem_cons_zero, List.getElem_cons_succ, List.setIfInBounds_toArray, List.set_cons_zero, List.set_cons_succ]
  refine wpAnyH_ready (rs := [11]) (by kernel_rfl) (by simp) ?_
  refine AllReadyH.cons rfl (fun K hK => ?_) AllReadyH.nil
  go_simp
  have B5a := hide (bt (al w4 (.cells #[.slice none 0 0, .slice none 0 0, .int .i64 0, .int .i64 0] 29)) (dr2 _))
  have T5a : Hid ((w4.alloc (.cells #[.slice none 0 0, .slice none 0 0, .int .i64 0, .int .i64 0] 29)).drew.heap[w4.heap.size]? = some (.cells #[.slice none 0 0, .slice none 0 0, .int .i64 0, .int .i64 0] 29 (0, 0))) := heap_alloc_new w4 (.cells #[.slice none 0 0, .slice none 0 0, .int .i64 0, .int .i64 0] 29)
  refine hK.out _ _ (SS.out _ B5a.out) (fun hHeld => ?_)
  clear hK K
  try simp only [Act.put, List.getElem_toArray, List.getElem_cons_zero, List.getElem_cons_succ, List.setIfInBounds_toArray, List.set_cons_zero, List.set_cons_succ]
  refine wpAnyH_ready (rs := [12]) (by kernel_rfl) (by simp) ?_
  refine AllReadyH.cons rfl (fun K hK => ?_) AllReadyH.nil
  rw [if_pos (by rfl)]
  have B5 := hide (below_row #[.slice tK tkey.length tcK, .slice tV tval.length tcV, .int .i64 tch, .int .i64 tsz] B5a.out (Nat.le_refl _))
  have T5 : Hid (((w4.alloc (.cells #[.slice none 0 0, .slice none 0 0, .int .i64 0, .int .i64 0] 29)).drew.setRow w4.heap.size #[.slice tK tkey.length tcK, .slice tV tval.length tcV, .int .i64 tch, .int .i64 tsz]).heap[w4.heap.size]? = some (.cells #[.slice tK tkey.length tcK, .slice tV tval.length tcV, .int .i64 tch, .int .i64 tsz] 29 (0, 0))) := setRow_heap _ _ _ _ _ _ T5a.out
  refine wp_store_row 29 _ _ rfl w4.heap.size _ rfl rfl 29 _ T5a.out sizeItem rfl (by simp [Value.oneCell']) ?_
  refine hK.out _ _ (SS.out _ B5.out) (fun hHeld => ?_)
  clear hK K
  try simp only [Act.put, List.getElem_toArray, List.getElem_cons_zero, List.getElem_cons_succ, List.setIfInBounds_toArray, List.set_cons_zero, List.set_cons_succ]
  refine wpAnyH_take (i := 13) (v := ?vaa13) rfl (by kernel_rfl) (by kernel_rfl) (by kernel_rfl) (fun _ _ _ h => h) (Or.inl ⟨by rfl, ?hya13⟩) (by assumption) ?raa13
  case hya13 => (intro wq hSw; (try dsimp only at hSw); obtain ⟨e0, e1, f0, f1, f2, f3⟩ := hSw; go_simp <;> with_reducible rfl)
  try simp only [Act.put, List.getElem_toArray, List.getElem_cons_zero, List.getElem_cons_succ, List.setIfInBounds_toArray, List.set_cons_zero, List.set_cons_succ]
  refine wpAnyH_done (by kernel_rfl) ?_ _
  clear hHeld T5a B5a
  generalize (w4.alloc (.cells #[.slice none 0 0, .slice none 0 0, .int .i64 0, .int .i64 0] 29)).drew.setRow w4.heap.size #[.slice tK tkey.length tcK, .slice tV tval.length tcV, .int .i64 tch, .int .i64 tsz] = w5 at *
  have hgR : gR < w.heap.size := block_lt_of_cell (JR.out w (Below.refl _ _)).1.1
  have hvw : v.heap.size ≤ w.heap.size := H0.out.b.size
  obtain ⟨⟨x0, x1, x2, x3⟩, y0, y1, y2, y3⟩ := JR.out w5 (bt B4.out B5.out)
  obtain ⟨r0, r1, r2, r3, r4⟩ := cells5 (blk_keep BQ.out B5.out)
  have H6 := hide (((H0.out.keep B4.out).keep B5.out).cut)
  have BP6 := hide ((Below.heap_setCell w5 ⟨gR, 0, none⟩ (.slice none 0 0) w.heap.size (show w.heap.size ≠ gR by omega)).trans (blk_keep BP.out B5.out))
  have BQ6 := hide ((Below.heap_setCell w5 ⟨gR, 0, none⟩ (.slice none 0 0) (w.heap.size + 1) (show w.heap.size + 1 ≠ gR by omega)).trans (blk_keep BQ.out B5.out))
  have BR61 := hide ((Below.heap_setCell w5 ⟨gR, 0, none⟩ (.slice none 0 0) (w.heap.size + 2) (show w.heap.size + 2 ≠ gR by omega)).trans (blk_keep BR1.out B5.out))
  have BR62 := hide ((Below.heap_setCell w5 ⟨gR, 0, none⟩ (.slice none 0 0) (w.heap.size + 3) (show w.heap.size + 3 ≠ gR by omega)).trans (blk_keep BR2.out B5.out))
  clear JT JR SS D4 WS T5
  go_wp2_with fail
  clear x0 x1 x2 x3 y0 y1 y2 y3 r0 r1 r2 r3 r4
  generalize w5.setCell ⟨gR, 0, none⟩ (.slice none 0 0) = w6 at *
  have HW := hide (fun (cs1 cs2 : Array Value) => (show Hq v ((w6.drew.setRow (w.heap.size + 2) cs1).setRow (w.heap.size + 3) cs2) ⟨kind, level, some ⟨gL, 0, none⟩, cI, L, aD, cD, data, next⟩ ⟨2, level2, some ⟨gR, 0, none⟩, cI2, ⟨none, 0, [], hV, hcV, hval, hch, hsz⟩ :: R, aD2, cD2, data2, next2⟩ hK hcK hkey from by
    have b1 := but_setRow w6.drew (w.heap.size + 2) cs1
    have h1 := (H6.out.keep (dr2 w6)).but b1 (fun k hk => ⟨_, _, by subst hk; exact BR61.out, by decide, by decide⟩) (below_row _ (H6.out.keep (dr2 w6)).b (by omega))
    exact h1.but (but_setRow _ (w.heap.size + 3) cs2) (fun k hk => ⟨_, _, by subst hk; exact row_far _ BR62.out (by omega), by decide, by decide⟩) (below_row _ h1.b (by omega))))
  have SS6 := hide (show (fun W : World => (W.cell? ⟨w.heap.size, 0, none⟩ = some (.int .i64 kind) ∧ W.cell? ⟨w.heap.size, 1, none⟩ = some (.int .i64 level) ∧ W.cell? ⟨w.heap.size, 2, none⟩ = some (.slice (some ⟨gL, 0, none⟩) (m + 1) cI) ∧ W.cell? ⟨w.heap.size, 3, none⟩ = some (.slice aD data.length cD) ∧ W.cell? ⟨w.heap.size, 4, none⟩ = some (.int .i64 next)) ∧ (W.cell? ⟨w.heap.size + 1, 0, none⟩ = some (.int .i64 2) ∧ W.cell? ⟨w.heap.size + 1, 1, none⟩ = some (.int .i64 level2) ∧ W.cell? ⟨w.heap.size + 1, 2, none⟩ = some (.slice (some ⟨gR, 0, none⟩) m2 cI2) ∧ W.cell? ⟨w.heap.size + 1, 3, none⟩ = some (.slice aD2 data2.length cD2) ∧ W.cell? ⟨w.heap.size + 1, 4, none⟩ = some (.int .i64 next2))) w6.drew from ⟨cells5 BP6.out, cells5 BQ6.out⟩)
  refine wp_region_held_drew (S := fun W => (W.cell? ⟨w.heap.size, 0, none⟩ = some (.int .i64 kind) ∧ W.cell? ⟨w.heap.size, 1, none⟩ = some (.int .i64 level) ∧ W.cell? ⟨w.heap.size, 2, none⟩ = some (.slice (some ⟨gL, 0, none⟩) (m + 1) cI) ∧ W.cell? ⟨w.heap.size, 3, none⟩ = some (.slice aD data.length cD) ∧ W.cell? ⟨w.heap.size, 4, none⟩ = some (.int .i64 next)) ∧ (W.cell? ⟨w.heap.size + 1, 0, none⟩ = some (.int .i64 2) ∧ W.cell? ⟨w.heap.size + 1, 1, none⟩ = some (.int .i64 level2) ∧ W.cell? ⟨w.heap.size + 1, 2, none⟩ = some (.slice (some ⟨gR, 0, none⟩) m2 cI2) ∧ W.cell? ⟨w.heap.size + 1, 3, none⟩ = some (.slice aD2 data2.length cD2) ∧ W.cell? ⟨w.heap.size + 1, 4, none⟩ = some (.int .i64 next2))) (by kernel_rfl) (SS6.out) (fun hHeld => ?_)
  refine wpAnyH_take (i := 0) (v := ?vab0) rfl (by kernel_rfl) (by kernel_rfl) (by kernel_rfl) (fun _ _ _ h => h) (Or.inl ⟨by rfl, ?hyb0⟩) (by assumption) ?rab0
  case hyb0 => (intro wq hSw; (try dsimp only at hSw); obtain ⟨⟨e0, e1, e2, e3, e4⟩, g0, g1, g2, g3, g4⟩ := hSw; go_simp <;> with_reducible rfl)
  try simp only [Act.put, List.getElem_toArray, List.getElem_cons_zero, List.setIfInBounds_toArray, List.set_cons_zero, List.set_cons_succ]
  refine wpAnyH_take (i := 1) (v := ?vab1) rfl (by kernel_rfl) (by kernel_rfl) (by kernel_rfl) (fun _ _ _ h => h) (Or.inl ⟨by rfl, ?hyb1⟩) (by assumption) ?rab1
  case hyb1 => (intro wq hSw; (try dsimp only at hSw); obtain ⟨⟨e0, e1, e2, e3, e4⟩, g0, g1, g2, g3, g4⟩ := hSw; go_simp <;> with_reducible rfl)
  try simp only [Act.put, List.getElem_toArray, List.getElem_cons_zero, List.getElem_cons_succ, List.setIfInBounds_toArray, List.set_cons_zero, List.set_cons_succ]
  refine wpAnyH_take (i := 2) (v := ?vab2) rfl (by kernel_rfl) (by kernel_rfl) (by kernel_rfl) (fun _ _ _ h => h) (Or.inl ⟨by rfl, ?hyb2⟩) (by assumption) ?rab2
  case hyb2 => (intro wq hSw; (try dsimp only at hSw); obtain ⟨⟨e0, e1, e2, e3, e4⟩, g0, g1, g2, g3, g4⟩ := hSw; go_simp <;> with_reducible rfl)
  try simp only [Act.put, List.getElem_toArray, List.getElem_cons_zero, List.getElem_cons_succ, List.setIfInBounds_toArray, List.set_cons_zero, List.set_cons_succ]
  have BX1 := hide (setRow_heap w6.drew (w.heap.size + 2) _ #[.int .i64 kind, .int .i64 level, .slice (some ⟨gL, 0, none⟩) (m + 1) cI, .slice aD data.length cD, .int .i64 next] _ _ BR61.out)
  have BX2 := hide (row_far (W := w6.drew) (g := w.heap.size + 2) #[.int .i64 kind, .int .i64 level, .slice (some ⟨gL, 0, none⟩) (m + 1) cI, .slice aD data.length cD, .int .i64 next] BR62.out (by omega))
  refine wpAnyH_ready (rs := [3]) (by kernel_rfl) (by simp) ?_
  refine AllReadyH.cons rfl (fun K hK => ?_) AllReadyH.nil
  rw [if_pos (by rfl)]
  refine wp_store_row 25 _ _ rfl (w.heap.size + 2) _ rfl rfl 25 _ BR61.out sizePage rfl (by simp [Value.oneCell']) ?_
  refine hK.out _ _ ⟨cells5 (row_far _ BP6.out (by omega)), cells5 (row_far _ BQ6.out (by omega))⟩ (fun hHeld => ?_)
  clear hK K
  try simp only [Act.put, List.getElem_toArray, List.getElem_cons_zero, List.getElem_cons_succ, List.setIfInBounds_toArray, List.set_cons_zero, List.set_cons_succ]
  have BY1 := hide (row_far (g := w.heap.size + 3) #[.int .i64 2, .int .i64 level2, .slice (some ⟨gR, 0, none⟩) m2 cI2, .slice aD2 data2.length cD2, .int .i64 next2] BX1.out (by omega))
  have BY2 := hide (setRow_heap _ (w.heap.size + 3) _ #[.int .i64 2, .int .i64 level2, .slice (some ⟨gR, 0, none⟩) m2 cI2, .slice aD2 data2.length cD2, .int .i64 next2] _ _ BX2.out)
  refine wpAnyH_ready (rs := [4]) (by kernel_rfl) (by simp) ?_
  refine AllReadyH.cons rfl (fun K hK => ?_) AllReadyH.nil
  rw [if_pos (by rfl)]
  refine wp_store_row 25 _ _ rfl (w.heap.size + 3) _ rfl rfl 25 _ BX2.out sizePage rfl (by simp [Value.oneCell']) ?_
  refine hK.out _ _ ⟨cells5 (row_far _ (row_far _ BP6.out (by omega)) (by omega)), cells5 (row_far _ (row_far _ BQ6.out (by omega)) (by omega))⟩ (fun hHeld => ?_)
  clear hK K
  try simp only [Act.put, List.getElem_toArray, List.getElem_cons_zero, List.getElem_cons_succ, List.setIfInBounds_toArray, List.set_cons_zero, List.set_cons_succ]
  refine wpAnyH_take (i := 5) (v := ?vab5) rfl (by kernel_rfl) (by kernel_rfl) (by kernel_rfl) (fun _ _ _ h => h) (Or.inl ⟨by rfl, ?hyb5⟩) (by assumption) ?rab5
  case hyb5 => (intro wq hSw; (try dsimp only at hSw); obtain ⟨⟨e0, e1, e2, e3, e4⟩, g0, g1, g2, g3, g4⟩ := hSw; go_simp <;> with_reducible rfl)
  try simp only [Act.put, List.getElem_toArray, List.getElem_cons_zero, List.getElem_cons_succ, List.setIfInBounds_toArray, List.set_cons_zero, List.set_cons_succ]
  refine wpAnyH_take (i := 6) (v := ?vab6) rfl (by kernel_rfl) (by kernel_rfl) (by kernel_rfl) (fun _ _ _ h => h) (Or.inl ⟨by rfl, ?hyb6⟩) (by assumption) ?rab6
  case hyb6 => (intro wq hSw; (try dsimp only at hSw); obtain ⟨⟨e0, e1, e2, e3, e4⟩, g0, g1, g2, g3, g4⟩ := hSw; go_simp <;> with_reducible rfl)
  try simp only [Act.put, List.getElem_toArray, List.getElem_cons_zero, List.getElem_cons_succ, List.setIfInBounds_toArray, List.set_cons_zero, List.set_cons_succ]
  refine wpAnyH_done (by kernel_rfl) ?_ _
  clear hHeld SS6
  go_wp2_with fail
  refine bodyPost_ret (v := .tuple #[.agg _, .agg _, _, _]) (results_cells Try.results27 _ _ (w.heap.size + 2) (w.heap.size + 3) 25 25 _ _ (0, 0) (0, 0) _ rfl BY1.out rfl BY2.out Try.underlying25 rfl sizePage sizePage) rfl ?_
  exact ⟨⟨kind, level, some ⟨gL, 0, none⟩, cI, L, aD, cD, data, next⟩, ⟨2, level2, some ⟨gR, 0, none⟩, cI2, ⟨none, 0, [], hV, hcV, hval, hch, hsz⟩ :: R, aD2, cD2, data2, next2⟩, hK, hcK, by simp only [HM.out, List.length_cons]; rw [show R.length + 1 = m2 from HM2.out]; rfl, HW.out _ _, rfl, rfl⟩
theorem between_b8 {a b : List Nat} (h1 : B8 a) (h2 : B8 b) : B8 (between a b).1 := by
  unfold between
  split
  · rename_i h
    exact (btw_spec a b h.1 h2).2.2.2.1 h1
  · exact B8.nil
set_option maxHeartbeats 16000000 in
set_option maxRecDepth 8000 in
theorem parted_leaf_yes (v w : World) (l r : Pv) (h : Hq v w l r none 0 []) (h1 : 0 < l.items.length) (h2 : 0 < r.items.length) (hl1 : l.items.length ≤ 2199023255520) (hl2 : r.items.length ≤ 2199023255520) (hk : r.kind ≠ 2) (hbt : (between (l.pg.at (l.pg.items.length - 1)).key (r.pg.at 0).key).2 = true) :
    Calls Try.prog 27 #[l.vl, r.vl] w fun e w' => ∃ (q1 q2 : Pv) (a : Option Addr) (c : Nat), e = .returned (.tuple #[q1.vl, q2.vl, .slice a (prt l.pg r.pg).s.length c, .bool (prt l.pg r.pg).ok]) ∧ Hq v w' q1 q2 a c (prt l.pg r.pg).s ∧ q1.pg = (prt l.pg r.pg).l ∧ q2.pg = (prt l.pg r.pg).r := by
  have PL := hide (h.p1.pi hl1)
  have PR := hide (h.p2.pi hl2)
  obtain ⟨kind, level, aI, cI, L, aD, cD, data, next⟩ := l
  obtain ⟨kind2, level2, aI2, cI2, L2, aD2, cD2, data2, next2⟩ := r
  obtain ⟨gL, eL, -, -⟩ := h.j1.addr h1
  obtain ⟨gR, eR, -, -⟩ := h.j2.addr h2
  simp only at eL eR h1 h2 hl1 hl2 hk
  subst eL eR
  cases L2 with
  | nil => simp at h2
  | cons X R =>
  obtain ⟨m, hm⟩ : ∃ m, L.length = m + 1 := ⟨L.length - 1, by omega⟩
  have HM := hide hm
  have hmL : m < L.length := by omega
  have IT := hide (PL.out.it.1 _ (getD_memR hmL))
  have IX := hide (PR.out.it.1 X List.mem_cons_self)
  have H0 := hide h
  have PE : Hid ((Pg.at (Pv.pg ⟨kind, level, some ⟨gL, 0, none⟩, cI, L, aD, cD, data, next⟩) ((Pv.pg ⟨kind, level, some ⟨gL, 0, none⟩, cI, L, aD, cD, data, next⟩).items.length - 1)) = (L.getD m Iv.zero).it) := by
    show _ = _
    rw [Pv.at, show (Pv.pg ⟨kind, level, some ⟨gL, 0, none⟩, cI, L, aD, cD, data, next⟩).items.length - 1 = m from by show (L.map Iv.it).length - 1 = m; rw [List.length_map, hm]; rfl]
  have PF : Hid (Pg.at (Pv.pg ⟨kind2, level2, some ⟨gR, 0, none⟩, cI2, X :: R, aD2, cD2, data2, next2⟩) 0 = X.it) := rfl
  unfold Pv.vl
  simp only [Pv.cs]
  obtain ⟨m2, hm2⟩ : ∃ m2, (X :: R).length = m2 := ⟨_, rfl⟩
  have HM2 := hide hm2
  rw [hm, hm2]
  have hm2p : 0 < m2 := by rw [← hm2]; exact h2
  have hm2l : m2 ≤ 2199023255520 := by rw [← hm2]; exact hl2
  have hml : m + 1 ≤ 2199023255520 := by rw [← hm]; exact hl1
  have hm2I : (0 : Int) < (m2 : Int) := by omega
  have JT := hide fun (W : World) (hb : Below w.heap.size w W) => (h.j1.keep hb).item4 hmL
  have JR := hide fun (W : World) (hb : Below w.heap.size w W) => (h.j2.keep hb).item4 (k := 0) (by simp)
  clear h h1 h2 hm hm2 hmL
  generalize L.getD m Iv.zero = T at *
  obtain ⟨tK, tcK, tkey, tV, tcV, tval, tch, tsz⟩ := T
  obtain ⟨hK, hcK, hkey, hV, hcV, hval, hch, hsz⟩ := X
  simp only [List.getD_cons_zero, Nat.zero_mul, Nat.zero_add] at JT JR
  have hgL := (JT.out w (Below.refl _ _)).1.1
  have U4 := hide (four_blocks w (.cells #[.int .i64 kind, .int .i64 level, .slice (some ⟨gL, 0, none⟩) (m + 1) cI, .slice aD data.length cD, .int .i64 next] 25) (.cells #[.int .i64 kind2, .int .i64 level2, .slice (some ⟨gR, 0, none⟩) m2 cI2, .slice aD2 data2.length cD2, .int .i64 next2] 25) (.cells #[.int .i64 0, .int .i64 0, .slice none 0 0, .slice none 0 0, .int .i64 0] 25) (.cells #[.int .i64 0, .int .i64 0, .slice none 0 0, .slice none 0 0, .int .i64 0] 25))
  clear hgL
  have hkf : (kind2 == 2) = false := by simpa using hk
  rw [PE.out, PF.out] at hbt
  replace hbt : (between tkey hkey).2 = true := hbt
  have PRT : Hid (prt (Pv.pg ⟨kind, level, some ⟨gL, 0, none⟩, cI, L, aD, cD, data, next⟩) (Pv.pg ⟨kind2, level2, some ⟨gR, 0, none⟩, cI2, ⟨hK, hcK, hkey, hV, hcV, hval, hch, hsz⟩ :: R, aD2, cD2, data2, next2⟩) = ⟨Pv.pg ⟨kind, level, some ⟨gL, 0, none⟩, cI, L, aD, cD, data, next⟩, Pv.pg ⟨kind2, level2, some ⟨gR, 0, none⟩, cI2, ⟨hK, hcK, hkey, hV, hcV, hval, hch, hsz⟩ :: R, aD2, cD2, data2, next2⟩, (between tkey hkey).1, true⟩) := by
    show _ = _
    unfold prt
    rw [if_neg (show ¬ (Pv.pg ⟨kind2, level2, some ⟨gR, 0, none⟩, cI2, ⟨hK, hcK, hkey, hV, hcV, hval, hch, hsz⟩ :: R, aD2, cD2, data2, next2⟩).kind = 2 from hk), PE.out, PF.out]
    show (if (between tkey hkey).2 = true then _ else _) = _
    rw [hbt]
    rfl
  rw [PRT.out]
  have BT := hide fun (W : World) (hb : Below w.heap.size w W) => Between_any W tK hK tkey.length tcK hkey.length hcK tkey hkey (IT.out.bk.keep hb) (IX.out.bk.keep hb) rfl rfl IT.out.ck
  rw [hbt] at BT
  clear hbt PRT PE PF hk
  go_enter Try.func27, Try.ntmps27
  go_wp2_with fail
  have BP := hide U4.out.1
  have BQ := hide U4.out.2.1
  have BR1 := hide U4.out.2.2.1
  have BR2 := hide U4.out.2.2.2.1
  have B4 := hide U4.out.2.2.2.2
  clear U4
  generalize ((((w.alloc (.cells #[.int .i64 kind, .int .i64 level, .slice (some ⟨gL, 0, none⟩) (m + 1) cI, .slice aD data.length cD, .int .i64 next] 25)).alloc (.cells #[.int .i64 kind2, .int .i64 level2, .slice (some ⟨gR, 0, none⟩) m2 cI2, .slice aD2 data2.length cD2, .int .i64 next2] 25)).alloc (.cells #[.int .i64 0, .int .i64 0, .slice none 0 0, .slice none 0 0, .int .i64 0] 25)).alloc (.cells #[.int .i64 0, .int .i64 0, .slice none 0 0, .slice none 0 0, .int .i64 0] 25)) = w4 at *
  have hz4 : w.heap.size + 3 < w4.heap.size := (Array.getElem?_eq_some_iff.1 BR2.out).1
  have SS := hide fun (W : World) (hb : Below w4.heap.size w4 W) => (show W.cell? ⟨w.heap.size, 2, none⟩ = some (.slice (some ⟨gL, 0, none⟩) (m + 1) cI) ∧ W.cell? ⟨w.heap.size + 1, 2, none⟩ = some (.slice (some ⟨gR, 0, none⟩) m2 cI2) ∧ (W.cell? ⟨gL, m * 4, none⟩ = some (.slice tK tkey.length tcK) ∧ W.cell? ⟨gL, m * 4 + 1, none⟩ = some (.slice tV tval.length tcV) ∧ W.cell? ⟨gL, m * 4 + 2, none⟩ = some (.int .i64 tch) ∧ W.cell? ⟨gL, m * 4 + 3, none⟩ = some (.int .i64 tsz)) from ⟨(cells5 (blk_keep BP.out hb)).2.2.1, (cells5 (blk_keep BQ.out hb)).2.2.1, (JT.out W (bt B4.out hb)).1⟩)
  have D4 := hide (dr2 w4)
  have WS : Hid (IntKind.i64.wrap (m : Int) = (m : Int)) := wrapI (by omega) (by omega)
  have hm0 : (0 : Int) ≤ (m : Int) := by omega
  have hmm : (m : Int) < (m : Int) + 1 := by omega
  refine wp_region_held_drew (S := fun W => W.cell? ⟨w.heap.size, 2, none⟩ = some (.slice (some ⟨gL, 0, none⟩) (m + 1) cI) ∧ W.cell? ⟨w.heap.size + 1, 2, none⟩ = some (.slice (some ⟨gR, 0, none⟩) m2 cI2) ∧ (W.cell? ⟨gL, m * 4, none⟩ = some (.slice tK tkey.length tcK) ∧ W.cell? ⟨gL, m * 4 + 1, none⟩ = some (.slice tV tval.length tcV) ∧ W.cell? ⟨gL, m * 4 + 2, none⟩ = some (.int .i64 tch) ∧ W.cell? ⟨gL, m * 4 + 3, none⟩ = some (.int .i64 tsz))) (by kernel_rfl) (SS.out _ D4.out) (fun hHeld => ?_)
  refine wpAnyH_take (i := 0) (v := ?vaat0) rfl (by kernel_rfl) (by kernel_rfl) (by kernel_rfl) (fun _ _ _ h => h) (Or.inl ⟨by rfl, ?hyat0⟩) (by assumption) ?raat0
  case hyat0 => (intro wq hSw; (try dsimp only at hSw); obtain ⟨e0, e1, f0, f1, f2, f3⟩ := hSw; go_simp <;> with_reducible rfl)
  try simp only [Act.put, List.getElem_toArray, List.getElem_cons_zero, List.setIfInBounds_toArray, List.set_cons_zero, List.set_cons_succ]
  refine wpAnyH_take (i := 1) (v := ?vaat1) rfl (by kernel_rfl) (by kernel_rfl) (by kernel_rfl) (fun _ _ _ h => h) (Or.inl ⟨by rfl, ?hyat1⟩) (by assumption) ?raat1
  case hyat1 => (intro wq hSw; (try dsimp only at hSw); obtain ⟨e0, e1, f0, f1, f2, f3⟩ := hSw; go_simp <;> with_reducible rfl)
  try simp only [Act.put, List.getElem_toArray, List.getElem_cons_zero, List.getElem_cons_succ, List.setIfInBounds_toArray, List.set_cons_zero, List.set_cons_succ]
  refine wpAnyH_take (i := 2) (v := ?vaat2) rfl (by kernel_rfl) (by kernel_rfl) (by kernel_rfl) (fun _ _ _ h => h) (Or.inl ⟨by rfl, ?hyat2⟩) (by assumption) ?raat2
  case hyat2 => (intro wq hSw; (try dsimp only at hSw); obtain ⟨e0, e1, f0, f1, f2, f3⟩ := hSw; go_simp <;> with_reducible rfl)
  try simp only [Act.put, List.getElem_toArray, List.getElem_cons_zero, List.getElem_cons_succ, List.setIfInBounds_toArray, List.set_cons_zero, List.set_cons_succ]
  refine wpAnyH_take (i := 3) (v := ?vaat3) rfl (by kernel_rfl) (by kernel_rfl) (by kernel_rfl) (fun _ _ _ h => h) (Or.inl ⟨by rfl, ?hyat3⟩) (by assumption) ?raat3
  case hyat3 => (intro wq hSw; (try dsimp only at hSw); obtain ⟨e0, e1, f0, f1, f2, f3⟩ := hSw; go_simp <;> with_reducible rfl)
  try simp only [Act.put, List.getElem_toArray, List.getElem_cons_zero, List.getElem_cons_succ, List.setIfInBounds_toArray, List.set_cons_zero, List.set_cons_succ]
  refine wpAnyH_take (i := 4) (v := ?vaat4) rfl (by kernel_rfl) (by kernel_rfl) (by kernel_rfl) (fun _ _ _ h => h) (Or.inl ⟨by rfl, ?hyat4⟩) (by assumption) ?raat4
  case hyat4 => (intro wq hSw; (try dsimp only at hSw); obtain ⟨e0, e1, f0, f1, f2, f3⟩ := hSw; go_simp <;> with_reducible rfl)
  try simp only [Act.put, List.getElem_toArray, List.getElem_cons_zero, List.getElem_cons_succ, List.setIfInBounds_toArray, List.set_cons_zero, List.set_cons_succ]
  refine wpAnyH_take (i := 5) (v := ?vaat5) rfl (by kernel_rfl) (by kernel_rfl) (by kernel_rfl) (fun _ _ _ h => h) (Or.inl ⟨by rfl, ?hyat5⟩) (by assumption) ?raat5
  case hyat5 => (intro wq hSw; (try dsimp only at hSw); obtain ⟨e0, e1, f0, f1, f2, f3⟩ := hSw; go_simp <;> with_reducible rfl)
  try simp only [Act.put, List.getElem_toArray, List.getElem_cons_zero, List.getElem_cons_succ, List.setIfInBounds_toArray, List.set_cons_zero, List.set_cons_succ]
  try simp only [WS.out]
  refine wpAnyH_take (i := 6) (v := ?vaat6) rfl (by kernel_rfl) (by kernel_rfl) (by kernel_rfl) (fun _ _ _ h => h) (Or.inl ⟨by rfl, ?hyat6⟩) (by assumption) ?raat6
  case hyat6 => (intro wq hSw; (try dsimp only at hSw); obtain ⟨e0, e1, f0, f1, f2, f3⟩ := hSw; go_simp <;> with_reducible rfl)
  try simp only [Act.put, List.getElem_toArray, List.getElem_cons_zero, List.getElem_cons_succ, List.setIfInBounds_toArray, List.set_cons_zero, List.set_cons_succ]
  refine wpAnyH_take (i := 7) (v := ?vaat7) rfl (by kernel_rfl) (by kernel_rfl) (by kernel_rfl) (fun _ _ _ h => h) (Or.inl ⟨by rfl, ?hyat7⟩) (by assumption) ?raat7
  case hyat7 => (intro wq hSw; (try dsimp only at hSw); obtain ⟨e0, e1, f0, f1, f2, f3⟩ := hSw; go_simp <;> with_reducible rfl)
  try simp only [Act.put, List.getElem_toArray, List.getElem_cons_zero, List.getElem_cons_succ, List.setIfInBounds_toArray, List.set_cons_zero, List.set_cons_succ]
  refine wpAnyH_take (i := 8) (v := ?vaat8) rfl (by kernel_rfl) (by kernel_rfl) (by kernel_rfl) (fun _ _ _ h => h) (Or.inl ⟨by rfl, ?hyat8⟩) (by assumption) ?raat8
  case hyat8 => (intro wq hSw; (try dsimp only at hSw); obtain ⟨e0, e1, f0, f1, f2, f3⟩ := hSw; go_simp <;> with_reducible rfl)
  try simp only [Act.put, List.getElem_toArray, List.getElem_cons_zero, List.getElem_cons_succ, List.setIfInBounds_toArray, List.set_cons_zero, List.set_cons_succ]
  refine wpAnyH_take (i := 9) (v := ?vaat9) rfl (by kernel_rfl) (by kernel_rfl) (by kernel_rfl) (fun _ _ _ h => h) (Or.inl ⟨by rfl, ?hyat9⟩) (by assumption) ?raat9
  case hyat9 => (intro wq hSw; (try dsimp only at hSw); obtain ⟨e0, e1, f0, f1, f2, f3⟩ := hSw; go_simp <;> with_reducible rfl)
  try simp only [Act.put, List.getElem_toArray, List.getElem_cons_zero, List.getElem_cons_succ, List.setIfInBounds_toArray, List.set_cons_zero, List.set_cons_succ]
  refine wpAnyH_take (i := 10) (v := ?vaat10) rfl (by kernel_rfl) (by kernel_rfl) (by kernel_rfl) (fun _ _ _ h => h) (Or.inl ⟨by rfl, ?hyat10⟩) (by assumption) ?raat10
  case hyat10 => (intro wq hSw; (try dsimp only at hSw); obtain ⟨e0, e1, f0, f1, f2, f3⟩ := hSw; go_simp <;> with_reducible rfl)
  try simp only [Act.put, List.getElem_toArray, List.getElem_cons_zero, List.getElem_cons_succ, List.setIfInBounds_toArray, List.set_cons_zero, List.set_cons_succ]
  refine wpAnyH_ready (rs := [11]) (by kernel_rfl) (by simp) ?_
  refine AllReadyH.cons rfl (fun K hK => ?_) AllReadyH.nil
  go_simp
  have B5a := hide (bt (al w4 (.cells #[.slice none 0 0, .slice none 0 0, .int .i64 0, .int .i64 0] 29)) (dr2 _))
  have T5a : Hid ((w4.alloc (.cells #[.slice none 0 0, .slice none 0 0, .int .i64 0, .int .i64 0] 29)).drew.heap[w4.heap.size]? = some (.cells #[.slice none 0 0, .slice none 0 0, .int .i64 0, .int .i64 0] 29 (0, 0))) := heap_alloc_new w4 (.cells #[.slice none 0 0, .slice none 0 0, .int .i64 0, .int .i64 0] 29)
  refine hK.out _ _ (SS.out _ B5a.out) (fun hHeld => ?_)
  clear hK K
  try simp only [Act.put, List.getElem_toArray, List.getElem_cons_zero, List.getElem_cons_succ, List.setIfInBounds_toArray, List.set_cons_zero, List.set_cons_succ]
  refine wpAnyH_ready (rs := [12]) (by kernel_rfl) (by simp) ?_
  refine AllReadyH.cons rfl (fun K hK => ?_) AllReadyH.nil
  rw [if_pos (by rfl)]
  have B5 := hide (below_row #[.slice tK tkey.length tcK, .slice tV tval.length tcV, .int .i64 tch, .int .i64 tsz] B5a.out (Nat.le_refl _))
  have T5 : Hid (((w4.alloc (.cells #[.slice none 0 0, .slice none 0 0, .int .i64 0, .int .i64 0] 29)).drew.setRow w4.heap.size #[.slice tK tkey.length tcK, .slice tV tval.length tcV, .int .i64 tch, .int .i64 tsz]).heap[w4.heap.size]? = some (.cells #[.slice tK tkey.length tcK, .slice tV tval.length tcV, .int .i64 tch, .int .i64 tsz] 29 (0, 0))) := setRow_heap _ _ _ _ _ _ T5a.out
  refine wp_store_row 29 _ _ rfl w4.heap.size _ rfl rfl 29 _ T5a.out sizeItem rfl (by simp [Value.oneCell']) ?_
  refine hK.out _ _ (SS.out _ B5.out) (fun hHeld => ?_)
  clear hK K
  try simp only [Act.put, List.getElem_toArray, List.getElem_cons_zero, List.getElem_cons_succ, List.setIfInBounds_toArray, List.set_cons_zero, List.set_cons_succ]
  refine wpAnyH_take (i := 13) (v := ?vaat13) rfl (by kernel_rfl) (by kernel_rfl) (by kernel_rfl) (fun _ _ _ h => h) (Or.inl ⟨by rfl, ?hyat13⟩) (by assumption) ?raat13
  case hyat13 => (intro wq hSw; (try dsimp only at hSw); obtain ⟨e0, e1, f0, f1, f2, f3⟩ := hSw; go_simp <;> with_reducible rfl)
  try simp only [Act.put, List.getElem_toArray, List.getElem_cons_zero, List.getElem_cons_succ, List.setIfInBounds_toArray, List.set_cons_zero, List.set_cons_succ]
  refine wpAnyH_done (by kernel_rfl) ?_ _
  clear hHeld T5a B5a
  generalize (w4.alloc (.cells #[.slice none 0 0, .slice none 0 0, .int .i64 0, .int .i64 0] 29)).drew.setRow w4.heap.size #[.slice tK tkey.length tcK, .slice tV tval.length tcV, .int .i64 tch, .int .i64 tsz] = w5 at *
  have hgR : gR < w.heap.size := block_lt_of_cell (JR.out w (Below.refl _ _)).1.1
  have hvw : v.heap.size ≤ w.heap.size := H0.out.b.size
  have hz5 : w4.heap.size < w5.heap.size := (Array.getElem?_eq_some_iff.1 T5.out).1
  obtain ⟨r0, r1, r2, r3, r4⟩ := cells5 (blk_keep BQ.out B5.out)
  have H5 := hide (((H0.out.keep B4.out).keep B5.out).keep (dr2 w5))
  have SS5 := hide fun (W : World) (hb : Below w5.heap.size w5 W) => (show W.cell? ⟨w4.heap.size, 0, none⟩ = some (.slice tK tkey.length tcK) ∧ W.cell? ⟨gR, 0, none⟩ = some (.slice hK hkey.length hcK) from ⟨(cells4 (blk_keep T5.out hb)).1, (JR.out W (bt (bt B4.out B5.out) hb)).1.1⟩)
  have D5 := hide (dr2 w5)
  clear JT JR SS D4 WS
  go_wp2_with fail
  clear r0 r1 r2 r3 r4
  refine wp_region_held_drew (S := fun W => W.cell? ⟨w4.heap.size, 0, none⟩ = some (.slice tK tkey.length tcK) ∧ W.cell? ⟨gR, 0, none⟩ = some (.slice hK hkey.length hcK)) (by kernel_rfl) (SS5.out _ D5.out) (fun hHeld => ?_)
  refine wpAnyH_take (i := 0) (v := ?vact0) rfl (by kernel_rfl) (by kernel_rfl) (by kernel_rfl) (fun _ _ _ h => h) (Or.inl ⟨by rfl, ?hyct0⟩) (by assumption) ?ract0
  case hyct0 => (intro wq hSw; (try dsimp only at hSw); obtain ⟨e0, e1⟩ := hSw; go_simp <;> with_reducible rfl)
  try simp only [Act.put, List.getElem_toArray, List.getElem_cons_zero, List.setIfInBounds_toArray, List.set_cons_zero, List.set_cons_succ]
  refine wpAnyH_take (i := 1) (v := ?vact1) rfl (by kernel_rfl) (by kernel_rfl) (by kernel_rfl) (fun _ _ _ h => h) (Or.inl ⟨by rfl, ?hyct1⟩) (by assumption) ?ract1
  case hyct1 => (intro wq hSw; (try dsimp only at hSw); obtain ⟨e0, e1⟩ := hSw; go_simp <;> with_reducible rfl)
  try simp only [Act.put, List.getElem_toArray, List.getElem_cons_zero, List.getElem_cons_succ, List.setIfInBounds_toArray, List.set_cons_zero, List.set_cons_succ]
  refine wpAnyH_take (i := 2) (v := ?vact2) rfl (by kernel_rfl) (by kernel_rfl) (by kernel_rfl) (fun _ _ _ h => h) (Or.inl ⟨by rfl, ?hyct2⟩) (by assumption) ?ract2
  case hyct2 => (intro wq hSw; (try dsimp only at hSw); obtain ⟨e0, e1⟩ := hSw; go_simp <;> with_reducible rfl)
  try simp only [Act.put, List.getElem_toArray, List.getElem_cons_zero, List.getElem_cons_succ, List.setIfInBounds_toArray, List.set_cons_zero, List.set_cons_succ]
  refine wpAnyH_take (i := 3) (v := ?vact3) rfl (by kernel_rfl) (by kernel_rfl) (by kernel_rfl) (fun _ _ _ h => h) (Or.inl ⟨by rfl, ?hyct3⟩) (by assumption) ?ract3
  case hyct3 => (intro wq hSw; (try dsimp only at hSw); obtain ⟨e0, e1⟩ := hSw; go_simp <;> with_reducible rfl)
  try simp only [Act.put, List.getElem_toArray, List.getElem_cons_zero, List.getElem_cons_succ, List.setIfInBounds_toArray, List.set_cons_zero, List.set_cons_succ]
  refine wpAnyH_take (i := 4) (v := ?vact4) rfl (by kernel_rfl) (by kernel_rfl) (by kernel_rfl) (fun _ _ _ h => h) (Or.inl ⟨by rfl, ?hyct4⟩) (by assumption) ?ract4
  case hyct4 => (intro wq hSw; (try dsimp only at hSw); obtain ⟨e0, e1⟩ := hSw; go_simp <;> with_reducible rfl)
  try simp only [Act.put, List.getElem_toArray, List.getElem_cons_zero, List.getElem_cons_succ, List.setIfInBounds_toArray, List.set_cons_zero, List.set_cons_succ]
  refine wpAnyH_take (i := 5) (v := ?vact5) rfl (by kernel_rfl) (by kernel_rfl) (by kernel_rfl) (fun _ _ _ h => h) (Or.inl ⟨by rfl, ?hyct5⟩) (by assumption) ?ract5
  case hyct5 => (intro wq hSw; (try dsimp only at hSw); obtain ⟨e0, e1⟩ := hSw; go_simp <;> with_reducible rfl)
  try simp only [Act.put, List.getElem_toArray, List.getElem_cons_zero, List.getElem_cons_succ, List.setIfInBounds_toArray, List.set_cons_zero, List.set_cons_succ]
  refine wpAnyH_ready (rs := [6]) (by kernel_rfl) (by simp) ?_
  refine AllReadyH.cons rfl (fun K hK => ?_) AllReadyH.nil
  go_simp
  refine (BT.out _ (bt (bt B4.out B5.out) D5.out)).mono ?_
  rintro _ w6 ⟨aS, cS, rfl, hO⟩
  have O6 := hide hO
  have B6 := hide (bt D5.out hO.b)
  clear hO
  go_wp2_with fail
  refine hK.out _ _ (SS5.out _ B6.out) (fun hHeld => ?_)
  clear hK K
  try simp only [Act.put, List.getElem_toArray, List.getElem_cons_zero, List.getElem_cons_succ, List.setIfInBounds_toArray, List.set_cons_zero, List.set_cons_succ]
  refine wpAnyH_take (i := 7) (v := ?vact7) rfl (by kernel_rfl) (by kernel_rfl) (by kernel_rfl) (fun _ _ _ h => h) (Or.inl ⟨by rfl, ?hyct7⟩) (by assumption) ?ract7
  case hyct7 => (intro wq hSw; (try dsimp only at hSw); obtain ⟨e0, e1⟩ := hSw; go_simp <;> with_reducible rfl)
  try simp only [Act.put, List.getElem_toArray, List.getElem_cons_zero, List.getElem_cons_succ, List.setIfInBounds_toArray, List.set_cons_zero, List.set_cons_succ]
  refine wpAnyH_take (i := 8) (v := ?vact8) rfl (by kernel_rfl) (by kernel_rfl) (by kernel_rfl) (fun _ _ _ h => h) (Or.inl ⟨by rfl, ?hyct8⟩) (by assumption) ?ract8
  case hyct8 => (intro wq hSw; (try dsimp only at hSw); obtain ⟨e0, e1⟩ := hSw; go_simp <;> with_reducible rfl)
  try simp only [Act.put, List.getElem_toArray, List.getElem_cons_zero, List.getElem_cons_succ, List.setIfInBounds_toArray, List.set_cons_zero, List.set_cons_succ]
  refine wpAnyH_take (i := 9) (v := ?vact9) rfl (by kernel_rfl) (by kernel_rfl) (by kernel_rfl) (fun _ _ _ h => h) (Or.inl ⟨by rfl, ?hyct9⟩) (by assumption) ?ract9
  case hyct9 => (intro wq hSw; (try dsimp only at hSw); obtain ⟨e0, e1⟩ := hSw; go_simp <;> with_reducible rfl)
  try simp only [Act.put, List.getElem_toArray, List.getElem_cons_zero, List.getElem_cons_succ, List.setIfInBounds_toArray, List.set_cons_zero, List.set_cons_succ]
  refine wpAnyH_take (i := 10) (v := ?vact10) rfl (by kernel_rfl) (by kernel_rfl) (by kernel_rfl) (fun _ _ _ h => h) (Or.inl ⟨by rfl, ?hyct10⟩) (by assumption) ?ract10
  case hyct10 => (intro wq hSw; (try dsimp only at hSw); obtain ⟨e0, e1⟩ := hSw; go_simp <;> with_reducible rfl)
  try simp only [Act.put, List.getElem_toArray, List.getElem_cons_zero, List.getElem_cons_succ, List.setIfInBounds_toArray, List.set_cons_zero, List.set_cons_succ]
  refine wpAnyH_take (i := 11) (v := ?vact11) rfl (by kernel_rfl) (by kernel_rfl) (by kernel_rfl) (fun _ _ _ h => h) (Or.inl ⟨by rfl, ?hyct11⟩) (by assumption) ?ract11
  case hyct11 => (intro wq hSw; (try dsimp only at hSw); obtain ⟨e0, e1⟩ := hSw; go_simp <;> with_reducible rfl)
  try simp only [Act.put, List.getElem_toArray, List.getElem_cons_zero, List.getElem_cons_succ, List.setIfInBounds_toArray, List.set_cons_zero, List.set_cons_succ]
  refine wpAnyH_done (by kernel_rfl) ?_ _
  clear hHeld SS5
  have BP6 := hide (blk_keep (blk_keep BP.out B5.out) B6.out)
  have BQ6 := hide (blk_keep (blk_keep BQ.out B5.out) B6.out)
  have BR61 := hide (blk_keep (blk_keep BR1.out B5.out) B6.out)
  have BR62 := hide (blk_keep (blk_keep BR2.out B5.out) B6.out)
  have b8 : B8 (between tkey hkey).1 := between_b8 IT.out.bk.1 IX.out.bk.1
  have H6 := hide (H5.out.sep O6.out b8)
  clear b8 O6 H5
  go_wp2_with fail
  have HW := hide (fun (cs1 cs2 : Array Value) => (show Hq v ((w6.drew.setRow (w.heap.size + 2) cs1).setRow (w.heap.size + 3) cs2) ⟨kind, level, some ⟨gL, 0, none⟩, cI, L, aD, cD, data, next⟩ ⟨kind2, level2, some ⟨gR, 0, none⟩, cI2, ⟨hK, hcK, hkey, hV, hcV, hval, hch, hsz⟩ :: R, aD2, cD2, data2, next2⟩ aS cS (between tkey hkey).1 from by
    have b1 := but_setRow w6.drew (w.heap.size + 2) cs1
    have h1 := (H6.out.keep (dr2 w6)).but b1 (fun k hk => ⟨_, _, by subst hk; exact BR61.out, by decide, by decide⟩) (below_row _ (H6.out.keep (dr2 w6)).b (by omega))
    exact h1.but (but_setRow _ (w.heap.size + 3) cs2) (fun k hk => ⟨_, _, by subst hk; exact row_far _ BR62.out (by omega), by decide, by decide⟩) (below_row _ h1.b (by omega))))
  have SS6 := hide (show (fun W : World => (W.cell? ⟨w.heap.size, 0, none⟩ = some (.int .i64 kind) ∧ W.cell? ⟨w.heap.size, 1, none⟩ = some (.int .i64 level) ∧ W.cell? ⟨w.heap.size, 2, none⟩ = some (.slice (some ⟨gL, 0, none⟩) (m + 1) cI) ∧ W.cell? ⟨w.heap.size, 3, none⟩ = some (.slice aD data.length cD) ∧ W.cell? ⟨w.heap.size, 4, none⟩ = some (.int .i64 next)) ∧ (W.cell? ⟨w.heap.size + 1, 0, none⟩ = some (.int .i64 kind2) ∧ W.cell? ⟨w.heap.size + 1, 1, none⟩ = some (.int .i64 level2) ∧ W.cell? ⟨w.heap.size + 1, 2, none⟩ = some (.slice (some ⟨gR, 0, none⟩) m2 cI2) ∧ W.cell? ⟨w.heap.size + 1, 3, none⟩ = some (.slice aD2 data2.length cD2) ∧ W.cell? ⟨w.heap.size + 1, 4, none⟩ = some (.int .i64 next2))) w6.drew from ⟨cells5 BP6.out, cells5 BQ6.out⟩)
  refine wp_region_held_drew (S := fun W => (W.cell? ⟨w.heap.size, 0, none⟩ = some (.int .i64 kind) ∧ W.cell? ⟨w.heap.size, 1, none⟩ = some (.int .i64 level) ∧ W.cell? ⟨w.heap.size, 2, none⟩ = some (.slice (some ⟨gL, 0, none⟩) (m + 1) cI) ∧ W.cell? ⟨w.heap.size, 3, none⟩ = some (.slice aD data.length cD) ∧ W.cell? ⟨w.heap.size, 4, none⟩ = some (.int .i64 next)) ∧ (W.cell? ⟨w.heap.size + 1, 0, none⟩ = some (.int .i64 kind2) ∧ W.cell? ⟨w.heap.size + 1, 1, none⟩ = some (.int .i64 level2) ∧ W.cell? ⟨w.heap.size + 1, 2, none⟩ = some (.slice (some ⟨gR, 0, none⟩) m2 cI2) ∧ W.cell? ⟨w.heap.size + 1, 3, none⟩ = some (.slice aD2 data2.length cD2) ∧ W.cell? ⟨w.heap.size + 1, 4, none⟩ = some (.int .i64 next2))) (by kernel_rfl) (SS6.out) (fun hHeld => ?_)
  refine wpAnyH_take (i := 0) (v := ?vad0) rfl (by kernel_rfl) (by kernel_rfl) (by kernel_rfl) (fun _ _ _ h => h) (Or.inl ⟨by rfl, ?hyd0⟩) (by assumption) ?rad0
  case hyd0 => (intro wq hSw; (try dsimp only at hSw); obtain ⟨⟨e0, e1, e2, e3, e4⟩, g0, g1, g2, g3, g4⟩ := hSw; go_simp <;> with_reducible rfl)
  try simp only [Act.put, List.getElem_toArray, List.getElem_cons_zero, List.setIfInBounds_toArray, List.set_cons_zero, List.set_cons_succ]
  refine wpAnyH_take (i := 1) (v := ?vad1) rfl (by kernel_rfl) (by kernel_rfl) (by kernel_rfl) (fun _ _ _ h => h) (Or.inl ⟨by rfl, ?hyd1⟩) (by assumption) ?rad1
  case hyd1 => (intro wq hSw; (try dsimp only at hSw); obtain ⟨⟨e0, e1, e2, e3, e4⟩, g0, g1, g2, g3, g4⟩ := hSw; go_simp <;> with_reducible rfl)
  try simp only [Act.put, List.getElem_toArray, List.getElem_cons_zero, List.getElem_cons_succ, List.setIfInBounds_toArray, List.set_cons_zero, List.set_cons_succ]
  refine wpAnyH_take (i := 2) (v := ?vad2) rfl (by kernel_rfl) (by kernel_rfl) (by kernel_rfl) (fun _ _ _ h => h) (Or.inl ⟨by rfl, ?hyd2⟩) (by assumption) ?rad2
  case hyd2 => (intro wq hSw; (try dsimp only at hSw); obtain ⟨⟨e0, e1, e2, e3, e4⟩, g0, g1, g2, g3, g4⟩ := hSw; go_simp <;> with_reducible rfl)
  try simp only [Act.put, List.getElem_toArray, List.getElem_cons_zero, List.getElem_cons_succ, List.setIfInBounds_toArray, List.set_cons_zero, List.set_cons_succ]
  have BX1 := hide (setRow_heap w6.drew (w.heap.size + 2) _ #[.int .i64 kind, .int .i64 level, .slice (some ⟨gL, 0, none⟩) (m + 1) cI, .slice aD data.length cD, .int .i64 next] _ _ BR61.out)
  have BX2 := hide (row_far (W := w6.drew) (g := w.heap.size + 2) #[.int .i64 kind, .int .i64 level, .slice (some ⟨gL, 0, none⟩) (m + 1) cI, .slice aD data.length cD, .int .i64 next] BR62.out (by omega))
  refine wpAnyH_ready (rs := [3]) (by kernel_rfl) (by simp) ?_
  refine AllReadyH.cons rfl (fun K hK => ?_) AllReadyH.nil
  rw [if_pos (by rfl)]
  refine wp_store_row 25 _ _ rfl (w.heap.size + 2) _ rfl rfl 25 _ BR61.out sizePage rfl (by simp [Value.oneCell']) ?_
  refine hK.out _ _ ⟨cells5 (row_far _ BP6.out (by omega)), cells5 (row_far _ BQ6.out (by omega))⟩ (fun hHeld => ?_)
  clear hK K
  try simp only [Act.put, List.getElem_toArray, List.getElem_cons_zero, List.getElem_cons_succ, List.setIfInBounds_toArray, List.set_cons_zero, List.set_cons_succ]
  have BY1 := hide (row_far (g := w.heap.size + 3) #[.int .i64 kind2, .int .i64 level2, .slice (some ⟨gR, 0, none⟩) m2 cI2, .slice aD2 data2.length cD2, .int .i64 next2] BX1.out (by omega))
  have BY2 := hide (setRow_heap _ (w.heap.size + 3) _ #[.int .i64 kind2, .int .i64 level2, .slice (some ⟨gR, 0, none⟩) m2 cI2, .slice aD2 data2.length cD2, .int .i64 next2] _ _ BX2.out)
  refine wpAnyH_ready (rs := [4]) (by kernel_rfl) (by simp) ?_
  refine AllReadyH.cons rfl (fun K hK => ?_) AllReadyH.nil
  rw [if_pos (by rfl)]
  refine wp_store_row 25 _ _ rfl (w.heap.size + 3) _ rfl rfl 25 _ BX2.out sizePage rfl (by simp [Value.oneCell']) ?_
  refine hK.out _ _ ⟨cells5 (row_far _ (row_far _ BP6.out (by omega)) (by omega)), cells5 (row_far _ (row_far _ BQ6.out (by omega)) (by omega))⟩ (fun hHeld => ?_)
  clear hK K
  try simp only [Act.put, List.getElem_toArray, List.getElem_cons_zero, List.getElem_cons_succ, List.setIfInBounds_toArray, List.set_cons_zero, List.set_cons_succ]
  refine wpAnyH_take (i := 5) (v := ?vad5) rfl (by kernel_rfl) (by kernel_rfl) (by kernel_rfl) (fun _ _ _ h => h) (Or.inl ⟨by rfl, ?hyd5⟩) (by assumption) ?rad5
  case hyd5 => (intro wq hSw; (try dsimp only at hSw); obtain ⟨⟨e0, e1, e2, e3, e4⟩, g0, g1, g2, g3, g4⟩ := hSw; go_simp <;> with_reducible rfl)
  try simp only [Act.put, List.getElem_toArray, List.getElem_cons_zero, List.getElem_cons_succ, List.setIfInBounds_toArray, List.set_cons_zero, List.set_cons_succ]
  refine wpAnyH_take (i := 6) (v := ?vad6) rfl (by kernel_rfl) (by kernel_rfl) (by kernel_rfl) (fun _ _ _ h => h) (Or.inl ⟨by rfl, ?hyd6⟩) (by assumption) ?rad6
  case hyd6 => (intro wq hSw; (try dsimp only at hSw); obtain ⟨⟨e0, e1, e2, e3, e4⟩, g0, g1, g2, g3, g4⟩ := hSw; go_simp <;> with_reducible rfl)
  try simp only [Act.put, List.getElem_toArray, List.getElem_cons_zero, List.getElem_cons_succ, List.setIfInBounds_toArray, List.set_cons_zero, List.set_cons_succ]
  refine wpAnyH_done (by kernel_rfl) ?_ _
  clear hHeld SS6
  go_wp2_with fail
  refine bodyPost_ret (v := .tuple #[.agg _, .agg _, _, _]) (results_cells Try.results27 _ _ (w.heap.size + 2) (w.heap.size + 3) 25 25 _ _ (0, 0) (0, 0) _ rfl BY1.out rfl BY2.out Try.underlying25 rfl sizePage sizePage) rfl ?_
  exact ⟨⟨kind, level, some ⟨gL, 0, none⟩, cI, L, aD, cD, data, next⟩, ⟨kind2, level2, some ⟨gR, 0, none⟩, cI2, ⟨hK, hcK, hkey, hV, hcV, hval, hch, hsz⟩ :: R, aD2, cD2, data2, next2⟩, aS, cS, by simp only [HM.out, List.length_cons]; rw [show R.length + 1 = m2 from HM2.out]; rfl, HW.out _ _, rfl, rfl⟩
set_option maxHeartbeats 16000000 in
set_option maxRecDepth 8000 in
theorem parted_leaf_no (v w : World) (l r : Pv) (h : Hq v w l r none 0 []) (h1 : 0 < l.items.length) (h2 : 0 < r.items.length) (hl1 : l.items.length ≤ 2199023255520) (hl2 : r.items.length ≤ 2199023255520) (hk : r.kind ≠ 2) (hbt : (between (l.pg.at (l.pg.items.length - 1)).key (r.pg.at 0).key).2 = false) :
    Calls Try.prog 27 #[l.vl, r.vl] w fun e w' => ∃ (q1 q2 : Pv) (a : Option Addr) (c : Nat), e = .returned (.tuple #[q1.vl, q2.vl, .slice a (prt l.pg r.pg).s.length c, .bool (prt l.pg r.pg).ok]) ∧ Hq v w' q1 q2 a c (prt l.pg r.pg).s ∧ q1.pg = (prt l.pg r.pg).l ∧ q2.pg = (prt l.pg r.pg).r := by
  have PL := hide (h.p1.pi hl1)
  have PR := hide (h.p2.pi hl2)
  obtain ⟨kind, level, aI, cI, L, aD, cD, data, next⟩ := l
  obtain ⟨kind2, level2, aI2, cI2, L2, aD2, cD2, data2, next2⟩ := r
  obtain ⟨gL, eL, -, -⟩ := h.j1.addr h1
  obtain ⟨gR, eR, -, -⟩ := h.j2.addr h2
  simp only at eL eR h1 h2 hl1 hl2 hk
  subst eL eR
  cases L2 with
  | nil => simp at h2
  | cons X R =>
  obtain ⟨m, hm⟩ : ∃ m, L.length = m + 1 := ⟨L.length - 1, by omega⟩
  have HM := hide hm
  have hmL : m < L.length := by omega
  have IT := hide (PL.out.it.1 _ (getD_memR hmL))
  have IX := hide (PR.out.it.1 X List.mem_cons_self)
  have H0 := hide h
  have PE : Hid ((Pg.at (Pv.pg ⟨kind, level, some ⟨gL, 0, none⟩, cI, L, aD, cD, data, next⟩) ((Pv.pg ⟨kind, level, some ⟨gL, 0, none⟩, cI, L, aD, cD, data, next⟩).items.length - 1)) = (L.getD m Iv.zero).it) := by
    show _ = _
    rw [Pv.at, show (Pv.pg ⟨kind, level, some ⟨gL, 0, none⟩, cI, L, aD, cD, data, next⟩).items.length - 1 = m from by show (L.map Iv.it).length - 1 = m; rw [List.length_map, hm]; rfl]
  have PF : Hid (Pg.at (Pv.pg ⟨kind2, level2, some ⟨gR, 0, none⟩, cI2, X :: R, aD2, cD2, data2, next2⟩) 0 = X.it) := rfl
  unfold Pv.vl
  simp only [Pv.cs]
  obtain ⟨m2, hm2⟩ : ∃ m2, (X :: R).length = m2 := ⟨_, rfl⟩
  have HM2 := hide hm2
  rw [hm, hm2]
  have hm2p : 0 < m2 := by rw [← hm2]; exact h2
  have hm2l : m2 ≤ 2199023255520 := by rw [← hm2]; exact hl2
  have hml : m + 1 ≤ 2199023255520 := by rw [← hm]; exact hl1
  have hm2I : (0 : Int) < (m2 : Int) := by omega
  have JT := hide fun (W : World) (hb : Below w.heap.size w W) => (h.j1.keep hb).item4 hmL
  have JR := hide fun (W : World) (hb : Below w.heap.size w W) => (h.j2.keep hb).item4 (k := 0) (by simp)
  clear h h1 h2 hm hm2 hmL
  generalize L.getD m Iv.zero = T at *
  obtain ⟨tK, tcK, tkey, tV, tcV, tval, tch, tsz⟩ := T
  obtain ⟨hK, hcK, hkey, hV, hcV, hval, hch, hsz⟩ := X
  simp only [List.getD_cons_zero, Nat.zero_mul, Nat.zero_add] at JT JR
  have hgL := (JT.out w (Below.refl _ _)).1.1
  have U4 := hide (four_blocks w (.cells #[.int .i64 kind, .int .i64 level, .slice (some ⟨gL, 0, none⟩) (m + 1) cI, .slice aD data.length cD, .int .i64 next] 25) (.cells #[.int .i64 kind2, .int .i64 level2, .slice (some ⟨gR, 0, none⟩) m2 cI2, .slice aD2 data2.length cD2, .int .i64 next2] 25) (.cells #[.int .i64 0, .int .i64 0, .slice none 0 0, .slice none 0 0, .int .i64 0] 25) (.cells #[.int .i64 0, .int .i64 0, .slice none 0 0, .slice none 0 0, .int .i64 0] 25))
  clear hgL
  have hkf : (kind2 == 2) = false := by simpa using hk
  rw [PE.out, PF.out] at hbt
  replace hbt : (between tkey hkey).2 = false := hbt
  have PRT : Hid (prt (Pv.pg ⟨kind, level, some ⟨gL, 0, none⟩, cI, L, aD, cD, data, next⟩) (Pv.pg ⟨kind2, level2, some ⟨gR, 0, none⟩, cI2, ⟨hK, hcK, hkey, hV, hcV, hval, hch, hsz⟩ :: R, aD2, cD2, data2, next2⟩) = Hv.none) := by
    show _ = _
    unfold prt
    rw [if_neg (show ¬ (Pv.pg ⟨kind2, level2, some ⟨gR, 0, none⟩, cI2, ⟨hK, hcK, hkey, hV, hcV, hval, hch, hsz⟩ :: R, aD2, cD2, data2, next2⟩).kind = 2 from hk), PE.out, PF.out]
    show (if (between tkey hkey).2 = true then _ else _) = _
    rw [hbt]
    rfl
  rw [PRT.out]
  have BT := hide fun (W : World) (hb : Below w.heap.size w W) => Between_any W tK hK tkey.length tcK hkey.length hcK tkey hkey (IT.out.bk.keep hb) (IX.out.bk.keep hb) rfl rfl IT.out.ck
  rw [hbt] at BT
  clear hbt PRT PE PF hk
  go_enter Try.func27, Try.ntmps27
  go_wp2_with fail
  have BP := hide U4.out.1
  have BQ := hide U4.out.2.1
  have BR1 := hide U4.out.2.2.1
  have BR2 := hide U4.out.2.2.2.1
  have B4 := hide U4.out.2.2.2.2
  clear U4
  generalize ((((w.alloc (.cells #[.int .i64 kind, .int .i64 level, .slice (some ⟨gL, 0, none⟩) (m + 1) cI, .slice aD data.length cD, .int .i64 next] 25)).alloc (.cells #[.int .i64 kind2, .int .i64 level2, .slice (some ⟨gR, 0, none⟩) m2 cI2, .slice aD2 data2.length cD2, .int .i64 next2] 25)).alloc (.cells #[.int .i64 0, .int .i64 0, .slice none 0 0, .slice none 0 0, .int .i64 0] 25)).alloc (.cells #[.int .i64 0, .int .i64 0, .slice none 0 0, .slice none 0 0, .int .i64 0] 25)) = w4 at *
  have hz4 : w.heap.size + 3 < w4.heap.size := (Array.getElem?_eq_some_iff.1 BR2.out).1
  have SS := hide fun (W : World) (hb : Below w4.heap.size w4 W) => (show W.cell? ⟨w.heap.size, 2, none⟩ = some (.slice (some ⟨gL, 0, none⟩) (m + 1) cI) ∧ W.cell? ⟨w.heap.size + 1, 2, none⟩ = some (.slice (some ⟨gR, 0, none⟩) m2 cI2) ∧ (W.cell? ⟨gL, m * 4, none⟩ = some (.slice tK tkey.length tcK) ∧ W.cell? ⟨gL, m * 4 + 1, none⟩ = some (.slice tV tval.length tcV) ∧ W.cell? ⟨gL, m * 4 + 2, none⟩ = some (.int .i64 tch) ∧ W.cell? ⟨gL, m * 4 + 3, none⟩ = some (.int .i64 tsz)) from ⟨(cells5 (blk_keep BP.out hb)).2.2.1, (cells5 (blk_keep BQ.out hb)).2.2.1, (JT.out W (bt B4.out hb)).1⟩)
  have D4 := hide (dr2 w4)
  have WS : Hid (IntKind.i64.wrap (m : Int) = (m : Int)) := wrapI (by omega) (by omega)
  have hm0 : (0 : Int) ≤ (m : Int) := by omega
  have hmm : (m : Int) < (m : Int) + 1 := by omega
  refine wp_region_held_drew (S := fun W => W.cell? ⟨w.heap.size, 2, none⟩ = some (.slice (some ⟨gL, 0, none⟩) (m + 1) cI) ∧ W.cell? ⟨w.heap.size + 1, 2, none⟩ = some (.slice (some ⟨gR, 0, none⟩) m2 cI2) ∧ (W.cell? ⟨gL, m * 4, none⟩ = some (.slice tK tkey.length tcK) ∧ W.cell? ⟨gL, m * 4 + 1, none⟩ = some (.slice tV tval.length tcV) ∧ W.cell? ⟨gL, m * 4 + 2, none⟩ = some (.int .i64 tch) ∧ W.cell? ⟨gL, m * 4 + 3, none⟩ = some (.int .i64 tsz))) (by kernel_rfl) (SS.out _ D4.out) (fun hHeld => ?_)
  refine wpAnyH_take (i := 0) (v := ?vaaf0) rfl (by kernel_rfl) (by kernel_rfl) (by kernel_rfl) (fun _ _ _ h => h) (Or.inl ⟨by rfl, ?hyaf0⟩) (by assumption) ?raaf0
  case hyaf0 => (intro wq hSw; (try dsimp only at hSw); obtain ⟨e0, e1, f0, f1, f2, f3⟩ := hSw; go_simp <;> with_reducible rfl)
  try simp only [Act.put, List.getElem_toArray, List.getElem_cons_zero, List.setIfInBounds_toArray, List.set_cons_zero, List.set_cons_succ]
  refine wpAnyH_take (i := 1) (v := ?vaaf1) rfl (by kernel_rfl) (by kernel_rfl) (by kernel_rfl) (fun _ _ _ h => h) (Or.inl ⟨by rfl, ?hyaf1⟩) (by assumption) ?raaf1
  case hyaf1 => (intro wq hSw; (try dsimp only at hSw); obtain ⟨e0, e1, f0, f1, f2, f3⟩ := hSw; go_simp <;> with_reducible rfl)
  try simp only [Act.put, List.getElem_toArray, List.getElem_cons_zero, List.getElem_cons_succ, List.setIfInBounds_toArray, List.set_cons_zero, List.set_cons_succ]
  refine wpAnyH_take (i := 2) (v := ?vaaf2) rfl (by kernel_rfl) (by kernel_rfl) (by kernel_rfl) (fun _ _ _ h => h) (Or.inl ⟨by rfl, ?hyaf2⟩) (by assumption) ?raaf2
  case hyaf2 => (intro wq hSw; (try dsimp only at hSw); obtain ⟨e0, e1, f0, f1, f2, f3⟩ := hSw; go_simp <;> with_reducible rfl)
  try simp only [Act.put, List.getElem_toArray, List.getElem_cons_zero, List.getElem_cons_succ, List.setIfInBounds_toArray, List.set_cons_zero, List.set_cons_succ]
  refine wpAnyH_take (i := 3) (v := ?vaaf3) rfl (by kernel_rfl) (by kernel_rfl) (by kernel_rfl) (fun _ _ _ h => h) (Or.inl ⟨by rfl, ?hyaf3⟩) (by assumption) ?raaf3
  case hyaf3 => (intro wq hSw; (try dsimp only at hSw); obtain ⟨e0, e1, f0, f1, f2, f3⟩ := hSw; go_simp <;> with_reducible rfl)
  try simp only [Act.put, List.getElem_toArray, List.getElem_cons_zero, List.getElem_cons_succ, List.setIfInBounds_toArray, List.set_cons_zero, List.set_cons_succ]
  refine wpAnyH_take (i := 4) (v := ?vaaf4) rfl (by kernel_rfl) (by kernel_rfl) (by kernel_rfl) (fun _ _ _ h => h) (Or.inl ⟨by rfl, ?hyaf4⟩) (by assumption) ?raaf4
  case hyaf4 => (intro wq hSw; (try dsimp only at hSw); obtain ⟨e0, e1, f0, f1, f2, f3⟩ := hSw; go_simp <;> with_reducible rfl)
  try simp only [Act.put, List.getElem_toArray, List.getElem_cons_zero, List.getElem_cons_succ, List.setIfInBounds_toArray, List.set_cons_zero, List.set_cons_succ]
  refine wpAnyH_take (i := 5) (v := ?vaaf5) rfl (by kernel_rfl) (by kernel_rfl) (by kernel_rfl) (fun _ _ _ h => h) (Or.inl ⟨by rfl, ?hyaf5⟩) (by assumption) ?raaf5
  case hyaf5 => (intro wq hSw; (try dsimp only at hSw); obtain ⟨e0, e1, f0, f1, f2, f3⟩ := hSw; go_simp <;> with_reducible rfl)
  try simp only [Act.put, List.getElem_toArray, List.getElem_cons_zero, List.getElem_cons_succ, List.setIfInBounds_toArray, List.set_cons_zero, List.set_cons_succ]
  try simp only [WS.out]
  refine wpAnyH_take (i := 6) (v := ?vaaf6) rfl (by kernel_rfl) (by kernel_rfl) (by kernel_rfl) (fun _ _ _ h => h) (Or.inl ⟨by rfl, ?hyaf6⟩) (by assumption) ?raaf6
  case hyaf6 => (intro wq hSw; (try dsimp only at hSw); obtain ⟨e0, e1, f0, f1, f2, f3⟩ := hSw; go_simp <;> with_reducible rfl)
  try simp only [Act.put, List.getElem_toArray, List.getElem_cons_zero, List.getElem_cons_succ, List.setIfInBounds_toArray, List.set_cons_zero, List.set_cons_succ]
  refine wpAnyH_take (i := 7) (v := ?vaaf7) rfl (by kernel_rfl) (by kernel_rfl) (by kernel_rfl) (fun _ _ _ h => h) (Or.inl ⟨by rfl, ?hyaf7⟩) (by assumption) ?raaf7
  case hyaf7 => (intro wq hSw; (try dsimp only at hSw); obtain ⟨e0, e1, f0, f1, f2, f3⟩ := hSw; go_simp <;> with_reducible rfl)
  try simp only [Act.put, List.getElem_toArray, List.getElem_cons_zero, List.getElem_cons_succ, List.setIfInBounds_toArray, List.set_cons_zero, List.set_cons_succ]
  refine wpAnyH_take (i := 8) (v := ?vaaf8) rfl (by kernel_rfl) (by kernel_rfl) (by kernel_rfl) (fun _ _ _ h => h) (Or.inl ⟨by rfl, ?hyaf8⟩) (by assumption) ?raaf8
  case hyaf8 => (intro wq hSw; (try dsimp only at hSw); obtain ⟨e0, e1, f0, f1, f2, f3⟩ := hSw; go_simp <;> with_reducible rfl)
  try simp only [Act.put, List.getElem_toArray, List.getElem_cons_zero, List.getElem_cons_succ, List.setIfInBounds_toArray, List.set_cons_zero, List.set_cons_succ]
  refine wpAnyH_take (i := 9) (v := ?vaaf9) rfl (by kernel_rfl) (by kernel_rfl) (by kernel_rfl) (fun _ _ _ h => h) (Or.inl ⟨by rfl, ?hyaf9⟩) (by assumption) ?raaf9
  case hyaf9 => (intro wq hSw; (try dsimp only at hSw); obtain ⟨e0, e1, f0, f1, f2, f3⟩ := hSw; go_simp <;> with_reducible rfl)
  try simp only [Act.put, List.getElem_toArray, List.getElem_cons_zero, List.getElem_cons_succ, List.setIfInBounds_toArray, List.set_cons_zero, List.set_cons_succ]
  refine wpAnyH_take (i := 10) (v := ?vaaf10) rfl (by kernel_rfl) (by kernel_rfl) (by kernel_rfl) (fun _ _ _ h => h) (Or.inl ⟨by rfl, ?hyaf10⟩) (by assumption) ?raaf10
  case hyaf10 => (intro wq hSw; (try dsimp only at hSw); obtain ⟨e0, e1, f0, f1, f2, f3⟩ := hSw; go_simp <;> with_reducible rfl)
  try simp only [Act.put, List.getElem_toArray, List.getElem_cons_zero, List.getElem_cons_succ, List.setIfInBounds_toArray, List.set_cons_zero, List.set_cons_succ]
  refine wpAnyH_ready (rs := [11]) (by kernel_rfl) (by simp) ?_
  refine AllReadyH.cons rfl (fun K hK => ?_) AllReadyH.nil
  go_simp
  have B5a := hide (bt (al w4 (.cells #[.slice none 0 0, .slice none 0 0, .int .i64 0, .int .i64 0] 29)) (dr2 _))
  have T5a : Hid ((w4.alloc (.cells #[.slice none 0 0, .slice none 0 0, .int .i64 0, .int .i64 0] 29)).drew.heap[w4.heap.size]? = some (.cells #[.slice none 0 0, .slice none 0 0, .int .i64 0, .int .i64 0] 29 (0, 0))) := heap_alloc_new w4 (.cells #[.slice none 0 0, .slice none 0 0, .int .i64 0, .int .i64 0] 29)
  refine hK.out _ _ (SS.out _ B5a.out) (fun hHeld => ?_)
  clear hK K
  try simp only [Act.put, List.getElem_toArray, List.getElem_cons_zero, List.getElem_cons_succ, List.setIfInBounds_toArray, List.set_cons_zero, List.set_cons_succ]
  refine wpAnyH_ready (rs := [12]) (by kernel_rfl) (by simp) ?_
  refine AllReadyH.cons rfl (fun K hK => ?_) AllReadyH.nil
  rw [if_pos (by rfl)]
  have B5 := hide (below_row #[.slice tK tkey.length tcK, .slice tV tval.length tcV, .int .i64 tch, .int .i64 tsz] B5a.out (Nat.le_refl _))
  have T5 : Hid (((w4.alloc (.cells #[.slice none 0 0, .slice none 0 0, .int .i64 0, .int .i64 0] 29)).drew.setRow w4.heap.size #[.slice tK tkey.length tcK, .slice tV tval.length tcV, .int .i64 tch, .int .i64 tsz]).heap[w4.heap.size]? = some (.cells #[.slice tK tkey.length tcK, .slice tV tval.length tcV, .int .i64 tch, .int .i64 tsz] 29 (0, 0))) := setRow_heap _ _ _ _ _ _ T5a.out
  refine wp_store_row 29 _ _ rfl w4.heap.size _ rfl rfl 29 _ T5a.out sizeItem rfl (by simp [Value.oneCell']) ?_
  refine hK.out _ _ (SS.out _ B5.out) (fun hHeld => ?_)
  clear hK K
  try simp only [Act.put, List.getElem_toArray, List.getElem_cons_zero, List.getElem_cons_succ, List.setIfInBounds_toArray, List.set_cons_zero, List.set_cons_succ]
  refine wpAnyH_take (i := 13) (v := ?vaaf13) rfl (by kernel_rfl) (by kernel_rfl) (by kernel_rfl) (fun _ _ _ h => h) (Or.inl ⟨by rfl, ?hyaf13⟩) (by assumption) ?raaf13
  case hyaf13 => (intro wq hSw; (try dsimp only at hSw); obtain ⟨e0, e1, f0, f1, f2, f3⟩ := hSw; go_simp <;> with_reducible rfl)
  try simp only [Act.put, List.getElem_toArray, List.getElem_cons_zero, List.getElem_cons_succ, List.setIfInBounds_toArray, List.set_cons_zero, List.set_cons_succ]
  refine wpAnyH_done (by kernel_rfl) ?_ _
  clear hHeld T5a B5a
  generalize (w4.alloc (.cells #[.slice none 0 0, .slice none 0 0, .int .i64 0, .int .i64 0] 29)).drew.setRow w4.heap.size #[.slice tK tkey.length tcK, .slice tV tval.length tcV, .int .i64 tch, .int .i64 tsz] = w5 at *
  have hgR : gR < w.heap.size := block_lt_of_cell (JR.out w (Below.refl _ _)).1.1
  have hvw : v.heap.size ≤ w.heap.size := H0.out.b.size
  have hz5 : w4.heap.size < w5.heap.size := (Array.getElem?_eq_some_iff.1 T5.out).1
  obtain ⟨r0, r1, r2, r3, r4⟩ := cells5 (blk_keep BQ.out B5.out)
  have H5 := hide (((H0.out.keep B4.out).keep B5.out).keep (dr2 w5))
  have SS5 := hide fun (W : World) (hb : Below w5.heap.size w5 W) => (show W.cell? ⟨w4.heap.size, 0, none⟩ = some (.slice tK tkey.length tcK) ∧ W.cell? ⟨gR, 0, none⟩ = some (.slice hK hkey.length hcK) from ⟨(cells4 (blk_keep T5.out hb)).1, (JR.out W (bt (bt B4.out B5.out) hb)).1.1⟩)
  have D5 := hide (dr2 w5)
  clear JT JR SS D4 WS
  go_wp2_with fail
  clear r0 r1 r2 r3 r4
  refine wp_region_held_drew (S := fun W => W.cell? ⟨w4.heap.size, 0, none⟩ = some (.slice tK tkey.length tcK) ∧ W.cell? ⟨gR, 0, none⟩ = some (.slice hK hkey.length hcK)) (by kernel_rfl) (SS5.out _ D5.out) (fun hHeld => ?_)
  refine wpAnyH_take (i := 0) (v := ?vacf0) rfl (by kernel_rfl) (by kernel_rfl) (by kernel_rfl) (fun _ _ _ h => h) (Or.inl ⟨by rfl, ?hycf0⟩) (by assumption) ?racf0
  case hycf0 => (intro wq hSw; (try dsimp only at hSw); obtain ⟨e0, e1⟩ := hSw; go_simp <;> with_reducible rfl)
  try simp only [Act.put, List.getElem_toArray, List.getElem_cons_zero, List.setIfInBounds_toArray, List.set_cons_zero, List.set_cons_succ]
  refine wpAnyH_take (i := 1) (v := ?vacf1) rfl (by kernel_rfl) (by kernel_rfl) (by kernel_rfl) (fun _ _ _ h => h) (Or.inl ⟨by rfl, ?hycf1⟩) (by assumption) ?racf1
  case hycf1 => (intro wq hSw; (try dsimp only at hSw); obtain ⟨e0, e1⟩ := hSw; go_simp <;> with_reducible rfl)
  try simp only [Act.put, List.getElem_toArray, List.getElem_cons_zero, List.getElem_cons_succ, List.setIfInBounds_toArray, List.set_cons_zero, List.set_cons_succ]
  refine wpAnyH_take (i := 2) (v := ?vacf2) rfl (by kernel_rfl) (by kernel_rfl) (by kernel_rfl) (fun _ _ _ h => h) (Or.inl ⟨by rfl, ?hycf2⟩) (by assumption) ?racf2
  case hycf2 => (intro wq hSw; (try dsimp only at hSw); obtain ⟨e0, e1⟩ := hSw; go_simp <;> with_reducible rfl)
  try simp only [Act.put, List.getElem_toArray, List.getElem_cons_zero, List.getElem_cons_succ, List.setIfInBounds_toArray, List.set_cons_zero, List.set_cons_succ]
  refine wpAnyH_take (i := 3) (v := ?vacf3) rfl (by kernel_rfl) (by kernel_rfl) (by kernel_rfl) (fun _ _ _ h => h) (Or.inl ⟨by rfl, ?hycf3⟩) (by assumption) ?racf3
  case hycf3 => (intro wq hSw; (try dsimp only at hSw); obtain ⟨e0, e1⟩ := hSw; go_simp <;> with_reducible rfl)
  try simp only [Act.put, List.getElem_toArray, List.getElem_cons_zero, List.getElem_cons_succ, List.setIfInBounds_toArray, List.set_cons_zero, List.set_cons_succ]
  refine wpAnyH_take (i := 4) (v := ?vacf4) rfl (by kernel_rfl) (by kernel_rfl) (by kernel_rfl) (fun _ _ _ h => h) (Or.inl ⟨by rfl, ?hycf4⟩) (by assumption) ?racf4
  case hycf4 => (intro wq hSw; (try dsimp only at hSw); obtain ⟨e0, e1⟩ := hSw; go_simp <;> with_reducible rfl)
  try simp only [Act.put, List.getElem_toArray, List.getElem_cons_zero, List.getElem_cons_succ, List.setIfInBounds_toArray, List.set_cons_zero, List.set_cons_succ]
  refine wpAnyH_take (i := 5) (v := ?vacf5) rfl (by kernel_rfl) (by kernel_rfl) (by kernel_rfl) (fun _ _ _ h => h) (Or.inl ⟨by rfl, ?hycf5⟩) (by assumption) ?racf5
  case hycf5 => (intro wq hSw; (try dsimp only at hSw); obtain ⟨e0, e1⟩ := hSw; go_simp <;> with_reducible rfl)
  try simp only [Act.put, List.getElem_toArray, List.getElem_cons_zero, List.getElem_cons_succ, List.setIfInBounds_toArray, List.set_cons_zero, List.set_cons_succ]
  refine wpAnyH_ready (rs := [6]) (by kernel_rfl) (by simp) ?_
  refine AllReadyH.cons rfl (fun K hK => ?_) AllReadyH.nil
  go_simp
  refine (BT.out _ (bt (bt B4.out B5.out) D5.out)).mono ?_
  rintro _ w6 ⟨aS, cS, rfl, hO⟩
  have O6 := hide hO
  have B6 := hide (bt D5.out hO.b)
  clear hO
  go_wp2_with fail
  refine hK.out _ _ (SS5.out _ B6.out) (fun hHeld => ?_)
  clear hK K
  try simp only [Act.put, List.getElem_toArray, List.getElem_cons_zero, List.getElem_cons_succ, List.setIfInBounds_toArray, List.set_cons_zero, List.set_cons_succ]
  refine wpAnyH_take (i := 7) (v := ?vacf7) rfl (by kernel_rfl) (by kernel_rfl) (by kernel_rfl) (fun _ _ _ h => h) (Or.inl ⟨by rfl, ?hycf7⟩) (by assumption) ?racf7
  case hycf7 => (intro wq hSw; (try dsimp only at hSw); obtain ⟨e0, e1⟩ := hSw; go_simp <;> with_reducible rfl)
  try simp only [Act.put, List.getElem_toArray, List.getElem_cons_zero, List.getElem_cons_succ, List.setIfInBounds_toArray, List.set_cons_zero, List.set_cons_succ]
  refine wpAnyH_take (i := 8) (v := ?vacf8) rfl (by kernel_rfl) (by kernel_rfl) (by kernel_rfl) (fun _ _ _ h => h) (Or.inl ⟨by rfl, ?hycf8⟩) (by assumption) ?racf8
  case hycf8 => (intro wq hSw; (try dsimp only at hSw); obtain ⟨e0, e1⟩ := hSw; go_simp <;> with_reducible rfl)
  try simp only [Act.put, List.getElem_toArray, List.getElem_cons_zero, List.getElem_cons_succ, List.setIfInBounds_toArray, List.set_cons_zero, List.set_cons_succ]
  refine wpAnyH_take (i := 9) (v := ?vacf9) rfl (by kernel_rfl) (by kernel_rfl) (by kernel_rfl) (fun _ _ _ h => h) (Or.inl ⟨by rfl, ?hycf9⟩) (by assumption) ?racf9
  case hycf9 => (intro wq hSw; (try dsimp only at hSw); obtain ⟨e0, e1⟩ := hSw; go_simp <;> with_reducible rfl)
  try simp only [Act.put, List.getElem_toArray, List.getElem_cons_zero, List.getElem_cons_succ, List.setIfInBounds_toArray, List.set_cons_zero, List.set_cons_succ]
  refine wpAnyH_take (i := 10) (v := ?vacf10) rfl (by kernel_rfl) (by kernel_rfl) (by kernel_rfl) (fun _ _ _ h => h) (Or.inl ⟨by rfl, ?hycf10⟩) (by assumption) ?racf10
  case hycf10 => (intro wq hSw; (try dsimp only at hSw); obtain ⟨e0, e1⟩ := hSw; go_simp <;> with_reducible rfl)
  try simp only [Act.put, List.getElem_toArray, List.getElem_cons_zero, List.getElem_cons_succ, List.setIfInBounds_toArray, List.set_cons_zero, List.set_cons_succ]
  refine wpAnyH_take (i := 11) (v := ?vacf11) rfl (by kernel_rfl) (by kernel_rfl) (by kernel_rfl) (fun _ _ _ h => h) (Or.inl ⟨by rfl, ?hycf11⟩) (by assumption) ?racf11
  case hycf11 => (intro wq hSw; (try dsimp only at hSw); obtain ⟨e0, e1⟩ := hSw; go_simp <;> with_reducible rfl)
  try simp only [Act.put, List.getElem_toArray, List.getElem_cons_zero, List.getElem_cons_succ, List.setIfInBounds_toArray, List.set_cons_zero, List.set_cons_succ]
  refine wpAnyH_done (by kernel_rfl) ?_ _
  clear hHeld SS5
  have BP6 := hide (blk_keep (blk_keep BP.out B5.out) B6.out)
  have BQ6 := hide (blk_keep (blk_keep BQ.out B5.out) B6.out)
  have BR61 := hide (blk_keep (blk_keep BR1.out B5.out) B6.out)
  have BR62 := hide (blk_keep (blk_keep BR2.out B5.out) B6.out)
  have BX1 := hide (setRow_heap w6 (w.heap.size + 2) _ #[.int .i64 0, .int .i64 0, .slice none 0 0, .slice none 0 0, .int .i64 0] _ _ BR61.out)
  have BX2 := hide (row_far (W := w6) (g := w.heap.size + 2) #[.int .i64 0, .int .i64 0, .slice none 0 0, .slice none 0 0, .int .i64 0] BR62.out (by omega))
  have BY1 := hide (row_far (g := w.heap.size + 3) #[.int .i64 0, .int .i64 0, .slice none 0 0, .slice none 0 0, .int .i64 0] BX1.out (by omega))
  have BY2 := hide (setRow_heap _ (w.heap.size + 3) _ #[.int .i64 0, .int .i64 0, .slice none 0 0, .slice none 0 0, .int .i64 0] _ _ BX2.out)
  have BV := hide (bt H0.out.b (bt (bt B4.out B5.out) B6.out))
  go_wp2_with (first | (refine wpList_store_row rfl 25 _ _ rfl (w.heap.size + 2) _ rfl rfl 25 _ BR61.out sizePage rfl (by simp [Value.oneCell']) ?_) | (refine wpList_store_row rfl 25 _ _ rfl (w.heap.size + 3) _ rfl rfl 25 _ BX2.out sizePage rfl (by simp [Value.oneCell']) ?_) | fail)
  refine bodyPost_ret (v := .tuple #[.agg _, .agg _, _, _]) (results_cells Try.results27 _ _ (w.heap.size + 2) (w.heap.size + 3) 25 25 _ _ (0, 0) (0, 0) _ rfl BY1.out rfl BY2.out Try.underlying25 rfl sizePage sizePage) rfl ?_
  exact ⟨Pv.zero, Pv.zero, none, 0, rfl, Hq.zero (below_row _ (below_row _ BV.out (by omega)) (by omega)), rfl, rfl⟩
theorem parted_any (v w : World) (l r : Pv) (h : Hq v w l r none 0 []) (h1 : 0 < l.items.length) (h2 : 0 < r.items.length) (hl1 : l.items.length ≤ 2199023255520) (hl2 : r.items.length ≤ 2199023255520) :
    Calls Try.prog 27 #[l.vl, r.vl] w fun e w' => ∃ (q1 q2 : Pv) (a : Option Addr) (c : Nat), e = .returned (.tuple #[q1.vl, q2.vl, .slice a (prt l.pg r.pg).s.length c, .bool (prt l.pg r.pg).ok]) ∧ Hq v w' q1 q2 a c (prt l.pg r.pg).s ∧ q1.pg = (prt l.pg r.pg).l ∧ q2.pg = (prt l.pg r.pg).r := by
  by_cases hk : r.kind = 2
  · exact parted_index v w l r h h1 h2 hl1 hl2 hk
  · cases hb : (between (l.pg.at (l.pg.items.length - 1)).key (r.pg.at 0).key).2 with
    | true => exact parted_leaf_yes v w l r h h1 h2 hl1 hl2 hk hb
    | false => exact parted_leaf_no v w l r h h1 h2 hl1 hl2 hk hb
end Go.Proofs.Ytoachodngjlpaaa
