import Derived.Test.YtbobnfjbbablkabZK
namespace Go.Proofs.Ytbobnfjbbablkab
open Go.RowKit

def Rv.fm (r : Rv) : Fm := (r.lo, r.hi)
/-- the ranges of a list are forms -/
def Fmd (F : List Rv) : Prop := ∀ r ∈ F, r.op = decide (r.hi = [])
theorem forms_take {L : List Rv} {j : Nat} (h : j < L.length) : forms ((L.take (j + 1)).map Rv.rg) = forms ((L.take j).map Rv.rg) ++ (match form (L.getD j Rv.zero).rg with | none => [] | some f => [f]) := by
  have e : L[j] = L.getD j Rv.zero := by simp [h]
  rw [List.take_succ_eq_append_getElem h, List.map_append, e]
  unfold forms
  rw [List.filterMap_append]
  generalize L.getD j Rv.zero = r
  cases hf : form r.rg <;> simp [hf]
theorem forms_none {L : List Rv} {j : Nat} (h : j < L.length) (hf : form (L.getD j Rv.zero).rg = none) : forms ((L.take (j + 1)).map Rv.rg) = forms ((L.take j).map Rv.rg) := by rw [forms_take h, hf]; simp
theorem forms_snoc {L : List Rv} {j : Nat} (h : j < L.length) (f : Fm) (hf : form (L.getD j Rv.zero).rg = some f) : forms ((L.take (j + 1)).map Rv.rg) = forms ((L.take j).map Rv.rg) ++ [f] := by rw [forms_take h, hf]
theorem forms_len (L : List Rv) : (forms (L.map Rv.rg)).length ≤ L.length := by
  unfold forms
  have := List.length_filterMap_le form (L.map Rv.rg)
  simpa using this
/-- a row of ranges of one's own, all memory apart -/
structure Lst (w W : World) (a : Option Addr) (c : Nat) (F : List Rv) : Prop where
  q : QOwn w W a c F
  f : Fam w W (rowsOf F)
  m : Fmd F
theorem Lst.keep {w W W' : World} {a : Option Addr} {c : Nat} {F : List Rv} (h : Lst w W a c F) (hb : Below W.heap.size W W') : Lst w W' a c F := ⟨h.q.keep hb, h.f.keep hb, h.m⟩
theorem Lst.nil (w : World) {W : World} (h : Below w.heap.size w W) : Lst w W none 0 [] := ⟨QOwn.nil w h, Fam.nil w W, fun _ hr => (List.not_mem_nil hr).elim⟩
theorem Lst.pre {w w0 W : World} {a : Option Addr} {c : Nat} {F : List Rv} (hb : Below w.heap.size w w0) (h : Lst w0 W a c F) : Lst w W a c F := ⟨⟨h.q.r, h.q.n.mono hb.size, bt hb h.q.b⟩, Fam.pre hb h.f, h.m⟩
/-- a range of one's own is appended -/
theorem Lst.step {w W W1 W2 W3 : World} {a a' : Option Addr} {c c' : Nat} {F : List Rv} {q : Rv} (h : Lst w W a c F) (h1 : Below W.heap.size W W1) (hq : Ro W W1 q) (hqm : q.op = decide (q.hi = [])) (h2 : Below W1.heap.size W1 W2)
    (hR : Qw W3 a' c' (F ++ [q])) (hN : New W2 a a') (hg : W2.grownBy W3 (a.map Addr.block)) : Lst w W3 a' c' (F ++ [q]) := by
  have b12 := bt h1 h2
  have qo := h.q.step b12 hR hN hg
  refine ⟨qo, ?_, ?_⟩
  · rw [rowsOf_append, rowsOf_one]
    have f2 : Fam w W2 (rowsOf F ++ q.rows) := h.f.add (hq.fam.keep h2) b12 h.q.b
    have hQ2 : Qw W2 a c F := h.q.r.keep b12
    refine f2.but (S := fun k => a.map Addr.block = some k) ⟨hg.os, hg.tape, hg.output, hg.size, fun k hk hn => hg.block k hk fun e => hn e.symm⟩ qo.b ?_
    intro t ht x hx e
    obtain ⟨y, hy, e2⟩ := map_some e
    exact hQ2.ne (f2.own t ht).1.r hy hx e2
  · intro r hr
    rcases List.mem_append.1 hr with h3 | h3
    · exact h.m r h3
    · rw [List.mem_singleton.1 h3]; exact hqm
theorem But.low {S : Nat → Prop} {w W W' : World} (hw : Below w.heap.size w W) (hb : But S W W') (hS : ∀ k, k < w.heap.size → ¬ S k) : Below w.heap.size w W' :=
  ⟨hb.os.trans hw.os, hb.tape.trans hw.tape, hb.output.trans hw.output, Nat.le_trans hw.size hb.size, fun k hk => (hb.block k (Nat.lt_of_lt_of_le hk hw.size) (hS k hk)).trans (hw.block k hk)⟩
theorem QOwn.fresh {w W : World} {a : Option Addr} {c : Nat} {F : List Rv} (h : QOwn w W a c F) {x : Addr} (hx : a = some x) : w.heap.size ≤ x.block := by
  rcases h.n x hx with ⟨y, hy, _⟩ | h
  · cases hy
  · exact h
theorem Lst.sorted {w W W' : World} {g c : Nat} {F F' : List Rv} (h : Lst w W (some ⟨g, 0, none⟩) c F) (hp : F'.Perm F) (hQ : Qw W' (some ⟨g, 0, none⟩) c F') (hb : But (fun k => k = g) W W') : Lst w W' (some ⟨g, 0, none⟩) c F' := by
  have hg := h.q.fresh rfl
  have hl := But.low h.q.b hb (fun k hk e => by dsimp only at hg; omega)
  refine ⟨⟨hQ, h.q.n, hl⟩, ?_, fun r hr => h.m r (hp.subset hr)⟩
  refine (h.f.but hb hl fun t ht x hx e => h.q.r.ne (h.f.own t ht).1.r rfl hx e.symm).perm ?_
  unfold rowsOf
  exact (hp.map _).flatten
theorem Lst.sortable {w W : World} {g c : Nat} {F : List Rv} (h : Lst w W (some ⟨g, 0, none⟩) c F) : ∀ r ∈ F, Bs W r.aL r.lo ∧ ∀ x, r.aL = some x → r.lo ≠ [] → x.block ≠ g := fun r hr =>
  ⟨(h.f.ri r hr).bl, fun _ hx _ e => h.q.r.ne (Fam.ro (h.f.sub (rows_sub hr))).l.r rfl hx e.symm⟩
theorem built_cell {w : World} {g : Nat} {q : Rv} {t : TypeId} (h : w.heap[g]? = some (.cells q.cs t (0, 0))) : ∀ j u, q.cs.toList[j]? = some u → w.cell? ((⟨g, 0, none⟩ : Addr).add j) = some u := by
  intro j u hu
  rw [Addr.add_mid, Nat.zero_add, cell_of_row _ _ _ _ _ _ h, ← hu]
  simp
theorem built_cells (w : World) (q : Rv) (t1 t2 : TypeId) : ∀ j u, q.cs.toList[j]? = some u → ((w.alloc (.cells q.cs t1)).alloc (.cells q.cs t2)).cell? ((⟨w.heap.size + 1, 0, none⟩ : Addr).add j) = some u :=
  built_cell (t := t2) (by have := heap_alloc_new (w.alloc (.cells q.cs t1)) (.cells q.cs t2); rw [size_alloc] at this; exact this)
set_option maxRecDepth 100000 in
set_option maxHeartbeats 6400000 in
theorem risingForms_any (w : World) (a : Option Addr) (n c : Nat) (L : List Rv) (hQ : Qs w a L) (hn : n = L.length) (hlen : L.length < 4294967296) :
    Calls Try.prog 33 #[.slice a n c] w fun e w' => ∃ a' c' F, e = .returned (.slice a' (List.length F) c') ∧ Lst w w' a' c' F ∧ (F.map Rv.fm).Perm (forms (L.map Rv.rg)) ∧ (F.map Rv.fm).Pairwise (fun x y => x.1 ≤ y.1) := by
  subst hn
  have HQ := hide hQ
  have hlenI : ((L.length : Nat) : Int) < 4294967296 := by omega
  clear hQ
  go_enter Try.func33, Try.ntmps33
  go_wp2
  go_loopw [3, 5, 6, 7, 10] (fun v _ _ _ i wx => ∃ (j : Nat) (aj : Option Addr) (cj : Nat) (F : List Rv), j ≤ L.length ∧ i = .int .i64 j ∧ v = .slice aj (List.length F) cj ∧ (Lst w wx aj cj F ∧ F.map Rv.fm = forms ((L.take j).map Rv.rg) ∧ F.length ≤ j)) (fun _ _ _ _ i _ => L.length - (intOf i).toNat)
  case atStart => exact ⟨0, none, 0, [], Nat.zero_le _, rfl, rfl, Lst.nil w (Below.refl _ _), rfl, Nat.le_refl _⟩
  case round =>
    obtain ⟨j, aj, cj, F, hj, rfl, rfl, hG⟩ := hrel
    have HG := hide hG
    clear hG
    by_cases hlt : j < L.length
    · have hi : (j : Int) < (L.length : Int) := by omega
      have hj1 := w64 (j := j) (by omega)
      obtain ⟨b, off, rfl, hr⟩ := (HQ.out.keep HG.out.1.q.b).at hlt
      obtain ⟨k0, k1, k2⟩ := range3 hr
      have HRI : Hid (Ri wr (L.getD j Rv.zero)) := (HQ.out.keep HG.out.1.q.b).1 _ (getD_memR hlt)
      have FN := hide (forms_none hlt)
      have FSN := hide (@forms_snoc L j hlt)
      generalize L.getD j Rv.zero = r at *
      have OF := hide fun w1 (hb : Below wr.heap.size wr w1) => oneForm_any w1 r (HRI.out.keep hb)
      clear HRI hr
      unfold Rv.val at OF
      obtain ⟨aL, cL, lo, aH, cH, hi', op⟩ := r
      dsimp only [Rv.cs, Rv.rg] at *
      go_wp2_with fail
      refine (OF.out _ (al _ _)).mono ?_
      rintro e w2 ⟨q, rfl, ro, hq⟩
      clear k0 k1 k2 OF
      have HRO := hide (Ro.pre (al _ _) ro)
      have HB2 := hide (bt (al wr _) ro.l.b)
      clear ro
      obtain ⟨q1, d1, l1, q2, d2, l2, po⟩ := q
      dsimp only at *
      cases hf : form ⟨lo, hi', op⟩ with
      | none =>
        have HFN := hide (FN.out hf)
        clear FN FSN hf
        go_wp2
        go_roundw
        case rel => exact ⟨j + 1, aj, cj, F, by omega, by first | (go_num; done) | exact congrArg (Value.int IntKind.i64) (by omega), rfl, HG.out.1.keep (bt HB2.out (al _ _)), by rw [HFN.out]; exact HG.out.2.1, by have := HG.out.2.2; omega⟩
        case measure => first | exact meas_up _ _ _ hj1 hlt | exact meas_up _ _ _ rfl hlt | (simp [intOf]; omega)
      | some f =>
        have HFS := hide (FSN.out f hf)
        rw [hf] at hq
        have HQF : Hid (({ aL := q1, cL := d1, lo := l1, aH := q2, cH := d2, hi := l2, op := po } : Rv).fm = f ∧ po = decide (l2 = [])) := by
          unfold fOf rgOf at hq
          simp only [Rg.mk.injEq] at hq
          refine ⟨Prod.ext hq.1 hq.2.1, ?_⟩
          rw [hq.2.2, hq.2.1]
        have hfl : F.length < 4294967296 := by have := HG.out.2.2; omega
        clear FN FSN hf hq
        go_wp2_with (at_builtin; refine wpList_apQ rfl _ _ rfl aj F.length cj F rfl rfl (HG.out.1.q.r.keep (bt (bt HB2.out (al _ _)) (al _ _))) ⟨w2.heap.size + 1, 0, none⟩ 1 ⟨q1, d1, l1, q2, d2, l2, po⟩ rfl (built_cells w2 ⟨q1, d1, l1, q2, d2, l2, po⟩ 24 24) (by omega) ?_)
        intro g cap' w3 hR hN hg
        have HST := hide (HG.out.1.step HB2.out HRO.out HQF.out.2 (bt (al _ _) (al _ _)) hR hN hg)
        clear hR hN hg
        go_wp2
        go_roundw
        case rel =>
          refine ⟨j + 1, _, cap', F ++ [⟨q1, d1, l1, q2, d2, l2, po⟩], by omega, by first | (go_num; done) | exact congrArg (Value.int IntKind.i64) (by omega), by simp, HST.out, ?_, ?_⟩
          · rw [List.map_append, HG.out.2.1, HFS.out, List.map_singleton, HQF.out.1]
          · rw [List.length_append, List.length_singleton]; have := HG.out.2.2; omega
        case measure => first | exact meas_up _ _ _ hj1 hlt | exact meas_up _ _ _ rfl hlt | (simp [intOf]; omega)
    · obtain rfl : j = L.length := by omega
      rw [List.take_length] at HG
      by_cases h0 : F = []
      · subst h0
        have SN := hide (Sort_none wr aj cj)
        go_wp2_with fail
        refine SN.out.mono ?_
        rintro e w2 ⟨rfl, hw⟩
        obtain rfl := hw.symm
        go_wp2
        go_ret
        exact ⟨aj, cj, [], rfl, HG.out.1, by rw [HG.out.2.1], List.Pairwise.nil⟩
      · obtain ⟨g, rfl, _, _⟩ := HG.out.1.q.r.addr (List.length_pos_iff.2 h0)
        have SA := hide (Sort_any wr g cj F HG.out.1.q.r HG.out.1.sortable (by have := HG.out.2.2; omega))
        go_wp2_with fail
        refine SA.out.mono ?_
        rintro e w2 ⟨rfl, F', hp, hs, hq, hb⟩
        have HL := hide (HG.out.1.sorted hp hq hb)
        have HP := hide hp
        have HS := hide hs
        clear hp hs hq hb
        go_wp2
        go_ret
        refine ⟨_, cj, F', by rw [HP.out.length_eq]; rfl, HL.out, ?_, ?_⟩
        · rw [← HG.out.2.1]; exact HP.out.map _
        · rw [List.pairwise_map]; exact HS.out
end Go.Proofs.Ytbobnfjbbablkab
