import Derived.Test.YtbobnfjbbablkaaZDB
namespace Go.Proofs.Ytbobnfjbbablkaa
open Go.RowKit

theorem Bs.lt {w : World} {a : Option Addr} {l : List Nat} (h : Bs w a l) {y : Addr} (hy : a = some y) (hl : l ≠ []) : y.block < w.heap.size := by
  obtain ⟨b, off, e, hc⟩ := h.at (j := 0) (by cases l with | nil => exact absurd rfl hl | cons => simp)
  rw [e, Option.some.injEq] at hy
  subst hy
  exact block_lt_of_cell hc
theorem New.ge {w : World} {a : Option Addr} (h : New w Option.none a) {x : Addr} (hx : a = some x) : w.heap.size ≤ x.block := by
  rcases h x hx with ⟨y, hy, _⟩ | h
  · cases hy
  · exact h
/-- a list of ranges that one may read, in a row of one's own -/
structure Lr (w W : World) (a : Option Addr) (c : Nat) (R : List Rv) : Prop where
  q : QOwn w W a c R
  i : ∀ r ∈ R, Ri W r
  n : ∀ r ∈ R, New w none r.aL ∧ New w none r.aH
  m : Fmd R
  s : ∀ r ∈ R, ∀ y, a = some y → (∀ x, r.aL = some x → r.lo ≠ [] → x.block ≠ y.block) ∧ (∀ x, r.aH = some x → r.hi ≠ [] → x.block ≠ y.block)
theorem Lr.keep {w W W' : World} {a : Option Addr} {c : Nat} {F : List Rv} (h : Lr w W a c F) (hb : Below W.heap.size W W') : Lr w W' a c F := ⟨h.q.keep hb, fun r hr => (h.i r hr).keep hb, h.n, h.m, h.s⟩
theorem Lr.nil (w : World) {W : World} (h : Below w.heap.size w W) : Lr w W none 0 [] := ⟨QOwn.nil w h, fun _ hr => (List.not_mem_nil hr).elim, fun _ hr => (List.not_mem_nil hr).elim, fun _ hr => (List.not_mem_nil hr).elim, fun _ hr => (List.not_mem_nil hr).elim⟩
theorem Lr.step {w W W1 W2 W3 : World} {a a' : Option Addr} {c c' : Nat} {F : List Rv} {q : Rv} (h : Lr w W a c F) (h1 : Below W.heap.size W W1) (hq : Ri W1 q) (hql : New W none q.aL) (hqh : New W none q.aH) (hqm : q.op = decide (q.hi = [])) (h2 : Below W1.heap.size W1 W2)
    (hR : Qw W3 a' c' (F ++ [q])) (hN : New W2 a a') (hg : W2.grownBy W3 (a.map Addr.block)) : Lr w W3 a' c' (F ++ [q]) := by
  have b12 := bt h1 h2
  have qo := h.q.step b12 hR hN hg
  have but : But (fun k => a.map Addr.block = some k) W2 W3 := ⟨hg.os, hg.tape, hg.output, hg.size, fun k hk hn => hg.block k hk fun e => hn e.symm⟩
  have hi2 : ∀ r ∈ F ++ [q], Ri W2 r := fun r hr => by
    rcases List.mem_append.1 hr with h3 | h3
    · exact (h.i r h3).keep b12
    · rw [List.mem_singleton.1 h3]; exact hq.keep h2
  have sep : ∀ r ∈ F ++ [q], ∀ y, a = some y → (∀ x, r.aL = some x → r.lo ≠ [] → x.block ≠ y.block) ∧ (∀ x, r.aH = some x → r.hi ≠ [] → x.block ≠ y.block) := fun r hr y hy => by
    rcases List.mem_append.1 hr with h3 | h3
    · exact h.s r h3 y hy
    · rw [List.mem_singleton.1 h3]
      have hlt := h.q.r.lt hy
      exact ⟨fun x hx _ => by have := hql.ge hx; omega, fun x hx _ => by have := hqh.ge hx; omega⟩
  refine ⟨qo, fun r hr => ?_, fun r hr => ?_, fun r hr => ?_, fun r hr y hy => ?_⟩
  · have hs := sep r hr
    have hr2 := hi2 r hr
    refine ⟨hr2.bl.but but fun x hx hl e => ?_, hr2.cl, hr2.bh.but but fun x hx hl e => ?_, hr2.ch⟩
    · obtain ⟨z, hz, e2⟩ := map_some e
      exact (hs z hz).1 x hx hl e2.symm
    · obtain ⟨z, hz, e2⟩ := map_some e
      exact (hs z hz).2 x hx hl e2.symm
  · rcases List.mem_append.1 hr with h3 | h3
    · exact h.n r h3
    · rw [List.mem_singleton.1 h3]; exact ⟨hql.mono h.q.b.size, hqh.mono h.q.b.size⟩
  · rcases List.mem_append.1 hr with h3 | h3
    · exact h.m r h3
    · rw [List.mem_singleton.1 h3]; exact hqm
  · have hr2 := hi2 r hr
    rcases hN y hy with ⟨z, hz, e⟩ | hge
    · rw [← e]; exact sep r hr z hz
    · exact ⟨fun x hx hl => by have := hr2.bl.lt hx hl; omega, fun x hx hl => by have := hr2.bh.lt hx hl; omega⟩
theorem take_snocF {c : List Fm} {j : Nat} (h : j < c.length) : c.take (j + 1) = c.take j ++ [c.getD j ([], [])] := by
  rw [List.take_succ_eq_append_getElem h]; simp [h]
theorem map_snocF {R : List Rv} {c : List Fm} {j : Nat} (h : R.map Rv.fm = c.take j) (hj : j < c.length) (q : Rv) (hq : q.fm = c.getD j ([], [])) : (R ++ [q]).map Rv.fm = c.take (j + 1) := by
  rw [List.map_append, h, take_snocF hj, ← hq]; rfl
theorem last_at {c : List Fm} (h : canon c) {j : Nat} (hj : j < c.length) (h0 : (c.getD j ([], [])).2 = []) : j + 1 = c.length := by
  by_cases h1 : j + 1 < c.length
  · exact absurd h0 (pair_at h (Nat.lt_succ_self j) h1).1
  · omega
theorem kAt_next {c : List Fm} (h : canon c) {j : Nat} (hj : j < c.length) (h0 : (c.getD j ([], [])).2 ≠ []) : kAt c (j + 1) = (c.getD j ([], [])).2 ∧ KK (kAt c (j + 1)) := by
  have e : kAt c (j + 1) = (c.getD j ([], [])).2 := by unfold kAt; rw [if_neg (by omega), Nat.add_sub_cancel]
  refine ⟨e, ?_⟩
  rw [e]
  rcases (h.1 _ (getD_memF hj)).2 with h1 | h1
  · exact absurd h1 h0
  · exact h1.1
theorem KK.le {k : List Nat} (h : KK k) : k.length ≤ 24 := (isK_iff.1 h.1).2
def lenOf (v : Value) : Nat := match v with | .slice _ n _ => n | _ => 0
set_option maxRecDepth 100000 in
set_option maxHeartbeats 3200000 in
theorem eCover_any (w : World) (a : Option Addr) (n c : Nat) (L : List Rv) (hQ : Qs w a L) (hn : n = L.length) (hlen : L.length < 4294967296) :
    Calls Try.prog 39 #[.slice a n c] w fun e w' => ∃ a' c' C, e = .returned (.slice a' (List.length C) c') ∧ Lr w w' a' c' C ∧ C.map Rv.fm = cover (L.map Rv.rg) := by
  subst hn
  have HB8 : Hid (∀ r ∈ L.map Rv.rg, r.b8) := fun r hr => by
    obtain ⟨x, hx, rfl⟩ := List.mem_map.1 hr
    exact (hQ.1 x hx).b8
  have ET := hide fun w1 (hb : Below w.heap.size w w1) ak ck k (hK : Bs w1 ak k) (hk : KK k) => eedge_true w1 a L.length c L (hQ.keep hb) rfl hlen ak k.length ck k hK rfl hk.le
  have EF := hide fun w1 (hb : Below w.heap.size w w1) ak ck k (hK : Bs w1 ak k) (hk : KK k) => eedge_false w1 a L.length c L (hQ.keep hb) rfl hlen ak k.length ck k hK rfl hk.le
  have CL := hide (cover_len L)
  have HC := hide (cover_ok HB8.out).1
  have LO := hide fun j => @edg_lo _ HB8.out j
  have HI := hide fun j => @edg_hi _ HB8.out j
  have EN := hide fun j => @edg_end _ HB8.out j
  generalize cover (L.map Rv.rg) = cv at *
  clear hQ
  go_enter Try.func39, Try.ntmps39
  go_wp2
  go_loopw [3, 4, 5, 6] (fun o kk _ _ wx => ∃ (R : List Rv) (ao : Option Addr) (co : Nat) (ak : Option Addr) (ck : Nat), R.length ≤ cv.length ∧ o = .slice ao R.length co ∧ kk = .slice ak (kAt cv R.length).length ck ∧ Lr w wx ao co R ∧ R.map Rv.fm = cv.take R.length ∧ Bs wx ak (kAt cv R.length) ∧ KK (kAt cv R.length)) (fun o _ _ _ _ => cv.length - lenOf o)
  case atStart =>
    refine ⟨[], none, 0, _, _, Nat.zero_le _, rfl, rfl, Lr.nil w (al _ _), rfl, ?_, KK0⟩
    refine ⟨KK0.2, by show 1 ≤ _; decide, .inr ⟨_, 0, rfl, fun i hi => ?_⟩⟩
    have hi1 : i < 1 := hi
    obtain rfl : i = 0 := by omega
    exact (cell_of_row _ _ _ _ _ _ (heap_alloc_new _ _)).trans rfl
  case round =>
    obtain ⟨R, ao, co, ak, ck, hj, rfl, rfl, hl, hm, hk, hkk⟩ := hrel
    have HL := hide hl
    have HM := hide hm
    have E1 := hide (ET.out wr hl.q.b ak ck _ hk hkk)
    have HKK := hide hkk
    clear hl hm hk hkk
    by_cases hlt : R.length < cv.length
    · rw [LO.out _ hlt] at E1
      have P1 := hide (HC.out.1 _ (getD_memF hlt)).1
      have hne : ((((cv.getD R.length ([], [])).1.length : Nat) : Int) == 0) = false := by
        rw [len0]; exact decide_eq_false P1.out.ne
      have E2 := hide fun w1 (hb : Below w.heap.size w w1) a1 c1 hK => EF.out w1 hb a1 c1 _ hK P1.out
      rw [HI.out _ hlt] at E2
      have FM := hide (map_snocF HM.out hlt)
      have LA := hide (last_at HC.out hlt)
      have KN := hide (kAt_next HC.out hlt)
      have hsz : R.length < 4294967296 := by have := CL.out; omega
      generalize cv.getD R.length ([], []) = f at *
      obtain ⟨lo, hi⟩ := f
      dsimp only at *
      by_cases h0 : hi = []
      · subst h0
        have LA' := hide (LA.out rfl)
        clear LA KN
        go_wp2_with fail
        refine E1.out.mono ?_
        rintro e w1 ⟨a1, c1, rfl, b1, l1, hb1, n1⟩
        have B1 := hide b1
        have L1 := hide l1
        have N1 := hide n1
        have HB1 := hide hb1
        clear b1 l1 n1 hb1
        go_wp2_with fail
        refine (E2.out _ (bt HL.out.q.b HB1.out) a1 c1 B1.out).mono ?_
        rintro e w2 ⟨a2, c2, rfl, _, _, hb2, _⟩
        have B2 := hide (B1.out.keep hb2)
        have HB2 := hide (bt HB1.out hb2)
        clear hb2
        go_wp2_with (at_builtin; refine wpList_apQ rfl _ _ rfl ao R.length co R rfl rfl (HL.out.q.r.keep (bt HB2.out (al _ _))) ⟨w2.heap.size, 0, none⟩ 1 ⟨a1, c1, lo, none, 0, [], true⟩ rfl (built_at ⟨a1, c1, lo, none, 0, [], true⟩ 26 rfl) (by omega) ?_)
        intro g cap' w3 hR hN hg
        have HST := hide (HL.out.step HB2.out ⟨B2.out, L1.out, Bs.nil _, Nat.le_refl _⟩ N1.out (New.none _ _) rfl (al _ _) hR hN hg)
        clear hR hN hg
        go_wp2
        go_ret
        refine ⟨_, cap', _, ?_, HST.out, ?_⟩
        · simp only [List.length_append, List.length_cons, List.length_nil]; rfl
        · rw [FM.out ⟨a1, c1, lo, none, 0, [], true⟩ rfl, LA'.out, List.take_length]
      · have hz2 : (((hi.length : Nat) : Int) == 0) = false := by rw [len0]; simp [h0]
        obtain ⟨ek, kk⟩ := KN.out h0
        have EK := hide ek
        have KK' := hide kk
        have HD := hide (decide_eq_false h0)
        clear LA KN ek kk
        go_wp2_with fail
        refine E1.out.mono ?_
        rintro e w1 ⟨a1, c1, rfl, b1, l1, hb1, n1⟩
        have B1 := hide b1
        have L1 := hide l1
        have N1 := hide n1
        have HB1 := hide hb1
        clear b1 l1 n1 hb1
        go_wp2_with fail
        refine (E2.out _ (bt HL.out.q.b HB1.out) a1 c1 B1.out).mono ?_
        rintro e w2 ⟨a2, c2, rfl, b2, l2, hb2, n2⟩
        have B2 := hide (B1.out.keep hb2)
        have C2 := hide b2
        have L2 := hide l2
        have N2 := hide (n2.mono HB1.out.size)
        have HB2 := hide (bt HB1.out hb2)
        clear hb2 b2 l2 n2
        go_wp2_with (at_builtin; refine wpList_apQ rfl _ _ rfl ao R.length co R rfl rfl (HL.out.q.r.keep (bt HB2.out (al _ _))) ⟨w2.heap.size, 0, none⟩ 1 ⟨a1, c1, lo, a2, c2, hi, false⟩ rfl (built_at ⟨a1, c1, lo, a2, c2, hi, false⟩ 26 rfl) (by omega) ?_)
        intro g cap' w3 hR hN hg
        have HST := hide (HL.out.step HB2.out ⟨B2.out, L1.out, C2.out, L2.out⟩ N1.out N2.out HD.out.symm (al _ _) hR hN hg)
        clear hR hN hg
        go_wp2
        go_roundw
        case rel =>
          have hin := HST.out.i ⟨a1, c1, lo, a2, c2, hi, false⟩ (by simp)
          have hlr : (R ++ [(⟨a1, c1, lo, a2, c2, hi, false⟩ : Rv)]).length = R.length + 1 := by simp
          refine ⟨R ++ [⟨a1, c1, lo, a2, c2, hi, false⟩], _, cap', a2, c2, by rw [hlr]; omega, by rw [hlr], ?_, HST.out, by rw [hlr]; exact FM.out _ rfl, ?_, by rw [hlr]; exact KK'.out⟩
          · rw [hlr, EK.out]
          · rw [hlr, EK.out]; exact hin.bh
        case measure => simp only [lenOf]; omega
    · obtain he : R.length = cv.length := by omega
      rw [he] at HKK
      rw [he, EN.out _ rfl HKK.out] at E1
      rw [he, List.take_length] at HM
      go_wp2_with fail
      refine E1.out.mono ?_
      rintro e w1 ⟨a1, c1, rfl, b1, l1, hb1, n1⟩
      have HB1 := hide hb1
      clear b1 l1 n1 hb1
      go_wp2
      go_ret
      exact ⟨ao, co, R, by rw [he]; rfl, HL.out.keep HB1.out, HM.out⟩
end Go.Proofs.Ytbobnfjbbablkaa
