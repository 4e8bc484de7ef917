import Derived.Test.YtbhigodjbfoeoaaGreatWqB6
import Derived.Test.YtbhigodjbfoeoaaGreatWqB7
import Derived.Test.YtbhigodjbfoeoaaGreatWqB18
section
namespace Go.Proofs.YtbhigodjbfoeoaaGreat
set_option linter.unusedVariables false
set_option linter.unusedSimpArgs false
open Go.RowKit
set_option maxHeartbeats 8000000 in
set_option maxRecDepth 8000 in
theorem Load_short (w : World) (v : Value) (x : Iv) (hx : Bs w x.aV x.val) (h1 : x.val.length ≤ 32) (hz : x.size = (x.val.length : Int)) :
    Calls Tryz.prog 24 #[v, x.vl] w fun e w' => ∃ (a : Option Addr) (c : Nat), e = .returned (.tuple #[.slice a x.val.length c, .int .i64 0]) ∧ Own w w' a c x.val := by
  have A0 := hide (al w (.cells x.cs 34))
  have X0 := hide (heap_alloc_new w (.cells x.cs 34))
  have CL := hide (Clone_own (w.alloc (.cells x.cs 34)) x.aV x.cV x.val (hx.keep A0.out) (by omega))
  clear hx
  obtain ⟨xK, xcK, xkey, xV, xcV, xval, xch, xsz⟩ := x
  simp only at hz h1
  subst hz
  unfold Iv.vl
  simp only [Iv.cs] at A0 X0 CL ⊢
  obtain ⟨s, hs⟩ : ∃ s, xval.length = s := ⟨_, rfl⟩
  rw [hs] at h1 CL A0 X0 ⊢
  clear hs
  have d1 : decide ((s : Int) < 0) = false := decide_eq_false (by omega)
  have d2 : decide ((3840 : Int) < (s : Int)) = false := decide_eq_false (by omega)
  have d3 : decide ((32 : Int) < (s : Int)) = false := decide_eq_false (by omega)
  have d4 : ((s : Int) != (s : Int)) = false := by simp
  obtain ⟨x0, x1, x2, x3⟩ := four13 X0.out
  go_enter Tryz.func24, Tryz.ntmps24
  go_wp2_with fail
  refine CL.out.mono ?_
  rintro _ w3 ⟨a, c, rfl, hO⟩
  have OO : Hid (Own w w3 a c xval) := ⟨hO.r, hO.n.mono A0.out.size, bt A0.out hO.b⟩
  clear hO
  go_wp2_with fail
  refine bodyPost_ret (results_tmp2 rfl _ _ _) rfl ?_
  exact ⟨a, c, rfl, OO.out⟩
end Go.Proofs.YtbhigodjbfoeoaaGreat
end
section
namespace Go.Proofs.YtbhigodjbfoeoaaGreat.Q
set_option linter.unusedVariables false
open Go.RowKit Go.Shelf
attribute [local go_sem] Oper.semAt_some
def fil (L : List Int) (n : Nat) : List Int := L ++ List.replicate (n - L.length) 0
theorem fil_length {L : List Int} {n : Nat} (h : L.length ≤ n) : (fil L n).length = n := by unfold fil; rw [List.length_append, List.length_replicate]; omega
theorem fil_set {L : List Int} {n : Nat} (h : L.length < n) (x : Int) : (fil L n).set L.length x = fil (L ++ [x]) n := by
  unfold fil
  rw [List.set_append_right _ _ (Nat.le_refl _), Nat.sub_self]
  obtain ⟨m, hm⟩ : ∃ m, n - L.length = m + 1 := ⟨n - L.length - 1, by omega⟩
  rw [hm, List.replicate_succ, List.set_cons_zero, List.length_append, List.length_singleton, show n - (L.length + 1) = m by omega, List.append_assoc]
  rfl
theorem counts_snoc {P : Po} {i : Nat} (h : i < P.pg.length) : (P.counts.take (i + 1)) = P.counts.take i ++ [(P.pg.getD i Pg.zero).1] := by
  have hl : i < P.counts.length := by unfold Po.counts; rw [List.length_map]; exact h
  rw [take_next P.counts 0 hl]
  congr 2
  unfold Po.counts
  simp [h]
set_option maxHeartbeats 2000000 in
theorem Counts_any (w : World) (b : Nat) (P : Po) (col : Nat → Nat) (h : Pl w b P col) : Calls Tryz.prog 12 #[.pointer (some ⟨b, 0, none⟩)] w fun e w' => ∃ a c, e = .returned (.slice a P.counts.length c) ∧ IOwn w w' a c P.counts := by
  obtain ⟨D, h⟩ := h
  have h2 := h.ok.l2
  have HQ := hide h.q
  obtain ⟨n, hn⟩ : ∃ n, P.pg.length = n := ⟨_, rfl⟩
  have HN := hide hn
  have c1 := h.q.c1
  rw [hn] at c1 h2
  have hcl : P.counts.length = n := by unfold Po.counts; rw [List.length_map]; exact hn
  rw [hcl]
  have HCL := hide hcl
  have hmk := make_int n (by omega) w
  rw [made_ints] at hmk
  have aw := al w (.cells (vi (List.replicate n 0)).toArray 3)
  have G0 := hide (show Ig (w.alloc (.cells (vi (List.replicate n 0)).toArray 3)) (some ⟨w.heap.size, 0, none⟩) n (fil [] n) by
    have e : fil [] n = List.replicate n 0 := by unfold fil; simp
    rw [e]
    exact Ig.mk (World.alloc_heap_new w _) (by simp) (by unfold maxLen; omega) (by simp [vi]) (by simp [vi]))
  have AW := hide aw
  have ca : (w.alloc (.cells (vi (List.replicate n 0)).toArray 3)).cell? ⟨b, 1, none⟩ = _ := (aw.cell (p := ⟨b, 1, none⟩) (block_lt_of_cell c1)).trans c1
  clear h hn hcl aw
  go_enter Tryz.func12, Tryz.ntmps12
  go_wp2_with fail
  generalize w.alloc (.cells (vi (List.replicate n 0)).toArray 3) = W1 at *
  go_loopw [17] (fun i wr => ∃ k : Nat, k ≤ n ∧ i = .int .i64 (k : Int) ∧ Ig wr (some ⟨w.heap.size, 0, none⟩) n (fil (P.counts.take k) n) ∧ Below w.heap.size w wr) (fun i _ => n - (intOf i).toNat)
  case atStart => exact ⟨0, Nat.zero_le _, rfl, G0.out, AW.out⟩
  case round =>
    obtain ⟨i, hi, rfl, hg, hb⟩ := hrel
    have HG := hide hg
    have HB := hide hb
    clear hg hb G0 AW
    by_cases hlt : i < n
    · have hil : i < P.pg.length := by rw [HN.out]; exact hlt
      obtain ⟨d1, d2⟩ := (HQ.out.keep HB.out).pgAt hil
      have SN := hide (counts_snoc hil)
      obtain ⟨x, hx⟩ : ∃ x, P.pg.getD i Pg.zero = x := ⟨_, rfl⟩
      rw [hx] at d1 d2 SN
      obtain ⟨x0, x1⟩ := x
      simp only at d1 d2 SN
      have tl : (P.counts.take i).length = i := by rw [List.length_take, HCL.out]; omega
      have hiI : (i : Int) < (n : Int) := by omega
      have aw := al wr (.cells #[.int .i64 x0, .bool x1] 83)
      have g1 := HG.out.keep aw
      have cg : (wr.alloc (.cells #[.int .i64 x0, .bool x1] 83)).cell? ⟨w.heap.size, i, none⟩ = _ := g1.cell (i := i) (by rw [fil_length (by rw [tl]; exact hi)]; exact hlt)
      have fg : (wr.alloc (.cells #[.int .i64 x0, .bool x1] 83)).frozen? ⟨w.heap.size, i, none⟩ = false := by
        rcases g1.cases with ⟨h0, _⟩ | ⟨g', cur, h0, hg, _⟩
        · cases h0
        · cases h0; simp [World.frozen?, hg]
      have hws : w.heap.size < wr.heap.size := HG.out.lt rfl
      have G2 := hide (show Ig ((wr.setCell ⟨w.heap.size, i, none⟩ (.int .i64 x0)).alloc (.cells #[.int .i64 x0, .bool x1] 83)) (some ⟨w.heap.size, 0, none⟩) n (fil (P.counts.take (i + 1)) n) by
        have s := HG.out.set i x0
        have f := fil_set (L := P.counts.take i) (n := n) (by rw [tl]; exact hlt) x0
        rw [tl] at f
        rw [f, ← SN.out] at s
        exact s.keep (al _ _))
      have B2 := hide (show Below w.heap.size w ((wr.setCell ⟨w.heap.size, i, none⟩ (.int .i64 x0)).alloc (.cells #[.int .i64 x0, .bool x1] 83)) from bt ((But.setCell (S := fun _ => False) (But.ofBelow HB.out) (p := ⟨w.heap.size, i, none⟩) (fun h => by have h : w.heap.size < w.heap.size := h; omega) _).below (fun _ _ h => h)) (al _ _))
      clear hx aw g1 tl
      go_wp2
      go_roundw
      case rel => exact ⟨i + 1, by omega, by go_num, G2.out, B2.out⟩
      case measure => simp [intOf]; omega
    · obtain rfl : i = n := by omega
      go_wp2
      go_ret
      refine ⟨_, _, rfl, ?_, fun x hx => .inr (by cases hx; exact Nat.le_refl _), HB.out⟩
      have g := HG.out
      rw [show P.counts.take i = P.counts by rw [← HCL.out, List.take_length]] at g
      have e : fil P.counts i = P.counts := by unfold fil; rw [HCL.out, Nat.sub_self]; simp
      rwa [e] at g
end Go.Proofs.YtbhigodjbfoeoaaGreat.Q
end
section
namespace Go.Proofs.YtbhigodjbfoeoaaGreat
set_option linter.unusedVariables false
set_option linter.unusedSimpArgs false
open Go.RowKit
structure Rd where
  R : Int
  aC : Option Addr
  cC : Nat
  C : List Int
  aL : Option Addr
  cL : Nat
  L : List Bool
  aP : Option Addr
  cP : Nat
  P : List Pv
  aA : Option Addr
  nA : Nat
  cA : Nat
  fl : Int
  hush : Bool
def Rd.box (D : Rd) : Array Value := #[.int .i64 D.R, .slice D.aC D.C.length D.cC, .slice D.aL D.L.length D.cL, .slice D.aP D.P.length D.cP, .slice D.aA D.nA D.cA, .int .i64 D.fl, .bool D.hush]
def vbl (L : List Bool) : List Value := L.map Value.bool
def vpg (P : List Pv) : List Value := (P.map fun p => p.cs.toList).flatten
theorem vpg_length : ∀ (L : List Pv), (vpg L).length = L.length * 5
  | [] => rfl
  | x :: L => by
    have := vpg_length L
    simp only [vpg, List.map_cons, List.flatten_cons, List.length_append, List.length_cons, Pv.cs] at this ⊢
    simp only [List.length_nil] at this ⊢
    omega
theorem vpg_get : ∀ (L : List Pv) (i k : Nat), i < L.length → k < 5 → (vpg L)[i * 5 + k]? = (L.getD i Pv.zero).cs.toList[k]?
  | [], i, k, h, _ => absurd h (Nat.not_lt_zero _)
  | x :: L, 0, k, h, hk => by
    have hl : x.cs.toList.length = 5 := rfl
    simp only [vpg, List.map_cons, List.flatten_cons, Nat.zero_mul, Nat.zero_add]
    rw [List.getElem?_append_left (by omega)]
    rfl
  | x :: L, i + 1, k, h, hk => by
    have hl : x.cs.toList.length = 5 := rfl
    have ih := vpg_get L i k (by simpa using h) hk
    simp only [vpg, List.map_cons, List.flatten_cons] at ih ⊢
    rw [List.getElem?_append_right (by omega), hl, show (i + 1) * 5 + k - 5 = i * 5 + k by omega, ih]
    rfl
structure Rq (w : World) (rb : Nat) (D : Rd) (col : Nat → Nat) : Prop where
  box : w.heap[rb]? = some (.cells D.box 89 (0, 0))
  cr : Q.Ig w D.aC D.cC D.C
  lr : Q.Gw 4 1 w D.aL D.cL D.L.length (vbl D.L)
  pr : Q.Gw 93 5 w D.aP D.cP D.P.length (vpg D.P)
  pz : ∀ p ∈ D.P, Pz (fun k => col k = 6) w p
  ps : ∀ p ∈ D.P, p.pg.check = 0 ∨ p = Pv.zero
  cb : col rb = 1
  cc : ∀ x, D.aC = some x → col x.block = 2
  cl : ∀ x, D.aL = some x → col x.block = 3
  cp : ∀ x, D.aP = some x → col x.block = 4
  lt : ∀ k, col k ≠ 0 → k < w.heap.size
  nL : D.L.length = D.C.length
  nP : D.P.length = D.C.length
  n6 : D.C.length ≤ 65536
theorem Rq.but {S : Nat → Prop} {w w' : World} {rb : Nat} {D : Rd} {col : Nat → Nat} (h : Rq w rb D col) (hb : But S w w') (hn : ∀ k, col k ≠ 0 → ¬ S k) : Rq w' rb D col := by
  have nz : ∀ {k c : Nat}, col k = c + 1 → ¬ S k := fun e => hn _ (by omega)
  exact ⟨hb.same h.box (nz (c := 0) h.cb), h.cr.but hb (fun x hx => nz (c := 1) (h.cc x hx)), h.lr.but hb (fun x hx => nz (c := 2) (h.cl x hx)), h.pr.but hb (fun x hx => nz (c := 3) (h.cp x hx)), fun p hp => (h.pz p hp).but hb (fun k _ e => nz (c := 5) e), h.ps, h.cb, h.cc, h.cl, h.cp, fun k hk => Nat.lt_of_lt_of_le (h.lt k hk) hb.size, h.nL, h.nP, h.n6⟩
theorem Rq.keep {w w' : World} {rb : Nat} {D : Rd} {col : Nat → Nat} (h : Rq w rb D col) (hb : Below w.heap.size w w') : Rq w' rb D col := h.but (S := fun _ => False) (But.ofBelow hb) (fun _ _ h => h)
theorem Rq.lb {w : World} {rb : Nat} {D : Rd} {col : Nat → Nat} (h : Rq w rb D col) : rb < w.heap.size := (Array.getElem?_eq_some_iff.1 h.box).1
theorem Rq.cells {w : World} {rb : Nat} {D : Rd} {col : Nat → Nat} (h : Rq w rb D col) : w.cell? ⟨rb, 0, none⟩ = some (.int .i64 D.R) ∧ w.cell? ⟨rb, 1, none⟩ = some (.slice D.aC D.C.length D.cC) ∧ w.cell? ⟨rb, 2, none⟩ = some (.slice D.aL D.L.length D.cL) ∧ w.cell? ⟨rb, 3, none⟩ = some (.slice D.aP D.P.length D.cP) ∧ w.cell? ⟨rb, 6, none⟩ = some (.bool D.hush) := by
  rw [cell_of_row _ _ _ _ _ _ h.box, cell_of_row _ _ _ _ _ _ h.box, cell_of_row _ _ _ _ _ _ h.box, cell_of_row _ _ _ _ _ _ h.box, cell_of_row _ _ _ _ _ _ h.box]
  exact ⟨rfl, rfl, rfl, rfl, rfl⟩
def Rd.has (D : Rd) (z : Int) : Bool := decide (1 ≤ z) && decide (z ≤ D.C.length)
def Rd.count (D : Rd) (z : Int) : Int := if D.has z then D.C.getD (z - 1).toNat 0 else 0
def Rd.lasts (D : Rd) (z : Int) : Bool := D.L.getD (z - 1).toNat false
def Rd.on (D : Rd) (z : Int) : Pv := D.P.getD (z - 1).toNat Pv.zero
def Rd.state (D : Rd) (z : Int) : Nat := if D.has z then Q.stt (D.C.getD (z - 1).toNat 0, D.lasts z) else 0
theorem Rd.has_iff {D : Rd} {z : Int} : D.has z = true ↔ 1 ≤ z ∧ z ≤ D.C.length := by unfold Rd.has; simp
theorem Rq.cAt {w : World} {rb : Nat} {D : Rd} {col : Nat → Nat} (h : Rq w rb D col) {i : Nat} (hi : i < D.C.length) : ∃ g, D.aC = some ⟨g, 0, none⟩ ∧ w.cell? ⟨g, i, none⟩ = some (.int .i64 (D.C.getD i 0)) := by
  rcases h.cr.cases with ⟨_, _, e⟩ | ⟨g, cur, e, _⟩
  · rw [e] at hi; exact absurd hi (Nat.not_lt_zero _)
  · refine ⟨g, e, ?_⟩
    have k := h.cr
    rw [e] at k
    exact k.cell hi
theorem Rq.lAt {w : World} {rb : Nat} {D : Rd} {col : Nat → Nat} (h : Rq w rb D col) {i : Nat} (hi : i < D.C.length) : ∃ g, D.aL = some ⟨g, 0, none⟩ ∧ w.cell? ⟨g, i, none⟩ = some (.bool (D.L.getD i false)) := by
  have hl : i < D.L.length := by rw [h.nL]; exact hi
  obtain ⟨g, e⟩ := h.lr.addr (by omega)
  refine ⟨g, e, ?_⟩
  have k := h.lr
  rw [e] at k
  exact k.cell (by simp [vbl, hl])
theorem Rq.pAt {w : World} {rb : Nat} {D : Rd} {col : Nat → Nat} (h : Rq w rb D col) {i : Nat} (hi : i < D.C.length) : ∃ g, D.aP = some ⟨g, 0, none⟩ ∧ ∀ k u, k < 5 → (D.P.getD i Pv.zero).cs.toList[k]? = some u → w.cell? ⟨g, i * 5 + k, none⟩ = some u := by
  have hl : i < D.P.length := by rw [h.nP]; exact hi
  obtain ⟨g, e⟩ := h.pr.addr (by omega)
  refine ⟨g, e, fun k u hk hu => ?_⟩
  have r := h.pr
  rw [e] at r
  exact r.cell (by rw [vpg_get D.P i k hl hk]; exact hu)
theorem Rd.on_mem {w : World} {rb : Nat} {D : Rd} {col : Nat → Nat} (h : Rq w rb D col) {z : Int} (hz : D.has z = true) : D.on z ∈ D.P := by
  obtain ⟨h1, h2⟩ := Rd.has_iff.1 hz
  have : (z - 1).toNat < D.P.length := by rw [h.nP]; omega
  unfold Rd.on
  generalize (z - 1).toNat = k at this
  simp [this]
theorem sml_ps {p : Pv} (h : p.pg.check = 0 ∨ p = Pv.zero) : Sml p ∧ p.items.length ≤ 1048576 := by
  rcases h with h | rfl
  · obtain ⟨h1, h2, h3, h4⟩ := Pg.check_zero.1 h
    unfold Pg.form at h2
    have hi : p.pg.items.length = p.items.length := List.length_map _
    have hdat : p.pg.data = p.data := rfl
    have hil : p.items.length ≤ 8 ∧ p.data.length ≤ 480 := by
      rw [hi, hdat] at h2
      split at h2
      · simp only [Bool.and_eq_true, decide_eq_true_eq] at h2; omega
      · simp only [Bool.and_eq_true, decide_eq_true_eq] at h2; omega
    refine ⟨⟨by omega, fun x hx => ?_⟩, by omega⟩
    obtain ⟨i, hl, e⟩ := List.getElem_of_mem hx
    have hat : p.pg.at i = x.it := by
      unfold Pg.at
      show (p.items.map Iv.it).getD i It.zero = x.it
      simp [List.getD_eq_getElem?_getD, hl, e]
    have k := h3 i (by rw [hi]; exact hl)
    unfold Pg.itemE at k
    have a1 : p.pg.keyOk i = true := by
      cases e : p.pg.keyOk i with
      | true => rfl
      | false => rw [if_pos e] at k; cases k
    rw [if_neg (by rw [a1]; decide)] at k
    have a2 : p.pg.ordOk i = true := by
      cases e : p.pg.ordOk i with
      | true => rfl
      | false => rw [if_pos e] at k; cases k
    rw [if_neg (by rw [a2]; decide)] at k
    have a3 : (p.pg.at i).valOk p.pg.kind = true := by
      cases e : (p.pg.at i).valOk p.pg.kind with
      | true => rfl
      | false => rw [if_pos e] at k; cases k
    rw [hat] at a3
    unfold Pg.keyOk at a1
    rw [hat] at a1
    unfold It.valOk at a3
    have e1 : x.it.key = x.key := rfl
    have e2 : x.it.val = x.val := rfl
    rw [e1] at a1
    rw [e2] at a3
    constructor
    · split at a1
      · simp at a1; rw [a1]; exact Nat.zero_le _
      · simp only [Bool.and_eq_true, decide_eq_true_eq] at a1; omega
    · split at a3
      · simp only [Bool.and_eq_true, decide_eq_true_eq] at a3; omega
      · split at a3
        · cases a3
        · split at a3
          · simp only [decide_eq_true_eq] at a3; omega
          · simp only [decide_eq_true_eq] at a3; omega
  · exact ⟨⟨Nat.zero_le _, fun x hx => absurd hx (List.not_mem_nil)⟩, Nat.zero_le _⟩
set_option maxHeartbeats 1000000 in
theorem refsAre_any (w : World) (r : Int) : Calls Tryz.prog 63 #[.int .i64 r] w fun e w' => e = .returned (.bool (decide (2 ≤ r) && decide (r < 65536))) ∧ w' = w := by
  by_cases h : 2 ≤ r
  · go_enter Tryz.func63, Tryz.ntmps63
    go_wp2
    go_ret
    exact ⟨by simp [h], rfl⟩
  · go_enter Tryz.func63, Tryz.ntmps63
    go_wp2
    go_ret
    exact ⟨by rw [decide_eq_false (show ¬ (2 ≤ r) by omega)]; rfl, rfl⟩
set_option maxHeartbeats 1000000 in
theorem rIs_any (w : World) (rb : Nat) (D : Rd) (col : Nat → Nat) (h : Rq w rb D col) (n : Int) : Calls Tryz.prog 85 #[.pointer (some ⟨rb, 0, none⟩), .int .i64 n] w fun e w' => e = .returned (.bool (D.has n)) ∧ w' = w := by
  obtain ⟨c0, c1, c2, c3, c6⟩ := h.cells
  unfold Rd.has
  generalize D.C.length = m at *
  by_cases h1 : 1 ≤ n
  · go_enter Tryz.func85, Tryz.ntmps85
    go_wp2
    go_ret
    exact ⟨by simp [h1], rfl⟩
  · go_enter Tryz.func85, Tryz.ntmps85
    go_wp2
    go_ret
    exact ⟨by rw [decide_eq_false (show ¬ (1 ≤ n) by omega)]; rfl, rfl⟩
set_option maxHeartbeats 2000000 in
theorem rThere_any (w : World) (rb : Nat) (D : Rd) (col : Nat → Nat) (h : Rq w rb D col) (n : Int) : Calls Tryz.prog 60 #[.pointer (some ⟨rb, 0, none⟩), .int .i64 n] w fun e w' => e = .returned (.bool (decide (0 < D.count n))) ∧ w' = w := by
  obtain ⟨c0, c1, c2, c3, c6⟩ := h.cells
  have IS := hide (rIs_any w rb D col h n)
  by_cases hh : D.has n = true
  · obtain ⟨h1, h2⟩ := Rd.has_iff.1 hh
    obtain ⟨i, hi⟩ : ∃ i : Nat, n = (i : Int) + 1 := ⟨(n - 1).toNat, by omega⟩
    subst hi
    have hi : i < D.C.length := by omega
    obtain ⟨g, e, cA⟩ := h.cAt hi
    have hc : D.count ((i : Int) + 1) = D.C.getD i 0 := by unfold Rd.count; rw [if_pos hh]; simp
    rw [hc]
    rw [hh] at IS
    rw [e] at c1
    have hs : (i : Int) + 1 - 1 = (i : Int) := by omega
    have hii : (i : Int) < (D.C.length : Int) := by omega
    have h6 := h.n6
    clear h hc hh
    generalize D.C.length = m at *
    generalize D.C.getD i 0 = x at *
    go_enter Tryz.func60, Tryz.ntmps60
    go_wp2_with fail
    refine IS.out.mono ?_
    rintro _ wq ⟨rfl, hwq⟩
    obtain rfl := hwq.symm
    go_wp2
    go_ret
    exact ⟨rfl, rfl⟩
  · have hh2 : D.has n = false := by simpa using hh
    have hc : D.count n = 0 := by unfold Rd.count; rw [if_neg hh]
    rw [hc]
    rw [hh2] at IS
    clear h hc hh hh2
    go_enter Tryz.func60, Tryz.ntmps60
    go_wp2_with fail
    refine IS.out.mono ?_
    rintro _ wq ⟨rfl, hwq⟩
    obtain rfl := hwq.symm
    go_wp2
    go_ret
    exact ⟨rfl, rfl⟩
set_option maxHeartbeats 1000000 in
theorem rLen_any (w : World) (rb : Nat) (D : Rd) (col : Nat → Nat) (h : Rq w rb D col) : Calls Tryz.prog 42 #[.pointer (some ⟨rb, 0, none⟩)] w fun e w' => e = .returned (.int .i64 ((D.C.length : Nat) : Int)) ∧ w' = w := by
  obtain ⟨c0, c1, c2, c3, c6⟩ := h.cells
  generalize D.C.length = m at *
  go_enter Tryz.func42, Tryz.ntmps42
  go_wp2
  go_ret
  exact ⟨rfl, rfl⟩
set_option maxHeartbeats 2000000 in
theorem rState_any (w : World) (rb : Nat) (D : Rd) (col : Nat → Nat) (h : Rq w rb D col) (n : Int) : Calls Tryz.prog 46 #[.pointer (some ⟨rb, 0, none⟩), .int .i64 n] w fun e w' => e = .returned (.int .i64 ((D.state n : Nat) : Int)) ∧ w' = w := by
  obtain ⟨c0, c1, c2, c3, c6⟩ := h.cells
  have IS := hide (rIs_any w rb D col h n)
  by_cases hh : D.has n = true
  · obtain ⟨h1, h2⟩ := Rd.has_iff.1 hh
    obtain ⟨i, hi⟩ : ∃ i : Nat, n = (i : Int) + 1 := ⟨(n - 1).toNat, by omega⟩
    subst hi
    have hi : i < D.C.length := by omega
    obtain ⟨g, e, cA⟩ := h.cAt hi
    obtain ⟨g2, e2, cB⟩ := h.lAt hi
    have hc : D.state ((i : Int) + 1) = Q.stt (D.C.getD i 0, D.L.getD i false) := by unfold Rd.state Rd.lasts; rw [if_pos hh]; simp
    rw [hc]
    rw [hh] at IS
    rw [e] at c1
    rw [e2, h.nL] at c2
    have hs : (i : Int) + 1 - 1 = (i : Int) := by omega
    have hii : (i : Int) < (D.C.length : Int) := by omega
    have h6 := h.n6
    clear h hc hh e e2
    generalize D.C.length = m at *
    generalize D.C.getD i 0 = x at *
    generalize D.L.getD i false = y at *
    unfold Q.stt
    by_cases hx : x = 0
    · subst hx
      cases y
      · go_enter Tryz.func46, Tryz.ntmps46
        go_wp2_with fail
        refine IS.out.mono ?_
        rintro _ wq ⟨rfl, hwq⟩
        obtain rfl := hwq.symm
        go_wp2
        go_ret
        exact ⟨rfl, rfl⟩
      · go_enter Tryz.func46, Tryz.ntmps46
        go_wp2_with fail
        refine IS.out.mono ?_
        rintro _ wq ⟨rfl, hwq⟩
        obtain rfl := hwq.symm
        go_wp2
        go_ret
        exact ⟨rfl, rfl⟩
    · have ex : (x == 0) = false := by simpa using hx
      simp only [if_neg hx]
      clear hx
      cases y
      · go_enter Tryz.func46, Tryz.ntmps46
        go_wp2_with fail
        refine IS.out.mono ?_
        rintro _ wq ⟨rfl, hwq⟩
        obtain rfl := hwq.symm
        go_wp2
        go_ret
        exact ⟨rfl, rfl⟩
      · go_enter Tryz.func46, Tryz.ntmps46
        go_wp2_with fail
        refine IS.out.mono ?_
        rintro _ wq ⟨rfl, hwq⟩
        obtain rfl := hwq.symm
        go_wp2
        go_ret
        exact ⟨rfl, rfl⟩
  · have hh2 : D.has n = false := by simpa using hh
    have hc : D.state n = 0 := by unfold Rd.state; rw [if_neg hh]
    rw [hc]
    rw [hh2] at IS
    clear h hc hh hh2
    go_enter Tryz.func46, Tryz.ntmps46
    go_wp2_with fail
    refine IS.out.mono ?_
    rintro _ wq ⟨rfl, hwq⟩
    obtain rfl := hwq.symm
    go_wp2
    go_ret
    exact ⟨rfl, rfl⟩
set_option maxHeartbeats 8000000 in
set_option maxRecDepth 8000 in
theorem rRead_any (w : World) (rb : Nat) (D : Rd) (col : Nat → Nat) (h : Rq w rb D col) (n : Int) :
    Calls Tryz.prog 44 #[.pointer (some ⟨rb, 0, none⟩), .int .i64 n] w fun x w' => ∃ q : Pv, x = .returned (.tuple #[q.vl, .int .i64 (if 0 < D.count n then 0 else 15)]) ∧ Pn w w' q ∧ q.items.length ≤ 1048576 ∧ q.pg = (if 0 < D.count n then (D.on n).pg else Pv.zero.pg) ∧ Below w.heap.size w w' := by
  have aB := al w (.cells Pv.zero.cs 93)
  have TH := hide (rThere_any _ rb D col (h.keep aB) n)
  have HX := hide (World.alloc_heap_new w (.cells Pv.zero.cs 93))
  have AB := hide aB
  have hbl := h.lb
  by_cases h1 : 0 < D.count n
  · simp only [if_pos h1]
    have hh : D.has n = true := by
      unfold Rd.count at h1
      split at h1
      · assumption
      · omega
    obtain ⟨k1, k2⟩ := Rd.has_iff.1 hh
    obtain ⟨i, hi⟩ : ∃ i : Nat, n = (i : Int) + 1 := ⟨(n - 1).toNat, by omega⟩
    subst hi
    have hi : i < D.C.length := by omega
    obtain ⟨g, e, hc⟩ := h.pAt hi
    obtain ⟨c0, c1, c2, c3, c6⟩ := h.cells
    rw [e, h.nP] at c3
    have hon : D.on ((i : Int) + 1) = D.P.getD i Pv.zero := by unfold Rd.on; simp
    have hm := Rd.on_mem h hh
    obtain ⟨sm, si⟩ := sml_ps (h.ps _ hm)
    have CO := hide (CopyPage_pn _ (D.on ((i : Int) + 1)) ((h.keep aB).pz _ hm).pi sm.1 si sm.2)
    have SI := hide si
    have hs : (i : Int) + 1 - 1 = (i : Int) := by omega
    have hii : (i : Int) < (D.C.length : Int) := by omega
    have h6 := h.n6
    rw [decide_eq_true h1] at TH
    rw [hon] at CO SI ⊢
    clear h h1 hh hm sm si hon aB c0 c1 c2 c6 k1 k2
    generalize D.C.length = m at *
    obtain ⟨q, hq⟩ : ∃ q, D.P.getD i Pv.zero = q := ⟨_, rfl⟩
    rw [hq] at CO hc SI ⊢
    clear hq
    obtain ⟨kp, lp, aIp, cIp, itp, aDp, cDp, dap, nxp⟩ := q
    have y0 := hc 0 _ (by decide) rfl
    have y1 := hc 1 _ (by decide) rfl
    have y2 := hc 2 _ (by decide) rfl
    have y3 := hc 3 _ (by decide) rfl
    have y4 := hc 4 _ (by decide) rfl
    rw [Nat.add_zero] at y0
    have gl : g < w.heap.size := block_lt_of_cell y0
    clear hc
    unfold Pv.vl at *
    simp only [Pv.cs] at CO HX AB TH y0 y1 y2 y3 y4
    simp only [Pv.zero, List.length_nil] at CO HX AB TH y0 y1 y2 y3 y4 c3
    go_enter Tryz.func44, Tryz.ntmps44
    go_wp2_with fail
    refine TH.out.mono ?_
    rintro _ wq ⟨rfl, hwq⟩
    obtain rfl := hwq.symm
    clear hwq
    go_wp2_with fail
    refine CO.out.mono ?_
    rintro _ w2 ⟨r, rfl, hP, hl, hg, hb⟩
    have HP := hide (hP.pre AB.out.size)
    have HG := hide hg
    have HL := hide hl
    have HB := hide (bt AB.out hb)
    have HX2 := hide ((hb.block w.heap.size (Array.getElem?_eq_some_iff.1 HX.out).1).trans HX.out)
    clear hP hg hb CO TH y0 y1 y2 y3 y4 c3 hl
    go_wp2_with (first | (refine wpList_store_row rfl 93 _ _ rfl w.heap.size _ rfl rfl 93 _ HX2.out sizePage rfl (by simp [Value.oneCell']) ?_) | fail)
    refine bodyPost_ret (v := .tuple #[.agg _, _]) (results_cell_one Tryz.results44 _ _ w.heap.size 93 _ (0, 0) _ rfl (setRow_heap _ _ _ _ _ _ HX2.out) Tryz.underlying93 rfl sizePage) rfl ?_
    exact ⟨r, rfl, HP.out.row HX2.out (by decide) (by decide) _, by rw [HL.out]; exact SI.out, HG.out, ((But.ofBelow (S := fun k => k = w.heap.size) HB.out).trans (Q.setRow_but _ _ _) (fun _ _ e => e)).below (fun k hk e => by omega)⟩
  · simp only [if_neg h1]
    rw [decide_eq_false h1] at TH
    clear h1 h
    unfold Pv.vl at *
    simp only [Pv.cs] at HX AB TH
    simp only [Pv.zero, List.length_nil] at HX AB TH
    go_enter Tryz.func44, Tryz.ntmps44
    go_wp2_with fail
    refine TH.out.mono ?_
    rintro _ wq ⟨rfl, hwq⟩
    obtain rfl := hwq.symm
    clear hwq
    go_wp2_with (first | (refine wpList_store_row rfl 93 _ _ rfl w.heap.size _ rfl rfl 93 _ HX.out sizePage rfl (by simp [Value.oneCell']) ?_) | fail)
    refine bodyPost_ret (v := .tuple #[.agg _, _]) (results_cell_one Tryz.results44 _ _ w.heap.size 93 _ (0, 0) _ rfl (setRow_heap _ _ _ _ _ _ HX.out) Tryz.underlying93 rfl sizePage) rfl ?_
    exact ⟨Pv.zero, rfl, Pn.zero _ _, Nat.zero_le _, rfl, ((But.ofBelow (S := fun k => k = w.heap.size) AB.out).trans (Q.setRow_but _ _ _) (fun _ _ e => e)).below (fun k hk e => by omega)⟩
end Go.Proofs.YtbhigodjbfoeoaaGreat
end
section
namespace Go.Proofs.YtbhigodjbfoeoaaGreat
set_option linter.unusedVariables false
set_option linter.unusedSimpArgs false
open Go.RowKit
theorem Q.Gw.blk {e : TypeId} {sz : Nat} {w : World} {a : Option Addr} {cap n : Nat} {C : List Value} (h : Q.Gw e sz w a cap n C) {x : Addr} (hx : a = some x) : ∃ cur, w.heap[x.block]? = some (.cells cur e (0, 0)) := by
  rcases h.cases with ⟨e1, _⟩ | ⟨g, cur, e1, hg, _⟩
  · rw [e1] at hx; cases hx
  · rw [e1] at hx; cases hx; exact ⟨cur, hg⟩
theorem blk_ty {w : World} {k k' : Nat} {c c' : Array Value} {t t' : TypeId} (h : w.heap[k]? = some (.cells c t (0, 0))) (h' : w.heap[k']? = some (.cells c' t' (0, 0))) (hn : t ≠ t') : k ≠ k' := fun e => by
  rw [e, h'] at h
  simp only [Option.some.injEq, Obj.cells.injEq] at h
  exact hn h.2.1.symm
theorem run_apG {ts te : TypeId} {sz bs : Nat} {z : Value} (hu : Tryz.prog.underlying ts = some (.slice te)) (hinfo : (Tryz.prog.info? te).map (fun i => (i.zero, i.size, i.bytes)) = some (some z, sz, bs)) (hz : z.cells.size = sz) (h0 : 0 < sz) (w : World) (ty : TypeId) (a : Option Addr) (n cap : Nat) (C : List Value) (hR : Q.Gw te sz w a cap n C) (ad : Addr) (c : Nat) (xs : List Value) (hl : xs.length = 1 * sz) (hc : ∀ j u, xs[j]? = some u → w.cell? (ad.add j) = some u) (h1 : ∀ u ∈ xs, u.oneCell' = true) (hm : n + 1 ≤ maxLen) (hlen : (n + 1) * bs ≤ 140737488355328) :
    ∃ g cap' w', (Builtin.append_ #[ts, ts] ty #[.slice a n cap, .slice (some ad) 1 c]).run Tryz.prog w = .ok (.slice (some ⟨g, 0, none⟩) (n + 1) cap') w' ∧
      Q.Gw te sz w' (some ⟨g, 0, none⟩) cap' (n + 1) (C ++ xs) ∧ New w a (some ⟨g, 0, none⟩) ∧ But (Q.InA a) w w' := by
  obtain ⟨i0, hi, hz0, hz1, hz2⟩ := info_parts hinfo
  obtain ⟨g, cap', w', hr, k1, k2, k3, k4⟩ := run_append_lies (P := Tryz.prog) w ts ty 0 te i0 z sz bs hu hi hz0 hz1 hz2 hz h0 (.slice a n cap) n C hR ad 1 c xs hl hc h1 (by decide) hm hlen (Nat.zero_le _) w.heap.size rfl
  rw [ob_eq] at k2 k3
  refine ⟨g, cap', w', hr, k1, ?_, But.inA k2⟩
  intro y hy
  simp only [Option.some.injEq] at hy
  subst hy
  rcases k3 with k3 | k3
  · obtain ⟨z, hz, e⟩ := map_some k3
    exact .inl ⟨z, hz, e⟩
  · exact .inr (by show _ ≤ g; omega)
theorem wpList_apG {ts te : TypeId} {sz bs : Nat} {z : Value} (hu : Tryz.prog.underlying ts = some (.slice te)) (hinfo : (Tryz.prog.info? te).map (fun i => (i.zero, i.size, i.bytes)) = some (some z, sz, bs)) (hz : z.cells.size = sz) (h0 : 0 < sz) {w : World} {ops : Array Oper} {rest : List Oper} {o : Oper} {a : Act} {Q' : Exit → Act → World → Prop} (hgd : o.guard = none) (s x : Operand)
    (ho : o.op = .call { callee := .builtin .append, args := #[s, x], argTypes := #[ts, ts] }) (ao : Option Addr) (n cap : Nat) (C : List Value) (hs : a.eval s = .slice ao n cap) (hR : Q.Gw te sz w ao cap n C)
    (ad : Addr) (c : Nat) (xs : List Value) (hx : a.eval x = .slice (some ad) 1 c) (hl : xs.length = 1 * sz) (hc : ∀ j u, xs[j]? = some u → w.cell? (ad.add j) = some u) (h1 : ∀ u ∈ xs, u.oneCell' = true) (hm : n + 1 ≤ maxLen) (hlen : (n + 1) * bs ≤ 140737488355328)
    (h : ∀ g cap' w', Q.Gw te sz w' (some ⟨g, 0, none⟩) cap' (n + 1) (C ++ xs) → New w ao (some ⟨g, 0, none⟩) → But (Q.InA ao) w w' → wpList Tryz.prog ops Q' rest (a.put o.dst (.slice (some ⟨g, 0, none⟩) (n + 1) cap')) w') : wpList Tryz.prog ops Q' (o :: rest) a w :=
  wpList_plain hgd fun K hK => by
    obtain ⟨g, cap', w', hr, k1, k2, k3⟩ := run_apG hu hinfo hz h0 w o.type ao n cap C hR ad c xs hl hc h1 hm hlen
    unfold Oper.wp execOp
    simp only [ho, resolve, invoke, builtin, Sem.run_bind, Sem.run_pure, Result.andThen_ok, List.map_toArray, List.map_cons, List.map_nil, hs, hx, hr]
    exact hK _ _ (h g cap' w' k1 k2 k3)
theorem infoBool : (Tryz.prog.info? 4).map (fun i => (i.zero, i.size, i.bytes)) = some (some (.bool false), 1, 1) := by kernel_rfl
theorem infoPage2 : (Tryz.prog.info? 93).map (fun i => (i.zero, i.size, i.bytes)) = some (some (.agg Pv.zero.cs), 5, 72) := by kernel_rfl
theorem infoInt2 : (Tryz.prog.info? 3).map (fun i => (i.zero, i.size, i.bytes)) = some (some (.int .i64 0), 1, 8) := by kernel_rfl
theorem vi_snoc (l : List Int) (x : Int) : Q.vi l ++ [.int .i64 x] = Q.vi (l ++ [x]) := by simp [Q.vi]
theorem vbl_snoc (l : List Bool) (x : Bool) : vbl l ++ [.bool x] = vbl (l ++ [x]) := by simp [vbl]
theorem vpg_snoc (l : List Pv) (x : Pv) : vpg l ++ x.cs.toList = vpg (l ++ [x]) := by simp [vpg]
structure Rn (w wx : World) (rb : Nat) (D : Rd) : Prop where
  box : wx.heap[rb]? = some (.cells D.box 89 (0, 0))
  cr : Q.Gw 3 1 wx D.aC D.cC D.C.length (Q.vi D.C)
  lr : Q.Gw 4 1 wx D.aL D.cL D.L.length (vbl D.L)
  pr : Q.Gw 93 5 wx D.aP D.cP D.P.length (vpg D.P)
  pn : ∀ p ∈ D.P, Pn w wx p
  ps : ∀ p ∈ D.P, p.pg.check = 0 ∨ p = Pv.zero
  nb : w.heap.size ≤ rb
  nC : New w none D.aC
  nl : New w none D.aL
  np : New w none D.aP
  b : Below w.heap.size w wx
theorem Rn.keep {w wx wy : World} {rb : Nat} {D : Rd} (h : Rn w wx rb D) (hb : Below wx.heap.size wx wy) : Rn w wy rb D :=
  ⟨blk13 h.box hb, h.cr.keep hb, h.lr.keep hb, h.pr.keep hb, fun p hp => (h.pn p hp).keep hb, h.ps, h.nb, h.nC, h.nl, h.np, bt h.b hb⟩
theorem Rn.lb {w wx : World} {rb : Nat} {D : Rd} (h : Rn w wx rb D) : rb < wx.heap.size := (Array.getElem?_eq_some_iff.1 h.box).1
theorem Rn.cells {w wx : World} {rb : Nat} {D : Rd} (h : Rn w wx rb D) : wx.cell? ⟨rb, 0, none⟩ = some (.int .i64 D.R) ∧ wx.cell? ⟨rb, 1, none⟩ = some (.slice D.aC D.C.length D.cC) ∧ wx.cell? ⟨rb, 2, none⟩ = some (.slice D.aL D.L.length D.cL) ∧ wx.cell? ⟨rb, 3, none⟩ = some (.slice D.aP D.P.length D.cP) ∧ wx.frozen? ⟨rb, 1, none⟩ = false ∧ wx.frozen? ⟨rb, 2, none⟩ = false ∧ wx.frozen? ⟨rb, 3, none⟩ = false := by
  rw [cell_of_row _ _ _ _ _ _ h.box, cell_of_row _ _ _ _ _ _ h.box, cell_of_row _ _ _ _ _ _ h.box, cell_of_row _ _ _ _ _ _ h.box]
  exact ⟨rfl, rfl, rfl, rfl, by simp [World.frozen?, h.box], by simp [World.frozen?, h.box], by simp [World.frozen?, h.box]⟩
theorem new_more {w W : World} {a : Option Addr} {g : Nat} (h : New w none a) (hN : New W a (some ⟨g, 0, none⟩)) (hs : w.heap.size ≤ W.heap.size) : New w none (some ⟨g, 0, none⟩) := fun y hy => by
  cases hy
  refine .inr ?_
  rcases hN ⟨g, 0, none⟩ rfl with ⟨z, hz, e⟩ | e
  · have e : z.block = g := e
    show _ ≤ g
    rw [← e]
    exact vnew_at h hz
  · exact Nat.le_trans hs e
theorem Rn.low {w W w5 : World} {a : Option Addr} {rb : Nat} {i : Nat} {v : Value} (hb : Below w.heap.size w W) (hn : New w none a) (hB : But (Q.InA a) W w5) (hr : w.heap.size ≤ rb) : Below w.heap.size w (w5.setCell ⟨rb, i, none⟩ v) := by
  have b1 : But (fun k => k = rb ∨ Q.InA a k) w w5 := (But.ofBelow (S := fun k => k = rb ∨ Q.InA a k) hb).trans hB (fun _ _ e => .inr e)
  exact (b1.setCell (p := ⟨rb, i, none⟩) (fun _ => .inl rfl) v).below (fun k hk e => by
    rcases e with e | ⟨y, hy, e⟩
    · omega
    · have := vnew_at hn hy; omega)
theorem Rn.apC {w W w5 : World} {rb : Nat} {D : Rd} (h : Rn w W rb D) {g c : Nat} {x : Int} (hR : Q.Gw 3 1 w5 (some ⟨g, 0, none⟩) c (D.C.length + 1) (Q.vi D.C ++ [Value.int .i64 x])) (hN : New W D.aC (some ⟨g, 0, none⟩)) (hB : But (Q.InA D.aC) W w5) :
    Rn w (w5.setCell ⟨rb, 1, none⟩ (.slice (some ⟨g, 0, none⟩) (D.C.length + 1) c)) rb { D with aC := some ⟨g, 0, none⟩, cC := c, C := D.C ++ [x] } := by
  have nI : ∀ {t : TypeId} {k : Nat} {cs : Array Value}, W.heap[k]? = some (.cells cs t (0, 0)) → t ≠ 3 → ¬ Q.InA D.aC k := fun hk ht ⟨y, hy, e⟩ => by
    obtain ⟨cur, hc⟩ := h.cr.blk hy
    exact blk_ty hk hc ht e.symm
  have b5 : w5.heap[rb]? = some (.cells D.box 89 (0, 0)) := hB.same h.box (nI h.box (by decide))
  have bs : But (fun k => k = rb) w5 (w5.setCell ⟨rb, 1, none⟩ (.slice (some ⟨g, 0, none⟩) (D.C.length + 1) c)) := (But.refl (fun k => k = rb) w5).setCell (p := ⟨rb, 1, none⟩) (fun _ => rfl) _
  have nb : ∀ {t : TypeId} {k : Nat} {cs : Array Value}, w5.heap[k]? = some (.cells cs t (0, 0)) → t ≠ 89 → ¬ (k = rb) := fun hk ht e => blk_ty hk b5 ht e
  have mv : ∀ {e : TypeId} {sz : Nat} {a : Option Addr} {cap n : Nat} {C : List Value}, e ≠ 3 → e ≠ 89 → Q.Gw e sz W a cap n C → Q.Gw e sz (w5.setCell ⟨rb, 1, none⟩ (.slice (some ⟨g, 0, none⟩) (D.C.length + 1) c)) a cap n C := fun h1 h2 hg => by
    have k5 := hg.but hB (fun y hy => by obtain ⟨cur, hc⟩ := hg.blk hy; exact nI hc h1)
    exact k5.but bs (fun y hy => by obtain ⟨cur, hc⟩ := k5.blk hy; exact nb hc h2)
  have mp : ∀ p : Pv, Pn w W p → Pn w (w5.setCell ⟨rb, 1, none⟩ (.slice (some ⟨g, 0, none⟩) (D.C.length + 1) c)) p := fun p hp => by
    have p5 := hp.but hB (fun k ⟨y, hy, e⟩ => by obtain ⟨cur, hc⟩ := h.cr.blk hy; exact ⟨3, cur, by rw [← e]; exact hc, by decide, by decide⟩)
    exact p5.but bs (fun k e => ⟨89, D.box, by rw [e]; exact b5, by decide, by decide⟩)
  refine ⟨?_, (by show Q.Gw _ _ _ _ _ (D.C ++ [x]).length _; rw [List.length_append, ← vi_snoc]; exact hR.but bs (fun y hy => by obtain ⟨cur, hc⟩ := hR.blk hy; exact nb hc (by decide))), mv (by decide) (by decide) h.lr, mv (by decide) (by decide) h.pr, fun p hp => mp p (h.pn p hp), h.ps, h.nb, new_more h.nC hN h.b.size, h.nl, h.np, Rn.low h.b h.nC hB h.nb⟩
  rw [heap_setCell_same _ _ _ _ _ _ b5]
  show some (Obj.cells _ _ _) = some (Obj.cells (Rd.box _) _ _)
  unfold Rd.box
  rw [List.length_append]
  rfl
theorem Rn.apL {w W w5 : World} {rb : Nat} {D : Rd} (h : Rn w W rb D) {g c : Nat} {x : Bool} (hR : Q.Gw 4 1 w5 (some ⟨g, 0, none⟩) c (D.L.length + 1) (vbl D.L ++ [Value.bool x])) (hN : New W D.aL (some ⟨g, 0, none⟩)) (hB : But (Q.InA D.aL) W w5) :
    Rn w (w5.setCell ⟨rb, 2, none⟩ (.slice (some ⟨g, 0, none⟩) (D.L.length + 1) c)) rb { D with aL := some ⟨g, 0, none⟩, cL := c, L := D.L ++ [x] } := by
  have nI : ∀ {t : TypeId} {k : Nat} {cs : Array Value}, W.heap[k]? = some (.cells cs t (0, 0)) → t ≠ 4 → ¬ Q.InA D.aL k := fun hk ht ⟨y, hy, e⟩ => by
    obtain ⟨cur, hc⟩ := h.lr.blk hy
    exact blk_ty hk hc ht e.symm
  have b5 : w5.heap[rb]? = some (.cells D.box 89 (0, 0)) := hB.same h.box (nI h.box (by decide))
  have bs : But (fun k => k = rb) w5 (w5.setCell ⟨rb, 2, none⟩ (.slice (some ⟨g, 0, none⟩) (D.L.length + 1) c)) := (But.refl (fun k => k = rb) w5).setCell (p := ⟨rb, 2, none⟩) (fun _ => rfl) _
  have nb : ∀ {t : TypeId} {k : Nat} {cs : Array Value}, w5.heap[k]? = some (.cells cs t (0, 0)) → t ≠ 89 → ¬ (k = rb) := fun hk ht e => blk_ty hk b5 ht e
  have mv : ∀ {e : TypeId} {sz : Nat} {a : Option Addr} {cap n : Nat} {C : List Value}, e ≠ 4 → e ≠ 89 → Q.Gw e sz W a cap n C → Q.Gw e sz (w5.setCell ⟨rb, 2, none⟩ (.slice (some ⟨g, 0, none⟩) (D.L.length + 1) c)) a cap n C := fun h1 h2 hg => by
    have k5 := hg.but hB (fun y hy => by obtain ⟨cur, hc⟩ := hg.blk hy; exact nI hc h1)
    exact k5.but bs (fun y hy => by obtain ⟨cur, hc⟩ := k5.blk hy; exact nb hc h2)
  have mp : ∀ p : Pv, Pn w W p → Pn w (w5.setCell ⟨rb, 2, none⟩ (.slice (some ⟨g, 0, none⟩) (D.L.length + 1) c)) p := fun p hp => by
    have p5 := hp.but hB (fun k ⟨y, hy, e⟩ => by obtain ⟨cur, hc⟩ := h.lr.blk hy; exact ⟨4, cur, by rw [← e]; exact hc, by decide, by decide⟩)
    exact p5.but bs (fun k e => ⟨89, D.box, by rw [e]; exact b5, by decide, by decide⟩)
  refine ⟨?_, mv (by decide) (by decide) h.cr, (by show Q.Gw _ _ _ _ _ (D.L ++ [x]).length _; rw [List.length_append, ← vbl_snoc]; exact hR.but bs (fun y hy => by obtain ⟨cur, hc⟩ := hR.blk hy; exact nb hc (by decide))), mv (by decide) (by decide) h.pr, fun p hp => mp p (h.pn p hp), h.ps, h.nb, h.nC, new_more h.nl hN h.b.size, h.np, Rn.low h.b h.nl hB h.nb⟩
  rw [heap_setCell_same _ _ _ _ _ _ b5]
  show some (Obj.cells _ _ _) = some (Obj.cells (Rd.box _) _ _)
  unfold Rd.box
  rw [List.length_append]
  rfl
theorem Rn.apP {w W w5 : World} {rb : Nat} {D : Rd} (h : Rn w W rb D) {g c : Nat} {x : Pv} (hx : Pn w W x) (hxs : x.pg.check = 0 ∨ x = Pv.zero) (hR : Q.Gw 93 5 w5 (some ⟨g, 0, none⟩) c (D.P.length + 1) (vpg D.P ++ x.cs.toList)) (hN : New W D.aP (some ⟨g, 0, none⟩)) (hB : But (Q.InA D.aP) W w5) :
    Rn w (w5.setCell ⟨rb, 3, none⟩ (.slice (some ⟨g, 0, none⟩) (D.P.length + 1) c)) rb { D with aP := some ⟨g, 0, none⟩, cP := c, P := D.P ++ [x] } := by
  have nI : ∀ {t : TypeId} {k : Nat} {cs : Array Value}, W.heap[k]? = some (.cells cs t (0, 0)) → t ≠ 93 → ¬ Q.InA D.aP k := fun hk ht ⟨y, hy, e⟩ => by
    obtain ⟨cur, hc⟩ := h.pr.blk hy
    exact blk_ty hk hc ht e.symm
  have b5 : w5.heap[rb]? = some (.cells D.box 89 (0, 0)) := hB.same h.box (nI h.box (by decide))
  have bs : But (fun k => k = rb) w5 (w5.setCell ⟨rb, 3, none⟩ (.slice (some ⟨g, 0, none⟩) (D.P.length + 1) c)) := (But.refl (fun k => k = rb) w5).setCell (p := ⟨rb, 3, none⟩) (fun _ => rfl) _
  have nb : ∀ {t : TypeId} {k : Nat} {cs : Array Value}, w5.heap[k]? = some (.cells cs t (0, 0)) → t ≠ 89 → ¬ (k = rb) := fun hk ht e => blk_ty hk b5 ht e
  have mv : ∀ {e : TypeId} {sz : Nat} {a : Option Addr} {cap n : Nat} {C : List Value}, e ≠ 93 → e ≠ 89 → Q.Gw e sz W a cap n C → Q.Gw e sz (w5.setCell ⟨rb, 3, none⟩ (.slice (some ⟨g, 0, none⟩) (D.P.length + 1) c)) a cap n C := fun h1 h2 hg => by
    have k5 := hg.but hB (fun y hy => by obtain ⟨cur, hc⟩ := hg.blk hy; exact nI hc h1)
    exact k5.but bs (fun y hy => by obtain ⟨cur, hc⟩ := k5.blk hy; exact nb hc h2)
  have mp : ∀ p : Pv, Pn w W p → Pn w (w5.setCell ⟨rb, 3, none⟩ (.slice (some ⟨g, 0, none⟩) (D.P.length + 1) c)) p := fun p hp => by
    have p5 := hp.but hB (fun k ⟨y, hy, e⟩ => by obtain ⟨cur, hc⟩ := h.pr.blk hy; exact ⟨93, cur, by rw [← e]; exact hc, by decide, by decide⟩)
    exact p5.but bs (fun k e => ⟨89, D.box, by rw [e]; exact b5, by decide, by decide⟩)
  refine ⟨?_, mv (by decide) (by decide) h.cr, mv (by decide) (by decide) h.lr, (by show Q.Gw _ _ _ _ _ (D.P ++ [x]).length _; rw [List.length_append, ← vpg_snoc]; exact hR.but bs (fun y hy => by obtain ⟨cur, hc⟩ := hR.blk hy; exact nb hc (by decide))), (fun p hp => by
    rcases List.mem_append.1 hp with hp | hp
    · exact mp p (h.pn p hp)
    · rw [List.mem_singleton.1 hp]; exact mp x hx), (fun p hp => by
    rcases List.mem_append.1 hp with hp | hp
    · exact h.ps p hp
    · rw [List.mem_singleton.1 hp]; exact hxs), h.nb, h.nC, h.nl, new_more h.np hN h.b.size, Rn.low h.b h.np hB h.nb⟩
  rw [heap_setCell_same _ _ _ _ _ _ b5]
  show some (Obj.cells _ _ _) = some (Obj.cells (Rd.box _) _ _)
  unfold Rd.box
  rw [List.length_append]
  rfl
end Go.Proofs.YtbhigodjbfoeoaaGreat
end
