import Derived.Test.YtbobnfjbbablkaaZV
import Derived.Test.YtbobnfjbbablkaaZN
namespace Go.Proofs.Ytbobnfjbbablkaa
open Go.RowKit

theorem grt_ge {l k : List Nat} (h : 0 ≤ cmpB l k) : grt l k = l := by unfold grt; rw [if_neg (by omega)]
theorem grt_lt {l k : List Nat} (h : ¬ 0 ≤ cmpB l k) : grt l k = k := by unfold grt; rw [if_pos (by omega)]
theorem lsr_le {l k : List Nat} (h : cmpB l k ≤ 0) : lsr l k = l := by
  unfold lsr
  by_cases h1 : cmpB l k < 0
  · rw [if_pos h1]
  · rw [if_neg h1]; exact (cmpB_zero.1 (by omega)).symm
theorem lsr_gt {l k : List Nat} (h : ¬ cmpB l k ≤ 0) : lsr l k = k := by unfold lsr; rw [if_neg (by omega)]
set_option maxHeartbeats 1600000 in
theorem egreater_any (w : World) (a b : Option Addr) (n c m d : Nat) (l k : List Nat) (hA : Bs w a l) (hB : Bs w b k) (hn : n = l.length) (hm : m = k.length) (hl : l.length ≤ 140737488355328) (hk : k.length ≤ 140737488355328) :
    Calls Try.prog 61 #[.slice a n c, .slice b m d] w fun e w' => ∃ a' c', e = .returned (.slice a' (grt l k).length c') ∧ Own w w' a' c' (grt l k) := by
  subst hn hm
  have CM := hide (Compare_any w a b l.length k.length c d l k hA hB rfl rfl)
  have CA := hide fun w1 (hb : Below w.heap.size w w1) => CopyBytes_any w1 a l.length c l (hA.keep hb) rfl hl
  have CB := hide fun w1 (hb : Below w.heap.size w w1) => CopyBytes_any w1 b k.length d k (hB.keep hb) rfl hk
  clear hA hB
  by_cases h : 0 ≤ cmpB l k
  · have HG := hide (grt_ge h)
    generalize cmpB l k = z at *
    go_enter Try.func61, Try.ntmps61
    go_wp2_with fail
    refine CM.out.mono ?_
    rintro e w1 ⟨rfl, hb⟩
    have HB1 := hide hb
    clear hb
    go_wp2_with fail
    refine (CA.out _ HB1.out).mono ?_
    rintro e w2 ⟨a2, c2, rfl, hr, hn, hb⟩
    have O := hide (Own.pre HB1.out ⟨hr, hn, hb⟩)
    clear hr hn hb
    go_wp2
    go_ret
    exact ⟨a2, c2, by rw [HG.out]; rfl, by rw [HG.out]; exact O.out⟩
  · have HG := hide (grt_lt h)
    generalize cmpB l k = z at *
    go_enter Try.func61, Try.ntmps61
    go_wp2_with fail
    refine CM.out.mono ?_
    rintro e w1 ⟨rfl, hb⟩
    have HB1 := hide hb
    clear hb
    go_wp2_with fail
    refine (CB.out _ HB1.out).mono ?_
    rintro e w2 ⟨a2, c2, rfl, hr, hn, hb⟩
    have O := hide (Own.pre HB1.out ⟨hr, hn, hb⟩)
    clear hr hn hb
    go_wp2
    go_ret
    exact ⟨a2, c2, by rw [HG.out]; rfl, by rw [HG.out]; exact O.out⟩
set_option maxHeartbeats 1600000 in
theorem elesser_any (w : World) (a b : Option Addr) (n c m d : Nat) (l k : List Nat) (hA : Bs w a l) (hB : Bs w b k) (hn : n = l.length) (hm : m = k.length) (hl : l.length ≤ 140737488355328) (hk : k.length ≤ 140737488355328) :
    Calls Try.prog 62 #[.slice a n c, .slice b m d] w fun e w' => ∃ a' c', e = .returned (.slice a' (lsr l k).length c') ∧ Own w w' a' c' (lsr l k) := by
  subst hn hm
  have CM := hide (Compare_any w a b l.length k.length c d l k hA hB rfl rfl)
  have CA := hide fun w1 (hb : Below w.heap.size w w1) => CopyBytes_any w1 a l.length c l (hA.keep hb) rfl hl
  have CB := hide fun w1 (hb : Below w.heap.size w w1) => CopyBytes_any w1 b k.length d k (hB.keep hb) rfl hk
  clear hA hB
  by_cases h : cmpB l k ≤ 0
  · have HG := hide (lsr_le h)
    generalize cmpB l k = z at *
    go_enter Try.func62, Try.ntmps62
    go_wp2_with fail
    refine CM.out.mono ?_
    rintro e w1 ⟨rfl, hb⟩
    have HB1 := hide hb
    clear hb
    go_wp2_with fail
    refine (CA.out _ HB1.out).mono ?_
    rintro e w2 ⟨a2, c2, rfl, hr, hn, hb⟩
    have O := hide (Own.pre HB1.out ⟨hr, hn, hb⟩)
    clear hr hn hb
    go_wp2
    go_ret
    exact ⟨a2, c2, by rw [HG.out]; rfl, by rw [HG.out]; exact O.out⟩
  · have HG := hide (lsr_gt h)
    generalize cmpB l k = z at *
    go_enter Try.func62, Try.ntmps62
    go_wp2_with fail
    refine CM.out.mono ?_
    rintro e w1 ⟨rfl, hb⟩
    have HB1 := hide hb
    clear hb
    go_wp2_with fail
    refine (CB.out _ HB1.out).mono ?_
    rintro e w2 ⟨a2, c2, rfl, hr, hn, hb⟩
    have O := hide (Own.pre HB1.out ⟨hr, hn, hb⟩)
    clear hr hn hb
    go_wp2
    go_ret
    exact ⟨a2, c2, by rw [HG.out]; rfl, by rw [HG.out]; exact O.out⟩
end Go.Proofs.Ytbobnfjbbablkaa

namespace Go.Proofs.Ytbobnfjbbablkaa
open Go.RowKit

set_option maxRecDepth 100000 in
set_option maxHeartbeats 6400000 in
theorem eMeet_any (w : World) (r s : Rv) (hR : Ri w r) (hS : Ri w s) (hr : Rb r) (hs : Rb s) :
    Calls Try.prog 36 #[r.val, s.val] w fun e w' => ∃ q : Rv, e = .returned q.val ∧ Ro w w' q ∧ q.rg = meet r.rg s.rg := by
  have GL := hide fun w1 (hb : Below w.heap.size w w1) => egreater_any w1 r.aL s.aL r.lo.length r.cL s.lo.length s.cL r.lo s.lo (hR.bl.keep hb) (hS.bl.keep hb) rfl rfl hr.1 hs.1
  have LH := hide fun w1 (hb : Below w.heap.size w w1) => elesser_any w1 r.aH s.aH r.hi.length r.cH s.hi.length s.cH r.hi s.hi (hR.bh.keep hb) (hS.bh.keep hb) rfl rfl hr.2 hs.2
  have CR := hide fun w1 (hb : Below w.heap.size w w1) => CopyBytes_any w1 r.aH r.hi.length r.cH r.hi (hR.bh.keep hb) rfl hr.2
  have CS := hide fun w1 (hb : Below w.heap.size w w1) => CopyBytes_any w1 s.aH s.hi.length s.cH s.hi (hS.bh.keep hb) rfl hs.2
  have G8 := hide (grt_b8 hR.bl.1 hS.bl.1)
  have S8 := hide (lsr_b8 hR.bh.1 hS.bh.1)
  have R8 := hide hR.bh.1
  have T8 := hide hS.bh.1
  clear hR hS hr hs
  obtain ⟨aL, cL, lo, aH, cH, hi, op⟩ := r
  obtain ⟨bL, dL, ko, bH, dH, ki, oq⟩ := s
  unfold Rv.val
  dsimp only [Rv.cs, Rv.rg, meet] at *
  generalize grt lo ko = g at *
  generalize lsr hi ki = lw at *
  go_enter Try.func36, Try.ntmps36
  go_wp2_with fail
  refine (GL.out _ (bt (bt (al _ _) (al _ _)) (al _ _))).mono ?_
  rintro e w1 ⟨a1, c1, rfl, o1⟩
  obtain ⟨m0, m1, m2, hb1, hs1⟩ := three_blocks _ _ _ _ o1.b
  obtain ⟨j0, j1, j2⟩ := row3_cells m0
  obtain ⟨k0, k1, k2⟩ := row3_cells m1
  have O1 := hide (Own.pre (bt (bt (al _ _) (al _ _)) (al _ _)) o1)
  have N1 : Hid (∀ x, a1 = some x → w.heap.size + 3 ≤ x.block ∧ x.block < w1.heap.size) := fun x hx => by have := o1.fresh hx; rw [size_alloc, size_alloc, size_alloc] at this; exact ⟨this, o1.r.lt hx⟩
  have M2 : Hid (∀ o, (w1.alloc o).heap[w.heap.size + 1 + 1]? = some (.cells #[.slice none 0 0, .slice none 0 0, .bool false] 26 (0, 0))) := fun o => ((al w1 o).block _ (by omega)).trans m2
  have HBL : Hid (∀ o, Below w.heap.size w (w1.alloc o)) := fun o => bt hb1 (al _ _)
  have HSZ := hide hs1
  have hl0 : w.heap.size < w1.heap.size := by omega
  have hl1 : w.heap.size + 1 < w1.heap.size := by omega
  clear o1 m0 m1 m2 hb1 hs1 GL
  cases op with
  | true =>
    cases oq with
    | true =>
      go_wp2_with (refine wpList_store_row rfl 26 _ _ rfl (w.heap.size + 1 + 1) _ rfl rfl 26 _ (M2.out _) sizeRange rfl (by simp [Value.oneCell']) ?_)
      refine bodyPost_ret (v := .agg _) (results_cell_row Try.results36 _ _ (w.heap.size + 1 + 1) 26 _ (0, 0) _ rfl (setRow_heap _ _ _ _ _ _ (M2.out _)) Try.underlying26 rfl sizeRange) rfl ?_
      refine ⟨⟨a1, c1, g, none, 0, [], true⟩, rfl, ⟨(O1.out.keep (al _ _)).setRow (by omega) (fun x hx e => ?_) _, Own.nil w (below_setRow (HBL.out _) (by omega) _), (fun x y _ hy => by cases hy), G8.out, B8.nil⟩, by simp⟩
      have := N1.out x hx
      omega
    | false =>
      go_wp2_with fail
      refine (CS.out _ (HBL.out _)).mono ?_
      rintro e w2 ⟨a2, c2, rfl, hrw, hnw, hbw⟩
      have o2 : Own _ w2 a2 c2 _ := ⟨hrw, hnw, hbw⟩
      clear hrw hnw hbw
      have O2 := hide (Own.pre (HBL.out _) o2)
      have N2 : Hid (∀ x, a2 = some x → w1.heap.size + 1 ≤ x.block) := fun x hx => by have := o2.fresh hx; rw [size_alloc] at this; exact this
      have M3 : Hid (∀ v, (w2.setCell ⟨w1.heap.size, 1, none⟩ v).heap[w.heap.size + 1 + 1]? = some (.cells #[.slice none 0 0, .slice none 0 0, .bool false] 26 (0, 0))) := fun v => (Below.heap_setCell _ _ _ _ (by have := HSZ.out; show _ ≠ w1.heap.size; omega)).trans ((o2.b.block _ (by rw [size_alloc]; have := HSZ.out; omega)).trans (M2.out _))
      have mm := (o2.b.block w1.heap.size (by rw [size_alloc]; omega)).trans (heap_alloc_new _ _)
      obtain ⟨n0, n1, n2⟩ := row3_cells mm
      have nf := frozen_of_row w2 w1.heap.size 1 _ _ mm
      have O1b := hide ((O1.out.keep (al _ _)).keep o2.b)
      clear o2 mm j0 j1 j2 k0 k1 k2
      go_wp2_with (refine wpList_store_row rfl 26 _ _ rfl (w.heap.size + 1 + 1) _ rfl rfl 26 _ (M3.out _) sizeRange rfl (by simp [Value.oneCell']) ?_)
      refine bodyPost_ret (v := .agg _) (results_cell_row Try.results36 _ _ (w.heap.size + 1 + 1) 26 _ (0, 0) _ rfl (setRow_heap _ _ _ _ _ _ (M3.out _)) Try.underlying26 rfl sizeRange) rfl ?_
      refine ⟨⟨a1, c1, g, a2, c2, ki, false⟩, rfl, ⟨(O1b.out.setCell (p := ⟨w1.heap.size, 1, none⟩) (by show _ ≤ w1.heap.size; omega) (fun x hx e => ?_) _).setRow (by omega) (fun x hx e => ?_) _, (O2.out.setCell (p := ⟨w1.heap.size, 1, none⟩) (by show _ ≤ w1.heap.size; omega) (fun x hx e => ?_) _).setRow (by omega) (fun x hx e => ?_) _, fun x y hx hy e => ?_, G8.out, T8.out⟩, by simp⟩
      · have := N1.out x hx; dsimp only at e; omega
      · have := N1.out x hx; omega
      · have := N2.out x hx; dsimp only at e; omega
      · have := N2.out x hx; have := HSZ.out; omega
      · have := N1.out x hx; have := N2.out y hy; omega
  | false =>
    cases oq with
    | true =>
      go_wp2_with fail
      refine (CR.out _ (HBL.out _)).mono ?_
      rintro e w2 ⟨a2, c2, rfl, hrw, hnw, hbw⟩
      have o2 : Own _ w2 a2 c2 _ := ⟨hrw, hnw, hbw⟩
      clear hrw hnw hbw
      have O2 := hide (Own.pre (HBL.out _) o2)
      have N2 : Hid (∀ x, a2 = some x → w1.heap.size + 1 ≤ x.block) := fun x hx => by have := o2.fresh hx; rw [size_alloc] at this; exact this
      have M3 : Hid (∀ v, (w2.setCell ⟨w1.heap.size, 1, none⟩ v).heap[w.heap.size + 1 + 1]? = some (.cells #[.slice none 0 0, .slice none 0 0, .bool false] 26 (0, 0))) := fun v => (Below.heap_setCell _ _ _ _ (by have := HSZ.out; show _ ≠ w1.heap.size; omega)).trans ((o2.b.block _ (by rw [size_alloc]; have := HSZ.out; omega)).trans (M2.out _))
      have mm := (o2.b.block w1.heap.size (by rw [size_alloc]; omega)).trans (heap_alloc_new _ _)
      obtain ⟨n0, n1, n2⟩ := row3_cells mm
      have nf := frozen_of_row w2 w1.heap.size 1 _ _ mm
      have O1b := hide ((O1.out.keep (al _ _)).keep o2.b)
      clear o2 mm j0 j1 j2 k0 k1 k2
      go_wp2_with (refine wpList_store_row rfl 26 _ _ rfl (w.heap.size + 1 + 1) _ rfl rfl 26 _ (M3.out _) sizeRange rfl (by simp [Value.oneCell']) ?_)
      refine bodyPost_ret (v := .agg _) (results_cell_row Try.results36 _ _ (w.heap.size + 1 + 1) 26 _ (0, 0) _ rfl (setRow_heap _ _ _ _ _ _ (M3.out _)) Try.underlying26 rfl sizeRange) rfl ?_
      refine ⟨⟨a1, c1, g, a2, c2, hi, false⟩, rfl, ⟨(O1b.out.setCell (p := ⟨w1.heap.size, 1, none⟩) (by show _ ≤ w1.heap.size; omega) (fun x hx e => ?_) _).setRow (by omega) (fun x hx e => ?_) _, (O2.out.setCell (p := ⟨w1.heap.size, 1, none⟩) (by show _ ≤ w1.heap.size; omega) (fun x hx e => ?_) _).setRow (by omega) (fun x hx e => ?_) _, fun x y hx hy e => ?_, G8.out, R8.out⟩, by simp⟩
      · have := N1.out x hx; dsimp only at e; omega
      · have := N1.out x hx; omega
      · have := N2.out x hx; dsimp only at e; omega
      · have := N2.out x hx; have := HSZ.out; omega
      · have := N1.out x hx; have := N2.out y hy; omega
    | false =>
      go_wp2_with fail
      refine (LH.out _ (HBL.out _)).mono ?_
      rintro e w2 ⟨a2, c2, rfl, o2⟩
      have O2 := hide (Own.pre (HBL.out _) o2)
      have N2 : Hid (∀ x, a2 = some x → w1.heap.size + 1 ≤ x.block) := fun x hx => by have := o2.fresh hx; rw [size_alloc] at this; exact this
      have M3 : Hid (∀ v, (w2.setCell ⟨w1.heap.size, 1, none⟩ v).heap[w.heap.size + 1 + 1]? = some (.cells #[.slice none 0 0, .slice none 0 0, .bool false] 26 (0, 0))) := fun v => (Below.heap_setCell _ _ _ _ (by have := HSZ.out; show _ ≠ w1.heap.size; omega)).trans ((o2.b.block _ (by rw [size_alloc]; have := HSZ.out; omega)).trans (M2.out _))
      have mm := (o2.b.block w1.heap.size (by rw [size_alloc]; omega)).trans (heap_alloc_new _ _)
      obtain ⟨n0, n1, n2⟩ := row3_cells mm
      have nf := frozen_of_row w2 w1.heap.size 1 _ _ mm
      have O1b := hide ((O1.out.keep (al _ _)).keep o2.b)
      clear o2 mm j0 j1 j2 k0 k1 k2
      go_wp2_with (refine wpList_store_row rfl 26 _ _ rfl (w.heap.size + 1 + 1) _ rfl rfl 26 _ (M3.out _) sizeRange rfl (by simp [Value.oneCell']) ?_)
      refine bodyPost_ret (v := .agg _) (results_cell_row Try.results36 _ _ (w.heap.size + 1 + 1) 26 _ (0, 0) _ rfl (setRow_heap _ _ _ _ _ _ (M3.out _)) Try.underlying26 rfl sizeRange) rfl ?_
      refine ⟨⟨a1, c1, g, a2, c2, lw, false⟩, rfl, ⟨(O1b.out.setCell (p := ⟨w1.heap.size, 1, none⟩) (by show _ ≤ w1.heap.size; omega) (fun x hx e => ?_) _).setRow (by omega) (fun x hx e => ?_) _, (O2.out.setCell (p := ⟨w1.heap.size, 1, none⟩) (by show _ ≤ w1.heap.size; omega) (fun x hx e => ?_) _).setRow (by omega) (fun x hx e => ?_) _, fun x y hx hy e => ?_, G8.out, S8.out⟩, by simp⟩
      · have := N1.out x hx; dsimp only at e; omega
      · have := N1.out x hx; omega
      · have := N2.out x hx; dsimp only at e; omega
      · have := N2.out x hx; have := HSZ.out; omega
      · have := N1.out x hx; have := N2.out y hy; omega
end Go.Proofs.Ytbobnfjbbablkaa

namespace Go.Proofs.Ytbobnfjbbablkaa
open Go.RowKit

/-- a range that one may read, in new memory -/
structure Rn (w W : World) (q : Rv) : Prop where
  ri : Ri W q
  nl : New w none q.aL
  nh : New w none q.aH
  b : Below w.heap.size w W
theorem Rn.keep {w W W' : World} {q : Rv} (h : Rn w W q) (hb : Below W.heap.size W W') : Rn w W' q := ⟨h.ri.keep hb, h.nl, h.nh, bt h.b hb⟩
theorem Rn.pre {w w0 W : World} {q : Rv} (hb : Below w.heap.size w w0) (h : Rn w0 W q) : Rn w W q := ⟨h.ri, h.nl.mono hb.size, h.nh.mono hb.size, bt hb h.b⟩
theorem Ro.rn {w W : World} {q : Rv} (h : Ro w W q) : Rn w W q := ⟨h.ri, h.l.n, h.h.n, h.l.b⟩
theorem but_setRow (w : World) (g : Nat) (cs : Array Value) : But (fun k => k = g) w (w.setRow g cs) := ⟨rfl, rfl, rfl, by simp, fun k _ hk => setRow_other _ _ _ _ (by simpa using hk)⟩
theorem New.at {w : World} {a : Option Addr} (h : New w Option.none a) {x : Addr} (hx : a = some x) : w.heap.size ≤ x.block := by
  rcases h x hx with ⟨y, hy, _⟩ | h
  · cases hy
  · exact h
theorem above_no {p : List Nat} (h : sn p p.length = 0) : above p = ⟨p, [], true⟩ := by
  unfold above
  rw [beh_code p, if_pos h]
  simp
theorem above_yes {p : List Nat} {j : Nat} (h : sn p p.length = j + 1) (hj : j < p.length) : above p = ⟨p, inc (p.take (j + 1)), false⟩ := by
  unfold above
  have e : beh p = inc (p.take (j + 1)) := by rw [beh_code p, h, if_neg (by omega)]
  rw [e]
  have : inc (p.take (j + 1)) ≠ [] := fun h0 => by
    have := congrArg List.length h0
    rw [inc_len, List.length_take, Nat.min_eq_left (by omega)] at this
    simp at this
  simp [this]
set_option maxRecDepth 100000 in
set_option maxHeartbeats 3200000 in
theorem eAbove_any (w : World) (a : Option Addr) (n c : Nat) (p : List Nat) (hB : Bs w a p) (hn : n = p.length) (hlen : p.length ≤ 140737488355328) :
    Calls Try.prog 37 #[.slice a n c] w fun e w' => ∃ q : Rv, e = .returned q.val ∧ Rn w w' q ∧ q.rg = above p := by
  subst hn
  have CP := hide fun w1 (hb : Below w.heap.size w w1) => CopyBytes_any w1 a p.length c p (hB.keep hb) rfl hlen
  have P8 := hide (B8_of hB)
  have A1 := hide (@above_no p)
  have A2 := hide (fun j => @above_yes p j)
  have hlen' : (p.length : Int) ≤ 140737488355328 := by omega
  clear hB
  unfold Rv.val
  go_enter Try.func37, Try.ntmps37
  go_wp2_with fail
  refine (CP.out _ (al _ _)).mono ?_
  rintro e w1 ⟨a1, c1, rfl, r1, n1, b1⟩
  have R1 := hide r1
  have B1 := hide (bt (al w _) b1)
  have M1 := hide ((b1.block w.heap.size (by rw [size_alloc]; omega)).trans (heap_alloc_new _ _))
  have N1 : Hid (∀ x, a1 = some x → w.heap.size + 1 ≤ x.block) := fun x hx => by have := n1.at hx; rw [size_alloc] at this; exact this
  have Z1 : Hid (w.heap.size + 1 ≤ w1.heap.size) := by have := b1.size; rw [size_alloc] at this; exact this
  clear r1 n1 b1
  go_wp2
  go_loopw [3] (fun v wx => ∃ j : Nat, j ≤ p.length ∧ v = .slice a1 j c1 ∧ (sn p j = sn p p.length ∧ wx = w1)) (fun v _ => (match v with | .slice _ n _ => n | _ => 0))
  case atStart => exact ⟨p.length, Nat.le_refl _, rfl, rfl, rfl⟩
  case round =>
    obtain ⟨j, hj, rfl, hsn, hw⟩ := hrel
    subst hw
    cases j with
    | zero =>
      have HE := hide (A1.out hsn.symm)
      clear hsn
      go_wp2_with fail
      refine (CP.out _ B1.out).mono ?_
      rintro e w2 ⟨a2, c2, rfl, r2, n2, b2⟩
      have M2 := hide ((b2.block w.heap.size (by have := Z1.out; omega)).trans M1.out)
      have R2 := hide r2
      have N2 := hide n2
      have B2 := hide (bt B1.out b2)
      clear r2 n2 b2
      go_wp2_with (refine wpList_store_row rfl 26 _ _ rfl w.heap.size _ rfl rfl 26 _ M2.out sizeRange rfl (by simp [Value.oneCell']) ?_)
      refine bodyPost_ret (v := .agg _) (results_cell_row Try.results37 _ _ w.heap.size 26 _ (0, 0) _ rfl (setRow_heap _ _ _ _ _ _ M2.out) Try.underlying26 rfl sizeRange) rfl ?_
      have hr3 := R2.out.but (but_setRow w2 w.heap.size #[.slice a2 p.length c2, .slice none 0 0, .bool true]) fun x hx e => by have := N2.out.at hx; have := Z1.out; omega
      exact ⟨⟨a2, c2, p, none, 0, [], true⟩, rfl, ⟨⟨hr3.bs P8.out hr3.len_le, hr3.cap, Bs.nil _, Nat.le_refl _⟩, N2.out.mono (by have := Z1.out; omega), New.none _ _, below_setRow B2.out (Nat.le_refl _) _⟩, HE.out.symm⟩
    | succ j =>
      have hj0 : (0 : Int) < (j : Int) + 1 := by omega
      have hlt : j < p.length := by omega
      obtain ⟨g, hag, hgc⟩ := R1.out.addr (by omega)
      have hrow := R1.out
      rw [hag] at hrow
      have hcell := hrow.cell hlt
      have hfz := hrow.thaw j
      have hjc : (j : Int) ≤ (c1 : Int) := by omega
      have HROW := hide hrow
      have HG : Hid (w.heap.size + 1 ≤ g) := N1.out _ hag
      clear hrow
      subst hag
      by_cases hx : p.getD j 0 = 255
      · have hs2 : sn p j = sn p p.length := by rw [← hsn]; simp only [sn]; rw [if_pos hx]
        rw [hx] at hcell
        clear hsn hx
        go_wp2
        go_roundw
        case rel => exact ⟨j, by omega, rfl, hs2, by first | trivial | rfl⟩
        case measure => simp
      · have hs2 : sn p p.length = j + 1 := by rw [← hsn]; simp only [sn]; rw [if_neg hx]
        have hxb : (((p.getD j 0 : Nat) : Int) == 255) = false := eqf (by omega)
        have HE := hide (A2.out j hs2 hlt)
        have h256 := getD_lt P8.out j
        have HI := hide (fun x (h : p.getD j 0 = x) => inc_take hlt h)
        generalize hxx : p.getD j 0 = x at *
        have hx1 : IntKind.u8.wrap ((x : Int) + 1) = ((x + 1 : Nat) : Int) := by simp [IntKind.wrap, IntKind.bits, IntKind.signed]; omega
        have HI2 := hide (HI.out x rfl)
        have h255 : x + 1 < 256 := by omega
        have HB2 : Hid (∀ v, Below w.heap.size w (wr.setCell ⟨g, j, none⟩ v)) := fun v => B1.out.setCell (p := ⟨g, j, none⟩) (by show _ ≤ g; have := HG.out; omega) v
        have HR2 : Hid (Bs (wr.setCell ⟨g, j, none⟩ (.int .u8 ((x + 1 : Nat) : Int))) (some ⟨g, 0, none⟩) (inc (p.take (j + 1)))) := by
          have hrow := HROW.out.set j (x + 1)
          have hb8 : ∀ y ∈ p.set j (x + 1), y < 256 := fun y hy => by
            rcases List.mem_or_eq_of_mem_set hy with h | h
            · exact P8.out y h
            · omega
          have hbs := (hrow.bs hb8 hrow.len_le).cut (j + 1)
          rw [HI2.out] at hbs
          exact hbs
        clear hsn hs2 hx HI
        go_wp2_with fail
        refine (CP.out _ (HB2.out _)).mono ?_
        rintro e w2 ⟨a2, c2, rfl, r2, n2, b2⟩
        have hzs : (wr.setCell ⟨g, j, none⟩ (.int .u8 ((x + 1 : Nat) : Int))).heap.size = wr.heap.size := by simp [World.setCell]
        have M2 := hide ((b2.block w.heap.size (by have h1 := Z1.out; simp [World.setCell]; omega)).trans ((Below.heap_setCell _ _ _ _ (by have := HG.out; show w.heap.size ≠ g; omega)).trans M1.out))
        have R2 := hide r2
        have N2 : Hid (∀ y, a2 = some y → wr.heap.size ≤ y.block) := fun y hy => by have := n2.at hy; simp [World.setCell] at this; exact this
        have B2 := hide (bt (HB2.out _) b2)
        have HK := hide (HR2.out.keep b2)
        clear r2 n2 b2 hzs
        go_wp2_with (refine wpList_store_row rfl 26 _ _ rfl w.heap.size _ rfl rfl 26 _ M2.out sizeRange rfl (by simp [Value.oneCell']) ?_)
        refine bodyPost_ret (v := .agg _) (results_cell_row Try.results37 _ _ w.heap.size 26 _ (0, 0) _ rfl (setRow_heap _ _ _ _ _ _ M2.out) Try.underlying26 rfl sizeRange) rfl ?_
        have hli : (inc (p.take (j + 1))).length = j + 1 := by rw [inc_len, List.length_take, Nat.min_eq_left (by omega)]
        have hb := but_setRow w2 w.heap.size #[.slice a2 p.length c2, .slice (some ⟨g, 0, none⟩) (j + 1) c1, .bool false]
        have hr3 := R2.out.but hb fun x hx e => by have := N2.out x hx; have := Z1.out; omega
        have hk3 := HK.out.but hb fun y hy _ e => by cases hy; have := HG.out; dsimp only at e; omega
        refine ⟨⟨a2, c2, p, some ⟨g, 0, none⟩, c1, inc (p.take (j + 1)), false⟩, ?_, ⟨⟨hr3.bs P8.out hr3.len_le, hr3.cap, hk3, by dsimp only; omega⟩, ?_, ?_, below_setRow B2.out (Nat.le_refl _) _⟩, HE.out.symm⟩
        · dsimp only [Rv.cs]; rw [hli]
        · intro y hy; exact .inr (by have := N2.out y hy; have := Z1.out; omega)
        · intro y hy; exact .inr (by cases hy; have := HG.out; dsimp only; omega)
end Go.Proofs.Ytbobnfjbbablkaa

namespace Go.Proofs.Ytbobnfjbbablkaa
open Go.RowKit

theorem grt_nil (l : List Nat) : grt l [] = l := grt_ge (cmpB_ge.2 (by simp))
theorem splitL_eq (lo hi : List Nat) (op : Bool) (k : List Nat) : splitL ⟨lo, hi, op⟩ k = ⟨lo, if op then k else lsr hi k, false⟩ := by
  unfold splitL meet
  dsimp only
  rw [grt_nil]
  cases op <;> rfl
theorem splitH_eq (lo hi : List Nat) (op : Bool) (k : List Nat) : splitH ⟨lo, hi, op⟩ k = ⟨grt lo k, if op then [] else hi, op⟩ := by
  unfold splitH meet
  dsimp only
  cases op <;> rfl
/-- the blocks of Split, and what lies behind them -/
structure Pj (w : World) (rc : Array Value) (W : World) : Prop where
  m0 : W.heap[w.heap.size]? = some (.cells rc 26 (0, 0))
  m1 : W.heap[w.heap.size + 1]? = some (.cells #[.slice none 0 0, .slice none 0 0, .bool false] 26 (0, 0))
  m2 : W.heap[w.heap.size + 1 + 1]? = some (.cells #[.slice none 0 0, .slice none 0 0, .bool false] 26 (0, 0))
  b : Below w.heap.size w W
  s : w.heap.size + 3 ≤ W.heap.size
theorem Pj.keep {w W W' : World} {rc : Array Value} (h : Pj w rc W) (hb : Below W.heap.size W W') : Pj w rc W' := by
  obtain ⟨h1, h2, h3, h4, h5⟩ := h
  exact ⟨(hb.block _ (by omega)).trans h1, (hb.block _ (by omega)).trans h2, (hb.block _ (by omega)).trans h3, bt h4 hb, Nat.le_trans h5 hb.size⟩
theorem Pj.but {w W W' : World} {rc : Array Value} (h : Pj w rc W) {g : Nat} (hb : But (fun k => k = g) W W') (hg : w.heap.size + 3 ≤ g) : Pj w rc W' := by
  obtain ⟨h1, h2, h3, h4, h5⟩ := h
  exact ⟨(hb.block _ (by omega) (by omega)).trans h1, (hb.block _ (by omega) (by omega)).trans h2, (hb.block _ (by omega) (by omega)).trans h3,
    ((But.ofBelow (S := fun k => k = g) h4).trans hb fun _ _ e => e).below fun k hk e => by omega, Nat.le_trans h5 hb.size⟩
theorem Pj.of {w W : World} {rc : Array Value} (h : W.heap[w.heap.size]? = some (.cells rc 26 (0, 0)) ∧ W.heap[w.heap.size + 1]? = some (.cells #[.slice none 0 0, .slice none 0 0, .bool false] 26 (0, 0)) ∧ W.heap[w.heap.size + 2]? = some (.cells #[.slice none 0 0, .slice none 0 0, .bool false] 26 (0, 0)) ∧ Below w.heap.size w W ∧ w.heap.size + 3 ≤ W.heap.size) : Pj w rc W := ⟨h.1, h.2.1, h.2.2.1, h.2.2.2.1, h.2.2.2.2⟩
/-- variables that hold ranges, and lists of bytes -/
structure Sz (w W : World) (rc : Array Value) (B : List (Nat × Array Value)) (T : List Br) : Prop where
  p : Pj w rc W
  m : ∀ x ∈ B, W.heap[x.1]? = some (.cells x.2 26 (0, 0)) ∧ w.heap.size + 3 ≤ x.1
  d : B.Pairwise fun x y => x.1 ≠ y.1
  t : ∀ t ∈ T, Own w W t.a t.c t.l ∧ B8 t.l ∧ ∀ x, t.a = some x → w.heap.size + 3 ≤ x.block
theorem Rw.notRange {W : World} {a : Option Addr} {c : Nat} {l : List Nat} (h : Rw W a c l) {g : Nat} {cs : Array Value} (hg : W.heap[g]? = some (.cells cs 26 (0, 0))) {x : Addr} (hx : a = some x) : x.block ≠ g := by
  rcases h.cases with ⟨rfl, _⟩ | ⟨g', cur, rfl, hg', _⟩
  · cases hx
  · cases hx
    intro e
    dsimp only at e
    subst e
    rw [hg] at hg'
    simp at hg'
theorem Sz.keep {w W W' : World} {rc : Array Value} {B : List (Nat × Array Value)} {T : List Br} (h : Sz w W rc B T) (hb : Below W.heap.size W W') : Sz w W' rc B T :=
  ⟨h.p.keep hb, fun x hx => ⟨(hb.block _ (Array.getElem?_eq_some_iff.1 (h.m x hx).1).1).trans (h.m x hx).1, (h.m x hx).2⟩, h.d, fun t ht => ⟨(h.t t ht).1.keep hb, (h.t t ht).2⟩⟩
theorem Sz.alloc {w W : World} {rc : Array Value} {B : List (Nat × Array Value)} {T : List Br} (h : Sz w W rc B T) (c : Array Value) : Sz w (W.alloc (.cells c 26)) rc ((W.heap.size, c) :: B) T := by
  have k := h.keep (al W (.cells c 26))
  refine ⟨k.p, fun x hx => ?_, List.pairwise_cons.2 ⟨fun x hx e => ?_, k.d⟩, k.t⟩
  · rcases List.mem_cons.1 hx with rfl | hx
    · exact ⟨heap_alloc_new _ _, h.p.s⟩
    · exact k.m x hx
  · have := (Array.getElem?_eq_some_iff.1 (h.m x hx).1).1
    dsimp only at e
    omega
theorem Sz.own {w W W' : World} {rc : Array Value} {B : List (Nat × Array Value)} {T : List Br} (h : Sz w W rc B T) {a : Option Addr} {c : Nat} {l : List Nat} (o : Own W W' a c l) (h8 : B8 l) : Sz w W' rc B (⟨a, c, l⟩ :: T) := by
  have k := h.keep o.b
  refine ⟨k.p, k.m, k.d, fun t ht => ?_⟩
  rcases List.mem_cons.1 ht with rfl | ht
  · exact ⟨Own.pre h.p.b o, h8, fun x hx => by have := o.fresh hx; have := h.p.s; omega⟩
  · exact k.t t ht
theorem Sz.set {w W W' : World} {rc : Array Value} {B : List (Nat × Array Value)} {T : List Br} {g : Nat} {cs cs' : Array Value} (h : Sz w W rc ((g, cs) :: B) T) (hb : But (fun k => k = g) W W') (hg : W'.heap[g]? = some (.cells cs' 26 (0, 0))) : Sz w W' rc ((g, cs') :: B) T := by
  have h0 := h.m (g, cs) (List.mem_cons_self ..)
  have pp := h.p.but hb h0.2
  refine ⟨pp, fun x hx => ?_, List.pairwise_cons.2 ⟨fun x hx => (List.pairwise_cons.1 h.d).1 x hx, (List.pairwise_cons.1 h.d).2⟩, fun t ht => ?_⟩
  · rcases List.mem_cons.1 hx with rfl | hx
    · exact ⟨hg, h0.2⟩
    · have h1 := h.m x (List.mem_cons_of_mem _ hx)
      exact ⟨(hb.block _ (Array.getElem?_eq_some_iff.1 h1.1).1 fun e => (List.pairwise_cons.1 h.d).1 x hx e.symm).trans h1.1, h1.2⟩
  · obtain ⟨o1, o2, o3⟩ := h.t t ht
    exact ⟨o1.but hb pp.b fun x hx e => o1.r.notRange h0.1 hx e, o2, o3⟩
theorem Sz.set1 {w W : World} {rc : Array Value} {B : List (Nat × Array Value)} {T : List Br} {g : Nat} {x y z : Value} (h : Sz w W rc ((g, #[x, y, z]) :: B) T) (v : Value) : Sz w (W.setCell ⟨g, 1, none⟩ v) rc ((g, #[x, v, z]) :: B) T :=
  h.set ((But.refl (fun k => k = g) W).setCell (p := ⟨g, 1, none⟩) (fun _ => rfl) v) (heap_setCell_same _ g 1 _ _ _ (h.m _ (List.mem_cons_self ..)).1)
theorem Sz.set3 {w W : World} {rc : Array Value} {B : List (Nat × Array Value)} {T : List Br} {g : Nat} {x y z : Value} (h : Sz w W rc ((g, #[x, y, z]) :: B) T) (a b c : Value) : Sz w (((W.setCell ⟨g, 0, none⟩ a).setCell ⟨g, 1, none⟩ b).setCell ⟨g, 2, none⟩ c) rc ((g, #[a, b, c]) :: B) T :=
  h.set ((But.refl (fun k => k = g) W).set3 rfl a b c) (set3_heap (h.m _ (List.mem_cons_self ..)).1 a b c)
theorem Sz.start {w W : World} {rc : Array Value} (h : Pj w rc W) : Sz w W rc [] [] := ⟨h, fun _ hx => (List.not_mem_nil hx).elim, List.Pairwise.nil, fun _ ht => (List.not_mem_nil ht).elim⟩
theorem Sz.row {w W : World} {rc : Array Value} {B : List (Nat × Array Value)} {T : List Br} (h : Sz w W rc B T) {x : Nat × Array Value} (hx : x ∈ B) : W.heap[x.1]? = some (.cells x.2 26 (0, 0)) := (h.m x hx).1
theorem Sz.ri {w W : World} {rc : Array Value} {B : List (Nat × Array Value)} {T : List Br} (h : Sz w W rc B T) {W' : World} (hb : But (fun k => k = w.heap.size + 1 ∨ k = w.heap.size + 1 + 1) W W') {q : Rv} (hl : ⟨q.aL, q.cL, q.lo⟩ ∈ T ∨ (q.aL = none ∧ q.lo = [])) (hh : ⟨q.aH, q.cH, q.hi⟩ ∈ T ∨ (q.aH = none ∧ q.hi = [])) : Rn w W' q := by
  have bel : Below w.heap.size w W' := ((But.ofBelow (S := fun k => k = w.heap.size + 1 ∨ k = w.heap.size + 1 + 1) h.p.b).trans hb fun _ _ e => e).below fun k hk e => by omega
  have one : ∀ {a : Option Addr} {c : Nat} {l : List Nat}, ((⟨a, c, l⟩ : Br) ∈ T ∨ (a = none ∧ l = [])) → Bs W' a l ∧ l.length ≤ c ∧ New w none a := by
    intro a c l hm
    rcases hm with hm | ⟨rfl, rfl⟩
    · obtain ⟨o1, o2, o3⟩ := h.t _ hm
      have r := o1.r.but hb fun x hx e => by have := o3 x hx; omega
      exact ⟨r.bs o2 r.len_le, r.cap, o1.n⟩
    · exact ⟨Bs.nil _, Nat.zero_le _, New.none _ _⟩
  exact ⟨⟨(one hl).1, (one hl).2.1, (one hh).1, (one hh).2.1⟩, (one hl).2.2, (one hh).2.2, bel⟩
theorem s7 {W0 W : World} {p : Obj} (hb : Below (W0.alloc p).drew.heap.size (W0.alloc p).drew W) : W.heap[W0.heap.size]? = some p := by
  refine (hb.block _ (by show _ < (W0.alloc p).heap.size; rw [size_alloc]; omega)).trans ?_
  exact heap_alloc_new W0 p
theorem drew_heap (w : World) : w.drew.heap = w.heap := rfl
theorem set33 {W : World} {g k : Nat} {t : TypeId} {p q r p' q' r' : Value} (hne : g ≠ k) (hg : W.heap[g]? = some (.cells #[p, q, r] t (0, 0))) (hk : W.heap[k]? = some (.cells #[p', q', r'] t (0, 0))) (x y z a b c : Value) :
    ((((((W.setCell ⟨g, 0, none⟩ x).setCell ⟨g, 1, none⟩ y).setCell ⟨g, 2, none⟩ z).setCell ⟨k, 0, none⟩ a).setCell ⟨k, 1, none⟩ b).setCell ⟨k, 2, none⟩ c).drew.heap[g]? = some (.cells #[x, y, z] t (0, 0)) ∧
    ((((((W.setCell ⟨g, 0, none⟩ x).setCell ⟨g, 1, none⟩ y).setCell ⟨g, 2, none⟩ z).setCell ⟨k, 0, none⟩ a).setCell ⟨k, 1, none⟩ b).setCell ⟨k, 2, none⟩ c).drew.heap[k]? = some (.cells #[a, b, c] t (0, 0)) ∧
    But (fun j => j = g ∨ j = k) W ((((((W.setCell ⟨g, 0, none⟩ x).setCell ⟨g, 1, none⟩ y).setCell ⟨g, 2, none⟩ z).setCell ⟨k, 0, none⟩ a).setCell ⟨k, 1, none⟩ b).setCell ⟨k, 2, none⟩ c).drew := by
  refine ⟨?_, ?_, (((But.refl (fun j => j = g ∨ j = k) W).set3 (.inl rfl) x y z).set3 (.inr rfl) a b c).drew⟩
  · rw [drew_heap]
    exact (set3_other (w := ((W.setCell ⟨g, 0, none⟩ x).setCell ⟨g, 1, none⟩ y).setCell ⟨g, 2, none⟩ z) (fun e => hne e.symm) a b c).trans (set3_heap hg x y z)
  · rw [drew_heap]
    exact set3_heap (w := ((W.setCell ⟨g, 0, none⟩ x).setCell ⟨g, 1, none⟩ y).setCell ⟨g, 2, none⟩ z) ((set3_other hne x y z).trans hk) a b c
theorem Sz.drew {w W : World} {rc : Array Value} {B : List (Nat × Array Value)} {T : List Br} (h : Sz w W rc B T) : Sz w W.drew rc B T := h.keep ((Below.refl _ _).drew)
end Go.Proofs.Ytbobnfjbbablkaa

namespace Go.Proofs.Ytbobnfjbbablkaa
open Go.RowKit

set_option maxRecDepth 100000 in
set_option maxHeartbeats 6400000 in
theorem eSplit_true (w : World) (aL : Option Addr) (cL : Nat) (lo : List Nat) (aH : Option Addr) (cH : Nat) (hi : List Nat) (a : Option Addr) (c : Nat) (k : List Nat) (hR : Ri w ⟨aL, cL, lo, aH, cH, hi, true⟩) (hr : Rb ⟨aL, cL, lo, aH, cH, hi, true⟩) (hK : Bs w a k) (hl : k.length ≤ 140737488355328) :
    Calls Try.prog 38 #[.agg #[.slice aL lo.length cL, .slice aH hi.length cH, .bool true], .slice a k.length c] w fun e w' => ∃ q s : Rv, e = .returned (.tuple #[q.val, s.val]) ∧ Rn w w' q ∧ Rn w w' s ∧ q.rg = ⟨lo, k, false⟩ ∧ s.rg = ⟨grt lo k, [], true⟩ := by
  have C1 := hide fun w1 (hb : Below w.heap.size w w1) => CopyBytes_any w1 aL lo.length cL lo (hR.bl.keep hb) rfl hr.1
  have C2 := hide fun w1 (hb : Below w.heap.size w w1) => CopyBytes_any w1 a k.length c k (hK.keep hb) rfl hl
  have C3 := hide fun w1 (hb : Below w.heap.size w w1) => CopyBytes_any w1 aH hi.length cH hi (hR.bh.keep hb) rfl hr.2
  have G1 := hide fun w1 (hb : Below w.heap.size w w1) => egreater_any w1 aL a lo.length cL k.length c lo k (hR.bl.keep hb) (hK.keep hb) rfl rfl hr.1 hl
  have G2 := hide fun w1 (hb : Below w.heap.size w w1) => elesser_any w1 aH a hi.length cH k.length c hi k (hR.bh.keep hb) (hK.keep hb) rfl rfl hr.2 hl
  have L8 := hide hR.bl.1
  have H8 := hide hR.bh.1
  have K8 := hide (B8_of hK)
  have G8 := hide (grt_b8 hR.bl.1 (B8_of hK))
  have S8 := hide (lsr_b8 hR.bh.1 (B8_of hK))
  clear hR hr hK
  unfold Rv.val
  generalize grt lo k = gk at *
  generalize lsr hi k = lk at *
  go_enter Try.func38, Try.ntmps38
  go_wp2_with fail
  refine (C1.out _ (bt (bt (al _ _) (al _ _)) (al _ _))).mono ?_
  rintro e w1 ⟨a1, c1, rfl, r1, n1, b1⟩
  have P1 := Pj.of (three_blocks _ _ _ _ b1)
  have Q1 : Hid (Sz w w1 #[.slice aL lo.length cL, .slice aH hi.length cH, .bool true] [] [⟨a1, c1, lo⟩]) := ⟨P1, fun _ hx => (List.not_mem_nil hx).elim, List.Pairwise.nil, fun t ht => by rw [List.mem_singleton.1 ht]; exact ⟨Own.pre (bt (bt (al w _) (al _ _)) (al _ _)) ⟨r1, n1, b1⟩, L8.out, fun x hx => by have := n1.at hx; rw [size_alloc, size_alloc, size_alloc] at this; exact this⟩⟩
  clear r1 n1 b1 P1
  go_wp2_with fail
  refine (C2.out _ Q1.out.p.b).mono ?_
  rintro e w2 ⟨a2, c2, rfl, r2, n2, b2⟩
  have Q2 := hide (Q1.out.own ⟨r2, n2, b2⟩ K8.out)
  have Q3 := hide (Q2.out.alloc #[.slice a1 lo.length c1, .slice a2 k.length c2, .bool false])
  obtain ⟨j0, j1, j2⟩ := row3_cells Q2.out.p.m0
  have hl0 : w.heap.size < w2.heap.size := by have := Q2.out.p.s; omega
  clear r2 n2 b2 Q1
  go_wp2
  clear j0 j1 j2
  generalize hW3 : w2.alloc (.cells #[.slice a1 lo.length c1, .slice a2 k.length c2, .bool false] 26) = W3 at *
  clear hW3
  have S1 := row3_cells Q3.out.drew.p.m0
  have QB := hide ((Q3.out.alloc #[.slice none 0 0, .slice none 0 0, .bool false]).drew)
  have S1b := row3_cells QB.out.p.m0
  have hn7 : W3.heap.size ≠ w.heap.size := by have := Q3.out.p.s; omega
  clear hl0
  go_region_held3 (fun w' => w'.cell? ⟨w.heap.size, 0, none⟩ = some (.slice aL lo.length cL) ∧ w'.cell? ⟨w.heap.size, 1, none⟩ = some (.slice aH hi.length cH) ∧ w'.cell? ⟨w.heap.size, 2, none⟩ = some (.bool true))
    (first | with_reducible exact S1 | with_reducible exact S1b | with_reducible exact S2 | with_reducible exact three_keep S2 (al _ _) | with_reducible exact three_set S2 hn7 _ _ _)
    (first | (go_at_call 61; with_reducible refine (G1.out _ Q3.out.drew.p.b).mono ?_; rintro e w4 ⟨a4, c4, rfl, o4⟩; have Q5 := hide ((Q3.out.drew.own o4 G8.out).alloc #[.slice a4 gk.length c4, .slice none 0 0, .bool true]); have S2 := row3_cells (Q3.out.drew.own o4 G8.out).p.m0; clear o4) | (go_at_call 61; with_reducible refine (G1.out _ QB.out.p.b).mono ?_; rintro e w4 ⟨a4, c4, rfl, o4⟩; have Q5 := hide ((QB.out.own o4 G8.out).set3 (.slice a4 gk.length c4) (.slice none 0 0) (.bool true)); have S2 := row3_cells (QB.out.own o4 G8.out).p.m0; obtain ⟨⟨x0, x1, x2⟩, x3, x4, x5⟩ := six ((QB.out.own o4 G8.out).row (List.mem_cons_self ..)); dsimp only at x0 x1 x2 x3 x4 x5; clear o4))
  · clear S1 S1b S2 QB Q3
    obtain ⟨j0, j1, j2⟩ := row3_cells Q5.out.p.m0
    go_wp2
    clear j0 j1 j2
    generalize w4.alloc (.cells #[.slice a4 gk.length c4, .slice none 0 0, .bool true] 26) = W6 at *
    have T6 := row3_cells (Q5.out.row (List.mem_cons_of_mem _ (List.mem_cons_self ..)))
    have T7 := row3_cells (Q5.out.row (List.mem_cons_self ..))
    dsimp only at T6 T7
    have U := Q5
    obtain ⟨⟨y0, y1, y2⟩, y3, y4, y5⟩ := six Q5.out.p.m1
    obtain ⟨⟨z0, z1, z2⟩, z3, z4, z5⟩ := six Q5.out.p.m2
    have n61 := (U.out.m _ (List.mem_cons_of_mem _ (List.mem_cons_self ..))).2
    have n71 := (U.out.m _ (List.mem_cons_self ..)).2
    dsimp only at n61 n71
    have e61 : w.heap.size + 1 ≠ w2.heap.size := by omega
    have e71 : w.heap.size + 1 ≠ w4.heap.size := by omega
    have e62 : w.heap.size + 1 + 1 ≠ w2.heap.size := by omega
    have e72 : w.heap.size + 1 + 1 ≠ w4.heap.size := by omega
    have e12 : w.heap.size + 1 ≠ w.heap.size + 1 + 1 := by omega
    clear n61 n71
    obtain ⟨t60, t61, t62⟩ := T6
    obtain ⟨t70, t71, t72⟩ := T7
    go_region
    clear t60 t61 t62 t70 t71 t72 y0 y1 y2 y3 y4 y5 z0 z1 z2 z3 z4 z5
    go_wp2
    have F := hide (set33 e12 U.out.p.m1 U.out.p.m2 (.slice a1 lo.length c1) (.slice a2 k.length c2) (.bool false) (.slice a4 gk.length c4) (.slice none 0 0) (.bool true))
    refine bodyPost_ret (v := .tuple #[.agg _, .agg _]) (res_cell_cell Try.results38 _ _ (w.heap.size + 1) (w.heap.size + 1 + 1) 26 _ _ (0, 0) _ rfl rfl F.out.1 F.out.2.1 Try.underlying26 rfl sizeRange sizeRange) rfl ?_
    exact ⟨⟨a1, c1, lo, a2, c2, k, false⟩, ⟨a4, c4, gk, none, 0, [], true⟩, rfl, U.out.ri (q := ⟨a1, c1, lo, a2, c2, k, false⟩) F.out.2.2 (.inl (by simp)) (.inl (by simp)), U.out.ri (q := ⟨a4, c4, gk, none, 0, [], true⟩) F.out.2.2 (.inl (by simp)) (.inr ⟨rfl, rfl⟩), rfl, rfl⟩
  · clear x0 x1 x2 x3 x4 x5
    clear S1 S1b S2 QB Q3
    obtain ⟨j0, j1, j2⟩ := row3_cells Q5.out.p.m0
    go_wp2
    clear j0 j1 j2
    generalize ((w4.setCell ⟨W3.heap.size, 0, none⟩ (.slice a4 gk.length c4)).setCell ⟨W3.heap.size, 1, none⟩ (.slice none 0 0)).setCell ⟨W3.heap.size, 2, none⟩ (.bool true) = W6 at *
    have T6 := row3_cells (Q5.out.row (List.mem_cons_of_mem _ (List.mem_cons_self ..)))
    have T7 := row3_cells (Q5.out.row (List.mem_cons_self ..))
    dsimp only at T6 T7
    have U := Q5
    obtain ⟨⟨y0, y1, y2⟩, y3, y4, y5⟩ := six Q5.out.p.m1
    obtain ⟨⟨z0, z1, z2⟩, z3, z4, z5⟩ := six Q5.out.p.m2
    have n61 := (U.out.m _ (List.mem_cons_of_mem _ (List.mem_cons_self ..))).2
    have n71 := (U.out.m _ (List.mem_cons_self ..)).2
    dsimp only at n61 n71
    have e61 : w.heap.size + 1 ≠ w2.heap.size := by omega
    have e71 : w.heap.size + 1 ≠ W3.heap.size := by omega
    have e62 : w.heap.size + 1 + 1 ≠ w2.heap.size := by omega
    have e72 : w.heap.size + 1 + 1 ≠ W3.heap.size := by omega
    have e12 : w.heap.size + 1 ≠ w.heap.size + 1 + 1 := by omega
    clear n61 n71
    obtain ⟨t60, t61, t62⟩ := T6
    obtain ⟨t70, t71, t72⟩ := T7
    go_region
    clear t60 t61 t62 t70 t71 t72 y0 y1 y2 y3 y4 y5 z0 z1 z2 z3 z4 z5
    go_wp2
    have F := hide (set33 e12 U.out.p.m1 U.out.p.m2 (.slice a1 lo.length c1) (.slice a2 k.length c2) (.bool false) (.slice a4 gk.length c4) (.slice none 0 0) (.bool true))
    refine bodyPost_ret (v := .tuple #[.agg _, .agg _]) (res_cell_cell Try.results38 _ _ (w.heap.size + 1) (w.heap.size + 1 + 1) 26 _ _ (0, 0) _ rfl rfl F.out.1 F.out.2.1 Try.underlying26 rfl sizeRange sizeRange) rfl ?_
    exact ⟨⟨a1, c1, lo, a2, c2, k, false⟩, ⟨a4, c4, gk, none, 0, [], true⟩, rfl, U.out.ri (q := ⟨a1, c1, lo, a2, c2, k, false⟩) F.out.2.2 (.inl (by simp)) (.inl (by simp)), U.out.ri (q := ⟨a4, c4, gk, none, 0, [], true⟩) F.out.2.2 (.inl (by simp)) (.inr ⟨rfl, rfl⟩), rfl, rfl⟩
set_option maxRecDepth 100000 in
set_option maxHeartbeats 6400000 in
theorem eSplit_false (w : World) (aL : Option Addr) (cL : Nat) (lo : List Nat) (aH : Option Addr) (cH : Nat) (hi : List Nat) (a : Option Addr) (c : Nat) (k : List Nat) (hR : Ri w ⟨aL, cL, lo, aH, cH, hi, false⟩) (hr : Rb ⟨aL, cL, lo, aH, cH, hi, false⟩) (hK : Bs w a k) (hl : k.length ≤ 140737488355328) :
    Calls Try.prog 38 #[.agg #[.slice aL lo.length cL, .slice aH hi.length cH, .bool false], .slice a k.length c] w fun e w' => ∃ q s : Rv, e = .returned (.tuple #[q.val, s.val]) ∧ Rn w w' q ∧ Rn w w' s ∧ q.rg = ⟨lo, (lsr hi k), false⟩ ∧ s.rg = ⟨grt lo k, hi, false⟩ := by
  have C1 := hide fun w1 (hb : Below w.heap.size w w1) => CopyBytes_any w1 aL lo.length cL lo (hR.bl.keep hb) rfl hr.1
  have C2 := hide fun w1 (hb : Below w.heap.size w w1) => CopyBytes_any w1 a k.length c k (hK.keep hb) rfl hl
  have C3 := hide fun w1 (hb : Below w.heap.size w w1) => CopyBytes_any w1 aH hi.length cH hi (hR.bh.keep hb) rfl hr.2
  have G1 := hide fun w1 (hb : Below w.heap.size w w1) => egreater_any w1 aL a lo.length cL k.length c lo k (hR.bl.keep hb) (hK.keep hb) rfl rfl hr.1 hl
  have G2 := hide fun w1 (hb : Below w.heap.size w w1) => elesser_any w1 aH a hi.length cH k.length c hi k (hR.bh.keep hb) (hK.keep hb) rfl rfl hr.2 hl
  have L8 := hide hR.bl.1
  have H8 := hide hR.bh.1
  have K8 := hide (B8_of hK)
  have G8 := hide (grt_b8 hR.bl.1 (B8_of hK))
  have S8 := hide (lsr_b8 hR.bh.1 (B8_of hK))
  clear hR hr hK
  unfold Rv.val
  generalize grt lo k = gk at *
  generalize lsr hi k = lk at *
  go_enter Try.func38, Try.ntmps38
  go_wp2_with fail
  refine (C1.out _ (bt (bt (al _ _) (al _ _)) (al _ _))).mono ?_
  rintro e w1 ⟨a1, c1, rfl, r1, n1, b1⟩
  have P1 := Pj.of (three_blocks _ _ _ _ b1)
  have Q1 : Hid (Sz w w1 #[.slice aL lo.length cL, .slice aH hi.length cH, .bool false] [] [⟨a1, c1, lo⟩]) := ⟨P1, fun _ hx => (List.not_mem_nil hx).elim, List.Pairwise.nil, fun t ht => by rw [List.mem_singleton.1 ht]; exact ⟨Own.pre (bt (bt (al w _) (al _ _)) (al _ _)) ⟨r1, n1, b1⟩, L8.out, fun x hx => by have := n1.at hx; rw [size_alloc, size_alloc, size_alloc] at this; exact this⟩⟩
  clear r1 n1 b1 P1
  go_wp2_with fail
  refine (C2.out _ Q1.out.p.b).mono ?_
  rintro e w2 ⟨a2, c2, rfl, r2, n2, b2⟩
  have Q2 := hide (Q1.out.own ⟨r2, n2, b2⟩ K8.out)
  have Q3 := hide (Q2.out.alloc #[.slice a1 lo.length c1, .slice a2 k.length c2, .bool false])
  obtain ⟨j0, j1, j2⟩ := row3_cells Q2.out.p.m0
  have hl0 : w.heap.size < w2.heap.size := by have := Q2.out.p.s; omega
  clear r2 n2 b2 Q1
  go_wp2_with fail
  refine (G2.out _ Q3.out.p.b).mono ?_
  rintro e w3 ⟨a3, c3, rfl, o3⟩
  have Q4 := hide ((Q3.out.own o3 S8.out).set1 (.slice a3 lk.length c3))
  obtain ⟨⟨x0, x1, x2⟩, x3, x4, x5⟩ := six ((Q3.out.own o3 S8.out).row (List.mem_cons_self ..))
  dsimp only at x0 x1 x2 x3 x4 x5
  clear o3 j0 j1 j2
  go_wp2
  clear x0 x1 x2 x3 x4 x5
  generalize w3.setCell ⟨w2.heap.size, 1, none⟩ (.slice a3 lk.length c3) = W3 at *
  have S1 := row3_cells Q4.out.drew.p.m0
  have QB := hide ((Q4.out.alloc #[.slice none 0 0, .slice none 0 0, .bool false]).drew)
  have S1b := row3_cells QB.out.p.m0
  have hn7 : W3.heap.size ≠ w.heap.size := by have := Q4.out.p.s; omega
  clear hl0
  go_region_held3 (fun w' => w'.cell? ⟨w.heap.size, 0, none⟩ = some (.slice aL lo.length cL) ∧ w'.cell? ⟨w.heap.size, 1, none⟩ = some (.slice aH hi.length cH) ∧ w'.cell? ⟨w.heap.size, 2, none⟩ = some (.bool false))
    (first | with_reducible exact S1 | with_reducible exact S1b | with_reducible exact S2 | with_reducible exact three_keep S2 (al _ _) | with_reducible exact three_set S2 hn7 _ _ _)
    (first | (go_at_call 61; with_reducible refine (G1.out _ Q4.out.drew.p.b).mono ?_; rintro e w4 ⟨a4, c4, rfl, o4⟩; have Q5 := hide ((Q4.out.drew.own o4 G8.out).alloc #[.slice a4 gk.length c4, .slice none 0 0, .bool false]); have S2 := row3_cells (Q4.out.drew.own o4 G8.out).p.m0; clear o4) | (go_at_call 61; with_reducible refine (G1.out _ QB.out.p.b).mono ?_; rintro e w4 ⟨a4, c4, rfl, o4⟩; have Q5 := hide ((QB.out.own o4 G8.out).set3 (.slice a4 gk.length c4) (.slice none 0 0) (.bool false)); have S2 := row3_cells (QB.out.own o4 G8.out).p.m0; obtain ⟨⟨x0, x1, x2⟩, x3, x4, x5⟩ := six ((QB.out.own o4 G8.out).row (List.mem_cons_self ..)); dsimp only at x0 x1 x2 x3 x4 x5; clear o4))
  · clear S1 S1b S2 QB Q4
    obtain ⟨j0, j1, j2⟩ := row3_cells Q5.out.p.m0
    go_wp2_with fail
    refine (C3.out _ Q5.out.p.b).mono ?_
    rintro e w5 ⟨a5, c5, rfl, r5, n5, b5⟩
    have Q6 := hide ((Q5.out.own ⟨r5, n5, b5⟩ H8.out).set1 (.slice a5 hi.length c5))
    obtain ⟨⟨x0, x1, x2⟩, x3, x4, x5⟩ := six ((Q5.out.own ⟨r5, n5, b5⟩ H8.out).row (List.mem_cons_self ..))
    dsimp only at x0 x1 x2 x3 x4 x5
    clear r5 n5 b5 j0 j1 j2 Q5
    go_wp2
    clear x0 x1 x2 x3 x4 x5
    generalize w5.setCell ⟨w4.heap.size, 1, none⟩ (.slice a5 hi.length c5) = W6 at *
    have T6 := row3_cells (Q6.out.row (List.mem_cons_of_mem _ (List.mem_cons_self ..)))
    have T7 := row3_cells (Q6.out.row (List.mem_cons_self ..))
    dsimp only at T6 T7
    have U := Q6
    obtain ⟨⟨y0, y1, y2⟩, y3, y4, y5⟩ := six Q6.out.p.m1
    obtain ⟨⟨z0, z1, z2⟩, z3, z4, z5⟩ := six Q6.out.p.m2
    have n61 := (U.out.m _ (List.mem_cons_of_mem _ (List.mem_cons_self ..))).2
    have n71 := (U.out.m _ (List.mem_cons_self ..)).2
    dsimp only at n61 n71
    have e61 : w.heap.size + 1 ≠ w2.heap.size := by omega
    have e71 : w.heap.size + 1 ≠ w4.heap.size := by omega
    have e62 : w.heap.size + 1 + 1 ≠ w2.heap.size := by omega
    have e72 : w.heap.size + 1 + 1 ≠ w4.heap.size := by omega
    have e12 : w.heap.size + 1 ≠ w.heap.size + 1 + 1 := by omega
    clear n61 n71
    obtain ⟨t60, t61, t62⟩ := T6
    obtain ⟨t70, t71, t72⟩ := T7
    go_region
    clear t60 t61 t62 t70 t71 t72 y0 y1 y2 y3 y4 y5 z0 z1 z2 z3 z4 z5
    go_wp2
    have F := hide (set33 e12 U.out.p.m1 U.out.p.m2 (.slice a1 lo.length c1) (.slice a3 lk.length c3) (.bool false) (.slice a4 gk.length c4) (.slice a5 hi.length c5) (.bool false))
    refine bodyPost_ret (v := .tuple #[.agg _, .agg _]) (res_cell_cell Try.results38 _ _ (w.heap.size + 1) (w.heap.size + 1 + 1) 26 _ _ (0, 0) _ rfl rfl F.out.1 F.out.2.1 Try.underlying26 rfl sizeRange sizeRange) rfl ?_
    exact ⟨⟨a1, c1, lo, a3, c3, lk, false⟩, ⟨a4, c4, gk, a5, c5, hi, false⟩, rfl, U.out.ri (q := ⟨a1, c1, lo, a3, c3, lk, false⟩) F.out.2.2 (.inl (by simp)) (.inl (by simp)), U.out.ri (q := ⟨a4, c4, gk, a5, c5, hi, false⟩) F.out.2.2 (.inl (by simp)) (.inl (by simp)), rfl, rfl⟩
  · clear x0 x1 x2 x3 x4 x5
    clear S1 S1b S2 QB Q4
    obtain ⟨j0, j1, j2⟩ := row3_cells Q5.out.p.m0
    go_wp2_with fail
    refine (C3.out _ Q5.out.p.b).mono ?_
    rintro e w5 ⟨a5, c5, rfl, r5, n5, b5⟩
    have Q6 := hide ((Q5.out.own ⟨r5, n5, b5⟩ H8.out).set1 (.slice a5 hi.length c5))
    obtain ⟨⟨x0, x1, x2⟩, x3, x4, x5⟩ := six ((Q5.out.own ⟨r5, n5, b5⟩ H8.out).row (List.mem_cons_self ..))
    dsimp only at x0 x1 x2 x3 x4 x5
    clear r5 n5 b5 j0 j1 j2 Q5
    go_wp2
    clear x0 x1 x2 x3 x4 x5
    generalize w5.setCell ⟨W3.heap.size, 1, none⟩ (.slice a5 hi.length c5) = W6 at *
    have T6 := row3_cells (Q6.out.row (List.mem_cons_of_mem _ (List.mem_cons_self ..)))
    have T7 := row3_cells (Q6.out.row (List.mem_cons_self ..))
    dsimp only at T6 T7
    have U := Q6
    obtain ⟨⟨y0, y1, y2⟩, y3, y4, y5⟩ := six Q6.out.p.m1
    obtain ⟨⟨z0, z1, z2⟩, z3, z4, z5⟩ := six Q6.out.p.m2
    have n61 := (U.out.m _ (List.mem_cons_of_mem _ (List.mem_cons_self ..))).2
    have n71 := (U.out.m _ (List.mem_cons_self ..)).2
    dsimp only at n61 n71
    have e61 : w.heap.size + 1 ≠ w2.heap.size := by omega
    have e71 : w.heap.size + 1 ≠ W3.heap.size := by omega
    have e62 : w.heap.size + 1 + 1 ≠ w2.heap.size := by omega
    have e72 : w.heap.size + 1 + 1 ≠ W3.heap.size := by omega
    have e12 : w.heap.size + 1 ≠ w.heap.size + 1 + 1 := by omega
    clear n61 n71
    obtain ⟨t60, t61, t62⟩ := T6
    obtain ⟨t70, t71, t72⟩ := T7
    go_region
    clear t60 t61 t62 t70 t71 t72 y0 y1 y2 y3 y4 y5 z0 z1 z2 z3 z4 z5
    go_wp2
    have F := hide (set33 e12 U.out.p.m1 U.out.p.m2 (.slice a1 lo.length c1) (.slice a3 lk.length c3) (.bool false) (.slice a4 gk.length c4) (.slice a5 hi.length c5) (.bool false))
    refine bodyPost_ret (v := .tuple #[.agg _, .agg _]) (res_cell_cell Try.results38 _ _ (w.heap.size + 1) (w.heap.size + 1 + 1) 26 _ _ (0, 0) _ rfl rfl F.out.1 F.out.2.1 Try.underlying26 rfl sizeRange sizeRange) rfl ?_
    exact ⟨⟨a1, c1, lo, a3, c3, lk, false⟩, ⟨a4, c4, gk, a5, c5, hi, false⟩, rfl, U.out.ri (q := ⟨a1, c1, lo, a3, c3, lk, false⟩) F.out.2.2 (.inl (by simp)) (.inl (by simp)), U.out.ri (q := ⟨a4, c4, gk, a5, c5, hi, false⟩) F.out.2.2 (.inl (by simp)) (.inl (by simp)), rfl, rfl⟩
theorem eSplit_any (w : World) (r : Rv) (a : Option Addr) (n c : Nat) (k : List Nat) (hR : Ri w r) (hr : Rb r) (hK : Bs w a k) (hn : n = k.length) (hl : k.length ≤ 140737488355328) :
    Calls Try.prog 38 #[r.val, .slice a n c] w fun e w' => ∃ q s : Rv, e = .returned (.tuple #[q.val, s.val]) ∧ Rn w w' q ∧ Rn w w' s ∧ q.rg = splitL r.rg k ∧ s.rg = splitH r.rg k := by
  subst hn
  obtain ⟨aL, cL, lo, aH, cH, hi, op⟩ := r
  cases op with
  | true =>
    refine (eSplit_true w aL cL lo aH cH hi a c k hR hr hK hl).mono ?_
    rintro e w' ⟨q, s, h1, h2, h3, h4, h5⟩
    exact ⟨q, s, h1, h2, h3, h4.trans (splitL_eq lo hi true k).symm, h5.trans (splitH_eq lo hi true k).symm⟩
  | false =>
    refine (eSplit_false w aL cL lo aH cH hi a c k hR hr hK hl).mono ?_
    rintro e w' ⟨q, s, h1, h2, h3, h4, h5⟩
    exact ⟨q, s, h1, h2, h3, h4.trans (splitL_eq lo hi false k).symm, h5.trans (splitH_eq lo hi false k).symm⟩
end Go.Proofs.Ytbobnfjbbablkaa
