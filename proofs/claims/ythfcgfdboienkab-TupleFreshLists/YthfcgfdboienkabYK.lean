import Derived.Test.YthfcgfdboienkabYJ
import Derived.Test.YthfcgfdboienkabYC
import Derived.Test.YthfcgfdboienkabXM
import Derived.Test.YthfcgfdboienkabXP
import Derived.Test.YthfcgfdboienkabVB
namespace Go.Proofs.Ythfcgfdboienkab
open Go.RowKit

theorem pown_fresh {w wx : World} {a : Option Addr} {cap : Nat} {l : List VV} (h : POwn w wx a cap l) {x : Addr} (hx : a = some x) : w.heap.size ≤ x.block := by
  rcases h.n x hx with ⟨y, hy, _⟩ | h
  · cases hy
  · exact h
/-- a list of values of one's own -/
structure Bv where
  a : Option Addr
  c : Nat
  l : List VV
def bvApart (s t : Bv) : Prop := ∀ x y, s.a = some x → t.a = some y → x.block ≠ y.block
/-- lists of values that the call made behind the block gx, each in memory of its own -/
structure Fv (w W : World) (gx : Nat) (T : List Bv) : Prop where
  rows : ∀ t ∈ T, Pw W t.a t.c t.l
  dist : T.Pairwise bvApart
  low : ∀ t ∈ T, ∀ x, t.a = some x → gx < x.block
  b : Below w.heap.size w W
theorem Fv.keep {w W W' : World} {gx : Nat} {T : List Bv} (h : Fv w W gx T) (hb : Below W.heap.size W W') : Fv w W' gx T :=
  ⟨fun t ht => (h.rows t ht).keep hb, h.dist, h.low, bt h.b hb⟩
theorem Fv.nil {w W : World} (gx : Nat) (hb : Below w.heap.size w W) : Fv w W gx [] := ⟨fun _ ht => (List.not_mem_nil ht).elim, List.Pairwise.nil, fun _ ht => (List.not_mem_nil ht).elim, hb⟩
theorem Fv.add {w W W' : World} {gx : Nat} {T : List Bv} (h : Fv w W gx T) {a : Option Addr} {c : Nat} {l : List VV} (ho : POwn W W' a c l) (hg : gx < W.heap.size) : Fv w W' gx (T ++ [⟨a, c, l⟩]) := by
  have fresh : ∀ x, a = some x → W.heap.size ≤ x.block := fun x hx => pown_fresh ho hx
  refine ⟨fun t ht => ?_, ?_, fun t ht x hx => ?_, bt h.b ho.b⟩
  · rcases List.mem_append.1 ht with ht | ht
    · exact (h.rows t ht).keep ho.b
    · rw [List.mem_singleton.1 ht]; exact ho.r
  · refine List.pairwise_append.2 ⟨h.dist, List.pairwise_singleton _ _, fun s hs t ht => ?_⟩
    rw [List.mem_singleton.1 ht]
    intro x y hx hy
    have h1 := (h.rows s hs).lt hx
    have h2 := fresh y hy
    omega
  · rcases List.mem_append.1 ht with ht | ht
    · exact h.low t ht x hx
    · rw [List.mem_singleton.1 ht] at hx
      have := fresh x hx
      omega
theorem Fv.but {w W W' : World} {gx : Nat} {T : List Bv} (h : Fv w W gx T) (hb : But (fun k => k = gx) W W') (hw : w.heap.size ≤ gx) : Fv w W' gx T :=
  ⟨fun t ht => (h.rows t ht).but hb fun x hx e => by have := h.low t ht x hx; omega, h.dist, h.low,
   ((But.ofBelow (S := fun k => k = gx) h.b).trans hb fun _ _ e => e).below fun k hk e => by omega⟩
theorem apart_four (w : World) (g : Nat) (T : List Bv) (hT : T.length = 4) (hm : w.heap[g]? = some (.cells #[.slice (T.getD 0 ⟨none, 0, []⟩).a (T.getD 0 ⟨none, 0, []⟩).l.length (T.getD 0 ⟨none, 0, []⟩).c, .slice (T.getD 1 ⟨none, 0, []⟩).a (T.getD 1 ⟨none, 0, []⟩).l.length (T.getD 1 ⟨none, 0, []⟩).c, .slice (T.getD 2 ⟨none, 0, []⟩).a (T.getD 2 ⟨none, 0, []⟩).l.length (T.getD 2 ⟨none, 0, []⟩).c, .slice (T.getD 3 ⟨none, 0, []⟩).a (T.getD 3 ⟨none, 0, []⟩).l.length (T.getD 3 ⟨none, 0, []⟩).c] 24 (0, 0)))
    (hrows : ∀ t ∈ T, Pw w t.a t.c t.l) (hdist : T.Pairwise bvApart) (hlen : ∀ t ∈ T, t.l.length ≤ 4096) :
    Calls Try.prog 26 #[.slice (some ⟨g, 0, none⟩) 4 4] w fun e w' => e = .returned (.bool true) ∧ But (fun k => ∃ t ∈ T, ∃ x, t.a = some x ∧ x.block = k) w w' := by
  have hmem : ∀ i, i < 4 → T.getD i ⟨none, 0, []⟩ ∈ T := fun i hi => by
    rw [List.getD_eq_getElem?_getD, List.getElem?_eq_getElem (by omega)]
    exact List.getElem_mem _
  have hat : ∀ i (hi : i < T.length), T.getD i ⟨none, 0, []⟩ = T[i] := fun i hi => by simp [hi]
  refine (apart_some w (some ⟨g, 0, none⟩) 4 4 (fun i => (T.getD i ⟨none, 0, []⟩).a) (fun i => (T.getD i ⟨none, 0, []⟩).c) (fun i => (T.getD i ⟨none, 0, []⟩).l) ?_ ?_ ?_ (by decide) ?_).mono ?_
  · exact Av.mk hm (by simp) (by decide) rfl rfl
  · exact fun i hi => hrows _ (hmem i hi)
  · intro i j hi hj hne x y hx hy
    have hp := List.pairwise_iff_getElem.1 hdist
    have hx : (T.getD i ⟨none, 0, []⟩).a = some x := hx
    have hy : (T.getD j ⟨none, 0, []⟩).a = some y := hy
    rw [hat i (by omega)] at hx
    rw [hat j (by omega)] at hy
    rcases Nat.lt_or_gt_of_ne hne with h | h
    · exact hp i j (by omega) (by omega) h x y hx hy
    · exact (hp j i (by omega) (by omega) h y x hy hx).symm
  · intro i hi
    have := hlen _ (hmem i hi)
    omega
  · rintro e w' ⟨rfl, hb⟩
    refine ⟨rfl, hb.mono fun k _ ⟨i, hi, x, hx, e⟩ => ⟨_, hmem i hi, x, hx, e⟩⟩
/-- the second list of bytes laid over the first -/
def mixB (l m : List Nat) (j r : Nat) : Nat := if r < j then m.getD r 0 else l.getD r 0
def mixedB (l m : List Nat) : List Nat := (List.range l.length).map (mixB l m (min l.length m.length))
theorem mixedB_length (l m : List Nat) : (mixedB l m).length = l.length := by simp [mixedB]
theorem mixedB_lt (l m : List Nat) (hl : ∀ x ∈ l, x < 256) (hm : ∀ x ∈ m, x < 256) : ∀ x ∈ mixedB l m, x < 256 := by
  intro v hv
  obtain ⟨r, hr, rfl⟩ := List.mem_map.1 hv
  have hr := List.mem_range.1 hr
  unfold mixB
  split
  · exact getD_lt hm (by omega)
  · exact getD_lt hl hr
/-- what x has so far -/
def mxF (l m : List Nat) (j i : Nat) : Value := if i < j then .int .u8 ((m.getD i 0 : Nat) : Int) else spF l i
theorem mx_bs {w : World} {g : Nat} {l m : List Nat} (h : w.rowIs g 5 (l.length + 64) (mxF l m (min l.length m.length))) (hl : ∀ x ∈ l, x < 256) (hm : ∀ x ∈ m, x < 256) (hlen : l.length ≤ 9223372036854775807) : Bs w (some ⟨g, 0, none⟩) (mixedB l m) := by
  refine ⟨mixedB_lt l m hl hm, by rw [mixedB_length]; exact hlen, .inr ⟨g, 0, rfl, fun i hi => ?_⟩⟩
  rw [mixedB_length] at hi
  rw [Nat.zero_add, h.cell (by omega), show (mixedB l m).getD i 0 = mixB l m (min l.length m.length) i by simp [mixedB, hi]]
  unfold mxF mixB spF
  by_cases h2 : i < min l.length m.length
  · rw [if_pos h2, if_pos h2]
  · rw [if_neg h2, if_neg h2, if_pos hi]
set_option maxRecDepth 8000 in
set_option maxHeartbeats 1600000 in
theorem tupleFreshLists_any (w : World) (a am : Option Addr) (n m' cap capm : Nat) (l m : List Nat) (hL : Bs w a l) (hM : Bs w am m) (hcap : l.length ≤ cap) (hlen : l.length + 64 ≤ 140737488355328) (hlenM : m.length + 64 ≤ 140737488355328) (hn : n = l.length) (hm : m' = m.length) :
    Calls Try.prog 7 #[.slice a n cap, .slice am m' capm] w fun e w' => e = .returned (.bool true) ∧ Below w.heap.size w w' := by
  subst hn hm
  have HL := hide hL
  have HM := hide hM
  have WK := hide works_any
  have PLT := hide (decR_len l)
  have QLT := hide (decR_len m)
  have RLT := hide (decR_len (mixedB l m))
  have HNL := hide (mixedB_length l m)
  have SP := hide (Spare_any w a l.length cap l hL rfl (by omega))
  have TX := hide (fun W g (h : W.rowIs g 5 (l.length + 64) (spF l)) => tDecode_any W (some ⟨g, 0, none⟩) l.length (l.length + 64) l (spare_bs h (by omega) hL.1 hL.2.1) (by omega) rfl)
  have CP := hide (fun W (h : Below w.heap.size w W) => CopyBytes_any W am m.length capm m (hM.keep h) rfl (by omega))
  have TM := hide (fun W a2 c2 (h : Rw W a2 c2 m) => tDecode_any W a2 m.length c2 m (h.bs hM.1 hM.2.1) (by rcases h.cases with ⟨_, _, h⟩ | ⟨_, _, _, _, h, _⟩; subst h; simp; exact h) rfl)
  have DL := hide (fun W (h : Below w.heap.size w W) => dDecode_any W a l.length cap l (hL.keep h) hcap rfl)
  have TN := hide (fun W g (h : Bs W (some ⟨g, 0, none⟩) (mixedB l m)) => tDecode_any W (some ⟨g, 0, none⟩) l.length (l.length + 64) (mixedB l m) h (by rw [mixedB_length]; omega) (mixedB_length l m).symm)
  have DN := hide (fun W g (h : Bs W (some ⟨g, 0, none⟩) (mixedB l m)) => dDecode_any W (some ⟨g, 0, none⟩) l.length (l.length + 64) (mixedB l m) h (by rw [mixedB_length]; omega) (mixedB_length l m).symm)
  have KP := hide (fun W g (h : W.rowIs g 5 (l.length + 64) (spF l)) (hb : Below w.heap.size w W) => Kept_any W g (l.length + 64) a l.length l.length cap l h (hL.keep hb) rfl rfl rfl (by omega))
  clear hL hM
  generalize (decR l).1 = P at *
  generalize (decR l).2 = f at *
  generalize (decR m).1 = Q at *
  generalize (decR m).2 = fm at *
  generalize (decR (mixedB l m)).1 = R at *
  generalize (decR (mixedB l m)).2 = f2 at *
  go_enter Try.func7, Try.ntmps7
  go_wp2_with fail
  refine SP.out.mono ?_
  rintro e w1 ⟨rfl, hl1, hb1⟩
  have X1 := hide hl1
  have HG1 : Hid (w.heap.size < w1.heap.size) := hl1.lt
  have Z1 := hide (Fv.nil (w := w) (W := w1) w.heap.size hb1)
  have E1 := hide (TX.out w1 w.heap.size hl1)
  clear hl1 hb1 SP
  generalize hgx : w.heap.size = gx at X1 HG1 Z1 E1
  have HGX := hide hgx
  first | rw [hgx] | skip
  clear hgx
  go_wp2_with fail
  refine E1.out.mono ?_
  rintro e w2 ⟨a1, c1, rfl, h1, ok1⟩
  have OKP := hide ok1
  have X2 := hide (rowIs_below X1.out h1.b)
  have HG2 : Hid (gx < w2.heap.size) := Nat.lt_of_lt_of_le HG1.out h1.b.size
  have Z2 := hide (Z1.out.add h1 HG1.out)
  have C2 := hide (CP.out w2 Z2.out.b)
  clear h1 ok1 E1 X1 HG1 Z1 CP
  go_wp2_with fail
  refine C2.out.mono ?_
  rintro e w3 ⟨a2, c2, rfl, r3, n3, hb3⟩
  have X3 := hide (rowIs_below X2.out hb3)
  have HG3 : Hid (gx < w3.heap.size) := Nat.lt_of_lt_of_le HG2.out hb3.size
  have Z3 := hide (Z2.out.keep hb3)
  have E3 := hide (TM.out w3 a2 c2 r3)
  clear r3 n3 hb3 C2 X2 HG2 Z2 TM
  go_wp2_with fail
  refine E3.out.mono ?_
  rintro e w4 ⟨a3, c3, rfl, h4, _⟩
  have X4 := hide (rowIs_below X3.out h4.b)
  have HG4 : Hid (gx < w4.heap.size) := Nat.lt_of_lt_of_le HG3.out h4.b.size
  have Z4 := hide (Z3.out.add h4 HG3.out)
  have E4 := hide (TX.out w4 gx X4.out)
  clear h4 E3 X3 HG3 Z3 TX
  go_wp2_with fail
  refine E4.out.mono ?_
  rintro e w5 ⟨a4, c4, rfl, h5, _⟩
  have X5 := hide (rowIs_below X4.out h5.b)
  have HG5 : Hid (gx < w5.heap.size) := Nat.lt_of_lt_of_le HG4.out h5.b.size
  have Z5 := hide (Z4.out.add h5 HG4.out)
  have D5 := hide (DL.out w5 Z5.out.b)
  clear h5 E4 X4 HG4 Z4 DL
  go_wp2_with fail
  refine D5.out.mono ?_
  rintro e w6 ⟨a5, c5, rfl, h6, _⟩
  have X6 := hide (rowIs_below X5.out h6.b)
  have Z6 := hide (Z5.out.keep h6.b)
  have R6 := hide h6.r
  have HG6 : Hid (gx < w6.heap.size) := Nat.lt_of_lt_of_le HG5.out h6.b.size
  have Q6 := hide (like_same w6 a1 a5 P.length P.length c1 c5 P ((Z6.out.rows ⟨a1, c1, P⟩ (by simp)).read OKP.out (by have := PLT.out; show P.length ≤ _; omega)) (h6.r.read OKP.out (by have := PLT.out; omega)) rfl rfl)
  clear h6 D5 X5 Z5 HG5
  go_wp2_with fail
  refine Q6.out.mono ?_
  rintro e w7 ⟨rfl, hb7⟩
  have X7 := hide (rowIs_below X6.out hb7)
  have Z7 := hide (Z6.out.keep hb7)
  have HG7 : Hid (gx < w7.heap.size) := Nat.lt_of_lt_of_le HG6.out hb7.size
  have Q7 := hide (like_same w7 a4 a5 P.length P.length c4 c5 P ((Z7.out.rows ⟨a4, c4, P⟩ (by simp)).read OKP.out (by have := PLT.out; show P.length ≤ _; omega)) ((R6.out.keep hb7).read OKP.out (by have := PLT.out; omega)) rfl rfl)
  clear hb7 Q6 X6 Z6 R6 HG6
  go_wp2_with fail
  refine Q7.out.mono ?_
  rintro e w8 ⟨rfl, hb8⟩
  have X8 := hide (rowIs_below X7.out hb8)
  have Z8 := hide (Z7.out.keep hb8)
  have HG8 : Hid (gx < w8.heap.size) := Nat.lt_of_lt_of_le HG7.out hb8.size
  have K8 := hide (KP.out w8 gx X8.out Z8.out.b)
  clear hb8 Q7 X7 Z7 HG7 KP
  go_wp2_with fail
  refine K8.out.mono ?_
  rintro e w9 ⟨rfl, hb9⟩
  have X9 := hide ((rowIs_below X8.out hb9).congr (g := mxF l m 0) fun i _ => by unfold mxF; rw [if_neg (by omega)])
  have Z9 := hide (Z8.out.keep hb9)
  have HG9 : Hid (gx < w9.heap.size) := Nat.lt_of_lt_of_le HG8.out hb9.size
  clear hb9 K8 X8 Z8 HG8
  go_wp2
  go_loopw [14] (fun i wx => ∃ j : Nat, j ≤ min l.length m.length ∧ i = .int .i64 (j : Int) ∧ (wx.rowIs gx 5 (l.length + 64) (mxF l m j) ∧ But (fun k => k = gx) w9 wx)) (fun i _ => l.length - (intOf i).toNat)
  case atStart => exact ⟨0, Nat.zero_le _, rfl, X9.out, But.refl _ _⟩
  case round =>
    obtain ⟨j, hj, rfl, hG⟩ := hrel
    have HG := hide hG
    have BW := hide (Z9.out.but hG.2 (Nat.le_of_eq HGX.out)).b
    clear hG
    by_cases hlt : j < l.length
    · have hi : (j : Int) < (l.length : Int) := by omega
      by_cases hltm : j < m.length
      · have him : (j : Int) < (m.length : Int) := by omega
        obtain ⟨b, off, rfl, hc⟩ := byte_at HM.out BW.out hltm
        have cg := HG.out.1.cell (i := j) (by omega)
        have fg := HG.out.1.frozen j
        have hmj : mxF l m j j = .int .u8 ((l.getD j 0 : Nat) : Int) := by unfold mxF spF; rw [if_neg (by omega), if_pos hlt]
        rw [hmj] at cg
        have HS : Hid (∀ i, (if i = j then .int .u8 ((m.getD j 0 : Nat) : Int) else mxF l m j i) = mxF l m (j + 1) i) := fun i => by
          unfold mxF
          by_cases e : i = j
          · subst e; rw [if_pos rfl, if_pos (by omega)]
          · rw [if_neg e]
            by_cases e2 : i < j
            · rw [if_pos e2, if_pos (by omega)]
            · rw [if_neg e2, if_neg (by omega)]
        generalize m.getD j 0 = y at *
        generalize l.getD j 0 = z at *
        clear hmj
        go_wp2
        go_roundw
        case rel => exact ⟨j + 1, by omega, by go_num, (HG.out.1.set j _).congr fun i _ => HS.out i, HG.out.2.setCell (p := ⟨gx, j, none⟩) (fun _ => rfl) _⟩
        case measure => simp [intOf]; omega
      · have him : ¬ (j : Int) < (m.length : Int) := by omega
        have hjm : j = min l.length m.length := by omega
        have XE : Hid (wr.rowIs gx 5 (l.length + 64) (mxF l m (min l.length m.length))) := by show wr.rowIs _ _ _ _; rw [← hjm]; exact HG.out.1
        have Z10 := hide (Z9.out.but HG.out.2 (Nat.le_of_eq HGX.out))
        have B10 := hide (mx_bs XE.out HL.out.1 HM.out.1 HL.out.2.1)
        have HG10 : Hid (gx < wr.heap.size) := XE.out.lt
        have DX := hide (DN.out wr gx B10.out)
        clear HG BW hjm XE
        go_wp2_with fail
        refine DX.out.mono ?_
        rintro e w10 ⟨a6, c6, rfl, h10, _⟩
        have Z11 := hide (Z10.out.keep h10.b)
        have R11 := hide h10.r
        have HG11 : Hid (gx < w10.heap.size) := Nat.lt_of_lt_of_le HG10.out h10.b.size
        have EX := hide (TN.out w10 gx (B10.out.keep h10.b))
        clear h10 DX Z10 B10 HG10 DN TN
        go_wp2_with fail
        refine EX.out.mono ?_
        rintro e w11 ⟨a7, c7, rfl, h11, ok11⟩
        have Z12 := hide (Z11.out.add h11 HG11.out)
        have Q12 := hide (like_same w11 a7 a6 R.length R.length c7 c6 R (h11.r.read ok11 (by have := RLT.out; omega)) ((R11.out.keep h11.b).read ok11 (by have := RLT.out; omega)) rfl rfl)
        clear h11 ok11 EX Z11 R11 HG11
        go_wp2_with fail
        refine Q12.out.mono ?_
        rintro e w12 ⟨rfl, hb12⟩
        have Z13 := hide (Z12.out.keep hb12)
        have AP := hide (apart_four (w12.alloc (.cells #[.slice a1 P.length c1, .slice a3 Q.length c3, .slice a4 P.length c4, .slice a7 R.length c7] 24)) w12.heap.size [⟨a1, c1, P⟩, ⟨a3, c3, Q⟩, ⟨a4, c4, P⟩, ⟨a7, c7, R⟩] rfl (heap_alloc_new _ _) (fun t ht => ((Z13.out.rows t (by simpa using ht)).keep (al _ _))) (by simpa using Z13.out.dist) (by
          have e1 := PLT.out
          have e2 := QLT.out
          have e3 := RLT.out
          intro t ht
          simp only [List.mem_cons, List.not_mem_nil, or_false] at ht
          rcases ht with rfl | rfl | rfl | rfl
          · exact e1
          · exact e2
          · exact e1
          · exact e3))
        clear hb12 Q12 Z12
        go_wp2_with fail
        refine AP.out.mono ?_
        rintro e w13 ⟨rfl, hb13⟩
        have Z14 := hide ((But.ofBelow (S := fun k => gx < k) (Z13.out.b.alloc Z13.out.b.size _)).trans hb13 (by
          rintro k _ ⟨t, ht, x, hx, rfl⟩
          exact Z13.out.low t (by simpa using ht) x hx))
        clear hb13 AP Z13
        go_wp2_with fail
        refine (WK.out _).mono ?_
        rintro e w14 ⟨rfl, hb14⟩
        have Z15 := hide (bt (Z14.out.below fun k hk h => by have := HGX.out; omega) hb14)
        clear hb14 Z14
        go_wp2
        go_ret
        exact ⟨rfl, Z15.out⟩
    · have hi : ¬ (j : Int) < (l.length : Int) := by omega
      have hjm : j = min l.length m.length := by omega
      have XE : Hid (wr.rowIs gx 5 (l.length + 64) (mxF l m (min l.length m.length))) := by show wr.rowIs _ _ _ _; rw [← hjm]; exact HG.out.1
      have Z10 := hide (Z9.out.but HG.out.2 (Nat.le_of_eq HGX.out))
      have B10 := hide (mx_bs XE.out HL.out.1 HM.out.1 HL.out.2.1)
      have HG10 : Hid (gx < wr.heap.size) := XE.out.lt
      have DX := hide (DN.out wr gx B10.out)
      clear HG BW hjm XE
      go_wp2_with fail
      refine DX.out.mono ?_
      rintro e w10 ⟨a6, c6, rfl, h10, _⟩
      have Z11 := hide (Z10.out.keep h10.b)
      have R11 := hide h10.r
      have HG11 : Hid (gx < w10.heap.size) := Nat.lt_of_lt_of_le HG10.out h10.b.size
      have EX := hide (TN.out w10 gx (B10.out.keep h10.b))
      clear h10 DX Z10 B10 HG10 DN TN
      go_wp2_with fail
      refine EX.out.mono ?_
      rintro e w11 ⟨a7, c7, rfl, h11, ok11⟩
      have Z12 := hide (Z11.out.add h11 HG11.out)
      have Q12 := hide (like_same w11 a7 a6 R.length R.length c7 c6 R (h11.r.read ok11 (by have := RLT.out; omega)) ((R11.out.keep h11.b).read ok11 (by have := RLT.out; omega)) rfl rfl)
      clear h11 ok11 EX Z11 R11 HG11
      go_wp2_with fail
      refine Q12.out.mono ?_
      rintro e w12 ⟨rfl, hb12⟩
      have Z13 := hide (Z12.out.keep hb12)
      have AP := hide (apart_four (w12.alloc (.cells #[.slice a1 P.length c1, .slice a3 Q.length c3, .slice a4 P.length c4, .slice a7 R.length c7] 24)) w12.heap.size [⟨a1, c1, P⟩, ⟨a3, c3, Q⟩, ⟨a4, c4, P⟩, ⟨a7, c7, R⟩] rfl (heap_alloc_new _ _) (fun t ht => ((Z13.out.rows t (by simpa using ht)).keep (al _ _))) (by simpa using Z13.out.dist) (by
        have e1 := PLT.out
        have e2 := QLT.out
        have e3 := RLT.out
        intro t ht
        simp only [List.mem_cons, List.not_mem_nil, or_false] at ht
        rcases ht with rfl | rfl | rfl | rfl
        · exact e1
        · exact e2
        · exact e1
        · exact e3))
      clear hb12 Q12 Z12
      go_wp2_with fail
      refine AP.out.mono ?_
      rintro e w13 ⟨rfl, hb13⟩
      have Z14 := hide ((But.ofBelow (S := fun k => gx < k) (Z13.out.b.alloc Z13.out.b.size _)).trans hb13 (by
        rintro k _ ⟨t, ht, x, hx, rfl⟩
        exact Z13.out.low t (by simpa using ht) x hx))
      clear hb13 AP Z13
      go_wp2_with fail
      refine (WK.out _).mono ?_
      rintro e w14 ⟨rfl, hb14⟩
      have Z15 := hide (bt (Z14.out.below fun k hk h => by have := HGX.out; omega) hb14)
      clear hb14 Z14
      go_wp2
      go_ret
      exact ⟨rfl, Z15.out⟩
end Go.Proofs.Ythfcgfdboienkab
