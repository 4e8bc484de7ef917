import Derived.Test.YtceeeofkigkpkaaGreatUS
import Derived.Test.YtceeeofkigkpkaaGreatUK
import Derived.Test.YtceeeofkigkpkaaGreatUN
import Derived.Shelf.SlSortCmp.NoneTotal
namespace Go.Proofs.YtceeeofkigkpkaaGreat
open Go.RowKit

/-! ### the sort -/
def cmpI (x y : Int) : Int := if x < y then -1 else if y < x then 1 else 0
theorem isNaNT_any (w : World) (x : Int) : Calls Tryz.prog 94 #[.int .i64 x] w fun e w' => e = .returned (.bool false) ∧ w' = w := by
  go_enter Tryz.func94, Tryz.ntmps94
  go_wp2
  go_ret
  exact ⟨by simp, rfl⟩
theorem cmpT_any (w : World) (x y : Int) : Calls Tryz.prog 80 #[.int .i64 x, .int .i64 y] w fun e w' => e = .returned (.int .i64 (cmpI x y)) ∧ w' = w := by
  have N1 := hide fun W => isNaNT_any W x
  have N2 := hide fun W => isNaNT_any W y
  unfold cmpI
  by_cases h1 : x < y
  · rw [if_pos h1]
    go_enter Tryz.func80, Tryz.ntmps80
    go_wp2_with fail
    refine (N1.out _).mono ?_
    rintro e w1 ⟨rfl, rfl⟩
    go_wp2_with fail
    refine (N2.out _).mono ?_
    rintro e w1 ⟨rfl, rfl⟩
    go_wp2
    go_ret
    exact ⟨rfl, rfl⟩
  · rw [if_neg h1]
    by_cases h2 : y < x
    · rw [if_pos h2]
      go_enter Tryz.func80, Tryz.ntmps80
      go_wp2_with fail
      refine (N1.out _).mono ?_
      rintro e w1 ⟨rfl, rfl⟩
      go_wp2_with fail
      refine (N2.out _).mono ?_
      rintro e w1 ⟨rfl, rfl⟩
      go_wp2
      go_ret
      exact ⟨rfl, rfl⟩
    · rw [if_neg h2]
      go_enter Tryz.func80, Tryz.ntmps80
      go_wp2_with fail
      refine (N1.out _).mono ?_
      rintro e w1 ⟨rfl, rfl⟩
      go_wp2_with fail
      refine (N2.out _).mono ?_
      rintro e w1 ⟨rfl, rfl⟩
      go_wp2
      go_ret
      exact ⟨rfl, rfl⟩
set_option maxHeartbeats 800000 in
theorem closure5_any (W : World) (r s : Rn) :
    Calls Tryz.prog 79 #[.agg (rcs r).toList.toArray, .agg (rcs s).toList.toArray] W fun e w' => e = .returned (.int .i64 (cmpI r.1 s.1)) ∧ ∃ q os', w' = Sort.grow (W.drewN q) os' := by
  have C := hide fun w1 => cmpT_any w1 r.1 s.1
  unfold rcs
  generalize cmpI r.1 s.1 = z at *
  go_enter Tryz.func79, Tryz.ntmps79
  go_wp2_with fail
  refine (C.out _).mono ?_
  rintro e w1 ⟨rfl, hw⟩
  obtain rfl := hw.symm
  go_wp2
  go_ret
  exact ⟨rfl, 0, _, by rw [Sort.alloc_eq_grow, Sort.alloc_eq_grow, Sort.grow_grow]; rfl⟩
def encS (x : Rn) : List Value := (rcs x).toList
def cfS (x y : Rn) : Int := cmpI x.1 y.1
theorem cmpI_neg (x y : Int) : cmpI x y < 0 ↔ x < y := by
  unfold cmpI
  split
  · omega
  · split <;> omega
theorem swoS : Sort.SWO (ltOf cfS) := {
  irrefl := fun x => (by unfold ltOf cfS; rw [decide_eq_false_iff_not, cmpI_neg]; omega),
  trans := fun x y z h1 h2 => (by
    unfold ltOf cfS at *
    rw [decide_eq_true_iff, cmpI_neg] at *
    omega),
  ntrans := fun x y z h1 h2 => (by
    unfold ltOf cfS at *
    rw [decide_eq_false_iff_not, cmpI_neg] at *
    omega) }
theorem sortWorld_but {w : World} {g n : Nat} (d : Array Rn) (os : Array Obj) : But (fun k => k = g) w (sortWorldK encS 2 w g 0 n d os) := by
  refine ⟨rfl, rfl, rfl, ?_, fun k hk hn => ?_⟩
  · exact SWK.le ⟨n, os, rfl⟩
  · have hk' : k < (Sort.putRowK encS 2 (Sort.ahead w n) g 0 d).heap.size := by
      have : (Sort.putRowK encS 2 (Sort.ahead w n) g 0 d).heap.size = w.heap.size := by simp [Sort.putRowK, Sort.putRow, Sort.mapBlock, Sort.ahead]
      omega
    show ((Sort.putRowK encS 2 (Sort.ahead w n) g 0 d).heap ++ os)[k]? = _
    rw [Array.getElem?_append_left hk']
    show ((Sort.ahead w n).heap.modify g _)[k]? = _
    rw [Array.getElem?_modify, if_neg (fun e => hn e.symm)]
    rfl
theorem rc_getAt (L : List Rn) (i j : Nat) (hi : i < L.length) (hj : j < 2) : (rc L)[i * 2 + j]? = (encS (L.getD i Rn.zero))[j]? := by
  obtain ⟨h1, h2⟩ := rc_get L i hi
  match j, hj with
  | 0, _ => exact h1
  | 1, _ => exact h2
/-- the row behind the sort -/
theorem sortWorld_row {w : World} {g n cap : Nat} {L : List Rn} (hQ : Vw w (some ⟨g, 0, none⟩) cap L) (d : Array Rn) (os : Array Obj) (hs : d.size = L.length) : Vw (sortWorldK encS 2 w g 0 n d os) (some ⟨g, 0, none⟩) cap d.toList := by
  rcases hQ.cases with ⟨h0, _⟩ | ⟨g', Y, h0, hg, h1, h2, h3⟩
  · cases h0
  · simp only [Option.some.injEq, Addr.mk.injEq, and_true] at h0
    subst h0
    have hgl := hg.lt
    have hsz : (Sort.putRowK encS 2 (Sort.ahead w n) g 0 d).heap.size = w.heap.size := by simp [Sort.putRowK, Sort.putRow, Sort.mapBlock, Sort.ahead]
    have hb : (sortWorldK encS 2 w g 0 n d os).heap[g]? = some (.cells (Sort.putCells id 0 (Sort.flatK encS 2 d) (rc L ++ Y).toArray) 92 (0, 0)) := by
      show ((Sort.putRowK encS 2 (Sort.ahead w n) g 0 d).heap ++ os)[g]? = _
      rw [Array.getElem?_append_left (by omega)]
      show ((Sort.ahead w n).heap.modify g _)[g]? = _
      rw [Array.getElem?_modify, if_pos rfl]
      show Option.map _ w.heap[g]? = _
      rw [show w.heap[g]? = _ from hg]
      rfl
    have hl : d.toList.length = L.length := by simp [hs]
    refine Vw.mk (Y := Y) ?_ (by omega) h2 (by omega)
    unfold Rowb
    rw [hb]
    congr 2
    apply Array.ext_getElem?
    intro i
    unfold Sort.putCells
    rw [Array.getElem?_mapIdx]
    simp only [List.getElem?_toArray]
    by_cases hi : i < L.length * 2
    · have hd : i / 2 < d.size := by omega
      have hR := rc_getAt d.toList (i / 2) (i % 2) (by omega) (Nat.mod_lt _ (by decide))
      rw [show i / 2 * 2 + i % 2 = i by omega] at hR
      have e1 : d.toList.getD (i / 2) Rn.zero = d[i / 2]'hd := by simp [hd]
      rw [e1] at hR
      rw [List.getElem?_append_left (show i < (rc L).length by rw [rc_length]; exact hi), List.getElem?_append_left (show i < (rc d.toList).length by rw [rc_length, hl]; exact hi), hR, List.getElem?_eq_getElem (show i < (rc L).length by rw [rc_length]; exact hi), Option.map_some, if_pos ⟨Nat.zero_le _, by simp [hs]; omega⟩, Nat.sub_zero]
      rw [Sort.get_flatK _ _ _ _ (by rw [hs]; exact hi), getElem!_pos d (i / 2) hd]
      have hm : i % 2 < (encS d[i / 2]).length := by
        show i % 2 < 2
        exact Nat.mod_lt _ (by decide)
      rw [getElem!_pos (encS d[i / 2]) (i % 2) hm]
      show some (id _) = (encS d[i / 2])[i % 2]?
      rw [List.getElem?_eq_getElem hm]
      rfl
    · rw [List.getElem?_append_right (show (rc L).length ≤ i by rw [rc_length]; omega), List.getElem?_append_right (show (rc d.toList).length ≤ i by rw [rc_length, hl]; omega), rc_length, rc_length, hl]
      cases hy : Y[i - L.length * 2]? with
      | none => rfl
      | some v =>
        rw [Option.map_some, if_neg (fun h => hi (by have := h.2; simp [hs] at this; omega))]
theorem Vw.holds {w : World} {g cap : Nat} {L : List Rn} (hQ : Vw w (some ⟨g, 0, none⟩) cap L) : Sort.HoldsK encS 2 w g 0 L.toArray := by
  rcases hQ.cases with ⟨h0, _⟩ | ⟨g', Y, h0, hg, h1, h2, h3⟩
  · cases h0
  · simp only [Option.some.injEq, Addr.mk.injEq, and_true] at h0
    subst h0
    intro j hj
    rw [Sort.size_flatK, List.size_toArray] at hj
    refine ⟨?_, frozen_of_row _ _ _ _ _ hg⟩
    have hc := hg.cs (P := []) (X := rc L) (Y := Y) (by simp)
    have hR := rc_getAt L (j / 2) (j % 2) (by omega) (Nat.mod_lt _ (by decide))
    rw [show j / 2 * 2 + j % 2 = j by omega] at hR
    have hdl : j / 2 < L.length := by omega
    have hm : j % 2 < (encS (L.getD (j / 2) Rn.zero)).length := by
      show j % 2 < 2
      exact Nat.mod_lt _ (by decide)
    have h5 := hc j ((encS (L.getD (j / 2) Rn.zero))[j % 2]) (by rw [hR]; exact List.getElem?_eq_getElem hm)
    rw [List.length_nil] at h5
    have e1 : L.getD (j / 2) Rn.zero = L[j / 2] := by simp [hdl]
    rw [h5, Sort.get_flatK _ _ _ _ (by rw [List.size_toArray]; exact hj), getElem!_pos L.toArray (j / 2) (by simpa using hdl)]
    rw [getElem!_pos (encS L.toArray[j / 2]) (j % 2) (by show j % 2 < 2; exact Nat.mod_lt _ (by decide))]
    simp only [e1, List.getElem_toArray]
    rfl
set_option maxHeartbeats 800000 in
theorem Sort_any (w : World) (g cap : Nat) (L : List Rn) (hQ : Vw w (some ⟨g, 0, none⟩) cap L) (hlen : L.length < 4611686018427387904) :
    Calls Tryz.prog 78 #[.slice (some ⟨g, 0, none⟩) L.length cap, .func (.func 79) #[] #[]] w fun e w' => e = .returned (.tuple #[]) ∧ ∃ L', L'.Perm L ∧ Vw w' (some ⟨g, 0, none⟩) cap L' ∧ But (fun k => k = g) w w' := by
  have eg : ∀ args w, (callFunc 79 args).run Tryz.prog w = .ok (.enter 79 args) w := enters_of Tryz.func79 (by kernel_rfl) rfl
  have hcmp : CmpLays Tryz.prog 79 #[] encS 2 cfS g 0 L.toArray.size w := fun m os dk _ x y => closure5_any _ x y
  have hcon := AnyQ.slices_SortFunc laysS 2 Tryz.isAgg92 Tryz.sizeOf92 encS (fun _ => rfl) (fun x v hv => rcs_one x v hv) cfS swoS 79 #[] g 0 cap L.toArray w eg hcmp hQ.holds (hQ.lt rfl) (by simpa using hlen)
  rw [List.size_toArray] at hcon
  refine Calls.mono (show Calls Tryz.prog 78 _ _ _ from hcon) fun e w' ⟨he, d', n, os, hp, hsrt, hw⟩ => ⟨he, d'.toList, ?_, ?_, ?_⟩
  · have h1 := hp.2.2
    have hs' : d'.size = L.toArray.size := hp.1
    rw [show L.length = L.toArray.size by simp, Array.extract_size, ← hs', Array.extract_size] at h1
    simpa using h1
  · rw [hw]
    exact sortWorld_row hQ d' os (by have h : d'.size = L.toArray.size := hp.1; simpa using h)
  · rw [hw]; exact sortWorld_but d' os
theorem Sort_none (w : World) (a : Option Addr) (cap : Nat) : Calls Tryz.prog 78 #[.slice a 0 cap, .func (.func 79) #[] #[]] w fun e w' => e = .returned (.tuple #[]) ∧ w' = w :=
  AnyF.slices_SortFunc_none laysS a cap _ w
set_option maxHeartbeats 800000 in
theorem Clone_any (w : World) (a : Option Addr) (c : Nat) (L : List Rn) (hV : Vs w a L) (hl : L.length ≤ 14000000000000) (hn : a = none → c = 0 ∧ L = []) :
    Calls Tryz.prog 77 #[.slice a L.length c] w fun e w' => ∃ a' c', e = .returned (.slice a' L.length c') ∧ Vw w' a' c' L ∧ New w none a' ∧ Below w.heap.size w w' ∧ (L ≠ [] → a' ≠ none) := by
  have he := fun (x : Option Addr) (n k : Nat) (w : World) => Lib.run_eql_slice_nil (P := Tryz.prog) w 88 92 x n k 0 0 Tryz.underlying88
  cases a with
  | none =>
    obtain ⟨rfl, rfl⟩ := hn rfl
    rw [List.length_nil]
    go_enter Tryz.func77, Tryz.ntmps77
    go_wp2
    go_ret
    exact ⟨none, 0, rfl, Vw.nil _, New.none _ _, Below.refl _ _⟩
  | some x =>
    have ha := al w (.cells #[] 92)
    have h0 : Vw (w.alloc (.cells #[] 92)) (some ⟨w.heap.size, 0, none⟩) 0 [] := Vw.mk (Y := []) (World.alloc_heap_new w _) (Nat.le_refl _) (Nat.zero_le _) rfl
    by_cases hL : L = []
    · subst hL
      rw [List.length_nil]
      obtain ⟨w1, hrun, r1, b1⟩ := run_apIn (w.alloc (.cells #[] 92)) 88 w.heap.size 0 0 [] [] [] (some x) 0 c rfl (World.alloc_heap_new w _) rfl (.inl rfl) (Nat.le_refl _) (by simp) (Nat.le_refl _)
      have GG := hide (show ∃ a' c', Ending.returned (.slice (some ⟨w.heap.size, 0, none⟩) 0 0) = .returned (.slice a' 0 c') ∧ Vw w1 a' c' [] ∧ New w none a' ∧ Below w.heap.size w w1 ∧ (([] : List Rn) ≠ [] → a' ≠ none) from
        ⟨_, 0, rfl, Vw.mk (Y := []) r1 (Nat.le_refl _) (Nat.zero_le _) rfl, fun z hz => .inr (by cases hz; exact Nat.le_refl _), ((But.ofBelow (S := fun _ => False) ha).trans b1 (fun k hk e => by omega)).below (fun _ _ h => h), fun h => (h rfl).elim⟩)
      clear r1 b1 h0 ha hn
      go_enter Tryz.func77, Tryz.ntmps77
      go_wp2_with (at_builtin; refine Lib.wpList_append_run _ rfl _ _ _ _ rfl _ _ rfl rfl _ _ hrun ?_)
      go_ret
      exact GG.out
    · obtain ⟨g, c', w1, hrun, q1, q2, q3⟩ := run_apR (w.alloc (.cells #[] 92)) 88 (some ⟨w.heap.size, 0, none⟩) 0 0 [] rfl h0 (some x) L.length c L rfl (hV.keep ha) hL (by simp; omega)
      rw [Nat.zero_add] at hrun
      rw [List.nil_append] at q1
      have GG := hide (show ∃ a' c'', Ending.returned (.slice (some ⟨g, 0, none⟩) L.length c') = .returned (.slice a' L.length c'') ∧ Vw w1 a' c'' L ∧ New w none a' ∧ Below w.heap.size w w1 ∧ (L ≠ [] → a' ≠ none) from
        ⟨_, c', rfl, q1, fun z hz => by
          rcases q2 z hz with ⟨y, hy, e⟩ | h
          · cases hy; exact .inr (Nat.le_of_eq e)
          · exact .inr (by rw [size_alloc] at h; omega), ((But.ofBelow (S := fun _ => False) ha).grown q3 (fun k hk h => by
              obtain ⟨y, hy, e⟩ := map_some hk
              cases hy
              rw [← e] at h
              exact absurd h (Nat.lt_irrefl _))).below (fun _ _ h => h), fun _ => by simp⟩)
      clear q1 q2 q3 h0 ha hn hV
      generalize L.length = n at *
      go_enter Tryz.func77, Tryz.ntmps77
      go_wp2_with (at_builtin; refine Lib.wpList_append_run _ rfl _ _ _ _ rfl _ _ rfl rfl _ _ hrun ?_)
      go_ret
      exact GG.out
end Go.Proofs.YtceeeofkigkpkaaGreat
