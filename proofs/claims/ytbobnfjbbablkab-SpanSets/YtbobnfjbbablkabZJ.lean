import Derived.Test.YtbobnfjbbablkabZI
import Derived.Test.YtbobnfjbbablkabZS
import Derived.Shelf.SlSortCmp.NoneTotal
namespace Go.Proofs.Ytbobnfjbbablkab
open Go.RowKit

/-! ### the sort -/
set_option maxHeartbeats 800000 in
theorem closure_any (W : World) (r s : Rv) (hr : Bs W r.aL r.lo) (hs : Bs W s.aL s.lo) :
    Calls Try.prog 41 #[.agg r.cs.toList.toArray, .agg s.cs.toList.toArray] W fun e w' => e = .returned (.int .i64 (cmpB r.lo s.lo)) ∧ ∃ q os', w' = Sort.grow (W.drewN q) os' := by
  have C := hide fun w1 (hb : Below W.heap.size W w1) => sCompare_any w1 r.aL s.aL r.lo.length r.cL s.lo.length s.cL r.lo s.lo (hr.keep hb) (hs.keep hb) rfl rfl
  clear hr hs
  unfold Rv.cs
  generalize cmpB r.lo s.lo = z at *
  go_enter Try.func41, Try.ntmps41
  go_wp2_with fail
  refine (C.out _ (bt (al _ _) (al _ _))).mono ?_
  rintro e w1 ⟨rfl, hw⟩
  obtain rfl := hw.symm
  go_wp2
  go_ret
  exact ⟨rfl, 0, _, by rw [Sort.alloc_eq_grow, Sort.alloc_eq_grow, Sort.grow_grow]; rfl⟩
/-- what the sort is handed -/
abbrev Srt (w : World) (g : Nat) : Type := { r : Rv // Bs w r.aL r.lo ∧ ∀ x, r.aL = some x → r.lo ≠ [] → x.block ≠ g }
def encS (w : World) (g : Nat) (x : Srt w g) : List Value := x.1.cs.toList
def cfS (w : World) (g : Nat) (x y : Srt w g) : Int := cmpB x.1.lo y.1.lo
theorem swoS (w : World) (g : Nat) : Sort.SWO (ltOf (cfS w g)) := {
  irrefl := fun x => (by unfold ltOf cfS; rw [cmpB_refl]; rfl),
  trans := fun x y z h1 h2 => (by
    unfold ltOf cfS at *
    rw [decide_eq_true_iff, cmpB_neg] at *
    grind),
  ntrans := fun x y z h1 h2 => (by
    unfold ltOf cfS at *
    rw [decide_eq_false_iff_not, cmpB_neg] at *
    grind) }
theorem sortWorld_but {w : World} {g n : Nat} [Inhabited (Srt w g)] (d : Array (Srt w g)) (os : Array Obj) : But (fun k => k = g) w (sortWorldK (encS w g) 3 w g 0 n d os) := by
  refine ⟨rfl, rfl, rfl, ?_, fun k hk hn => ?_⟩
  · exact SWK.le ⟨n, os, rfl⟩
  · have hk' : k < (Sort.putRowK (encS w g) 3 (Sort.ahead w n) g 0 d).heap.size := by
      have : (Sort.putRowK (encS w g) 3 (Sort.ahead w n) g 0 d).heap.size = w.heap.size := by simp [Sort.putRowK, Sort.putRow, Sort.mapBlock, Sort.ahead]
      omega
    show ((Sort.putRowK (encS w g) 3 (Sort.ahead w n) g 0 d).heap ++ os)[k]? = _
    rw [Array.getElem?_append_left hk']
    show ((Sort.ahead w n).heap.modify g _)[k]? = _
    rw [Array.getElem?_modify, if_neg (fun e => hn e.symm)]
    rfl
theorem sortWorld_bs {w : World} {g n : Nat} [Inhabited (Srt w g)] (d : Array (Srt w g)) (os : Array Obj) (x : Srt w g) : Bs (sortWorldK (encS w g) 3 w g 0 n d os) x.1.aL x.1.lo :=
  x.2.1.but (sortWorld_but d os) fun y hy hne e => x.2.2 y hy hne e
/-- the row behind the sort -/
theorem sortWorld_row {w : World} {g n cap : Nat} [Inhabited (Srt w g)] {L : List Rv} (hQ : Qw w (some ⟨g, 0, none⟩) cap L) (d : Array (Srt w g)) (os : Array Obj) (hs : d.size = L.length) : Qw (sortWorldK (encS w g) 3 w g 0 n d os) (some ⟨g, 0, none⟩) cap (d.toList.map (·.1)) := by
  rcases hQ.cases with ⟨h0, _⟩ | ⟨g', cur, h0, hg, h1, h2, h3, h4⟩
  · cases h0
  · simp only [Option.some.injEq, Addr.mk.injEq] at h0
    obtain ⟨rfl, _⟩ := h0
    have hgl := (Array.getElem?_eq_some_iff.1 hg).1
    have hsz : (Sort.putRowK (encS w g) 3 (Sort.ahead w n) g 0 d).heap.size = w.heap.size := by simp [Sort.putRowK, Sort.putRow, Sort.mapBlock, Sort.ahead]
    have hb : (sortWorldK (encS w g) 3 w g 0 n d os).heap[g]? = some (.cells (Sort.putCells id 0 (Sort.flatK (encS w g) 3 d) cur) 24 (0, 0)) := by
      show ((Sort.putRowK (encS w g) 3 (Sort.ahead w n) g 0 d).heap ++ os)[g]? = _
      rw [Array.getElem?_append_left (by omega)]
      show ((Sort.ahead w n).heap.modify g _)[g]? = _
      rw [Array.getElem?_modify, if_pos rfl]
      show Option.map _ w.heap[g]? = _
      rw [hg]
      rfl
    have hl : (d.toList.map (·.1)).length = L.length := by simp [hs]
    refine Qw.mk hb (by omega) h2 (by simp [Sort.putCells, h3]) ?_
    rw [hl]
    have hle : L.length * 3 ≤ cap * 3 := Nat.mul_le_mul_right _ h1
    apply List.ext_getElem?
    intro i
    by_cases hi : i < L.length * 3
    · rw [List.getElem?_take, if_pos hi]
      have hR := Qc_get (d.toList.map (·.1)) (i / 3) (i % 3) (by rw [hl]; omega) (Nat.mod_lt _ (by decide))
      rw [show i / 3 * 3 + i % 3 = i by omega] at hR
      rw [hR]
      have hd : i / 3 < d.size := by omega
      have e1 : (d.toList.map (·.1)).getD (i / 3) Rv.zero = (d[i / 3]'hd).1 := by simp [hd]
      rw [e1, Array.getElem?_toList]
      unfold Sort.putCells
      rw [Array.getElem?_mapIdx, Array.getElem?_eq_getElem (by omega), Option.map_some, if_pos ⟨Nat.zero_le _, by simp [hs]; omega⟩, Nat.sub_zero]
      rw [Sort.get_flatK _ _ _ _ (by rw [hs]; exact hi), getElem!_pos d (i / 3) hd]
      have hm : i % 3 < (encS w g d[i / 3]).length := by
        show i % 3 < 3
        exact Nat.mod_lt _ (by decide)
      rw [getElem!_pos (encS w g d[i / 3]) (i % 3) hm]
      show some (id _) = (encS w g d[i / 3])[i % 3]?
      rw [List.getElem?_eq_getElem hm]
      rfl
    · rw [List.getElem?_take, if_neg hi, List.getElem?_eq_none (by rw [Qc_length, hl]; omega)]
theorem Qw.holds {w : World} {g cap : Nat} [Inhabited (Srt w g)] {L : List Rv} (hQ : Qw w (some ⟨g, 0, none⟩) cap L) (d : Array (Srt w g)) (hd : d.toList.map (·.1) = L) : Sort.HoldsK (encS w g) 3 w g 0 d := by
  have hs : d.size = L.length := by rw [← hd]; simp
  rcases hQ.cases with ⟨h0, _⟩ | ⟨g', cur, h0, hg, h1, h2, h3, h4⟩
  · cases h0
  · simp only [Option.some.injEq, Addr.mk.injEq] at h0
    obtain ⟨rfl, _⟩ := h0
    intro j hj
    rw [Sort.size_flatK, hs] at hj
    refine ⟨?_, ?_⟩
    · have := hQ.cells j
      rw [Nat.zero_add]
      have hR := Qc_get L (j / 3) (j % 3) (by omega) (Nat.mod_lt _ (by decide))
      rw [show j / 3 * 3 + j % 3 = j by omega] at hR
      have hdl : j / 3 < d.size := by omega
      have e1 : L.getD (j / 3) Rv.zero = (d[j / 3]'hdl).1 := by rw [← hd]; simp [hdl]
      rw [e1] at hR
      have hm : j % 3 < (encS w g d[j / 3]).length := by
        show j % 3 < 3
        exact Nat.mod_lt _ (by decide)
      have h5 := this ((encS w g d[j / 3])[j % 3]) (by rw [hR]; exact List.getElem?_eq_getElem hm)
      rw [Addr.add_mid, Nat.zero_add] at h5
      rw [h5, Sort.get_flatK _ _ _ _ (by rw [hs]; exact hj), getElem!_pos d (j / 3) hdl, getElem!_pos (encS w g d[j / 3]) (j % 3) hm]
      rfl
    · exact frozen_of_row _ _ _ _ _ hg
set_option maxHeartbeats 800000 in
theorem Sort_any (w : World) (g cap : Nat) (L : List Rv) (hQ : Qw w (some ⟨g, 0, none⟩) cap L) (hR : ∀ r ∈ L, Bs w r.aL r.lo ∧ ∀ x, r.aL = some x → r.lo ≠ [] → x.block ≠ g) (hlen : L.length < 4611686018427387904) :
    Calls Try.prog 40 #[.slice (some ⟨g, 0, none⟩) L.length cap, .func (.func 41) #[] #[]] w fun e w' => e = .returned (.tuple #[]) ∧ ∃ L', L'.Perm L ∧ L'.Pairwise (fun a b => a.lo ≤ b.lo) ∧ Qw w' (some ⟨g, 0, none⟩) cap L' ∧ But (fun k => k = g) w w' := by
  haveI : Inhabited (Srt w g) := ⟨⟨Rv.zero, Bs.nil w, fun x hx => by cases hx⟩⟩
  obtain ⟨d, hd⟩ : ∃ d : Array (Srt w g), d.toList.map (·.1) = L := ⟨(L.attach.map fun r => (⟨r.1, hR r.1 r.2⟩ : Srt w g)).toArray, by
    rw [List.toList_toArray, List.map_map]
    exact List.attach_map_subtype_val L⟩
  have hs : d.size = L.length := by rw [← hd]; simp
  have eg : ∀ args w, (callFunc 41 args).run Try.prog w = .ok (.enter 41 args) w := enters_of Try.func41 (by kernel_rfl) rfl
  have hcmp : CmpLays Try.prog 41 #[] (encS w g) 3 (cfS w g) g 0 d.size w := fun m os dk _ x y => closure_any _ x.1 y.1 (sortWorld_bs dk os x) (sortWorld_bs dk os y)
  have hcon := AnyQ.slices_SortFunc laysS 3 Try.isAgg24 Try.sizeOf24 (encS w g) (fun _ => rfl) (fun x v hv => Array.all_eq_true_iff_forall_mem.1 (cs_one x.1) v (by simpa [encS] using hv)) (cfS w g) (swoS w g) 41 #[] g 0 cap d w eg hcmp (hQ.holds d hd) (hQ.lt rfl) (by omega)
  rw [hs] at hcon
  refine Calls.mono (show Calls Try.prog 40 _ _ _ from hcon) fun e w' ⟨he, d', n, os, hp, hsrt, hw⟩ => ⟨he, d'.toList.map (·.1), ?_, ?_, ?_, ?_⟩
  · have h1 := hp.2.2
    have hs' := hp.1
    rw [show L.length = d.size from hs.symm, Array.extract_size, ← hs', Array.extract_size] at h1
    rw [← hd]
    exact h1.map _
  · have hs' : d'.size = L.length := hp.1.trans hs
    rw [List.pairwise_map, List.pairwise_iff_getElem]
    intro i j hi hj hij
    have hi' : i < d'.size := by simpa using hi
    have hj' : j < d'.size := by simpa using hj
    have h1 := hsrt i j (Nat.zero_le _) hij (by omega)
    rw [getElem!_pos d' i hi', getElem!_pos d' j hj'] at h1
    unfold ltOf cfS at h1
    rw [decide_eq_false_iff_not, cmpB_neg] at h1
    simp only [Array.getElem_toList]
    grind
  · rw [hw]
    exact sortWorld_row hQ d' os (hp.1.trans hs)
  · rw [hw]; exact sortWorld_but d' os
theorem Sort_none (w : World) (a : Option Addr) (cap : Nat) : Calls Try.prog 40 #[.slice a 0 cap, .func (.func 41) #[] #[]] w fun e w' => e = .returned (.tuple #[]) ∧ w' = w :=
  AnyF.slices_SortFunc_none laysS a cap _ w
end Go.Proofs.Ytbobnfjbbablkab
