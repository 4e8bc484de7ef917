import Derived.Test.YtbobnfjbbablkaaZBB
namespace Go.Proofs.Ytbobnfjbbablkaa
open Go.RowKit

theorem rg_rgOf {r : Rv} (h : r.op = decide (r.hi = [])) : r.rg = rgOf r.fm := by unfold Rv.rg rgOf Rv.fm; rw [h]
theorem map_rg_fm {C : List Rv} (hm : Fmd C) : C.map Rv.rg = (C.map Rv.fm).map rgOf := by
  rw [List.map_map]
  exact List.map_congr_left fun r hr => rg_rgOf (hm r hr)
theorem tp_fm {C D : List Rv} (hC : Fmd C) (hD : Fmd D) : C.map Rv.tp = D.map Rv.tp ↔ C.map Rv.fm = D.map Rv.fm := by
  constructor
  · intro h
    have h1 := congrArg (List.map fun t : Bool × List Nat × List Nat => (t.2.1, t.2.2)) h
    rw [List.map_map, List.map_map] at h1
    exact h1
  · intro h
    have h1 := congrArg (List.map fun f : Fm => (decide (f.2 = []), f.1, f.2)) h
    rw [List.map_map, List.map_map] at h1
    have e : ∀ {K : List Rv}, Fmd K → K.map ((fun f : Fm => (decide (f.2 = []), f.1, f.2)) ∘ Rv.fm) = K.map Rv.tp := fun {K} hK => List.map_congr_left fun r hr => by
      show (decide (r.hi = []), r.lo, r.hi) = (r.op, r.lo, r.hi)
      rw [hK r hr]
    rw [e hC, e hD] at h1
    exact h1
theorem count_cover {L C : List Rv} (hL : ∀ r ∈ L.map Rv.rg, r.b8) (hm : Fmd C) (hC : C.map Rv.fm = cover (L.map Rv.rg)) {x : List Nat} (hx : B8 x) : (C.filter fun r => has r.rg x).length = if inL (L.map Rv.rg) x then 1 else 0 := by
  rw [← cover_count hL x hx, ← hC]
  rw [List.filter_map, List.length_map]
  congr 1
  exact List.filter_congr fun r hr => by
    show has r.rg x = has (rgOf r.fm) x
    rw [rg_rgOf (hm r hr)]
theorem filter_take {C : List Rv} {p : Rv → Bool} {j : Nat} (h : j < C.length) : ((C.take (j + 1)).filter p).length = ((C.take j).filter p).length + (if p (C.getD j Rv.zero) then 1 else 0) := by
  rw [take_snocR h, List.filter_append, List.length_append]
  congr 1
  rw [List.filter_cons]
  split <;> simp
theorem any_drop {L : List Rv} {p : Rv → Bool} {j : Nat} (h : j < L.length) : (L.drop j).any p = (p (L.getD j Rv.zero) || (L.drop (j + 1)).any p) := by
  rw [List.drop_eq_getElem_cons h, List.any_cons]
  simp [h]
theorem rev_drop {L : List Rv} {j : Nat} (h : j < L.length) : (L.drop j).reverse = (L.drop (j + 1)).reverse ++ [L.getD j Rv.zero] := by
  rw [List.drop_eq_getElem_cons h, List.reverse_cons]
  simp [h]
theorem inL_any (L : List Rv) (x : List Nat) : inL (L.map Rv.rg) x = L.any fun r => has r.rg x := by unfold inL; rw [List.any_map]; rfl
theorem back_cover {L : List Rv} (hL : ∀ r ∈ L.map Rv.rg, r.b8) : cover (L.reverse.map Rv.rg) = cover (L.map Rv.rg) := by rw [List.map_reverse]; exact cover_reverse hL
theorem again_cover {L C : List Rv} (hL : ∀ r ∈ L.map Rv.rg, r.b8) (hm : Fmd C) (hC : C.map Rv.fm = cover (L.map Rv.rg)) : cover (C.map Rv.rg) = C.map Rv.fm := by
  rw [map_rg_fm hm, hC]; exact cover_cover hL
/-- of one range alone -/
theorem one_len {C : List Rv} {r : Rg} (hC : C.map Rv.fm = cover [r]) : C.length = if (form r).isSome then 1 else 0 := by
  have h := congrArg List.length hC
  rw [cover_one, List.length_map] at h
  rw [h]
  cases form r <;> rfl
theorem one_same {C D : List Rv} {r s : Rg} (hCm : Fmd C) (hDm : Fmd D) (hC : C.map Rv.fm = cover [r]) (hD : D.map Rv.fm = cover [s]) : decide (C.map Rv.tp = D.map Rv.tp) = decide (form r = form s) := by
  rw [decide_eq_decide, tp_fm hCm hDm, hC, hD, cover_one, cover_one]
  cases form r <;> cases form s <;> simp
/-- one range of a list, as a list -/
theorem Qs.one {w : World} {b off : Nat} {L : List Rv} (h : Qs w (some ⟨b, off, none⟩) L) {j : Nat} (hj : j < L.length) : Qs w (some ⟨b, off + j * 3, none⟩) [L.getD j Rv.zero] := by
  obtain ⟨b', off', e, hr⟩ := h.at hj
  simp only [Option.some.injEq, Addr.mk.injEq] at e
  obtain ⟨rfl, rfl, _⟩ := e
  refine ⟨fun q hq => ?_, by simp, .inr ⟨b, off + j * 3, rfl, fun i hi => ?_⟩⟩
  · rw [List.mem_singleton.1 hq]; exact h.1 _ (getD_memR hj)
  · obtain rfl : i = 0 := by simp at hi; omega
    simpa using hr
theorem stp_len (c : List Fm) (f : Fm) : (stp c f).length ≤ c.length + 1 := by
  rcases List.eq_nil_or_concat c with rfl | ⟨c, l, rfl⟩
  · simp [stp]
  · rw [List.concat_eq_append, stp_snoc]
    split <;> simp
theorem cov_len : ∀ (fs c : List Fm), (fs.foldl stp c).length ≤ c.length + fs.length
  | [], c => by simp
  | f :: fs, c => by
    have h1 := cov_len fs (stp c f)
    have h2 := stp_len c f
    rw [List.foldl_cons, List.length_cons]
    omega
theorem cover_len (L : List Rv) : (cover (L.map Rv.rg)).length ≤ L.length := by
  unfold cover cov
  have h1 := cov_len ((forms (L.map Rv.rg)).mergeSort fun a b => decide (cmpB a.1 b.1 ≤ 0)) []
  rw [List.length_mergeSort] at h1
  have h2 := forms_len L
  simp only [List.length_nil, Nat.zero_add] at h1
  omega
/-- whether a key lies in one of the ranges from place j on, as a number -/
def inN (L : List Rv) (x : List Nat) (j : Nat) : Nat := if (L.drop j).any (fun r => has r.rg x) then 1 else 0
theorem inN_yes {L : List Rv} {x : List Nat} {j : Nat} (h : j < L.length) (hh : has (L.getD j Rv.zero).rg x = true) : inN L x j = 1 := by unfold inN; rw [any_drop h, hh]; rfl
theorem inN_no {L : List Rv} {x : List Nat} {j : Nat} (h : j < L.length) (hh : has (L.getD j Rv.zero).rg x = false) : inN L x j = inN L x (j + 1) := by unfold inN; rw [any_drop h, hh]; rfl
theorem inN_end (L : List Rv) (x : List Nat) : inN L x L.length = 0 := by unfold inN; simp
theorem inN_all {L C : List Rv} {x : List Nat} (h : (C.filter fun r => has r.rg x).length = if inL (L.map Rv.rg) x then 1 else 0) : (C.filter fun r => has r.rg x).length = inN L x 0 := by rw [h, inL_any]; rfl
theorem map_len {C : List Rv} {l : List Fm} (h : C.map Rv.fm = l) : C.length = l.length := by rw [← h, List.length_map]
end Go.Proofs.Ytbobnfjbbablkaa
