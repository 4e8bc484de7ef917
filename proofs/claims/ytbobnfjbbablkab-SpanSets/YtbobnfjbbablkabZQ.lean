import Derived.Test.YtbobnfjbbablkabZO
namespace Go.Proofs.Ytbobnfjbbablkab
open Go.RowKit

/-- a range as it is told -/
def Rv.tp (r : Rv) : Bool × List Nat × List Nat := (r.op, r.lo, r.hi)
theorem tp_iff {r s : Rv} : r.tp = s.tp ↔ r.rg = s.rg := by
  unfold Rv.tp Rv.rg
  simp only [Prod.mk.injEq, Rg.mk.injEq]
  constructor
  · rintro ⟨h1, h2, h3⟩; exact ⟨h2, h3, h1⟩
  · rintro ⟨h1, h2, h3⟩; exact ⟨h3, h1, h2⟩
theorem tp_dec (r s : Rv) : decide (r.tp = s.tp) = (decide (r.op = s.op) && (decide (r.lo = s.lo) && decide (r.hi = s.hi))) := by
  rw [← Bool.decide_and, ← Bool.decide_and, decide_eq_decide]
  unfold Rv.tp
  simp only [Prod.mk.injEq]
set_option maxHeartbeats 1600000 in
theorem EqRange_any (w : World) (r s : Rv) (hR : Ri w r) (hS : Ri w s) :
    Calls Try.prog 21 #[r.val, s.val] w fun e w' => e = .returned (.bool (decide (r.tp = s.tp))) ∧ Below w.heap.size w w' := by
  obtain ⟨aL, cL, lo, aH, cH, hi, op⟩ := r
  obtain ⟨bL, dL, ko, bH, dH, ki, oq⟩ := s
  have E1 := hide fun w1 (hb : Below w.heap.size w w1) => EqBytes_any w1 aL bL lo.length ko.length cL dL lo ko (hR.bl.keep hb) (hS.bl.keep hb) rfl rfl
  have E2 := hide fun w1 (hb : Below w.heap.size w w1) => EqBytes_any w1 aH bH hi.length ki.length cH dH hi ki (hR.bh.keep hb) (hS.bh.keep hb) rfl rfl
  have HD : decide (Rv.tp ⟨aL, cL, lo, aH, cH, hi, op⟩ = Rv.tp ⟨bL, dL, ko, bH, dH, ki, oq⟩) = (decide (op = oq) && (decide (lo = ko) && decide (hi = ki))) := tp_dec _ _
  rw [HD]
  clear hR hS HD
  unfold Rv.val Rv.cs
  generalize decide (lo = ko) = x at *
  generalize decide (hi = ki) = y at *
  have B2 : Hid (∀ o p, Below w.heap.size w ((w.alloc o).alloc p)) := fun o p => bt (al _ _) (al _ _)
  by_cases ho : op = oq
  · subst ho
    have hoo : (op == op) = true := by simp
    rw [decide_eq_true (rfl : op = op)]
    cases x with
    | false =>
      go_enter Try.func21, Try.ntmps21
      go_wp2_with fail
      refine (E1.out _ (B2.out _ _)).mono ?_
      rintro e w1 ⟨rfl, hb⟩
      have HB := hide (bt (B2.out _ _) hb)
      clear hb
      go_wp2
      go_ret
      exact ⟨rfl, HB.out⟩
    | true =>
      go_enter Try.func21, Try.ntmps21
      go_wp2_with fail
      refine (E1.out _ (B2.out _ _)).mono ?_
      rintro e w1 ⟨rfl, hb⟩
      obtain ⟨m0, m1, hb1, hs1⟩ := two_blocks _ _ _ hb
      obtain ⟨k0, k1, k2⟩ := row3_cells m0
      obtain ⟨j0, j1, j2⟩ := row3_cells m1
      have HB := hide hb1
      clear hb hb1 m0 m1 hs1
      go_wp2_with fail
      refine (E2.out _ HB.out).mono ?_
      rintro e w2 ⟨rfl, hb⟩
      have HB2 := hide (bt HB.out hb)
      clear hb
      go_wp2
      go_ret
      exact ⟨rfl, HB2.out⟩
  · have hoo : (op == oq) = false := by simpa using ho
    rw [decide_eq_false ho]
    go_enter Try.func21, Try.ntmps21
    go_wp2
    go_ret
    exact ⟨rfl, B2.out _ _⟩
theorem map_tp_at {L M : List Rv} (h : L.map Rv.tp = M.map Rv.tp) (j : Nat) : (L.getD j Rv.zero).tp = (M.getD j Rv.zero).tp := by
  have h1 : ∀ (K : List Rv), (K.map Rv.tp).getD j Rv.zero.tp = (K.getD j Rv.zero).tp := fun K => by
    simp only [List.getD_eq_getElem?_getD, List.getElem?_map]
    cases K[j]? <;> rfl
  rw [← h1, ← h1, h]
theorem map_tp_of {L M : List Rv} (hl : L.length = M.length) (h : ∀ j, j < L.length → (L.getD j Rv.zero).tp = (M.getD j Rv.zero).tp) : L.map Rv.tp = M.map Rv.tp := by
  apply List.ext_getElem
  · simpa using hl
  · intro i h1 h2
    have hi : i < L.length := by simpa using h1
    have := h i hi
    simp only [List.getElem_map]
    simpa [hi, show i < M.length by omega] using this
end Go.Proofs.Ytbobnfjbbablkab
