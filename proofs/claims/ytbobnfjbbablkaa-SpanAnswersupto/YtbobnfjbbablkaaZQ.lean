import Derived.Test.YtbobnfjbbablkaaZO
namespace Go.Proofs.Ytbobnfjbbablkaa
open Go.RowKit

/-- a range as it is told -/
def Rv.tp (r : Rv) : Bool × List Nat × List Nat := (r.op, r.lo, r.hi)
theorem tp_iff {r s : Rv} : r.tp = s.tp ↔ r.rg = s.rg := by
  unfold Rv.tp Rv.rg
  simp only [Prod.mk.injEq, Rg.mk.injEq]
  constructor
  · rintro ⟨h1, h2, h3⟩; exact ⟨h2, h3, h1⟩
  · rintro ⟨h1, h2, h3⟩; exact ⟨h3, h1, h2⟩
theorem tp_dec (r s : Rv) : decide (r.tp = s.tp) = (decide (r.op = s.op) && (decide (r.lo = s.lo) && decide (r.hi = s.hi))) := by
  rw [← Bool.decide_and, ← Bool.decide_and, decide_eq_decide]
  unfold Rv.tp
  simp only [Prod.mk.injEq]
set_option maxHeartbeats 1600000 in
theorem EqRange_any (w : World) (r s : Rv) (hR : Ri w r) (hS : Ri w s) :
    Calls Try.prog 29 #[r.val, s.val] w fun e w' => e = .returned (.bool (decide (r.tp = s.tp))) ∧ Below w.heap.size w w' := by
  obtain ⟨aL, cL, lo, aH, cH, hi, op⟩ := r
  obtain ⟨bL, dL, ko, bH, dH, ki, oq⟩ := s
  have E1 := hide fun w1 (hb : Below w.heap.size w w1) => EqBytes_any w1 aL bL lo.length ko.length cL dL lo ko (hR.bl.keep hb) (hS.bl.keep hb) rfl rfl
  have E2 := hide fun w1 (hb : Below w.heap.size w w1) => EqBytes_any w1 aH bH hi.length ki.length cH dH hi ki (hR.bh.keep hb) (hS.bh.keep hb) rfl rfl
  have HD : decide (Rv.tp ⟨aL, cL, lo, aH, cH, hi, op⟩ = Rv.tp ⟨bL, dL, ko, bH, dH, ki, oq⟩) = (decide (op = oq) && (decide (lo = ko) && decide (hi = ki))) := tp_dec _ _
  rw [HD]
  clear hR hS HD
  unfold Rv.val Rv.cs
  generalize decide (lo = ko) = x at *
  generalize decide (hi = ki) = y at *
  have B2 : Hid (∀ o p, Below w.heap.size w ((w.alloc o).alloc p)) := fun o p => bt (al _ _) (al _ _)
  by_cases ho : op = oq
  · subst ho
    have hoo : (op == op) = true := by simp
    rw [decide_eq_true (rfl : op = op)]
    cases x with
    | false =>
      go_enter Try.func29, Try.ntmps29
      go_wp2_with fail
      refine (E1.out _ (B2.out _ _)).mono ?_
      rintro e w1 ⟨rfl, hb⟩
      have HB := hide (bt (B2.out _ _) hb)
      clear hb
      go_wp2
      go_ret
      exact ⟨rfl, HB.out⟩
    | true =>
      go_enter Try.func29, Try.ntmps29
      go_wp2_with fail
      refine (E1.out _ (B2.out _ _)).mono ?_
      rintro e w1 ⟨rfl, hb⟩
      obtain ⟨m0, m1, hb1, hs1⟩ := two_blocks _ _ _ hb
      obtain ⟨k0, k1, k2⟩ := row3_cells m0
      obtain ⟨j0, j1, j2⟩ := row3_cells m1
      have HB := hide hb1
      clear hb hb1 m0 m1 hs1
      go_wp2_with fail
      refine (E2.out _ HB.out).mono ?_
      rintro e w2 ⟨rfl, hb⟩
      have HB2 := hide (bt HB.out hb)
      clear hb
      go_wp2
      go_ret
      exact ⟨rfl, HB2.out⟩
  · have hoo : (op == oq) = false := by simpa using ho
    rw [decide_eq_false ho]
    go_enter Try.func29, Try.ntmps29
    go_wp2
    go_ret
    exact ⟨rfl, B2.out _ _⟩
theorem map_tp_at {L M : List Rv} (h : L.map Rv.tp = M.map Rv.tp) (j : Nat) : (L.getD j Rv.zero).tp = (M.getD j Rv.zero).tp := by
  have h1 : ∀ (K : List Rv), (K.map Rv.tp).getD j Rv.zero.tp = (K.getD j Rv.zero).tp := fun K => by
    simp only [List.getD_eq_getElem?_getD, List.getElem?_map]
    cases K[j]? <;> rfl
  rw [← h1, ← h1, h]
theorem map_tp_of {L M : List Rv} (hl : L.length = M.length) (h : ∀ j, j < L.length → (L.getD j Rv.zero).tp = (M.getD j Rv.zero).tp) : L.map Rv.tp = M.map Rv.tp := by
  apply List.ext_getElem
  · simpa using hl
  · intro i h1 h2
    have hi : i < L.length := by simpa using h1
    have := h i hi
    simp only [List.getElem_map]
    simpa [hi, show i < M.length by omega] using this
set_option maxRecDepth 100000 in
set_option maxHeartbeats 3200000 in
theorem sameRanges_any (w : World) (a b : Option Addr) (n c m d : Nat) (L M : List Rv) (hA : Qs w a L) (hB : Qs w b M) (hn : n = L.length) (hm : m = M.length) :
    Calls Try.prog 45 #[.slice a n c, .slice b m d] w fun e w' => e = .returned (.bool (decide (L.map Rv.tp = M.map Rv.tp))) ∧ Below w.heap.size w w' := by
  subst hn hm
  have HA := hide hA
  have HB := hide hB
  have hl1 := hA.2.1
  have hl2 := hB.2.1
  clear hA hB
  by_cases hl : L.length = M.length
  · rw [← hl]
    have HLE := hide hl
    clear hl hl2
    go_enter Try.func45, Try.ntmps45
    go_wp2
    go_loopw [5] (fun i wx => ∃ j : Nat, j ≤ L.length ∧ i = .int .i64 j ∧ ((∀ k, k < j → (L.getD k Rv.zero).tp = (M.getD k Rv.zero).tp) ∧ Below w.heap.size w wx)) (fun i _ => L.length - (intOf i).toNat)
    case atStart => exact ⟨0, Nat.zero_le _, rfl, fun k hk => by omega, Below.refl _ _⟩
    case round =>
      obtain ⟨j, hj, rfl, hG⟩ := hrel
      have HG := hide hG
      clear hG
      by_cases hlt : j < L.length
      · have hi : (j : Int) < (L.length : Int) := by omega
        have hj1 := w64 (j := j) (by omega)
        obtain ⟨b1, o1, rfl, hr1⟩ := (HA.out.keep HG.out.2).at hlt
        obtain ⟨b2, o2, rfl, hr2⟩ := (HB.out.keep HG.out.2).at (r := j) (by have := HLE.out; omega)
        obtain ⟨k0, k1, k2⟩ := range3 hr1
        obtain ⟨j0, j1, j2⟩ := range3 hr2
        have HR1 : Hid (Ri wr (L.getD j Rv.zero)) := (HA.out.keep HG.out.2).1 _ (getD_memR hlt)
        have HR2 : Hid (Ri wr (M.getD j Rv.zero)) := (HB.out.keep HG.out.2).1 _ (getD_memR (by have := HLE.out; omega))
        have EQ := hide fun w1 (hb : Below wr.heap.size wr w1) => EqRange_any w1 (L.getD j Rv.zero) (M.getD j Rv.zero) (HR1.out.keep hb) (HR2.out.keep hb)
        have HNX : Hid ((L.getD j Rv.zero).tp = (M.getD j Rv.zero).tp → ∀ k, k < j + 1 → (L.getD k Rv.zero).tp = (M.getD k Rv.zero).tp) := fun h k hk => by
          by_cases e : k = j
          · rw [e]; exact h
          · exact HG.out.1 k (by omega)
        have HNO : Hid (¬ (L.getD j Rv.zero).tp = (M.getD j Rv.zero).tp → decide (L.map Rv.tp = M.map Rv.tp) = false) := fun h => decide_eq_false fun e => h (map_tp_at e j)
        clear hr1 hr2 HR1 HR2
        unfold Rv.val at EQ
        generalize L.getD j Rv.zero = r at *
        generalize M.getD j Rv.zero = s at *
        dsimp only [Rv.cs] at *
        have T0 : Hid (Below wr.heap.size wr wr.drew) := (Below.refl _ _).drew
        have S0 : (wr.drew.cell? ⟨b1, o1 + j * 3, none⟩ = some (.slice r.aL r.lo.length r.cL) ∧ wr.drew.cell? ⟨b1, o1 + j * 3 + 1, none⟩ = some (.slice r.aH r.hi.length r.cH) ∧ wr.drew.cell? ⟨b1, o1 + j * 3 + 2, none⟩ = some (.bool r.op)) ∧ wr.drew.cell? ⟨b2, o2 + j * 3, none⟩ = some (.slice s.aL s.lo.length s.cL) ∧ wr.drew.cell? ⟨b2, o2 + j * 3 + 1, none⟩ = some (.slice s.aH s.hi.length s.cH) ∧ wr.drew.cell? ⟨b2, o2 + j * 3 + 2, none⟩ = some (.bool s.op) := ⟨⟨k0, k1, k2⟩, j0, j1, j2⟩
        have S1 := S0
        by_cases hx : r.tp = s.tp
        · have HNX2 := hide (HNX.out hx)
          rw [decide_eq_true hx] at EQ
          clear HNX HNO hx
          go_wp2
          go_region_held3 (fun w' => (w'.cell? ⟨b1, o1 + j * 3, none⟩ = some (.slice r.aL r.lo.length r.cL) ∧ w'.cell? ⟨b1, o1 + j * 3 + 1, none⟩ = some (.slice r.aH r.hi.length r.cH) ∧ w'.cell? ⟨b1, o1 + j * 3 + 2, none⟩ = some (.bool r.op)) ∧ w'.cell? ⟨b2, o2 + j * 3, none⟩ = some (.slice s.aL s.lo.length s.cL) ∧ w'.cell? ⟨b2, o2 + j * 3 + 1, none⟩ = some (.slice s.aH s.hi.length s.cH) ∧ w'.cell? ⟨b2, o2 + j * 3 + 2, none⟩ = some (.bool s.op))
            (first | with_reducible exact S0 | with_reducible exact S1)
            (first | (go_at_call 29; refine (EQ.out _ T0.out).mono ?_; rintro e w4 ⟨rfl, hb⟩; have S1 := And.intro (o3_keep S0.1 hb) (o3_keep S0.2 hb); have T1 := hide (bt T0.out hb); clear hb))
          clear S0 S1
          go_wp2
          go_roundw
          case rel => exact ⟨j + 1, by omega, by first | (go_num; done) | exact congrArg (Value.int IntKind.i64) (by omega), HNX2.out, bt HG.out.2 T1.out⟩
          case measure => first | exact meas_up _ _ _ hj1 hlt | exact meas_up _ _ _ rfl hlt | (simp [intOf]; omega)
        · have HNO2 := hide (HNO.out hx)
          rw [decide_eq_false hx] at EQ
          clear HNX HNO hx
          go_wp2
          go_region_held3 (fun w' => (w'.cell? ⟨b1, o1 + j * 3, none⟩ = some (.slice r.aL r.lo.length r.cL) ∧ w'.cell? ⟨b1, o1 + j * 3 + 1, none⟩ = some (.slice r.aH r.hi.length r.cH) ∧ w'.cell? ⟨b1, o1 + j * 3 + 2, none⟩ = some (.bool r.op)) ∧ w'.cell? ⟨b2, o2 + j * 3, none⟩ = some (.slice s.aL s.lo.length s.cL) ∧ w'.cell? ⟨b2, o2 + j * 3 + 1, none⟩ = some (.slice s.aH s.hi.length s.cH) ∧ w'.cell? ⟨b2, o2 + j * 3 + 2, none⟩ = some (.bool s.op))
            (first | with_reducible exact S0 | with_reducible exact S1)
            (first | (go_at_call 29; refine (EQ.out _ T0.out).mono ?_; rintro e w4 ⟨rfl, hb⟩; have S1 := And.intro (o3_keep S0.1 hb) (o3_keep S0.2 hb); have T1 := hide (bt T0.out hb); clear hb))
          clear S0 S1
          go_wp2
          go_ret
          exact ⟨by rw [HNO2.out]; rfl, bt HG.out.2 T1.out⟩
      · obtain rfl : j = L.length := by omega
        have HY : Hid (decide (L.map Rv.tp = M.map Rv.tp) = true) := decide_eq_true (map_tp_of HLE.out HG.out.1)
        go_wp2
        go_ret
        exact ⟨by rw [HY.out]; rfl, HG.out.2⟩
  · have hle : ((L.length : Int) == (M.length : Int)) = false := eqf (by omega)
    have HY : Hid (decide (L.map Rv.tp = M.map Rv.tp) = false) := decide_eq_false fun e => hl (by simpa using congrArg List.length e)
    go_enter Try.func45, Try.ntmps45
    go_wp2
    go_ret
    exact ⟨by rw [HY.out]; rfl, Below.refl _ _⟩
end Go.Proofs.Ytbobnfjbbablkaa
