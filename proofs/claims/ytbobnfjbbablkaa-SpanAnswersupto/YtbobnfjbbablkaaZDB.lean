import Derived.Test.YtbobnfjbbablkaaZDA
import Derived.Test.YtbobnfjbbablkaaZCA
namespace Go.Proofs.Ytbobnfjbbablkaa
open Go.RowKit

set_option maxHeartbeats 1600000 in
theorem ein_any (w : World) (a : Option Addr) (n c : Nat) (L : List Rv) (hQ : Qs w a L) (hn : n = L.length) (hlen : L.length < 4294967296) (ak : Option Addr) (m ck : Nat) (k : List Nat) (hK : Bs w ak k) (hm : m = k.length) :
    Calls Try.prog 73 #[.slice a n c, .slice ak m ck] w fun e w' => e = .returned (.bool (inL (L.map Rv.rg) k)) ∧ Below w.heap.size w w' := by
  subst hn
  subst hm
  rw [inL_any]
  have HQ := hide hQ
  have HK := hide hK
  clear hQ hK
  go_enter Try.func73, Try.ntmps73
  go_wp2
  go_loopw [5] (fun i wx => ∃ j : Nat, j ≤ L.length ∧ i = .int .i64 j ∧ (L.any fun r => has r.rg k) = ((L.drop j).any fun r => has r.rg k) ∧ Below w.heap.size w wx) (fun i _ => L.length - (intOf i).toNat)
  case atStart => exact ⟨0, Nat.zero_le _, rfl, rfl, Below.refl _ _⟩
  case round =>
    obtain ⟨j, hj, rfl, he, hb⟩ := hrel
    have HB := hide hb
    have HE := hide he
    clear hb he
    by_cases hlt : j < L.length
    · have hi : (j : Int) < (L.length : Int) := by omega
      have hj1 := w64 (j := j) (by omega)
      obtain ⟨b, off, rfl, hr⟩ := (HQ.out.keep HB.out).at hlt
      obtain ⟨k0, k1, k2⟩ := range3 hr
      have HRI : Hid (Ri wr (L.getD j Rv.zero)) := (HQ.out.keep HB.out).1 _ (getD_memR hlt)
      have HST := hide (any_drop (p := fun r => has r.rg k) hlt)
      generalize L.getD j Rv.zero = r at *
      have HS := hide (eHas_any wr r ak k.length ck k HRI.out (HK.out.keep HB.out) rfl)
      clear HRI hr
      unfold Rv.val Rv.cs at HS
      cases hh : has r.rg k with
      | true =>
        rw [hh] at HS HST
        clear hh
        go_wp2_with fail
        refine HS.out.mono ?_
        rintro e w4 ⟨rfl, hb⟩
        have HB4 := hide (bt HB.out hb)
        clear hb k0 k1 k2
        go_wp2
        go_ret
        exact ⟨by rw [HE.out, HST.out]; rfl, HB4.out⟩
      | false =>
        rw [hh] at HS HST
        clear hh
        go_wp2_with fail
        refine HS.out.mono ?_
        rintro e w4 ⟨rfl, hb⟩
        have HB4 := hide (bt HB.out hb)
        clear hb k0 k1 k2
        go_wp2
        go_roundw
        case rel => exact ⟨j + 1, by omega, by first | (go_num; done) | exact congrArg (Value.int IntKind.i64) (by omega), by rw [HE.out, HST.out]; rfl, HB4.out⟩
        case measure => first | exact meas_up _ _ _ hj1 hlt | exact meas_up _ _ _ rfl hlt | (simp [intOf]; omega)
    · obtain rfl : j = L.length := by omega
      rw [List.drop_length] at HE
      go_wp2
      go_ret
      exact ⟨by rw [HE.out]; rfl, HB.out⟩
/-- the edge so far -/
def accE (L : List Rv) (k : List Nat) (held : Bool) (j : Nat) : List Nat := ((L.take j).map Rv.rg).foldl (stepR (L.map Rv.rg) k held) []
theorem accE_succ {L : List Rv} {k : List Nat} {held : Bool} {j : Nat} (h : j < L.length) : accE L k held (j + 1) = stepR (L.map Rv.rg) k held (accE L k held j) (L.getD j Rv.zero).rg := by
  unfold accE
  have : L.take (j + 1) = L.take j ++ [L.getD j Rv.zero] := by
    rw [List.take_add_one]; simp [h]
  rw [this, List.map_append, List.foldl_append]; rfl
theorem accE_none {L : List Rv} {k : List Nat} {held : Bool} {j : Nat} (h : j < L.length) (hf : form (L.getD j Rv.zero).rg = none) : accE L k held (j + 1) = accE L k held j := by
  rw [accE_succ h]; unfold stepR; rw [hf]
theorem accE_some {L : List Rv} {k : List Nat} {held : Bool} {j : Nat} (h : j < L.length) (f : Fm) (hf : form (L.getD j Rv.zero).rg = some f) : accE L k held (j + 1) = stepE (L.map Rv.rg) k held (accE L k held j) f := by
  rw [accE_succ h]; unfold stepR; rw [hf]
theorem step_good {M : List Rg} {k : List Nat} {held : Bool} {o : List Nat} {f : Fm} (h1 : 0 < (atE held f).length) (h2 : 0 ≤ cmpB (atE held f) k) (h3 : inL M (atE held f) = held) (h4 : o.length = 0 ∨ cmpB (atE held f) o < 0) : stepE M k held o f = atE held f := by
  unfold stepE goodE
  have h5 : (decide (o.length = 0) || decide (cmpB (atE held f) o < 0)) = true := by simpa using h4
  rw [h5, h3, decide_eq_true h1, decide_eq_true h2]; simp
theorem step_bad {M : List Rg} {k : List Nat} {held : Bool} {o : List Nat} {f : Fm} (h : ¬ 0 < (atE held f).length ∨ ¬ 0 ≤ cmpB (atE held f) k ∨ inL M (atE held f) ≠ held ∨ (o.length ≠ 0 ∧ ¬ cmpB (atE held f) o < 0)) : stepE M k held o f = o := by
  unfold stepE
  rw [if_neg]
  unfold goodE
  intro h5
  simp only [Bool.and_eq_true, Bool.or_eq_true, decide_eq_true_iff, beq_iff_eq] at h5
  obtain ⟨g1, g2, g3, g4⟩ := h5
  rcases h with h | h | h | ⟨h, h'⟩
  · exact h g1
  · exact h g2
  · exact h g3
  · rcases g4 with g | g
    · exact h g
    · exact h' g
set_option maxRecDepth 100000 in
set_option maxHeartbeats 3200000 in
theorem eedge_true (w : World) (a : Option Addr) (n c : Nat) (L : List Rv) (hQ : Qs w a L) (hn : n = L.length) (hlen : L.length < 4294967296) (ak : Option Addr) (m ck : Nat) (k : List Nat) (hK : Bs w ak k) (hm : m = k.length) (hk : k.length ≤ 24) :
    Calls Try.prog 63 #[.slice a n c, .slice ak m ck, .bool true] w fun e w' => ∃ a' c', e = .returned (.slice a' (edg (L.map Rv.rg) k true).length c') ∧ Bs w' a' (edg (L.map Rv.rg) k true) ∧ (edg (L.map Rv.rg) k true).length ≤ c' ∧ Below w.heap.size w w' ∧ New w none a' := by
  subst hn
  subst hm
  have HQ := hide hQ
  have HK := hide hK
  have IK := hide (ein_any w a L.length c L hQ rfl hlen ak k.length ck k hK rfl)
  have IN := hide fun w1 at' ct t (hT : Bs w1 at' t) (hb : Below w.heap.size w w1) => ein_any w1 a L.length c L (hQ.keep hb) rfl hlen at' t.length ct t hT rfl
  clear hQ hK
  by_cases hin : inL (L.map Rv.rg) k = true
  · have HE := hide (show edg (L.map Rv.rg) k true = k from by unfold edg; rw [if_pos hin])
    rw [hin] at IK
    clear hin IN
    go_enter Try.func63, Try.ntmps63
    go_wp2_with fail
    refine IK.out.mono ?_
    rintro e w1 ⟨rfl, hb⟩
    have HB1 := hide hb
    have R := hide (CopyBytes_any w1 ak k.length ck k (HK.out.keep hb) rfl (by omega))
    clear hb
    go_wp2_with fail
    refine R.out.mono ?_
    rintro e w2 ⟨a2, c2, rfl, r1, n1, b1⟩
    have R1 := hide r1
    have HB2 := hide (bt HB1.out b1)
    have N2 := hide (n1.mono HB1.out.size)
    clear r1 n1 b1
    go_wp2
    go_ret
    exact ⟨a2, c2, by rw [HE.out]; rfl, by rw [HE.out]; exact R1.out.bs (B8_of HK.out) R1.out.len_le, by rw [HE.out]; exact R1.out.cap, HB2.out, N2.out⟩
  · have HE := hide (show edg (L.map Rv.rg) k true = accE L k true L.length from by unfold edg accE; rw [if_neg hin, List.take_length])
    have hin' : inL (L.map Rv.rg) k = false := by cases h : inL (L.map Rv.rg) k <;> simp_all
    rw [hin'] at IK
    clear hin hin'
    go_enter Try.func63, Try.ntmps63
    go_wp2_with fail
    refine IK.out.mono ?_
    rintro e w1 ⟨rfl, hb⟩
    have HB1 := hide hb
    clear hb
    go_wp2
    go_loopw [7, 8, 9, 10, 11, 12] (fun o i _ _ _ _ wx => ∃ (j : Nat) (ao : Option Addr) (co : Nat), j ≤ L.length ∧ i = .int .i64 j ∧ o = .slice ao (accE L k true j).length co ∧ Bs wx ao (accE L k true j) ∧ (accE L k true j).length ≤ co ∧ Below w.heap.size w wx ∧ New w none ao) (fun _ i _ _ _ _ _ => L.length - (intOf i).toNat)
    case atStart => exact ⟨0, _, 0, Nat.zero_le _, rfl, rfl, Bs.empty _ _, Nat.le_refl _, bt HB1.out (al _ _), fun x hx => .inr (by cases hx; exact HB1.out.size)⟩
    case round =>
      obtain ⟨j, ao, co, hj, rfl, rfl, bo, lo', hb, no⟩ := hrel
      have NO := hide no
      clear no
      have HB := hide hb
      have BO := hide bo
      have LO := hide lo'
      clear hb bo lo'
      by_cases hlt : j < L.length
      · have hi : (j : Int) < (L.length : Int) := by omega
        have hj1 := w64 (j := j) (by omega)
        obtain ⟨b, off, rfl, hr⟩ := (HQ.out.keep HB.out).at hlt
        obtain ⟨k0, k1, k2⟩ := range3 hr
        have EN := hide (eends_own wr (L.getD j Rv.zero) ((HQ.out.keep HB.out).1 _ (getD_memR hlt)))
        clear hr
        cases hf : form (L.getD j Rv.zero).rg with
        | none =>
          have HST := hide (accE_none (k := k) (held := true) hlt hf)
          rw [hf] at EN
          clear hf
          generalize L.getD j Rv.zero = r at *
          unfold Rv.val Rv.cs at EN
          dsimp only [endL, endH] at EN
          generalize accE L k true j = o at *
          go_wp2_with fail
          refine EN.out.mono ?_
          rintro e w1 ⟨a1, c1, a2, c2, rfl, b1, b2, _, _, hb, _, _⟩
          have HB1 := hide (bt HB.out hb)
          have BO1 := hide (BO.out.keep hb)
          clear hb b1 b2 k0 k1 k2
          go_wp2
          go_roundw
          case rel => exact ⟨j + 1, ao, co, by omega, by first | (go_num; done) | exact congrArg (Value.int IntKind.i64) (by omega), by rw [HST.out], by rw [HST.out]; exact BO1.out, by rw [HST.out]; exact LO.out, HB1.out, NO.out⟩
          case measure => first | exact meas_up _ _ _ hj1 hlt | exact meas_up _ _ _ rfl hlt | (simp [intOf]; omega)
        | some f =>
          have HS := hide (accE_some (k := k) (held := true) hlt f hf)
          rw [hf] at EN
          clear hf
          generalize L.getD j Rv.zero = r at *
          unfold Rv.val Rv.cs at EN
          dsimp only [endL, endH, Option.isSome_some] at EN
          have CK := hide fun w1 at' ct (hT : Bs w1 at' f.1) (hb : Below w.heap.size w w1) => Compare_any w1 at' ak (f.1).length k.length ct ck f.1 k hT (HK.out.keep hb) rfl rfl
          have CO := hide fun w1 at' ct (hT : Bs w1 at' f.1) (hO : Bs w1 ao (accE L k true j)) => Compare_any w1 at' ao (f.1).length (accE L k true j).length ct co f.1 (accE L k true j) hT hO rfl rfl
          have IN := hide fun w1 at' ct (hT : Bs w1 at' f.1) (hb : Below w.heap.size w w1) => IN.out w1 at' ct f.1 hT hb
          by_cases h1 : 0 < (f.1).length
          · have z1 : (0 : Int) < (((f.1).length : Nat) : Int) := by omega
            by_cases h2 : 0 ≤ cmpB (f.1) k
            · by_cases h3 : inL (L.map Rv.rg) (f.1) = true
              · rw [h3] at IN
                by_cases h4 : (accE L k true j).length = 0
                · have z4 : ((((accE L k true j).length : Nat) : Int) == 0) = true := by rw [h4]; rfl
                  have HST := hide (HS.out.trans (step_good (M := L.map Rv.rg) (k := k) (held := true) (o := accE L k true j) (f := f) h1 h2 h3 (.inl h4)))
                  have HST := hide (HST.out.trans (show atE true f = f.1 from rfl))
                  clear HS
                  go_wp2_with fail
                  refine EN.out.mono ?_
                  rintro e w1 ⟨a1, c1, a2, c2, rfl, b1, b2, l1, l2, hb, n1, n2⟩
                  have NT := hide ((n1).mono HB.out.size)
                  clear n1 n2
                  have HB1 := hide (bt HB.out hb)
                  have BT1 := hide (show Bs w1 a1 f.1 from b1)
                  have LT := hide l1
                  have BO1 := hide (BO.out.keep hb)
                  clear hb b1 b2 l1 l2 k0 k1 k2
                  go_wp2_with fail
                  refine (CK.out _ a1 c1 BT1.out HB1.out).mono ?_
                  rintro e w2 ⟨rfl, hb⟩
                  have HB2 := hide (bt HB1.out hb)
                  have BT2 := hide (BT1.out.keep hb)
                  have BO2 := hide (BO1.out.keep hb)
                  clear hb
                  go_wp2_with fail
                  refine (IN.out _ a1 c1 BT2.out HB2.out).mono ?_
                  rintro e w3 ⟨rfl, hb⟩
                  have HB3 := hide (bt HB2.out hb)
                  have BT3 := hide (BT2.out.keep hb)
                  have BO3 := hide (BO2.out.keep hb)
                  clear hb
                  go_wp2
                  go_roundw
                  case rel => exact ⟨j + 1, a1, c1, by omega, by first | (go_num; done) | exact congrArg (Value.int IntKind.i64) (by omega), by rw [HST.out], by rw [HST.out]; exact BT3.out, by rw [HST.out]; exact LT.out, HB3.out, NT.out⟩
                  case measure => first | exact meas_up _ _ _ hj1 hlt | exact meas_up _ _ _ rfl hlt | (simp [intOf]; omega)
                · have z4 : ((((accE L k true j).length : Nat) : Int) == 0) = false := by simp; exact fun h => h4 (by rw [h]; rfl)
                  by_cases h5 : cmpB (f.1) (accE L k true j) < 0
                  · have HST := hide (HS.out.trans (step_good (M := L.map Rv.rg) (k := k) (held := true) (o := accE L k true j) (f := f) h1 h2 h3 (.inr h5)))
                    have HST := hide (HST.out.trans (show atE true f = f.1 from rfl))
                    clear HS
                    go_wp2_with fail
                    refine EN.out.mono ?_
                    rintro e w1 ⟨a1, c1, a2, c2, rfl, b1, b2, l1, l2, hb, n1, n2⟩
                    have NT := hide ((n1).mono HB.out.size)
                    clear n1 n2
                    have HB1 := hide (bt HB.out hb)
                    have BT1 := hide (show Bs w1 a1 f.1 from b1)
                    have LT := hide l1
                    have BO1 := hide (BO.out.keep hb)
                    clear hb b1 b2 l1 l2 k0 k1 k2
                    go_wp2_with fail
                    refine (CK.out _ a1 c1 BT1.out HB1.out).mono ?_
                    rintro e w2 ⟨rfl, hb⟩
                    have HB2 := hide (bt HB1.out hb)
                    have BT2 := hide (BT1.out.keep hb)
                    have BO2 := hide (BO1.out.keep hb)
                    clear hb
                    go_wp2_with fail
                    refine (IN.out _ a1 c1 BT2.out HB2.out).mono ?_
                    rintro e w3 ⟨rfl, hb⟩
                    have HB3 := hide (bt HB2.out hb)
                    have BT3 := hide (BT2.out.keep hb)
                    have BO3 := hide (BO2.out.keep hb)
                    clear hb
                    go_wp2_with fail
                    refine (CO.out _ a1 c1 BT3.out BO3.out).mono ?_
                    rintro e w4 ⟨rfl, hb⟩
                    have HB4 := hide (bt HB3.out hb)
                    have BT4 := hide (BT3.out.keep hb)
                    have BO4 := hide (BO3.out.keep hb)
                    clear hb
                    go_wp2
                    go_roundw
                    case rel => exact ⟨j + 1, a1, c1, by omega, by first | (go_num; done) | exact congrArg (Value.int IntKind.i64) (by omega), by rw [HST.out], by rw [HST.out]; exact BT4.out, by rw [HST.out]; exact LT.out, HB4.out, NT.out⟩
                    case measure => first | exact meas_up _ _ _ hj1 hlt | exact meas_up _ _ _ rfl hlt | (simp [intOf]; omega)
                  · have HST := hide (HS.out.trans (step_bad (M := L.map Rv.rg) (k := k) (held := true) (o := accE L k true j) (f := f) (.inr (.inr (.inr ⟨h4, h5⟩)))))
                    clear HS
                    go_wp2_with fail
                    refine EN.out.mono ?_
                    rintro e w1 ⟨a1, c1, a2, c2, rfl, b1, b2, l1, l2, hb, n1, n2⟩
                    have NT := hide ((n1).mono HB.out.size)
                    clear n1 n2
                    have HB1 := hide (bt HB.out hb)
                    have BT1 := hide (show Bs w1 a1 f.1 from b1)
                    have LT := hide l1
                    have BO1 := hide (BO.out.keep hb)
                    clear hb b1 b2 l1 l2 k0 k1 k2
                    go_wp2_with fail
                    refine (CK.out _ a1 c1 BT1.out HB1.out).mono ?_
                    rintro e w2 ⟨rfl, hb⟩
                    have HB2 := hide (bt HB1.out hb)
                    have BT2 := hide (BT1.out.keep hb)
                    have BO2 := hide (BO1.out.keep hb)
                    clear hb
                    go_wp2_with fail
                    refine (IN.out _ a1 c1 BT2.out HB2.out).mono ?_
                    rintro e w3 ⟨rfl, hb⟩
                    have HB3 := hide (bt HB2.out hb)
                    have BT3 := hide (BT2.out.keep hb)
                    have BO3 := hide (BO2.out.keep hb)
                    clear hb
                    go_wp2_with fail
                    refine (CO.out _ a1 c1 BT3.out BO3.out).mono ?_
                    rintro e w4 ⟨rfl, hb⟩
                    have HB4 := hide (bt HB3.out hb)
                    have BT4 := hide (BT3.out.keep hb)
                    have BO4 := hide (BO3.out.keep hb)
                    clear hb
                    go_wp2
                    go_roundw
                    case rel => exact ⟨j + 1, ao, co, by omega, by first | (go_num; done) | exact congrArg (Value.int IntKind.i64) (by omega), by rw [HST.out], by rw [HST.out]; exact BO4.out, by rw [HST.out]; exact LO.out, HB4.out, NO.out⟩
                    case measure => first | exact meas_up _ _ _ hj1 hlt | exact meas_up _ _ _ rfl hlt | (simp [intOf]; omega)
              · have h3' : inL (L.map Rv.rg) (f.1) = false := by cases h : inL (L.map Rv.rg) (f.1) <;> simp_all
                rw [h3'] at IN
                have HST := hide (HS.out.trans (step_bad (M := L.map Rv.rg) (k := k) (held := true) (o := accE L k true j) (f := f) (.inr (.inr (.inl h3)))))
                clear HS
                go_wp2_with fail
                refine EN.out.mono ?_
                rintro e w1 ⟨a1, c1, a2, c2, rfl, b1, b2, l1, l2, hb, n1, n2⟩
                have NT := hide ((n1).mono HB.out.size)
                clear n1 n2
                have HB1 := hide (bt HB.out hb)
                have BT1 := hide (show Bs w1 a1 f.1 from b1)
                have LT := hide l1
                have BO1 := hide (BO.out.keep hb)
                clear hb b1 b2 l1 l2 k0 k1 k2
                go_wp2_with fail
                refine (CK.out _ a1 c1 BT1.out HB1.out).mono ?_
                rintro e w2 ⟨rfl, hb⟩
                have HB2 := hide (bt HB1.out hb)
                have BT2 := hide (BT1.out.keep hb)
                have BO2 := hide (BO1.out.keep hb)
                clear hb
                go_wp2_with fail
                refine (IN.out _ a1 c1 BT2.out HB2.out).mono ?_
                rintro e w3 ⟨rfl, hb⟩
                have HB3 := hide (bt HB2.out hb)
                have BT3 := hide (BT2.out.keep hb)
                have BO3 := hide (BO2.out.keep hb)
                clear hb
                go_wp2
                go_roundw
                case rel => exact ⟨j + 1, ao, co, by omega, by first | (go_num; done) | exact congrArg (Value.int IntKind.i64) (by omega), by rw [HST.out], by rw [HST.out]; exact BO3.out, by rw [HST.out]; exact LO.out, HB3.out, NO.out⟩
                case measure => first | exact meas_up _ _ _ hj1 hlt | exact meas_up _ _ _ rfl hlt | (simp [intOf]; omega)
            · have HST := hide (HS.out.trans (step_bad (M := L.map Rv.rg) (k := k) (held := true) (o := accE L k true j) (f := f) (.inr (.inl h2))))
              clear HS
              go_wp2_with fail
              refine EN.out.mono ?_
              rintro e w1 ⟨a1, c1, a2, c2, rfl, b1, b2, l1, l2, hb, n1, n2⟩
              have NT := hide ((n1).mono HB.out.size)
              clear n1 n2
              have HB1 := hide (bt HB.out hb)
              have BT1 := hide (show Bs w1 a1 f.1 from b1)
              have LT := hide l1
              have BO1 := hide (BO.out.keep hb)
              clear hb b1 b2 l1 l2 k0 k1 k2
              go_wp2_with fail
              refine (CK.out _ a1 c1 BT1.out HB1.out).mono ?_
              rintro e w2 ⟨rfl, hb⟩
              have HB2 := hide (bt HB1.out hb)
              have BT2 := hide (BT1.out.keep hb)
              have BO2 := hide (BO1.out.keep hb)
              clear hb
              go_wp2
              go_roundw
              case rel => exact ⟨j + 1, ao, co, by omega, by first | (go_num; done) | exact congrArg (Value.int IntKind.i64) (by omega), by rw [HST.out], by rw [HST.out]; exact BO2.out, by rw [HST.out]; exact LO.out, HB2.out, NO.out⟩
              case measure => first | exact meas_up _ _ _ hj1 hlt | exact meas_up _ _ _ rfl hlt | (simp [intOf]; omega)
          · have z1 : ¬ (0 : Int) < (((f.1).length : Nat) : Int) := by omega
            have HST := hide (HS.out.trans (step_bad (M := L.map Rv.rg) (k := k) (held := true) (o := accE L k true j) (f := f) (.inl h1)))
            clear HS
            go_wp2_with fail
            refine EN.out.mono ?_
            rintro e w1 ⟨a1, c1, a2, c2, rfl, b1, b2, l1, l2, hb, n1, n2⟩
            have NT := hide ((n1).mono HB.out.size)
            clear n1 n2
            have HB1 := hide (bt HB.out hb)
            have BT1 := hide (show Bs w1 a1 f.1 from b1)
            have LT := hide l1
            have BO1 := hide (BO.out.keep hb)
            clear hb b1 b2 l1 l2 k0 k1 k2
            go_wp2
            go_roundw
            case rel => exact ⟨j + 1, ao, co, by omega, by first | (go_num; done) | exact congrArg (Value.int IntKind.i64) (by omega), by rw [HST.out], by rw [HST.out]; exact BO1.out, by rw [HST.out]; exact LO.out, HB1.out, NO.out⟩
            case measure => first | exact meas_up _ _ _ hj1 hlt | exact meas_up _ _ _ rfl hlt | (simp [intOf]; omega)
      · obtain rfl : j = L.length := by omega
        have hi : ¬ (L.length : Int) < (L.length : Int) := by omega
        go_wp2
        go_ret
        exact ⟨ao, co, by rw [HE.out]; rfl, by rw [HE.out]; exact BO.out, by rw [HE.out]; exact LO.out, HB.out, NO.out⟩
set_option maxRecDepth 100000 in
set_option maxHeartbeats 3200000 in
theorem eedge_false (w : World) (a : Option Addr) (n c : Nat) (L : List Rv) (hQ : Qs w a L) (hn : n = L.length) (hlen : L.length < 4294967296) (ak : Option Addr) (m ck : Nat) (k : List Nat) (hK : Bs w ak k) (hm : m = k.length) (hk : k.length ≤ 24) :
    Calls Try.prog 63 #[.slice a n c, .slice ak m ck, .bool false] w fun e w' => ∃ a' c', e = .returned (.slice a' (edg (L.map Rv.rg) k false).length c') ∧ Bs w' a' (edg (L.map Rv.rg) k false) ∧ (edg (L.map Rv.rg) k false).length ≤ c' ∧ Below w.heap.size w w' ∧ New w none a' := by
  subst hn
  subst hm
  have HQ := hide hQ
  have HK := hide hK
  have IK := hide (ein_any w a L.length c L hQ rfl hlen ak k.length ck k hK rfl)
  have IN := hide fun w1 at' ct t (hT : Bs w1 at' t) (hb : Below w.heap.size w w1) => ein_any w1 a L.length c L (hQ.keep hb) rfl hlen at' t.length ct t hT rfl
  clear hQ hK
  by_cases hin : inL (L.map Rv.rg) k = false
  · have HE := hide (show edg (L.map Rv.rg) k false = k from by unfold edg; rw [if_pos hin])
    rw [hin] at IK
    clear hin IN
    go_enter Try.func63, Try.ntmps63
    go_wp2_with fail
    refine IK.out.mono ?_
    rintro e w1 ⟨rfl, hb⟩
    have HB1 := hide hb
    have R := hide (CopyBytes_any w1 ak k.length ck k (HK.out.keep hb) rfl (by omega))
    clear hb
    go_wp2_with fail
    refine R.out.mono ?_
    rintro e w2 ⟨a2, c2, rfl, r1, n1, b1⟩
    have R1 := hide r1
    have HB2 := hide (bt HB1.out b1)
    have N2 := hide (n1.mono HB1.out.size)
    clear r1 n1 b1
    go_wp2
    go_ret
    exact ⟨a2, c2, by rw [HE.out]; rfl, by rw [HE.out]; exact R1.out.bs (B8_of HK.out) R1.out.len_le, by rw [HE.out]; exact R1.out.cap, HB2.out, N2.out⟩
  · have HE := hide (show edg (L.map Rv.rg) k false = accE L k false L.length from by unfold edg accE; rw [if_neg hin, List.take_length])
    have hin' : inL (L.map Rv.rg) k = true := by cases h : inL (L.map Rv.rg) k <;> simp_all
    rw [hin'] at IK
    clear hin hin'
    go_enter Try.func63, Try.ntmps63
    go_wp2_with fail
    refine IK.out.mono ?_
    rintro e w1 ⟨rfl, hb⟩
    have HB1 := hide hb
    clear hb
    go_wp2
    go_loopw [7, 8, 9, 10, 11, 12] (fun o i _ _ _ _ wx => ∃ (j : Nat) (ao : Option Addr) (co : Nat), j ≤ L.length ∧ i = .int .i64 j ∧ o = .slice ao (accE L k false j).length co ∧ Bs wx ao (accE L k false j) ∧ (accE L k false j).length ≤ co ∧ Below w.heap.size w wx ∧ New w none ao) (fun _ i _ _ _ _ _ => L.length - (intOf i).toNat)
    case atStart => exact ⟨0, _, 0, Nat.zero_le _, rfl, rfl, Bs.empty _ _, Nat.le_refl _, bt HB1.out (al _ _), fun x hx => .inr (by cases hx; exact HB1.out.size)⟩
    case round =>
      obtain ⟨j, ao, co, hj, rfl, rfl, bo, lo', hb, no⟩ := hrel
      have NO := hide no
      clear no
      have HB := hide hb
      have BO := hide bo
      have LO := hide lo'
      clear hb bo lo'
      by_cases hlt : j < L.length
      · have hi : (j : Int) < (L.length : Int) := by omega
        have hj1 := w64 (j := j) (by omega)
        obtain ⟨b, off, rfl, hr⟩ := (HQ.out.keep HB.out).at hlt
        obtain ⟨k0, k1, k2⟩ := range3 hr
        have EN := hide (eends_own wr (L.getD j Rv.zero) ((HQ.out.keep HB.out).1 _ (getD_memR hlt)))
        clear hr
        cases hf : form (L.getD j Rv.zero).rg with
        | none =>
          have HST := hide (accE_none (k := k) (held := false) hlt hf)
          rw [hf] at EN
          clear hf
          generalize L.getD j Rv.zero = r at *
          unfold Rv.val Rv.cs at EN
          dsimp only [endL, endH] at EN
          generalize accE L k false j = o at *
          go_wp2_with fail
          refine EN.out.mono ?_
          rintro e w1 ⟨a1, c1, a2, c2, rfl, b1, b2, _, _, hb, _, _⟩
          have HB1 := hide (bt HB.out hb)
          have BO1 := hide (BO.out.keep hb)
          clear hb b1 b2 k0 k1 k2
          go_wp2
          go_roundw
          case rel => exact ⟨j + 1, ao, co, by omega, by first | (go_num; done) | exact congrArg (Value.int IntKind.i64) (by omega), by rw [HST.out], by rw [HST.out]; exact BO1.out, by rw [HST.out]; exact LO.out, HB1.out, NO.out⟩
          case measure => first | exact meas_up _ _ _ hj1 hlt | exact meas_up _ _ _ rfl hlt | (simp [intOf]; omega)
        | some f =>
          have HS := hide (accE_some (k := k) (held := false) hlt f hf)
          rw [hf] at EN
          clear hf
          generalize L.getD j Rv.zero = r at *
          unfold Rv.val Rv.cs at EN
          dsimp only [endL, endH, Option.isSome_some] at EN
          have CK := hide fun w1 at' ct (hT : Bs w1 at' f.2) (hb : Below w.heap.size w w1) => Compare_any w1 at' ak (f.2).length k.length ct ck f.2 k hT (HK.out.keep hb) rfl rfl
          have CO := hide fun w1 at' ct (hT : Bs w1 at' f.2) (hO : Bs w1 ao (accE L k false j)) => Compare_any w1 at' ao (f.2).length (accE L k false j).length ct co f.2 (accE L k false j) hT hO rfl rfl
          have IN := hide fun w1 at' ct (hT : Bs w1 at' f.2) (hb : Below w.heap.size w w1) => IN.out w1 at' ct f.2 hT hb
          by_cases h1 : 0 < (f.2).length
          · have z1 : (0 : Int) < (((f.2).length : Nat) : Int) := by omega
            by_cases h2 : 0 ≤ cmpB (f.2) k
            · by_cases h3 : inL (L.map Rv.rg) (f.2) = false
              · rw [h3] at IN
                by_cases h4 : (accE L k false j).length = 0
                · have z4 : ((((accE L k false j).length : Nat) : Int) == 0) = true := by rw [h4]; rfl
                  have HST := hide (HS.out.trans (step_good (M := L.map Rv.rg) (k := k) (held := false) (o := accE L k false j) (f := f) h1 h2 h3 (.inl h4)))
                  have HST := hide (HST.out.trans (show atE false f = f.2 from rfl))
                  clear HS
                  go_wp2_with fail
                  refine EN.out.mono ?_
                  rintro e w1 ⟨a1, c1, a2, c2, rfl, b1, b2, l1, l2, hb, n1, n2⟩
                  have NT := hide ((n2).mono HB.out.size)
                  clear n1 n2
                  have HB1 := hide (bt HB.out hb)
                  have BT1 := hide (show Bs w1 a2 f.2 from b2)
                  have LT := hide l2
                  have BO1 := hide (BO.out.keep hb)
                  clear hb b1 b2 l1 l2 k0 k1 k2
                  go_wp2_with fail
                  refine (CK.out _ a2 c2 BT1.out HB1.out).mono ?_
                  rintro e w2 ⟨rfl, hb⟩
                  have HB2 := hide (bt HB1.out hb)
                  have BT2 := hide (BT1.out.keep hb)
                  have BO2 := hide (BO1.out.keep hb)
                  clear hb
                  go_wp2_with fail
                  refine (IN.out _ a2 c2 BT2.out HB2.out).mono ?_
                  rintro e w3 ⟨rfl, hb⟩
                  have HB3 := hide (bt HB2.out hb)
                  have BT3 := hide (BT2.out.keep hb)
                  have BO3 := hide (BO2.out.keep hb)
                  clear hb
                  go_wp2
                  go_roundw
                  case rel => exact ⟨j + 1, a2, c2, by omega, by first | (go_num; done) | exact congrArg (Value.int IntKind.i64) (by omega), by rw [HST.out], by rw [HST.out]; exact BT3.out, by rw [HST.out]; exact LT.out, HB3.out, NT.out⟩
                  case measure => first | exact meas_up _ _ _ hj1 hlt | exact meas_up _ _ _ rfl hlt | (simp [intOf]; omega)
                · have z4 : ((((accE L k false j).length : Nat) : Int) == 0) = false := by simp; exact fun h => h4 (by rw [h]; rfl)
                  by_cases h5 : cmpB (f.2) (accE L k false j) < 0
                  · have HST := hide (HS.out.trans (step_good (M := L.map Rv.rg) (k := k) (held := false) (o := accE L k false j) (f := f) h1 h2 h3 (.inr h5)))
                    have HST := hide (HST.out.trans (show atE false f = f.2 from rfl))
                    clear HS
                    go_wp2_with fail
                    refine EN.out.mono ?_
                    rintro e w1 ⟨a1, c1, a2, c2, rfl, b1, b2, l1, l2, hb, n1, n2⟩
                    have NT := hide ((n2).mono HB.out.size)
                    clear n1 n2
                    have HB1 := hide (bt HB.out hb)
                    have BT1 := hide (show Bs w1 a2 f.2 from b2)
                    have LT := hide l2
                    have BO1 := hide (BO.out.keep hb)
                    clear hb b1 b2 l1 l2 k0 k1 k2
                    go_wp2_with fail
                    refine (CK.out _ a2 c2 BT1.out HB1.out).mono ?_
                    rintro e w2 ⟨rfl, hb⟩
                    have HB2 := hide (bt HB1.out hb)
                    have BT2 := hide (BT1.out.keep hb)
                    have BO2 := hide (BO1.out.keep hb)
                    clear hb
                    go_wp2_with fail
                    refine (IN.out _ a2 c2 BT2.out HB2.out).mono ?_
                    rintro e w3 ⟨rfl, hb⟩
                    have HB3 := hide (bt HB2.out hb)
                    have BT3 := hide (BT2.out.keep hb)
                    have BO3 := hide (BO2.out.keep hb)
                    clear hb
                    go_wp2_with fail
                    refine (CO.out _ a2 c2 BT3.out BO3.out).mono ?_
                    rintro e w4 ⟨rfl, hb⟩
                    have HB4 := hide (bt HB3.out hb)
                    have BT4 := hide (BT3.out.keep hb)
                    have BO4 := hide (BO3.out.keep hb)
                    clear hb
                    go_wp2
                    go_roundw
                    case rel => exact ⟨j + 1, a2, c2, by omega, by first | (go_num; done) | exact congrArg (Value.int IntKind.i64) (by omega), by rw [HST.out], by rw [HST.out]; exact BT4.out, by rw [HST.out]; exact LT.out, HB4.out, NT.out⟩
                    case measure => first | exact meas_up _ _ _ hj1 hlt | exact meas_up _ _ _ rfl hlt | (simp [intOf]; omega)
                  · have HST := hide (HS.out.trans (step_bad (M := L.map Rv.rg) (k := k) (held := false) (o := accE L k false j) (f := f) (.inr (.inr (.inr ⟨h4, h5⟩)))))
                    clear HS
                    go_wp2_with fail
                    refine EN.out.mono ?_
                    rintro e w1 ⟨a1, c1, a2, c2, rfl, b1, b2, l1, l2, hb, n1, n2⟩
                    have NT := hide ((n2).mono HB.out.size)
                    clear n1 n2
                    have HB1 := hide (bt HB.out hb)
                    have BT1 := hide (show Bs w1 a2 f.2 from b2)
                    have LT := hide l2
                    have BO1 := hide (BO.out.keep hb)
                    clear hb b1 b2 l1 l2 k0 k1 k2
                    go_wp2_with fail
                    refine (CK.out _ a2 c2 BT1.out HB1.out).mono ?_
                    rintro e w2 ⟨rfl, hb⟩
                    have HB2 := hide (bt HB1.out hb)
                    have BT2 := hide (BT1.out.keep hb)
                    have BO2 := hide (BO1.out.keep hb)
                    clear hb
                    go_wp2_with fail
                    refine (IN.out _ a2 c2 BT2.out HB2.out).mono ?_
                    rintro e w3 ⟨rfl, hb⟩
                    have HB3 := hide (bt HB2.out hb)
                    have BT3 := hide (BT2.out.keep hb)
                    have BO3 := hide (BO2.out.keep hb)
                    clear hb
                    go_wp2_with fail
                    refine (CO.out _ a2 c2 BT3.out BO3.out).mono ?_
                    rintro e w4 ⟨rfl, hb⟩
                    have HB4 := hide (bt HB3.out hb)
                    have BT4 := hide (BT3.out.keep hb)
                    have BO4 := hide (BO3.out.keep hb)
                    clear hb
                    go_wp2
                    go_roundw
                    case rel => exact ⟨j + 1, ao, co, by omega, by first | (go_num; done) | exact congrArg (Value.int IntKind.i64) (by omega), by rw [HST.out], by rw [HST.out]; exact BO4.out, by rw [HST.out]; exact LO.out, HB4.out, NO.out⟩
                    case measure => first | exact meas_up _ _ _ hj1 hlt | exact meas_up _ _ _ rfl hlt | (simp [intOf]; omega)
              · have h3' : inL (L.map Rv.rg) (f.2) = true := by cases h : inL (L.map Rv.rg) (f.2) <;> simp_all
                rw [h3'] at IN
                have HST := hide (HS.out.trans (step_bad (M := L.map Rv.rg) (k := k) (held := false) (o := accE L k false j) (f := f) (.inr (.inr (.inl h3)))))
                clear HS
                go_wp2_with fail
                refine EN.out.mono ?_
                rintro e w1 ⟨a1, c1, a2, c2, rfl, b1, b2, l1, l2, hb, n1, n2⟩
                have NT := hide ((n2).mono HB.out.size)
                clear n1 n2
                have HB1 := hide (bt HB.out hb)
                have BT1 := hide (show Bs w1 a2 f.2 from b2)
                have LT := hide l2
                have BO1 := hide (BO.out.keep hb)
                clear hb b1 b2 l1 l2 k0 k1 k2
                go_wp2_with fail
                refine (CK.out _ a2 c2 BT1.out HB1.out).mono ?_
                rintro e w2 ⟨rfl, hb⟩
                have HB2 := hide (bt HB1.out hb)
                have BT2 := hide (BT1.out.keep hb)
                have BO2 := hide (BO1.out.keep hb)
                clear hb
                go_wp2_with fail
                refine (IN.out _ a2 c2 BT2.out HB2.out).mono ?_
                rintro e w3 ⟨rfl, hb⟩
                have HB3 := hide (bt HB2.out hb)
                have BT3 := hide (BT2.out.keep hb)
                have BO3 := hide (BO2.out.keep hb)
                clear hb
                go_wp2
                go_roundw
                case rel => exact ⟨j + 1, ao, co, by omega, by first | (go_num; done) | exact congrArg (Value.int IntKind.i64) (by omega), by rw [HST.out], by rw [HST.out]; exact BO3.out, by rw [HST.out]; exact LO.out, HB3.out, NO.out⟩
                case measure => first | exact meas_up _ _ _ hj1 hlt | exact meas_up _ _ _ rfl hlt | (simp [intOf]; omega)
            · have HST := hide (HS.out.trans (step_bad (M := L.map Rv.rg) (k := k) (held := false) (o := accE L k false j) (f := f) (.inr (.inl h2))))
              clear HS
              go_wp2_with fail
              refine EN.out.mono ?_
              rintro e w1 ⟨a1, c1, a2, c2, rfl, b1, b2, l1, l2, hb, n1, n2⟩
              have NT := hide ((n2).mono HB.out.size)
              clear n1 n2
              have HB1 := hide (bt HB.out hb)
              have BT1 := hide (show Bs w1 a2 f.2 from b2)
              have LT := hide l2
              have BO1 := hide (BO.out.keep hb)
              clear hb b1 b2 l1 l2 k0 k1 k2
              go_wp2_with fail
              refine (CK.out _ a2 c2 BT1.out HB1.out).mono ?_
              rintro e w2 ⟨rfl, hb⟩
              have HB2 := hide (bt HB1.out hb)
              have BT2 := hide (BT1.out.keep hb)
              have BO2 := hide (BO1.out.keep hb)
              clear hb
              go_wp2
              go_roundw
              case rel => exact ⟨j + 1, ao, co, by omega, by first | (go_num; done) | exact congrArg (Value.int IntKind.i64) (by omega), by rw [HST.out], by rw [HST.out]; exact BO2.out, by rw [HST.out]; exact LO.out, HB2.out, NO.out⟩
              case measure => first | exact meas_up _ _ _ hj1 hlt | exact meas_up _ _ _ rfl hlt | (simp [intOf]; omega)
          · have z1 : ¬ (0 : Int) < (((f.2).length : Nat) : Int) := by omega
            have HST := hide (HS.out.trans (step_bad (M := L.map Rv.rg) (k := k) (held := false) (o := accE L k false j) (f := f) (.inl h1)))
            clear HS
            go_wp2_with fail
            refine EN.out.mono ?_
            rintro e w1 ⟨a1, c1, a2, c2, rfl, b1, b2, l1, l2, hb, n1, n2⟩
            have NT := hide ((n2).mono HB.out.size)
            clear n1 n2
            have HB1 := hide (bt HB.out hb)
            have BT1 := hide (show Bs w1 a2 f.2 from b2)
            have LT := hide l2
            have BO1 := hide (BO.out.keep hb)
            clear hb b1 b2 l1 l2 k0 k1 k2
            go_wp2
            go_roundw
            case rel => exact ⟨j + 1, ao, co, by omega, by first | (go_num; done) | exact congrArg (Value.int IntKind.i64) (by omega), by rw [HST.out], by rw [HST.out]; exact BO1.out, by rw [HST.out]; exact LO.out, HB1.out, NO.out⟩
            case measure => first | exact meas_up _ _ _ hj1 hlt | exact meas_up _ _ _ rfl hlt | (simp [intOf]; omega)
      · obtain rfl : j = L.length := by omega
        have hi : ¬ (L.length : Int) < (L.length : Int) := by omega
        go_wp2
        go_ret
        exact ⟨ao, co, by rw [HE.out]; rfl, by rw [HE.out]; exact BO.out, by rw [HE.out]; exact LO.out, HB.out, NO.out⟩
end Go.Proofs.Ytbobnfjbbablkaa
