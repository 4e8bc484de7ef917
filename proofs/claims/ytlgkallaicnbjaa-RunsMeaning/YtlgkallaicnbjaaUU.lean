import Derived.Test.YtlgkallaicnbjaaUT
import Derived.Test.YtlgkallaicnbjaaUO
import Derived.Test.YtlgkallaicnbjaaUN
import Derived.BigQuiet
namespace Go.Proofs.Ytlgkallaicnbjaa
open Go.RowKit

/-! ### RunsMeaning: what is meant -/
def isEnd (L : List Rn) (m : Int) : Bool := has L m && (decide (m = 255) || !has L (m + 1))
theorem ends_count {L : List Rn} (hL : Can L) (hb : ∀ r ∈ L, Nm r.1 ∧ Nm r.2) : nb (isEnd L) 0 256 = L.length := by
  have hsz : ∀ M : List Rn, sz (M.map fun r => (r.2, r.2)) = M.length := by
    intro M
    induction M with
    | nil => rfl
    | cons r M ih =>
      show (r.2 - r.2 + 1).toNat + sz _ = _
      rw [ih, List.length_cons]
      omega
  have hR : Ris (L.map fun r => (r.2, r.2)) := by
    refine ⟨fun r hr => ?_, ?_⟩
    · obtain ⟨s, _, rfl⟩ := List.mem_map.1 hr
      exact Int.le_refl _
    · rw [List.pairwise_map]
      refine (List.Pairwise.imp_of_mem (fun {a b} ha hb' h => ?_) hL.2)
      have := hL.1 b hb'
      show a.2 < b.2
      omega
  rw [← hsz L, sz_nb (a := 0) (k := 256) hR (fun r hr => by
    obtain ⟨s, hs, rfl⟩ := List.mem_map.1 hr
    have := hb s hs
    unfold Nm at this
    show (0 : Int) ≤ s.2 ∧ s.2 < 0 + 256
    omega)]
  refine nb_congr fun x h1 h2 => ?_
  rw [Bool.eq_iff_iff]
  unfold isEnd
  rw [Bool.and_eq_true, Bool.or_eq_true, has_iff, has_iff]
  constructor
  · rintro ⟨⟨r, hr, a1, a2⟩, h⟩
    refine ⟨(r.2, r.2), List.mem_map.2 ⟨r, hr, rfl⟩, ?_⟩
    show r.2 ≤ x ∧ x ≤ r.2
    rcases h with h | h
    · have := hb r hr
      unfold Nm at this
      simp at h
      omega
    · simp only [Bool.not_eq_true'] at h
      have := (has_false _ _).1 h r hr (by omega)
      omega
  · rintro ⟨s, hs, a1, a2⟩
    obtain ⟨r, hr, rfl⟩ := List.mem_map.1 hs
    have a1' : r.2 ≤ x := a1
    have a2' : x ≤ r.2 := a2
    have hr1 := hL.1 r hr
    refine ⟨⟨r, hr, by omega, by omega⟩, .inr ?_⟩
    simp only [Bool.not_eq_true']
    refine (has_false _ _).2 fun t ht h3 => ?_
    by_cases h4 : t.2 < x + 1
    · exact h4
    · exfalso
      rcases List.mem_iff_getElem.1 hr with ⟨i, hi, ei⟩
      rcases List.mem_iff_getElem.1 ht with ⟨j, hj, ej⟩
      have pw := List.pairwise_iff_getElem.1 hL.2
      have ht1 := hL.1 t ht
      rcases Nat.lt_trichotomy i j with h | h | h
      · have := pw i j hi hj h
        rw [ei, ej] at this
        omega
      · subst h
        rw [ei] at ej
        subst ej
        omega
      · have := pw j i hj hi h
        rw [ei, ej] at this
        omega
/-- what an array of 256 bools says -/
def Arr (arr : Array Value) (f : Int → Bool) : Prop := arr.size = 256 ∧ ∀ i : Nat, i < 256 → arr[i]? = some (.bool (f i))
theorem Arr.cell {w : World} {B : Nat} {arr : Array Value} {t : TypeId} {f : Int → Bool} (h : Arr arr f) (hb : w.heap[B]? = some (.cells arr t (0, 0))) {i : Nat} (hi : i < 256) : w.cell? ⟨B, i, none⟩ = some (.bool (f i)) := by
  rw [cell_of_row _ _ _ _ _ _ hb]
  exact h.2 i hi
set_option maxHeartbeats 4000000 in
set_option maxRecDepth 10000 in
theorem meant_any (w : World) (b : Nat) (a : Option Addr) (cap : Nat) (L : List Rn) (hS : St w b a cap L) (arr : Array Value) (hA : Arr arr (has L)) :
    Calls Try.prog 7 #[.pointer (some ⟨b, 0, none⟩), .agg arr] w fun e w' => e = .returned (.bool true) ∧ Below w.heap.size w w' := by
  have nb1 := World.alloc_heap_new w (.cells arr 23)
  have ha := al w (.cells arr 23)
  obtain ⟨W0, hW0⟩ : ∃ W0, w.alloc (.cells arr 23) = W0 := ⟨_, rfl⟩
  rw [hW0] at nb1 ha
  have HA := hide hA
  have HS := hide hS
  clear hA
  have AC := hide fun (W : World) (hb : Below W0.heap.size W0 W) (i : Nat) (hi : i < 256) => (show W.cell? ⟨w.heap.size, i, none⟩ = some (.bool (has L i)) from by
    have c := HA.out.cell nb1 hi
    exact (hb.cell (p := ⟨w.heap.size, i, none⟩) (block_lt_of_cell c)).trans c)
  have H1 := hide fun (W : World) (hb : Below W0.heap.size W0 W) (x : Int) => Has_any W b a cap L x (HS.out.keep (bt ha hb))
  have H2 := hide fun (W : World) (hb : Below W0.heap.size W0 W) => Runs_any W b a cap L (HS.out.keep (bt ha hb))
  have H3 := hide fun (W : World) (hb : Below W0.heap.size W0 W) => Len_any W b a cap L (HS.out.keep (bt ha hb))
  have n1 : min (sz L) mxi = nb (has L) 0 256 := by
    rw [sz_nb (a := 0) (k := 256) hS.can.ris (fun r hr => by have := hS.bnd r hr; unfold Nm at this; omega)]
    have := nb_le (has L) 0 256
    unfold mxi
    omega
  have n2 := ends_count hS.can hS.bnd
  rw [n1] at H3
  have N2 := hide n2
  have hlen : L.length ≤ 256 := by rw [← n2]; exact nb_le _ _ _
  clear nb1 HA n1 n2 hS
  go_enter Try.func7, Try.ntmps7
  go_wp2
  go_loopw [5, 6, 7] (fun m e n wx => ∃ k : Nat, k ≤ 256 ∧ n = .int .i64 k ∧ m = .int .i64 (nb (has L) 0 k) ∧ e = .int .i64 (nb (isEnd L) 0 k) ∧ Below W0.heap.size W0 wx) (fun _ _ n _ => 256 - (intOf n).toNat)
  case atStart => exact ⟨0, Nat.zero_le _, rfl, rfl, rfl, Below.refl _ _⟩
  case round =>
    obtain ⟨k, hk, rfl, rfl, rfl, hb⟩ := hrel
    by_cases hlt : k < 256
    · have hw8 : IntKind.u8.wrap (k : Int) = (k : Int) := wrapK (by omega) (by omega)
      have x1 : (k : Int) < 256 := by omega
      have M1 := nb_le (has L) 0 k
      have M2 := nb_le (isEnd L) 0 k
      have M3 := nb_succ (has L) 0 k
      have M4 := nb_succ (isEnd L) 0 k
      rw [Int.zero_add] at M3 M4
      have S1 : wr.drew.cell? ⟨w.heap.size, k, none⟩ = some (.bool (has L k)) := AC.out wr hb k hlt
      have S0 := AC.out wr hb k hlt
      have hie : isEnd L k = (has L k && (decide ((k : Int) = 255) || !has L (k + 1))) := rfl
      rw [hie] at M4
      have T1 : Hid (Below W0.heap.size W0 wr.drew) := hide (bt hb ⟨rfl, rfl, rfl, Nat.le_refl _, fun _ _ => rfl⟩)
      have H1' := hide fun (W : World) (hb : Below W0.heap.size W0 W) => H1.out W hb k
      have AC' := hide fun (W : World) (hb : Below W0.heap.size W0 W) (h : k + 1 < 256) => (show W.cell? ⟨w.heap.size, k + 1, none⟩ = some (.bool (has L (k + 1))) from AC.out W hb (k + 1) h)
      generalize has L k = p at *
      generalize has L (k + 1) = q at *
      generalize nb (has L) 0 k = m at *
      generalize nb (isEnd L) 0 k = e at *
      have G3 := hide M3
      have G4 := hide M4
      have hpp : (p == p) = true := by simp
      clear M3 M4 hie S0 hb
      go_wp2
      go_region_held3 (fun w' => w'.cell? ⟨w.heap.size, k, none⟩ = some (.bool p))
        (with_reducible exact S1)
        (first | (go_at_call 17; with_reducible refine (H1'.out _ T1.out).mono ?_; rintro e w9 ⟨rfl, hb⟩; have S1 := (hb.cell (p := ⟨w.heap.size, k, none⟩) (block_lt_of_cell S1)).trans S1; have T1 := hide (bt T1.out hb); clear hb))
      cases p with
      | false =>
        go_wp2
        go_roundw
        case rel => exact ⟨k + 1, by omega, by simp, by rw [G3.out]; simp, by rw [G4.out]; simp, T1.out⟩
        case measure => simp [intOf]; omega
      | true =>
        by_cases h5 : (k : Int) = 255
        · have hd5 : ((k : Int) == 255) = true := by simpa using h5
          have he : nb (isEnd L) 0 (k + 1) = e + 1 := by rw [G4.out]; simp [h5]
          have HE := hide he
          clear h5 he
          go_wp2
          go_roundw
          case rel => exact ⟨k + 1, by omega, by simp, by rw [G3.out]; simp, by rw [HE.out]; simp, T1.out⟩
          case measure => simp [intOf]; omega
        · have cq := AC'.out _ T1.out (by omega)
          have hd5 : ((k : Int) == 255) = false := by simpa using h5
          have x2 : (k : Int) + 1 < 256 := by omega
          cases q with
          | false =>
            go_wp2
            go_roundw
            case rel => exact ⟨k + 1, by omega, by simp, by rw [G3.out]; simp, by rw [G4.out]; simp, T1.out⟩
            case measure => simp [intOf]; omega
          | true =>
            have he : nb (isEnd L) 0 (k + 1) = e := by rw [G4.out]; simp [h5]
            have HE := hide he
            clear he
            go_wp2
            go_roundw
            case rel => exact ⟨k + 1, by omega, by simp, by rw [G3.out]; simp, by rw [HE.out], T1.out⟩
            case measure => simp [intOf]; omega
    · obtain rfl : k = 256 := by omega
      rw [N2.out, show ((256 : Nat) : Int) = 256 from rfl]
      generalize nb (has L) 0 256 = m at *
      go_wp2_with fail
      refine (H2.out _ hb).mono ?_
      rintro e w1 ⟨rfl, vL, hb1⟩
      have b1 := bt hb hb1
      have vL' := hide vL.vs
      have gH : wr.heap.size < w1.heap.size := vL.lt rfl
      have hmm : ((m : Int) == (m : Int)) = true := by simp
      clear vL
      go_wp2_with fail
      refine (H3.out _ b1).mono ?_
      rintro e w2 ⟨rfl, hb2⟩
      have b2 := bt b1 hb2
      go_wp2
      have vL2 := hide (vL'.out.keep hb2)
      obtain ⟨n, hn⟩ : ∃ n : Nat, n = L.length := ⟨_, rfl⟩
      have NL := hide hn
      rw [← hn] at hlen ⊢
      have H4 := hide fun (W : World) (hb : Below w2.heap.size w2 W) => Of_any W (some ⟨wr.heap.size, 0, none⟩) n L (vL'.out.keep (bt hb2 hb)) (by omega) (by simp) HS.out.bnd
      rw [← hn] at H4
      have b02 := bt ha b2
      clear hn vL' hb hb1 b1 hb2 gH
      generalize wr.heap.size = gR at *
      go_loopw [9, 10] (fun l i wx => ∃ (k : Nat) (z : Int), k ≤ n ∧ i = .int .i64 k ∧ l = .int .i64 z ∧ (-2 ≤ z ∧ z ≤ 255) ∧ (∀ j, j < L.length → k ≤ j → z + 1 < (L.getD j Rn.zero).1) ∧ Below w2.heap.size w2 wx) (fun _ i _ => n - (intOf i).toNat)
      case atStart => exact ⟨0, -2, Nat.zero_le _, rfl, rfl, by omega, fun j hj _ => by have := (HS.out.bnd _ (getD_mem hj)).1.1; omega, Below.refl _ _⟩
      case round =>
        obtain ⟨k, z, hk, rfl, rfl, ⟨z1, z2⟩, hz, hb⟩ := hrel
        by_cases hlt : k < n
        · have hkL : k < L.length := by rw [← NL.out]; exact hlt
          obtain ⟨bb, o, e, d1, d2⟩ := (vL2.out.keep hb).at hkL
          simp only [Option.some.injEq, Addr.mk.injEq, and_true] at e
          obtain ⟨rfl, rfl⟩ := e
          rw [Nat.zero_add] at d1 d2
          obtain ⟨⟨r1, r2⟩, r3, r4⟩ := HS.out.bnd _ (getD_mem hkL)
          have r5 := HS.out.can.1 _ (getD_mem hkL)
          have hzk := hz k hkL (Nat.le_refl _)
          have nx : ∀ j, j < L.length → k + 1 ≤ j → (L.getD k Rn.zero).2 + 1 < (L.getD j Rn.zero).1 := fun j hj hkj => by
            have pw := List.pairwise_iff_getElem.1 HS.out.can.2 k j hkL hj (by omega)
            rw [List.getD_eq_getElem?_getD, List.getElem?_eq_getElem hkL, List.getD_eq_getElem?_getD, List.getElem?_eq_getElem hj]
            exact pw
          have inn : ∀ x : Int, (L.getD k Rn.zero).1 ≤ x → x ≤ (L.getD k Rn.zero).2 → has L x = true := fun x h1 h2 => (has_iff _ _).2 ⟨_, getD_mem hkL, h1, h2⟩
          generalize L.getD k Rn.zero = r at *
          obtain ⟨p, hp⟩ : ∃ p : Nat, r.1 = (p : Int) := ⟨r.1.toNat, by omega⟩
          obtain ⟨q, hq⟩ : ∃ q : Nat, r.2 = (q : Int) := ⟨r.2.toNat, by omega⟩
          rw [hp] at d1 r1 r2 r5 hzk inn
          rw [hq] at d2 r3 r4 r5 nx inn
          have NX := hide nx
          have INN := hide inn
          have hd1 : decide ((p : Int) ≤ z + 1) = false := decide_eq_false (by omega)
          have hd2 : decide ((q : Int) < (p : Int)) = false := decide_eq_false (by omega)
          have x1 : (k : Int) < (n : Int) := by omega
          clear nx inn hp hq hz
          go_wp2
          go_quiet (fail)
          go_wp2
          obtain ⟨W5, hW5⟩ : ∃ W5, wr.drewN nq = W5 := ⟨_, rfl⟩
          have b5 : Below w2.heap.size w2 W5 := by rw [← hW5]; exact bt hb (drews _ _)
          have e1 : W5.cell? ⟨gR, k * 2, none⟩ = some (.int .u8 (p : Int)) := by rw [← hW5]; exact d1
          have e2 : W5.cell? ⟨gR, k * 2 + 1, none⟩ = some (.int .u8 (q : Int)) := by rw [← hW5]; exact d2
          rw [hW5]
          have AC5 := hide fun (i : Nat) (hi : i < 256) => AC.out W5 (bt b2 b5) i hi
          clear hW5 d1 d2 hb
          go_loopw [11] (fun j wx => ∃ t : Nat, j = .int .i64 t ∧ p ≤ t ∧ t ≤ q + 1 ∧ wx = W5) (fun j _ => q + 1 - (intOf j).toNat)
          case atStart => exact ⟨p, rfl, Nat.le_refl _, by omega, rfl⟩
          case round =>
            obtain ⟨t, rfl, t1, t2, rfl⟩ := hrel
            by_cases ht : t ≤ q
            · have ct := AC5.out t (by omega)
              rw [INN.out t (by omega) (by omega)] at ct
              have x2 : (t : Int) < 256 := by omega
              have x3 : (t : Int) ≤ (q : Int) := by omega
              go_wp2
              go_roundw
              case rel => exact ⟨t + 1, by simp, by omega, by omega, trivial⟩
              case measure => simp [intOf]; omega
            · have x3 : ¬ (t : Int) ≤ (q : Int) := by omega
              go_wp2
              go_roundw
              case rel => exact ⟨k + 1, q, by omega, by simp, rfl, by omega, NX.out, b5⟩
              case measure => simp [intOf]; omega
        · obtain rfl : k = n := by omega
          go_wp2_with fail
          refine (H4.out _ hb).mono ?_
          rintro e w6 ⟨b', a', cap', R, rfl, q1, q2, q3⟩
          have eR : R = L := can_unique q1.st.can HS.out.can (fun x => q2 x)
          subst eR
          have sL := HS.out.keep (bt (bt b02 hb) q1.w)
          have b6 := bt (bt b02 hb) q1.w
          have K1 := hide (Same_any w6 b' b a' a cap' cap R R q1.st sL)
          have K2 := hide fun (W : World) (hb : Below w6.heap.size w6 W) => Same_any W b b' a a' cap cap' R R (sL.keep hb) (q1.st.keep hb)
          rw [decide_eq_true (rfl : R = R)] at K1 K2
          clear q1 q2 q3 sL
          go_wp2_with fail
          refine K1.out.mono ?_
          rintro e w7 ⟨rfl, hb7⟩
          go_wp2_with fail
          refine (K2.out _ hb7).mono ?_
          rintro e w8 ⟨rfl, hb8⟩
          go_wp2
          go_ret
          exact ⟨rfl, bt (bt b6 hb7) hb8⟩
end Go.Proofs.Ytlgkallaicnbjaa
