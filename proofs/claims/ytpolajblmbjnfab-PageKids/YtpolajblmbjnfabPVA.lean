import Derived.Test.YtpolajblmbjnfabPQD
import Derived.Test.YtpolajblmbjnfabPQE
import Derived.Test.YtpolajblmbjnfabPV
namespace Go.Proofs.Ytpolajblmbjnfab
open Go.RowKit

theorem kids_len {p : Pg} {N : Nat} (h : p.items.length ≤ N) : p.kids.length ≤ N + 1 := by
  unfold Pg.kids
  split
  · rw [List.length_map]; omega
  split
  · refine Nat.le_trans (List.length_filter_le _ _) ?_
    rw [List.length_map]; omega
  split
  · simp
  · simp
theorem kids_in {p : Pg} (h : Sound p) : ∀ x ∈ p.kids, 1 ≤ x ∧ x ≤ 65536 := by
  intro x hx
  unfold Pg.kids at hx
  split at hx
  · rename_i hk
    obtain ⟨y, hy, rfl⟩ := List.mem_map.1 hx
    exact ((h.fits hy).index hk).2.2
  split at hx
  · rename_i hk
    obtain ⟨hx1, hx2⟩ := List.mem_filter.1 hx
    obtain ⟨y, hy, rfl⟩ := List.mem_map.1 hx1
    have h0 : y.child ≠ 0 := of_decide_eq_true hx2
    obtain ⟨_, _, q1, q2⟩ := (h.fits hy).leaf hk
    by_cases h32 : y.size ≤ 32
    · exact absurd (q1 h32).2 h0
    · exact (q2 (by omega)).2
  split at hx
  · rename_i hk
    have := h.blob hk.1
    simp only [List.mem_cons, List.not_mem_nil, or_false] at hx
    subst hx
    have := hk.2
    omega
  · cases hx
theorem kids_many {p : Pg} (h : Sound p) : (p.kind = 1 ∧ p.kids.length ≤ 8) ∨ (p.kind = 2 ∧ 2 ≤ p.kids.length ∧ p.kids.length ≤ 8) ∨ (p.kind = 3 ∧ p.kids.length ≤ 1) := by
  rcases Pg.kindOk_iff.1 h.k with hk | hk | hk
  · refine .inl ⟨hk, ?_⟩
    have hl := (h.node (.inl hk)).2.2.1
    unfold Pg.kids
    rw [if_neg (by omega), if_pos hk]
    refine Nat.le_trans (List.length_filter_le _ _) ?_
    rw [List.length_map]; exact hl
  · refine .inr (.inl ⟨hk, ?_⟩)
    have hl := (h.node (.inr hk)).2.2.1
    have h2 : 2 ≤ p.items.length := by
      have hf := h.f
      unfold Pg.form at hf
      rw [if_neg (by omega), if_neg (by omega)] at hf
      simp only [Bool.and_eq_true, decide_eq_true_eq] at hf
      exact hf.2.2
    unfold Pg.kids
    rw [if_pos hk, List.length_map]
    exact ⟨h2, hl⟩
  · refine .inr (.inr ⟨hk, ?_⟩)
    unfold Pg.kids
    rw [if_neg (by omega), if_neg (by omega)]
    split <;> simp
set_option maxRecDepth 16000 in
set_option maxHeartbeats 6400000 in
theorem pageKids_any (w : World) (p : Pv) (hP : Pi w p) : Calls Try.prog 3 #[.agg p.cs] w fun e w' => e = .returned (.bool true) ∧ Below w.heap.size w w' := by
  have hin : p.pg.kids.length ≤ 2199023255490 := kids_len (p := p.pg) (N := 2199023255489) (by have := hP.it.2.1; show (p.items.map Iv.it).length ≤ _; rw [List.length_map]; exact this)
  have KD := hide fun (w1 : World) (hb : Below w.heap.size w w1) => Kids_any w1 p (hP.keep hb)
  have KI := hide fun (w1 : World) (hb : Below w.heap.size w w1) => iKids_any w1 p (hP.keep hb)
  have CK := hide fun (w1 : World) (hb : Below w.heap.size w w1) => Check_any w1 p (hP.keep hb)
  have FX := hide (fixed_any (w.alloc (.cells p.cs 25)))
  have A0 := hide (al w (.cells p.cs 25))
  have CP := hide fun (w1 : World) (hb : Below (w.alloc (.cells p.cs 25)).heap.size (w.alloc (.cells p.cs 25)) w1) => Bx.page ((Bx.new w 25 p.cs).keep hb)
  have KIN := hide (show p.pg.check = 0 → ∀ i, i < p.pg.kids.length → 1 ≤ p.pg.kids.getD i 0 ∧ p.pg.kids.getD i 0 ≤ 65536 from fun h i hi => kids_in (Pg.check_zero.1 h) _ (by simp [hi]))
  have KMN := hide (show p.pg.check = 0 → (p.kind = 1 ∧ p.pg.kids.length ≤ 8) ∨ (p.kind = 2 ∧ 2 ≤ p.pg.kids.length ∧ p.pg.kids.length ≤ 8) ∨ (p.kind = 3 ∧ p.pg.kids.length ≤ 1) from fun h => kids_many (Pg.check_zero.1 h))
  clear hP
  generalize p.pg.kids = L at *
  generalize p.pg.check = ce at *
  obtain ⟨kind, level, aI, cI, items, aD, cD, data, next⟩ := p
  unfold Pv.vl at KD KI CK
  simp only [Pv.cs] at *
  go_enter Try.func3, Try.ntmps3
  go_wp2_with fail
  refine FX.out.mono ?_
  rintro e w1 ⟨rfl, hb1⟩
  have B1 := hide (bt A0.out hb1)
  have CP1 := hide fun (w2 : World) (hb : Below w1.heap.size w1 w2) => CP.out w2 (bt hb1 hb)
  clear FX CP hb1 A0
  obtain ⟨k0, k1, k2, k3, k4⟩ := CP1.out w1 (Below.refl _ _)
  go_wp2_with fail
  refine (KD.out w1 B1.out).mono ?_
  rintro e w2 ⟨a2, c2, rfl, h2⟩
  have B2 := hide (bt B1.out h2.b)
  have CP2 := hide fun (w3 : World) (hb : Below w2.heap.size w2 w3) => CP1.out w3 (bt h2.b hb)
  have I2 := hide h2.r.ir
  clear k0 k1 k2 k3 k4 CP1 KD h2
  obtain ⟨k0, k1, k2, k3, k4⟩ := CP2.out w2 (Below.refl _ _)
  go_wp2_with fail
  refine (KI.out w2 B2.out).mono ?_
  rintro e w3 ⟨a3, c3, rfl, h3⟩
  have B3 := hide h3.b
  have EQ := hide (EqInts_same w3 a2 a3 L.length L.length c2 c3 L (I2.out.keep h3.b) h3.r.ir rfl rfl (by omega))
  clear k0 k1 k2 k3 k4 KI h3
  go_wp2_with fail
  refine EQ.out.mono ?_
  rintro e w4 ⟨rfl, hb4⟩
  have B4 := hide (bt B3.out hb4)
  clear hb4 EQ B3
  obtain ⟨k0, k1, k2, k3, k4⟩ := CP2.out w4 B4.out
  go_wp2_with fail
  refine (CK.out w4 (bt B2.out B4.out)).mono ?_
  rintro e w5 ⟨rfl, hb5⟩
  have B5 := hide (bt B4.out hb5)
  clear hb5 CK B4 k0 k1 k2 k3 k4
  by_cases hz : ce = 0
  · have KI1 := hide (KIN.out hz)
    have KM1 := hide (KMN.out hz)
    subst hz
    clear KIN KMN
    go_wp2
    go_loopw [4] (fun i wx => ∃ j : Nat, j ≤ L.length ∧ i = .int .i64 j ∧ Below w2.heap.size w2 wx) (fun i _ => L.length - (intOf i).toNat)
    case atStart => exact ⟨0, Nat.zero_le _, rfl, B5.out⟩
    case round =>
      obtain ⟨j, hj, rfl, hb⟩ := hrel
      have BR := hide hb
      by_cases hlt : j < L.length
      · have hlti : (j : Int) < (L.length : Int) := by omega
        have hj1 := w64 (j := j) (by omega)
        obtain ⟨b, off, rfl, hc⟩ := (I2.out.keep hb).at hlt
        obtain ⟨x1, x2⟩ := KI1.out j hlt
        generalize L.getD j 0 = x at *
        have y1 : decide (x < 1) = false := by simp; omega
        have y2 : decide (65536 < x) = false := by simp; omega
        clear hb
        go_wp2
        go_roundw
        case rel => exact ⟨j + 1, by omega, by first | (go_num; done) | exact congrArg (Value.int IntKind.i64) (by omega), BR.out⟩
        case measure => first | exact meas_up _ _ _ hj1 hlt | exact meas_up _ _ _ rfl hlt | (simp [intOf]; omega)
      · obtain rfl : j = L.length := by omega
        obtain ⟨k0, k1, k2, k3, k4⟩ := CP2.out _ hb
        clear hb
        have KM2 := KM1.out
        generalize L.length = n at *
        rcases KM2 with ⟨rfl, hn⟩ | ⟨rfl, hn2, hn⟩ | ⟨rfl, hn⟩
        · have hd : decide ((n : Int) ≤ 8) = true := by simp; omega
          go_wp2
          go_ret
          exact ⟨by simp, bt B2.out BR.out⟩
        · have hd : decide ((n : Int) ≤ 8) = true := by simp; omega
          have hd2 : decide (2 ≤ (n : Int)) = true := by simp; omega
          go_wp2
          go_ret
          exact ⟨by simp, bt B2.out BR.out⟩
        · have hd : decide ((n : Int) ≤ 1) = true := by simp; omega
          go_wp2
          go_ret
          exact ⟨by simp, bt B2.out BR.out⟩
  · have hzf : ((ce : Int) != 0) = true := by simpa using hz
    have hzg : ¬ (ce : Int) = 0 := by omega
    clear KIN KMN
    go_wp2
    go_ret
    exact ⟨rfl, bt B2.out B5.out⟩
end Go.Proofs.Ytpolajblmbjnfab
