import Derived.Test.YtlflcdjaknnfaaaKO
namespace Go.Proofs.Ytlflcdjaknnfaaa
open Go.RowKit

/-- a row of bytes, whatever they are -/
def By (w : World) (g c n : Nat) : Prop := ∃ f : Nat → Value, w.rowIs g 5 c f ∧ n ≤ c ∧ ∀ i, i < n → ∃ v : Int, f i = .int .u8 v
theorem Rw.by_ {w : World} {g c : Nat} {l : List Nat} (h : Rw w (some ⟨g, 0, none⟩) c l) : By w g c l.length := by
  rcases h.cases with ⟨h0, _⟩ | ⟨g', cur, h0, hg, h1, h2, h3, h4⟩
  · cases h0
  · simp only [Option.some.injEq, Addr.mk.injEq] at h0
    obtain ⟨rfl, _⟩ := h0
    refine ⟨fun i => cur.getD i undef, ⟨cur, hg, h3, fun i hi => ?_⟩, h1, fun i hi => ⟨((l.getD i 0 : Nat) : Int), ?_⟩⟩
    · simp [h3, hi]
    · have e := congrArg (fun x => x[i]?) h4
      simp only [List.getElem?_take, hi, if_true, vb_get l i hi] at e
      have hc : cur[i]? = some (.int .u8 ((l.getD i 0 : Nat) : Int)) := by simpa using e
      show cur.getD i undef = _
      rw [Array.getD_eq_getD_getElem?, hc]
      rfl
theorem By.at {w : World} {g c n : Nat} (h : By w g c n) {i : Nat} (hi : i < n) : ∃ v : Int, w.cell? ⟨g, i, none⟩ = some (.int .u8 v) ∧ w.frozen? ⟨g, i, none⟩ = false := by
  obtain ⟨f, h1, h2, h3⟩ := h
  obtain ⟨v, hv⟩ := h3 i hi
  exact ⟨v, by rw [h1.cell (by omega), hv], h1.frozen i⟩
theorem By.set {w : World} {g c n : Nat} (h : By w g c n) (i : Nat) (v : Int) : By (w.setCell ⟨g, i, none⟩ (.int .u8 v)) g c n := by
  obtain ⟨f, h1, h2, h3⟩ := h
  refine ⟨_, h1.set i (.int .u8 v), h2, fun j hj => ?_⟩
  by_cases e : j = i
  · exact ⟨v, by simp [e]⟩
  · obtain ⟨u, hu⟩ := h3 j hj
    exact ⟨u, by simp [e, hu]⟩
theorem By.but {T : Nat → Prop} {w w' : World} {g c n : Nat} (h : By w g c n) (hb : But T w w') (hn : ¬ T g) : By w' g c n := by
  obtain ⟨f, h1, h2, h3⟩ := h
  exact ⟨f, rowIs_but h1 hb hn, h2, h3⟩
theorem By.keep {w w' : World} {g c n : Nat} (h : By w g c n) (hb : Below w.heap.size w w') : By w' g c n := h.but (T := fun _ => False) (But.ofBelow hb) (fun h => h)
theorem of_all (l : List Nat) : (Sd.of l).all = (Sd.of l).img := rfl
theorem ext_none {w w' : World} {k : Nat} (h : ext none' w w' k) : w.heap.size ≤ k ∧ k < w'.heap.size := by
  rcases h with h | h
  · exact h.elim
  · exact h
theorem Rw.some_ {w : World} {a : Option Addr} {c : Nat} {l : List Nat} (h : Rw w a c l) (hl : 0 < l.length) : ∃ g, a = some ⟨g, 0, none⟩ ∧ l.length ≤ c ∧ g < w.heap.size := by
  rcases h.cases with ⟨_, _, e0⟩ | ⟨g, cur, rfl, hg, h1, _⟩
  · rw [e0] at hl; exact absurd hl (Nat.lt_irrefl _)
  · exact ⟨g, rfl, h1, (Array.getElem?_eq_some_iff.1 hg).1⟩
set_option maxHeartbeats 3000000 in
theorem taken_good (w : World) (a : Option Addr) (m cap : Nat) (l : List Nat) (n : Nat) (hB : Bs w a l) (hm : m = l.length) (hl : l.length = n * 512) (h0 : 8 ≤ n) (h1 : n ≤ 65536) :
    Calls Try.prog 3 #[.slice a m cap] w fun e w' => e = .returned (.bool true) ∧ Below w.heap.size w w' := by
  have hlt := hB.1
  have R1 := hide (CopyBytes_any w a m cap l hB hm (by omega))
  have HB := hide hB
  have hmb : m ≤ 33554432 := by omega
  have HL := hide hl
  have HM := hide hm
  clear hB hl hm
  go_enter Try.func3, Try.ntmps3
  go_wp2_with fail
  refine R1.out.mono ?_
  rintro e w1 ⟨ax, cx, rfl, hr1, hn1, hb1⟩
  obtain ⟨g, rfl, hc1, hg1⟩ := hr1.some_ (by have := HL.out; omega)
  have HG : Hid (w.heap.size ≤ g) := by
    rcases hn1 _ rfl with ⟨y, hy, _⟩ | h
    · cases hy
    · exact h
  have R2 := hide (dFrom_any w1 (some ⟨g, 0, none⟩) m cx l n (hr1.bs' hlt) HM.out HL.out h0 h1 hc1)
  have HY := hide hr1.by_
  have HB1 := hide hb1
  clear hr1 hn1 hb1 R1
  go_wp2_with fail
  refine R2.out.mono ?_
  rintro e w2 ⟨p, bl, bn, rfl, h2, hb2⟩
  have HD2 : Hid (Dk (ext none' w1 w2) w2 p (Sd.of l)) := ⟨_, _, _, _, h2⟩
  have HB2 := hide (bt HB1.out hb2)
  have HY2 := hide (HY.out.keep hb2)
  have R3 := hide (hFrom_any w2 a m cap l n (HB.out.keep HB2.out) HM.out HL.out h0 h1)
  clear h2 hb2 R2 HY
  go_wp2_with fail
  refine R3.out.mono ?_
  rintro e w3 ⟨q, rfl, _, hb3⟩
  have HD3 := hide (HD2.out.keep hb3)
  have HB3 := hide (bt HB2.out hb3)
  have HY3 := hide (HY2.out.keep hb3)
  clear hb3 R3 HD2 HY2
  go_wp2_with fail
  go_at_call 12
  refine (works_any w3).mono ?_
  rintro e w4 ⟨rfl, hb4⟩
  have HD4 := hide (HD3.out.keep hb4)
  have HB4 := hide (bt HB3.out hb4)
  have HY4 := hide (HY3.out.keep hb4)
  have hgn : ¬ ext none' w1 w2 g := fun h => by have := (ext_none h).1; omega
  clear hb4 HD3 HY3
  go_wp2
  go_loopw [8] (fun i wx => ∃ j : Nat, j ≤ m ∧ i = .int .i64 j ∧ (By wx g cx l.length ∧ Dk (ext none' w1 w2) wx p (Sd.of l) ∧ Below w.heap.size w wx)) (fun i _ => m - (intOf i).toNat)
  case atStart => exact ⟨0, Nat.zero_le _, rfl, HY4.out, HD4.out, HB4.out⟩
  case round =>
    obtain ⟨j, hj, rfl, hG⟩ := hrel
    clear HY4 HD4 HB4
    have HGG := hide hG
    clear hG
    by_cases hjm : j < m
    · have hi : (j : Int) < (m : Int) := by omega
      obtain ⟨v, cv, fv⟩ := HGG.out.1.at (i := j) (by rw [← HM.out]; exact hjm)
      go_wp2
      go_roundw
      case rel =>
        exact ⟨j + 1, by omega, by go_num, HGG.out.1.set j _, HGG.out.2.1.but (set_but wr g j _) (fun k hk e => hgn (e ▸ hk)), HGG.out.2.2.setCell HG.out _⟩
      case measure => simp [intOf]; omega
    · obtain rfl : j = m := by omega
      have R5 := hide (kImage HGG.out.2.1)
      have HI : Hid ((Sd.of l).img = l) := Sd.of_img HL.out
      rw [HI.out, ← HM.out] at R5
      have hpw : (Sd.of l).pow = true := rfl
      go_wp2_with fail
      refine R5.out.mono ?_
      rintro e w5 ⟨rfl, hr5, hb5⟩
      have HD5 := hide (HGG.out.2.1.keep hb5)
      have HB5 := hide (bt HGG.out.2.2 hb5)
      have R6 := hide (EqBytes_same w5 (some ⟨wr.heap.size, 0, none⟩) a j j j cap l (hr5.bs' hlt) (HB.out.keep HB5.out) HM.out HM.out)
      clear hr5 hb5 R5
      go_wp2_with fail
      refine R6.out.mono ?_
      rintro e w6 ⟨rfl, hb6⟩
      have HD6 := hide (HD5.out.keep hb6)
      have HB6 := hide (bt HB5.out hb6)
      have R7 := hide (whole_any HD6.out hpw)
      rw [of_all, HI.out, ← HM.out] at R7
      clear hb6 R6
      go_wp2_with fail
      refine R7.out.mono ?_
      rintro e w7 ⟨a7, c7, rfl, hr7, _, hb7⟩
      have HB7 := hide (bt HB6.out hb7)
      have R8 := hide (EqBytes_same w7 a7 a j j c7 cap l (hr7.bs' hlt) (HB.out.keep HB7.out) HM.out HM.out)
      clear hr7 hb7 R7
      go_wp2_with fail
      refine R8.out.mono ?_
      rintro e w8 ⟨rfl, hb8⟩
      have HB8 := hide (bt HB7.out hb8)
      clear hb8 R8
      go_wp2
      go_ret
      exact ⟨rfl, HB8.out⟩
set_option maxHeartbeats 2000000 in
theorem taken_bad (w : World) (a : Option Addr) (m cap : Nat) (l : List Nat) (hB : Bs w a l) (hm : m = l.length) (hb : m ≤ 140737488355328) (h : m % 512 ≠ 0 ∨ m / 512 < 8 ∨ 65536 < m / 512) :
    Calls Try.prog 3 #[.slice a m cap] w fun e w' => e = .returned (.bool true) ∧ Below w.heap.size w w' := by
  have R1 := hide (CopyBytes_any w a m cap l hB hm (by omega))
  have HH := hide h
  clear hB hm h
  go_enter Try.func3, Try.ntmps3
  go_wp2_with fail
  refine R1.out.mono ?_
  rintro e w1 ⟨ax, cx, rfl, _, _, hb1⟩
  have HB1 := hide hb1
  have R2 := hide (dFrom_bad w1 ax m cx (by omega) HH.out)
  clear hb1 R1
  go_wp2_with fail
  refine R2.out.mono ?_
  rintro e w2 ⟨rfl, e2⟩
  have e2 := e2.symm
  subst e2
  have R3 := hide (hFrom_bad w1 a m cap (by omega) HH.out)
  clear R2
  go_wp2_with fail
  refine R3.out.mono ?_
  rintro e w2 ⟨rfl, e2⟩
  have e2 := e2.symm
  subst e2
  clear R3
  go_wp2_with fail
  go_at_call 12
  refine (works_any w1).mono ?_
  rintro e w4 ⟨rfl, hb4⟩
  have HB4 := hide (bt HB1.out hb4)
  clear hb4
  go_wp2
  go_ret
  exact ⟨rfl, HB4.out⟩
theorem taken_any (w : World) (a : Option Addr) (m cap : Nat) (l : List Nat) (hB : Bs w a l) (hm : m = l.length) (hb : m ≤ 140737488355328) :
    Calls Try.prog 3 #[.slice a m cap] w fun e w' => e = .returned (.bool true) ∧ Below w.heap.size w w' := by
  by_cases h : m % 512 ≠ 0 ∨ m / 512 < 8 ∨ 65536 < m / 512
  · exact taken_bad w a m cap l hB hm hb h
  · exact taken_good w a m cap l (m / 512) hB hm (by omega) (by omega) (by omega)
theorem diskTaken_any (w : World) (a : Option Addr) (cap : Nat) (l : List Nat) (hB : Bs w a l) (hN : l.length + 64 ≤ 140737488355328) (_hC : l.length ≤ cap) :
    Calls Try.prog 3 #[.slice a l.length cap] w fun e w' => e = .returned (.bool true) ∧ Below w.heap.size w w' := taken_any w a l.length cap l hB rfl (by omega)
end Go.Proofs.Ytlflcdjaknnfaaa
