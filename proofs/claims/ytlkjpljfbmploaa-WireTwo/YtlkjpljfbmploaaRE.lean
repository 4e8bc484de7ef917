import Derived.Test.YtlkjpljfbmploaaRC
import Derived.Deep.RegionLaw
import Derived.Deep.RegionHeld3
namespace Go.Proofs.Ytlkjpljfbmploaa
open Go.RowKit

/-- with what error Zeros gives up; 0: with none -/
def RS.zerosE (s : RS) : Nat := if s.e ≠ 0 then s.e else if s.l.all (· == 0) then 0 else 5
def RS.zeros (s : RS) : RS := if s.zerosE ≠ 0 then ⟨s.l, s.zerosE⟩ else ⟨[], 0⟩
theorem box_at {w w3 : World} {b : Nat} {a : Option Addr} {s : RS} {W : World} (hlt : b < w.heap.size) (hp : W.cell? ⟨w.heap.size, 0, none⟩ = some (.pointer (some ⟨b, 0, none⟩))) (h : DidR W.drew w3 b a s) : w3.cell? ⟨w.heap.size, 0, none⟩ = some (.pointer (some ⟨b, 0, none⟩)) := by
  obtain ⟨_, _, _, _, h3⟩ := h
  exact (h3.cell (p := ⟨w.heap.size, 0, none⟩) (block_lt_of_cell hp) (by show ¬ w.heap.size = b; omega)).trans hp
theorem Bs.at2 {w : World} {aa : Option Addr} {p : List Nat} (hB : Bs w aa p) {j : Nat} (hj : j < p.length) : ∃ b off, aa = some ⟨b, off, none⟩ ∧ w.cell? ⟨b, off + j, none⟩ = some (.int .u8 ((p.getD j 0 : Nat) : Int)) := by
  rcases hB.2.2 with rfl | ⟨b, off, rfl, hc⟩
  · simp at hj
  · exact ⟨b, off, rfl, hc j hj⟩
/-- the first byte that is not 0 -/
theorem first_not {l : List Nat} (h : l.all (· == 0) = false) : ∃ m, m < l.length ∧ l.getD m 0 ≠ 0 ∧ ∀ i, i < m → l.getD i 0 = 0 := by
  induction l with
  | nil => simp at h
  | cons x r ih =>
    by_cases hx : x = 0
    · subst hx
      have h2 : r.all (· == 0) = false := by simpa using h
      obtain ⟨m, h1, h2, h3⟩ := ih h2
      refine ⟨m + 1, by simpa using h1, by simpa using h2, fun i hi => ?_⟩
      cases i with
      | zero => rfl
      | succ i => simpa using h3 i (by omega)
    · exact ⟨0, by simp, by simpa using hx, fun i hi => by omega⟩
theorem all_zero {l : List Nat} (h : l.all (· == 0) = true) (i : Nat) : l.getD i 0 = 0 := by
  rcases Nat.lt_or_ge i l.length with hi | hi
  · rw [getD_at l hi]
    have := List.all_eq_true.1 h l[i] (List.getElem_mem _)
    simpa using this
  · simp [List.getD, List.getElem?_eq_none hi]

set_option maxHeartbeats 3200000 in
theorem Zeros_ok (w : World) (b : Nat) (a : Option Addr) (cap : Nat) (s : RS) (h : Rd w b a cap s) (he : s.e = 0) (hz : ∀ i, s.l.getD i 0 = 0) :
    Calls Try.prog 27 #[.pointer (some ⟨b, 0, none⟩)] w fun x w' => x = .returned (.tuple #[]) ∧ DidR w w' b a ⟨[], s.e⟩ := by
  have hmf := mkf
  have hb0 : Below w.heap.size w (w.alloc (.cells #[.pointer (some ⟨b, 0, none⟩)] 40)).drew := ((Below.refl _ _).alloc (Nat.le_refl _) _).drew
  have hp0 : (w.alloc (.cells #[.pointer (some ⟨b, 0, none⟩)] 40)).drew.cell? ⟨w.heap.size, 0, none⟩ = some (.pointer (some ⟨b, 0, none⟩)) := by simp
  have H := hide (h.keep hb0)
  have c0 := H.out.c0
  have HLT := hide h.lt
  have hlen := h.2.2.2.2.1
  have A := hide (ahead_ok _ b a cap s s.l.length H.out he (Nat.le_refl _))
  have HB0 := hide hb0
  have HZ := hide hz
  clear h hb0 hz
  go_enter_defers Try.func27, Try.ntmps27
  go_wp2
  go_region_held3 (fun w' => w'.cell? ⟨w.heap.size, 0, none⟩ = some (.pointer (some ⟨b, 0, none⟩)) ∧ w'.cell? ⟨b, 0, none⟩ = some (.slice a s.l.length cap))
    (first | exact ⟨hp0, c0⟩)
    (first | (go_at_call 62; refine A.out.mono ?_; rintro e w1 ⟨rfl, hw1⟩; subst w1))
  generalize (w.alloc (.cells #[.pointer (some ⟨b, 0, none⟩)] 40)).drew = W at *
  clear A
  go_wp2
  go_loopw [13] (fun i wx => ∃ j : Nat, j ≤ s.l.length ∧ i = .int .i64 j ∧ wx = W) (fun i _ => s.l.length - (intOf i).toNat)
  case atStart => exact ⟨0, Nat.zero_le _, rfl, rfl⟩
  case round =>
    obtain ⟨j, hj, rfl, hw⟩ := hrel
    subst wr
    by_cases hlt : j < s.l.length
    · have hi : (j : Int) < (s.l.length : Int) := by omega
      obtain ⟨g, off, rfl, hc⟩ := H.out.2.1.at2 (j := j) hlt
      rw [HZ.out j] at hc
      go_wp2
      go_roundw
      case rel => exact ⟨j + 1, by omega, by go_num, trivial⟩
      case measure => simp [intOf]; omega
    · obtain rfl : j = s.l.length := by omega
      have hbW : Below W.heap.size W W.drew := (Below.refl _ _).drew
      have PS := hide (pass_any W.drew b a cap s s.l.length (H.out.keep hbW) (Nat.le_refl _))
      have HBW := hide hbW
      clear hbW
      go_wp2
      refine wp_region_noPanic ?_
      go_region_with (first | (go_at_call 63; refine PS.out.mono ?_; rintro e w3 ⟨rfl, h3⟩; have H3 := hide h3; clear h3))
      all_goals (
        refine NoPanic.normal ?_
        go_wp2
        refine leaves_cons (f := 60) (args := #[.pointer (some ⟨w.heap.size, 0, none⟩)]) (by simp) (by simp [go_sem]) ?_
        refine (catch_idle_pRZerosC _ ⟨w.heap.size, 0, none⟩).mono ?_
        rintro e u' w'' ⟨rfl, rfl, rfl⟩
        have h3 := H3.out
        rw [List.drop_length] at h3
        simp only [settle]
        exact ⟨_, results_none rfl _ _ _, rfl, DidR.pre (bt HB0.out HBW.out) h3⟩)

def PanQ (er : Nat) (W : World) (D : List Deferred) : Exit → Act → World → Prop
  | .panic c, a, w => c = pan er ∧ w = W ∧ a.defers = D
  | _, _, _ => False
theorem PanQ.imp {er : Nat} {W : World} {D : List Deferred} {Q : Exit → Act → World → Prop} (hQ : ∀ tmps, Q (.panic (pan er)) { tmps := tmps, defers := D } W) : ∀ (e : Exit) (a : Act) (w : World), PanQ er W D e a w → Q e a w := fun e a w h => by
  cases e with
  | panic c =>
    obtain ⟨rfl, rfl, rfl⟩ := h
    exact hQ a.tmps
  | _ => exact (h : False).elim
theorem wp_region_pan {id : Nat} {ops : Array Oper} {t : Bool} {Q : Exit → Act → World → Prop} {a : Act} {w : World} (er : Nat) (W : World) (D : List Deferred) (hQ : ∀ tmps, Q (.panic (pan er)) { tmps := tmps, defers := D } W) (h : (Code.region id ops t).wp Try.prog (PanQ er W D) a w) : (Code.region id ops t).wp Try.prog Q a w :=
  Code.wp_mono (PanQ.imp hQ) h

/-- the end of Zeros by a panic -/
theorem zeros_fin (w W : World) (b : Nat) (a : Option Addr) (cap : Nat) (s : RS) (er : Nat) (H : Rd W b a cap s) (hb : Below w.heap.size w W) (hp : W.cell? ⟨w.heap.size, 0, none⟩ = some (.pointer (some ⟨b, 0, none⟩))) (tmps : Array Value) :
    bodyPostD Try.prog Try.f27 (fun x w' => x = .returned (.tuple #[]) ∧ DidR w w' b a ⟨s.l, er⟩) (Exit.panic (pan er)) { tmps := tmps, defers := [{ target := Target.fn (Fn.func 60) #[.pointer (some ⟨w.heap.size, 0, none⟩)], args := #[] }] } W := by
  refine leaves_cons (f := 60) (args := #[.pointer (some ⟨w.heap.size, 0, none⟩)]) (by simp) (by simp [go_sem]) ?_
  refine (catch_pan_pRZerosC _ ⟨w.heap.size, 0, none⟩ b a cap s er H hp).mono ?_
  rintro e u' w'' ⟨rfl, rfl, rfl⟩
  have G := gave_up H hb er
  simp only [settle]
  exact ⟨_, results_none rfl _ _ _, rfl, G⟩

set_option maxHeartbeats 3200000 in
theorem Zeros_err (w : World) (b : Nat) (a : Option Addr) (cap : Nat) (s : RS) (h : Rd w b a cap s) (he : s.e ≠ 0) :
    Calls Try.prog 27 #[.pointer (some ⟨b, 0, none⟩)] w fun x w' => x = .returned (.tuple #[]) ∧ DidR w w' b a ⟨s.l, s.e⟩ := by
  have hmf := mkf
  have hb0 : Below w.heap.size w (w.alloc (.cells #[.pointer (some ⟨b, 0, none⟩)] 40)).drew := ((Below.refl _ _).alloc (Nat.le_refl _) _).drew
  have hp0 : (w.alloc (.cells #[.pointer (some ⟨b, 0, none⟩)] 40)).drew.cell? ⟨w.heap.size, 0, none⟩ = some (.pointer (some ⟨b, 0, none⟩)) := by simp
  have H := hide (h.keep hb0)
  have c0 := H.out.c0
  have A := hide (ahead_err _ b a cap s s.l.length H.out he)
  have FIN := hide (zeros_fin w _ b a cap s s.e H.out hb0 hp0)
  clear h hb0 he
  go_enter_defers Try.func27, Try.ntmps27
  go_wp2
  refine wp_region_pan s.e (w.alloc (.cells #[.pointer (some ⟨b, 0, none⟩)] 40)).drew [{ target := Target.fn (Fn.func 60) #[.pointer (some ⟨w.heap.size, 0, none⟩)], args := #[] }] (fun tmps => FIN.out tmps) ?_
  refine wp_region_any (by kernel_rfl) ?_
  change wpAny _ _ _ _ _ _ _ (World.drew _)
  refine wpAny_take (i := 8) (v := .int .i64 0) rfl (by kernel_rfl) (by kernel_rfl) (by kernel_rfl) (fun _ _ _ h => h) (Or.inl ⟨by rfl, ?_⟩) ?_
  · intro w; go_simp
  refine wpAny_ready (rs := [0, 1]) (by kernel_rfl) (by simp) ?_
  refine AllReady.cons rfl (fun K hK => ?_) ?_
  · go_simp
    refine hK _ _ ?_
    clear hK K
    refine wpAny_ready (rs := [1]) (by kernel_rfl) (by simp) ?_
    refine AllReady.cons rfl (fun K hK => ?_) ?_
    · go_simp
      refine hK _ _ ?_
      clear hK K
      refine wpAny_ready (rs := [2]) (by kernel_rfl) (by simp) ?_
      refine AllReady.cons rfl (fun K hK => ?_) ?_
      · go_simp
        refine hK _ _ ?_
        clear hK K
        refine wpAny_ready (rs := [3]) (by kernel_rfl) (by simp) ?_
        refine AllReady.cons rfl (fun K hK => ?_) ?_
        · go_simp
          refine hK _ _ ?_
          clear hK K
          refine wpAny_ready (rs := [4]) (by kernel_rfl) (by simp) ?_
          refine AllReady.cons rfl (fun K hK => ?_) ?_
          · go_simp
            refine hK _ _ ?_
            clear hK K
            refine wpAny_ready (rs := [5]) (by kernel_rfl) (by simp) ?_
            refine AllReady.cons rfl (fun K hK => ?_) ?_
            · go_simp
              refine hK _ _ ?_
              clear hK K
              refine wpAny_ready (rs := [6]) (by kernel_rfl) (by simp) ?_
              refine AllReady.cons rfl (fun K hK => ?_) ?_
              · go_simp
                go_wp2_with (go_at_call 62; refine A.out.mono ?_; rintro e w1 ⟨rfl, hw1⟩; subst w1)
                exact ⟨rfl, rfl, rfl⟩
              exact AllReady.nil
            exact AllReady.nil
          exact AllReady.nil
        exact AllReady.nil
      exact AllReady.nil
    exact AllReady.nil
  refine AllReady.cons rfl (fun K hK => ?_) ?_
  · go_simp
    refine hK _ _ ?_
    clear hK K
    refine wpAny_ready (rs := [0, 2]) (by kernel_rfl) (by simp) ?_
    refine AllReady.cons rfl (fun K hK => ?_) ?_
    · go_simp
      refine hK _ _ ?_
      clear hK K
      refine wpAny_ready (rs := [2]) (by kernel_rfl) (by simp) ?_
      refine AllReady.cons rfl (fun K hK => ?_) ?_
      · go_simp
        refine hK _ _ ?_
        clear hK K
        refine wpAny_ready (rs := [3]) (by kernel_rfl) (by simp) ?_
        refine AllReady.cons rfl (fun K hK => ?_) ?_
        · go_simp
          refine hK _ _ ?_
          clear hK K
          refine wpAny_ready (rs := [4]) (by kernel_rfl) (by simp) ?_
          refine AllReady.cons rfl (fun K hK => ?_) ?_
          · go_simp
            refine hK _ _ ?_
            clear hK K
            refine wpAny_ready (rs := [5]) (by kernel_rfl) (by simp) ?_
            refine AllReady.cons rfl (fun K hK => ?_) ?_
            · go_simp
              refine hK _ _ ?_
              clear hK K
              refine wpAny_ready (rs := [6]) (by kernel_rfl) (by simp) ?_
              refine AllReady.cons rfl (fun K hK => ?_) ?_
              · go_simp
                go_wp2_with (go_at_call 62; refine A.out.mono ?_; rintro e w1 ⟨rfl, hw1⟩; subst w1)
                exact ⟨rfl, rfl, rfl⟩
              exact AllReady.nil
            exact AllReady.nil
          exact AllReady.nil
        exact AllReady.nil
      exact AllReady.nil
    refine AllReady.cons rfl (fun K hK => ?_) ?_
    · go_simp
      refine hK _ _ ?_
      clear hK K
      refine wpAny_ready (rs := [0, 3]) (by kernel_rfl) (by simp) ?_
      refine AllReady.cons rfl (fun K hK => ?_) ?_
      · go_simp
        refine hK _ _ ?_
        clear hK K
        refine wpAny_ready (rs := [3]) (by kernel_rfl) (by simp) ?_
        refine AllReady.cons rfl (fun K hK => ?_) ?_
        · go_simp
          refine hK _ _ ?_
          clear hK K
          refine wpAny_ready (rs := [4]) (by kernel_rfl) (by simp) ?_
          refine AllReady.cons rfl (fun K hK => ?_) ?_
          · go_simp
            refine hK _ _ ?_
            clear hK K
            refine wpAny_ready (rs := [5]) (by kernel_rfl) (by simp) ?_
            refine AllReady.cons rfl (fun K hK => ?_) ?_
            · go_simp
              refine hK _ _ ?_
              clear hK K
              refine wpAny_ready (rs := [6]) (by kernel_rfl) (by simp) ?_
              refine AllReady.cons rfl (fun K hK => ?_) ?_
              · go_simp
                go_wp2_with (go_at_call 62; refine A.out.mono ?_; rintro e w1 ⟨rfl, hw1⟩; subst w1)
                exact ⟨rfl, rfl, rfl⟩
              exact AllReady.nil
            exact AllReady.nil
          exact AllReady.nil
        exact AllReady.nil
      refine AllReady.cons rfl (fun K hK => ?_) ?_
      · go_simp
        refine hK _ _ ?_
        clear hK K
        refine wpAny_ready (rs := [0, 4]) (by kernel_rfl) (by simp) ?_
        refine AllReady.cons rfl (fun K hK => ?_) ?_
        · go_simp
          refine hK _ _ ?_
          clear hK K
          refine wpAny_ready (rs := [4]) (by kernel_rfl) (by simp) ?_
          refine AllReady.cons rfl (fun K hK => ?_) ?_
          · go_simp
            refine hK _ _ ?_
            clear hK K
            refine wpAny_ready (rs := [5]) (by kernel_rfl) (by simp) ?_
            refine AllReady.cons rfl (fun K hK => ?_) ?_
            · go_simp
              refine hK _ _ ?_
              clear hK K
              refine wpAny_ready (rs := [6]) (by kernel_rfl) (by simp) ?_
              refine AllReady.cons rfl (fun K hK => ?_) ?_
              · go_simp
                go_wp2_with (go_at_call 62; refine A.out.mono ?_; rintro e w1 ⟨rfl, hw1⟩; subst w1)
                exact ⟨rfl, rfl, rfl⟩
              exact AllReady.nil
            exact AllReady.nil
          exact AllReady.nil
        refine AllReady.cons rfl (fun K hK => ?_) ?_
        · go_simp
          refine hK _ _ ?_
          clear hK K
          refine wpAny_ready (rs := [0, 5]) (by kernel_rfl) (by simp) ?_
          refine AllReady.cons rfl (fun K hK => ?_) ?_
          · go_simp
            refine hK _ _ ?_
            clear hK K
            refine wpAny_ready (rs := [5]) (by kernel_rfl) (by simp) ?_
            refine AllReady.cons rfl (fun K hK => ?_) ?_
            · go_simp
              refine hK _ _ ?_
              clear hK K
              refine wpAny_ready (rs := [6]) (by kernel_rfl) (by simp) ?_
              refine AllReady.cons rfl (fun K hK => ?_) ?_
              · go_simp
                go_wp2_with (go_at_call 62; refine A.out.mono ?_; rintro e w1 ⟨rfl, hw1⟩; subst w1)
                exact ⟨rfl, rfl, rfl⟩
              exact AllReady.nil
            exact AllReady.nil
          refine AllReady.cons rfl (fun K hK => ?_) ?_
          · go_simp
            refine hK _ _ ?_
            clear hK K
            refine wpAny_ready (rs := [0]) (by kernel_rfl) (by simp) ?_
            refine AllReady.cons rfl (fun K hK => ?_) ?_
            · go_simp
              refine hK _ _ ?_
              clear hK K
              refine wpAny_ready (rs := [6]) (by kernel_rfl) (by simp) ?_
              refine AllReady.cons rfl (fun K hK => ?_) ?_
              · go_simp
                go_wp2_with (go_at_call 62; refine A.out.mono ?_; rintro e w1 ⟨rfl, hw1⟩; subst w1)
                exact ⟨rfl, rfl, rfl⟩
              exact AllReady.nil
            exact AllReady.nil
          exact AllReady.nil
        exact AllReady.nil
      exact AllReady.nil
    exact AllReady.nil
  exact AllReady.nil

set_option maxHeartbeats 3200000 in
theorem Zeros_not (w : World) (b : Nat) (a : Option Addr) (cap : Nat) (s : RS) (m : Nat) (h : Rd w b a cap s) (he : s.e = 0) (hm : m < s.l.length) (hnz : s.l.getD m 0 ≠ 0) (hz : ∀ i, i < m → s.l.getD i 0 = 0) :
    Calls Try.prog 27 #[.pointer (some ⟨b, 0, none⟩)] w fun x w' => x = .returned (.tuple #[]) ∧ DidR w w' b a ⟨s.l, 5⟩ := by
  have hmf := mkf
  have hb0 : Below w.heap.size w (w.alloc (.cells #[.pointer (some ⟨b, 0, none⟩)] 40)).drew := ((Below.refl _ _).alloc (Nat.le_refl _) _).drew
  have hp0 : (w.alloc (.cells #[.pointer (some ⟨b, 0, none⟩)] 40)).drew.cell? ⟨w.heap.size, 0, none⟩ = some (.pointer (some ⟨b, 0, none⟩)) := by simp
  have H := hide (h.keep hb0)
  have c0 := H.out.c0
  have hlen := h.2.2.2.2.1
  have A := hide (ahead_ok _ b a cap s s.l.length H.out he (Nat.le_refl _))
  have FIN := hide (zeros_fin w _ b a cap s 5 H.out hb0 hp0)
  have HZ := hide hz
  have HNZ := hide hnz
  clear h hb0 hz hnz
  go_enter_defers Try.func27, Try.ntmps27
  go_wp2
  go_region_held3 (fun w' => w'.cell? ⟨w.heap.size, 0, none⟩ = some (.pointer (some ⟨b, 0, none⟩)) ∧ w'.cell? ⟨b, 0, none⟩ = some (.slice a s.l.length cap))
    (first | exact ⟨hp0, c0⟩)
    (first | (go_at_call 62; refine A.out.mono ?_; rintro e w1 ⟨rfl, hw1⟩; subst w1))
  generalize (w.alloc (.cells #[.pointer (some ⟨b, 0, none⟩)] 40)).drew = W at *
  clear A
  go_wp2
  go_loopw [13] (fun i wx => ∃ j : Nat, j ≤ m ∧ i = .int .i64 j ∧ wx = W) (fun i _ => m - (intOf i).toNat)
  case atStart => exact ⟨0, Nat.zero_le _, rfl, rfl⟩
  case round =>
    obtain ⟨j, hj, rfl, hw⟩ := hrel
    subst wr
    have hjl : j < s.l.length := by omega
    have hi : (j : Int) < (s.l.length : Int) := by omega
    obtain ⟨g, off, rfl, hc⟩ := H.out.2.1.at2 (j := j) hjl
    by_cases hlt : j < m
    · rw [HZ.out j hlt] at hc
      go_wp2
      go_roundw
      case rel => exact ⟨j + 1, by omega, by go_num, trivial⟩
      case measure => simp [intOf]; omega
    · obtain rfl : m = j := by omega
      have h0 := HNZ.out
      generalize s.l.getD m 0 = y at *
      have hne : ((y : Int) == 0) = false := by simp; omega
      have hne2 : ((y : Int) != 0) = true := by simp; omega
      clear h0
      go_wp2
      exact FIN.out _

theorem Zeros_any (w : World) (b : Nat) (a : Option Addr) (cap : Nat) (s : RS) (h : Rd w b a cap s) :
    Calls Try.prog 27 #[.pointer (some ⟨b, 0, none⟩)] w fun x w' => x = .returned (.tuple #[]) ∧ DidR w w' b a s.zeros := by
  unfold RS.zeros
  by_cases he : s.e = 0
  · by_cases hz : s.l.all (· == 0) = true
    · have hE : s.zerosE = 0 := by unfold RS.zerosE; rw [if_neg (by omega), if_pos hz]
      rw [hE, if_neg (by decide)]
      have := Zeros_ok w b a cap s h he (all_zero hz)
      rw [he] at this
      exact this
    · have hE : s.zerosE = 5 := by unfold RS.zerosE; rw [if_neg (by omega), if_neg hz]
      rw [hE, if_pos (by decide)]
      obtain ⟨m, h1, h2, h3⟩ := first_not (by simpa using hz)
      exact Zeros_not w b a cap s m h he h1 h2 h3
  · have hE : s.zerosE = s.e := by unfold RS.zerosE; rw [if_pos he]
    rw [hE, if_pos he]
    exact Zeros_err w b a cap s h he
end Go.Proofs.Ytlkjpljfbmploaa
