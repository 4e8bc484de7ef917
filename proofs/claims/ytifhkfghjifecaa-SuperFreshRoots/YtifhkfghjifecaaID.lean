import Derived.Test.YtifhkfghjifecaaIE
namespace Go.Proofs.Ytifhkfghjifecaa
open Go.RowKit

/-! ### which tree can be -/
def trv (t : Ro) : Value := .agg #[.int .i64 t.r, .int .i64 t.h, .int .i64 t.n]
theorem sizeTree : (Try.prog.info? 57).map (·.size) = some 3 := by kernel_rfl
def zt (t : Ro) : Bool := e3 t.r t.h t.n 0 0 0
theorem can_isF (p : Int) (t : Ro) : can p t = (zt t || (isF t.r 1 p && isF t.h 1 12 && isF t.n 1 (p * 8))) := by
  unfold can zt e3 isF
  rw [beqd, beqd, beqd, Bool.and_assoc (decide (t.r = 0))]
set_option maxHeartbeats 1600000 in
theorem canBe_any (w : World) (p k f : Int) (t : Ro) (hp : 0 ≤ p ∧ p ≤ 65536) : Calls Try.prog 60 #[plv p k f, trv t] w fun e w' => e = .returned (.bool (can p t)) ∧ Below w.heap.size w w' := by
  rw [can_isF]
  have HP := hide ((Bx.new w 63 #[.int .i64 p, .int .i64 k, .int .i64 f]).keep (al _ (.cells #[.int .i64 t.r, .int .i64 t.h, .int .i64 t.n] 57)))
  have HT : Hid (Bx ((w.alloc (.cells #[.int .i64 p, .int .i64 k, .int .i64 f] 63)).alloc (.cells #[.int .i64 t.r, .int .i64 t.h, .int .i64 t.n] 57)) 57 (w.heap.size + 1) #[.int .i64 t.r, .int .i64 t.h, .int .i64 t.n]) := by
    show Bx _ _ _ _
    have := Bx.new (w.alloc (.cells #[.int .i64 p, .int .i64 k, .int .i64 f] 63)) 57 #[.int .i64 t.r, .int .i64 t.h, .int .i64 t.n]
    rwa [size_alloc] at this
  have HL := hide (bt (al w (.cells #[.int .i64 p, .int .i64 k, .int .i64 f] 63)) (al _ (.cells #[.int .i64 t.r, .int .i64 t.h, .int .i64 t.n] 57)))
  have hsz := size_alloc w (.cells #[.int .i64 p, .int .i64 k, .int .i64 f] 63)
  have hq := eq_tree t.r t.h t.n 0 0 0
  unfold plv trv
  cases hz : zt t with
  | true =>
    unfold zt at hz
    simp only [hz] at hq
    clear hz
    go_enter Try.func60, Try.ntmps60
    go_wp2
    go_ret
    exact ⟨rfl, HL.out⟩
  | false =>
    unfold zt at hz
    simp only [hz] at hq
    clear hz
    cases h1 : isF t.r 1 p with
    | false =>
      go_enter Try.func60, Try.ntmps60
      go_wp2_with fail
      refine (isPage_any _ _ _ _ _).mono ?_
      rintro y w1 ⟨rfl, hb⟩
      have HL := hide (bt HL.out hb)
      have cA := (HT.out.keep hb).cell 1 rfl
      have cB := (HT.out.keep hb).cell 2 rfl
      have cP := (HP.out.keep hb).cell 0 rfl
      clear hb HP HT
      rw [h1]
      go_wp2_with (go_at_call 57; refine (isFrom_any _ _ _ _).mono ?_; rintro y w1 ⟨rfl, hww⟩; obtain rfl := hww.symm; first | rw [h1])
      go_ret
      exact ⟨rfl, HL.out⟩
    | true =>
      cases h2 : isF t.h 1 12 with
      | false =>
        go_enter Try.func60, Try.ntmps60
        go_wp2_with fail
        refine (isPage_any _ _ _ _ _).mono ?_
        rintro y w1 ⟨rfl, hb⟩
        have HL := hide (bt HL.out hb)
        have cA := (HT.out.keep hb).cell 1 rfl
        have cB := (HT.out.keep hb).cell 2 rfl
        have cP := (HP.out.keep hb).cell 0 rfl
        clear hb HP HT
        rw [h1]
        go_wp2_with (go_at_call 57; refine (isFrom_any _ _ _ _).mono ?_; rintro y w1 ⟨rfl, hww⟩; obtain rfl := hww.symm; first | rw [h1] | rw [h2])
        go_ret
        exact ⟨rfl, HL.out⟩
      | true =>
        cases h3 : isF t.n 1 (p * 8) with
        | false =>
          go_enter Try.func60, Try.ntmps60
          go_wp2_with fail
          refine (isPage_any _ _ _ _ _).mono ?_
          rintro y w1 ⟨rfl, hb⟩
          have HL := hide (bt HL.out hb)
          have cA := (HT.out.keep hb).cell 1 rfl
          have cB := (HT.out.keep hb).cell 2 rfl
          have cP := (HP.out.keep hb).cell 0 rfl
          clear hb HP HT
          rw [h1]
          go_wp2_with (go_at_call 57; refine (isFrom_any _ _ _ _).mono ?_; rintro y w1 ⟨rfl, hww⟩; obtain rfl := hww.symm; first | rw [h1] | rw [h2] | rw [h3])
          go_ret
          exact ⟨rfl, HL.out⟩
        | true =>
          go_enter Try.func60, Try.ntmps60
          go_wp2_with fail
          refine (isPage_any _ _ _ _ _).mono ?_
          rintro y w1 ⟨rfl, hb⟩
          have HL := hide (bt HL.out hb)
          have cA := (HT.out.keep hb).cell 1 rfl
          have cB := (HT.out.keep hb).cell 2 rfl
          have cP := (HP.out.keep hb).cell 0 rfl
          clear hb HP HT
          rw [h1]
          go_wp2_with (go_at_call 57; refine (isFrom_any _ _ _ _).mono ?_; rintro y w1 ⟨rfl, hww⟩; obtain rfl := hww.symm; first | rw [h1] | rw [h2] | rw [h3])
          go_ret
          exact ⟨rfl, HL.out⟩
theorem Ro.box (w : World) (t : Ro) : Bx (w.alloc (.cells t.cs 59)) 59 w.heap.size t.cs := Bx.new w 59 t.cs
set_option maxHeartbeats 800000 in
theorem canF_any (w : World) (g : Nat) (p k f : Int) (t : Ro) (hg : Bx w 63 g #[.int .i64 p, .int .i64 k, .int .i64 f]) (hp : 0 ≤ p ∧ p ≤ 65536) : Calls Try.prog 59 #[.agg t.cs, .pointer (some ⟨g, 0, none⟩)] w fun e w' => e = .returned (.bool (!can p t)) ∧ Below w.heap.size w w' := by
  have CB := hide fun w1 => canBe_any w1 p k f t hp
  unfold plv trv at CB
  have HA := hide (al w (.cells t.cs 59))
  have HG := hide (hg.keep HA.out)
  have HR : Hid ((w.alloc (.cells t.cs 59)).rangeAt w.heap.size 1 [.int .i64 t.r, .int .i64 t.h, .int .i64 t.n]) := World.rangeAt_of_block (Ro.box w t) 1 3
  unfold Ro.cs at *
  clear hg
  go_enter Try.func59, Try.ntmps59
  go_wp2_with (first | (refine wpList_load_row rfl 63 _ rfl g rfl 63 _ (0, 0) _ HG.out Try.underlying63 rfl sizePlan ?_) | (refine wpList_load_mid rfl 57 _ rfl w.heap.size 1 rfl _ _ HR.out Try.underlying57 rfl sizeTree ?_) | (go_at_call 60; refine (CB.out _).mono ?_; rintro y w1 ⟨rfl, hb⟩; have HL := hide (bt HA.out hb); clear hb))
  go_ret
  exact ⟨rfl, HL.out⟩
end Go.Proofs.Ytifhkfghjifecaa
