import Derived.Test.YtbobnfjbbablkabZJ
namespace Go.Proofs.Ytbobnfjbbablkab
open Go.RowKit

set_option maxHeartbeats 800000 in
theorem reaches_any (w : World) (r : Rv) (a : Option Addr) (n c : Nat) (k : List Nat) (hR : Ri w r) (hK : Bs w a k) (hn : n = k.length) :
    Calls Try.prog 34 #[r.val, .slice a n c] w fun e w' => e = .returned (.bool (r.op || decide (cmpB k r.hi ≤ 0))) ∧ Below w.heap.size w w' := by
  subst hn
  obtain ⟨aL, cL, lo, aH, cH, hi, op⟩ := r
  have C2 := hide fun w1 (hb : Below w.heap.size w w1) => sCompare_any w1 a aH k.length c hi.length cH k hi (hK.keep hb) (hR.bh.keep hb) rfl rfl
  clear hR hK
  unfold Rv.val Rv.cs
  dsimp only
  generalize cmpB k hi = z2 at *
  cases op with
  | true =>
    go_enter Try.func34, Try.ntmps34
    go_wp2
    go_ret
    exact ⟨by simp, al _ _⟩
  | false =>
    go_enter Try.func34, Try.ntmps34
    go_wp2_with fail
    refine (C2.out _ (al _ _)).mono ?_
    rintro e w1 ⟨rfl, hw⟩
    obtain rfl := hw.symm
    go_wp2
    go_ret
    exact ⟨by simp, al _ _⟩

def prolR (r f : Rv) : Rv := if (!r.op && (f.op || decide (cmpB r.hi f.hi < 0))) = true then ⟨r.aL, r.cL, r.lo, f.aH, f.cH, f.hi, f.op⟩ else r
set_option maxHeartbeats 1600000 in
theorem prolonged_any (w : World) (r f : Rv) (hR : Ri w r) (hF : Ri w f) :
    Calls Try.prog 35 #[r.val, f.val] w fun e w' => e = .returned (prolR r f).val ∧ Below w.heap.size w w' := by
  obtain ⟨aL, cL, lo, aH, cH, hi, op⟩ := r
  obtain ⟨bL, dL, ko, bH, dH, ki, oq⟩ := f
  have C2 := hide fun w1 (hb : Below w.heap.size w w1) => sCompare_any w1 aH bH hi.length cH ki.length dH hi ki (hR.bh.keep hb) (hF.bh.keep hb) rfl rfl
  clear hR hF
  have B3 : Hid (∀ o p q, Below w.heap.size w (((w.alloc o).alloc p).alloc q)) := fun o p q => bt (bt (al _ _) (al _ _)) (al _ _)
  cases op with
  | true =>
    have E : (prolR ⟨aL, cL, lo, aH, cH, hi, true⟩ ⟨bL, dL, ko, bH, dH, ki, oq⟩).val = Value.agg #[.slice aL lo.length cL, .slice aH hi.length cH, .bool true] := by simp [prolR, Rv.val, Rv.cs]
    rw [E]
    unfold Rv.val Rv.cs
    dsimp only
    clear C2 E
    go_enter Try.func35, Try.ntmps35
    go_wp2
    refine bodyPost_ret (v := Value.agg #[.slice aL lo.length cL, .slice aH hi.length cH, .bool true]) (by simp [results, Try.results35, go_sem]) rfl ⟨rfl, ?_⟩
    exact B3.out _ _ _
  | false =>
    cases oq with
    | true =>
      have E : (prolR ⟨aL, cL, lo, aH, cH, hi, false⟩ ⟨bL, dL, ko, bH, dH, ki, true⟩).val = Value.agg #[.slice aL lo.length cL, .slice bH ki.length dH, .bool true] := by simp [prolR, Rv.val, Rv.cs]
      rw [E]
      unfold Rv.val Rv.cs
      dsimp only
      clear C2 E
      go_enter Try.func35, Try.ntmps35
      go_wp2
      go_region
      all_goals (go_wp2; refine bodyPost_ret (v := Value.agg #[.slice aL lo.length cL, .slice bH ki.length dH, .bool true]) (by simp [results, Try.results35, go_sem]) rfl ⟨rfl, ?_⟩)
      all_goals exact (B3.out _ _ _).drew
    | false =>
      by_cases hz : cmpB hi ki < 0
      · have E : (prolR ⟨aL, cL, lo, aH, cH, hi, false⟩ ⟨bL, dL, ko, bH, dH, ki, false⟩).val = Value.agg #[.slice aL lo.length cL, .slice bH ki.length dH, .bool false] := by simp [prolR, Rv.val, Rv.cs, hz]
        rw [E]
        unfold Rv.val Rv.cs
        dsimp only
        clear E
        generalize cmpB hi ki = z at *
        go_enter Try.func35, Try.ntmps35
        go_wp2_with fail
        refine (C2.out _ (B3.out _ _ _)).mono ?_
        rintro e w1 ⟨rfl, hw⟩
        obtain rfl := hw.symm
        go_wp2
        go_region
        all_goals (go_wp2; refine bodyPost_ret (v := Value.agg #[.slice aL lo.length cL, .slice bH ki.length dH, .bool false]) (by simp [results, Try.results35, go_sem]) rfl ⟨rfl, ?_⟩)
        all_goals exact (B3.out _ _ _).drew
      · have E : (prolR ⟨aL, cL, lo, aH, cH, hi, false⟩ ⟨bL, dL, ko, bH, dH, ki, false⟩).val = Value.agg #[.slice aL lo.length cL, .slice aH hi.length cH, .bool false] := by simp [prolR, Rv.val, Rv.cs, hz]
        rw [E]
        unfold Rv.val Rv.cs
        dsimp only
        clear E
        generalize cmpB hi ki = z at *
        go_enter Try.func35, Try.ntmps35
        go_wp2_with fail
        refine (C2.out _ (B3.out _ _ _)).mono ?_
        rintro e w1 ⟨rfl, hw⟩
        obtain rfl := hw.symm
        go_wp2
        refine bodyPost_ret (v := Value.agg #[.slice aL lo.length cL, .slice aH hi.length cH, .bool false]) (by simp [results, Try.results35, go_sem]) rfl ⟨rfl, ?_⟩
        exact B3.out _ _ _
end Go.Proofs.Ytbobnfjbbablkab
