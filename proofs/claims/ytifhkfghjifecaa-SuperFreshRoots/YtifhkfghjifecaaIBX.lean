import Derived.Test.YtifhkfghjifecaaNC
import Derived.Test.YtifhkfghjifecaaIR
import Derived.Laws.StructEq
namespace Go.Proofs.Ytifhkfghjifecaa
open Go.RowKit

/-! ### the layout -/
def isF (x a b : Int) : Bool := decide (a ≤ x) && decide (x ≤ b)
set_option maxHeartbeats 400000 in
theorem isFrom_any (w : World) (x a b : Int) : Calls Try.prog 57 #[.int .i64 x, .int .i64 a, .int .i64 b] w fun e w' => e = .returned (.bool (isF x a b)) ∧ w' = w := by
  unfold isF
  by_cases h1 : a ≤ x
  · have h1' : decide (a ≤ x) = true := by simpa using h1
    go_enter Try.func57, Try.ntmps57
    go_wp2
    go_ret
    exact ⟨by simp [h1], rfl⟩
  · have h1' : decide (a ≤ x) = false := by simpa using h1
    go_enter Try.func57, Try.ntmps57
    go_wp2
    go_ret
    exact ⟨by simp, rfl⟩
theorem mayB_isF (b c r : Int) : mayB b c r = (isF b 8 65536 && isF c 1 16 && isF r 2 65535) := rfl
def cfv (b c r : Int) : Value := .agg #[.int .i64 b, .int .i64 c, .int .i64 r]
def plv (p k f : Int) : Value := .agg #[.int .i64 p, .int .i64 k, .int .i64 f]
set_option maxHeartbeats 800000 in
theorem mayBe_any (w : World) (b c r : Int) : Calls Try.prog 46 #[cfv b c r] w fun e w' => e = .returned (.bool (mayB b c r)) ∧ Below w.heap.size w w' := by
  rw [mayB_isF]
  have HA := hide (al w (.cells #[.int .i64 b, .int .i64 c, .int .i64 r] 25))
  unfold cfv
  cases h1 : isF b 8 65536 with
  | false =>
    go_enter Try.func46, Try.ntmps46
    go_wp2_with (go_at_call 57; refine (isFrom_any _ _ _ _).mono ?_; rintro y w1 ⟨rfl, hww⟩; obtain rfl := hww.symm; first | rw [h1])
    go_ret
    exact ⟨rfl, HA.out⟩
  | true =>
    cases h2 : isF c 1 16 with
    | false =>
      go_enter Try.func46, Try.ntmps46
      go_wp2_with (go_at_call 57; refine (isFrom_any _ _ _ _).mono ?_; rintro y w1 ⟨rfl, hww⟩; obtain rfl := hww.symm; first | rw [h1] | rw [h2])
      go_ret
      exact ⟨rfl, HA.out⟩
    | true =>
      cases h3 : isF r 2 65535 with
      | false =>
        go_enter Try.func46, Try.ntmps46
        go_wp2_with (go_at_call 57; refine (isFrom_any _ _ _ _).mono ?_; rintro y w1 ⟨rfl, hww⟩; obtain rfl := hww.symm; first | rw [h1] | rw [h2] | rw [h3])
        go_ret
        exact ⟨rfl, HA.out⟩
      | true =>
        go_enter Try.func46, Try.ntmps46
        go_wp2_with (go_at_call 57; refine (isFrom_any _ _ _ _).mono ?_; rintro y w1 ⟨rfl, hww⟩; obtain rfl := hww.symm; first | rw [h1] | rw [h2] | rw [h3])
        go_ret
        exact ⟨rfl, HA.out⟩
set_option maxHeartbeats 400000 in
theorem pagesIn_any (w : World) (b : Int) (h : 8 ≤ b) (h' : b ≤ 65536) : Calls Try.prog 63 #[.int .i64 (b - 2)] w fun e w' => e = .returned (.int .i64 (pgs b)) ∧ w' = w := by
  have HP : Hid (pgs b = (b - 2) / 242 * 240 + max ((b - 2) % 242 - 2) 0) := rfl
  generalize pgs b = P at *
  have h1 : (b - 2).tdiv 242 = (b - 2) / 242 := Int.tdiv_eq_ediv_of_nonneg (by omega)
  have h2 : (b - 2).tmod 242 = (b - 2) % 242 := Int.tmod_eq_emod_of_nonneg (by omega)
  have H2 := hide h2
  have h3 : 0 ≤ (b - 2) / 242 ∧ (b - 2) / 242 ≤ 270 := by omega
  have h4 : 0 ≤ (b - 2) % 242 ∧ (b - 2) % 242 < 242 := by omega
  clear h h'
  go_enter Try.func63, Try.ntmps63
  go_wp2
  · go_ret
    exact ⟨by rw [HP.out, ← H2.out]; first | rfl | (refine congrArg Ending.returned (congrArg (Value.int IntKind.i64) ?_); omega), rfl⟩
  · go_ret
    exact ⟨by rw [HP.out, ← H2.out]; first | rfl | (refine congrArg Ending.returned (congrArg (Value.int IntKind.i64) ?_); omega), rfl⟩
set_option maxHeartbeats 400000 in
theorem Blocks_any (w : World) (p : Int) (h1 : 1 ≤ p) (hp : p ≤ 65536) : Calls Try.prog 64 #[.int .i64 p] w fun e w' => e = .returned (.int .i64 ((p + 239) / 240)) ∧ w' = w := by
  have HN : Hid ((p - 1) / 240 + 1 = (p + 239) / 240) := by show _ = _; omega
  have ht : (p - 1).tdiv 240 = (p - 1) / 240 := Int.tdiv_eq_ediv_of_nonneg (by omega)
  have hb : 0 ≤ (p - 1) / 240 ∧ (p - 1) / 240 ≤ 273 := by omega
  have h1' : ¬ p < 1 := by omega
  generalize (p + 239) / 240 = N at *
  go_enter Try.func64, Try.ntmps64
  go_wp2
  go_ret
  exact ⟨by rw [← HN.out]; rfl, rfl⟩
theorem sizePlan : (Try.prog.info? 63).map (·.size) = some 3 := by kernel_rfl
theorem sizeCfg : (Try.prog.info? 25).map (·.size) = some 3 := by kernel_rfl
set_option maxHeartbeats 800000 in
theorem layout_any (w : World) (b : Int) (h : 8 ≤ b) (h' : b ≤ 65536) : Calls Try.prog 47 #[.int .i64 b] w fun e w' => e = .returned (plv (pgs b) (bnk b) (fsb b)) ∧ Below w.heap.size w w' := by
  have PI := hide fun w1 => pagesIn_any w1 b h h'
  have hp := pgs_in h h'
  have BL := hide fun w1 => Blocks_any w1 (pgs b) hp.1 (by omega)
  have hk := bnk_in h h'
  have HA := hide (al w (.cells #[.int .i64 0, .int .i64 0, .int .i64 0] 63))
  have HX := hide (Bx.new w 63 #[.int .i64 0, .int .i64 0, .int .i64 0])
  unfold plv fsb
  rw [show (pgs b + 239) / 240 = bnk b from rfl] at BL
  generalize pgs b = P at *
  generalize bnk b = K at *
  go_enter Try.func47, Try.ntmps47
  go_wp2_with (first | (go_at_call 63; refine (PI.out _).mono ?_; rintro y w1 ⟨rfl, hww⟩; obtain rfl := hww.symm) | (go_at_call 64; refine (BL.out _).mono ?_; rintro y w1 ⟨rfl, hww⟩; obtain rfl := hww.symm) | (refine wpList_store_row rfl 63 _ _ rfl w.heap.size _ rfl rfl 63 _ HX.out sizePlan rfl (by simp [Value.oneCell']) ?_))
  refine bodyPost_ret (v := .agg #[.int .i64 P, .int .i64 K, .int .i64 (2 + 2 * K)]) (results_cell_row Try.results47 _ _ w.heap.size 63 _ (0, 0) _ rfl (setRow_heap _ _ _ _ _ _ HX.out) Try.underlying63 rfl sizePlan) rfl ⟨rfl, ?_⟩
  exact below_setRow HA.out (Nat.le_refl _) _
end Go.Proofs.Ytifhkfghjifecaa

namespace Go.Proofs.Ytifhkfghjifecaa
open Go.RowKit

theorem results_cell_one {P : Program} {fn : Func} {p q : Tmp} {ty : TypeId} (h : fn.results = #[.cell p ty, .tmp q]) (tmps : Array Value) (w : World) (g : Nat) (t : TypeId) (cs : Array Value) (fr : Nat × Nat) (d : TypeDesc)
    (hp : tmps.getD p undef = .pointer (some ⟨g, 0, none⟩)) (hg : w.heap[g]? = some (.cells cs t fr))
    (hu : P.underlying ty = some d) (hd : (match d with | .struct _ | .array _ _ => true | _ => false) = true) (hi : (P.info? ty).map (·.size) = some cs.size) :
    (results fn tmps).run P w = .ok (.tuple #[.agg cs, tmps.getD q undef]) w := by
  have hp' : tmps[p]?.getD undef = .pointer (some ⟨g, 0, none⟩) := by simpa using hp
  simp [results, h, hp', asAddr, run_loadVar_row w g t ty cs fr d hg hu hd hi]
def z3 : Array Value := #[.int .i64 0, .int .i64 0, .int .i64 0]
def cf3 (x y z : Int) : Array Value := #[.int .i64 x, .int .i64 y, .int .i64 z]
/-- what Plan answers -/
def plA (b c r : Int) : Value := if mayB b c r = true then plv (pgs b) (bnk b) (fsb b) else plv 0 0 0
def plE (b c r : Int) : Int := if mayB b c r = true then 0 else 1
set_option maxHeartbeats 800000 in
theorem Plan_any (w : World) (b c r : Int) : Calls Try.prog 25 #[cfv b c r] w fun e w' => e = .returned (.tuple #[plA b c r, .int .i64 (plE b c r)]) ∧ Below w.heap.size w w' := by
  unfold plA plE
  have MB := hide fun w1 => mayBe_any w1 b c r
  unfold cfv at MB
  have HC := hide ((Bx.new w 25 (cf3 b c r)).keep (al _ (.cells z3 63)))
  have HP : Hid (Bx ((w.alloc (.cells (cf3 b c r) 25)).alloc (.cells z3 63)) 63 (w.heap.size + 1) z3) := by
    show Bx _ _ _ _
    have := Bx.new (w.alloc (.cells (cf3 b c r) 25)) 63 z3
    rwa [size_alloc] at this
  have HL := hide (bt (al w (.cells (cf3 b c r) 25)) (al _ (.cells z3 63)))
  have hsz := size_alloc w (.cells (cf3 b c r) 25)
  unfold cf3 z3 at *
  unfold cfv
  cases hm : mayB b c r with
  | false =>
    rw [hm] at MB
    clear hm
    go_enter Try.func25, Try.ntmps25
    go_wp2_with (first | (refine wpList_load_row rfl 25 _ rfl w.heap.size rfl 25 _ (0, 0) _ HC.out Try.underlying25 rfl sizeCfg ?_) | (go_at_call 46; refine (MB.out _).mono ?_; rintro y w1 ⟨rfl, hb⟩; have HP := hide (HP.out.keep hb); have HL := hide (bt HL.out hb); clear hb HC MB) | (refine wpList_store_row rfl 63 _ _ rfl (w.heap.size + 1) _ rfl rfl 63 _ HP.out sizePlan rfl (by simp [Value.oneCell']) ?_))
    refine bodyPost_ret (v := .tuple #[.agg _, _]) (results_cell_one Try.results25 _ _ (w.heap.size + 1) 63 _ (0, 0) _ rfl (setRow_heap _ _ _ _ _ _ HP.out) Try.underlying63 rfl sizePlan) rfl ⟨rfl, ?_⟩
    exact below_setRow HL.out (by omega) _
  | true =>
    obtain ⟨⟨h1, h2⟩, _⟩ := mayB_iff.1 hm
    have LY := hide fun w1 => layout_any w1 b h1 h2
    unfold plv at *
    rw [hm] at MB
    clear hm h1 h2
    generalize pgs b = PG at *
    generalize bnk b = BK at *
    generalize fsb b = FB0 at *
    go_enter Try.func25, Try.ntmps25
    go_wp2_with (first | (refine wpList_load_row rfl 25 _ rfl w.heap.size rfl 25 _ (0, 0) _ HC.out Try.underlying25 rfl sizeCfg ?_) | (go_at_call 46; refine (MB.out _).mono ?_; rintro y w1 ⟨rfl, hb⟩; have HP := hide (HP.out.keep hb); have HL := hide (bt HL.out hb); have cB := (HC.out.keep hb).cell 0 rfl; clear hb HC MB) | (go_at_call 47; refine (LY.out _).mono ?_; rintro y w2 ⟨rfl, hb⟩; have HP := hide (HP.out.keep hb); have HL := hide (bt HL.out hb); clear hb LY) | (refine wpList_store_row rfl 63 _ _ rfl (w.heap.size + 1) _ rfl rfl 63 _ HP.out sizePlan rfl (by simp [Value.oneCell']) ?_))
    refine bodyPost_ret (v := .tuple #[.agg _, _]) (results_cell_one Try.results25 _ _ (w.heap.size + 1) 63 _ (0, 0) _ rfl (setRow_heap _ _ _ _ _ _ HP.out) Try.underlying63 rfl sizePlan) rfl ⟨rfl, ?_⟩
    exact below_setRow HL.out (by omega) _
set_option maxHeartbeats 400000 in
theorem isPage_any (w : World) (p k f x : Int) : Calls Try.prog 73 #[plv p k f, .int .i64 x] w fun e w' => e = .returned (.bool (isF x 1 p)) ∧ Below w.heap.size w w' := by
  have HA := hide (al w (.cells #[.int .i64 p, .int .i64 k, .int .i64 f] 63))
  unfold plv
  go_enter Try.func73, Try.ntmps73
  go_wp2_with (go_at_call 57; refine (isFrom_any _ _ _ _).mono ?_; rintro y w1 ⟨rfl, hww⟩; obtain rfl := hww.symm)
  go_ret
  exact ⟨rfl, HA.out⟩
end Go.Proofs.Ytifhkfghjifecaa
