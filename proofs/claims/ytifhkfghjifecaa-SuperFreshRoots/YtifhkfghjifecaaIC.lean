import Derived.Test.YtifhkfghjifecaaIB
namespace Go.Proofs.Ytifhkfghjifecaa
open Go.RowKit

theorem results_cell_one {P : Program} {fn : Func} {p q : Tmp} {ty : TypeId} (h : fn.results = #[.cell p ty, .tmp q]) (tmps : Array Value) (w : World) (g : Nat) (t : TypeId) (cs : Array Value) (fr : Nat × Nat) (d : TypeDesc)
    (hp : tmps.getD p undef = .pointer (some ⟨g, 0, none⟩)) (hg : w.heap[g]? = some (.cells cs t fr))
    (hu : P.underlying ty = some d) (hd : (match d with | .struct _ | .array _ _ => true | _ => false) = true) (hi : (P.info? ty).map (·.size) = some cs.size) :
    (results fn tmps).run P w = .ok (.tuple #[.agg cs, tmps.getD q undef]) w := by
  have hp' : tmps[p]?.getD undef = .pointer (some ⟨g, 0, none⟩) := by simpa using hp
  simp [results, h, hp', asAddr, run_loadVar_row w g t ty cs fr d hg hu hd hi]
def z3 : Array Value := #[.int .i64 0, .int .i64 0, .int .i64 0]
def cf3 (x y z : Int) : Array Value := #[.int .i64 x, .int .i64 y, .int .i64 z]
/-- what Plan answers -/
def plA (b c r : Int) : Value := if mayB b c r = true then plv (pgs b) (bnk b) (fsb b) else plv 0 0 0
def plE (b c r : Int) : Int := if mayB b c r = true then 0 else 1
set_option maxHeartbeats 800000 in
theorem Plan_any (w : World) (b c r : Int) : Calls Try.prog 25 #[cfv b c r] w fun e w' => e = .returned (.tuple #[plA b c r, .int .i64 (plE b c r)]) ∧ Below w.heap.size w w' := by
  unfold plA plE
  have MB := hide fun w1 => mayBe_any w1 b c r
  unfold cfv at MB
  have HC := hide ((Bx.new w 25 (cf3 b c r)).keep (al _ (.cells z3 63)))
  have HP : Hid (Bx ((w.alloc (.cells (cf3 b c r) 25)).alloc (.cells z3 63)) 63 (w.heap.size + 1) z3) := by
    show Bx _ _ _ _
    have := Bx.new (w.alloc (.cells (cf3 b c r) 25)) 63 z3
    rwa [size_alloc] at this
  have HL := hide (bt (al w (.cells (cf3 b c r) 25)) (al _ (.cells z3 63)))
  have hsz := size_alloc w (.cells (cf3 b c r) 25)
  unfold cf3 z3 at *
  unfold cfv
  cases hm : mayB b c r with
  | false =>
    rw [hm] at MB
    clear hm
    go_enter Try.func25, Try.ntmps25
    go_wp2_with (first | (refine wpList_load_row rfl 25 _ rfl w.heap.size rfl 25 _ (0, 0) _ HC.out Try.underlying25 rfl sizeCfg ?_) | (go_at_call 46; refine (MB.out _).mono ?_; rintro y w1 ⟨rfl, hb⟩; have HP := hide (HP.out.keep hb); have HL := hide (bt HL.out hb); clear hb HC MB) | (refine wpList_store_row rfl 63 _ _ rfl (w.heap.size + 1) _ rfl rfl 63 _ HP.out sizePlan rfl (by simp [Value.oneCell']) ?_))
    refine bodyPost_ret (v := .tuple #[.agg _, _]) (results_cell_one Try.results25 _ _ (w.heap.size + 1) 63 _ (0, 0) _ rfl (setRow_heap _ _ _ _ _ _ HP.out) Try.underlying63 rfl sizePlan) rfl ⟨rfl, ?_⟩
    exact below_setRow HL.out (by omega) _
  | true =>
    obtain ⟨⟨h1, h2⟩, _⟩ := mayB_iff.1 hm
    have LY := hide fun w1 => layout_any w1 b h1 h2
    unfold plv at *
    rw [hm] at MB
    clear hm h1 h2
    generalize pgs b = PG at *
    generalize bnk b = BK at *
    generalize fsb b = FB0 at *
    go_enter Try.func25, Try.ntmps25
    go_wp2_with (first | (refine wpList_load_row rfl 25 _ rfl w.heap.size rfl 25 _ (0, 0) _ HC.out Try.underlying25 rfl sizeCfg ?_) | (go_at_call 46; refine (MB.out _).mono ?_; rintro y w1 ⟨rfl, hb⟩; have HP := hide (HP.out.keep hb); have HL := hide (bt HL.out hb); have cB := (HC.out.keep hb).cell 0 rfl; clear hb HC MB) | (go_at_call 47; refine (LY.out _).mono ?_; rintro y w2 ⟨rfl, hb⟩; have HP := hide (HP.out.keep hb); have HL := hide (bt HL.out hb); clear hb LY) | (refine wpList_store_row rfl 63 _ _ rfl (w.heap.size + 1) _ rfl rfl 63 _ HP.out sizePlan rfl (by simp [Value.oneCell']) ?_))
    refine bodyPost_ret (v := .tuple #[.agg _, _]) (results_cell_one Try.results25 _ _ (w.heap.size + 1) 63 _ (0, 0) _ rfl (setRow_heap _ _ _ _ _ _ HP.out) Try.underlying63 rfl sizePlan) rfl ⟨rfl, ?_⟩
    exact below_setRow HL.out (by omega) _
set_option maxHeartbeats 400000 in
theorem isPage_any (w : World) (p k f x : Int) : Calls Try.prog 73 #[plv p k f, .int .i64 x] w fun e w' => e = .returned (.bool (isF x 1 p)) ∧ Below w.heap.size w w' := by
  have HA := hide (al w (.cells #[.int .i64 p, .int .i64 k, .int .i64 f] 63))
  unfold plv
  go_enter Try.func73, Try.ntmps73
  go_wp2_with (go_at_call 57; refine (isFrom_any _ _ _ _).mono ?_; rintro y w1 ⟨rfl, hww⟩; obtain rfl := hww.symm)
  go_ret
  exact ⟨rfl, HA.out⟩
end Go.Proofs.Ytifhkfghjifecaa
