import Derived.Test.YtkhdbeambmfdfabQ
import Derived.Test.YtkhdbeambmfdfabT
import Derived.WalkKit
import Derived.ProofKit
import Derived.OpenShut
import Derived.ShutString
import Derived.ChangeOld
import Derived.Below
namespace Go.Proofs.Ytkhdbeambmfdfab.sumOwn
open Go.ChangeShapes Go.WideShapes Go.ChangeAt Go.RowKit
open Go.ChangeMaps (open_string shut_string)
set_option linter.unusedVariables false

theorem bytes4 (y : Nat) (hy : y < 4294967296) : #[Value.int IntKind.u8 ((y : Int) % 256), Value.int IntKind.u8 ((y : Int) / 256 % 256), Value.int IntKind.u8 ((y : Int) / 65536 % 256), Value.int IntKind.u8 ((y : Int) / 16777216)]
    = bc [y % 256, y / 256 % 256, y / 65536 % 256, y / 16777216 % 256] := by
  have e : y / 16777216 % 256 = y / 16777216 := Nat.mod_eq_of_lt (by omega)
  rw [e]
  simp [bc]
theorem bytes4_lt (y : Nat) : ∀ x ∈ [y % 256, y / 256 % 256, y / 65536 % 256, y / 16777216 % 256], x < 256 := by
  intro x hx
  simp only [List.mem_cons, List.not_mem_nil, or_false] at hx
  omega
set_option maxHeartbeats 800000 in
theorem walk (a0 : Option Addr) (len0 cap0 : Nat) (z0 : List Int) (w : World) (w0 : IsRow .u8 w a0 len0 cap0 z0) (s0 : cap0 ≤ 140737488351232) :
    Calls Try.prog 8 #[.slice a0 len0 cap0] w fun e w' => e = .returned (.bool true) ∧ Below w.heap.size w w' := by
  obtain ⟨l, rfl, hB, hlen, hcap⟩ := isrow_bs w0
  have hl4 : l.length + 4 ≤ 140737488355328 := by omega
  have HO : Hid (M.of (l ++ [M.of l % 256, M.of l / 256 % 256, M.of l / 65536 % 256, M.of l / 16777216 % 256]) = 1214729159) := M.own_sum l hB.1
  have hy : M.of l < 4294967296 := M.of_lt hB.1
  have HF := hide fun W (hB : Bs W a0 l) => Of_any a0 l.length cap0 l W hB rfl
  clear w0 hcap hlen
  generalize M.of l = y at *
  go_enter Try.func8, Try.ntmps8
  go_wp2_with fail
  refine (HF.out _ hB).mono ?_
  rintro e w1 ⟨rfl, hb1⟩
  go_wp2_with fail
  refine (fixed_any _).mono ?_
  rintro e w2 ⟨rfl, hb2⟩
  go_wp2_with fail
  have b2 := bt hb1 hb2
  have hBl := (hB.keep b2).keep ((Below.refl _ w2).alloc (Nat.le_refl _) (.cells (bc [y % 256, y / 256 % 256, y / 65536 % 256, y / 16777216 % 256]) 5))
  have hB4 := Bs_row (heap_alloc_new w2 (.cells (bc [y % 256, y / 256 % 256, y / 65536 % 256, y / 16777216 % 256]) 5)) (bytes4_lt y) (by simp)
  rw [bytes4 y hy]
  refine (joined_any a0 _ l.length 4 cap0 4 l [y % 256, y / 256 % 256, y / 65536 % 256, y / 16777216 % 256] _ hBl hB4 rfl rfl hl4).mono ?_
  rintro e w3 ⟨v, rfl, hown, hb3⟩
  obtain ⟨a, cap, hv, hBs, _⟩ := hown.bs (fun x hx => by
    rcases List.mem_append.1 hx with h | h
    · exact hB.1 x h
    · exact bytes4_lt y x h) (by rw [List.length_append]; simp; omega)
  rw [hv]
  have HF2 := hide (Of_any a _ cap _ w3 hBs rfl)
  rw [HO.out] at HF2
  have b3 := bt (bt b2 ((Below.refl _ w2).alloc (Nat.le_refl _) (.cells (bc [y % 256, y / 256 % 256, y / 65536 % 256, y / 16777216 % 256]) 5))) hb3
  clear hown hBs hBl hB4 hv hb1 hb2 hb3 b2 HO HF hB hl4
  generalize (l ++ [y % 256, y / 256 % 256, y / 65536 % 256, y / 16777216 % 256]).length = n4 at *
  go_wp2_with fail
  refine HF2.out.mono ?_
  rintro e w4 ⟨rfl, hb4⟩
  go_wp2
  go_ret
  exact ⟨rfl, bt b3 hb4⟩

set_option maxRecDepth 100000 in
theorem lifted (os : Os) (started : os.Started) (H : Type) (enc : TypeId × Value → H) :
    ReturnsInHanded {} Try.checked os 8 .any (Rows.sumOwnSpec.pre6 enc Try.prog Try.f8 Rows.sumOwnRow.domain false) (Rows.sumOwnSpec.post enc Try.prog Try.f8 false true false false) := by
  refine returnsInHanded_of_change_sized (C := Try.checked) own started (by kernel_rfl) Try.func8
    (ChangeSpec.witness6 (enc := enc) (C := Try.checked) false ⟨#[], #[.slice none 0 0], []⟩ 8 (by kernel_rfl) (by kernel_rfl) (by kernel_rfl) (by kernel_rfl)) ?_
  intro W base args ds gs before hval0 hW hcnd hsz0 _
  have hsz : (DataW.weightsEach Try.prog (Try.f8.params.toList ++ Rows.sumOwnSpec.plain.varTypes Try.prog) (ds ++ gs)).all (· ≤ reachBytes) = true := hsz0
  have hval : ∀ (j : Nat) t v, Try.f8.params[j]? = some t → args[j]? = some v → Value.okWide Try.prog W .any base t v := hval0
  have hW' := hW
  obtain ⟨p, q, hA0, hV, rfl, hfz, hnd⟩ := hW
  have hA : DataW.TrodAll enc Try.prog W 0 (fun _ => true) true Try.f8.params.toList args.toList ds p := hA0
  rw [Try.params8] at hA hval hsz
  obtain ⟨v0, vs0, d0, ds0, p0, q0, hargs, rfl, rfl, h0, r0⟩ := trodAll_cons hA
  obtain ⟨rfl, rfl, rfl⟩ := trodAll_nil r0
  obtain rfl : args = #[v0] := by cases args; simp_all
  obtain ⟨rfl, rfl⟩ := trodVars_none hV
  obtain ⟨a0, len0, cap0, rfl⟩ := okWide_slice Try.underlying23 (hval 0 23 v0 rfl rfl)
  have k0 := h0
  have lt0 : ∀ x ∈ p0, x.block < W.heap.size := by obtain ⟨m, hm⟩ := k0; exact DataW.trod_lt m _ _ _ hm
  obtain ⟨z0, w0, s0⟩ := open_bytes h0 (fun el sp e => by subst e; exact sized_slice hsz (j := 0) (t := 23) (e := 5) rfl rfl Try.underlying23)
  clear hA0 hval0
  refine (walk a0 len0 cap0 z0 W w0 s0).mono fun e W' ⟨he, bel⟩ => ?_
  subst he
  exact ⟨_, rfl, _, _, _, [], _, [], hW', trodAll_mk1 (shut_bool Try.underlying4 _), (trodAll_cons_mk (Below.trod laidOut (by kernel_rfl) (of_decide_eq_true (by kernel_rfl)) k0 bel lt0) trodAll_mk0), rfl, bel.frame _, fun h => by cases h⟩

theorem over : Rows.sumOwnRow.holds Try.pinned (OpenSpec.ofChange Rows.sumOwnSpec) :=
  OpenClaim.holds_of_wide 8 Try.f8 rfl rfl rfl rfl rfl rfl rfl ⟨rfl, rfl, rfl, rfl, rfl⟩ rfl rfl rfl rfl rfl (by kernel_rfl) Try.func8 (by kernel_rfl)
    (of_decide_eq_true (by kernel_rfl)) (by unfold Func.isWrapper; first | (rw [if_pos (by decide +kernel)]; kernel_rfl) | (rw [if_neg (by decide +kernel)]; exact ⟨rfl, rfl⟩))
    (fun os started H enc _ => lifted os started H enc)

theorem proved : Rows.SumOwnSaid := over
end Go.Proofs.Ytkhdbeambmfdfab.sumOwn
namespace Go.Proofs.Ytkhdbeambmfdfab
theorem sumOwn_holds : Rows.SumOwnSaid := sumOwn.proved
#print axioms sumOwn_holds
end Go.Proofs.Ytkhdbeambmfdfab
