import Derived.Test.YtdngdcjjhabfiabGreatPOC
import Derived.Test.YtdngdcjjhabfiabGreatPMX
import Derived.Test.YtdngdcjjhabfiabGreatPI
import Derived.Test.YtdngdcjjhabfiabGreatPSX
namespace Go.Proofs.YtdngdcjjhabfiabGreat
open Go.RowKit

theorem results_cell_two {P : Program} {fn : Func} {p q r : Tmp} {ty : TypeId} (h : fn.results = #[.cell p ty, .tmp q, .tmp r]) (tmps : Array Value) (w : World) (g : Nat) (t : TypeId) (cs : Array Value) (fr : Nat × Nat) (d : TypeDesc)
    (hp : tmps.getD p undef = .pointer (some ⟨g, 0, none⟩)) (hg : w.heap[g]? = some (.cells cs t fr))
    (hu : P.underlying ty = some d) (hd : (match d with | .struct _ | .array _ _ => true | _ => false) = true) (hi : (P.info? ty).map (·.size) = some cs.size) :
    (results fn tmps).run P w = .ok (.tuple #[.agg cs, tmps.getD q undef, tmps.getD r undef]) w := by
  have hp' : tmps[p]?.getD undef = .pointer (some ⟨g, 0, none⟩) := by simpa using hp
  simp [results, h, hp', asAddr, run_loadVar_row w g t ty cs fr d hg hu hd hi]
theorem beqn (a b : Nat) : (((a : Nat) : Int) == ((b : Nat) : Int)) = decide (a = b) := by rw [beqd, decide_eq_decide]; omega
theorem get_all {p : List Nat} (h : p.length = 4) : ((⟨p, 0⟩ : RS).get 4).1 = numV p := by
  rw [get_cut (by omega), List.take_of_length_le (by omega)]
set_option maxRecDepth 8000 in
set_option maxHeartbeats 1600000 in
theorem sumHolds_any (w : World) (a : Option Addr) (c : Nat) (b : List Nat) (hB : Bs w a b) (hl : b.length = 512) (hc : 512 ≤ c) :
    Calls Tryz.prog 40 #[.slice a 512 c] w fun e w' => e = .returned (.bool (decide (numV (b.drop 508) = M.of (b.take 508)))) ∧ Below w.heap.size w w' := by
  obtain ⟨bk, off, rfl, _⟩ := hB.at (j := 0) (by omega)
  have hd : (b.drop 508).length = 4 := by rw [List.length_drop]; omega
  have ht : (b.take 508).length = 508 := by rw [List.length_take]; omega
  have HD := hide (hB.drop 508)
  have HT := hide (hB.take 508)
  have NR := hide (fun c' => kNew w (some ⟨bk, off + 508, none⟩) 4 c' (b.drop 508) HD.out hd.symm (by omega) (by intro h; rw [h] at hd; simp at hd))
  have HG := hide (get_all hd)
  have OF := hide fun (w1 : World) (hb : Below w.heap.size w w1) (c' : Nat) => Of_any (some ⟨bk, off, none⟩) 508 c' (b.take 508) w1 (HT.out.keep hb) ht.symm
  have h512 : (512 : Int) ≤ (c : Int) := by omega
  have h508 : (508 : Int) ≤ (c : Int) := by omega
  have hne : (c == 508) = false := by simp; omega
  have hne' : ¬ c = 508 := by omega
  have hmof : M.of (b.take 508) < 4294967296 := M.of_lt HT.out.1
  clear hB hd ht HD HT
  generalize M.of (b.take 508) = mo at *
  generalize numV (b.drop 508) = nv at *
  generalize b.drop 508 = D at *
  go_enter Tryz.func40, Tryz.ntmps40
  go_wp2_with fail
  refine (NR.out _).mono ?_
  rintro y w1 ⟨b1, rfl, hk, hb1, hbl⟩
  have T1 := hide hbl
  have HB1 := hide hb1
  have K1 := hide hk
  clear hk hb1 hbl NR
  go_wp2_with fail
  refine (kGet32 K1.out).mono ?_
  rintro y w2 ⟨rfl, hk, hb2⟩
  have T2 : Hid (Below w.heap.size w w2) := ((But.ofBelow (S := fun _ => False) T1.out).trans hb2 fun x hx e => by have := HB1.out; omega).below fun _ _ h => h
  rw [HG.out]
  clear hk hb2
  go_wp2_with fail
  refine (OF.out _ T2.out _).mono ?_
  rintro y w3 ⟨rfl, hb3⟩
  have T3 := hide (bt T2.out hb3)
  clear hb3
  go_wp2
  go_ret
  refine ⟨?_, T3.out⟩
  first | (rw [beqn]; done) | (rw [beqn]; rfl) | (refine congrArg (fun x => Ending.returned (Value.bool x)) ?_; rw [beqn])
end Go.Proofs.YtdngdcjjhabfiabGreat
