import Derived.Test.YtbobnfjbbablkabZE
import Derived.Laws.ResultCell
namespace Go.Proofs.Ytbobnfjbbablkab
open Go.RowKit

/-- a range in memory -/
structure Rv where
  aL : Option Addr
  cL : Nat
  lo : List Nat
  aH : Option Addr
  cH : Nat
  hi : List Nat
  op : Bool
def Rv.cs (r : Rv) : Array Value := #[.slice r.aL r.lo.length r.cL, .slice r.aH r.hi.length r.cH, .bool r.op]
def Rv.val (r : Rv) : Value := .agg r.cs
def Rv.rg (r : Rv) : Rg := ⟨r.lo, r.hi, r.op⟩
structure Ri (w : World) (r : Rv) : Prop where
  bl : Bs w r.aL r.lo
  cl : r.lo.length ≤ r.cL
  bh : Bs w r.aH r.hi
  ch : r.hi.length ≤ r.cH
theorem Ri.keep {w w' : World} {r : Rv} (h : Ri w r) (hb : Below w.heap.size w w') : Ri w' r := ⟨h.bl.keep hb, h.cl, h.bh.keep hb, h.ch⟩
theorem Ri.b8 {w : World} {r : Rv} (h : Ri w r) : r.rg.b8 := ⟨h.bl.1, h.bh.1⟩
theorem sizeRange : (Try.prog.info? 24).map (·.size) = some 3 := by kernel_rfl
/-- a range of the call's own -/
structure Ro (w wx : World) (r : Rv) : Prop where
  l : Own w wx r.aL r.cL r.lo
  h : Own w wx r.aH r.cH r.hi
  apart : ∀ x y, r.aL = some x → r.aH = some y → x.block ≠ y.block
  l8 : B8 r.lo
  h8 : B8 r.hi
theorem Rw.cap {w : World} {a : Option Addr} {cap : Nat} {l : List Nat} (h : Rw w a cap l) : l.length ≤ cap := by
  rcases h.cases with ⟨_, rfl, rfl⟩ | ⟨g, cur, _, _, h1, _⟩
  · exact Nat.le_refl _
  · exact h1
theorem Ro.keep {w wx wy : World} {r : Rv} (h : Ro w wx r) (hb : Below wx.heap.size wx wy) : Ro w wy r := ⟨h.l.keep hb, h.h.keep hb, h.apart, h.l8, h.h8⟩
theorem Ro.pre {w w0 wx : World} {r : Rv} (hb : Below w.heap.size w w0) (h : Ro w0 wx r) : Ro w wx r := ⟨Own.pre hb h.l, Own.pre hb h.h, h.apart, h.l8, h.h8⟩
theorem Own.bs {w wx : World} {a : Option Addr} {cap : Nat} {l : List Nat} (h : Own w wx a cap l) (h8 : B8 l) : Bs wx a l := h.r.bs h8 h.r.len_le
theorem Ro.ri {w wx : World} {r : Rv} (h : Ro w wx r) : Ri wx r := ⟨h.l.bs h.l8, h.l.r.cap, h.h.bs h.h8, h.h.r.cap⟩

set_option maxHeartbeats 1600000 in
theorem Has_any (w : World) (r : Rv) (a : Option Addr) (n c : Nat) (k : List Nat) (hR : Ri w r) (hK : Bs w a k) (hn : n = k.length) :
    Calls Try.prog 12 #[r.val, .slice a n c] w fun e w' => e = .returned (.bool (has r.rg k)) ∧ Below w.heap.size w w' := by
  subst hn
  obtain ⟨aL, cL, lo, aH, cH, hi, op⟩ := r
  have KE := hide fun w1 => isKey_any w1 a k.length c k rfl
  have C1 := hide fun w1 (hb : Below w.heap.size w w1) => sCompare_any w1 a aL k.length c lo.length cL k lo (hK.keep hb) (hR.bl.keep hb) rfl rfl
  have C2 := hide fun w1 (hb : Below w.heap.size w w1) => sCompare_any w1 a aH k.length c hi.length cH k hi (hK.keep hb) (hR.bh.keep hb) rfl rfl
  clear hR hK
  unfold Rv.val Rv.cs has Rv.rg
  dsimp only
  generalize cmpB k lo = z1 at *
  generalize cmpB k hi = z2 at *
  cases hk : isK k with
  | false =>
    rw [hk] at KE
    clear hk
    go_enter Try.func12, Try.ntmps12
    go_wp2_with fail
    refine (KE.out _).mono ?_
    rintro e w1 ⟨rfl, hw⟩
    obtain rfl := hw.symm
    go_wp2
    go_ret
    exact ⟨by simp, al _ _⟩
  | true =>
    rw [hk] at KE
    clear hk
    by_cases h1 : 0 ≤ z1
    · cases op with
      | true =>
        go_enter Try.func12, Try.ntmps12
        go_wp2_with fail
        refine (KE.out _).mono ?_
        rintro e w1 ⟨rfl, hw⟩
        obtain rfl := hw.symm
        go_wp2_with fail
        refine (C1.out _ (al _ _)).mono ?_
        rintro e w1 ⟨rfl, hw⟩
        obtain rfl := hw.symm
        go_wp2
        go_ret
        exact ⟨by simp [h1], al _ _⟩
      | false =>
        go_enter Try.func12, Try.ntmps12
        go_wp2_with fail
        refine (KE.out _).mono ?_
        rintro e w1 ⟨rfl, hw⟩
        obtain rfl := hw.symm
        go_wp2_with fail
        refine (C1.out _ (al _ _)).mono ?_
        rintro e w1 ⟨rfl, hw⟩
        obtain rfl := hw.symm
        go_wp2_with fail
        refine (C2.out _ (al _ _)).mono ?_
        rintro e w1 ⟨rfl, hw⟩
        obtain rfl := hw.symm
        go_wp2
        go_ret
        exact ⟨by simp [h1], al _ _⟩
    · go_enter Try.func12, Try.ntmps12
      go_wp2_with fail
      refine (KE.out _).mono ?_
      rintro e w1 ⟨rfl, hw⟩
      obtain rfl := hw.symm
      go_wp2_with fail
      refine (C1.out _ (al _ _)).mono ?_
      rintro e w1 ⟨rfl, hw⟩
      obtain rfl := hw.symm
      go_wp2
      go_ret
      exact ⟨by simp; omega, al _ _⟩
end Go.Proofs.Ytbobnfjbbablkab
