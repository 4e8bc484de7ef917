import Derived.Test.YtmfelkncomfipaaDWC
import Derived.Test.YtmfelkncomfipaaDZT
namespace Go.Proofs.Ytmfelkncomfipaa
set_option linter.unusedVariables false
set_option linter.unusedSimpArgs false
open Go.RowKit
/-- an item in rows of bytes -/
structure Yo (W : World) (y : Iv) : Prop where
  k : Rw W y.aK y.cK y.key
  v : Rw W y.aV y.cV y.val
  k8 : B8 y.key
  v8 : B8 y.val
  nc : N64 y.child
  ns : N64 y.size
theorem Yo.ii {W : World} {y : Iv} (h : Yo W y) : Ii W y := ⟨h.k.bs h.k8 h.k.len_le, h.k.cap, h.v.bs h.v8 h.v.len_le, h.v.cap, h.nc, h.ns⟩
theorem Yo.keep {W W' : World} {y : Iv} (h : Yo W y) (hb : Below W.heap.size W W') : Yo W' y := ⟨h.k.keep hb, h.v.keep hb, h.k8, h.v8, h.nc, h.ns⟩
theorem Yo.grown {W1 W2 : World} {a : Option Addr} {c : Nat} {L : List Iv} {y : Iv} (h : Yo W1 y) (hJ : Jw W1 a c L) (hg : W1.grownBy W2 (a.map Addr.block)) : Yo W2 y :=
  ⟨h.k.but (hJ.butg hg) (fun _ hx ⟨_, hy, e⟩ => hJ.ne h.k hy hx e), h.v.but (hJ.butg hg) (fun _ hx ⟨_, hy, e⟩ => hJ.ne h.v hy hx e), h.k8, h.v8, h.nc, h.ns⟩
def jl (kind : Int) (R : List Iv) (s : List Nat) : List It := (if kind = 2 then ((R.getD 0 Iv.zero).it).keyed s else (R.getD 0 Iv.zero).it) :: (R.drop 1).map Iv.it
theorem jl_len {kind : Int} {R : List Iv} {s : List Nat} (h : 1 ≤ R.length) : (jl kind R s).length = R.length := by
  simp only [jl, List.length_cons, List.length_map, List.length_drop]; omega
theorem jl_at {kind : Int} {R : List Iv} {s : List Nat} {k : Nat} (hk : k < R.length) : (jl kind R s).getD k It.zero = if k = 0 ∧ kind = 2 then ((R.getD 0 Iv.zero).it).keyed s else (R.getD k Iv.zero).it := by
  unfold jl
  cases k with
  | zero =>
    rw [List.getD_cons_zero]
    by_cases h : kind = 2 <;> simp [h]
  | succ k =>
    rw [List.getD_cons_succ, it_getD, if_neg (by omega)]
    simp [Nat.add_comm]
theorem jl_take {kind : Int} {R : List Iv} {s : List Nat} {k : Nat} (hk : k < R.length) : (jl kind R s).take (k + 1) = (jl kind R s).take k ++ [(jl kind R s).getD k It.zero] := by
  have h : k < (jl kind R s).length := by rw [jl_len (by omega)]; exact hk
  rw [List.take_succ_eq_append_getElem h]; simp [h]
end Go.Proofs.Ytmfelkncomfipaa
