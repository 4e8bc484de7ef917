import Derived.Test.YtbhigodjbfoeoaaGreatWpVM
namespace Go.Proofs.YtbhigodjbfoeoaaGreat
/-- a value, its real and its point as bits -/
structure VV where
  kind : Int
  bool : Bool
  int : Int
  real : Nat
  re : Nat
  im : Nat
  text : ByteArray
/-- a text's bytes -/
def tl (s : ByteArray) : List Nat := s.data.toList.map UInt8.toNat
def lt (l : List Nat) : ByteArray := ⟨(l.map UInt8.ofNat).toArray⟩
structure VV.ok (v : VV) : Prop where
  k0 : -9223372036854775808 ≤ v.kind
  k1 : v.kind ≤ 9223372036854775807
  i0 : -9223372036854775808 ≤ v.int
  i1 : v.int ≤ 9223372036854775807
  r : v.real < 18446744073709551616
  re : v.re < 18446744073709551616
  im : v.im < 18446744073709551616
  t : v.text.size ≤ 140737488355328
def VV.zero : VV := ⟨0, false, 0, 0, 0, 0, ByteArray.empty⟩
def VV.valid (v : VV) : Bool :=
  decide (0 ≤ v.kind) && decide (v.kind ≤ 5) && (decide (v.kind = 1) || !v.bool) && (decide (v.kind = 2) || decide (v.int = 0)) && (decide (v.kind = 3) || decide (v.real = 0)) &&
    (decide (v.kind = 4) || decide (v.re = 0) && decide (v.im = 0)) && (decide (v.kind = 5) || decide (v.text.size = 0))
def VV.same (v : VV) : VV := if v.valid then { v with real := one v.real, re := one v.re, im := one v.im } else VV.zero
def cmpBool (a b : Bool) : Int := if a = b then 0 else if b then -1 else 1
/-- the order of values -/
def VV.cmp (a b : VV) : Int :=
  if cmpZ a.kind b.kind ≠ 0 then cmpZ a.kind b.kind
  else if a.kind = 1 then cmpBool a.bool b.bool
  else if a.kind = 2 then cmpZ a.int b.int
  else if a.kind = 3 then cmpZ (rank a.real) (rank b.real)
  else if a.kind = 4 then (if cmpZ (rank a.re) (rank b.re) ≠ 0 then cmpZ (rank a.re) (rank b.re) else cmpZ (rank a.im) (rank b.im))
  else if a.kind = 5 then cmpB (tl a.text) (tl b.text)
  else 0
/-- a text's bytes as they are laid -/
def esc : List Nat → List Nat
  | [] => []
  | x :: l => if x = 0 then 0 :: 255 :: esc l else x :: esc l
/-- how many bytes an int has -/
def iw (x : Int) : Nat := if 0 ≤ x then wd x.toNat else wd (-1 - x).toNat
/-- an int as bits -/
def ub (x : Int) : Nat := (x % 18446744073709551616).toNat
/-- the bytes of a value -/
def VV.bytes (v : VV) : List Nat :=
  if v.kind = 0 then [1]
  else if v.kind = 1 then [if v.bool then 3 else 2]
  else if v.kind = 2 then (if 0 ≤ v.int then 32 + iw v.int else 31 - iw v.int) :: hb (ub v.int) (iw v.int)
  else if v.kind = 3 then 48 :: hb (rank v.real) 8
  else if v.kind = 4 then 56 :: (hb (rank v.re) 8 ++ hb (rank v.im) 8)
  else if v.kind = 5 then 64 :: (esc (tl v.text) ++ [0])
  else []
/-- the bytes of values -/
def enc (l : List VV) : List Nat := (l.map VV.bytes).flatten
end Go.Proofs.YtbhigodjbfoeoaaGreat
