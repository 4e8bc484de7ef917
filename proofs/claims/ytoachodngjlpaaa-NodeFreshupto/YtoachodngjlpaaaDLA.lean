import Derived.Test.YtoachodngjlpaaaDLR
namespace Go.Proofs.Ytoachodngjlpaaa
set_option linter.unusedVariables false
open Go.RowKit
theorem Lend_any (w : World) (t : Bool) (l r : Pv) (aS : Option Addr) (cs : Nat) (s : List Nat) (hl : Pi w l) (hr : Pi w r) (hB : Bs w aS s) (hc : s.length ≤ cs) (hsl : s.length ≤ 140737488355264) (hd : l.data.length ≤ 140737488355264) (hd2 : r.data.length ≤ 140737488355264) (sl : Sml l.items) (sr : Sml r.items) (n1 : l.items.length ≤ 2199023255488) (n2 : r.items.length ≤ 2199023255488) :
    Calls Try.prog 12 #[l.vl, r.vl, .slice aS s.length cs, .bool t] w fun e w' => ∃ (q1 q2 : Pv) (a : Option Addr) (c : Nat), e = .returned (.tuple #[q1.vl, q2.vl, .slice a (lend l.pg r.pg s t).s.length c, .bool (lend l.pg r.pg s t).ok]) ∧ Hq w w' q1 q2 a c (lend l.pg r.pg s t).s ∧ q1.pg = (lend l.pg r.pg s t).l ∧ q2.pg = (lend l.pg r.pg s t).r := by
  cases t
  · exact Lend_left w l r aS cs s hl hr hB hc hsl hd hd2 sl sr n1 n2
  · exact Lend_right w l r aS cs s hl hr hB hc hsl hd hd2 sl sr n1 n2
end Go.Proofs.Ytoachodngjlpaaa
