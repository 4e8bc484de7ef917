import Derived.Test.YtoachodngjlpaaaDYM
import Derived.Test.YtoachodngjlpaaaDI
namespace Go.Proofs.Ytoachodngjlpaaa
set_option linter.unusedVariables false
set_option linter.unusedSimpArgs false
open Go.RowKit
/-! ### NodeFresh's first statement: what is copied, and the boxes -/
def ZP : Array Value := #[.int .i64 0, .int .i64 0, .slice none 0 0, .slice none 0 0, .int .i64 0]
def ZI : Array Value := #[.slice none 0 0, .slice none 0 0, .int .i64 0, .int .i64 0]
structure Fs (v W : World) (l r : Pv) (s : List Nat) (i : Iv) (c : Nat) (x y : Pv) (aK : Option Addr) (cK : Nat) (z : Iv) (A B C : Bool) (gA gB gC : Nat) : Prop where
  fb : Below v.heap.size v W
  fx : 1 ≤ c → Pn v W x ∧ x.pg = l.pg
  fy : 2 ≤ c → Pn v W y ∧ y.pg = r.pg
  fk : 3 ≤ c → Own v W aK cK s
  fz : 4 ≤ c → Io v W z ∧ z.it = i.it
  fA : A = true → Bx W 25 gA ZP ∧ v.heap.size ≤ gA
  fB : B = true → Bx W 25 gB ZP ∧ v.heap.size ≤ gB ∧ (A = true → gA ≠ gB)
  fC : C = true → Bx W 29 gC ZI ∧ v.heap.size ≤ gC ∧ (1 ≤ c → ∀ q, x.aI = some q → q.block ≠ gC) ∧ (2 ≤ c → ∀ q, y.aI = some q → q.block ≠ gC)
section
variable {v W W' : World} {l r : Pv} {s : List Nat} {i : Iv} {c : Nat} {x y : Pv} {aK : Option Addr} {cK : Nat} {z : Iv} {A B C : Bool} {gA gB gC : Nat}
theorem Fs.keep (h : Fs v W l r s i c x y aK cK z A B C gA gB gC) (hb : Below W.heap.size W W') : Fs v W' l r s i c x y aK cK z A B C gA gB gC :=
  ⟨bt h.fb hb, fun e => ⟨(h.fx e).1.keep hb, (h.fx e).2⟩, fun e => ⟨(h.fy e).1.keep hb, (h.fy e).2⟩, fun e => (h.fk e).keep hb, fun e => ⟨(h.fz e).1.keep hb, (h.fz e).2⟩, fun e => ⟨(h.fA e).1.keep hb, (h.fA e).2⟩, fun e => ⟨(h.fB e).1.keep hb, (h.fB e).2⟩, fun e => ⟨(h.fC e).1.keep hb, (h.fC e).2⟩⟩
theorem Fs.one (h : Fs v W l r s i 0 x y aK cK z A B C gA gB gC) {q : Pv} (hP : Pn W W' q) (he : q.pg = l.pg) (hb : Below W.heap.size W W') : Fs v W' l r s i 1 q y aK cK z A B C gA gB gC := by
  have k := h.keep hb
  refine ⟨k.fb, fun _ => ⟨hP.pre h.fb.size, he⟩, fun e => absurd e (by decide), fun e => absurd e (by decide), fun e => absurd e (by decide), k.fA, k.fB, fun e => ⟨(k.fC e).1, (k.fC e).2.1, fun _ q hq e2 => ?_, fun e => absurd e (by decide)⟩⟩
  have h1 := new_at hP.itn hq
  have h2 := (h.fC e).1.lt
  omega
theorem Fs.two (h : Fs v W l r s i 1 x y aK cK z A B C gA gB gC) {q : Pv} (hP : Pn W W' q) (he : q.pg = r.pg) (hb : Below W.heap.size W W') : Fs v W' l r s i 2 x q aK cK z A B C gA gB gC := by
  have k := h.keep hb
  refine ⟨k.fb, fun _ => k.fx (by decide), fun _ => ⟨hP.pre h.fb.size, he⟩, fun e => absurd e (by decide), fun e => absurd e (by decide), k.fA, k.fB, fun e => ⟨(k.fC e).1, (k.fC e).2.1, fun _ => (k.fC e).2.2.1 (by decide), fun _ q hq e2 => ?_⟩⟩
  have h1 := new_at hP.itn hq
  have h2 := (h.fC e).1.lt
  omega
theorem Fs.three (h : Fs v W l r s i 2 x y aK cK z A B C gA gB gC) {a : Option Addr} {c : Nat} (hO : Own W W' a c s) : Fs v W' l r s i 3 x y a c z A B C gA gB gC := by
  have k := h.keep hO.b
  exact ⟨k.fb, fun _ => k.fx (by decide), fun _ => k.fy (by decide), fun _ => Own.pre h.fb hO, fun e => absurd e (by decide), k.fA, k.fB, fun e => ⟨(k.fC e).1, (k.fC e).2.1, fun _ => (k.fC e).2.2.1 (by decide), fun _ => (k.fC e).2.2.2 (by decide)⟩⟩
theorem Fs.four (h : Fs v W l r s i 3 x y aK cK z A B C gA gB gC) {q : Iv} (hO : Io W W' q) (he : q.it = i.it) : Fs v W' l r s i 4 x y aK cK q A B C gA gB gC := by
  have k := h.keep hO.k.b
  exact ⟨k.fb, fun _ => k.fx (by decide), fun _ => k.fy (by decide), fun _ => k.fk (by decide), fun _ => ⟨Io.pre h.fb hO, he⟩, k.fA, k.fB, fun e => ⟨(k.fC e).1, (k.fC e).2.1, fun _ => (k.fC e).2.2.1 (by decide), fun _ => (k.fC e).2.2.2 (by decide)⟩⟩
theorem Fs.boxA (h : Fs v W l r s i c x y aK cK z false B C gA gB gC) : Fs v (W.alloc (.cells ZP 25)) l r s i c x y aK cK z true B C W.heap.size gB gC := by
  have k := h.keep (al W (.cells ZP 25))
  refine ⟨k.fb, k.fx, k.fy, k.fk, k.fz, fun _ => ⟨Bx.new _ _ _, h.fb.size⟩, fun e => ⟨(k.fB e).1, (k.fB e).2.1, fun _ e2 => ?_⟩, k.fC⟩
  have := (h.fB e).1.lt
  omega
theorem Fs.boxB (h : Fs v W l r s i c x y aK cK z A false C gA gB gC) : Fs v (W.alloc (.cells ZP 25)) l r s i c x y aK cK z A true C gA W.heap.size gC := by
  have k := h.keep (al W (.cells ZP 25))
  refine ⟨k.fb, k.fx, k.fy, k.fk, k.fz, k.fA, fun _ => ⟨Bx.new _ _ _, h.fb.size, fun e e2 => ?_⟩, k.fC⟩
  have := (h.fA e).1.lt
  omega
theorem Fs.boxC (h : Fs v W l r s i c x y aK cK z A B false gA gB gC) : Fs v (W.alloc (.cells ZI 29)) l r s i c x y aK cK z A B true gA gB W.heap.size := by
  have k := h.keep (al W (.cells ZI 29))
  refine ⟨k.fb, k.fx, k.fy, k.fk, k.fz, k.fA, k.fB, fun _ => ⟨Bx.new _ _ _, h.fb.size, fun e q hq e2 => ?_, fun e q hq e2 => ?_⟩⟩
  · have := (h.fx e).1.it.lt hq; omega
  · have := (h.fy e).1.it.lt hq; omega
theorem Pn.but' {S : Nat → Prop} {P : Pv} (h : Pn v W P) (hb : But S W W') (h1 : ∀ q, P.aI = some q → ¬ S q.block) (h2 : ∀ a c l q, Rw W a c l → a = some q → ¬ S q.block) : Pn v W' P :=
  ⟨h.it.but hb h1, h.itn, h.d.but hb (fun q hq => h2 _ _ _ q h.d hq), h.dn, fun t ht => ⟨(h.fr t ht).1.but hb (fun q hq => h2 _ _ _ q (h.fr t ht).1 hq), (h.fr t ht).2⟩, h.dist, h.d8, h.ns, h.nk, h.nl, h.nn⟩
structure Fe (v W : World) (l r : Pv) (s : List Nat) (i : Iv) (x y : Pv) (aK : Option Addr) (cK : Nat) (z : Iv) (gA gB gC : Nat) : Prop where
  eb : Below v.heap.size v W
  ex : Pn v W x ∧ x.pg = l.pg
  ey : Pn v W y ∧ y.pg = r.pg
  ek : Own v W aK cK s
  ez : Io v W z ∧ z.it = i.it
  eA : Bx W 25 gA x.cs
  eB : Bx W 25 gB y.cs
  eC : Bx W 29 gC z.cs
theorem Fe.keep (h : Fe v W l r s i x y aK cK z gA gB gC) (hb : Below W.heap.size W W') : Fe v W' l r s i x y aK cK z gA gB gC :=
  ⟨bt h.eb hb, ⟨h.ex.1.keep hb, h.ex.2⟩, ⟨h.ey.1.keep hb, h.ey.2⟩, h.ek.keep hb, ⟨h.ez.1.keep hb, h.ez.2⟩, h.eA.keep hb, h.eB.keep hb, h.eC.keep hb⟩
theorem Fs.store (h : Fs v W l r s i 4 x y aK cK z true true true gA gB gC) : Bx (W.setRow gA x.cs) 25 gB ZP ∧ Bx ((W.setRow gA x.cs).setRow gB y.cs) 29 gC ZI ∧ Below v.heap.size v (W.setRow gA x.cs) ∧ Below v.heap.size v ((W.setRow gA x.cs).setRow gB y.cs) ∧ Fe v (((W.setRow gA x.cs).setRow gB y.cs).setRow gC z.cs) l r s i x y aK cK z gA gB gC := by
  obtain ⟨a1, a2⟩ := h.fA rfl
  obtain ⟨b1, b2, b3⟩ := h.fB rfl
  obtain ⟨c1, c2, c3, c4⟩ := h.fC rfl
  have nAB := b3 rfl
  have nCA : gC ≠ gA := fun e => by
    have h1 : some _ = some _ := c1.symm.trans (by rw [e]; exact a1)
    simp at h1
  have nCB : gC ≠ gB := fun e => by
    have h1 : some _ = some _ := c1.symm.trans (by rw [e]; exact b1)
    simp at h1
  have B1 : Bx (W.setRow gA x.cs) 25 gB ZP := row_far _ b1 (Ne.symm nAB)
  have C1 : Bx (W.setRow gA x.cs) 29 gC ZI := row_far _ c1 nCA
  have C2 : Bx ((W.setRow gA x.cs).setRow gB y.cs) 29 gC ZI := row_far _ C1 nCB
  have A1 : Bx (W.setRow gA x.cs) 25 gA x.cs := setRow_heap _ _ _ _ _ _ a1
  have A2 : Bx ((W.setRow gA x.cs).setRow gB y.cs) 25 gA x.cs := row_far _ A1 nAB
  have B2 : Bx ((W.setRow gA x.cs).setRow gB y.cs) 25 gB y.cs := setRow_heap _ _ _ _ _ _ B1
  have L1 := below_row x.cs h.fb a2
  have L2 := below_row y.cs L1 b2
  refine ⟨B1, C2, L1, L2, below_row z.cs L2 c2, ?_, ?_, ?_, ?_, row_far _ A2 (Ne.symm nCA), row_far _ B2 (Ne.symm nCB), setRow_heap _ _ _ _ _ _ C2⟩
  · refine ⟨?_, (h.fx (by decide)).2⟩
    exact (((h.fx (by decide)).1.row a1 (by decide) (by decide) x.cs).row B1 (by decide) (by decide) y.cs).but' (but_setRow _ gC _) (fun q hq e => c3 (by decide) q hq e) (fun a c l q hr hq e => hr.nty C2 (by decide) hq e)
  · refine ⟨?_, (h.fy (by decide)).2⟩
    exact (((h.fy (by decide)).1.row a1 (by decide) (by decide) x.cs).row B1 (by decide) (by decide) y.cs).but' (but_setRow _ gC _) (fun q hq e => c4 (by decide) q hq e) (fun a c l q hr hq e => hr.nty C2 (by decide) hq e)
  · have k := h.fk (by decide)
    exact ⟨((k.r.but (but_setRow _ gA _) (fun q hq e => k.r.nty a1 (by decide) hq e)).but (but_setRow _ gB _) (fun q hq e => (k.r.but (but_setRow _ gA _) (fun q hq e => k.r.nty a1 (by decide) hq e)).nty B1 (by decide) hq e)).but (but_setRow _ gC _) (fun q hq e => ((k.r.but (but_setRow _ gA _) (fun q hq e => k.r.nty a1 (by decide) hq e)).but (but_setRow _ gB _) (fun q hq e => (k.r.but (but_setRow _ gA _) (fun q hq e => k.r.nty a1 (by decide) hq e)).nty B1 (by decide) hq e)).nty C2 (by decide) hq e), k.n, below_row z.cs L2 c2⟩
  · have RW : ∀ {a c l}, Rw W a c l → Rw (((W.setRow gA x.cs).setRow gB y.cs).setRow gC z.cs) a c l := fun {a c l} k => ((k.but (but_setRow _ gA _) (fun q hq e => k.nty a1 (by decide) hq e)).but (but_setRow _ gB _) (fun q hq e => (k.but (but_setRow _ gA _) (fun q hq e => k.nty a1 (by decide) hq e)).nty B1 (by decide) hq e)).but (but_setRow _ gC _) (fun q hq e => ((k.but (but_setRow _ gA _) (fun q hq e => k.nty a1 (by decide) hq e)).but (but_setRow _ gB _) (fun q hq e => (k.but (but_setRow _ gA _) (fun q hq e => k.nty a1 (by decide) hq e)).nty B1 (by decide) hq e)).nty C2 (by decide) hq e)
    obtain ⟨k, e⟩ := h.fz (by decide)
    exact ⟨⟨⟨RW k.k.r, k.k.n, below_row z.cs L2 c2⟩, ⟨RW k.v.r, k.v.n, below_row z.cs L2 c2⟩, k.apart, k.k8, k.v8⟩, e⟩
end
end Go.Proofs.Ytoachodngjlpaaa
