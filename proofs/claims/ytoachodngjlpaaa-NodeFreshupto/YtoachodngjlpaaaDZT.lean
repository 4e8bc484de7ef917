import Derived.Test.YtoachodngjlpaaaDZ
import Derived.Test.YtoachodngjlpaaaDV
namespace Go.Proofs.Ytoachodngjlpaaa
open Go.ChangeShapes Go.WideShapes Go.ChangeAt Go.RowKit
/-- two neighbours in memory -/
structure Tv where
  l : Pv
  r : Pv
  aS : Option Addr
  cS : Nat
  s : List Nat
  t : Bool
def Tv.cs (v : Tv) : Array Value := #[.int .i64 v.l.kind, .int .i64 v.l.level, .slice v.l.aI v.l.items.length v.l.cI, .slice v.l.aD v.l.data.length v.l.cD, .int .i64 v.l.next, .int .i64 v.r.kind, .int .i64 v.r.level, .slice v.r.aI v.r.items.length v.r.cI, .slice v.r.aD v.r.data.length v.r.cD, .int .i64 v.r.next, .slice v.aS v.s.length v.cS, .bool v.t]
def Tv.vl (v : Tv) : Value := .agg v.cs
structure Tj (w : World) (v : Tv) : Prop where
  l : Pj w v.l
  r : Pj w v.r
  b : Bs w v.aS v.s
  c : v.s.length ≤ v.cS
  n : v.s.length ≤ 140737488355264
theorem Tj.keep {w w' : World} {v : Tv} (h : Tj w v) (hb : Below w.heap.size w w') : Tj w' v := ⟨h.l.keep hb, h.r.keep hb, h.b.keep hb, h.c, h.n⟩
theorem cellsTwo : Try.prog.cellsOf 27 = 12 := by kernel_rfl
theorem cellsBool : Try.prog.cellsOf 4 = 1 := by kernel_rfl
theorem list12 {α : Type} {l : List α} (h : l.length = 12) : ∃ a0 a1 a2 a3 a4 a5 a6 a7 a8 a9 a10 a11, l = [a0, a1, a2, a3, a4, a5, a6, a7, a8, a9, a10, a11] := by
  match l, h with
  | [a0, a1, a2, a3, a4, a5, a6, a7, a8, a9, a10, a11], _ => exact ⟨a0, a1, a2, a3, a4, a5, a6, a7, a8, a9, a10, a11, rfl⟩
theorem open_two {H : Type} {enc : TypeId × Value → H} {W : World} {cs : Array Value} {d : DataW H} {p : List MemPlace}
    (h : DataW.Trod enc Try.prog W 0 (fun _ => true) true 27 (.agg cs) d p) (hd : Lit' 27 d) :
    ∃ v : Tv, cs = v.cs ∧ Tj W v := by
  obtain ⟨fuel, hf⟩ := h
  obtain ⟨y0, y1, y2, y3, n, hx, hl, h0, h1, h2, h3⟩ := trod_struct4 Try.underlying27 hf
  have hd' : d = .agg [y0.1, y1.1, y2.1, y3.1] := hx
  have w0 : Lit' 25 y0.1 := by
    rcases hd with hd | hd
    · refine .inl fun x hx => hd x ?_
      rw [hd']
      simp only [DataW.weights, Try.underlying27, List.map_cons, List.map_nil, DataW.weightsEach, List.mem_append]
      simp [hx]
    · refine .inr ?_
      rw [hd'] at hd
      simp only [Rows.uptoBulk, Rows.uptoBulkAll] at hd
      omega
  have w1 : Lit' 25 y1.1 := by
    rcases hd with hd | hd
    · refine .inl fun x hx => hd x ?_
      rw [hd']
      simp only [DataW.weights, Try.underlying27, List.map_cons, List.map_nil, DataW.weightsEach, List.mem_append]
      simp [hx]
    · refine .inr ?_
      rw [hd'] at hd
      simp only [Rows.uptoBulk, Rows.uptoBulkAll] at hd
      omega
  have w2 : Lit' 23 y2.1 := by
    rcases hd with hd | hd
    · refine .inl fun x hx => hd x ?_
      rw [hd']
      simp only [DataW.weights, Try.underlying27, List.map_cons, List.map_nil, DataW.weightsEach, List.mem_append]
      simp [hx]
    · refine .inr ?_
      rw [hd'] at hd
      simp only [Rows.uptoBulk, Rows.uptoBulkAll] at hd
      omega
  obtain ⟨c0, c1, c2, c3, c4, c5, c6, c7, c8, c9, c10, c11, ec⟩ := list12 (hl.trans cellsTwo)
  simp only [ec, cellsBytes, cellsBool, cellsPage, List.drop_zero, List.drop_succ_cons, List.take_succ_cons, List.take_zero] at h0 h1 h2 h3
  obtain ⟨b, eb, _⟩ := DataW.trod_bool Try.underlying4 h3
  obtain ⟨P, e0, p0, p1, p2, p3⟩ := open_page7 (d := y0.1) (p := y0.2) h0 w0
  obtain ⟨Q, e1, q0, q1, q2, q3⟩ := open_page7 (d := y1.1) (p := y1.2) h1 w1
  obtain ⟨a, l, q, e2, b2, n2, m2, _⟩ := open_bytes_cs (d := y2.1) (p := y2.2) h2 w2
  simp only [List.cons.injEq, and_true] at eb e2
  subst eb e2
  simp only [Pv.cs, List.cons.injEq, and_true] at e0 e1
  obtain ⟨rfl, rfl, rfl, rfl, rfl⟩ := e0
  obtain ⟨rfl, rfl, rfl, rfl, rfl⟩ := e1
  refine ⟨⟨P, Q, a, q, l, b⟩, ?_, ⟨p0, p1, p2, p3⟩, ⟨q0, q1, q2, q3⟩, b2, m2, by dsimp only; omega⟩
  have ec2 : cs.toList = _ := ec
  rw [← Array.toArray_toList (xs := cs), ec2]
  rfl
end Go.Proofs.Ytoachodngjlpaaa
