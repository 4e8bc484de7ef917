import Derived.Test.YtoachodngjlpaaaDT
import Derived.Test.YtoachodngjlpaaaDU
import Derived.Test.YtoachodngjlpaaaDZR
namespace Go.Proofs.Ytoachodngjlpaaa
set_option linter.unusedVariables false
set_option linter.unusedSimpArgs false
open Go.RowKit
theorem Bl.keep {w w' : World} {a : Option Addr} {T : List Br} (h : Bl w a T) (hb : Below w.heap.size w w') : Bl w' a T :=
  ⟨fun j hj => by
    obtain ⟨b, off, e, hc⟩ := h.c j hj
    exact ⟨b, off, e, (hb.cell (p := ⟨b, off + j, none⟩) (block_lt_of_cell hc)).trans hc⟩, fun t ht => ⟨(h.r t ht).1.keep hb, (h.r t ht).2⟩⟩
theorem br_mem {T : List Br} {i : Nat} (h : i < T.length) : T.getD i Br0 ∈ T := by simp [h]
/-- a page that came in -/
structure Pj (w : World) (p : Pv) : Prop where
  i : Pi w p
  d : p.data.length ≤ 140737488355264
  n : p.items.length ≤ 2199023255488
  s : Sml p.items
theorem Pj.keep {w w' : World} {p : Pv} (h : Pj w p) (hb : Below w.heap.size w w') : Pj w' p := ⟨h.i.keep hb, h.d, h.n, h.s⟩
theorem Sp.pj {w W W' : World} {p q : Pv} (h : Sp w W p q) (hp : Pj W' p) : Pj W q := by
  have e1 : q.items.map Iv.it = p.items.map Iv.it := congrArg Pg.items h.e
  have e2 : q.data = p.data := congrArg Pg.data h.e
  refine ⟨h.pi hp.i (by have := hp.n; omega), by rw [e2]; exact hp.d, by rw [h.len]; exact hp.n, fun r hr => ?_⟩
  have hm : r.it ∈ p.items.map Iv.it := by rw [← e1]; exact List.mem_map_of_mem hr
  obtain ⟨x, hx, ex⟩ := List.mem_map.1 hm
  have k := hp.s x hx
  have a1 : x.key = r.key := congrArg It.key ex
  have a2 : x.val = r.val := congrArg It.val ex
  rw [← a1, ← a2]
  exact k
end Go.Proofs.Ytoachodngjlpaaa
