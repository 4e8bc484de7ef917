import Derived.Test.YtoachodngjlpaaaDZ
import Derived.BigRegion
import Derived.BigQuiet
import Derived.Deep.QuietTactic
import Derived.Laws.BitsAllLaws
import Derived.Laws.Cover3
import Derived.Defers
import Derived.Recover
import Derived.Deep.RegionWith
import Derived.Lib.AppendZerosOnto
import Derived.Deep.RegionLaw
import Derived.Deep.RegionHeld3
import Derived.Deep.MidRow
import Derived.Laws.ResultCell
import Derived.Laws.MakeOwn
import Derived.Stop.BytesEq
import Derived.Laws.StructEq
import Derived.ProofKit
import Derived.OpenShut
import Derived.ShutString
import Derived.ChangeOld
import Derived.Deep.Slices
import Derived.SizedLaws
import Derived.JoinedCond
namespace Go.Proofs.Ytoachodngjlpaaa
set_option linter.unusedVariables false
section
open Go.RowKit
def Br0 : Br := ⟨none, 0, []⟩
structure Bl (w : World) (a : Option Addr) (T : List Br) : Prop where
  c : ∀ j, j < T.length → ∃ b off, a = some ⟨b, off, none⟩ ∧ w.cell? ⟨b, off + j, none⟩ = some (bv (T.getD j Br0))
  r : ∀ t ∈ T, Bs w t.a t.l ∧ t.l.length ≤ t.c
end
section
open Go.ChangeShapes Go.WideShapes Go.ChangeAt Go.RowKit
theorem bytesList : Try.prog.bytesOf 23 = 24 := by kernel_rfl
set_option maxRecDepth 100000 in
/-- lists of bytes that came in -/
theorem open_rows {H : Type} {enc : TypeId × Value → H} {W : World} {a : Option Addr} {len cap : Nat} {d : DataW H} {p : List MemPlace}
    (h : DataW.Trod enc Try.prog W 0 (fun _ => true) true 33 (.slice a len cap) d p) (hd : Lit' 33 d) :
    ∃ T : List Br, len = T.length ∧ Bl W a T ∧ T.length ≤ 5864062014634 ∧ ∀ t ∈ T, t.l.length + 64 ≤ 140737488355328 := by
  obtain ⟨fuel, hf⟩ := h
  rcases Deep.open_slice Try.underlying33 hf with ⟨hcs, _⟩ | ⟨x, l, c, m, n, D, Pl, hcs, _, hl, hm, hmm, hx, hrows⟩
  · simp only [Value.cells, List.cons.injEq, and_true, Value.slice.injEq] at hcs
    obtain ⟨rfl, rfl, rfl⟩ := hcs
    exact ⟨[], rfl, ⟨fun j hj => absurd hj (Nat.not_lt_zero _), by simp⟩, by simp, by simp⟩
  · simp only [Value.cells, List.cons.injEq, and_true, Value.slice.injEq] at hcs
    obtain ⟨rfl, rfl, rfl⟩ := hcs
    simp only [Prod.mk.injEq] at hx
    obtain ⟨rfl, _⟩ := hx
    simp only [if_true] at hmm
    subst hmm
    have hlen : len ≤ 5864062014634 := by
      rcases hd with hd | hd
      · have h2 := hd _ (by simp only [DataW.weights, Try.underlying33, List.mem_cons]; exact .inl rfl)
        rw [List.length_map, List.length_range, bytesList] at h2
        unfold reachBytes at h2
        omega
      · simp only [Rows.uptoBulk] at hd
        have h1 := bulk_length ((List.range len).map D)
        rw [List.length_map, List.length_range] at h1
        omega
    by_cases h0 : len = 0
    · subst h0
      exact ⟨[], rfl, ⟨fun j hj => absurd hj (Nat.not_lt_zero _), by simp⟩, by simp, by simp⟩
    · have hmemD : ∀ r, r < len → D r ∈ (List.range len).map D := fun r hr => List.mem_map.2 ⟨r, List.mem_range.2 hr, rfl⟩
      have hbD : ∀ r, r < len → Lit' 23 (D r) := fun r hr => by
        rcases hd with hd | hd
        · refine .inl fun x hx => hd x ?_
          simp only [DataW.weights, Try.underlying33, List.mem_cons, List.mem_append]
          exact .inr (.inl (weightsAll_mem (hmemD r hr) x hx))
        · have h1 := bulk_mem (hmemD r hr)
          simp only [Rows.uptoBulk] at hd
          exact .inr (by omega)
      obtain ⟨b, off, spot⟩ := x
      have hspot : spot = none := by
        obtain ⟨cs, hc, ht⟩ := hrows 0 (by omega)
        obtain ⟨a0, l0, c0, rfl, _⟩ := open_bytes_cs ht (hbD 0 (by omega))
        generalize hk : (0 : Nat) = k0 at hc
        rw [cellsBytes] at hc
        obtain ⟨_, _, hce⟩ := World.cells?_some hc
        have e0 := (hce 0 (by decide)).trans (show [Value.slice a0 l0.length c0][0]? = some (.slice a0 l0.length c0) from rfl)
        have hs0 := World.cell?_spot e0
        subst hk
        simpa [Addr.add] using hs0
      subst hspot
      have each : ∀ r, r < len → ∃ v : Br, W.cell? ⟨b, off + r, none⟩ = some (bv v) ∧ (Bs W v.a v.l ∧ v.l.length ≤ v.c) ∧ v.l.length + 64 ≤ 140737488355328 := by
        intro r hr
        obtain ⟨cs, hc, ht⟩ := hrows r (by omega)
        obtain ⟨a0, l0, c0, rfl, h1, h2, h3, _⟩ := open_bytes_cs ht (hbD r hr)
        rw [cellsBytes] at hc
        obtain ⟨_, _, hce⟩ := World.cells?_some hc
        have h := hce 0 (by omega)
        rw [Deep.add_add, Addr.add_mid, Nat.mul_one, Nat.add_zero] at h
        exact ⟨⟨a0, c0, l0⟩, h.trans rfl, ⟨h1, h3⟩, h2⟩
      haveI : Inhabited Br := ⟨Br0⟩
      obtain ⟨F, hF⟩ := Deep.choose_lt each
      have hget : ∀ r, r < len → ((List.range len).map F).getD r Br0 = F r := fun r hr => by simp [hr]
      have hlenL : ((List.range len).map F).length = len := by simp
      refine ⟨(List.range len).map F, hlenL.symm, ⟨fun r hr => ?_, fun v hv => ?_⟩, by rw [hlenL]; exact hlen, fun v hv => ?_⟩
      · rw [hlenL] at hr
        exact ⟨b, off, rfl, by rw [hget r hr]; exact (hF r hr).1⟩
      · obtain ⟨r, hr, rfl⟩ := List.mem_map.1 hv
        exact (hF r (List.mem_range.1 hr)).2.1
      · obtain ⟨r, hr, rfl⟩ := List.mem_map.1 hv
        exact (hF r (List.mem_range.1 hr)).2.2
end
end Go.Proofs.Ytoachodngjlpaaa
