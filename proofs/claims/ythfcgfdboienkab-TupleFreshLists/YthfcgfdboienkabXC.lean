import Derived.Test.YthfcgfdboienkabXB
import Derived.Test.YthfcgfdboienkabVL
import Derived.Laws.CopyOwn
namespace Go.Proofs.Ythfcgfdboienkab
open Go.RowKit

theorem encR_lt (L : List VV) (hL : ∀ v ∈ L, v.ok) : (∀ x ∈ (encR L).1, x < 256) ∧ (encR L).1.length ≤ 4096 := by
  unfold encR
  split
  · split
    · rename_i h
      refine ⟨fun x hx => ?_, h⟩
      unfold enc at hx
      obtain ⟨b, hb, hx⟩ := List.mem_flatten.1 hx
      obtain ⟨v, hv, rfl⟩ := List.mem_map.1 hb
      exact bytes_lt (hL v hv) x hx
    · exact ⟨fun x hx => (List.not_mem_nil hx).elim, Nat.zero_le _⟩
  · exact ⟨fun x hx => (List.not_mem_nil hx).elim, Nat.zero_le _⟩
theorem encR_err (L : List VV) : (encR L).2 = 0 ∨ ((encR L).2 = 4 ∨ (encR L).2 = 22) ∧ (encR L).1 = [] := by
  unfold encR
  split
  · split
    · exact .inl rfl
    · exact .inr ⟨.inl rfl, rfl⟩
  · exact .inr ⟨.inr rfl, rfl⟩
theorem results_cell_tmp {P : Program} {fn : Func} {p q : Tmp} {ty : TypeId} (h : fn.results = #[.cell p ty, .tmp q]) (tmps : Array Value) (w : World) (g : Nat) (t : TypeId) (cs : Array Value) (fr : Nat × Nat) (d : TypeDesc)
    (hp : tmps.getD p undef = .pointer (some ⟨g, 0, none⟩)) (hg : w.heap[g]? = some (.cells cs t fr))
    (hu : P.underlying ty = some d) (hd : (match d with | .struct _ | .array _ _ => true | _ => false) = true) (hi : (P.info? ty).map (·.size) = some cs.size) :
    (results fn tmps).run P w = .ok (.tuple #[.agg cs, tmps.getD q undef]) w := by
  have hp' : tmps[p]?.getD undef = .pointer (some ⟨g, 0, none⟩) := by simpa using hp
  simp [results, h, hp', asAddr, run_loadVar_row w g t ty cs fr d hg hu hd hi]
theorem sizeRange : (Try.prog.info? 39).map (·.size) = some 3 := by kernel_rfl
theorem Own.pre {w w0 wx : World} {a : Option Addr} {cap : Nat} {l : List Nat} (hb : Below w.heap.size w w0) (h : Own w0 wx a cap l) : Own w wx a cap l := ⟨h.r, h.n.mono hb.size, bt hb h.b⟩
theorem Own.fresh {w wx : World} {a : Option Addr} {cap : Nat} {l : List Nat} (h : Own w wx a cap l) {x : Addr} (hx : a = some x) : w.heap.size ≤ x.block := by
  rcases h.n x hx with ⟨y, hy, _⟩ | h
  · cases hy
  · exact h
theorem Own.setRow {w wx : World} {a : Option Addr} {cap : Nat} {l : List Nat} (h : Own w wx a cap l) {g : Nat} (hg : w.heap.size ≤ g) (hn : ∀ x, a = some x → x.block ≠ g) (cs : Array Value) : Own w (wx.setRow g cs) a cap l :=
  ⟨h.r.but (S := fun k => k = g) ⟨rfl, rfl, rfl, by simp, fun k _ hk => setRow_other _ _ _ _ (by simpa using hk)⟩ (fun x hx e => hn x hx e), h.n, below_setRow h.b hg cs⟩
set_option maxHeartbeats 1600000 in
theorem tBegin_any (w : World) (a : Option Addr) (n cap : Nat) (L : List VV) (hP : Ps w a L) (hn : n = L.length) :
    Calls Try.prog 16 #[.slice a n cap] w fun e w' => ∃ a1 c1 a2 c2 Hi, e = .returned (.tuple #[.agg #[.slice a1 (encR L).1.length c1, .slice a2 (List.length Hi) c2, .bool false], .int .i64 (encR L).2]) ∧ Own w w' a1 c1 (encR L).1 ∧ Own w w' a2 c2 Hi ∧ Hi = (if (encR L).2 = 0 then (encR L).1 ++ [255] else []) ∧ (∀ x y, a1 = some x → a2 = some y → x.block ≠ y.block) := by
  have EN := hide (tEncode_any (w.alloc (.cells #[.slice none 0 0, .slice none 0 0, .bool false] 39)) a n cap L (hP.keep (al _ _)) hn)
  have hlt := encR_lt L hP.1
  have her := encR_err L
  clear hP hn
  generalize (encR L).1 = l at *
  generalize (encR L).2 = c at *
  rcases her with rfl | ⟨hc, rfl⟩
  · go_enter Try.func16, Try.ntmps16
    go_wp2_with fail
    refine EN.out.mono ?_
    rintro e w1 ⟨a1, c1, rfl, h1⟩
    have CL := hide (Clone_any w1 a1 l.length c1 l (h1.r.bs hlt.1 (by omega)) rfl (by omega))
    have H1 := hide h1
    have M0 := hide ((h1.b.block w.heap.size (by rw [size_alloc]; omega)).trans (heap_alloc_new _ _))
    have S1 : Hid (w.heap.size < w1.heap.size) := by have := h1.b.size; rw [size_alloc] at this; show _ < _; omega
    have HLT := hide hlt
    clear h1 hlt EN
    go_wp2_with fail
    refine CL.out.mono ?_
    rintro e w2 ⟨a2, c2, rfl, r2, n2, b2⟩
    have O2 : Hid (Own w1 w2 a2 c2 l) := ⟨r2, n2, b2⟩
    clear r2 n2 b2
    go_wp2_with (first | (at_builtin; refine wpList_ap1 rfl _ _ rfl a2 l.length c2 l rfl rfl (O2.out.r.keep (al _ _)) ⟨w2.heap.size, 0, none⟩ 1 255 rfl ?c1 (by have := HLT.out.2; omega) ?_))
    try case c1 => simp
    intro g3 cap3 w3 hR hN hg _
    have O3 := hide (O2.out.step (Apd.ofGrown (al _ _) hR hN hg))
    have M3 := hide ((O3.out.b.block w.heap.size S1.out).trans M0.out)
    clear hR hN hg
    go_wp2_with (refine wpList_store_row rfl 39 _ _ rfl w.heap.size _ rfl rfl 39 _ M3.out sizeRange rfl (by simp [Value.oneCell']) ?_)
    refine bodyPost_ret (v := .tuple #[.agg _, _]) (results_cell_tmp Try.results16 _ _ w.heap.size 39 _ (0, 0) _ rfl (setRow_heap _ _ _ _ _ _ M3.out) Try.underlying39 rfl sizeRange) rfl ?_
    refine ⟨a1, c1, some ⟨g3, 0, none⟩, cap3, l ++ [255], by simp, ?_, ?_, by first | rfl | rw [if_pos rfl] | simp, ?_⟩
    · refine (Own.pre (al _ _) (H1.out.keep O3.out.b)).setRow (Nat.le_refl _) (fun x hx e => ?_) _
      have := H1.out.fresh hx
      rw [size_alloc] at this
      omega
    · refine (Own.pre (bt (al _ _) H1.out.b) O3.out).setRow (Nat.le_refl _) (fun x hx e => ?_) _
      have := O3.out.fresh hx
      have := S1.out
      omega
    · intro x y hx hy e
      have h1 := H1.out.r.lt hx
      have h2 := O3.out.fresh hy
      omega
  · have hc0 : (c == 0) = false := eqf (by omega)
    go_enter Try.func16, Try.ntmps16
    go_wp2_with fail
    refine EN.out.mono ?_
    rintro e w1 ⟨a1, c1, rfl, h1⟩
    have H1 := hide h1
    have M0 := hide ((h1.b.block w.heap.size (by rw [size_alloc]; omega)).trans (heap_alloc_new _ _))
    clear h1 hlt EN
    go_wp2_with (refine wpList_store_row rfl 39 _ _ rfl w.heap.size _ rfl rfl 39 _ M0.out sizeRange rfl (by simp [Value.oneCell']) ?_)
    refine bodyPost_ret (v := .tuple #[.agg _, _]) (results_cell_tmp Try.results16 _ _ w.heap.size 39 _ (0, 0) _ rfl (setRow_heap _ _ _ _ _ _ M0.out) Try.underlying39 rfl sizeRange) rfl ?_
    refine ⟨none, 0, none, 0, [], rfl, Own.nil w (below_setRow (bt (al _ _) H1.out.b) (Nat.le_refl _) _), Own.nil w (below_setRow (bt (al _ _) H1.out.b) (Nat.le_refl _) _), by first | rfl | rw [if_neg (by omega)], fun x y hx => by cases hx⟩
end Go.Proofs.Ythfcgfdboienkab
