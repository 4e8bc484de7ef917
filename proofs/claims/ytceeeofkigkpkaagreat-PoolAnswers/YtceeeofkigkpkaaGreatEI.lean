import Derived.Test.YtceeeofkigkpkaaGreatEA
import Derived.Deep.RegionHeld3
import Derived.Deep.QuietTactic
import Derived.Laws.ResultCell
import Derived.Laws.MakeOwn
import Derived.Deep.OwnRows
import Derived.Deep.RegionHeldLaw
import Derived.Deep.RegionLaw
import Derived.BigRegion
import Derived.BigQuiet
import Derived.Deep.LoopGhost
import Derived.Deep.RegionWith
namespace Go.Proofs.YtceeeofkigkpkaaGreat
set_option linter.unusedVariables false
open Go.RowKit

theorem drN (w : World) (n : Nat) : Below w.heap.size w (w.drewN n) := ⟨rfl, rfl, rfl, Nat.le_refl _, fun _ _ => rfl⟩
theorem rowIs_below {w w' : World} {b : Nat} {t : TypeId} {n : Nat} {f : Nat → Value} (h : w.rowIs b t n f) (hb : Below w.heap.size w w') : w'.rowIs b t n f := h.of_block (hb.block b h.lt)
theorem rowIs_but {S : Nat → Prop} {w w' : World} {b : Nat} {t : TypeId} {n : Nat} {f : Nat → Value} (h : w.rowIs b t n f) (hb : But S w w') (hn : ¬ S b) : w'.rowIs b t n f := h.of_block (hb.block b h.lt hn)
theorem own_but {T : Nat → Prop} {w w' : World} {e s n : Nat} {a : Option Addr} {m c : Nat} {C : List Value} (h : w.ownsRow 0 e s (.slice a m c) n C) (hb : But T w w') (hn : ∀ x, a = some x → ¬ T x.block) : w'.ownsRow 0 e s (.slice a m c) n C := by
  obtain ⟨h1, h2⟩ := h
  refine ⟨h1, ?_⟩
  rcases h2 with ⟨hv, h0⟩ | ⟨g, cap', cur, hv, h3, hg, hr⟩
  · exact .inl ⟨hv, h0⟩
  · simp only [Value.slice.injEq] at hv
    exact .inr ⟨g, cap', cur, by simp only [Value.slice.injEq]; exact hv, h3, (hb.block g (Array.getElem?_eq_some_iff.1 hg).1 (hn _ hv.1)).trans hg, hr⟩
def vi (l : List Int) : List Value := l.map fun x => Value.int .i64 x
theorem vi_append (a b : List Int) : vi (a ++ b) = vi a ++ vi b := by unfold vi; rw [List.map_append]
theorem vi_length (a : List Int) : (vi a).length = a.length := by unfold vi; rw [List.length_map]
theorem vi_get (l : List Int) (i : Nat) (hi : i < l.length) : (vi l)[i]? = some (.int .i64 (l.getD i 0)) := by simp [vi, hi]
/-- numbers in a block of their own, or nil -/
def Ig (w : World) (a : Option Addr) (cap : Nat) (l : List Int) : Prop := w.ownsRow 0 3 1 (.slice a l.length cap) l.length (vi l)
theorem infoI64 : (Tryz.prog.info? 3).map (fun i => (i.zero, i.size, i.bytes)) = some (some (.int .i64 0), 1, 8) := by kernel_rfl
theorem Ig.nil (w : World) : Ig w none 0 [] := World.ownsRow_nil w 0 3 1
theorem Ig.keep {w w' : World} {a : Option Addr} {cap : Nat} {l : List Int} (h : Ig w a cap l) (hb : Below w.heap.size w w') : Ig w' a cap l := own_but (T := fun _ => False) h (But.ofBelow hb) (fun _ _ h => h)
/-- numbers that can be read -/
def Ir (w : World) (a : Option Addr) (l : List Int) : Prop := l = [] ∨ ∃ b off, a = some ⟨b, off, none⟩ ∧ ∀ i, i < l.length → w.cell? ⟨b, off + i, none⟩ = some (.int .i64 (l.getD i 0))
theorem Ir.keep {w w' : World} {a : Option Addr} {l : List Int} (h : Ir w a l) (hb : Below w.heap.size w w') : Ir w' a l := by
  rcases h with h | ⟨b, off, rfl, hc⟩
  · exact .inl h
  · exact .inr ⟨b, off, rfl, fun i hi => (hb.cell (p := ⟨b, off + i, none⟩) (block_lt_of_cell (hc i hi))).trans (hc i hi)⟩
theorem Ig.but {S : Nat → Prop} {w w' : World} {a : Option Addr} {cap : Nat} {l : List Int} (h : Ig w a cap l) (hb : But S w w') (hn : ∀ x, a = some x → ¬ S x.block) : Ig w' a cap l := own_but h hb hn
theorem Ir.at {w : World} {a : Option Addr} {l : List Int} (h : Ir w a l) {j : Nat} (hj : j < l.length) : ∃ b off, a = some ⟨b, off, none⟩ ∧ w.cell? ⟨b, off + j, none⟩ = some (.int .i64 (l.getD j 0)) := by
  rcases h with rfl | ⟨b, off, rfl, hc⟩
  · simp at hj
  · exact ⟨b, off, rfl, hc j hj⟩
theorem Ig.ir {w : World} {a : Option Addr} {cap : Nat} {l : List Int} (h : Ig w a cap l) : Ir w a l := by
  obtain ⟨_, h2⟩ := h
  rcases h2 with ⟨_, h0⟩ | ⟨g, cap', cur, hv, h3, hg, hn, hm, hs, ht⟩
  · exact .inl (List.length_eq_zero_iff.1 h0)
  · simp only [Value.slice.injEq] at hv
    obtain ⟨e1, _, rfl⟩ := hv
    refine .inr ⟨g, 0, e1, fun i hi => ?_⟩
    rw [Nat.zero_add, cell_of_row _ _ _ _ _ _ hg, ← vi_get l i hi, ← ht, List.getElem?_take, if_pos (by omega)]
    simp
/-- a number is appended -/
theorem run_apI (w : World) (ty : TypeId) (a : Option Addr) (n cap : Nat) (l : List Int) (hn : n = l.length) (hR : Ig w a cap l) (ad : Addr) (c : Nat) (x : Int) (hc : w.cell? ad = some (.int .i64 x)) (hlen : l.length + 1 ≤ 17592186044416) :
    ∃ g cap' w', (Builtin.append_ #[22, 22] ty #[.slice a n cap, .slice (some ad) 1 c]).run Tryz.prog w = .ok (.slice (some ⟨g, 0, none⟩) (n + 1) cap') w' ∧
      Ig w' (some ⟨g, 0, none⟩) cap' (l ++ [x]) ∧ New w a (some ⟨g, 0, none⟩) ∧ w.grownBy w' (a.map Addr.block) ∧ g < w'.heap.size := by
  subst hn
  obtain ⟨i0, hi, hz0, hz1, hz2⟩ := info_parts infoI64
  obtain ⟨g, cap', w', hr, h1, h2, h3, h4⟩ := run_append_lies (P := Tryz.prog) w 22 ty 0 3 i0 (.int .i64 0) 1 8 Tryz.underlying22 hi hz0 hz1 hz2 rfl (by decide) (.slice a l.length cap) l.length (vi l) hR ad 1 c [.int .i64 x] rfl
    (by intro j u hj
        match j, hj with
        | 0, hj => simp at hj; subst hj; simpa [Addr.add] using hc) (by intro u hu; simp at hu; subst hu; rfl) (by decide) (by unfold maxLen; omega) (by omega) (Nat.zero_le _) w.heap.size rfl
  rw [ob_eq] at h2 h3
  refine ⟨g, cap', w', hr, ?_, ?_, h2, h4⟩
  · unfold Ig
    rw [vi_append, List.length_append]
    exact h1
  · intro y hy
    simp only [Option.some.injEq] at hy
    subst hy
    rcases h3 with h3 | h3
    · obtain ⟨z, hz, e⟩ := map_some h3
      exact .inl ⟨z, hz, e⟩
    · exact .inr (by show _ ≤ g; omega)
theorem wp_apI {w : World} {o : Oper} {a : Act} {K : Act → World → Prop} {Q : Exit → Act → World → Prop} (s x : Operand)
    (ho : o.op = .call { callee := .builtin .append, args := #[s, x], argTypes := #[22, 22] }) (ao : Option Addr) (n cap : Nat) (l : List Int) (hs : a.eval s = .slice ao n cap) (hn : n = l.length) (hR : Ig w ao cap l)
    (ad : Addr) (c : Nat) (xx : Int) (hx : a.eval x = .slice (some ad) 1 c) (hc : w.cell? ad = some (.int .i64 xx)) (hlen : l.length + 1 ≤ 17592186044416)
    (h : ∀ g cap' w', Ig w' (some ⟨g, 0, none⟩) cap' (l ++ [xx]) → New w ao (some ⟨g, 0, none⟩) → w.grownBy w' (ao.map Addr.block) → g < w'.heap.size → K (a.put o.dst (.slice (some ⟨g, 0, none⟩) (n + 1) cap')) w') : o.wp Tryz.prog a w K Q := by
  obtain ⟨g, cap', w', hr, h1, h2, h3, h4⟩ := run_apI w o.type ao n cap l hn hR ad c xx hc hlen
  unfold Oper.wp execOp
  simp only [ho, resolve, invoke, builtin, Sem.run_bind, Sem.run_pure, Result.andThen_ok, List.map_toArray, List.map_cons, List.map_nil, hs, hx, hr]
  exact h g cap' w' h1 h2 h3 h4
theorem wpList_apI {w : World} {ops : Array Oper} {rest : List Oper} {o : Oper} {a : Act} {Q : Exit → Act → World → Prop} (hgd : o.guard = none) (s x : Operand)
    (ho : o.op = .call { callee := .builtin .append, args := #[s, x], argTypes := #[22, 22] }) (ao : Option Addr) (n cap : Nat) (l : List Int) (hs : a.eval s = .slice ao n cap) (hn : n = l.length) (hR : Ig w ao cap l)
    (ad : Addr) (c : Nat) (xx : Int) (hx : a.eval x = .slice (some ad) 1 c) (hc : w.cell? ad = some (.int .i64 xx)) (hlen : l.length + 1 ≤ 17592186044416)
    (h : ∀ g cap' w', Ig w' (some ⟨g, 0, none⟩) cap' (l ++ [xx]) → New w ao (some ⟨g, 0, none⟩) → w.grownBy w' (ao.map Addr.block) → g < w'.heap.size → wpList Tryz.prog ops Q rest (a.put o.dst (.slice (some ⟨g, 0, none⟩) (n + 1) cap')) w') : wpList Tryz.prog ops Q (o :: rest) a w :=
  wpList_plain hgd fun _ hK => wp_apI s x ho ao n cap l hs hn hR ad c xx hx hc hlen fun g cap' w' h1 h2 h3 h4 => hK _ _ (h g cap' w' h1 h2 h3 h4)
set_option maxHeartbeats 1000000 in
theorem EqInts_same (w : World) (aa ab : Option Addr) (n m ca cb : Nat) (l : List Int) (hA : Ir w aa l) (hB : Ir w ab l) (hn : n = l.length) (hm : m = l.length) (hb : l.length ≤ 17592186044415) :
    Calls Tryz.prog 9 #[.slice aa n ca, .slice ab m cb] w fun e w' => e = .returned (.bool true) ∧ Below w.heap.size w w' := by
  subst hn
  subst hm
  have HA := hide hA
  have HB := hide hB
  clear hA hB
  go_enter Tryz.func9, Tryz.ntmps9
  go_wp2
  go_loopw [5] (fun i wx => ∃ j : Nat, j ≤ l.length ∧ i = .int .i64 j ∧ (Below w.heap.size w wx)) (fun i _ => l.length - (intOf i).toNat)
  case atStart => exact ⟨0, Nat.zero_le _, rfl, Below.refl _ _⟩
  case round =>
    obtain ⟨j, hj, rfl, hG⟩ := hrel
    have HG := hide hG
    clear hG
    by_cases hlt : j < l.length
    · have hi : (j : Int) < (l.length : Int) := by omega
      obtain ⟨b1, o1, rfl, cA⟩ := (HA.out.keep HG.out).at hlt
      obtain ⟨b2, o2, rfl, cB⟩ := (HB.out.keep HG.out).at hlt
      generalize l.getD j 0 = x at *
      have q0 : (x == x) = true := by simp
      go_wp2
      go_quiet (fail)
      go_wp2
      go_roundw
      case rel => exact ⟨j + 1, by omega, by go_num, bt HG.out (drN _ _)⟩
      case measure => simp [intOf]; omega
    · obtain rfl : j = l.length := by omega
      go_wp2
      go_ret
      exact ⟨rfl, HG.out⟩
/-- a row of numbers of the call's own -/
structure IOwn (w wx : World) (a : Option Addr) (cap : Nat) (l : List Int) : Prop where
  r : Ig wx a cap l
  n : New w none a
  b : Below w.heap.size w wx
theorem IOwn.keep {w wx wy : World} {a : Option Addr} {cap : Nat} {l : List Int} (h : IOwn w wx a cap l) (hb : Below wx.heap.size wx wy) : IOwn w wy a cap l := ⟨h.r.keep hb, h.n, bt h.b hb⟩
theorem IOwn.step {w wx w1 wy : World} {a a' : Option Addr} {cap cap' : Nat} {l l' : List Int} (h : IOwn w wx a cap l) (hb : Below wx.heap.size wx w1) (hR : Ig wy a' cap' l') (hN : New w1 a a') (hg : w1.grownBy wy (a.map Addr.block)) : IOwn w wy a' cap' l' := by
  refine ⟨hR, h.n.trans hN (Nat.le_trans h.b.size hb.size), ?_⟩
  have h1 := bt h.b hb
  have hh : But (fun _ => False) w wy := (But.ofBelow h1).grown hg fun k hk hlt => by
    obtain ⟨y, hy, e⟩ := map_some hk
    rcases h.n y hy with ⟨z, hz, _⟩ | h2
    · cases hz
    · omega
  exact hh.below fun _ _ h => h
theorem Ig.cases {w : World} {a : Option Addr} {cap : Nat} {l : List Int} (h : Ig w a cap l) : (a = none ∧ cap = 0 ∧ l = []) ∨
    ∃ g cur, a = some ⟨g, 0, none⟩ ∧ w.heap[g]? = some (.cells cur 3 (0, 0)) ∧ l.length ≤ cap ∧ cap ≤ maxLen ∧ cur.size = cap ∧ cur.toList.take l.length = vi l := by
  obtain ⟨_, h2⟩ := h
  rcases h2 with ⟨hv, h0⟩ | ⟨g, cap', cur, hv, _, hg, hn, hm, hs, ht⟩
  · simp only [Value.slice.injEq] at hv
    exact .inl ⟨hv.1, hv.2.2, List.length_eq_zero_iff.1 h0⟩
  · simp only [Value.slice.injEq] at hv
    obtain ⟨h1, _, rfl⟩ := hv
    exact .inr ⟨g, cur, h1, hg, hn, hm, by omega, by rw [Nat.mul_one] at ht; exact ht⟩
theorem Ig.mk {w : World} {g cap : Nat} {cur : Array Value} {l : List Int} (hg : w.heap[g]? = some (.cells cur 3 (0, 0))) (hn : l.length ≤ cap) (hm : cap ≤ maxLen) (hs : cur.size = cap) (ht : cur.toList.take l.length = vi l) : Ig w (some ⟨g, 0, none⟩) cap l :=
  ⟨by rw [vi_length, Nat.mul_one], .inr ⟨g, cap, cur, rfl, Nat.zero_le _, hg, hn, hm, by omega, by rw [Nat.mul_one]; exact ht⟩⟩
theorem Ig.lt {w : World} {a : Option Addr} {cap : Nat} {l : List Int} (h : Ig w a cap l) {x : Addr} (hx : a = some x) : x.block < w.heap.size := by
  rcases h.cases with ⟨rfl, _⟩ | ⟨g, cur, rfl, hg, _⟩
  · cases hx
  · cases hx; exact (Array.getElem?_eq_some_iff.1 hg).1
theorem Ig.cell {w : World} {g cap : Nat} {l : List Int} (h : Ig w (some ⟨g, 0, none⟩) cap l) {i : Nat} (hi : i < l.length) : w.cell? ⟨g, i, none⟩ = some (.int .i64 (l.getD i 0)) := by
  rcases h.cases with ⟨h0, _⟩ | ⟨g', cur, h0, hg, h1, h2, h3, h4⟩
  · cases h0
  · simp only [Option.some.injEq, Addr.mk.injEq] at h0
    obtain ⟨rfl, _⟩ := h0
    rw [cell_of_row _ _ _ _ _ _ hg, ← vi_get l i hi, ← h4, List.getElem?_take, if_pos hi]
    simp
theorem Ig.len_le {w : World} {a : Option Addr} {cap : Nat} {l : List Int} (h : Ig w a cap l) : l.length ≤ 9223372036854775807 := by
  rcases h.cases with ⟨rfl, rfl, rfl⟩ | ⟨g, cur, rfl, hg, h1, h2, h3, h4⟩
  · simp
  · unfold maxLen at h2; omega
theorem Ig.set {w : World} {g cap : Nat} {l : List Int} (h : Ig w (some ⟨g, 0, none⟩) cap l) (k : Nat) (v : Int) : Ig (w.setCell ⟨g, k, none⟩ (.int .i64 v)) (some ⟨g, 0, none⟩) cap (l.set k v) := by
  rcases h.cases with ⟨h0, _⟩ | ⟨g', cur, h0, hg, h1, h2, h3, h4⟩
  · cases h0
  · simp only [Option.some.injEq, Addr.mk.injEq] at h0
    obtain ⟨rfl, _⟩ := h0
    refine Ig.mk (heap_setCell_same w g k _ _ _ hg) (by rw [List.length_set]; exact h1) h2 (by simpa using h3) ?_
    rw [List.length_set, Array.toList_setIfInBounds, List.take_set, h4]
    simp only [vi, List.map_set]
theorem Ir.but {T : Nat → Prop} {w w' : World} {a : Option Addr} {l : List Int} (h : Ir w a l) (hb : But T w w') (hn : ∀ x, a = some x → l ≠ [] → ¬ T x.block) : Ir w' a l := by
  by_cases h0 : l = []
  · exact .inl h0
  rcases h with h | ⟨b, off, rfl, hc⟩
  · exact .inl h
  · exact .inr ⟨b, off, rfl, fun i hi => (hb.cell (p := ⟨b, off + i, none⟩) (block_lt_of_cell (hc i hi)) (show ¬ T b from hn ⟨b, off, none⟩ rfl h0)).trans (hc i hi)⟩
theorem make_int (n : Nat) (hc : n ≤ 17592186044416) (w : World) : (Instr.makeSlice 22 (.int .i64 (n : Int)) (.int .i64 (n : Int))).run Tryz.prog w = .ok (.slice (some ⟨w.heap.size, 0, none⟩) n n) (w.alloc (.cells (madeCells #[.int .i64 0] n) 3)) := by
  obtain ⟨i0, hi, hz0, hz1, hz2⟩ := info_parts infoI64
  have hr := run_make (P := Tryz.prog) w 22 3 i0 (.int .i64 0) Tryz.underlying22 hi hz0 .i64 .i64 n n (by omega) (by omega) (by rw [hz2]; omega) (by omega)
  simp only [Int.toNat_natCast, hz1, Nat.mul_one] at hr
  exact hr
/-! ### a list of numbers and its spare room -/
def spI (l : List Int) (i : Nat) : Value := if i < l.length then .int .i64 (l.getD i 0) else .int .i64 (-7 - (i : Int))
theorem spare_ir {w : World} {g n : Nat} {l : List Int} (h : w.rowIs g 3 n (spI l)) (hn : l.length ≤ n) : Ir w (some ⟨g, 0, none⟩) l :=
  .inr ⟨g, 0, rfl, fun i hi => by
    have := h.cell (i := i) (by omega)
    unfold spI at this
    rw [if_pos hi] at this
    rw [Nat.zero_add]; exact this⟩
set_option maxHeartbeats 1600000 in
theorem SpareInts_any (w : World) (aa : Option Addr) (n capa : Nat) (l : List Int) (hB : Ir w aa l) (hn : n = l.length) (hlen : l.length + 64 ≤ 17592186044416) :
    Calls Tryz.prog 17 #[.slice aa n capa] w fun x w' => x = .returned (.slice (some ⟨w.heap.size, 0, none⟩) l.length (l.length + 64)) ∧ w'.rowIs w.heap.size 3 (l.length + 64) (spI l) ∧ Below w.heap.size w w' := by
  subst hn
  have hmk := make_int (l.length + 64) (by omega)
  have hadd : IntKind.i64.wrap ((l.length : Int) + 64) = ((l.length + 64 : Nat) : Int) := by rw [wrapI (by omega) (by omega)]; omega
  have HB := hide hB
  clear hB
  generalize hN : l.length + 64 = N at *
  have HN := hide hN
  clear hN
  go_enter Tryz.func17, Tryz.ntmps17
  go_wp2
  go_loopw [4] (fun i wx => ∃ j : Nat, j ≤ N ∧ i = .int .i64 j ∧ (wx.rowIs w.heap.size 3 N (fun i => if i < j then spI l i else .int .i64 0) ∧ Below w.heap.size w wx)) (fun i _ => N - (intOf i).toNat)
  case atStart => exact ⟨0, Nat.zero_le _, rfl, (World.rowIs_made w (.int .i64 0) N 3).congr fun i _ => by simp, (Below.refl _ _).alloc (Nat.le_refl _) _⟩
  case round =>
    obtain ⟨j, hj, rfl, hG⟩ := hrel
    have HG := hide hG
    clear hG
    by_cases hlt : j < N
    · have hi : (j : Int) < (N : Int) := by omega
      have cg := HG.out.1.cell hlt
      have fg := HG.out.1.frozen j
      simp only [Nat.lt_irrefl, if_false] at cg
      by_cases hl : j < l.length
      · have hi2 : (j : Int) < (l.length : Int) := by omega
        obtain ⟨bs, off, rfl, hcs⟩ := (HB.out.keep HG.out.2).at hl
        have HV : Hid (spI l j = .int .i64 (l.getD j 0)) := by unfold spI; rw [if_pos hl]; exact rfl
        generalize l.getD j 0 = x at *
        go_wp2
        go_roundw
        case rel =>
          refine ⟨j + 1, by omega, by go_num, (HG.out.1.set j _).congr fun i hi => ?_, HG.out.2.setCell (Nat.le_refl _) _⟩
          by_cases e : i = j
          · subst e; rw [if_pos rfl, if_pos (by omega), HV.out]
          · rw [if_neg e]
            by_cases e2 : i < j
            · rw [if_pos e2, if_pos (by omega)]
            · rw [if_neg e2, if_neg (by omega)]
        case measure => simp [intOf]; omega
      · have hi2 : ¬ (j : Int) < (l.length : Int) := by omega
        have HV : Hid (spI l j = .int .i64 (-7 - (j : Int))) := by unfold spI; rw [if_neg hl]; exact rfl
        go_wp2
        go_roundw
        case rel =>
          refine ⟨j + 1, by omega, by go_num, (HG.out.1.set j _).congr fun i hi => ?_, HG.out.2.setCell (Nat.le_refl _) _⟩
          by_cases e : i = j
          · subst e; rw [if_pos rfl, if_pos (by omega), HV.out]
          · rw [if_neg e]
            by_cases e2 : i < j
            · rw [if_pos e2, if_pos (by omega)]
            · rw [if_neg e2, if_neg (by omega)]
        case measure => simp [intOf]; omega
    · obtain rfl : N = j := by omega
      have hI1 : (l.length : Int) ≤ (N : Int) := by have := HN.out; omega
      go_wp2
      go_ret
      exact ⟨rfl, HG.out.1.congr fun i hi => by rw [if_pos hi], HG.out.2⟩

set_option maxHeartbeats 1600000 in
theorem KeptInts_any (w : World) (g N : Nat) (ab : Option Addr) (n m capb : Nat) (l : List Int) (hR : w.rowIs g 3 N (spI l)) (hB : Ir w ab l) (hn : n = l.length) (hm : m = l.length) (hN : N = l.length + 64) (hlen : l.length + 64 ≤ 17592186044416) :
    Calls Tryz.prog 20 #[.slice (some ⟨g, 0, none⟩) n N, .slice ab m capb] w fun x w' => x = .returned (.bool true) ∧ Below w.heap.size w w' := by
  subst hn hm
  have hadd : IntKind.i64.wrap ((l.length : Int) + 64) = (N : Int) := by rw [wrapI (by omega) (by omega)]; omega
  have HE := hide (EqInts_same w (some ⟨g, 0, none⟩) ab l.length l.length N capb l (spare_ir hR (by omega)) hB rfl rfl (by omega))
  have HR := hide hR
  have HN := hide hN
  have hNb : N ≤ 17592186044416 := by omega
  clear hB hR hN
  have hI1 : (0 : Int) ≤ (N : Int) := by omega
  go_enter Tryz.func20, Tryz.ntmps20
  go_wp2_with fail
  refine HE.out.mono ?_
  rintro e w1 ⟨rfl, hb1⟩
  go_wp2
  go_loopw [6] (fun i wx => ∃ j : Nat, l.length ≤ j ∧ j ≤ N ∧ i = .int .i64 j ∧ Below w.heap.size w wx) (fun i _ => N - (intOf i).toNat)
  case atStart => exact ⟨l.length, Nat.le_refl _, by have := HN.out; omega, rfl, hb1⟩
  case round =>
    clear hb1
    obtain ⟨j, hlj, hj, rfl, hb⟩ := hrel
    by_cases hlt : j < N
    · have hi : (j : Int) < (N : Int) := by omega
      have cg := (rowIs_below HR.out hb).cell hlt
      unfold spI at cg
      rw [if_neg (by omega)] at cg
      go_wp2
      go_roundw
      case rel => exact ⟨j + 1, by omega, by omega, by go_num, hb⟩
      case measure => simp [intOf]; omega
    · obtain rfl : N = j := by omega
      go_wp2
      go_ret
      exact ⟨rfl, hb⟩
end Go.Proofs.YtceeeofkigkpkaaGreat
