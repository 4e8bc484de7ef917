import Derived.Test.YtbhigodjbfoeoaaGreatWpPI
import Derived.Deep.RegionHeld3
namespace Go.Proofs.YtbhigodjbfoeoaaGreat
open Go.RowKit
theorem own_but {T : Nat → Prop} {w w' : World} {e s n : Nat} {a : Option Addr} {m c : Nat} {C : List Value} (h : w.ownsRow 0 e s (.slice a m c) n C) (hb : But T w w') (hn : ∀ x, a = some x → ¬ T x.block) : w'.ownsRow 0 e s (.slice a m c) n C := by
  obtain ⟨h1, h2⟩ := h
  refine ⟨h1, ?_⟩
  rcases h2 with ⟨hv, h0⟩ | ⟨g, cap', cur, hv, h3, hg, hr⟩
  · exact .inl ⟨hv, h0⟩
  · simp only [Value.slice.injEq] at hv
    exact .inr ⟨g, cap', cur, by simp only [Value.slice.injEq]; exact hv, h3, (hb.block g (Array.getElem?_eq_some_iff.1 hg).1 (hn _ hv.1)).trans hg, hr⟩
def vi (l : List Int) : List Value := l.map fun x => Value.int .i64 x
theorem vi_append (a b : List Int) : vi (a ++ b) = vi a ++ vi b := by unfold vi; rw [List.map_append]
theorem vi_length (a : List Int) : (vi a).length = a.length := by unfold vi; rw [List.length_map]
theorem vi_get (l : List Int) (i : Nat) (hi : i < l.length) : (vi l)[i]? = some (.int .i64 (l.getD i 0)) := by simp [vi, hi]
/-- numbers in a block of their own, or nil -/
def Ig (w : World) (a : Option Addr) (cap : Nat) (l : List Int) : Prop := w.ownsRow 0 3 1 (.slice a l.length cap) l.length (vi l)
theorem infoI64 : (Tryz.prog.info? 3).map (fun i => (i.zero, i.size, i.bytes)) = some (some (.int .i64 0), 1, 8) := by kernel_rfl
theorem Ig.nil (w : World) : Ig w none 0 [] := World.ownsRow_nil w 0 3 1
theorem Ig.keep {w w' : World} {a : Option Addr} {cap : Nat} {l : List Int} (h : Ig w a cap l) (hb : Below w.heap.size w w') : Ig w' a cap l := own_but (T := fun _ => False) h (But.ofBelow hb) (fun _ _ h => h)
/-- numbers that can be read -/
def Ir (w : World) (a : Option Addr) (l : List Int) : Prop := l = [] ∨ ∃ b off, a = some ⟨b, off, none⟩ ∧ ∀ i, i < l.length → w.cell? ⟨b, off + i, none⟩ = some (.int .i64 (l.getD i 0))
theorem Ir.keep {w w' : World} {a : Option Addr} {l : List Int} (h : Ir w a l) (hb : Below w.heap.size w w') : Ir w' a l := by
  rcases h with h | ⟨b, off, rfl, hc⟩
  · exact .inl h
  · exact .inr ⟨b, off, rfl, fun i hi => (hb.cell (p := ⟨b, off + i, none⟩) (block_lt_of_cell (hc i hi))).trans (hc i hi)⟩
theorem Ig.but {S : Nat → Prop} {w w' : World} {a : Option Addr} {cap : Nat} {l : List Int} (h : Ig w a cap l) (hb : But S w w') (hn : ∀ x, a = some x → ¬ S x.block) : Ig w' a cap l := own_but h hb hn
theorem Ir.at {w : World} {a : Option Addr} {l : List Int} (h : Ir w a l) {j : Nat} (hj : j < l.length) : ∃ b off, a = some ⟨b, off, none⟩ ∧ w.cell? ⟨b, off + j, none⟩ = some (.int .i64 (l.getD j 0)) := by
  rcases h with rfl | ⟨b, off, rfl, hc⟩
  · simp at hj
  · exact ⟨b, off, rfl, hc j hj⟩
theorem Ig.ir {w : World} {a : Option Addr} {cap : Nat} {l : List Int} (h : Ig w a cap l) : Ir w a l := by
  obtain ⟨_, h2⟩ := h
  rcases h2 with ⟨_, h0⟩ | ⟨g, cap', cur, hv, h3, hg, hn, hm, hs, ht⟩
  · exact .inl (List.length_eq_zero_iff.1 h0)
  · simp only [Value.slice.injEq] at hv
    obtain ⟨e1, _, rfl⟩ := hv
    refine .inr ⟨g, 0, e1, fun i hi => ?_⟩
    rw [Nat.zero_add, cell_of_row _ _ _ _ _ _ hg, ← vi_get l i hi, ← ht, List.getElem?_take, if_pos (by omega)]
    simp
/-- a number is appended -/
theorem run_apI (w : World) (ty : TypeId) (a : Option Addr) (n cap : Nat) (l : List Int) (hn : n = l.length) (hR : Ig w a cap l) (ad : Addr) (c : Nat) (x : Int) (hc : w.cell? ad = some (.int .i64 x)) (hlen : l.length + 1 ≤ 17592186044416) :
    ∃ g cap' w', (Builtin.append_ #[22, 22] ty #[.slice a n cap, .slice (some ad) 1 c]).run Tryz.prog w = .ok (.slice (some ⟨g, 0, none⟩) (n + 1) cap') w' ∧
      Ig w' (some ⟨g, 0, none⟩) cap' (l ++ [x]) ∧ New w a (some ⟨g, 0, none⟩) ∧ w.grownBy w' (a.map Addr.block) ∧ g < w'.heap.size := by
  subst hn
  obtain ⟨i0, hi, hz0, hz1, hz2⟩ := info_parts infoI64
  obtain ⟨g, cap', w', hr, h1, h2, h3, h4⟩ := run_append_lies (P := Tryz.prog) w 22 ty 0 3 i0 (.int .i64 0) 1 8 Tryz.underlying22 hi hz0 hz1 hz2 rfl (by decide) (.slice a l.length cap) l.length (vi l) hR ad 1 c [.int .i64 x] rfl
    (by intro j u hj
        match j, hj with
        | 0, hj => simp at hj; subst hj; simpa [Addr.add] using hc) (by intro u hu; simp at hu; subst hu; rfl) (by decide) (by unfold maxLen; omega) (by omega) (Nat.zero_le _) w.heap.size rfl
  rw [ob_eq] at h2 h3
  refine ⟨g, cap', w', hr, ?_, ?_, h2, h4⟩
  · unfold Ig
    rw [vi_append, List.length_append]
    exact h1
  · intro y hy
    simp only [Option.some.injEq] at hy
    subst hy
    rcases h3 with h3 | h3
    · obtain ⟨z, hz, e⟩ := map_some h3
      exact .inl ⟨z, hz, e⟩
    · exact .inr (by show _ ≤ g; omega)
theorem wp_apI {w : World} {o : Oper} {a : Act} {K : Act → World → Prop} {Q : Exit → Act → World → Prop} (s x : Operand)
    (ho : o.op = .call { callee := .builtin .append, args := #[s, x], argTypes := #[22, 22] }) (ao : Option Addr) (n cap : Nat) (l : List Int) (hs : a.eval s = .slice ao n cap) (hn : n = l.length) (hR : Ig w ao cap l)
    (ad : Addr) (c : Nat) (xx : Int) (hx : a.eval x = .slice (some ad) 1 c) (hc : w.cell? ad = some (.int .i64 xx)) (hlen : l.length + 1 ≤ 17592186044416)
    (h : ∀ g cap' w', Ig w' (some ⟨g, 0, none⟩) cap' (l ++ [xx]) → New w ao (some ⟨g, 0, none⟩) → w.grownBy w' (ao.map Addr.block) → g < w'.heap.size → K (a.put o.dst (.slice (some ⟨g, 0, none⟩) (n + 1) cap')) w') : o.wp Tryz.prog a w K Q := by
  obtain ⟨g, cap', w', hr, h1, h2, h3, h4⟩ := run_apI w o.type ao n cap l hn hR ad c xx hc hlen
  unfold Oper.wp execOp
  simp only [ho, resolve, invoke, builtin, Sem.run_bind, Sem.run_pure, Result.andThen_ok, List.map_toArray, List.map_cons, List.map_nil, hs, hx, hr]
  exact h g cap' w' h1 h2 h3 h4
theorem wpList_apI {w : World} {ops : Array Oper} {rest : List Oper} {o : Oper} {a : Act} {Q : Exit → Act → World → Prop} (hgd : o.guard = none) (s x : Operand)
    (ho : o.op = .call { callee := .builtin .append, args := #[s, x], argTypes := #[22, 22] }) (ao : Option Addr) (n cap : Nat) (l : List Int) (hs : a.eval s = .slice ao n cap) (hn : n = l.length) (hR : Ig w ao cap l)
    (ad : Addr) (c : Nat) (xx : Int) (hx : a.eval x = .slice (some ad) 1 c) (hc : w.cell? ad = some (.int .i64 xx)) (hlen : l.length + 1 ≤ 17592186044416)
    (h : ∀ g cap' w', Ig w' (some ⟨g, 0, none⟩) cap' (l ++ [xx]) → New w ao (some ⟨g, 0, none⟩) → w.grownBy w' (ao.map Addr.block) → g < w'.heap.size → wpList Tryz.prog ops Q rest (a.put o.dst (.slice (some ⟨g, 0, none⟩) (n + 1) cap')) w') : wpList Tryz.prog ops Q (o :: rest) a w :=
  wpList_plain hgd fun _ hK => wp_apI s x ho ao n cap l hs hn hR ad c xx hx hc hlen fun g cap' w' h1 h2 h3 h4 => hK _ _ (h g cap' w' h1 h2 h3 h4)
set_option maxHeartbeats 1000000 in
theorem EqInts_same (w : World) (aa ab : Option Addr) (n m ca cb : Nat) (l : List Int) (hA : Ir w aa l) (hB : Ir w ab l) (hn : n = l.length) (hm : m = l.length) (hb : l.length ≤ 17592186044415) :
    Calls Tryz.prog 11 #[.slice aa n ca, .slice ab m cb] w fun e w' => e = .returned (.bool true) ∧ Below w.heap.size w w' := by
  subst hn
  subst hm
  have HA := hide hA
  have HB := hide hB
  clear hA hB
  go_enter Tryz.func11, Tryz.ntmps11
  go_wp2
  go_loopw [5] (fun i wx => ∃ j : Nat, j ≤ l.length ∧ i = .int .i64 j ∧ (Below w.heap.size w wx)) (fun i _ => l.length - (intOf i).toNat)
  case atStart => exact ⟨0, Nat.zero_le _, rfl, Below.refl _ _⟩
  case round =>
    obtain ⟨j, hj, rfl, hG⟩ := hrel
    have HG := hide hG
    clear hG
    by_cases hlt : j < l.length
    · have hi : (j : Int) < (l.length : Int) := by omega
      obtain ⟨b1, o1, rfl, cA⟩ := (HA.out.keep HG.out).at hlt
      obtain ⟨b2, o2, rfl, cB⟩ := (HB.out.keep HG.out).at hlt
      generalize l.getD j 0 = x at *
      have q0 : (x == x) = true := by simp
      go_wp2
      go_quiet (fail)
      go_wp2
      go_roundw
      case rel => exact ⟨j + 1, by omega, by go_num, bt HG.out (drN _ _)⟩
      case measure => simp [intOf]; omega
    · obtain rfl : j = l.length := by omega
      go_wp2
      go_ret
      exact ⟨rfl, HG.out⟩
/-- a row of numbers of the call's own -/
structure IOwn (w wx : World) (a : Option Addr) (cap : Nat) (l : List Int) : Prop where
  r : Ig wx a cap l
  n : New w none a
  b : Below w.heap.size w wx
theorem IOwn.keep {w wx wy : World} {a : Option Addr} {cap : Nat} {l : List Int} (h : IOwn w wx a cap l) (hb : Below wx.heap.size wx wy) : IOwn w wy a cap l := ⟨h.r.keep hb, h.n, bt h.b hb⟩
theorem IOwn.step {w wx w1 wy : World} {a a' : Option Addr} {cap cap' : Nat} {l l' : List Int} (h : IOwn w wx a cap l) (hb : Below wx.heap.size wx w1) (hR : Ig wy a' cap' l') (hN : New w1 a a') (hg : w1.grownBy wy (a.map Addr.block)) : IOwn w wy a' cap' l' := by
  refine ⟨hR, h.n.trans hN (Nat.le_trans h.b.size hb.size), ?_⟩
  have h1 := bt h.b hb
  have hh : But (fun _ => False) w wy := (But.ofBelow h1).grown hg fun k hk hlt => by
    obtain ⟨y, hy, e⟩ := map_some hk
    rcases h.n y hy with ⟨z, hz, _⟩ | h2
    · cases hz
    · omega
  exact hh.below fun _ _ h => h
/-- the kids of the first items -/
def kidsTo (kind : Int) (L : List Iv) : List Int := if kind = 2 then L.map Iv.child else (L.map Iv.child).filter (fun c => decide (c ≠ 0))
theorem kidsTo_snoc (kind : Int) (L : List Iv) (k : Nat) (hk : k < L.length) : kidsTo kind (L.take (k + 1)) = kidsTo kind (L.take k) ++ (if kind = 2 ∨ (L.getD k Iv.zero).child ≠ 0 then [(L.getD k Iv.zero).child] else []) := by
  have e : L.getD k Iv.zero = L[k] := by simp [hk]
  unfold kidsTo
  rw [List.take_succ_eq_append_getElem hk, e]
  by_cases h2 : kind = 2
  · rw [if_pos h2, if_pos h2, if_pos (.inl h2), List.map_append]
    rfl
  · rw [if_neg h2, if_neg h2, List.map_append, List.filter_append]
    by_cases h0 : L[k].child = 0
    · rw [if_neg (by simp [h2, h0])]
      generalize List.filter (fun c => decide (c ≠ 0)) (List.map Iv.child (List.take k L)) = F
      simp [h0]
    · rw [if_pos (.inr h0)]
      generalize List.filter (fun c => decide (c ≠ 0)) (List.map Iv.child (List.take k L)) = F
      simp [h0]
theorem kidsTo_len (kind : Int) (L : List Iv) : (kidsTo kind L).length ≤ L.length := by
  unfold kidsTo
  split
  · simp
  · exact Nat.le_trans (List.length_filter_le _ _) (by simp)
theorem kids_node (P : Pv) (hk : P.kind = 1 ∨ P.kind = 2) : P.pg.kids = kidsTo P.kind P.items := by
  unfold Pg.kids kidsTo
  have h1 : P.pg.kind = P.kind := rfl
  have h2 : P.pg.items.map It.child = P.items.map Iv.child := by simp [Pv.pg, Iv.it]
  rw [h1, h2]
  rcases hk with hk | hk
  · rw [if_neg (by omega), if_pos hk, if_neg (by omega)]
  · rw [if_pos hk, if_pos hk]
end Go.Proofs.YtbhigodjbfoeoaaGreat
