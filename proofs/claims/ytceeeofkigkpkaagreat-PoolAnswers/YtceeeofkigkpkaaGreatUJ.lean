import Derived.Test.YtceeeofkigkpkaaGreatUE
import Derived.Lib.AppendZerosOnto
import Derived.Lib.Overlaps
import Derived.Deep.RegionLaw
import Derived.BigQuiet
import Derived.Deep.DeepAppendWide
namespace Go.Proofs.YtceeeofkigkpkaaGreat
open Go.RowKit

/-! ### slices.Insert, slices.Replace -/
def InA (a : Option Addr) (k : Nat) : Prop := ∃ x, a = some x ∧ x.block = k
theorem wp_copyR {w : World} {o : Oper} {a : Act} {K : Act → World → Prop} {Q : Exit → Act → World → Prop} (d s : Operand)
    (ho : o.op = .call { callee := .builtin .copy, args := #[d, s], argTypes := #[88, 88] }) (g off dLen dCap : Nat) (hd : a.eval d = .slice (some ⟨g, off, none⟩) dLen dCap) (sa : Option Addr) (sLen sCap : Nat) (hs : a.eval s = .slice sa sLen sCap)
    (P X Y : List Value) (ho2 : off = P.length) (hg : Rowb w g (P ++ Y)) (hn : X.length = Nat.min sLen dLen * 2) (hX : X = [] ∨ ∃ b o, sa = some ⟨b, o, none⟩ ∧ Cs w b o X) (hfit : X.length ≤ Y.length) (h1 : ∀ v ∈ X, v.oneCell' = true)
    (h : ∀ n w', Rowb w' g (P ++ X ++ Y.drop X.length) → But (fun k => k = g) w w' → K (a.put o.dst (.int .i64 n)) w') : o.wp Tryz.prog a w K Q := by
  subst ho2
  obtain ⟨w', hr, h1, h2⟩ := run_copyR w o.type g dLen dCap sa sLen sCap P X Y hg hn hX hfit h1
  unfold Oper.wp execOp
  simp only [ho, resolve, invoke, builtin, Sem.run_bind, Sem.run_pure, Result.andThen_ok, List.map_toArray, List.map_cons, List.map_nil, hd, hs, hr]
  exact h _ w' h1 h2
theorem wpList_copyR {w : World} {ops : Array Oper} {rest : List Oper} {o : Oper} {a : Act} {Q : Exit → Act → World → Prop} (hgd : o.guard = none) (d s : Operand)
    (ho : o.op = .call { callee := .builtin .copy, args := #[d, s], argTypes := #[88, 88] }) (g off dLen dCap : Nat) (hd : a.eval d = .slice (some ⟨g, off, none⟩) dLen dCap) (sa : Option Addr) (sLen sCap : Nat) (hs : a.eval s = .slice sa sLen sCap)
    (P X Y : List Value) (ho2 : off = P.length) (hg : Rowb w g (P ++ Y)) (hn : X.length = Nat.min sLen dLen * 2) (hX : X = [] ∨ ∃ b o, sa = some ⟨b, o, none⟩ ∧ Cs w b o X) (hfit : X.length ≤ Y.length) (h1 : ∀ v ∈ X, v.oneCell' = true)
    (h : ∀ n w', Rowb w' g (P ++ X ++ Y.drop X.length) → But (fun k => k = g) w w' → wpList Tryz.prog ops Q rest (a.put o.dst (.int .i64 n)) w') : wpList Tryz.prog ops Q (o :: rest) a w :=
  wpList_plain hgd fun _ hK => wp_copyR d s ho g off dLen dCap hd sa sLen sCap hs P X Y ho2 hg hn hX hfit h1 fun n w' h1 h2 => hK _ _ (h n w' h1 h2)
theorem step_copyR {w : World} {ops : Array Oper} {o : Oper} {a : Act} {K : Act → World → Prop} {Q : Exit → Act → World → Prop} {E : Prop} (hgd : o.guard = none) (d s : Operand)
    (ho : o.op = .call { callee := .builtin .copy, args := #[d, s], argTypes := #[88, 88] }) (g off dLen dCap : Nat) (hd : a.eval d = .slice (some ⟨g, off, none⟩) dLen dCap) (sa : Option Addr) (sLen sCap : Nat) (hs : a.eval s = .slice sa sLen sCap)
    (P X Y : List Value) (ho2 : off = P.length) (hg : Rowb w g (P ++ Y)) (hn : X.length = Nat.min sLen dLen * 2) (hX : X = [] ∨ ∃ b o, sa = some ⟨b, o, none⟩ ∧ Cs w b o X) (hfit : X.length ≤ Y.length) (h1 : ∀ v ∈ X, v.oneCell' = true)
    (h : ∀ n w', Rowb w' g (P ++ X ++ Y.drop X.length) → But (fun k => k = g) w w' → K (a.put o.dst (.int .i64 n)) w') :
    if Region.wanted o (yielded ops a.tmps) = true then Oper.wp Tryz.prog o a w K Q else E := by
  have hw : Region.wanted o (yielded ops a.tmps) = true := by simp [Region.wanted, hgd]
  rw [if_pos hw]
  exact wp_copyR d s ho g off dLen dCap hd sa sLen sCap hs P X Y ho2 hg hn hX hfit h1 h
theorem wpList_clearR {w : World} {ops : Array Oper} {rest : List Oper} {o : Oper} {a : Act} {Q : Exit → Act → World → Prop} (hgd : o.guard = none) (d : Operand)
    (ho : o.op = .call { callee := .builtin .clear, args := #[d], argTypes := #[88] }) (g off n c : Nat) (hd : a.eval d = .slice (some ⟨g, off, none⟩) n c)
    (P Y : List Value) (ho2 : off = P.length) (hg : Rowb w g (P ++ Y)) (hn : n * 2 ≤ Y.length)
    (h : ∀ w', Rowb w' g (P ++ rc (List.replicate n Rn.zero) ++ Y.drop (n * 2)) → But (fun k => k = g) w w' → wpList Tryz.prog ops Q rest (a.put o.dst (.tuple #[])) w') : wpList Tryz.prog ops Q (o :: rest) a w := by
  subst ho2
  obtain ⟨w', hr, h1, h2⟩ := run_clearR w o.type g n c P Y hg hn
  refine wpList_plain hgd fun _ hK => ?_
  unfold Oper.wp execOp
  simp only [ho, resolve, invoke, builtin, Sem.run_bind, Sem.run_pure, Result.andThen_ok, List.map_toArray, List.map_cons, List.map_nil, hd, hr]
  exact hK _ _ (h w' h1 h2)
/-- an append to a row of one's own, by what growing really takes: where the new row lies -/
theorem run_append_liesW {P : Program} (w : World) (t ty : TypeId) (base : Nat) (e : TypeId) (i : TypeInfo) (z : Value) (size bytes : Nat) (ht : P.underlying t = some (.slice e)) (hi : P.info? e = some i) (hz : i.zero = some z)
    (hsize : i.size = size) (hby : i.bytes = bytes) (hzs : z.cells.size = size) (hsz : 0 < size) (v : Value) (n : Nat) (xs : List Value) (hown : w.ownsRow base e size v n xs)
    (ad : Addr) (m c : Nat) (news : List Value) (hl : news.length = m * size) (hnews : ∀ j u, news[j]? = some u → w.cell? (ad.add j) = some u) (h1 : ∀ u ∈ news, u.oneCell' = true)
    (hm : 0 < m) (h63 : n + m ≤ maxLen) (hbytes : ((n + m) + (n + m) / 4 + 192) * bytes ≤ 281474976710656) (hbase : base ≤ w.heap.size) (H : Nat) (hH : w.heap.size = H) :
    ∃ g cap w', (Builtin.append_ #[t, t] ty #[v, .slice (some ad) m c]).run P w = .ok (.slice (some ⟨g, 0, none⟩) (n + m) cap) w' ∧
      w'.ownsRow base e size (.slice (some ⟨g, 0, none⟩) (n + m) cap) (n + m) (xs ++ news) ∧ w.grownBy w' v.ownBlock ∧ (v.ownBlock = some g ∨ g = H) ∧ g < w'.heap.size := by
  obtain ⟨v', w', hr, h2, h3, _⟩ := run_append_own_wide (P := P) w base t ty e i z size bytes ht hi hz hsize hby hzs hsz v n xs hown ad m c news hl hnews h1 h63 hbytes hbase
  obtain ⟨g, cap, rfl, _, hlt⟩ := h2.form (by omega)
  refine ⟨g, cap, w', hr, h2, h3, ?_, hlt⟩
  subst hsize hby
  have hsmall : n + m ≤ 9223372036854775807 := by simp only [maxLen] at h63; omega
  rcases hown.2 with ⟨rfl, rfl⟩ | ⟨g0, cap0, cur, rfl, _, hg, hnc, _, hcs, htake⟩
  · have q := run_append_nil (P := P) w t ty e i z ht hi hz ad m c news hl hnews hm (by omega) (Nat.le_trans (Nat.mul_le_mul_right _ (by omega)) hbytes)
    rw [hr] at q
    simp only [Result.ok.injEq, Value.slice.injEq, Option.some.injEq, Addr.mk.injEq] at q
    exact .inr (q.1.1.1.trans hH)
  · by_cases hroom : n + m ≤ cap0
    · have hfit : n * i.size + news.length ≤ cur.size := by rw [hl, hcs, ← Nat.add_mul]; exact Nat.mul_le_mul_right _ hroom
      have q := run_append_room (P := P) w t ty e i ht hi g0 n cap0 cur hg ad m c news hl hnews h1 hroom hfit
      rw [hr] at q
      simp only [Result.ok.injEq, Value.slice.injEq, Option.some.injEq, Addr.mk.injEq] at q
      exact .inl (congrArg some q.1.1.1.symm)
    · have q := run_append_grow (P := P) w t ty e i z ht hi hz ⟨g0, 0, none⟩ n cap0 xs hown.1 (hown.cells (g := g0) rfl) ad m c news hl hnews (by omega) (by omega) (growslice_fits_wide (by omega) hbytes)
      rw [hr] at q
      simp only [Result.ok.injEq, Value.slice.injEq, Option.some.injEq, Addr.mk.injEq] at q
      exact .inr (q.1.1.1.trans hH)
/-- runs are appended -/
theorem run_apR (w : World) (ty : TypeId) (a : Option Addr) (n cap : Nat) (L : List Rn) (hn : n = L.length) (hR : Vw w a cap L) (av : Option Addr) (m c : Nat) (V : List Rn) (hm : m = V.length) (hV : Vs w av V) (h0 : V ≠ []) (hlen : L.length + V.length ≤ 14000000000000) :
    ∃ g cap' w', (Builtin.append_ #[88, 88] ty #[.slice a n cap, .slice av m c]).run Tryz.prog w = .ok (.slice (some ⟨g, 0, none⟩) (n + m) cap') w' ∧
      Vw w' (some ⟨g, 0, none⟩) cap' (L ++ V) ∧ New w a (some ⟨g, 0, none⟩) ∧ w.grownBy w' (a.map Addr.block) := by
  subst hn hm
  obtain ⟨i0, hi, hz0, hz1, hz2⟩ := info_parts infoRun
  rcases hV with hV | ⟨b, o, rfl, hc⟩
  · exact absurd hV h0
  obtain ⟨g, cap', w', hr, h1, h2, h3, h4⟩ := run_append_liesW (P := Tryz.prog) w 88 ty 0 92 i0 (.agg (rcs Rn.zero)) 2 16 Tryz.underlying88 hi hz0 hz1 hz2 rfl (by decide) (.slice a L.length cap) L.length (rc L) hR ⟨b, o, none⟩ V.length c (rc V) (rc_length V)
    (fun j u hu => by rw [Addr.add_mid]; exact hc j u hu) (rc_one V) (List.length_pos_iff.2 h0) (by unfold maxLen; omega) (by omega) (Nat.zero_le _) w.heap.size rfl
  rw [ob_eq] at h2 h3
  refine ⟨g, cap', w', hr, ?_, ?_, h2⟩
  · unfold Vw
    rw [rc_append, List.length_append]
    exact h1
  · intro y hy
    simp only [Option.some.injEq] at hy
    subst hy
    rcases h3 with h3 | h3
    · obtain ⟨z, hz, e⟩ := map_some h3
      exact .inl ⟨z, hz, e⟩
    · exact .inr (by show _ ≤ g; omega)
theorem wp_apR {w : World} {o : Oper} {a : Act} {K : Act → World → Prop} {Q : Exit → Act → World → Prop} (s x : Operand)
    (ho : o.op = .call { callee := .builtin .append, args := #[s, x], argTypes := #[88, 88] }) (ao : Option Addr) (n cap : Nat) (L : List Rn) (hs : a.eval s = .slice ao n cap) (hn : n = L.length) (hR : Vw w ao cap L)
    (av : Option Addr) (m c : Nat) (V : List Rn) (hx : a.eval x = .slice av m c) (hm : m = V.length) (hV : Vs w av V) (h0 : V ≠ []) (hlen : L.length + V.length ≤ 14000000000000)
    (h : ∀ g cap' w', Vw w' (some ⟨g, 0, none⟩) cap' (L ++ V) → New w ao (some ⟨g, 0, none⟩) → w.grownBy w' (ao.map Addr.block) → K (a.put o.dst (.slice (some ⟨g, 0, none⟩) (n + m) cap')) w') : o.wp Tryz.prog a w K Q := by
  obtain ⟨g, cap', w', hr, h1, h2, h3⟩ := run_apR w o.type ao n cap L hn hR av m c V hm hV h0 hlen
  unfold Oper.wp execOp
  simp only [ho, resolve, invoke, builtin, Sem.run_bind, Sem.run_pure, Result.andThen_ok, List.map_toArray, List.map_cons, List.map_nil, hs, hx, hr]
  exact h g cap' w' h1 h2 h3
theorem wpList_apR {w : World} {ops : Array Oper} {rest : List Oper} {o : Oper} {a : Act} {Q : Exit → Act → World → Prop} (hgd : o.guard = none) (s x : Operand)
    (ho : o.op = .call { callee := .builtin .append, args := #[s, x], argTypes := #[88, 88] }) (ao : Option Addr) (n cap : Nat) (L : List Rn) (hs : a.eval s = .slice ao n cap) (hn : n = L.length) (hR : Vw w ao cap L)
    (av : Option Addr) (m c : Nat) (V : List Rn) (hx : a.eval x = .slice av m c) (hm : m = V.length) (hV : Vs w av V) (h0 : V ≠ []) (hlen : L.length + V.length ≤ 14000000000000)
    (h : ∀ g cap' w', Vw w' (some ⟨g, 0, none⟩) cap' (L ++ V) → New w ao (some ⟨g, 0, none⟩) → w.grownBy w' (ao.map Addr.block) → wpList Tryz.prog ops Q rest (a.put o.dst (.slice (some ⟨g, 0, none⟩) (n + m) cap')) w') : wpList Tryz.prog ops Q (o :: rest) a w :=
  wpList_plain hgd fun _ hK => wp_apR s x ho ao n cap L hs hn hR av m c V hx hm hV h0 hlen fun g cap' w' h1 h2 h3 => hK _ _ (h g cap' w' h1 h2 h3)
/-- runs are appended where there is room -/
theorem run_apIn (w : World) (ty : TypeId) (g cap n : Nat) (P X Y : List Value) (av : Option Addr) (m c : Nat) (hP : P.length = n * 2) (hg : Rowb w g (P ++ Y)) (hn : X.length = m * 2) (hX : X = [] ∨ ∃ b o, av = some ⟨b, o, none⟩ ∧ Cs w b o X) (hfit : X.length ≤ Y.length) (h1 : ∀ v ∈ X, v.oneCell' = true) (hroom : n + m ≤ cap) :
    ∃ w', (Builtin.append_ #[88, 88] ty #[.slice (some ⟨g, 0, none⟩) n cap, .slice av m c]).run Tryz.prog w = .ok (.slice (some ⟨g, 0, none⟩) (n + m) cap) w' ∧ Rowb w' g (P ++ X ++ Y.drop X.length) ∧ But (fun k => k = g) w w' := by
  have hst := run_storeCells_at Tryz.prog g P.length 92 X 0 (P ++ Y).toArray w hg (by simp; omega) h1
  have e1 : ((P ++ Y).toArray.toList.take (P.length + 0) ++ X ++ (P ++ Y).toArray.toList.drop (P.length + 0 + X.length)) = P ++ X ++ Y.drop X.length := by
    rw [List.toList_toArray, Nat.add_zero, List.take_left' rfl, List.drop_append, List.drop_eq_nil_of_le (by omega), Nat.add_sub_cancel_left]
    simp
  rw [e1, hP] at hst
  refine ⟨_, ?_, setRow_heap w g _ _ _ _ hg, setRow_but w g _⟩
  obtain ⟨i0, hi, hz0, hz1, hz2⟩ := info_parts infoRun
  have hl : (Builtin.firstCells 2 m (.slice av m c)).run Tryz.prog w = .ok X.toArray w := by
    rcases hX with rfl | ⟨b, o, rfl, hc⟩
    · have h0 : m = 0 := by simp at hn; omega
      cases av with
      | none => rfl
      | some z => simp [Builtin.firstCells, h0, loadCells, loadCellsFrom]
    · have := run_loadCells_list (P := Tryz.prog) w ⟨b, o, none⟩ X (fun j v hv => by rw [Addr.add_mid]; exact hc j v hv)
      show (loadCells ⟨b, o, none⟩ (m * 2)).run Tryz.prog w = _
      rw [← hn]
      exact this
  have ea : (⟨g, 0, none⟩ : Addr).add (n * 2) = ⟨g, n * 2, none⟩ := by rw [Addr.add_mid, Nat.zero_add]
  simp [Builtin.append_, run_underlying Tryz.underlying88, sizeOf, typeInfo, hi, hz1, Builtin.lenOf, hl, hroom, ea, hst]
theorem wpList_apIn {w : World} {ops : Array Oper} {rest : List Oper} {o : Oper} {a : Act} {Q : Exit → Act → World → Prop} (hgd : o.guard = none) (s x : Operand)
    (ho : o.op = .call { callee := .builtin .append, args := #[s, x], argTypes := #[88, 88] }) (g cap n : Nat) (hs : a.eval s = .slice (some ⟨g, 0, none⟩) n cap) (av : Option Addr) (m c : Nat) (hx : a.eval x = .slice av m c)
    (P X Y : List Value) (hP : P.length = n * 2) (hg : Rowb w g (P ++ Y)) (hn : X.length = m * 2) (hX : X = [] ∨ ∃ b o, av = some ⟨b, o, none⟩ ∧ Cs w b o X) (hfit : X.length ≤ Y.length) (h1 : ∀ v ∈ X, v.oneCell' = true) (hroom : n + m ≤ cap)
    (h : ∀ w', Rowb w' g (P ++ X ++ Y.drop X.length) → But (fun k => k = g) w w' → wpList Tryz.prog ops Q rest (a.put o.dst (.slice (some ⟨g, 0, none⟩) (n + m) cap)) w') : wpList Tryz.prog ops Q (o :: rest) a w := by
  obtain ⟨w', hr, h1, h2⟩ := run_apIn w o.type g cap n P X Y av m c hP hg hn hX hfit h1 hroom
  refine wpList_plain hgd fun _ hK => ?_
  unfold Oper.wp execOp
  simp only [ho, resolve, invoke, builtin, Sem.run_bind, Sem.run_pure, Result.andThen_ok, List.map_toArray, List.map_cons, List.map_nil, hs, hx, hr]
  exact hK _ _ (h w' h1 h2)
/-- runs without a number are appended, and there is no room -/
theorem run_apZ (w : World) (ty : TypeId) (a : Option Addr) (n cap : Nat) (L : List Rn) (hn : n = L.length) (hV : Vs w a L) (m : Nat) (h0 : 0 < m) (hg : cap < L.length + m) (hlen : L.length + m ≤ 14000000000000) :
    ∃ cap' w', (Builtin.append_ #[88, 3] ty #[.slice a n cap, .int .i64 (m : Int)]).run Tryz.prog w = .ok (.slice (some ⟨w.heap.size, 0, none⟩) (n + m) cap') w' ∧
      Vw w' (some ⟨w.heap.size, 0, none⟩) cap' (L ++ List.replicate m Rn.zero) ∧ Below w.heap.size w w' := by
  subst hn
  obtain ⟨i0, hi, hz0, hz1, hz2⟩ := info_parts infoRun
  have hold : (Builtin.firstCells i0.size L.length (.slice a L.length cap)).run Tryz.prog w.drew = .ok (rc L).toArray w.drew := by
    rw [hz1]
    rcases hV with rfl | ⟨b, o, rfl, hc⟩
    · cases a with
      | none => rfl
      | some z => simp [Builtin.firstCells, loadCells, loadCellsFrom, rc]
    · exact run_firstCells_some w.drew 2 L.length _ L.length cap (rc L) (rc_length L) (fun j u hj => by rw [Addr.add_mid]; exact hc j u hj)
  have zc : ∀ k, Builtin.zeroCells (Value.agg (rcs Rn.zero)).cells k = (rc (List.replicate k Rn.zero)).toArray := fun k => by
    rw [← zeroCells_run k, Array.toArray_toList]
    rfl
  have hr := Lib.run_append_grow_zeros (P := Tryz.prog) w 88 3 ty 92 i0 (.agg (rcs Rn.zero)) .i64 .i64 Tryz.underlying88 Tryz.underlying3 hi hz0 a L.length cap (rc L) hold m h0 (by omega) hg (by omega) (by rw [hz2]; omega) (growslice_fits_wide (by omega) (by rw [hz2]; omega))
  rw [zc, zc] at hr
  have hge := grownCap_ge w (L.length + m) cap 92
  have hle := grownCap_le_maxLen w (L.length + m) cap 92 (by unfold maxLen; omega)
  generalize grownCap w (L.length + m) cap 92 = c' at *
  refine ⟨c', _, hr, Vw.mk (Y := rc (List.replicate (c' - (L.length + m)) Rn.zero)) ?_ (by simp; omega) hle (by rw [rc_length]; simp; omega), ⟨rfl, rfl, rfl, by simp, fun k hk => heap_alloc_old w.drew _ hk⟩⟩
  have e : (rc (L ++ List.replicate m Rn.zero) ++ rc (List.replicate (c' - (L.length + m)) Rn.zero)).toArray = (rc L).toArray ++ (rc (List.replicate m Rn.zero)).toArray ++ (rc (List.replicate (c' - (L.length + m)) Rn.zero)).toArray := by
    rw [rc_append]
    simp
  unfold Rowb
  rw [e]
  exact heap_alloc_new w.drew _
theorem wpList_apZ {w : World} {ops : Array Oper} {rest : List Oper} {o : Oper} {a : Act} {Q : Exit → Act → World → Prop} (hgd : o.guard = none) (s x : Operand)
    (ho : o.op = .call { callee := .builtin .append, args := #[s, x], argTypes := #[88, 3] }) (ao : Option Addr) (n cap : Nat) (hs : a.eval s = .slice ao n cap) (m : Nat) (hx : a.eval x = .int .i64 (m : Int))
    (L : List Rn) (hn : n = L.length) (hV : Vs w ao L) (h0 : 0 < m) (hg : cap < L.length + m) (hlen : L.length + m ≤ 14000000000000)
    (h : ∀ cap' w', Vw w' (some ⟨w.heap.size, 0, none⟩) cap' (L ++ List.replicate m Rn.zero) → Below w.heap.size w w' → wpList Tryz.prog ops Q rest (a.put o.dst (.slice (some ⟨w.heap.size, 0, none⟩) (n + m) cap')) w') : wpList Tryz.prog ops Q (o :: rest) a w := by
  obtain ⟨cap', w', hr, h1, h2⟩ := run_apZ w o.type ao n cap L hn hV m h0 hg hlen
  refine wpList_plain hgd fun _ hK => ?_
  unfold Oper.wp execOp
  simp only [ho, resolve, invoke, builtin, Sem.run_bind, Sem.run_pure, Result.andThen_ok, List.map_toArray, List.map_cons, List.map_nil, hs, hx, hr]
  exact hK _ _ (h cap' w' h1 h2)
/-- two rows lie apart -/
theorem run_overlaps (w : World) (g h og oh la ca lb cb : Nat) (P Q : List Value) (hg : Rowb w g P) (hh : Rowb w h Q) (hne : g ≠ h) (hQ : Q ≠ []) :
    (callFunc 88 #[.slice (some ⟨g, og, none⟩) la ca, .slice (some ⟨h, oh, none⟩) lb cb]).run Tryz.prog w = .ok (.value (.bool false)) w := by
  rw [run_callFunc_extern Tryz.func88 (by kernel_rfl) (by kernel_rfl) (by kernel_rfl) (e := Extern.SlicesOverlaps.overlaps #[88, 88] #[4]) (by kernel_rfl)]
  have := Lib.run_overlaps_apart (P := Tryz.prog) w 88 4 92 Tryz.underlying88 2 Tryz.sizeOf92 ⟨g, og, none⟩ ⟨h, oh, none⟩ la ca lb cb hne 92 92 P.length Q.length
    (by simp [World.shape?, show w.heap[g]? = _ from hg]) (by simp [World.shape?, show w.heap[h]? = _ from hh]) (fun e => hQ (List.length_eq_zero_iff.1 e)) (frozen_of_row _ _ _ _ _ hg) (frozen_of_row _ _ _ _ _ hg)
  rw [this]
  rfl
end Go.Proofs.YtceeeofkigkpkaaGreat
