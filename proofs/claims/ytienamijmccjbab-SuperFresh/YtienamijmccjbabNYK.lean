import Derived.Test.YtienamijmccjbabNYJ
import Derived.Test.YtienamijmccjbabPWX
namespace Go.Proofs.Ytienamijmccjbab
open Go.RowKit


def mkA (i k : Nat) : Nat := (i * 31 + k * 7 + 1) % 256
def fl (i n : Nat) : List Nat := (List.range n).map (mkA i)
theorem fl_length (i n : Nat) : (fl i n).length = n := by simp [fl]
theorem fl_succ (i n : Nat) : fl i (n + 1) = fl i n ++ [mkA i n] := by simp [fl, List.range_succ]
theorem fl_get (i n k : Nat) (h : k < n) : (fl i n).getD k 0 = mkA i k := by simp [fl, h]
theorem fl_lt (i n : Nat) : ∀ x ∈ fl i n, x < 256 := by
  intro x hx
  obtain ⟨k, _, rfl⟩ := List.mem_map.1 hx
  exact Nat.mod_lt _ (by decide)
theorem set_step (i k : Nat) (l : List Nat) (h : k < l.length) : (fl i k ++ l.drop k).set k (mkA i k) = fl i (k + 1) ++ l.drop (k + 1) := by
  rw [List.set_append_right _ _ (by rw [fl_length]; exact Nat.le_refl _), fl_length, Nat.sub_self, List.drop_eq_getElem_cons h, List.set_cons_zero, fl_succ, List.append_assoc]
  rfl
/-- rows of bytes -/
def RowsG (w : World) (n : Nat) (A : Nat → Option Addr) (C : Nat → Nat) (G : Nat → List Nat) : Prop := ∀ i, i < n → Rw w (A i) (C i) (G i)
def Dist (n : Nat) (A : Nat → Option Addr) : Prop := ∀ i j, i < n → j < n → i ≠ j → ∀ x y, A i = some x → A j = some y → x.block ≠ y.block
def InRows (n : Nat) (A : Nat → Option Addr) (k : Nat) : Prop := ∃ i, i < n ∧ ∃ x, A i = some x ∧ x.block = k
theorem RowsG.congr {w : World} {n : Nat} {A : Nat → Option Addr} {C : Nat → Nat} {G G' : Nat → List Nat} (h : RowsG w n A C G) (e : ∀ i, i < n → G i = G' i) : RowsG w n A C G' := fun i hi => by rw [← e i hi]; exact h i hi
theorem RowsG.set {w : World} {n : Nat} {A : Nat → Option Addr} {C : Nat → Nat} {G : Nat → List Nat} (h : RowsG w n A C G) (hd : Dist n A) {j g : Nat} (hj : j < n) (hA : A j = some ⟨g, 0, none⟩) (k v : Nat) :
    RowsG (w.setCell ⟨g, k, none⟩ (.int .u8 ((v : Nat) : Int))) n A C (fun i => if i = j then (G j).set k v else G i) := by
  intro i hi
  by_cases e : i = j
  · subst e
    dsimp only
    rw [if_pos rfl, hA]
    have := h i hi
    rw [hA] at this
    exact this.set k v
  · dsimp only
    rw [if_neg e]
    exact (h i hi).but (But.cell1 w g k _) fun x hx => hd i j hi hj e x _ hx hA

/-- behind the second loop's first rounds -/
def P2 (w wx : World) (n : Nat) (A : Nat → Option Addr) (C : Nat → Nat) (N : Nat → Nat) (j : Nat) (ag : Option Addr) (cg : Nat) (B : Nat → Option Addr) (D : Nat → Nat) : Prop :=
  Ar wx ag cg ((List.range j).map fun i => Value.slice (B i) (N i + 20) (D i)) ∧
  (∀ i, i < j → Rw wx (B i) (D i) (fl i (N i + 20)) ∧ Bs wx (A i) (fl i (N i)) ∧ New w (A i) (B i)) ∧
  (∀ i, j ≤ i → i < n → Rw wx (A i) (C i) (fl i (N i))) ∧
  (∀ i i', i < i' → i' < j → ∀ x y, B i = some x → B i' = some y → x.block ≠ y.block) ∧
  But (InRows n A) w wx ∧ New w none ag
theorem grown_but {w w2 : World} {a : Option Addr} (h : w.grownBy w2 (a.map Addr.block)) : But (fun q => ∃ x, a = some x ∧ x.block = q) w w2 :=
  (But.refl _ _).grown h fun _ hk _ => map_some hk
theorem P2.next {w wx w3 wr : World} {n : Nat} {A : Nat → Option Addr} {C N : Nat → Nat} {j : Nat} {ag ag' gj : Option Addr} {cg cg' cj : Nat} {B : Nat → Option Addr} {D : Nat → Nat} {o : Obj}
    (hd : Dist n A) (hA0 : ∀ i, i < n → ∀ x, A i = some x → x.block < w.heap.size) (hj : j < n) (h : P2 w wr n A C N j ag cg B D) (hin : But (fun q => ∃ x, A j = some x ∧ x.block = q) wr wx)
    (hRg : Rw wx gj cj (fl j (N j + 20))) (hBs : Bs wx (A j) (fl j (N j))) (hgj : gj = A j ∨ ∀ x, gj = some x → wr.heap.size ≤ x.block)
    (hAr : Ar w3 ag' cg' (((List.range j).map fun i => Value.slice (B i) (N i + 20) (D i)) ++ [.slice gj (N j + 20) cj])) (hN : New (wx.alloc o) ag ag') (hg : (wx.alloc o).grownBy w3 (ag.map Addr.block)) :
    P2 w w3 n A C N (j + 1) ag' cg' (fun i => if i = j then gj else B i) (fun i => if i = j then cj else D i) := by
  obtain ⟨h1, h2, h3, h4, h5, h6⟩ := h
  have hsz := h5.size
  have hsz2 := hin.size
  -- the array is none of the rows
  have hagx : Ar wx ag cg ((List.range j).map fun i => Value.slice (B i) (N i + 20) (D i)) := h1.but hin fun x hx ⟨y, hy, e⟩ => h1.ne (h3 j (Nat.le_refl _) hj) hx hy e.symm
  have step : But (fun q => ∃ x, ag = some x ∧ x.block = q) wx w3 := ((But.refl _ wx).alloc o).trans (grown_but hg) fun _ _ h => h
  have row : ∀ {a c l}, Rw wx a c l → Rw w3 a c l := fun hr => hr.but step fun x hx ⟨y, hy, e⟩ => hagx.ne hr hy hx e
  have bs : ∀ {a : Option Addr} {l : List Nat}, Bs wx a l → (∀ x, a = some x → x.block < w.heap.size) → Bs w3 a l := fun hb hlt => hb.but step fun x hx _ ⟨y, hy, e⟩ => by
    have h7 := hlt x hx
    rcases h6 y hy with ⟨z, hz, _⟩ | h8
    · cases hz
    · omega
  have hBold : ∀ i, i < j → ∀ x, B i = some x → ¬ ∃ y, A j = some y ∧ y.block = x.block := by
    rintro i hi x hx ⟨y, hy, e⟩
    rcases (h2 i hi).2.2 x hx with ⟨z, hz, e2⟩ | h7
    · exact hd i j (by omega) hj (by omega) z y hz hy (e2.trans e.symm)
    · have := hA0 j hj y hy; omega
  refine ⟨?_, ?_, ?_, ?_, ?_, ?_⟩
  · rw [List.range_succ, List.map_append]
    have e : ((List.range j).map fun i => Value.slice (if i = j then gj else B i) (N i + 20) (if i = j then cj else D i)) = (List.range j).map fun i => Value.slice (B i) (N i + 20) (D i) := by
      apply List.map_congr_left
      intro i hi
      have := List.mem_range.1 hi
      simp [show i ≠ j by omega]
    rw [e]
    simpa using hAr
  · intro i hi
    by_cases e : i = j
    · subst e
      dsimp only
      rw [if_pos rfl, if_pos rfl]
      refine ⟨row hRg, bs hBs (hA0 i hj), ?_⟩
      intro x hx
      rcases hgj with h7 | h7
      · exact .inl ⟨x, by rw [← h7]; exact hx, rfl⟩
      · exact .inr (by have := h7 x hx; omega)
    · dsimp only
      rw [if_neg e, if_neg e]
      obtain ⟨k1, k2, k3⟩ := h2 i (by omega)
      refine ⟨row (k1.but hin fun x hx => hBold i (by omega) x hx), bs (k2.but hin fun x hx _ ⟨y, hy, e2⟩ => hd i j (by omega) hj e x y hx hy e2.symm) (hA0 i (by omega)), k3⟩
  · intro i hi hin'
    exact row ((h3 i (by omega) hin').but hin fun x hx ⟨y, hy, e2⟩ => hd i j hin' hj (by omega) x y hx hy e2.symm)
  · intro i i' hii hi' x y hx hy
    dsimp only at hx hy
    rw [if_neg (by omega)] at hx
    by_cases e : i' = j
    · rw [if_pos e] at hy
      subst e
      rcases hgj with h7 | h7
      · rw [h7] at hy
        exact fun e2 => hBold i hii x hx ⟨y, hy, e2.symm⟩
      · have h8 := h7 y hy
        have h9 := (h2 i hii).1.lt hx
        omega
    · rw [if_neg e] at hy
      exact h4 i i' hii (by omega) x y hx hy
  · refine (h5.trans hin fun x _ ⟨y, hy, e⟩ => ⟨j, hj, y, hy, e⟩).trans step ?_
    rintro x hx ⟨y, hy, e⟩
    rcases h6 y hy with ⟨z, hz, _⟩ | h8
    · cases hz
    · omega
  · exact h6.trans hN (by rw [size_alloc]; omega)

/-- a byte is appended to a row: what of the row that it grew out of -/
theorem inner_step {wr wx w2 : World} {aj gj : Option Addr} {g : Nat} {cap' : Nat} {l m : List Nat} {x : Nat} {o : Obj} (hlt : ∀ y, aj = some y → y.block < wr.heap.size) (hb8 : ∀ z ∈ l ++ m ++ [x], z < 256) (hlen : l.length ≤ 9223372036854775807)
    (hin : But (fun q => ∃ y, aj = some y ∧ y.block = q) wr wx) (hBs : Bs wx aj l) (hgj : gj = aj ∨ ∀ y, gj = some y → wr.heap.size ≤ y.block)
    (hR : Rw w2 (some ⟨g, 0, none⟩) cap' (l ++ m ++ [x])) (hg : (wx.alloc o).grownBy w2 (gj.map Addr.block)) (hc : gj = some ⟨g, 0, none⟩ ∨ (wx.alloc o).heap.size ≤ g ∧ Below (wx.alloc o).heap.size (wx.alloc o) w2) :
    But (fun q => ∃ y, aj = some y ∧ y.block = q) wr w2 ∧ Bs w2 aj l ∧ (some ⟨g, 0, none⟩ = aj ∨ ∀ y, some (⟨g, 0, none⟩ : Addr) = some y → wr.heap.size ≤ y.block) := by
  have hsz := hin.size
  refine ⟨?_, ?_, ?_⟩
  · refine (hin.alloc o).trans (grown_but hg) ?_
    rintro q hq ⟨y, hy, e⟩
    rcases hgj with h | h
    · exact ⟨y, by rw [← h]; exact hy, e⟩
    · have := h y hy; omega
  · rcases hc with hc | ⟨_, hb⟩
    · rcases hgj with h | h
      · rw [← h, hc]
        rw [List.append_assoc] at hR hb8
        rcases hR.front with h7 | h7
        · exact h7.bs (fun z hz => hb8 z (List.mem_append_left _ hz)) hlen
        · cases h7
      · refine (hBs.keep ((Below.refl _ _).alloc (Nat.le_refl _) o)).but (grown_but hg) ?_
        rintro y hy _ ⟨z, hz, e⟩
        have h8 := h z hz
        have h9 := hlt y hy
        omega
    · exact (hBs.keep ((Below.refl _ _).alloc (Nat.le_refl _) o)).keep hb
  · rcases hc with hc | ⟨hc, _⟩
    · rw [← hc]
      rcases hgj with h | h
      · exact .inl h
      · exact .inr h
    · refine .inr fun y hy => ?_
      simp only [Option.some.injEq] at hy
      subst hy
      rw [size_alloc] at hc
      show _ ≤ g
      omega

set_option maxRecDepth 100000 in
set_option maxHeartbeats 8000000 in
theorem Apart_some (w : World) (at' : Option Addr) (ct n : Nat) (A : Nat → Option Addr) (C : Nat → Nat) (L : Nat → List Nat) (hAr : Ar w at' ct ((List.range n).map fun i => Value.slice (A i) (L i).length (C i))) (hR : RowsG w n A C L) (hd : Dist n A) (hn : n ≤ 2932031007410) (hl : ∀ i, i < n → (L i).length + 20 ≤ 140737488355328) :
    Calls Try.prog 23 #[.slice at' n ct] w fun x w' => x = .returned (.bool true) ∧ But (InRows n A) w w' := by
  have HA := hide hAr
  have HR := hide hR
  have HD := hide hd
  have HL := hide hl
  have arr : ∀ wx, But (InRows n A) w wx → ∀ i, i < n → ∃ g, at' = some ⟨g, 0, none⟩ ∧ wx.cell? ⟨g, i, none⟩ = some (.slice (A i) (L i).length (C i)) := by
    intro wx hb i hi
    refine (HA.out.but hb ?_).cell (by simp [hi])
    rintro x hx ⟨q, hq, y, hy, e⟩
    exact HA.out.ne (HR.out q hq) hx hy e.symm
  have ARR := hide arr
  clear hAr hR hd hl arr
  go_enter Try.func23, Try.ntmps23
  go_wp2
  go_loopw [3, 4] (fun i _ wx => ∃ j : Nat, j ≤ n ∧ i = .int .i64 j ∧ (RowsG wx n A C (fun i => if i < j then fl i (L i).length else L i) ∧ But (InRows n A) w wx)) (fun i _ _ => n - (intOf i).toNat)
  case atStart => exact ⟨0, Nat.zero_le _, rfl, HR.out.congr fun i _ => by simp, But.refl _ _⟩
  case round =>
    obtain ⟨j, hj, rfl, hG⟩ := hrel
    have HG := hide hG
    clear hG
    by_cases hlt : j < n
    · have hi : (j : Int) < (n : Int) := by omega
      obtain ⟨bt', hat, hc⟩ := ARR.out wr HG.out.2 j hlt
      subst hat
      have hlj := HL.out j hlt
      go_wp2
      go_loopw [4] (fun k' wx => ∃ k : Nat, k ≤ (L j).length ∧ k' = .int .i64 k ∧ (RowsG wx n A C (fun i => if i < j then fl i (L i).length else if i = j then fl j k ++ (L j).drop k else L i) ∧ But (InRows n A) w wx)) (fun k' _ => (L j).length - (intOf k').toNat)
      case atStart =>
        refine ⟨0, Nat.zero_le _, rfl, HG.out.1.congr fun i _ => ?_, HG.out.2⟩
        by_cases e : i = j
        · subst e; simp [fl]
        · simp [e]
      case round =>
        clear hc
        obtain ⟨k, hk, rfl, hG2⟩ := hrel
        have HG2 := hide hG2
        clear hG2
        obtain ⟨b2, e2, hc⟩ := ARR.out wr HG2.out.2 j hlt
        simp only [Option.some.injEq, Addr.mk.injEq] at e2
        obtain ⟨rfl, _⟩ := e2
        by_cases hlk : k < (L j).length
        · have hik : (k : Int) < ((L j).length : Int) := by omega
          have hrow := HG2.out.1 j hlt
          simp only [Nat.lt_irrefl, if_false, if_true] at hrow
          have hrl : (fl j k ++ (L j).drop k).length = (L j).length := by rw [List.length_append, fl_length, List.length_drop]; omega
          obtain ⟨g, hAj, _, _⟩ := hrow.addr2 (by rw [hrl]; omega)
          rw [hAj] at hc hrow
          have hcg := hrow.cell (i := k) (by rw [hrl]; exact hlk)
          have hfg : wr.frozen? ⟨g, k, none⟩ = false := by
            rcases hrow.cases with ⟨h0, _⟩ | ⟨g', cur, h0, hg', _⟩
            · cases h0
            · simp only [Option.some.injEq, Addr.mk.injEq] at h0
              obtain ⟨rfl, _⟩ := h0
              exact frozen_of_row wr g k _ _ hg'
          have hmk : ((j : Int) * 31 + (k : Int) * 7 + 1) % 256 = ((mkA j k : Nat) : Int) := by unfold mkA; omega
          have HSS := hide (set_step j k (L j) hlk)
          have HAJ := hide hAj
          clear hAj hrow hrl
          generalize hx : (fl j k ++ (L j).drop k).getD k 0 = x at *
          clear hx
          generalize mkA j k = mm at *
          go_wp2
          go_roundw
          case rel =>
            refine ⟨k + 1, by omega, by go_num, (HG2.out.1.set HD.out hlt HAJ.out k mm).congr fun i hi => ?_, HG2.out.2.setCell (p := ⟨g, k, none⟩) (fun _ => ⟨j, hlt, _, HAJ.out, rfl⟩) _⟩
            by_cases e : i = j
            · subst e; simp only [if_true, Nat.lt_irrefl, if_false]; exact HSS.out
            · simp only [e, if_false]
          case measure => simp [intOf]; omega
        · obtain rfl : k = (L j).length := by omega
          go_wp2
          go_roundw
          case rel =>
            refine ⟨j + 1, by omega, by go_num, HG2.out.1.congr fun i hi => ?_, HG2.out.2⟩
            by_cases e : i = j
            · subst e; simp
            · by_cases e2 : i < j
              · rw [if_pos e2, if_pos (by omega)]
              · rw [if_neg e2, if_neg e, if_neg (by omega)]
          case measure => simp [intOf]; omega
    · obtain rfl : n = j := by omega
      have hA0 : ∀ i, i < n → ∀ x, A i = some x → x.block < w.heap.size := fun i hi x hx => (HR.out i hi).lt hx
      have HA0 := hide hA0
      have H1 : Hid (P2 w wr n A C (fun i => (L i).length) 0 none 0 (fun _ => none) (fun _ => 0)) := ⟨Ar.nil _, fun i hi => by omega, fun i _ hi => by have := HG.out.1 i hi; dsimp only at this; rwa [if_pos hi] at this, fun i i' _ hi' => by omega, HG.out.2, New.none _ _⟩
      clear hA0 HG
      go_wp2
      go_loopw [5, 6, 7, 8] (fun gr i _ _ wx => ∃ (j : Nat) (ag : Option Addr) (cg : Nat) (B : Nat → Option Addr) (D : Nat → Nat), j ≤ n ∧ i = .int .i64 j ∧ gr = .slice ag j cg ∧ P2 w wx n A C (fun i => (L i).length) j ag cg B D) (fun _ i _ _ _ => n - (intOf i).toNat)
      case atStart => exact ⟨0, none, 0, _, _, Nat.zero_le _, rfl, rfl, H1.out⟩
      case round =>
        clear H1
        obtain ⟨j, ag, cg, B, D, hj, rfl, rfl, hP⟩ := hrel
        have HP := hide hP
        clear hP
        by_cases hlt : j < n
        · have hi : (j : Int) < (n : Int) := by omega
          have hlj := HL.out j hlt
          obtain ⟨bt', hat, hc⟩ := ARR.out wr HP.out.2.2.2.2.1 j hlt
          subst hat
          have hrow0 := HP.out.2.2.1 j (Nat.le_refl _) hlt
          have HROW0 := hide hrow0
          have HBS0 := hide (hrow0.bs (fl_lt _ _) hrow0.len_le)
          have HLTJ : Hid (∀ y, A j = some y → y.block < wr.heap.size) := fun y hy => hrow0.lt hy
          have HARW : Hid (∀ wx, But (fun q => ∃ y, A j = some y ∧ y.block = q) wr wx → wx.cell? ⟨bt', j, none⟩ = some (.slice (A j) (L j).length (C j))) := fun wx hb => by
            obtain ⟨b2, e2, h2⟩ := ARR.out wx (HP.out.2.2.2.2.1.trans hb fun x _ ⟨y, hy, e⟩ => ⟨j, hlt, y, hy, e⟩) j hlt
            simp only [Option.some.injEq, Addr.mk.injEq] at e2
            obtain ⟨rfl, _⟩ := e2
            exact h2
          clear hrow0
          go_wp2
          generalize hW : wr = W at *
          go_loopw [7, 8] (fun gv k' wx => ∃ (k : Nat) (gj : Option Addr) (cj : Nat), k ≤ 20 ∧ k' = .int .i64 k ∧ gv = .slice gj ((L j).length + k) cj ∧ (Rw wx gj cj (fl j ((L j).length + k)) ∧ (But (fun q => ∃ y, A j = some y ∧ y.block = q) W wx ∧ Bs wx (A j) (fl j (L j).length) ∧ (gj = A j ∨ ∀ y, gj = some y → W.heap.size ≤ y.block)))) (fun _ k' _ => 20 - (intOf k').toNat)
          case atStart => exact ⟨0, A j, C j, by decide, rfl, rfl, HROW0.out, But.refl _ _, HBS0.out, .inl rfl⟩
          case round =>
            clear hc
            obtain ⟨k, gj, cj, hk, rfl, rfl, hG⟩ := hrel
            have HG := hide hG
            clear hG
            by_cases hlk : k < 20
            · have hik : (k : Int) < 20 := by omega
              have hc := HARW.out wr HG.out.2.1
              have hbt := block_lt_of_cell hc
              have hmk : ((j : Int) * 31 + (((L j).length : Int) + (k : Int)) * 7 + 1) % 256 = ((mkA j ((L j).length + k) : Nat) : Int) := by unfold mkA; omega
              have HS : Hid (fl j ((L j).length + k) ++ [mkA j ((L j).length + k)] = fl j ((L j).length + (k + 1))) := (fl_succ j ((L j).length + k)).symm
              have HSP : Hid (∃ m, fl j ((L j).length + k) = fl j (L j).length ++ m) := ⟨(fl j ((L j).length + k)).drop (L j).length, by
                have e : (fl j ((L j).length + k)).take (L j).length = fl j (L j).length := by simp [fl, ← List.map_take, List.take_range]
                rw [← e]; exact (List.take_append_drop _ _).symm⟩
              have HM8 : Hid (mkA j ((L j).length + k) < 256) := Nat.mod_lt _ (by decide)
              have HF8 := hide (fl_lt j ((L j).length + k))
              have hz := fl_length j ((L j).length + k)
              have hzn := fl_length j (L j).length
              generalize mkA j ((L j).length + k) = mm at *
              generalize fl j ((L j).length + k) = FL at *
              go_wp2_with (at_builtin; refine wpList_ap1' rfl _ _ rfl gj ((L j).length + k) cj FL ?q1 hz.symm (HG.out.1.keep ((Below.refl _ _).alloc (Nat.le_refl _) _)) ⟨wr.heap.size, 0, none⟩ 1 mm ?q2 ?q3 (by omega) ?_)
              try case q1 => rfl
              try case q2 => rfl
              try case q3 => simp
              intro g cap' w2 hR hN hg hcase
              obtain ⟨m, hm⟩ := HSP.out
              have hst := inner_step (m := m) (x := mm) HLTJ.out (by rw [← hm]; intro z hz'; rcases List.mem_append.1 hz' with h | h; exact HF8.out z h; rw [List.mem_singleton] at h; have := HM8.out; omega) (by omega) HG.out.2.1 HG.out.2.2.1 HG.out.2.2.2 (by rw [← hm]; exact hR) hg (by rw [size_alloc]; exact hcase)
              rw [HS.out] at hR
              have HR2 := hide hR
              have HST := hide hst
              clear hR hN hg hcase hst hm
              go_wp2
              go_roundw
              case rel => exact ⟨k + 1, _, cap', by omega, by go_num, rfl, HR2.out, HST.out⟩
              case measure => simp [intOf]; omega
            · obtain rfl : k = 20 := by omega
              have hAgx : Ar wr ag cg ((List.range j).map fun i => Value.slice (B i) ((L i).length + 20) (D i)) := HP.out.1.but HG.out.2.1 fun x hx ⟨y, hy, e⟩ => HP.out.1.ne HROW0.out hx hy e.symm
              have hvl : ((List.range j).map fun i => Value.slice (B i) ((L i).length + 20) (D i)).length = j := by simp
              have HAG := hide hAgx
              have HNX : Hid (∀ w3 ag' cg' o, Ar w3 ag' cg' (((List.range j).map fun i => Value.slice (B i) ((L i).length + 20) (D i)) ++ [.slice gj ((L j).length + 20) cj]) → New (wr.alloc o) ag ag' → (wr.alloc o).grownBy w3 (ag.map Addr.block) → P2 w w3 n A C (fun i => (L i).length) (j + 1) ag' cg' (fun i => if i = j then gj else B i) (fun i => if i = j then cj else D i)) :=
                fun w3 ag' cg' o h1 h2 h3 => HP.out.next HD.out HA0.out hlt HG.out.2.1 HG.out.1 HG.out.2.2.1 HG.out.2.2.2 h1 h2 h3
              clear hAgx
              generalize ((List.range j).map fun i => Value.slice (B i) ((L i).length + 20) (D i)) = vs at *
              go_wp2_with (at_builtin; refine wpList_apRows rfl _ _ rfl ag j cg vs ?r1 hvl.symm (HAG.out.keep ((Below.refl _ _).alloc (Nat.le_refl _) _)) ⟨wr.heap.size, 0, none⟩ 1 (.slice gj ((L j).length + 20) cj) ?r2 ?r3 rfl (by omega) ?_)
              try case r1 => rfl
              try case r2 => rfl
              try case r3 => simp
              intro g cap' w2 hR hN hg
              have HQ := hide (HNX.out w2 _ cap' _ hR hN hg)
              clear hR hN hg
              go_wp2
              go_roundw
              case rel => exact ⟨j + 1, _, cap', _, _, by omega, by go_num, rfl, HQ.out⟩
              case measure => simp [intOf]; omega
        · obtain rfl : n = j := by omega
          go_wp2
          generalize hW : wr = W at *
          go_loopw [9, 10, 11] (fun i _ _ wx => ∃ j : Nat, j ≤ n ∧ i = .int .i64 j ∧ wx = W) (fun i _ _ _ => n - (intOf i).toNat)
          case atStart => exact ⟨0, Nat.zero_le _, rfl, rfl⟩
          case round =>
            obtain ⟨j, hj, rfl, hwW⟩ := hrel
            subst hwW
            by_cases hlt : j < n
            · have hi : (j : Int) < (n : Int) := by omega
              have hlj := HL.out j hlt
              obtain ⟨bt', hat, hc⟩ := ARR.out _ HP.out.2.2.2.2.1 j hlt
              obtain ⟨gg, hag, hcg⟩ := HP.out.1.cell (i := j) (v := .slice (B j) ((L j).length + 20) (D j)) (by simp [hlt])
              subst hat hag
              obtain ⟨hrow, hbs, _⟩ := HP.out.2.1 j hlt
              obtain ⟨g, hBj, hle, hmx⟩ := hrow.addr2 (by rw [fl_length]; omega)
              rw [hBj] at hcg hrow
              have HROW := hide hrow
              have HBS := hide hbs
              clear hrow hbs hBj
              unfold maxLen at hmx
              rw [fl_length] at hle
              go_wp2
              go_loopw [10, 11] (fun k' _ wx => ∃ k : Nat, k ≤ (L j).length + 20 ∧ k' = .int .i64 k ∧ wx = wr) (fun k' _ _ => (L j).length + 20 - (intOf k').toNat)
              case atStart => exact ⟨0, Nat.zero_le _, rfl, rfl⟩
              case round =>
                obtain ⟨k, hk, rfl, hwW⟩ := hrel
                subst hwW
                by_cases hlk : k < (L j).length + 20
                · have hik : (k : Int) < ((L j).length : Int) + 20 := by omega
                  have hcell := HROW.out.cell (i := k) (by rw [fl_length]; exact hlk)
                  rw [fl_get j _ k hlk] at hcell
                  have hmk : ((j : Int) * 31 + (k : Int) * 7 + 1) % 256 = ((mkA j k : Nat) : Int) := by unfold mkA; omega
                  by_cases hkl : k < (L j).length
                  · have hkl2 : (k : Int) < ((L j).length : Int) := by omega
                    obtain ⟨ba, oa, hAj, hca⟩ := HBS.out.at (j := k) (by rw [fl_length]; exact hkl)
                    rw [fl_get j _ k hkl] at hca
                    rw [hAj] at hc
                    generalize mkA j k = mm at *
                    go_wp2
                    go_roundw
                    case rel => exact ⟨k + 1, by omega, by go_num, trivial⟩
                    case measure => simp [intOf]; omega
                  · have hkl2 : ¬ (k : Int) < ((L j).length : Int) := by omega
                    generalize mkA j k = mm at *
                    go_wp2
                    go_roundw
                    case rel => exact ⟨k + 1, by omega, by go_num, trivial⟩
                    case measure => simp [intOf]; omega
                · obtain rfl : k = (L j).length + 20 := by omega
                  go_wp2
                  go_roundw
                  case rel => exact ⟨j + 1, by omega, by go_num, trivial⟩
                  case measure => simp [intOf]; omega
            · obtain rfl : n = j := by omega
              go_wp2
              go_ret
              exact ⟨rfl, HP.out.2.2.2.2.1⟩
end Go.Proofs.Ytienamijmccjbab
