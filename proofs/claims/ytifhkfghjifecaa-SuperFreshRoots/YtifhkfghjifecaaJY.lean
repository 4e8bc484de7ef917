import Derived.Test.YtifhkfghjifecaaJX
namespace Go.Proofs.Ytifhkfghjifecaa
open Go.RowKit

theorem Jw.facts {W : World} {g cap : Nat} {Y : List Ro} (h : Jw W (some ⟨g, 0, none⟩) cap Y) {k : Nat} (hk : k < Y.length) :
    (∃ v, W.cell? ⟨g, k * 4, none⟩ = some v) ∧ (∃ v, W.cell? ⟨g, k * 4 + 1, none⟩ = some v) ∧ (∃ v, W.cell? ⟨g, k * 4 + 2, none⟩ = some v) ∧ (∃ v, W.cell? ⟨g, k * 4 + 3, none⟩ = some v) ∧
    W.frozen? ⟨g, k * 4, none⟩ = false ∧ W.frozen? ⟨g, k * 4 + 1, none⟩ = false ∧ W.frozen? ⟨g, k * 4 + 2, none⟩ = false ∧ W.frozen? ⟨g, k * 4 + 3, none⟩ = false := by
  have HT := h.four hk
  exact ⟨Option.isSome_iff_exists.1 (HT 0 (by omega)).1, Option.isSome_iff_exists.1 (HT 1 (by omega)).1, Option.isSome_iff_exists.1 (HT 2 (by omega)).1, Option.isSome_iff_exists.1 (HT 3 (by omega)).1, (HT 0 (by omega)).2, (HT 1 (by omega)).2, (HT 2 (by omega)).2, (HT 3 (by omega)).2⟩
theorem Jw.idAt {W : World} {g cap : Nat} {Y : List Ro} (h : Jw W (some ⟨g, 0, none⟩) cap Y) {k : Nat} (hk : k < Y.length) : W.cell? ⟨g, k * 4, none⟩ = some (.int .i64 (Y.getD k ro0).id) := by
  obtain ⟨b, off, e, hr⟩ := h.qs.at hk
  cases e
  have h := (range4 hr).1
  rwa [Nat.zero_add] at h
set_option maxRecDepth 100000 in
set_option maxHeartbeats 8000000 in
theorem apart_some (w : World) (at' : Option Addr) (ct n : Nat) (A : Nat → Option Addr) (C : Nat → Nat) (L : Nat → List Ro) (hAr : Aj w at' ct ((List.range n).map fun i => Value.slice (A i) (L i).length (C i))) (hR : RowsJ w n A C L) (hd : Dist n A) (hn : n ≤ 1000) (hl : ∀ i, i < n → (L i).length ≤ 1000) :
    Calls Try.prog 10 #[.slice at' n ct] w fun x w' => x = .returned (.bool true) ∧ But (InRows n A) w w' := by
  have HA := hide hAr
  have HR := hide hR
  have HD := hide hd
  have HL := hide hl
  have arr : ∀ wx, But (InRows n A) w wx → ∀ i, i < n → ∃ g, at' = some ⟨g, 0, none⟩ ∧ wx.cell? ⟨g, i, none⟩ = some (.slice (A i) (L i).length (C i)) := by
    intro wx hb i hi
    refine (HA.out.but hb ?_).cell (by simp [hi])
    rintro x hx ⟨q, hq, y, hy, e⟩
    exact HA.out.ne (HR.out q hq) hx hy e.symm
  have ARR := hide arr
  clear hAr hR hd hl arr
  go_enter Try.func10, Try.ntmps10
  go_wp2
  go_loopw [3, 4] (fun i _ wx => ∃ j : Nat, j ≤ n ∧ i = .int .i64 j ∧ (RowsJ wx n A C (fun i => if i < j then gr i (L i).length else L i) ∧ But (InRows n A) w wx)) (fun i _ _ => n - (intOf i).toNat)
  case atStart => exact ⟨0, Nat.zero_le _, rfl, HR.out.congr fun i _ => by simp, But.refl _ _⟩
  case round =>
    obtain ⟨j, hj, rfl, hG⟩ := hrel
    have HG := hide hG
    clear hG
    by_cases hlt : j < n
    · have hi : (j : Int) < (n : Int) := by omega
      obtain ⟨bt', hat, hc⟩ := ARR.out wr HG.out.2 j hlt
      subst hat
      have hlj := HL.out j hlt
      go_wp2
      go_loopw [4] (fun k' wx => ∃ k : Nat, k ≤ (L j).length ∧ k' = .int .i64 k ∧ (RowsJ wx n A C (fun i => if i < j then gr i (L i).length else if i = j then gr j k ++ (L j).drop k else L i) ∧ But (InRows n A) w wx)) (fun k' _ => (L j).length - (intOf k').toNat)
      case atStart =>
        refine ⟨0, Nat.zero_le _, rfl, HG.out.1.congr fun i _ => ?_, HG.out.2⟩
        by_cases e : i = j
        · subst e; simp [gr]
        · simp [e]
      case round =>
        clear hc
        obtain ⟨k, hk, rfl, hG2⟩ := hrel
        have HG2 := hide hG2
        clear hG2
        obtain ⟨b2, e2, hc⟩ := ARR.out wr HG2.out.2 j hlt
        simp only [Option.some.injEq, Addr.mk.injEq] at e2
        obtain ⟨rfl, _⟩ := e2
        by_cases hlk : k < (L j).length
        · have hik : (k : Int) < ((L j).length : Int) := by omega
          have hrow := HG2.out.1 j hlt
          simp only [Nat.lt_irrefl, if_false, if_true] at hrow
          have hrl : (gr j k ++ (L j).drop k).length = (L j).length := by rw [List.length_append, gr_length, List.length_drop]; omega
          obtain ⟨g, hAj, _, _⟩ := hrow.addr (by rw [hrl]; omega)
          rw [hAj] at hc hrow
          obtain ⟨⟨v0, e0⟩, ⟨v1, e1⟩, ⟨v2, e2⟩, ⟨v3, e3⟩, f0, f1, f2, f3⟩ := hrow.facts (k := k) (by rw [hrl]; exact hlk)
          have hmk : (j : Int) * 1000 + (k : Int) = idJ j k := rfl
          have HSS := hide (hset_step j k (L j) hlk)
          have HAJ := hide hAj
          have HXX := hide (HG2.out.1.set HD.out hlt HAJ.out k (mkJ j k))
          have HBU := hide (HG2.out.2.trans (show But (fun x => x = g) wr (wr.setCells g (k * 4) (mkJ j k).cs.toList) from but_setCells _ _ _ _) fun x _ e => ⟨j, hlt, _, HAJ.out, e.symm⟩)
          rw [nest4r] at HXX HBU
          unfold mkJ at HXX HBU HSS
          dsimp only at HXX HBU
          clear hAj hrow hrl
          generalize idJ j k = mm at *
          go_wp2
          go_roundw
          case rel =>
            refine ⟨k + 1, by omega, by go_num, HXX.out.congr fun i hi => ?_, HBU.out⟩
            by_cases e : i = j
            · subst e; simp only [if_true, Nat.lt_irrefl, if_false]; exact HSS.out
            · simp only [e, if_false]
          case measure => simp [intOf]; omega
        · obtain rfl : k = (L j).length := by omega
          go_wp2
          go_roundw
          case rel =>
            refine ⟨j + 1, by omega, by go_num, HG2.out.1.congr fun i hi => ?_, HG2.out.2⟩
            by_cases e : i = j
            · subst e; simp
            · by_cases e2 : i < j
              · rw [if_pos e2, if_pos (by omega)]
              · rw [if_neg e2, if_neg e, if_neg (by omega)]
          case measure => simp [intOf]; omega
    · obtain rfl : n = j := by omega
      have hA0 : ∀ i, i < n → ∀ x, A i = some x → x.block < w.heap.size := fun i hi x hx => (HR.out i hi).lt hx
      have HA0 := hide hA0
      have H1 : Hid (Q3 w wr n A C (fun i => (L i).length) 0 none 0 (fun _ => none) (fun _ => 0)) := ⟨Aj.nil _, fun i hi => by omega, fun i _ hi => by have := HG.out.1 i hi; dsimp only at this; rwa [if_pos hi] at this, fun i i' _ hi' => by omega, HG.out.2, New.none _ _⟩
      clear hA0 HG
      go_wp2
      go_loopw [5, 6, 7, 8] (fun gr i _ _ wx => ∃ (j : Nat) (ag : Option Addr) (cg : Nat) (B : Nat → Option Addr) (D : Nat → Nat), j ≤ n ∧ i = .int .i64 j ∧ gr = .slice ag j cg ∧ Q3 w wx n A C (fun i => (L i).length) j ag cg B D) (fun _ i _ _ _ => n - (intOf i).toNat)
      case atStart => exact ⟨0, none, 0, _, _, Nat.zero_le _, rfl, rfl, H1.out⟩
      case round =>
        clear H1
        obtain ⟨j, ag, cg, B, D, hj, rfl, rfl, hP⟩ := hrel
        have HP := hide hP
        clear hP
        by_cases hlt : j < n
        · have hi : (j : Int) < (n : Int) := by omega
          have hlj := HL.out j hlt
          obtain ⟨bt', hat, hc⟩ := ARR.out wr HP.out.2.2.2.2.1 j hlt
          subst hat
          have hrow0 := HP.out.2.2.1 j (Nat.le_refl _) hlt
          have HROW0 := hide hrow0
          have HBS0 := hide hrow0.qs
          have HLTJ : Hid (∀ y, A j = some y → y.block < wr.heap.size) := fun y hy => hrow0.lt hy
          have HARW : Hid (∀ wx, But (fun q => ∃ y, A j = some y ∧ y.block = q) wr wx → wx.cell? ⟨bt', j, none⟩ = some (.slice (A j) (L j).length (C j))) := fun wx hb => by
            obtain ⟨b2, e2, h2⟩ := ARR.out wx (HP.out.2.2.2.2.1.trans hb fun x _ ⟨y, hy, e⟩ => ⟨j, hlt, y, hy, e⟩) j hlt
            simp only [Option.some.injEq, Addr.mk.injEq] at e2
            obtain ⟨rfl, _⟩ := e2
            exact h2
          clear hrow0
          go_wp2
          generalize hW : wr = W at *
          go_loopw [7, 8] (fun gv k' wx => ∃ (k : Nat) (gj : Option Addr) (cj : Nat), k ≤ 20 ∧ k' = .int .i64 k ∧ gv = .slice gj ((L j).length + k) cj ∧ (Jw wx gj cj (gr j ((L j).length + k)) ∧ (But (fun q => ∃ y, A j = some y ∧ y.block = q) W wx ∧ Js wx (A j) (gr j (L j).length) ∧ (gj = A j ∨ ∀ y, gj = some y → W.heap.size ≤ y.block)))) (fun _ k' _ => 20 - (intOf k').toNat)
          case atStart => exact ⟨0, A j, C j, by decide, rfl, rfl, HROW0.out, But.refl _ _, HBS0.out, .inl rfl⟩
          case round =>
            clear hc
            obtain ⟨k, gj, cj, hk, rfl, rfl, hG⟩ := hrel
            have HG := hide hG
            clear hG
            by_cases hlk : k < 20
            · have hik : (k : Int) < 20 := by omega
              have hc := HARW.out wr HG.out.2.1
              have hbt := block_lt_of_cell hc
              have hmk : (j : Int) * 1000 + ((L j).length : Int) + (k : Int) = idJ j ((L j).length + k) := by unfold idJ; omega
              have HS : Hid (gr j ((L j).length + k) ++ [⟨idJ j ((L j).length + k), 0, 0, 0⟩] = gr j ((L j).length + (k + 1))) := (gr_succ j ((L j).length + k)).symm
              have HSP : Hid (∃ m, gr j ((L j).length + k) = gr j (L j).length ++ m) := ⟨(gr j ((L j).length + k)).drop (L j).length, by
                have e : (gr j ((L j).length + k)).take (L j).length = gr j (L j).length := by simp [gr, ← List.map_take, List.take_range]
                rw [← e]; exact (List.take_append_drop _ _).symm⟩
              have hz := gr_length j ((L j).length + k)
              have hzn := gr_length j (L j).length
              generalize idJ j ((L j).length + k) = mm at *
              generalize gr j ((L j).length + k) = FL at *
              go_wp2_with (at_builtin; refine wpList_apJ' rfl _ _ rfl gj ((L j).length + k) cj FL ?q1 hz.symm (HG.out.1.keep ((Below.refl _ _).alloc (Nat.le_refl _) _)) ⟨wr.heap.size, 0, none⟩ 1 ⟨mm, 0, 0, 0⟩ ?q2 (fresh4 wr ⟨mm, 0, 0, 0⟩) (by omega) ?_)
              try case q1 => rfl
              try case q2 => rfl
              intro g cap' w2 hR hN hg hcase
              obtain ⟨m, hm⟩ := HSP.out
              have hst := inner_stepJ (m := m) (x := ⟨mm, 0, 0, 0⟩) HLTJ.out HG.out.2.1 HG.out.2.2.1 HG.out.2.2.2 (by rw [← hm]; exact hR) hg (by rw [size_alloc]; exact hcase)
              rw [HS.out] at hR
              have HR2 := hide hR
              have HST := hide hst
              clear hR hN hg hcase hst hm
              go_wp2
              go_roundw
              case rel => exact ⟨k + 1, _, cap', by omega, by go_num, rfl, HR2.out, HST.out⟩
              case measure => simp [intOf]; omega
            · obtain rfl : k = 20 := by omega
              have hAgx : Aj wr ag cg ((List.range j).map fun i => Value.slice (B i) ((L i).length + 20) (D i)) := HP.out.1.but HG.out.2.1 fun x hx ⟨y, hy, e⟩ => HP.out.1.ne HROW0.out hx hy e.symm
              have hvl : ((List.range j).map fun i => Value.slice (B i) ((L i).length + 20) (D i)).length = j := by simp
              have HAG := hide hAgx
              have HNX : Hid (∀ w3 ag' cg' o, Aj w3 ag' cg' (((List.range j).map fun i => Value.slice (B i) ((L i).length + 20) (D i)) ++ [.slice gj ((L j).length + 20) cj]) → New (wr.alloc o) ag ag' → (wr.alloc o).grownBy w3 (ag.map Addr.block) → Q3 w w3 n A C (fun i => (L i).length) (j + 1) ag' cg' (fun i => if i = j then gj else B i) (fun i => if i = j then cj else D i)) :=
                fun w3 ag' cg' o h1 h2 h3 => HP.out.next HD.out HA0.out hlt HG.out.2.1 HG.out.1 HG.out.2.2.1 HG.out.2.2.2 h1 h2 h3
              clear hAgx
              generalize ((List.range j).map fun i => Value.slice (B i) ((L i).length + 20) (D i)) = vs at *
              go_wp2_with (at_builtin; refine wpList_apRootL rfl _ _ rfl ag j cg vs ?r1 hvl.symm (HAG.out.keep ((Below.refl _ _).alloc (Nat.le_refl _) _)) ⟨wr.heap.size, 0, none⟩ 1 (.slice gj ((L j).length + 20) cj) ?r2 ?r3 rfl (by omega) ?_)
              try case r1 => rfl
              try case r2 => rfl
              try case r3 => simp
              intro g cap' w2 hR hN hg
              have HQ := hide (HNX.out w2 _ cap' _ hR hN hg)
              clear hR hN hg
              go_wp2
              go_roundw
              case rel => exact ⟨j + 1, _, cap', _, _, by omega, by go_num, rfl, HQ.out⟩
              case measure => simp [intOf]; omega
        · obtain rfl : n = j := by omega
          go_wp2
          generalize hW : wr = W at *
          go_loopw [9, 10] (fun i _ wx => ∃ j : Nat, j ≤ n ∧ i = .int .i64 j ∧ wx = W) (fun i _ _ => n - (intOf i).toNat)
          case atStart => exact ⟨0, Nat.zero_le _, rfl, rfl⟩
          case round =>
            obtain ⟨j, hj, rfl, hwW⟩ := hrel
            subst hwW
            by_cases hlt : j < n
            · have hi : (j : Int) < (n : Int) := by omega
              have hlj := HL.out j hlt
              obtain ⟨bt', hat, hc⟩ := ARR.out _ HP.out.2.2.2.2.1 j hlt
              obtain ⟨gg, hag, hcg⟩ := HP.out.1.cell (i := j) (v := .slice (B j) ((L j).length + 20) (D j)) (by simp [hlt])
              subst hat hag
              obtain ⟨hrow, hbs, _⟩ := HP.out.2.1 j hlt
              obtain ⟨g, hBj, hle, hmx⟩ := hrow.addr (by rw [gr_length]; omega)
              rw [hBj] at hcg hrow
              have HROW := hide hrow
              have HBS := hide hbs
              clear hrow hbs hBj
              unfold maxLen at hmx
              rw [gr_length] at hle
              go_wp2
              go_loopw [10] (fun k' wx => ∃ k : Nat, k ≤ (L j).length + 20 ∧ k' = .int .i64 k ∧ wx = wr) (fun k' _ => (L j).length + 20 - (intOf k').toNat)
              case atStart => exact ⟨0, Nat.zero_le _, rfl, rfl⟩
              case round =>
                obtain ⟨k, hk, rfl, hwW⟩ := hrel
                subst hwW
                by_cases hlk : k < (L j).length + 20
                · have hik : (k : Int) < ((L j).length : Int) + 20 := by omega
                  have hcell := HROW.out.idAt (k := k) (by rw [gr_length]; exact hlk)
                  rw [gr_get j _ k hlk] at hcell
                  have hmk : (j : Int) * 1000 + (k : Int) = idJ j k := rfl
                  change _ = some (Value.int IntKind.i64 (idJ j k)) at hcell
                  by_cases hkl : k < (L j).length
                  · have hkl2 : (k : Int) < ((L j).length : Int) := by omega
                    obtain ⟨ba, oa, hAj, hra⟩ := HBS.out.at (r := k) (by rw [gr_length]; exact hkl)
                    have hca := (range4 hra).1
                    rw [gr_get j _ k hkl] at hca
                    change _ = some (Value.int IntKind.i64 (idJ j k)) at hca
                    rw [hAj] at hc
                    clear hra
                    generalize idJ j k = mm at *
                    go_wp2
                    go_roundw
                    case rel => exact ⟨k + 1, by omega, by go_num, trivial⟩
                    case measure => simp [intOf]; omega
                  · have hkl2 : ¬ (k : Int) < ((L j).length : Int) := by omega
                    generalize idJ j k = mm at *
                    go_wp2
                    go_roundw
                    case rel => exact ⟨k + 1, by omega, by go_num, trivial⟩
                    case measure => simp [intOf]; omega
                · obtain rfl : k = (L j).length + 20 := by omega
                  go_wp2
                  go_roundw
                  case rel => exact ⟨j + 1, by omega, by go_num, trivial⟩
                  case measure => simp [intOf]; omega
            · obtain rfl : n = j := by omega
              go_wp2
              go_ret
              exact ⟨rfl, HP.out.2.2.2.2.1⟩
end Go.Proofs.Ytifhkfghjifecaa
