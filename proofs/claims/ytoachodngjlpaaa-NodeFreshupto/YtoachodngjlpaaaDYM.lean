import Derived.Test.YtoachodngjlpaaaDYN
namespace Go.Proofs.Ytoachodngjlpaaa
set_option linter.unusedVariables false
set_option linter.unusedSimpArgs false
open Go.RowKit
set_option maxRecDepth 100000 in
set_option maxHeartbeats 8000000 in
theorem papart_some (w : World) (gp ct n : Nat) (pcs : Array Value) (A : Nat → Option Addr) (C : Nat → Nat) (L : Nat → List Iv) (hG : Bx w 25 gp pcs) (hAr : ∀ i, i < n → w.cell? ⟨gp, i * 5 + 2, none⟩ = some (.slice (A i) (L i).length (C i))) (hct : n ≤ ct) (hR : RowsJ w n A C L) (hd : Dist n A) (hn : n ≤ 1000) (hl : ∀ i, i < n → (L i).length ≤ 100000000) :
    Calls Try.prog 15 #[.slice (some ⟨gp, 0, none⟩) n ct] w fun x w' => x = .returned (.bool true) ∧ But (InRows n A) w w' := by
  have HA := hide hAr
  have HR := hide hR
  have HD := hide hd
  have HL := hide hl
  have arr : ∀ wx, But (InRows n A) w wx → ∀ i, i < n → wx.cell? ⟨gp, i * 5 + 2, none⟩ = some (.slice (A i) (L i).length (C i)) := by
    intro wx hb i hi
    have e := hb.block gp hG.lt (fun ⟨q, hq, y, hy, e⟩ => (HR.out q hq).nty hG (by decide) hy e)
    rw [← HA.out i hi]
    unfold World.cell?
    dsimp only
    rw [e]
  have ARR := hide arr
  clear hAr hR hd hl arr hG
  go_enter Try.func15, Try.ntmps15
  go_wp2
  go_loopw [3, 4] (fun i _ wx => ∃ j : Nat, j ≤ n ∧ i = .int .i64 j ∧ (RowsJ wx n A C (fun i => if i < j then gr i (L i).length else L i) ∧ But (InRows n A) w wx)) (fun i _ _ => n - (intOf i).toNat)
  case atStart => exact ⟨0, Nat.zero_le _, rfl, HR.out.congr fun i _ => by simp, But.refl _ _⟩
  case round =>
    obtain ⟨j, hj, rfl, hG⟩ := hrel
    have HG := hide hG
    clear hG
    by_cases hlt : j < n
    · have hi : (j : Int) < (n : Int) := by omega
      have hc := ARR.out wr HG.out.2 j hlt
      have hlj := HL.out j hlt
      go_wp2
      go_loopw [4] (fun k' wx => ∃ k : Nat, k ≤ (L j).length ∧ k' = .int .i64 k ∧ (RowsJ wx n A C (fun i => if i < j then gr i (L i).length else if i = j then gr j k ++ (L j).drop k else L i) ∧ But (InRows n A) w wx)) (fun k' _ => (L j).length - (intOf k').toNat)
      case atStart =>
        refine ⟨0, Nat.zero_le _, rfl, HG.out.1.congr fun i _ => ?_, HG.out.2⟩
        by_cases e : i = j
        · subst e; simp [gr]
        · simp [e]
      case round =>
        clear hc
        obtain ⟨k, hk, rfl, hG2⟩ := hrel
        have HG2 := hide hG2
        clear hG2
        have hc := ARR.out wr HG2.out.2 j hlt
        by_cases hlk : k < (L j).length
        · have hik : (k : Int) < ((L j).length : Int) := by omega
          have hrow := HG2.out.1 j hlt
          simp only [Nat.lt_irrefl, if_false, if_true] at hrow
          have hrl : (gr j k ++ (L j).drop k).length = (L j).length := by rw [List.length_append, gr_length, List.length_drop]; omega
          obtain ⟨g, hAj, _, _⟩ := hrow.addr (by rw [hrl]; omega)
          rw [hAj] at hc hrow
          obtain ⟨⟨e0, e1, e2, e3⟩, f0, f1, f2, f3⟩ := hrow.item4 (k := k) (by rw [hrl]; exact hlk)
          generalize (gr j k ++ (L j).drop k).getD k Iv.zero = iv at *
          have hmk : (j : Int) * 1000 + (k : Int) = idJ j k := rfl
          have HSS := hide (hset_step j k (L j) hlk)
          have HAJ := hide hAj
          have HXX := hide (HG2.out.1.set HD.out hlt HAJ.out k (mkJ j k))
          have HBU := hide (HG2.out.2.trans (show But (fun x => x = g) wr (wr.setCells g (k * 4) (mkJ j k).cs.toList) from but_setCells _ _ _ _) fun x _ e => ⟨j, hlt, _, HAJ.out, e.symm⟩)
          rw [nest4] at HXX HBU
          unfold mkJ at HXX HBU HSS
          dsimp only [List.length_nil] at HXX HBU
          clear hAj hrow hrl
          generalize idJ j k = mm at *
          go_wp2
          go_roundw
          case rel =>
            refine ⟨k + 1, by omega, by go_num, HXX.out.congr fun i hi => ?_, HBU.out⟩
            by_cases e : i = j
            · subst e; simp only [if_true, Nat.lt_irrefl, if_false]; exact HSS.out
            · simp only [e, if_false]
          case measure => simp [intOf]; omega
        · obtain rfl : k = (L j).length := by omega
          go_wp2
          go_roundw
          case rel =>
            refine ⟨j + 1, by omega, by go_num, HG2.out.1.congr fun i hi => ?_, HG2.out.2⟩
            by_cases e : i = j
            · subst e; simp
            · by_cases e2 : i < j
              · rw [if_pos e2, if_pos (by omega)]
              · rw [if_neg e2, if_neg e, if_neg (by omega)]
          case measure => simp [intOf]; omega
    · obtain rfl : n = j := by omega
      have hA0 : ∀ i, i < n → ∀ x, A i = some x → x.block < w.heap.size := fun i hi x hx => (HR.out i hi).lt hx
      have HA0 := hide hA0
      have H1 : Hid (Q3 w wr n A C (fun i => (L i).length) 0 none 0 (fun _ => none) (fun _ => 0)) := ⟨Aj.nil _, fun i hi => by omega, fun i _ hi => by have := HG.out.1 i hi; dsimp only at this; rwa [if_pos hi] at this, fun i i' _ hi' => by omega, HG.out.2, New.none _ _⟩
      clear hA0 HG
      go_wp2
      go_loopw [5, 6, 7, 8] (fun gr i _ _ wx => ∃ (j : Nat) (ag : Option Addr) (cg : Nat) (B : Nat → Option Addr) (D : Nat → Nat), j ≤ n ∧ i = .int .i64 j ∧ gr = .slice ag j cg ∧ Q3 w wx n A C (fun i => (L i).length) j ag cg B D) (fun _ i _ _ _ => n - (intOf i).toNat)
      case atStart => exact ⟨0, none, 0, _, _, Nat.zero_le _, rfl, rfl, H1.out⟩
      case round =>
        clear H1
        obtain ⟨j, ag, cg, B, D, hj, rfl, rfl, hP⟩ := hrel
        have HP := hide hP
        clear hP
        by_cases hlt : j < n
        · have hi : (j : Int) < (n : Int) := by omega
          have hlj := HL.out j hlt
          have hc := ARR.out wr HP.out.2.2.2.2.1 j hlt
          have hrow0 := HP.out.2.2.1 j (Nat.le_refl _) hlt
          have HROW0 := hide hrow0
          have HBS0 := hide hrow0.jd
          have HLTJ : Hid (∀ y, A j = some y → y.block < wr.heap.size) := fun y hy => hrow0.lt hy
          have HARW : Hid (∀ wx, But (fun q => ∃ y, A j = some y ∧ y.block = q) wr wx → wx.cell? ⟨gp, j * 5 + 2, none⟩ = some (.slice (A j) (L j).length (C j))) := fun wx hb => ARR.out wx (HP.out.2.2.2.2.1.trans hb fun x _ ⟨y, hy, e⟩ => ⟨j, hlt, y, hy, e⟩) j hlt
          clear hrow0
          go_wp2
          generalize hW : wr = W at *
          go_loopw [7, 8] (fun gv k' wx => ∃ (k : Nat) (gj : Option Addr) (cj : Nat), k ≤ 12 ∧ k' = .int .i64 k ∧ gv = .slice gj ((L j).length + k) cj ∧ (Jw wx gj cj (gr j ((L j).length + k)) ∧ (But (fun q => ∃ y, A j = some y ∧ y.block = q) W wx ∧ Jd wx (A j) (gr j (L j).length) ∧ (gj = A j ∨ ∀ y, gj = some y → W.heap.size ≤ y.block)))) (fun _ k' _ => 12 - (intOf k').toNat)
          case atStart => exact ⟨0, A j, C j, by decide, rfl, rfl, HROW0.out, But.refl _ _, HBS0.out, .inl rfl⟩
          case round =>
            clear hc
            obtain ⟨k, gj, cj, hk, rfl, rfl, hG⟩ := hrel
            have HG := hide hG
            clear hG
            by_cases hlk : k < 12
            · have hik : (k : Int) < 12 := by omega
              have hc := HARW.out wr HG.out.2.1
              have hbt := block_lt_of_cell hc
              have hmk : (j : Int) * 1000 + ((L j).length : Int) + (k : Int) = idJ j ((L j).length + k) := by unfold idJ; omega
              have HS : Hid (gr j ((L j).length + k) ++ [⟨none, 0, [], none, 0, [], idJ j ((L j).length + k), 0⟩] = gr j ((L j).length + (k + 1))) := (gr_succ j ((L j).length + k)).symm
              have HSP : Hid (∃ m, gr j ((L j).length + k) = gr j (L j).length ++ m) := ⟨(gr j ((L j).length + k)).drop (L j).length, by
                have e : (gr j ((L j).length + k)).take (L j).length = gr j (L j).length := by simp [gr, ← List.map_take, List.take_range]
                rw [← e]; exact (List.take_append_drop _ _).symm⟩
              have hz := gr_length j ((L j).length + k)
              have hzn := gr_length j (L j).length
              generalize idJ j ((L j).length + k) = mm at *
              generalize gr j ((L j).length + k) = FL at *
              go_wp2_with (at_builtin; refine wpList_apJ' rfl _ _ rfl gj ((L j).length + k) cj FL ?q1 hz.symm (HG.out.1.keep ((Below.refl _ _).alloc (Nat.le_refl _) _)) ⟨wr.heap.size, 0, none⟩ 1 ⟨none, 0, [], none, 0, [], mm, 0⟩ ?q2 (box_item wr ⟨none, 0, [], none, 0, [], mm, 0⟩ _ rfl) (by omega) ?_)
              try case q1 => rfl
              try case q2 => rfl
              intro g cap' w2 hR hN hg hcase
              obtain ⟨m, hm⟩ := HSP.out
              have hst := inner_stepJ (m := m) (x := ⟨none, 0, [], none, 0, [], mm, 0⟩) HLTJ.out HG.out.2.1 HG.out.2.2.1 HG.out.2.2.2 (by rw [← hm]; exact hR) hg (by rw [size_alloc]; exact hcase)
              rw [HS.out] at hR
              have HR2 := hide hR
              have HST := hide hst
              clear hR hN hg hcase hst hm
              go_wp2
              go_roundw
              case rel => exact ⟨k + 1, _, cap', by omega, by go_num, rfl, HR2.out, HST.out⟩
              case measure => simp [intOf]; omega
            · obtain rfl : k = 12 := by omega
              have hAgx : Aj wr ag cg ((List.range j).map fun i => Value.slice (B i) ((L i).length + 12) (D i)) := HP.out.1.but HG.out.2.1 fun x hx ⟨y, hy, e⟩ => HP.out.1.ne HROW0.out hx hy e.symm
              have hvl : ((List.range j).map fun i => Value.slice (B i) ((L i).length + 12) (D i)).length = j := by simp
              have HAG := hide hAgx
              have HNX : Hid (∀ w3 ag' cg' o, Aj w3 ag' cg' (((List.range j).map fun i => Value.slice (B i) ((L i).length + 12) (D i)) ++ [.slice gj ((L j).length + 12) cj]) → New (wr.alloc o) ag ag' → (wr.alloc o).grownBy w3 (ag.map Addr.block) → Q3 w w3 n A C (fun i => (L i).length) (j + 1) ag' cg' (fun i => if i = j then gj else B i) (fun i => if i = j then cj else D i)) :=
                fun w3 ag' cg' o h1 h2 h3 => HP.out.next HD.out HA0.out hlt HG.out.2.1 HG.out.1 HG.out.2.2.1 HG.out.2.2.2 h1 h2 h3
              clear hAgx
              generalize ((List.range j).map fun i => Value.slice (B i) ((L i).length + 12) (D i)) = vs at *
              go_wp2_with (at_builtin; refine wpList_apItemL rfl _ _ rfl ag j cg vs ?r1 hvl.symm (HAG.out.keep ((Below.refl _ _).alloc (Nat.le_refl _) _)) ⟨wr.heap.size, 0, none⟩ 1 (.slice gj ((L j).length + 12) cj) ?r2 ?r3 rfl (by omega) ?_)
              try case r1 => rfl
              try case r2 => rfl
              try case r3 => simp
              intro g cap' w2 hR hN hg
              have HQ := hide (HNX.out w2 _ cap' _ hR hN hg)
              clear hR hN hg
              go_wp2
              go_roundw
              case rel => exact ⟨j + 1, _, cap', _, _, by omega, by go_num, rfl, HQ.out⟩
              case measure => simp [intOf]; omega
        · obtain rfl : n = j := by omega
          go_wp2
          generalize hW : wr = W at *
          go_loopw [9, 10] (fun i _ wx => ∃ j : Nat, j ≤ n ∧ i = .int .i64 j ∧ wx = W) (fun i _ _ => n - (intOf i).toNat)
          case atStart => exact ⟨0, Nat.zero_le _, rfl, rfl⟩
          case round =>
            obtain ⟨j, hj, rfl, hwW⟩ := hrel
            subst hwW
            by_cases hlt : j < n
            · have hi : (j : Int) < (n : Int) := by omega
              have hlj := HL.out j hlt
              have hc := ARR.out _ HP.out.2.2.2.2.1 j hlt
              obtain ⟨gg, hag, hcg⟩ := HP.out.1.cell (i := j) (v := .slice (B j) ((L j).length + 12) (D j)) (by simp [hlt])
              subst hag
              obtain ⟨hrow, hbs, _⟩ := HP.out.2.1 j hlt
              obtain ⟨g, hBj, hle, hmx⟩ := hrow.addr (by rw [gr_length]; omega)
              rw [hBj] at hcg hrow
              have HROW := hide hrow
              have HBS := hide hbs
              clear hrow hbs hBj
              unfold maxLen at hmx
              rw [gr_length] at hle
              go_wp2
              go_loopw [10] (fun k' wx => ∃ k : Nat, k ≤ (L j).length + 12 ∧ k' = .int .i64 k ∧ wx = wr) (fun k' _ => (L j).length + 12 - (intOf k').toNat)
              case atStart => exact ⟨0, Nat.zero_le _, rfl, rfl⟩
              case round =>
                obtain ⟨k, hk, rfl, hwW⟩ := hrel
                subst hwW
                by_cases hlk : k < (L j).length + 12
                · have hik : (k : Int) < ((L j).length : Int) + 12 := by omega
                  have hcell := (HROW.out.item4 (k := k) (by rw [gr_length]; exact hlk)).1.2.2.1
                  rw [gr_get j _ k hlk] at hcell
                  have hmk : (j : Int) * 1000 + (k : Int) = idJ j k := rfl
                  change _ = some (Value.int IntKind.i64 (idJ j k)) at hcell
                  by_cases hkl : k < (L j).length
                  · have hkl2 : (k : Int) < ((L j).length : Int) := by omega
                    obtain ⟨ba, oa, hAj, hra⟩ : ∃ b off, A j = some ⟨b, off, none⟩ ∧ ∀ k', k' < (gr j (L j).length).length → wr.cell? ⟨b, off + k' * 4 + 2, none⟩ = some (.int .i64 ((gr j (L j).length).getD k' Iv.zero).child) := by
                      rcases HBS.out with h0 | h0
                      · exact absurd (congrArg List.length h0) (fun e => by rw [gr_length, List.length_nil] at e; omega)
                      · exact h0
                    have hca := hra k (by rw [gr_length]; exact hkl)
                    rw [gr_get j _ k hkl] at hca
                    change _ = some (Value.int IntKind.i64 (idJ j k)) at hca
                    rw [hAj] at hc
                    clear hra
                    generalize idJ j k = mm at *
                    go_wp2
                    go_roundw
                    case rel => exact ⟨k + 1, by omega, by go_num, trivial⟩
                    case measure => simp [intOf]; omega
                  · have hkl2 : ¬ (k : Int) < ((L j).length : Int) := by omega
                    generalize idJ j k = mm at *
                    go_wp2
                    go_roundw
                    case rel => exact ⟨k + 1, by omega, by go_num, trivial⟩
                    case measure => simp [intOf]; omega
                · obtain rfl : k = (L j).length + 12 := by omega
                  go_wp2
                  go_roundw
                  case rel => exact ⟨j + 1, by omega, by go_num, trivial⟩
                  case measure => simp [intOf]; omega
            · obtain rfl : n = j := by omega
              go_wp2
              go_ret
              exact ⟨rfl, HP.out.2.2.2.2.1⟩
end Go.Proofs.Ytoachodngjlpaaa
