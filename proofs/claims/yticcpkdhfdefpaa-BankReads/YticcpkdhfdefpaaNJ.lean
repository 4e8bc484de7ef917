import Derived.Test.YticcpkdhfdefpaaNH
namespace Go.Proofs.Yticcpkdhfdefpaa
open Go.RowKit

/-! ### a list of numbers is appended -/
theorem vi_one (l : List Int) : ∀ u ∈ vi l, u.oneCell' = true := by
  intro u hu
  obtain ⟨x, _, rfl⟩ := List.mem_map.1 hu
  rfl
theorem run_apInts (w : World) (ty : TypeId) (a : Option Addr) (n cap : Nat) (l : List Int) (hn : n = l.length) (hR : Ig w a cap l) (b : Option Addr) (m c : Nat) (k : List Int) (hm : m = k.length) (hI : Ir w b k) (hp : 0 < k.length) (hlen : l.length + k.length ≤ 17592186044416) :
    ∃ g cap' w', (Builtin.append_ #[22, 22] ty #[.slice a n cap, .slice b m c]).run Try.prog w = .ok (.slice (some ⟨g, 0, none⟩) (n + m) cap') w' ∧
      Ig w' (some ⟨g, 0, none⟩) cap' (l ++ k) ∧ New w a (some ⟨g, 0, none⟩) ∧ w.grownBy w' (a.map Addr.block) := by
  subst hn hm
  obtain ⟨bk, off, rfl, _⟩ := hI.at (j := 0) hp
  obtain ⟨i0, hi, hz0, hz1, hz2⟩ := info_parts infoI64
  have hc : ∀ j u, (vi k)[j]? = some u → w.cell? ((⟨bk, off, none⟩ : Addr).add j) = some u := by
    intro j u hj
    have hlt : j < k.length := by have := (List.getElem?_eq_some_iff.1 hj).1; rwa [vi_length] at this
    rw [vi_get _ _ hlt, Option.some.injEq] at hj
    subst hj
    obtain ⟨b', o', e, hc⟩ := hI.at hlt
    cases e
    rw [Addr.add_mid]
    exact hc
  obtain ⟨g, cap', w', hr, k1, k2, k3, k4⟩ := run_append_lies (P := Try.prog) w 22 ty 0 3 i0 (.int .i64 0) 1 8 Try.underlying22 hi hz0 hz1 hz2 rfl (by decide) (.slice a l.length cap) l.length (vi l) hR ⟨bk, off, none⟩ k.length c (vi k) (by rw [Nat.mul_one, vi_length])
    hc (vi_one _) hp (by unfold maxLen; omega) (by omega) (Nat.zero_le _) w.heap.size rfl
  rw [ob_eq] at k2 k3
  refine ⟨g, cap', w', hr, ?_, ?_, k2⟩
  · unfold Ig
    rw [List.length_append, vi_append]
    exact k1
  · intro y hy
    simp only [Option.some.injEq] at hy
    subst hy
    rcases k3 with k3 | k3
    · obtain ⟨z, hz, e⟩ := map_some k3
      exact .inl ⟨z, hz, e⟩
    · exact .inr (by show _ ≤ g; omega)
theorem wpList_apInts {w : World} {ops : Array Oper} {rest : List Oper} {o : Oper} {a : Act} {Q : Exit → Act → World → Prop} (hgd : o.guard = none) (s x : Operand)
    (ho : o.op = .call { callee := .builtin .append, args := #[s, x], argTypes := #[22, 22] }) (ao : Option Addr) (n cap : Nat) (l : List Int) (hs : a.eval s = .slice ao n cap) (hn : n = l.length) (hR : Ig w ao cap l)
    (b : Option Addr) (m c : Nat) (k : List Int) (hx : a.eval x = .slice b m c) (hm : m = k.length) (hI : Ir w b k) (hp : 0 < k.length) (hlen : l.length + k.length ≤ 17592186044416)
    (h : ∀ g cap' w', Ig w' (some ⟨g, 0, none⟩) cap' (l ++ k) → New w ao (some ⟨g, 0, none⟩) → w.grownBy w' (ao.map Addr.block) → wpList Try.prog ops Q rest (a.put o.dst (.slice (some ⟨g, 0, none⟩) (n + m) cap')) w') : wpList Try.prog ops Q (o :: rest) a w := by
  refine wpList_plain hgd fun K hK => ?_
  obtain ⟨g, cap', w', hr, k1, k2, k3⟩ := run_apInts w o.type ao n cap l hn hR b m c k hm hI hp hlen
  unfold Oper.wp execOp
  simp only [ho, resolve, invoke, builtin, Sem.run_bind, Sem.run_pure, Result.andThen_ok, List.map_toArray, List.map_cons, List.map_nil, hs, hx, hr]
  exact hK _ _ (h g cap' w' k1 k2 k3)

/-! ### lists of bytes that can be read -/
def Br0 : Br := ⟨none, 0, []⟩
structure Bl (w : World) (a : Option Addr) (T : List Br) : Prop where
  c : ∀ j, j < T.length → ∃ b off, a = some ⟨b, off, none⟩ ∧ w.cell? ⟨b, off + j, none⟩ = some (bv (T.getD j Br0))
  r : ∀ t ∈ T, Bs w t.a t.l ∧ t.l.length ≤ t.c
theorem Bl.keep {w w' : World} {a : Option Addr} {T : List Br} (h : Bl w a T) (hb : Below w.heap.size w w') : Bl w' a T :=
  ⟨fun j hj => by
    obtain ⟨b, off, e, hc⟩ := h.c j hj
    exact ⟨b, off, e, (hb.cell (p := ⟨b, off + j, none⟩) (block_lt_of_cell hc)).trans hc⟩, fun t ht => ⟨(h.r t ht).1.keep hb, (h.r t ht).2⟩⟩
theorem Rw.cap_le {w : World} {a : Option Addr} {c : Nat} {l : List Nat} (h : Rw w a c l) : l.length ≤ c := by
  rcases h.cases with ⟨_, rfl, rfl⟩ | ⟨g, cur, _, _, h1, _⟩
  · exact Nat.le_refl _
  · exact h1
theorem Lb.bl {w W : World} {a : Option Addr} {c : Nat} {T : List Br} (h : Lb w W a c T) : Bl W a T :=
  ⟨fun j hj => by
    obtain ⟨g, e, hc⟩ := h.x.r.cell (i := j) (v := bv (T.getD j Br0)) (by simp [hj])
    exact ⟨g, 0, e, by rw [Nat.zero_add]; exact hc⟩, fun t ht => ⟨(h.f.own t ht).1.r.bs (h.f.own t ht).2 (h.f.own t ht).1.r.len_le, (h.f.own t ht).1.r.cap_le⟩⟩
theorem map_getD (T : List Br) (j : Nat) : (T.map Br.l).getD j [] = (T.getD j Br0).l := by
  by_cases h : j < T.length
  · simp [h]
  · simp [h, Br0]
theorem Br0_mem {T : List Br} {j : Nat} (h : j < T.length) : T.getD j Br0 ∈ T := by simp [h]
/-- what Decode answers -/
def DeQ (w : World) (gen pages : Int) (B : List (List Nat)) (y : Ending) (w' : World) : Prop := ∃ a c, y = .returned (.tuple #[.slice a (deC gen pages B).length c, .int .i64 (deE gen pages B : Int)]) ∧ IOwn w w' a c (deC gen pages B)
theorem deQ_err {w w' : World} {gen pages : Int} {B : List (List Nat)} (h : deE gen pages B ≠ 0) (hb : Below w.heap.size w w') : DeQ w gen pages B (.returned (.tuple #[.slice none 0 0, .int .i64 (deE gen pages B : Int)])) w' :=
  ⟨none, 0, by unfold deC; rw [if_neg h]; rfl, by unfold deC; rw [if_neg h]; exact ⟨Ig.nil _, New.none _ _, hb⟩⟩
set_option maxRecDepth 8000 in
set_option maxHeartbeats 1600000 in
theorem Decode_args (w : World) (gen pages : Int) (a : Option Addr) (n c : Nat) (B : List (List Nat)) (hn : n = B.length) (hp : pages ≤ 9223372036854775807) (ha : deA gen pages B.length = false) :
    Calls Try.prog 17 #[.int .i64 gen, .int .i64 pages, .slice a n c] w (DeQ w gen pages B) := by
  have h1 : deE gen pages B = 1 := by unfold deE; rw [if_pos ha]
  have HD := hide (fun w' hb => deQ_err (w := w) (w' := w') (gen := gen) (pages := pages) (B := B) (by rw [h1]; decide) hb)
  rw [h1] at HD
  have IG := hide fun w1 => nGen_any w1 gen
  have IP := hide fun w1 => nPg_any w1 pages
  have BL := hide fun w1 => Blocks_any w1 pages hp
  unfold deA at ha
  cases hg : isGen gen with
  | false =>
    rw [hg] at IG
    clear h1 ha hg hn
    go_enter Try.func17, Try.ntmps17
    go_wp2_with (go_at_call 26; refine (IG.out _).mono ?_; rintro y w1 ⟨rfl, hww⟩; obtain rfl := hww.symm)
    go_ret2
    exact HD.out _ (Below.refl _ _)
  | true =>
    rw [hg] at IG
    cases hpg : isPg pages with
    | false =>
      rw [hpg] at IP
      clear h1 ha hg hpg hn
      go_enter Try.func17, Try.ntmps17
      go_wp2_with (first | (go_at_call 26; refine (IG.out _).mono ?_; rintro y w1 ⟨rfl, hww⟩; obtain rfl := hww.symm) | (go_at_call 32; refine (IP.out _).mono ?_; rintro y w1 ⟨rfl, hww⟩; obtain rfl := hww.symm))
      go_ret2
      exact HD.out _ (Below.refl _ _)
    | true =>
      rw [hpg] at IP
      have hne : (((n : Nat) : Int) == ((nbl pages.toNat : Nat) : Int)) = false := by
        rw [hg, hpg] at ha
        rw [beqn, hn]
        simpa using ha
      clear h1 ha hg hpg hn
      generalize nbl pages.toNat = N at *
      go_enter Try.func17, Try.ntmps17
      go_wp2_with (first | (go_at_call 26; refine (IG.out _).mono ?_; rintro y w1 ⟨rfl, hww⟩; obtain rfl := hww.symm) | (go_at_call 32; refine (IP.out _).mono ?_; rintro y w1 ⟨rfl, hww⟩; obtain rfl := hww.symm) | (go_at_call 8; refine (BL.out _).mono ?_; rintro y w1 ⟨rfl, hww⟩; obtain rfl := hww.symm))
      go_ret2
      exact HD.out _ (Below.refl _ _)
theorem bkC_pos {gen pages i : Int} {b : List Nat} (h : bkE gen pages i b = 0) : 0 < (bkC gen pages i b).length := by
  obtain ⟨ha, _⟩ := bkE_zero h
  obtain ⟨_, hp, hi, hi2⟩ := argsOk_iff.1 ha
  unfold bkC
  rw [if_pos h, List.length_map, cnt_length]
  exact cin_pos (by omega)
set_option maxRecDepth 8000 in
set_option maxHeartbeats 6400000 in
theorem Decode_go (w : World) (gen pages : Int) (a : Option Addr) (c : Nat) (T : List Br) (hB : Bl w a T) (ha : deA gen pages T.length = true) :
    Calls Try.prog 17 #[.int .i64 gen, .int .i64 pages, .slice a T.length c] w (DeQ w gen pages (T.map Br.l)) := by
  have hda : deE gen pages (T.map Br.l) = firstE (fun j => bkE gen pages (j : Int) ((T.map Br.l).getD j [])) T.length := by
    unfold deE; rw [List.length_map, if_neg (by rw [ha]; simp)]
  unfold deA at ha
  simp only [Bool.and_eq_true, decide_eq_true_eq] at ha
  obtain ⟨⟨hg, hpg⟩, hn⟩ := ha
  have hpp := isPg_iff.1 hpg
  have IG := hide fun w1 => nGen_any w1 gen
  have IP := hide fun w1 => nPg_any w1 pages
  have BL := hide fun w1 => Blocks_any w1 pages (by omega)
  rw [hg] at IG
  rw [hpg] at IP
  rw [← hn] at BL
  have ht : T.length ≤ 274 := by rw [hn]; unfold nbl; omega
  have HDA := hide hda
  have HB := hide hB
  have HP := hide hpp.2
  clear hda hn hg hpg hpp hB
  go_enter Try.func17, Try.ntmps17
  go_wp2_with (first | (go_at_call 26; refine (IG.out _).mono ?_; rintro y w1 ⟨rfl, hww⟩; obtain rfl := hww.symm) | (go_at_call 32; refine (IP.out _).mono ?_; rintro y w1 ⟨rfl, hww⟩; obtain rfl := hww.symm) | (go_at_call 8; refine (BL.out _).mono ?_; rintro y w1 ⟨rfl, hww⟩; obtain rfl := hww.symm))
  go_loopw [8, 30] (fun o q wx => ∃ (j : Nat) (aj : Option Addr) (cj : Nat), j ≤ T.length ∧ q = .int .i64 j ∧ o = .slice aj (deTo gen pages (T.map Br.l) j).length cj ∧ IOwn w wx aj cj (deTo gen pages (T.map Br.l) j) ∧ firstE (fun j => bkE gen pages (j : Int) ((T.map Br.l).getD j [])) j = 0) (fun _ q _ => T.length - (intOf q).toNat)
  case atStart => exact ⟨0, none, 0, Nat.zero_le _, rfl, rfl, ⟨Ig.nil _, New.none _ _, Below.refl _ _⟩, rfl⟩
  case round =>
    obtain ⟨j, aj, cj, hj, rfl, rfl, hO, hF⟩ := hrel
    have O := hide hO
    have F := hide hF
    clear hO hF
    have hdl := deTo_length gen pages (T.map Br.l) j
    have DS := hide (deTo_succ gen pages (T.map Br.l) j)
    by_cases hlt : j < T.length
    · have hlti : (j : Int) < (T.length : Int) := by omega
      obtain ⟨b1, o1, rfl, cA⟩ := (HB.out.keep O.out.b).c j hlt
      have hr := HB.out.r _ (Br0_mem hlt)
      have FST : Hid (bkE gen pages (j : Int) (T.getD j Br0).l ≠ 0 → firstE (fun j => bkE gen pages (j : Int) ((T.map Br.l).getD j [])) T.length = bkE gen pages (j : Int) (T.getD j Br0).l) := by
        intro hk
        have h := firstE_stop (f := fun j => bkE gen pages (j : Int) ((T.map Br.l).getD j [])) (k := j) F.out (by show bkE gen pages (j : Int) ((T.map Br.l).getD j []) ≠ 0; rw [map_getD]; exact hk) T.length hlt
        rw [h]
        show bkE gen pages (j : Int) ((T.map Br.l).getD j []) = _
        rw [map_getD]
      have FN : Hid (bkE gen pages (j : Int) ((T.map Br.l).getD j []) = 0 → firstE (fun j => bkE gen pages (j : Int) ((T.map Br.l).getD j [])) (j + 1) = 0) := by
        intro h
        unfold firstE
        rw [if_neg (by rw [F.out]; simp)]
        exact h
      have BK := hide fun (w1 : World) (hb : Below w.heap.size w w1) => Block_any w1 gen pages (j : Int) (T.getD j Br0).a (T.getD j Br0).l.length (T.getD j Br0).c (T.getD j Br0).l (hr.1.keep hb) rfl hr.2 (by have := HP.out; omega)
      rw [map_getD] at DS FN
      unfold bv at cA
      generalize T.getD j Br0 = t at *
      have HPO := hide (fun h => bkC_pos (gen := gen) (pages := pages) (i := (j : Int)) (b := t.l) h)
      have hbl := @bkC_length gen pages (j : Int) t.l
      unfold BkQ at BK
      by_cases hE : bkE gen pages (j : Int) t.l = 0
      · have hpos := HPO.out hE
        have FN := hide (FN.out hE)
        rw [hE] at BK
        generalize bkC gen pages (j : Int) t.l = BC at *
        generalize hDT : deTo gen pages (T.map Br.l) j = DT at *
        go_wp2_with fail
        refine (BK.out _ O.out.b).mono ?_
        rintro y w2 ⟨a2, c2, rfl, hO2⟩
        have O2 := hide hO2
        clear hO2
        go_wp2_with (at_builtin; refine wpList_apInts rfl _ _ rfl aj DT.length cj DT ?r1 rfl (O.out.r.keep O2.out.b) a2 BC.length c2 BC ?r2 rfl O2.out.r.ir hpos (by omega) ?_)
        try case r1 => rfl
        try case r2 => rfl
        intro g c3 w3 hR hN hg
        have O3 := hide (O.out.step O2.out.b hR hN hg)
        clear hR hN hg
        go_wp2
        go_roundw
        case rel => exact ⟨j + 1, _, c3, by omega, by go_num, by rw [DS.out, List.length_append], by rw [DS.out]; exact O3.out, FN.out⟩
        case measure => simp [intOf]; omega
      · have hE' : (((bkE gen pages (j : Int) t.l : Nat) : Int) == 0) = false := by simpa using hE
        have HD := hide (fun w' hb => deQ_err (w := w) (w' := w') (gen := gen) (pages := pages) (B := T.map Br.l) (by rw [HDA.out, FST.out hE]; exact hE) hb)
        rw [HDA.out, FST.out hE] at HD
        generalize bkE gen pages (j : Int) t.l = E at *
        go_wp2_with fail
        refine (BK.out _ O.out.b).mono ?_
        rintro y w2 ⟨a2, c2, rfl, hO2⟩
        have O2 := hide hO2
        clear hO2
        go_wp2
        go_ret2
        exact HD.out _ (bt O.out.b O2.out.b)
    · obtain rfl : j = T.length := by omega
      go_wp2
      go_ret2
      have h0 : deE gen pages (T.map Br.l) = 0 := by rw [HDA.out]; exact F.out
      have h1 : deC gen pages (T.map Br.l) = deTo gen pages (T.map Br.l) T.length := by unfold deC; rw [if_pos h0, List.length_map]
      refine ⟨aj, cj, ?_, by rw [h1]; exact O.out⟩
      rw [h0, h1]
      rfl
theorem Decode_any (w : World) (gen pages : Int) (a : Option Addr) (n c : Nat) (T : List Br) (hB : Bl w a T) (hn : n = T.length) (hp : pages ≤ 9223372036854775807) :
    Calls Try.prog 17 #[.int .i64 gen, .int .i64 pages, .slice a n c] w (DeQ w gen pages (T.map Br.l)) := by
  subst hn
  cases ha : deA gen pages T.length with
  | false => exact Decode_args w gen pages a T.length c (T.map Br.l) (by rw [List.length_map]) hp (by rw [List.length_map]; exact ha)
  | true => exact Decode_go w gen pages a c T hB ha
end Go.Proofs.Yticcpkdhfdefpaa
