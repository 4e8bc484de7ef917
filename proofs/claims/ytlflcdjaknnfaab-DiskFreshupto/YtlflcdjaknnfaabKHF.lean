import Derived.Test.YtlflcdjaknnfaabKHE
import Derived.Test.YtlflcdjaknnfaabKT
namespace Go.Proofs.Ytlflcdjaknnfaab
open Go.RowKit

def vi (l : List Nat) : List Value := l.map fun x => Value.int .i64 ((x : Nat) : Int)
theorem vi_append (a b : List Nat) : vi (a ++ b) = vi a ++ vi b := by unfold vi; rw [List.map_append]
theorem vi_length (a : List Nat) : (vi a).length = a.length := by unfold vi; rw [List.length_map]
theorem vi_get (l : List Nat) (i : Nat) (hi : i < l.length) : (vi l)[i]? = some (.int .i64 ((l.getD i 0 : Nat) : Int)) := by simp [vi, hi]
/-- numbers in a block of their own, or nil -/
def Ig (w : World) (a : Option Addr) (cap : Nat) (l : List Nat) : Prop := w.ownsRow 0 3 1 (.slice a l.length cap) l.length (vi l)
theorem infoI64 : (Try.prog.info? 3).map (fun i => (i.zero, i.size, i.bytes)) = some (some (.int .i64 0), 1, 8) := by kernel_rfl
theorem Ig.nil (w : World) : Ig w none 0 [] := World.ownsRow_nil w 0 3 1
theorem Ig.keep {w w' : World} {a : Option Addr} {cap : Nat} {l : List Nat} (h : Ig w a cap l) (hb : Below w.heap.size w w') : Ig w' a cap l := own_but (T := fun _ => False) h (But.ofBelow hb) (fun _ _ h => h)
/-- numbers that can be read -/
def Ir (w : World) (a : Option Addr) (l : List Nat) : Prop := l = [] ∨ ∃ b off, a = some ⟨b, off, none⟩ ∧ ∀ i, i < l.length → w.cell? ⟨b, off + i, none⟩ = some (.int .i64 ((l.getD i 0 : Nat) : Int))
theorem Ir.keep {w w' : World} {a : Option Addr} {l : List Nat} (h : Ir w a l) (hb : Below w.heap.size w w') : Ir w' a l := by
  rcases h with h | ⟨b, off, rfl, hc⟩
  · exact .inl h
  · exact .inr ⟨b, off, rfl, fun i hi => (hb.cell (p := ⟨b, off + i, none⟩) (block_lt_of_cell (hc i hi))).trans (hc i hi)⟩
theorem Ir.at {w : World} {a : Option Addr} {l : List Nat} (h : Ir w a l) {j : Nat} (hj : j < l.length) : ∃ b off, a = some ⟨b, off, none⟩ ∧ w.cell? ⟨b, off + j, none⟩ = some (.int .i64 ((l.getD j 0 : Nat) : Int)) := by
  rcases h with rfl | ⟨b, off, rfl, hc⟩
  · simp at hj
  · exact ⟨b, off, rfl, hc j hj⟩
theorem Iw.ir {w : World} {g : Nat} {l : List Nat} (h : Iw w g l) : Ir w (some ⟨g, 0, none⟩) l := .inr ⟨g, 0, rfl, fun i hi => by rw [Nat.zero_add]; exact h.cell hi⟩
theorem Ig.ir {w : World} {a : Option Addr} {cap : Nat} {l : List Nat} (h : Ig w a cap l) : Ir w a l := by
  obtain ⟨_, h2⟩ := h
  rcases h2 with ⟨_, h0⟩ | ⟨g, cap', cur, hv, h3, hg, hn, hm, hs, ht⟩
  · exact .inl (List.length_eq_zero_iff.1 h0)
  · simp only [Value.slice.injEq] at hv
    obtain ⟨e1, _, rfl⟩ := hv
    refine .inr ⟨g, 0, e1, fun i hi => ?_⟩
    rw [Nat.zero_add, cell_of_row _ _ _ _ _ _ hg, ← vi_get l i hi, ← ht, List.getElem?_take, if_pos (by omega)]
    simp
/-- a number is appended -/
theorem run_apI (w : World) (ty : TypeId) (a : Option Addr) (n cap : Nat) (l : List Nat) (hn : n = l.length) (hR : Ig w a cap l) (ad : Addr) (c x : Nat) (hc : w.cell? ad = some (.int .i64 ((x : Nat) : Int))) (hlen : l.length + 1 ≤ 268435457) :
    ∃ g cap' w', (Builtin.append_ #[45, 45] ty #[.slice a n cap, .slice (some ad) 1 c]).run Try.prog w = .ok (.slice (some ⟨g, 0, none⟩) (n + 1) cap') w' ∧
      Ig w' (some ⟨g, 0, none⟩) cap' (l ++ [x]) ∧ New w a (some ⟨g, 0, none⟩) ∧ w.grownBy w' (a.map Addr.block) ∧ g < w'.heap.size := by
  subst hn
  obtain ⟨i0, hi, hz0, hz1, hz2⟩ := info_parts infoI64
  obtain ⟨g, cap', w', hr, h1, h2, h3, h4⟩ := run_append_lies (P := Try.prog) w 45 ty 0 3 i0 (.int .i64 0) 1 8 Try.underlying45 hi hz0 hz1 hz2 rfl (by decide) (.slice a l.length cap) l.length (vi l) hR ad 1 c [.int .i64 ((x : Nat) : Int)] rfl
    (by intro j u hj
        match j, hj with
        | 0, hj => simp at hj; subst hj; simpa [Addr.add] using hc) (by intro u hu; simp at hu; subst hu; rfl) (by decide) (by unfold maxLen; omega) (by omega) (Nat.zero_le _) w.heap.size rfl
  rw [ob_eq] at h2 h3
  refine ⟨g, cap', w', hr, ?_, ?_, h2, h4⟩
  · unfold Ig
    rw [vi_append, List.length_append]
    exact h1
  · intro y hy
    simp only [Option.some.injEq] at hy
    subst hy
    rcases h3 with h3 | h3
    · obtain ⟨z, hz, e⟩ := map_some h3
      exact .inl ⟨z, hz, e⟩
    · exact .inr (by show _ ≤ g; omega)

theorem wp_apI {w : World} {o : Oper} {a : Act} {K : Act → World → Prop} {Q : Exit → Act → World → Prop} (s x : Operand)
    (ho : o.op = .call { callee := .builtin .append, args := #[s, x], argTypes := #[45, 45] }) (ao : Option Addr) (n cap : Nat) (l : List Nat) (hs : a.eval s = .slice ao n cap) (hn : n = l.length) (hR : Ig w ao cap l)
    (ad : Addr) (c xx : Nat) (hx : a.eval x = .slice (some ad) 1 c) (hc : w.cell? ad = some (.int .i64 ((xx : Nat) : Int))) (hlen : l.length + 1 ≤ 268435457)
    (h : ∀ g cap' w', Ig w' (some ⟨g, 0, none⟩) cap' (l ++ [xx]) → New w ao (some ⟨g, 0, none⟩) → w.grownBy w' (ao.map Addr.block) → g < w'.heap.size → K (a.put o.dst (.slice (some ⟨g, 0, none⟩) (n + 1) cap')) w') : o.wp Try.prog a w K Q := by
  obtain ⟨g, cap', w', hr, h1, h2, h3, h4⟩ := run_apI w o.type ao n cap l hn hR ad c xx hc hlen
  unfold Oper.wp execOp
  simp only [ho, resolve, invoke, builtin, Sem.run_bind, Sem.run_pure, Result.andThen_ok, List.map_toArray, List.map_cons, List.map_nil, hs, hx, hr]
  exact h g cap' w' h1 h2 h3 h4
theorem wpList_apI {w : World} {ops : Array Oper} {rest : List Oper} {o : Oper} {a : Act} {Q : Exit → Act → World → Prop} (hgd : o.guard = none) (s x : Operand)
    (ho : o.op = .call { callee := .builtin .append, args := #[s, x], argTypes := #[45, 45] }) (ao : Option Addr) (n cap : Nat) (l : List Nat) (hs : a.eval s = .slice ao n cap) (hn : n = l.length) (hR : Ig w ao cap l)
    (ad : Addr) (c xx : Nat) (hx : a.eval x = .slice (some ad) 1 c) (hc : w.cell? ad = some (.int .i64 ((xx : Nat) : Int))) (hlen : l.length + 1 ≤ 268435457)
    (h : ∀ g cap' w', Ig w' (some ⟨g, 0, none⟩) cap' (l ++ [xx]) → New w ao (some ⟨g, 0, none⟩) → w.grownBy w' (ao.map Addr.block) → g < w'.heap.size → wpList Try.prog ops Q rest (a.put o.dst (.slice (some ⟨g, 0, none⟩) (n + 1) cap')) w') : wpList Try.prog ops Q (o :: rest) a w :=
  wpList_plain hgd fun _ hK => wp_apI s x ho ao n cap l hs hn hR ad c xx hx hc hlen fun g cap' w' h1 h2 h3 h4 => hK _ _ (h g cap' w' h1 h2 h3 h4)

set_option maxHeartbeats 1000000 in
theorem EqInts_same (w : World) (aa ab : Option Addr) (n m ca cb : Nat) (l : List Nat) (hA : Ir w aa l) (hB : Ir w ab l) (hn : n = l.length) (hm : m = l.length) (hb : l.length ≤ 268435456) :
    Calls Try.prog 20 #[.slice aa n ca, .slice ab m cb] w fun e w' => e = .returned (.bool true) ∧ Below w.heap.size w w' := by
  subst hn
  subst hm
  have HA := hide hA
  have HB := hide hB
  clear hA hB
  go_enter Try.func20, Try.ntmps20
  go_wp2
  go_loopw [5] (fun i wx => ∃ j : Nat, j ≤ l.length ∧ i = .int .i64 j ∧ (Below w.heap.size w wx)) (fun i _ => l.length - (intOf i).toNat)
  case atStart => exact ⟨0, Nat.zero_le _, rfl, Below.refl _ _⟩
  case round =>
    obtain ⟨j, hj, rfl, hG⟩ := hrel
    have HG := hide hG
    clear hG
    by_cases hlt : j < l.length
    · have hi : (j : Int) < (l.length : Int) := by omega
      obtain ⟨b1, o1, rfl, cA⟩ := (HA.out.keep HG.out).at hlt
      obtain ⟨b2, o2, rfl, cB⟩ := (HB.out.keep HG.out).at hlt
      generalize l.getD j 0 = x at *
      have q0 : ((x : Int) == (x : Int)) = true := by simp
      go_wp2
      go_quiet (fail)
      go_wp2
      go_roundw
      case rel => exact ⟨j + 1, by omega, by go_num, bt HG.out (drN _ _)⟩
      case measure => simp [intOf]; omega
    · obtain rfl : j = l.length := by omega
      go_wp2
      go_ret
      exact ⟨rfl, HG.out⟩
theorem at_snoc (S : Sd) {j : Nat} {u : Nat × List Nat} (hu : S.uns[j]? = some u) : S.at.take j ++ [u.1] = S.at.take (j + 1) := by
  have hlt := (List.getElem?_eq_some_iff.1 hu).1
  have h1 : j < S.at.length := by rw [S.at_len]; exact hlt
  have h2 : S.at[j] = u.1 := by
    have e : S.at[j]? = some u.1 := by unfold Sd.at; rw [List.getElem?_map, hu]; rfl
    exact (List.getElem?_eq_some_iff.1 e).2
  rw [List.take_succ_eq_append_getElem h1, h2]
section
variable {F : Nat → Prop} {w w' : World} {q la lc : Nat} {wa : Option Addr} {wc : Nat} {A : List (Nat × Nat)} {S : Sd}
set_option maxHeartbeats 1000000 in
theorem hUnsynced_any (h : HkAt F w q la lc wa wc A S) : Calls Try.prog 21 #[.pointer (some ⟨q, 0, none⟩)] w fun e w' => ∃ a c, e = .returned (.slice a S.at.length c) ∧ Ig w' a c S.at ∧ New w none a ∧ Below w.heap.size w w' := by
  have H := hide h
  have hu1 := h.ok.u1
  have hal := S.at_len
  clear h
  go_enter Try.func21, Try.ntmps21
  go_wp2
  go_loopw [3, 4] (fun v i wx => ∃ (j : Nat) (aj : Option Addr) (cj : Nat), j ≤ S.uns.length ∧ i = .int .i64 j ∧ v = .slice aj j cj ∧ (Ig wx aj cj (S.at.take j) ∧ New w none aj ∧ Below w.heap.size w wx)) (fun _ i _ => S.uns.length - (intOf i).toNat)
  case atStart => exact ⟨0, none, 0, Nat.zero_le _, rfl, rfl, Ig.nil _, New.none _ _, Below.refl _ _⟩
  case round =>
    obtain ⟨j, aj, cj, hj, rfl, rfl, hG⟩ := hrel
    have HG := hide hG
    clear hG
    have c1 : wr.cell? ⟨q, 1, none⟩ = some (.slice wa S.uns.length wc) := (H.out.keep HG.out.2.2).cell 1
    by_cases hlt : j < S.uns.length
    · have hi : (j : Int) < (S.uns.length : Int) := by omega
      obtain ⟨u, hu⟩ : ∃ u, S.uns[j]? = some u := ⟨_, List.getElem?_eq_getElem hlt⟩
      obtain ⟨g, x, rfl, hx, d0, _, _, _, _⟩ := (H.out.keep HG.out.2.2).row hu
      have HS := hide (at_snoc S hu)
      have hz : (S.at.take j).length = j := by rw [List.length_take]; omega
      have hlw := block_lt_of_cell d0
      generalize u.1 = x at *
      generalize S.at.take j = L at *
      clear hu hx
      go_wp2_with (at_builtin; refine wpList_apI rfl _ _ rfl aj j cj L rfl hz.symm (HG.out.1.keep ((Below.refl _ _).alloc (Nat.le_refl _) _)) ⟨wr.heap.size, 0, none⟩ 1 x rfl ?c1 (by omega) ?_)
      try case c1 => simp
      intro g' cap' w2 hR hN hg _
      obtain ⟨h1, h2⟩ := fresh_step HG.out.2.1 HG.out.2.2 hg hN
      rw [HS.out] at hR
      have HR := hide hR
      clear hR hN hg
      go_wp2
      go_roundw
      case rel => exact ⟨j + 1, _, cap', by omega, by go_num, rfl, HR.out, h1, h2⟩
      case measure => simp [intOf]; omega
    · obtain rfl : j = S.uns.length := by omega
      go_wp2
      go_ret
      have h := HG.out
      rw [List.take_of_length_le (by omega)] at h
      exact ⟨aj, cj, by rw [hal]; rfl, h⟩
end
/-! ### the document's disk, its blocks hidden -/
section
variable {F : Nat → Prop} {w w' : World} {q : Nat} {S : Sd}
theorem mRead (h : Hk F w q S) (i : Int) : Calls Try.prog 14 #[.pointer (some ⟨q, 0, none⟩), .int .i64 i] w fun e w' => ∃ a c, e = .returned (.tuple #[.slice a (S.read i).length c, .int .i64 (S.readE i : Int)]) ∧ Rw w' a c (S.read i) ∧ New w none a ∧ Below w.heap.size w w' := by
  obtain ⟨_, _, _, _, _, h⟩ := h; exact hRead_any h i
theorem mWrite (h : Hk F w q S) (i : Int) (a : Option Addr) (n c : Nat) (b : List Nat) (hB : Bs w a b) (hn : n = b.length) (hA : ∀ x, a = some x → b ≠ [] → ¬ F x.block) (hU : S.uns.length + 1 ≤ 268435456) (hW : S.wr + 1 ≤ 4611686018427387904) :
    Calls Try.prog 10 #[.pointer (some ⟨q, 0, none⟩), .int .i64 i, .slice a n c] w fun e w' => e = .returned (.int .i64 (S.writeE i b : Int)) ∧ Hk (ext F w w') w' q (S.write i b) ∧ But F w w' := by
  obtain ⟨_, _, _, _, _, h⟩ := h; exact hWrite_any h i a n c b hB hn hA hU hW
theorem Hk.ext0 (h : Hk F w' q S) (hs : w.heap.size ≤ w'.heap.size) (hl : ∀ k, F k → k < w.heap.size) : Hk (ext F w w') w' q S := h.mono (fun _ h => .inl h) (ext_lt hl hs)
theorem mSync (h : Hk F w q S) (hs : S.sy + 1 ≤ 4611686018427387904) : Calls Try.prog 29 #[.pointer (some ⟨q, 0, none⟩)] w fun e w' => e = .returned (.int .i64 (S.syncE : Int)) ∧ Hk (ext F w w') w' q S.sync ∧ But F w w' := by
  have hl := h.lt
  obtain ⟨_, _, _, _, _, h⟩ := h
  refine (hSync_any h hs).mono ?_
  rintro e w' ⟨rfl, h1, h2⟩
  exact ⟨rfl, h1.ext0 h2.size hl, h2⟩
theorem mOn (h : Hk F w q S) (ka : Option Addr) (kn kc : Nat) (K : List Bool) (hK : Kb w ka K) (hkn : kn = K.length) (hA : ∀ x, ka = some x → K ≠ [] → ¬ F x.block) (hfit : S.pow = false → S.alm = -1) :
    Calls Try.prog 36 #[.pointer (some ⟨q, 0, none⟩), .slice ka kn kc] w fun e w' => e = .returned (.tuple #[]) ∧ Hk (ext F w w') w' q (S.on K) ∧ But F w w' := by
  have hl := h.lt
  obtain ⟨_, _, _, _, _, h⟩ := h
  refine (hOn_any h ka kn kc K hK hkn hA hfit).mono ?_
  rintro e w' ⟨rfl, h1, h2⟩
  exact ⟨rfl, h1.ext0 h2.size hl, h2⟩
theorem mLay (h : Hk F w q S) (i : Int) (a : Option Addr) (n c : Nat) (b : List Nat) (hB : Bs w a b) (hn : n = b.length) (hA : ∀ x, a = some x → b ≠ [] → ¬ F x.block) :
    Calls Try.prog 12 #[.pointer (some ⟨q, 0, none⟩), .int .i64 i, .slice a n c] w fun e w' => e = .returned (.bool (S.layE i b)) ∧ Hk (ext F w w') w' q (S.layd i b) ∧ But F w w' := by
  have hl := h.lt
  obtain ⟨_, _, _, _, _, h⟩ := h
  refine (hLay_any h i a n c b hB hn hA).mono ?_
  rintro e w' ⟨rfl, h1, h2⟩
  exact ⟨rfl, h1.ext0 h2.size hl, h2⟩
theorem mOff (h : Hk F w q S) : Calls Try.prog 33 #[.pointer (some ⟨q, 0, none⟩)] w fun e w' => e = .returned (.tuple #[]) ∧ Hk (ext F w w') w' q S.off ∧ But F w w' := by
  have hl := h.lt
  obtain ⟨_, _, _, _, _, h⟩ := h
  refine (hOff_any h).mono ?_
  rintro e w' ⟨rfl, h1, h2⟩
  exact ⟨rfl, Hk.ext0 ⟨_, _, _, _, _, h1⟩ h2.size hl, h2⟩
theorem mArm (h : Hk F w q S) (a : Int) (ha : a ≤ 9223372036854775807) : Calls Try.prog 31 #[.pointer (some ⟨q, 0, none⟩), .int .i64 a] w fun e w' => e = .returned (.tuple #[]) ∧ Hk (ext F w w') w' q (S.arm a) ∧ But F w w' := by
  have hl := h.lt
  obtain ⟨_, _, _, _, _, h⟩ := h
  refine (hArm_any h a ha).mono ?_
  rintro e w' ⟨rfl, h1, h2⟩
  exact ⟨rfl, Hk.ext0 ⟨_, _, _, _, _, h1⟩ h2.size hl, h2⟩
theorem mIsOn (h : Hk F w q S) : Calls Try.prog 53 #[.pointer (some ⟨q, 0, none⟩)] w fun e w' => e = .returned (.bool S.pow) ∧ w' = w := by
  obtain ⟨_, _, _, _, _, h⟩ := h; exact hIsOn_any h
theorem mActs (h : Hk F w q S) : Calls Try.prog 55 #[.pointer (some ⟨q, 0, none⟩)] w fun e w' => e = .returned (.tuple #[.int .i64 (S.wr : Int), .int .i64 (S.sy : Int)]) ∧ Below w.heap.size w w' := by
  obtain ⟨_, _, _, _, _, h⟩ := h; exact hActs_any h
theorem mUnsynced (h : Hk F w q S) : Calls Try.prog 21 #[.pointer (some ⟨q, 0, none⟩)] w fun e w' => ∃ a c, e = .returned (.slice a S.at.length c) ∧ Ig w' a c S.at ∧ New w none a ∧ Below w.heap.size w w' := by
  obtain ⟨_, _, _, _, _, h⟩ := h; exact hUnsynced_any h
/-- the document's bytes that last, as asks reads them -/
theorem Hk.lasts (h : Hk F w q S) : ∃ la lc, w.cell? ⟨q, 0, none⟩ = some (.slice (some ⟨la, 0, none⟩) S.img.length lc) ∧ Bs w (some ⟨la, 0, none⟩) S.img ∧ F la := by
  obtain ⟨la, lc, _, _, _, h⟩ := h
  exact ⟨la, lc, h.cell 0, h.l.bs' h.ok.imgLt, h.fl⟩
end
end Go.Proofs.Ytlflcdjaknnfaab
