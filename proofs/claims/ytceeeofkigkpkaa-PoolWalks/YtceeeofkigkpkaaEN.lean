import Derived.Test.YtceeeofkigkpkaaEM
import Derived.Test.YtceeeofkigkpkaaEB
namespace Go.Proofs.Ytceeeofkigkpkaa
set_option linter.unusedVariables false
open Go.RowKit Go.Shelf
attribute [local go_sem] Oper.semAt_some

/-! ### Counts -/
def fil (L : List Int) (n : Nat) : List Int := L ++ List.replicate (n - L.length) 0
theorem fil_length {L : List Int} {n : Nat} (h : L.length ≤ n) : (fil L n).length = n := by unfold fil; rw [List.length_append, List.length_replicate]; omega
theorem fil_set {L : List Int} {n : Nat} (h : L.length < n) (x : Int) : (fil L n).set L.length x = fil (L ++ [x]) n := by
  unfold fil
  rw [List.set_append_right _ _ (Nat.le_refl _), Nat.sub_self]
  obtain ⟨m, hm⟩ : ∃ m, n - L.length = m + 1 := ⟨n - L.length - 1, by omega⟩
  rw [hm, List.replicate_succ, List.set_cons_zero, List.length_append, List.length_singleton, show n - (L.length + 1) = m by omega, List.append_assoc]
  rfl
theorem counts_snoc {P : Po} {i : Nat} (h : i < P.pg.length) : (P.counts.take (i + 1)) = P.counts.take i ++ [(P.pg.getD i Pg.zero).1] := by
  have hl : i < P.counts.length := by unfold Po.counts; rw [List.length_map]; exact h
  rw [take_next P.counts 0 hl]
  congr 2
  unfold Po.counts
  simp [h]
theorem nil_seqF (w : World) : SeqF Try.prog 23 #[] enI [] w (fun _ => False) := by
  intro l J Jx W F0 hW hS aJ sJ hY h0
  refine callsIn_of_wp Try.func23 rfl trivial ?_ rfl
  simp only [Try.ntmps23, List.size_toArray, List.length_cons, List.length_nil, Nat.reduceAdd, Nat.reduceSub, Array.replicate_succ, Array.replicate_zero, List.push_toArray, List.append_toArray, List.nil_append, List.cons_append]
  gi_wp2
  go_end0
  exact ⟨⟨_, rfl⟩, But.refl _ _, F0, fun k hk => .inl hk, .inl h0⟩
/-- a walk that was asked for in w -/
structure Wlk (w w' : World) (gf : Nat) (lb : Array Value) (xs : List Int) (X : Nat → Prop) : Prop where
  seq : SeqF Try.prog gf lb enI xs w' X
  en : ∀ args w, (callFunc gf args).run Try.prog w = .ok (.enter gf args) w
  nw : ∀ k, X k → w.heap.size ≤ k ∧ k < w'.heap.size
  bl : Below w.heap.size w w'
theorem Pm.rn {w : World} {b : Nat} {P : Po} {col : Nat → Nat} {D : Pd} (h : Pm w b P col D) {s : Nat} (hs : s < 5) : ∀ r ∈ D.L s, r.1 ≤ r.2 ∧ Nm r.1 ∧ Nm r.2 := fun r hr => ⟨(h.q.set s hs).can.1 r hr, (h.q.set s hs).bnd r hr⟩
set_option maxHeartbeats 1000000 in
theorem Pages_any (w : World) (b : Nat) (P : Po) (col : Nat → Nat) (h : Pl w b P col) (z : Int) : Calls Try.prog 8 #[.pointer (some ⟨b, 0, none⟩), .int .i64 z] w fun e w' => ∃ gf lb X, e = .returned (.func (.func gf) #[] lb) ∧ Wlk w w' gf lb (P.pages z) X := by
  obtain ⟨D, h⟩ := h
  have C := hide (isState_any w z)
  unfold Po.pages
  by_cases h1 : 1 ≤ z ∧ z ≤ 4
  · rw [if_pos h1]
    rw [decide_eq_true h1.1, decide_eq_true h1.2] at C
    obtain ⟨s, rfl⟩ : ∃ s : Nat, z = (s : Int) := ⟨z.toNat, by omega⟩
    rw [Int.toNat_natCast]
    have ci := h.q.cin (s := s) (by omega)
    have np := nums_pages (h.q.set s (by omega)).can (h.mem s (by omega))
    have AL := hide (All_any w (D.s s) (D.a s) (D.c s) (D.L s) (h.q.set s (by omega)))
    have RN := hide (h.rn (s := s) (by omega))
    have FE := hide (h.few (s := s) (by omega))
    rw [← np]
    clear h np
    simp only [Bool.and_self] at C
    go_enter Try.func8, Try.ntmps8
    go_wp2_with fail
    refine C.out.mono ?_
    rintro _ wq ⟨rfl, hwq⟩
    obtain rfl := hwq.symm
    go_wp2_with fail
    refine AL.out.mono ?_
    rintro _ w1 ⟨E, g, rfl, hE, hg, hcE, hV, hgl, hb⟩
    have HW := hide (show Wlk w w1 35 #[.pointer (some ⟨E, 0, none⟩)] (nums (D.L s)) _ from ⟨all_seqF w1 E (some ⟨g, 0, none⟩) (D.L s).length (D.L s) hcE hV (by have := FE.out; omega) RN.out, enters_of Try.func35 (by kernel_rfl) rfl, fun k hk => by
      rcases hk with rfl | ⟨x, hx, rfl⟩
      · exact ⟨hE, block_lt_of_cell hcE⟩
      · cases hx; exact ⟨hg, hgl⟩, hb⟩)
    clear hE hg hcE hV hgl hb
    go_wp2
    go_ret
    exact ⟨_, _, _, rfl, HW.out⟩
  · rw [if_neg h1]
    have e : (decide (1 ≤ z) && decide (z ≤ 4)) = false := by
      by_cases a : 1 ≤ z
      · rw [decide_eq_false (show ¬ z ≤ 4 by omega)]; simp
      · rw [decide_eq_false a]; simp
    rw [e] at C
    clear h h1 e
    go_enter Try.func8, Try.ntmps8
    go_wp2_with fail
    refine C.out.mono ?_
    rintro _ wq ⟨rfl, hwq⟩
    obtain rfl := hwq.symm
    go_wp2
    go_ret
    exact ⟨_, _, _, rfl, nil_seqF w, enters_of Try.func23 (by kernel_rfl) rfl, fun k hk => hk.elim, Below.refl _ _⟩
end Go.Proofs.Ytceeeofkigkpkaa
