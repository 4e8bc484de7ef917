import Derived.Test.YtceeeofkigkpkaaGreatUE
namespace Go.Proofs.YtceeeofkigkpkaaGreat
open Go.RowKit Go.Shelf
attribute [local go_sem] Oper.semAt_some

/-! ### the iterators -/
def enR (r : Rn) : Array Value := #[.agg (rcs r)]
theorem take_split {α : Type} [Inhabited α] (L : List α) (d : α) {k : Nat} (h : k < L.length) : L = L.take k ++ L.getD k d :: L.drop (k + 1) := by
  rw [List.getD_eq_getElem?_getD, List.getElem?_eq_getElem h]
  simp
theorem take_next {α : Type} (L : List α) (d : α) {k : Nat} (h : k < L.length) : L.take (k + 1) = L.take k ++ [L.getD k d] := by
  rw [List.take_succ_eq_append_getElem h, List.getD_eq_getElem?_getD, List.getElem?_eq_getElem h]
  rfl
set_option maxHeartbeats 2000000 in
set_option maxRecDepth 10000 in
theorem values1_seq (w : World) (Bx : Nat) (a : Option Addr) (cap : Nat) (L : List Rn) (hc : w.cell? ⟨Bx, 0, none⟩ = some (.slice a L.length cap)) (hV : Vs w a L) (hlen : L.length ≤ 11000000000000) :
    Seqs Tryz.prog 74 #[.pointer (some ⟨Bx, 0, none⟩)] enR L w (fun k => k = Bx ∨ ∃ x, a = some x ∧ x.block = k) := by
  intro l S J Jx W hW hS aJ aJx hY h0
  have hBx : ¬ S Bx := fun h => (hS _ h).1 (.inl rfl)
  have hcW : W.cell? ⟨Bx, 0, none⟩ = some (.slice a L.length cap) := (hW.cell (p := ⟨Bx, 0, none⟩) (block_lt_of_cell hc) (fun h => h (.inl rfl))).trans hc
  have hVW : Vs W a L := hV.but hW (fun x hx h => h (.inr ⟨x, hx, rfl⟩))
  clear hc hV
  have Y := hide hY
  clear hY
  obtain ⟨n, hn⟩ : ∃ n : Nat, n = L.length := ⟨_, rfl⟩
  have hn' := hide hn
  rw [← hn] at hcW hlen
  clear hn
  refine callsIn_of_wp Tryz.func74 rfl trivial ?_ rfl
  simp only [Tryz.ntmps74, List.size_toArray, List.length_cons, List.length_nil, Nat.reduceAdd, Nat.reduceSub, Array.replicate_succ, Array.replicate_zero, List.push_toArray, List.append_toArray, List.nil_append, List.cons_append]
  gi_wp2
  gi_loopw [7] (fun i wr => ∃ k : Nat, k ≤ n ∧ i = .int .i64 k ∧ J (L.take k) wr ∧ But S W wr)
    (fun i _ => n - (intOf i).toNat)
  case atStart => exact ⟨0, Nat.zero_le _, rfl, h0, But.refl _ _⟩
  case round =>
    obtain ⟨k, hk, rfl, hJ, hB⟩ := hrel
    by_cases hlt : k < n
    · have hkL : k < L.length := by rw [← hn'.out]; exact hlt
      have hVr : Vs wr a L := hVW.but hB (fun x hx h => (hS _ h).1 (.inr ⟨x, hx, rfl⟩))
      obtain ⟨bb, o, rfl, d1, d2⟩ := hVr.at hkL
      generalize hr : L.getD k Rn.zero = r at *
      have hsz := hB.size
      obtain ⟨fn, tmps, assign, body, hy, hR⟩ := Y.out (L.take k) r (L.drop (k + 1)) (wr.alloc (.cells #[.int .i64 r.1, .int .i64 r.2] 92)) (by rw [← hr]; exact take_split L Rn.zero hkL) (aJ _ _ _ hJ hsz (But.ofBelow (al _ _))) (by rw [size_alloc]; omega)
      simp only [enR, rcs] at hy
      gi_wp2
      refine ⟨rfl, hR.mono ?_⟩
      have hBa : But S W (wr.alloc (.cells #[.int .i64 r.1, .int .i64 r.2] 92)) := hB.andBelow (al _ _)
      rintro e W3 ⟨h3, ⟨rfl, hJ3⟩ | ⟨rfl, hJ3⟩⟩
      · gi_wp2
        go_roundw
        case rel => exact ⟨k + 1, by omega, by simp, by rw [take_next L Rn.zero hkL, hr]; exact hJ3, hBa.trans h3 (fun _ _ h => h)⟩
        case measure => simp [intOf]; omega
      · gi_wp2
        refine bodyPost_ret (results_none rfl _ _ _) rfl ?_
        exact ⟨⟨_, rfl⟩, hBa.trans h3 (fun _ _ h => h), .inr ⟨_, L.drop (k + 1), by rw [List.append_assoc, ← hr]; exact take_split L Rn.zero hkL, hJ3⟩⟩
    · obtain rfl : k = n := by omega
      gi_wp2
      go_end0
      exact ⟨⟨_, rfl⟩, hB, .inl (by rw [hn'.out, List.take_length] at hJ; exact hJ)⟩
theorem values_any (w : World) (a : Option Addr) (n cap : Nat) : Calls Tryz.prog 62 #[.slice a n cap] w fun e w' => e = .returned (.func (.func 74) #[] #[.pointer (some ⟨w.heap.size, 0, none⟩)]) ∧ w' = w.alloc (.cells #[.slice a n cap] 88) := by
  go_enter Tryz.func62, Tryz.ntmps62
  go_wp2
  go_ret
  exact ⟨rfl, rfl⟩
end Go.Proofs.YtceeeofkigkpkaaGreat
