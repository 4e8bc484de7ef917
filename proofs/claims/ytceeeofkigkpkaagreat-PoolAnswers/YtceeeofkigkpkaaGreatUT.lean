import Derived.Test.YtceeeofkigkpkaaGreatUR
import Derived.Test.YtceeeofkigkpkaaGreatUP
namespace Go.Proofs.YtceeeofkigkpkaaGreat
open Go.RowKit

/-! ### Of, New -/
theorem has_perm {L M : List Rn} (h : L.Perm M) (z : Int) : has L z = has M z := by
  rw [Bool.eq_iff_iff, has_iff, has_iff]
  constructor
  · rintro ⟨r, hr, h1⟩
    exact ⟨r, h.subset hr, h1⟩
  · rintro ⟨r, hr, h1⟩
    exact ⟨r, h.symm.subset hr, h1⟩
theorem has_snoc (L : List Rn) (r : Rn) (z : Int) : has (L ++ [r]) z = (has L z || (decide (r.1 ≤ z) && decide (z ≤ r.2))) := by
  rw [has_append, has_cons, has_nil, Bool.or_false]
/-- a new set -/
structure Nw (w w' : World) (b : Nat) (a : Option Addr) (cap : Nat) (R : List Rn) : Prop where
  st : St w' b a cap R
  b : w.heap.size ≤ b
  a : ∀ x, a = some x → w.heap.size ≤ x.block
  w : Below w.heap.size w w'
set_option maxHeartbeats 4000000 in
set_option maxRecDepth 10000 in
theorem Of_any (w : World) (a : Option Addr) (c : Nat) (L : List Rn) (hV : Vs w a L) (hl : L.length ≤ 8796093022200) (hn : a = none → c = 0 ∧ L = []) (hb : ∀ r ∈ L, Nm r.1 ∧ Nm r.2) :
    Calls Tryz.prog 65 #[.slice a L.length c] w fun e w' => ∃ b' a' cap' R, e = .returned (.pointer (some ⟨b', 0, none⟩)) ∧ Nw w w' b' a' cap' R ∧ (∀ z, has R z = has L z) ∧ R.length ≤ L.length := by
  have C1 := hide (Clone_any w a c L hV (by omega) hn)
  have C2 := hide fun (W : World) (g cap : Nat) (hQ : Vw W (some ⟨g, 0, none⟩) cap L) => Sort_any W g cap L hQ (by omega)
  have C3 := hide fun (W : World) (a : Option Addr) (cap : Nat) => Sort_none W a cap
  obtain ⟨n, hN⟩ : ∃ n : Nat, n = L.length := ⟨_, rfl⟩
  have HN := hide hN
  rw [← hN] at C1 C2 hl ⊢
  clear hV hn hN
  go_enter Tryz.func65, Tryz.ntmps65
  go_wp2_with fail
  refine C1.out.mono ?_
  rintro e w1 ⟨a1, c1, rfl, q1, q2, q3, q4⟩
  /- behind the sort -/
  have S : Calls Tryz.prog 78 #[.slice a1 n c1, .func (.func 79) #[] #[]] w1 fun e w2 => e = .returned (.tuple #[]) ∧ ∃ P, P.Perm L ∧ Vw w2 a1 c1 P ∧ Below w.heap.size w w2 := by
    by_cases h0 : L = []
    · have hn0 : n = 0 := by rw [HN.out, h0]; rfl
      rw [hn0]
      refine (C3.out w1 a1 c1).mono fun e w2 ⟨he, hw⟩ => ⟨he, [], by rw [h0], by rw [hw, ← h0]; exact q1, by rw [hw]; exact q3⟩
    · obtain ⟨g, hg⟩ : ∃ g, a1 = some ⟨g, 0, none⟩ := by
        rcases q1.cases with ⟨h1, _⟩ | ⟨g, _, h1, _⟩
        · exact absurd h1 (q4 h0)
        · exact ⟨g, h1⟩
      subst hg
      refine (C2.out w1 g c1 q1).mono fun e w2 ⟨he, P, p1, p2, p3⟩ => ⟨he, P, p1, p2, ?_⟩
      have hge : w.heap.size ≤ g := by
        rcases q2 _ rfl with ⟨y, hy, _⟩ | h
        · cases hy
        · exact h
      exact ((But.ofBelow (S := fun _ => False) q3).trans p3 (fun k hk e => by omega)).below (fun _ _ h => h)
  have S' := hide S
  have Q2 := hide q2
  clear S q1 q2 q3 q4
  go_wp2_with fail
  refine S'.out.mono ?_
  rintro e w2 ⟨rfl, P, p1, p2, p3⟩
  have hP := hide p1
  have lP : P.length = n := by rw [HN.out]; exact p1.length_eq
  have vP := hide p2.vs
  have aP := hide fun x (hx : a1 = some x) => p2.lt hx
  clear p1 p2
  go_wp2_with fail
  obtain ⟨W, hW⟩ : ∃ W, w2.alloc (.cells #[.slice none 0 0] 90) = W := ⟨_, rfl⟩
  have hWn := World.alloc_heap_new w2 (.cells #[.slice none 0 0] 90)
  have bW := al w2 (.cells #[.slice none 0 0] 90)
  have sW := size_alloc w2 (.cells #[.slice none 0 0] 90)
  rw [hW] at hWn bW sW ⊢
  have sw2 := p3.size
  have St0 : St W w2.heap.size none 0 [] := ⟨hWn, Vw.nil _, Can.nil, by simp, by simp⟩
  go_loopw [15] (fun i wx => ∃ k : Nat, k ≤ n ∧ i = .int .i64 k ∧ ∃ a' cap' R, St wx w2.heap.size a' cap' R ∧ (∀ z, has R z = has (P.take k) z) ∧ R.length ≤ k ∧ (∀ x, a' = some x → W.heap.size ≤ x.block) ∧ But (fun q => q = w2.heap.size ∨ W.heap.size ≤ q) W wx) (fun i _ => n - (intOf i).toNat)
  case atStart => exact ⟨0, Nat.zero_le _, rfl, none, 0, [], St0, by simp, Nat.le_refl _, by simp, But.refl _ _⟩
  case round =>
    obtain ⟨k, hk, rfl, a', cap', R, hS, hh, hRk, ha', hB⟩ := hrel
    have szx := hB.size
    by_cases hlt : k < n
    · have hkP : k < P.length := by omega
      have vx : Vs wr a1 P := (vP.out.keep bW).but hB (fun x hx h => by have := aP.out x hx; rcases h with h | h <;> omega)
      obtain ⟨bb, o, rfl, d1, d2⟩ := vx.at hkP
      obtain ⟨r1, r2⟩ := hb _ (hP.out.subset (getD_mem hkP))
      have tn := take_next P Rn.zero hkP
      generalize P.getD k Rn.zero = r at *
      have axx := al wr (.cells #[.int .i64 r.1, .int .i64 r.2] 92)
      have A := hide (Add_any (wr.alloc (.cells #[.int .i64 r.1, .int .i64 r.2] 92)) w2.heap.size a' cap' R r.1 r.2 (hS.keep axx) r1 r2 (by  omega))
      have TN := hide tn
      have HS := hide hS
      have HH := hide hh
      have HB := hide hB
      have HA := hide ha'
      clear tn hS hh hB ha' r1 r2
      go_wp2_with fail
      refine A.out.mono ?_
      rintro e w5 ⟨rfl, a5, c5, R5, s1, s2, s3, s4, s5⟩
      have G := hide (show ∃ a' cap' R, St w5 w2.heap.size a' cap' R ∧ (∀ z, has R z = has (P.take (k + 1)) z) ∧ R.length ≤ k + 1 ∧ (∀ x, a' = some x → W.heap.size ≤ x.block) ∧ But (fun q => q = w2.heap.size ∨ W.heap.size ≤ q) W w5 from
        ⟨a5, c5, R5, s1, fun z => by rw [s2, HH.out, TN.out, has_snoc], by omega, fun x hx => by
          rcases s4 x hx with ⟨y, hy, e⟩ | h
          · rw [← e]; exact HA.out y hy
          · rw [size_alloc] at h; omega, (HB.out.andBelow axx).trans s5 (fun q hq h => by
            rcases h with h | ⟨y, hy, e⟩
            · exact .inl h
            · exact .inr (by rw [← e]; exact HA.out y hy))⟩)
      clear s1 s2 s3 s4 s5
      go_wp2
      go_roundw
      case rel => exact ⟨k + 1, by omega, by simp, G.out⟩
      case measure => simp [intOf]; omega
    · obtain rfl : k = n := by omega
      go_wp2
      go_ret
      refine ⟨_, a', cap', R, rfl, ⟨hS, sw2, fun x hx => by have := ha' x hx; omega, ?_⟩, fun z => by rw [hh, ← lP, List.take_length]; exact has_perm hP.out z, hRk⟩
      exact ((But.ofBelow (S := fun _ => False) (bt p3 bW)).trans hB (fun q hq h => by rcases h with h | h <;> omega)).below (fun _ _ h => h)
set_option maxHeartbeats 1000000 in
theorem New_none (w : World) : Calls Tryz.prog 57 #[.slice none 0 0] w fun e w' => ∃ b' a' cap' R, e = .returned (.pointer (some ⟨b', 0, none⟩)) ∧ Nw w w' b' a' cap' R ∧ (∀ z, has R z = false) ∧ R.length ≤ 0 := by
  have hmk := make_run 0 0 (Nat.le_refl _) (by omega) w
  rw [show ((0 : Nat) : Int) = 0 from rfl] at hmk
  have ha := al w (.cells (madeCells (rcs Rn.zero) (0 * 2)) 92)
  have s0 := size_alloc w (.cells (madeCells (rcs Rn.zero) (0 * 2)) 92)
  generalize w.alloc (.cells (madeCells (rcs Rn.zero) (0 * 2)) 92) = W0 at *
  have C := hide (Of_any W0 (some ⟨w.heap.size, 0, none⟩) 0 [] (.inl rfl) (by simp) (by simp) (by simp))
  rw [List.length_nil] at C
  have S0 := hide s0
  clear s0
  go_enter Tryz.func57, Tryz.ntmps57
  go_wp2
  go_loopw [3, 11] (fun s i wx => s = .slice (some ⟨w.heap.size, 0, none⟩) 0 0 ∧ i = .int .i64 0 ∧ wx = W0) (fun _ _ _ => 0)
  case atStart => exact ⟨rfl, rfl, rfl⟩
  case round =>
    obtain ⟨rfl, rfl, rfl⟩ := hrel
    go_wp2_with fail
    with_reducible refine C.out.mono ?_
    rintro e w1 ⟨b', a', cap', R, rfl, q1, q2, q3⟩
    go_wp2
    go_ret
    have s0 := S0.out
    exact ⟨b', a', cap', R, rfl, ⟨q1.st, by have := q1.b; omega, fun x hx => by have := q1.a x hx; omega, bt ha q1.w⟩, fun z => q2 z, q3⟩
end Go.Proofs.YtceeeofkigkpkaaGreat
