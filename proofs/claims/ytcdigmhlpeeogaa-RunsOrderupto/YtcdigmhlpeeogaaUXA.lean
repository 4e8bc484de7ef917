import Derived.Test.YtcdigmhlpeeogaaUT
import Derived.Test.YtcdigmhlpeeogaaUO
import Derived.Test.YtcdigmhlpeeogaaUN
import Derived.BigQuiet
namespace Go.Proofs.Ytcdigmhlpeeogaa
open Go.RowKit

/-! ### RunsOrder: the mathematics -/
def piece (L : List Rn) (X : List Int) (k : Nat) : List Rn :=
  if k < X.length ∧ (L.getD k Rn.zero).1 ≤ X.getD k 0 ∧ X.getD k 0 < (L.getD k Rn.zero).2 then [(X.getD k 0 + 1, (L.getD k Rn.zero).2), ((L.getD k Rn.zero).1, X.getD k 0)] else [L.getD k Rn.zero]
theorem has_piece (L : List Rn) (X : List Int) (k : Nat) (z : Int) : has (piece L X k) z = has [L.getD k Rn.zero] z := by
  unfold piece
  split
  · rw [Bool.eq_iff_iff]
    simp only [has_cons, has_nil, Bool.or_false, Bool.or_eq_true, Bool.and_eq_true, decide_eq_true_eq]
    omega
  · rfl
theorem piece_length (L : List Rn) (X : List Int) (k : Nat) : (piece L X k).length ≤ 2 := by
  unfold piece
  split <;> simp
def bl (L : List Rn) (X : List Int) (s n : Nat) : Nat → List Rn
  | 0 => []
  | j + 1 => bl L X s n j ++ piece L X ((j + s) % n)
theorem bl_length (L : List Rn) (X : List Int) (s n : Nat) : ∀ j, (bl L X s n j).length ≤ 2 * j
  | 0 => by simp [bl]
  | j + 1 => by
    have h1 := bl_length L X s n j
    have h2 := piece_length L X ((j + s) % n)
    show (bl L X s n j ++ piece L X ((j + s) % n)).length ≤ _
    rw [List.length_append]
    omega
theorem has_bl (L : List Rn) (X : List Int) (s n : Nat) (z : Int) : ∀ j, has (bl L X s n j) z = true ↔ ∃ i, i < j ∧ has [L.getD ((i + s) % n) Rn.zero] z = true
  | 0 => by
    constructor
    · intro h
      exact absurd h (by simp [bl, has_nil])
    · rintro ⟨i, hi, _⟩
      omega
  | j + 1 => by
    show has (bl L X s n j ++ piece L X ((j + s) % n)) z = true ↔ _
    rw [has_append, Bool.or_eq_true, has_bl L X s n z j, has_piece]
    constructor
    · rintro (⟨i, hi, h⟩ | h)
      · exact ⟨i, by omega, h⟩
      · exact ⟨j, by omega, h⟩
    · rintro ⟨i, hi, h⟩
      by_cases e : i = j
      · subst e
        exact .inr h
      · exact .inl ⟨i, by omega, h⟩
theorem rot_onto {n k : Nat} (s : Nat) (hk : k < n) : ∃ i, i < n ∧ (i + s) % n = k := by
  have hn : 0 < n := by omega
  refine ⟨(k + (n - s % n)) % n, Nat.mod_lt _ hn, ?_⟩
  rw [Nat.mod_add_mod]
  have h1 := Nat.div_add_mod s n
  have h2 := Nat.mod_lt s hn
  have h3 : k + (n - s % n) + s = k + n * (s / n + 1) := by rw [Nat.mul_succ]; omega
  rw [h3, Nat.add_mul_mod_self_left]
  exact Nat.mod_eq_of_lt hk
theorem has_all (L : List Rn) (X : List Int) (s : Nat) (z : Int) : has (bl L X s L.length L.length) z = has L z := by
  rw [Bool.eq_iff_iff, has_bl, has_iff]
  constructor
  · rintro ⟨i, hi, h⟩
    obtain ⟨r, hr, h1⟩ := (has_iff _ _).1 h
    rw [List.mem_singleton] at hr
    exact ⟨r, by rw [hr]; exact getD_mem (Nat.mod_lt _ (by omega)), h1⟩
  · rintro ⟨r, hr, h1⟩
    obtain ⟨k, hk, rfl⟩ := List.mem_iff_getElem.1 hr
    obtain ⟨i, hi, e⟩ := rot_onto s hk
    refine ⟨i, hi, (has_iff _ _).2 ⟨_, List.mem_singleton.2 rfl, ?_⟩⟩
    rw [e, show L.getD k Rn.zero = L[k] by simp [hk]]
    exact h1
theorem piece_nm {L : List Rn} {X : List Int} {k : Nat} (hL : ∀ r ∈ L, Nm r.1 ∧ Nm r.2) (hk : k < L.length) : ∀ r ∈ piece L X k, Nm r.1 ∧ Nm r.2 := by
  have h := hL _ (getD_mem hk)
  intro r hr
  unfold piece at hr
  split at hr
  · simp only [List.mem_cons, List.not_mem_nil, or_false] at hr
    unfold Nm at *
    rcases hr with rfl | rfl
    · show (_ ≤ X.getD k 0 + 1 ∧ _) ∧ _
      omega
    · show _ ∧ (_ ≤ X.getD k 0 ∧ _)
      omega
  · rw [List.mem_singleton] at hr
    rw [hr]
    exact h
theorem bl_nm {L : List Rn} {X : List Int} (s : Nat) (hL : ∀ r ∈ L, Nm r.1 ∧ Nm r.2) (h0 : 0 < L.length) : ∀ j, ∀ r ∈ bl L X s L.length j, Nm r.1 ∧ Nm r.2
  | 0, r, hr => by cases hr
  | j + 1, r, hr => by
    rcases List.mem_append.1 hr with hr | hr
    · exact bl_nm s hL h0 j r hr
    · exact piece_nm hL (Nat.mod_lt _ h0) r hr
def someR (L : List Rn) : Bool := L.any fun r => decide (r.1 ≤ r.2)
theorem some_none {L : List Rn} (h : ∀ z, has L z = false) : someR L = false := by
  unfold someR
  rw [List.any_eq_false]
  intro r hr
  have := (has_false _ _).1 (h r.1) r hr (Int.le_refl _)
  simp
  omega
theorem someR_snoc (L : List Rn) {k : Nat} (hk : k < L.length) : someR (L.take (k + 1)) = (someR (L.take k) || decide ((L.getD k Rn.zero).1 ≤ (L.getD k Rn.zero).2)) := by
  unfold someR
  rw [take_next L Rn.zero hk, List.any_append]
  simp
set_option maxHeartbeats 1000000 in
theorem some_any (w : World) (a : Option Addr) (c : Nat) (L : List Rn) (hV : Vs w a L) (hl : L.length ≤ 4294967296) :
    Calls Try.prog 8 #[.slice a L.length c] w fun e w' => e = .returned (.bool (someR L)) ∧ Below w.heap.size w w' := by
  obtain ⟨n, hn⟩ : ∃ n : Nat, n = L.length := ⟨_, rfl⟩
  have NL := hide hn
  obtain ⟨ans, hans⟩ : ∃ ans, someR L = ans := ⟨_, rfl⟩
  have AN := hide hans
  rw [hans, ← hn]
  rw [← hn] at hl
  clear hn hans
  go_enter Try.func8, Try.ntmps8
  go_wp2
  go_loopw [3] (fun i wx => ∃ k : Nat, k ≤ n ∧ i = .int .i64 k ∧ someR (L.take k) = false ∧ Below w.heap.size w wx) (fun i _ => n - (intOf i).toNat)
  case atStart => exact ⟨0, Nat.zero_le _, rfl, by simp [someR], Below.refl _ _⟩
  case round =>
    obtain ⟨k, hk, rfl, ht, hb⟩ := hrel
    by_cases hlt : k < n
    · have hkL : k < L.length := by rw [← NL.out]; exact hlt
      obtain ⟨b1, o1, rfl, d1, d2⟩ := (hV.keep hb).at hkL
      have sn := someR_snoc L hkL
      have mem := getD_mem hkL
      generalize L.getD k Rn.zero = r at *
      have SN := hide sn
      have HT := hide ht
      have HM := hide mem
      have x1 : (k : Int) < (n : Int) := by omega
      clear sn ht mem
      by_cases e : r.1 ≤ r.2
      · have ea : ans = true := by
          rw [← AN.out]
          unfold someR
          rw [List.any_eq_true]
          exact ⟨r, HM.out, decide_eq_true e⟩
        subst ea
        go_wp2
        go_quiet (fail)
        go_wp2
        go_ret
        exact ⟨rfl, bt hb (drews _ _)⟩
      · go_wp2
        go_quiet (fail)
        go_wp2
        go_roundw
        case rel => exact ⟨k + 1, by omega, by simp, by rw [SN.out, HT.out, decide_eq_false (by omega)]; rfl, bt hb (drews _ _)⟩
        case measure => simp [intOf]; omega
    · obtain rfl : k = n := by omega
      have ea : ans = false := by rw [← AN.out, ← ht, NL.out, List.take_length]
      subst ea
      go_wp2
      go_ret
      exact ⟨rfl, hb⟩
end Go.Proofs.Ytcdigmhlpeeogaa
