import Derived.Test.YtifhkfghjifecaaID
namespace Go.Proofs.Ytifhkfghjifecaa
open Go.RowKit

/-! ### the first root of which it is so -/
/-- what IndexFunc tells -/
def Fst (f : Ro → Bool) (L : List Ro) (z : Int) : Prop := (∃ j : Nat, z = (j : Int) ∧ j < L.length ∧ f (L.getD j ro0) = true ∧ ∀ k, k < j → f (L.getD k ro0) = false) ∨ (z = -1 ∧ ∀ k, k < L.length → f (L.getD k ro0) = false)
theorem getD_mem {L : List Ro} {j : Nat} (h : j < L.length) : L.getD j ro0 ∈ L := by simp [h]
theorem Fst.any {f : Ro → Bool} {L : List Ro} {z : Int} (h : Fst f L z) : decide (0 ≤ z) = L.any f := by
  rcases h with ⟨j, rfl, hj, hf, _⟩ | ⟨rfl, hn⟩
  · rw [List.any_eq_true.2 ⟨_, getD_mem hj, hf⟩]; simp
  · have : L.any f = false := by
      refine List.any_eq_false.2 fun c hc => ?_
      obtain ⟨k, hk, rfl⟩ := List.getElem_of_mem hc
      have := hn k hk
      simp only [List.getD_eq_getElem?_getD, List.getElem?_eq_getElem hk, Option.getD_some] at this
      rw [this]; simp
    rw [this]; rfl
def canV (g : Nat) : Value := .func (.func 59) #[] #[.pointer (some ⟨g, 0, none⟩)]
set_option maxRecDepth 8000 in
set_option maxHeartbeats 1600000 in
theorem Index_can (w : World) (a : Option Addr) (c : Nat) (L : List Ro) (hI : Js w a L) (g : Nat) (p k0 f0 : Int) (hg : Bx w 63 g #[.int .i64 p, .int .i64 k0, .int .i64 f0]) (hp : 0 ≤ p ∧ p ≤ 65536) (hl : L.length ≤ 4398046511000) :
    Calls Try.prog 72 #[.slice a L.length c, canV g] w fun y w' => ∃ z : Int, y = .returned (.int .i64 z) ∧ Fst (fun t => !can p t) L z ∧ Below w.heap.size w w' := by
  have HI := hide hI
  have CF := hide fun (w1 : World) (hb : Below w.heap.size w w1) (t : Ro) => canF_any w1 g p k0 f0 t (hg.keep hb) hp
  clear hI hg
  unfold canV
  go_enter Try.func72, Try.ntmps72
  go_wp2
  go_loopw [8] (fun q wx => ∃ j : Nat, j ≤ L.length ∧ q = .int .i64 j ∧ (∀ k, k < j → (fun t => !can p t) (L.getD k ro0) = false) ∧ Below w.heap.size w wx) (fun q _ => L.length - (intOf q).toNat)
  case atStart => exact ⟨0, Nat.zero_le _, rfl, fun k hk => by omega, Below.refl _ _⟩
  case round =>
    obtain ⟨j, hj, rfl, hN, hB⟩ := hrel
    have HN := hide hN
    have HB := hide hB
    clear hN hB
    by_cases hlt : j < L.length
    · have hlti : (j : Int) < (L.length : Int) := by omega
      obtain ⟨b1, o1, rfl, cA⟩ := (HI.out.keep HB.out).at hlt
      have HC := hide cA
      have CT := hide (CF.out _ HB.out (L.getD j ro0))
      cases hx : (fun t => !can p t) (L.getD j ro0) with
      | true =>
        have HF : Hid (Fst (fun t => !can p t) L (j : Int)) := .inl ⟨j, rfl, hlt, hx, HN.out⟩
        simp only at hx
        rw [hx] at CT
        clear hx cA
        generalize L.getD j ro0 = t at *
        go_wp2_with (first | (refine wpList_load_mid rfl 59 _ rfl b1 (o1 + j * 4) (by simp [Act.eval]) t.cs.toList _ HC.out Try.underlying59 rfl sizeRoot ?_) | (go_at_call 59; refine CT.out.mono ?_; rintro y w1 ⟨rfl, hb⟩; have HB := hide (bt HB.out hb); clear hb))
        go_ret
        exact ⟨(j : Int), rfl, HF.out, HB.out⟩
      | false =>
        have HNN : Hid (∀ k, k < j + 1 → (fun t => !can p t) (L.getD k ro0) = false) := by
          intro k hk
          by_cases e : k = j
          · rw [e]; exact hx
          · exact HN.out k (by omega)
        simp only at hx
        rw [hx] at CT
        clear hx cA
        generalize L.getD j ro0 = t at *
        go_wp2_with (first | (refine wpList_load_mid rfl 59 _ rfl b1 (o1 + j * 4) (by simp [Act.eval]) t.cs.toList _ HC.out Try.underlying59 rfl sizeRoot ?_) | (go_at_call 59; refine CT.out.mono ?_; rintro y w1 ⟨rfl, hb⟩; have HB := hide (bt HB.out hb); clear hb))
        go_roundw
        case rel => exact ⟨j + 1, by omega, by go_num, HNN.out, HB.out⟩
        case measure => simp [intOf]; omega
    · obtain rfl : j = L.length := by omega
      have HF : Hid (Fst (fun t => !can p t) L (-1)) := .inr ⟨rfl, HN.out⟩
      go_wp2
      go_ret
      exact ⟨-1, rfl, HF.out, HB.out⟩
set_option maxHeartbeats 800000 in
theorem Contains_can (w : World) (a : Option Addr) (c : Nat) (L : List Ro) (hI : Js w a L) (g : Nat) (p k0 f0 : Int) (hg : Bx w 63 g #[.int .i64 p, .int .i64 k0, .int .i64 f0]) (hp : 0 ≤ p ∧ p ≤ 65536) (hl : L.length ≤ 4398046511000) :
    Calls Try.prog 58 #[.slice a L.length c, canV g] w fun y w' => y = .returned (.bool (L.any fun t => !can p t)) ∧ Below w.heap.size w w' := by
  have IF := hide (Index_can w a c L hI g p k0 f0 hg hp hl)
  clear hI hg
  unfold canV at *
  go_enter Try.func58, Try.ntmps58
  go_wp2_with fail
  refine IF.out.mono ?_
  rintro y w1 ⟨z, rfl, hz, hb⟩
  have HZ := hide hz.any
  have HB := hide hb
  clear hz hb
  go_wp2
  go_ret
  exact ⟨by rw [← HZ.out]; rfl, HB.out⟩
theorem any_not (f : Ro → Bool) (L : List Ro) : (!L.any fun t => !f t) = L.all f := by
  rw [List.not_any_eq_all_not]
  simp
set_option maxHeartbeats 800000 in
theorem trees_any (w : World) (a : Option Addr) (c : Nat) (L : List Ro) (hI : Js w a L) (p k0 f0 : Int) (hp : 0 ≤ p ∧ p ≤ 65536) (hl : L.length ≤ 4398046511000) :
    Calls Try.prog 40 #[plv p k0 f0, .slice a L.length c] w fun y w' => y = .returned (.bool (L.all (can p))) ∧ Below w.heap.size w w' := by
  have HA := hide (al w (.cells #[.int .i64 p, .int .i64 k0, .int .i64 f0] 63))
  have CF := hide (Contains_can _ a c L (hI.keep HA.out) w.heap.size p k0 f0 (Bx.new w 63 _) hp hl)
  have HN := hide (any_not (can p) L)
  clear hI
  unfold canV at CF
  unfold plv
  go_enter Try.func40, Try.ntmps40
  go_wp2_with fail
  refine CF.out.mono ?_
  rintro y w1 ⟨rfl, hb⟩
  have HL := hide (bt HA.out hb)
  clear hb CF
  go_wp2
  go_ret
  exact ⟨by rw [← HN.out]; rfl, HL.out⟩
/-- a superblock as a value -/
def suC (s : Su) (a : Option Addr) (c : Nat) : Array Value := #[.int .i64 s.gen, .int .i64 s.bl, .int .i64 s.cl, .int .i64 s.rf, .int .i64 s.nx, .slice a s.rs.length c]
def suv (s : Su) (a : Option Addr) (c : Nat) : Value := .agg (suC s a c)
theorem sizeSuper : (Try.prog.info? 28).map (·.size) = some 6 := by kernel_rfl
theorem lim_isF (s : Su) : lim s = (isF s.gen 0 1099511627776 && isF s.nx 1 2147483648 && decide ((s.rs.length : Int) ≤ s.cl)) := rfl
set_option maxHeartbeats 800000 in
theorem within_any (w : World) (s : Su) (a : Option Addr) (c : Nat) : Calls Try.prog 38 #[suv s a c] w fun y w' => y = .returned (.bool (lim s)) ∧ Below w.heap.size w w' := by
  rw [lim_isF]
  have HA := hide (al w (.cells (suC s a c) 28))
  unfold suv suC at *
  cases h1 : isF s.gen 0 1099511627776 with
  | false =>
    go_enter Try.func38, Try.ntmps38
    go_wp2_with (go_at_call 57; refine (isFrom_any _ _ _ _).mono ?_; rintro y w1 ⟨rfl, hww⟩; obtain rfl := hww.symm; first | rw [h1])
    go_ret
    exact ⟨by first | rfl | simp, HA.out⟩
  | true =>
    cases h2 : isF s.nx 1 2147483648 with
    | false =>
      go_enter Try.func38, Try.ntmps38
      go_wp2_with (go_at_call 57; refine (isFrom_any _ _ _ _).mono ?_; rintro y w1 ⟨rfl, hww⟩; obtain rfl := hww.symm; first | rw [h1] | rw [h2])
      go_ret
      exact ⟨by first | rfl | simp, HA.out⟩
    | true =>
      go_enter Try.func38, Try.ntmps38
      go_wp2_with (go_at_call 57; refine (isFrom_any _ _ _ _).mono ?_; rintro y w1 ⟨rfl, hww⟩; obtain rfl := hww.symm; first | rw [h1] | rw [h2])
      go_ret
      exact ⟨by first | rfl | simp, HA.out⟩
end Go.Proofs.Ytifhkfghjifecaa
