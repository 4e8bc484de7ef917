import Derived.Test.YtlkjpljfbmploaaRC
import Derived.Test.YtlkjpljfbmploaaWG
import Derived.Deep.RegionLaw
import Derived.Deep.RegionHeld3
namespace Go.Proofs.Ytlkjpljfbmploaa
open Go.RowKit

theorem Bs.at' {w : World} {aa : Option Addr} {p : List Nat} (hB : Bs w aa p) {j : Nat} (hj : j < p.length) : ∃ b off, aa = some ⟨b, off, none⟩ ∧ w.cell? ⟨b, off + j, none⟩ = some (.int .u8 ((p.getD j 0 : Nat) : Int)) := by
  rcases hB.2.2 with rfl | ⟨b, off, rfl, hc⟩
  · simp at hj
  · exact ⟨b, off, rfl, hc j hj⟩
theorem box_kept {w W w3 : World} {b : Nat} {a : Option Addr} {s : RS} (hlt : b < w.heap.size) (hp : W.cell? ⟨w.heap.size, 0, none⟩ = some (.pointer (some ⟨b, 0, none⟩))) (h : DidR W.drew w3 b a s) : w3.cell? ⟨w.heap.size, 0, none⟩ = some (.pointer (some ⟨b, 0, none⟩)) := by
  obtain ⟨_, _, _, _, h3⟩ := h
  exact (h3.cell (p := ⟨w.heap.size, 0, none⟩) (block_lt_of_cell hp) (by show ¬ w.heap.size = b; omega)).trans hp
theorem meas_up' (n j : Nat) (x : Int) (hx : x = (j : Int) + 1) (h : j < n) : n - (intOf (.int .i64 x)).toNat < n - (intOf (.int .i64 (j : Int))).toNat := by
  subst hx
  simp only [intOf]
  omega
/-- the number that bytes are, the lowest first -/
def numV : List Nat → Nat
  | [] => 0
  | x :: r => x + 256 * numV r

theorem numV_snoc (l : List Nat) (j : Nat) (h : j < l.length) : numV (l.take (j + 1)) = numV (l.take j) + l.getD j 0 * 256 ^ j := by
  induction l generalizing j with
  | nil => simp at h
  | cons x r ih =>
    cases j with
    | zero => simp [numV]
    | succ j =>
      have := ih j (by simpa using h)
      simp only [List.take_succ_cons, numV, this, List.getD_cons_succ, Nat.mul_add, Nat.pow_succ]
      rw [show 256 * (r.getD j 0 * 256 ^ j) = r.getD j 0 * (256 ^ j * 256) by rw [Nat.mul_left_comm, Nat.mul_comm 256]]
      omega
theorem numV_lt (l : List Nat) (h : ∀ x ∈ l, x < 256) : numV l < 256 ^ l.length := by
  induction l with
  | nil => simp [numV]
  | cons x r ih =>
    have h1 := h x (by simp)
    have h2 := ih fun y hy => h y (by simp [hy])
    simp only [numV, List.length_cons, Nat.pow_succ]
    omega
theorem or_step (v y j : Nat) (hv : v < 256 ^ j) (hy : y < 256) (hj : j < 8) : bits BinOp.or IntKind.u64 (v : Int) (IntKind.u64.wrap (IntKind.u64.wrap (y : Int) * 2 ^ (8 * j))) = ((v + y * 256 ^ j : Nat) : Int) := by
  have e : (256 : Nat) ^ j = 2 ^ (8 * j) := by rw [show (256 : Nat) = 2 ^ 8 from rfl, ← Nat.pow_mul]
  rw [e] at hv ⊢
  have hb : y * 2 ^ (8 * j) < 18446744073709551616 := by
    have h1 : (2 : Nat) ^ (8 * j) ≤ 2 ^ 56 := Nat.pow_le_pow_right (by decide) (by omega)
    have h2 : y * 2 ^ (8 * j) ≤ 255 * 2 ^ 56 := Nat.mul_le_mul (by omega) h1
    omega
  have hvb : v < 18446744073709551616 := by
    have h1 : (2 : Nat) ^ (8 * j) ≤ 2 ^ 56 := Nat.pow_le_pow_right (by decide) (by omega)
    omega
  have e1 : IntKind.u64.wrap (y : Int) = (y : Int) := by rw [IntKind.wrap_u64]; omega
  have e2 : ((y : Int) * 2 ^ (8 * j)) = ((y * 2 ^ (8 * j) : Nat) : Int) := by simp
  have e3 : IntKind.u64.wrap ((y * 2 ^ (8 * j) : Nat) : Int) = ((y * 2 ^ (8 * j) : Nat) : Int) := by rw [IntKind.wrap_u64]; omega
  rw [e1, e2, e3, u64_or_nat v (y * 2 ^ (8 * j)) hvb hb]
  congr 1
  rw [Nat.or_comm, Nat.mul_comm y, Nat.add_comm]
  exact (Nat.two_pow_add_eq_or_of_lt hv y).symm

set_option maxHeartbeats 1600000 in
theorem Get8_pan (w : World) (b : Nat) (a : Option Addr) (cap : Nat) (s : RS) (h : Rd w b a cap s) (hf : s.fail 1 ≠ 0) :
    Calls Try.prog 45 #[.pointer (some ⟨b, 0, none⟩)] w fun x w' => x = .returned (.int .u8 0) ∧ DidR w w' b a ⟨s.l, s.fail 1⟩ := by
  have hmf := mkf
  have hb0 : Below w.heap.size w (w.alloc (.cells #[.pointer (some ⟨b, 0, none⟩)] 40)).drew := ((Below.refl _ _).alloc (Nat.le_refl _) _).drew
  have H := hide (h.keep hb0)
  have A := hide (ahead_pan _ b a cap s 1 H.out hf)
  have HB0 := hide hb0
  clear h hf hb0
  generalize s.fail 1 = er at *
  have FIN : Hid (∀ tmps : Array Value, tmps.getD 2 undef = .int .u8 0 → bodyPostD Try.prog Try.f45 (fun x w' => x = .returned (.int .u8 0) ∧ DidR w w' b a ⟨s.l, er⟩) (Exit.panic (pan er))
      { tmps := tmps, defers := [{ target := Target.fn (Fn.func 72) #[.pointer (some ⟨w.heap.size, 0, none⟩)], args := #[] }] } (w.alloc (.cells #[.pointer (some ⟨b, 0, none⟩)] 40)).drew) := by
    intro tmps ht
    refine leaves_cons (f := 72) (args := #[.pointer (some ⟨w.heap.size, 0, none⟩)]) (by simp) (by simp [go_sem]) ?_
    refine (catch_pan_pGet8C _ ⟨w.heap.size, 0, none⟩ b a cap s er H.out ?_).mono ?_
    · simp [go_sem]
    rintro e u' w'' ⟨rfl, rfl, rfl⟩
    have G := gave_up H.out HB0.out er
    simp only [settle]
    refine ⟨_, results_tmp rfl _ _ _, ?_, G⟩
    rw [ht]
  go_enter_defers Try.func45, Try.ntmps45
  go_wp2
  refine wp_region_any (by kernel_rfl) ?_
  change wpAny _ _ _ _ _ _ _ (World.drew _)
  refine wpAny_ready (rs := [0, 1, 4]) (by kernel_rfl) (by simp) ?_
  refine AllReady.cons rfl (fun K hK => ?_) ?_
  · go_simp
    refine hK _ _ ?_
    clear hK K
    refine wpAny_ready (rs := [1, 4]) (by kernel_rfl) (by simp) ?_
    refine AllReady.cons rfl (fun K hK => ?_) ?_
    · go_simp
      go_wp2_with (go_at_call 65; refine (width8_any _).mono ?_; rintro e w0 ⟨rfl, hw0⟩; subst w0)
      try refine hK _ _ ?_
      try clear hK K
      refine wpAny_ready (rs := [2, 4]) (by kernel_rfl) (by simp) ?_
      refine AllReady.cons rfl (fun K hK => ?_) ?_
      · go_simp
        go_wp2_with (go_at_call 62; refine A.out.mono ?_; rintro e w1 ⟨rfl, hw1⟩; subst w1)
        exact FIN.out _ (by rfl)
      refine AllReady.cons rfl (fun K hK => ?_) ?_
      · go_simp
        refine hK _ _ ?_
        clear hK K
        refine wpAny_ready (rs := [2]) (by kernel_rfl) (by simp) ?_
        refine AllReady.cons rfl (fun K hK => ?_) ?_
        · go_simp
          go_wp2_with (go_at_call 62; refine A.out.mono ?_; rintro e w1 ⟨rfl, hw1⟩; subst w1)
          exact FIN.out _ (by rfl)
        exact AllReady.nil
      exact AllReady.nil
    refine AllReady.cons rfl (fun K hK => ?_) ?_
    · go_simp
      refine hK _ _ ?_
      clear hK K
      refine wpAny_ready (rs := [1]) (by kernel_rfl) (by simp) ?_
      refine AllReady.cons rfl (fun K hK => ?_) ?_
      · go_simp
        go_wp2_with (go_at_call 65; refine (width8_any _).mono ?_; rintro e w0 ⟨rfl, hw0⟩; subst w0)
        try refine hK _ _ ?_
        try clear hK K
        refine wpAny_ready (rs := [2]) (by kernel_rfl) (by simp) ?_
        refine AllReady.cons rfl (fun K hK => ?_) ?_
        · go_simp
          go_wp2_with (go_at_call 62; refine A.out.mono ?_; rintro e w1 ⟨rfl, hw1⟩; subst w1)
          exact FIN.out _ (by rfl)
        exact AllReady.nil
      exact AllReady.nil
    exact AllReady.nil
  refine AllReady.cons rfl (fun K hK => ?_) ?_
  · go_simp
    go_wp2_with (go_at_call 65; refine (width8_any _).mono ?_; rintro e w0 ⟨rfl, hw0⟩; subst w0)
    try refine hK _ _ ?_
    try clear hK K
    refine wpAny_ready (rs := [0, 4]) (by kernel_rfl) (by simp) ?_
    refine AllReady.cons rfl (fun K hK => ?_) ?_
    · go_simp
      refine hK _ _ ?_
      clear hK K
      refine wpAny_ready (rs := [2, 4]) (by kernel_rfl) (by simp) ?_
      refine AllReady.cons rfl (fun K hK => ?_) ?_
      · go_simp
        go_wp2_with (go_at_call 62; refine A.out.mono ?_; rintro e w1 ⟨rfl, hw1⟩; subst w1)
        exact FIN.out _ (by rfl)
      refine AllReady.cons rfl (fun K hK => ?_) ?_
      · go_simp
        refine hK _ _ ?_
        clear hK K
        refine wpAny_ready (rs := [2]) (by kernel_rfl) (by simp) ?_
        refine AllReady.cons rfl (fun K hK => ?_) ?_
        · go_simp
          go_wp2_with (go_at_call 62; refine A.out.mono ?_; rintro e w1 ⟨rfl, hw1⟩; subst w1)
          exact FIN.out _ (by rfl)
        exact AllReady.nil
      exact AllReady.nil
    refine AllReady.cons rfl (fun K hK => ?_) ?_
    · go_simp
      refine hK _ _ ?_
      clear hK K
      refine wpAny_ready (rs := [0]) (by kernel_rfl) (by simp) ?_
      refine AllReady.cons rfl (fun K hK => ?_) ?_
      · go_simp
        refine hK _ _ ?_
        clear hK K
        refine wpAny_ready (rs := [2]) (by kernel_rfl) (by simp) ?_
        refine AllReady.cons rfl (fun K hK => ?_) ?_
        · go_simp
          go_wp2_with (go_at_call 62; refine A.out.mono ?_; rintro e w1 ⟨rfl, hw1⟩; subst w1)
          exact FIN.out _ (by rfl)
        exact AllReady.nil
      exact AllReady.nil
    exact AllReady.nil
  refine AllReady.cons rfl (fun K hK => ?_) ?_
  · go_simp
    refine hK _ _ ?_
    clear hK K
    refine wpAny_ready (rs := [0, 1]) (by kernel_rfl) (by simp) ?_
    refine AllReady.cons rfl (fun K hK => ?_) ?_
    · go_simp
      refine hK _ _ ?_
      clear hK K
      refine wpAny_ready (rs := [1]) (by kernel_rfl) (by simp) ?_
      refine AllReady.cons rfl (fun K hK => ?_) ?_
      · go_simp
        go_wp2_with (go_at_call 65; refine (width8_any _).mono ?_; rintro e w0 ⟨rfl, hw0⟩; subst w0)
        try refine hK _ _ ?_
        try clear hK K
        refine wpAny_ready (rs := [2]) (by kernel_rfl) (by simp) ?_
        refine AllReady.cons rfl (fun K hK => ?_) ?_
        · go_simp
          go_wp2_with (go_at_call 62; refine A.out.mono ?_; rintro e w1 ⟨rfl, hw1⟩; subst w1)
          exact FIN.out _ (by rfl)
        exact AllReady.nil
      exact AllReady.nil
    refine AllReady.cons rfl (fun K hK => ?_) ?_
    · go_simp
      go_wp2_with (go_at_call 65; refine (width8_any _).mono ?_; rintro e w0 ⟨rfl, hw0⟩; subst w0)
      try refine hK _ _ ?_
      try clear hK K
      refine wpAny_ready (rs := [0]) (by kernel_rfl) (by simp) ?_
      refine AllReady.cons rfl (fun K hK => ?_) ?_
      · go_simp
        refine hK _ _ ?_
        clear hK K
        refine wpAny_ready (rs := [2]) (by kernel_rfl) (by simp) ?_
        refine AllReady.cons rfl (fun K hK => ?_) ?_
        · go_simp
          go_wp2_with (go_at_call 62; refine A.out.mono ?_; rintro e w1 ⟨rfl, hw1⟩; subst w1)
          exact FIN.out _ (by rfl)
        exact AllReady.nil
      exact AllReady.nil
    exact AllReady.nil
  exact AllReady.nil

set_option maxHeartbeats 1600000 in
theorem Get16_pan (w : World) (b : Nat) (a : Option Addr) (cap : Nat) (s : RS) (h : Rd w b a cap s) (hf : s.fail 2 ≠ 0) :
    Calls Try.prog 47 #[.pointer (some ⟨b, 0, none⟩)] w fun x w' => x = .returned (.int .u16 0) ∧ DidR w w' b a ⟨s.l, s.fail 2⟩ := by
  have hmf := mkf
  have hb0 : Below w.heap.size w (w.alloc (.cells #[.pointer (some ⟨b, 0, none⟩)] 40)).drew := ((Below.refl _ _).alloc (Nat.le_refl _) _).drew
  have H := hide (h.keep hb0)
  have A := hide (ahead_pan _ b a cap s 2 H.out hf)
  have HB0 := hide hb0
  clear h hf hb0
  generalize s.fail 2 = er at *
  have FIN : Hid (∀ tmps : Array Value, tmps.getD 2 undef = .int .u16 0 → bodyPostD Try.prog Try.f47 (fun x w' => x = .returned (.int .u16 0) ∧ DidR w w' b a ⟨s.l, er⟩) (Exit.panic (pan er))
      { tmps := tmps, defers := [{ target := Target.fn (Fn.func 73) #[.pointer (some ⟨w.heap.size, 0, none⟩)], args := #[] }] } (w.alloc (.cells #[.pointer (some ⟨b, 0, none⟩)] 40)).drew) := by
    intro tmps ht
    refine leaves_cons (f := 73) (args := #[.pointer (some ⟨w.heap.size, 0, none⟩)]) (by simp) (by simp [go_sem]) ?_
    refine (catch_pan_pGet16C _ ⟨w.heap.size, 0, none⟩ b a cap s er H.out ?_).mono ?_
    · simp [go_sem]
    rintro e u' w'' ⟨rfl, rfl, rfl⟩
    have G := gave_up H.out HB0.out er
    simp only [settle]
    refine ⟨_, results_tmp rfl _ _ _, ?_, G⟩
    rw [ht]
  go_enter_defers Try.func47, Try.ntmps47
  go_wp2
  refine wp_region_any (by kernel_rfl) ?_
  change wpAny _ _ _ _ _ _ _ (World.drew _)
  refine wpAny_ready (rs := [0, 1, 4]) (by kernel_rfl) (by simp) ?_
  refine AllReady.cons rfl (fun K hK => ?_) ?_
  · go_simp
    refine hK _ _ ?_
    clear hK K
    refine wpAny_ready (rs := [1, 4]) (by kernel_rfl) (by simp) ?_
    refine AllReady.cons rfl (fun K hK => ?_) ?_
    · go_simp
      go_wp2_with (go_at_call 68; refine (width16_any _).mono ?_; rintro e w0 ⟨rfl, hw0⟩; subst w0)
      try refine hK _ _ ?_
      try clear hK K
      refine wpAny_ready (rs := [2, 4]) (by kernel_rfl) (by simp) ?_
      refine AllReady.cons rfl (fun K hK => ?_) ?_
      · go_simp
        go_wp2_with (go_at_call 62; refine A.out.mono ?_; rintro e w1 ⟨rfl, hw1⟩; subst w1)
        exact FIN.out _ (by rfl)
      refine AllReady.cons rfl (fun K hK => ?_) ?_
      · go_simp
        refine hK _ _ ?_
        clear hK K
        refine wpAny_ready (rs := [2]) (by kernel_rfl) (by simp) ?_
        refine AllReady.cons rfl (fun K hK => ?_) ?_
        · go_simp
          go_wp2_with (go_at_call 62; refine A.out.mono ?_; rintro e w1 ⟨rfl, hw1⟩; subst w1)
          exact FIN.out _ (by rfl)
        exact AllReady.nil
      exact AllReady.nil
    refine AllReady.cons rfl (fun K hK => ?_) ?_
    · go_simp
      refine hK _ _ ?_
      clear hK K
      refine wpAny_ready (rs := [1]) (by kernel_rfl) (by simp) ?_
      refine AllReady.cons rfl (fun K hK => ?_) ?_
      · go_simp
        go_wp2_with (go_at_call 68; refine (width16_any _).mono ?_; rintro e w0 ⟨rfl, hw0⟩; subst w0)
        try refine hK _ _ ?_
        try clear hK K
        refine wpAny_ready (rs := [2]) (by kernel_rfl) (by simp) ?_
        refine AllReady.cons rfl (fun K hK => ?_) ?_
        · go_simp
          go_wp2_with (go_at_call 62; refine A.out.mono ?_; rintro e w1 ⟨rfl, hw1⟩; subst w1)
          exact FIN.out _ (by rfl)
        exact AllReady.nil
      exact AllReady.nil
    exact AllReady.nil
  refine AllReady.cons rfl (fun K hK => ?_) ?_
  · go_simp
    go_wp2_with (go_at_call 68; refine (width16_any _).mono ?_; rintro e w0 ⟨rfl, hw0⟩; subst w0)
    try refine hK _ _ ?_
    try clear hK K
    refine wpAny_ready (rs := [0, 4]) (by kernel_rfl) (by simp) ?_
    refine AllReady.cons rfl (fun K hK => ?_) ?_
    · go_simp
      refine hK _ _ ?_
      clear hK K
      refine wpAny_ready (rs := [2, 4]) (by kernel_rfl) (by simp) ?_
      refine AllReady.cons rfl (fun K hK => ?_) ?_
      · go_simp
        go_wp2_with (go_at_call 62; refine A.out.mono ?_; rintro e w1 ⟨rfl, hw1⟩; subst w1)
        exact FIN.out _ (by rfl)
      refine AllReady.cons rfl (fun K hK => ?_) ?_
      · go_simp
        refine hK _ _ ?_
        clear hK K
        refine wpAny_ready (rs := [2]) (by kernel_rfl) (by simp) ?_
        refine AllReady.cons rfl (fun K hK => ?_) ?_
        · go_simp
          go_wp2_with (go_at_call 62; refine A.out.mono ?_; rintro e w1 ⟨rfl, hw1⟩; subst w1)
          exact FIN.out _ (by rfl)
        exact AllReady.nil
      exact AllReady.nil
    refine AllReady.cons rfl (fun K hK => ?_) ?_
    · go_simp
      refine hK _ _ ?_
      clear hK K
      refine wpAny_ready (rs := [0]) (by kernel_rfl) (by simp) ?_
      refine AllReady.cons rfl (fun K hK => ?_) ?_
      · go_simp
        refine hK _ _ ?_
        clear hK K
        refine wpAny_ready (rs := [2]) (by kernel_rfl) (by simp) ?_
        refine AllReady.cons rfl (fun K hK => ?_) ?_
        · go_simp
          go_wp2_with (go_at_call 62; refine A.out.mono ?_; rintro e w1 ⟨rfl, hw1⟩; subst w1)
          exact FIN.out _ (by rfl)
        exact AllReady.nil
      exact AllReady.nil
    exact AllReady.nil
  refine AllReady.cons rfl (fun K hK => ?_) ?_
  · go_simp
    refine hK _ _ ?_
    clear hK K
    refine wpAny_ready (rs := [0, 1]) (by kernel_rfl) (by simp) ?_
    refine AllReady.cons rfl (fun K hK => ?_) ?_
    · go_simp
      refine hK _ _ ?_
      clear hK K
      refine wpAny_ready (rs := [1]) (by kernel_rfl) (by simp) ?_
      refine AllReady.cons rfl (fun K hK => ?_) ?_
      · go_simp
        go_wp2_with (go_at_call 68; refine (width16_any _).mono ?_; rintro e w0 ⟨rfl, hw0⟩; subst w0)
        try refine hK _ _ ?_
        try clear hK K
        refine wpAny_ready (rs := [2]) (by kernel_rfl) (by simp) ?_
        refine AllReady.cons rfl (fun K hK => ?_) ?_
        · go_simp
          go_wp2_with (go_at_call 62; refine A.out.mono ?_; rintro e w1 ⟨rfl, hw1⟩; subst w1)
          exact FIN.out _ (by rfl)
        exact AllReady.nil
      exact AllReady.nil
    refine AllReady.cons rfl (fun K hK => ?_) ?_
    · go_simp
      go_wp2_with (go_at_call 68; refine (width16_any _).mono ?_; rintro e w0 ⟨rfl, hw0⟩; subst w0)
      try refine hK _ _ ?_
      try clear hK K
      refine wpAny_ready (rs := [0]) (by kernel_rfl) (by simp) ?_
      refine AllReady.cons rfl (fun K hK => ?_) ?_
      · go_simp
        refine hK _ _ ?_
        clear hK K
        refine wpAny_ready (rs := [2]) (by kernel_rfl) (by simp) ?_
        refine AllReady.cons rfl (fun K hK => ?_) ?_
        · go_simp
          go_wp2_with (go_at_call 62; refine A.out.mono ?_; rintro e w1 ⟨rfl, hw1⟩; subst w1)
          exact FIN.out _ (by rfl)
        exact AllReady.nil
      exact AllReady.nil
    exact AllReady.nil
  exact AllReady.nil

set_option maxHeartbeats 1600000 in
theorem Get32_pan (w : World) (b : Nat) (a : Option Addr) (cap : Nat) (s : RS) (h : Rd w b a cap s) (hf : s.fail 4 ≠ 0) :
    Calls Try.prog 48 #[.pointer (some ⟨b, 0, none⟩)] w fun x w' => x = .returned (.int .u32 0) ∧ DidR w w' b a ⟨s.l, s.fail 4⟩ := by
  have hmf := mkf
  have hb0 : Below w.heap.size w (w.alloc (.cells #[.pointer (some ⟨b, 0, none⟩)] 40)).drew := ((Below.refl _ _).alloc (Nat.le_refl _) _).drew
  have H := hide (h.keep hb0)
  have A := hide (ahead_pan _ b a cap s 4 H.out hf)
  have HB0 := hide hb0
  clear h hf hb0
  generalize s.fail 4 = er at *
  have FIN : Hid (∀ tmps : Array Value, tmps.getD 2 undef = .int .u32 0 → bodyPostD Try.prog Try.f48 (fun x w' => x = .returned (.int .u32 0) ∧ DidR w w' b a ⟨s.l, er⟩) (Exit.panic (pan er))
      { tmps := tmps, defers := [{ target := Target.fn (Fn.func 74) #[.pointer (some ⟨w.heap.size, 0, none⟩)], args := #[] }] } (w.alloc (.cells #[.pointer (some ⟨b, 0, none⟩)] 40)).drew) := by
    intro tmps ht
    refine leaves_cons (f := 74) (args := #[.pointer (some ⟨w.heap.size, 0, none⟩)]) (by simp) (by simp [go_sem]) ?_
    refine (catch_pan_pGet32C _ ⟨w.heap.size, 0, none⟩ b a cap s er H.out ?_).mono ?_
    · simp [go_sem]
    rintro e u' w'' ⟨rfl, rfl, rfl⟩
    have G := gave_up H.out HB0.out er
    simp only [settle]
    refine ⟨_, results_tmp rfl _ _ _, ?_, G⟩
    rw [ht]
  go_enter_defers Try.func48, Try.ntmps48
  go_wp2
  refine wp_region_any (by kernel_rfl) ?_
  change wpAny _ _ _ _ _ _ _ (World.drew _)
  refine wpAny_ready (rs := [0, 1, 4]) (by kernel_rfl) (by simp) ?_
  refine AllReady.cons rfl (fun K hK => ?_) ?_
  · go_simp
    refine hK _ _ ?_
    clear hK K
    refine wpAny_ready (rs := [1, 4]) (by kernel_rfl) (by simp) ?_
    refine AllReady.cons rfl (fun K hK => ?_) ?_
    · go_simp
      go_wp2_with (go_at_call 69; refine (width32_any _).mono ?_; rintro e w0 ⟨rfl, hw0⟩; subst w0)
      try refine hK _ _ ?_
      try clear hK K
      refine wpAny_ready (rs := [2, 4]) (by kernel_rfl) (by simp) ?_
      refine AllReady.cons rfl (fun K hK => ?_) ?_
      · go_simp
        go_wp2_with (go_at_call 62; refine A.out.mono ?_; rintro e w1 ⟨rfl, hw1⟩; subst w1)
        exact FIN.out _ (by rfl)
      refine AllReady.cons rfl (fun K hK => ?_) ?_
      · go_simp
        refine hK _ _ ?_
        clear hK K
        refine wpAny_ready (rs := [2]) (by kernel_rfl) (by simp) ?_
        refine AllReady.cons rfl (fun K hK => ?_) ?_
        · go_simp
          go_wp2_with (go_at_call 62; refine A.out.mono ?_; rintro e w1 ⟨rfl, hw1⟩; subst w1)
          exact FIN.out _ (by rfl)
        exact AllReady.nil
      exact AllReady.nil
    refine AllReady.cons rfl (fun K hK => ?_) ?_
    · go_simp
      refine hK _ _ ?_
      clear hK K
      refine wpAny_ready (rs := [1]) (by kernel_rfl) (by simp) ?_
      refine AllReady.cons rfl (fun K hK => ?_) ?_
      · go_simp
        go_wp2_with (go_at_call 69; refine (width32_any _).mono ?_; rintro e w0 ⟨rfl, hw0⟩; subst w0)
        try refine hK _ _ ?_
        try clear hK K
        refine wpAny_ready (rs := [2]) (by kernel_rfl) (by simp) ?_
        refine AllReady.cons rfl (fun K hK => ?_) ?_
        · go_simp
          go_wp2_with (go_at_call 62; refine A.out.mono ?_; rintro e w1 ⟨rfl, hw1⟩; subst w1)
          exact FIN.out _ (by rfl)
        exact AllReady.nil
      exact AllReady.nil
    exact AllReady.nil
  refine AllReady.cons rfl (fun K hK => ?_) ?_
  · go_simp
    go_wp2_with (go_at_call 69; refine (width32_any _).mono ?_; rintro e w0 ⟨rfl, hw0⟩; subst w0)
    try refine hK _ _ ?_
    try clear hK K
    refine wpAny_ready (rs := [0, 4]) (by kernel_rfl) (by simp) ?_
    refine AllReady.cons rfl (fun K hK => ?_) ?_
    · go_simp
      refine hK _ _ ?_
      clear hK K
      refine wpAny_ready (rs := [2, 4]) (by kernel_rfl) (by simp) ?_
      refine AllReady.cons rfl (fun K hK => ?_) ?_
      · go_simp
        go_wp2_with (go_at_call 62; refine A.out.mono ?_; rintro e w1 ⟨rfl, hw1⟩; subst w1)
        exact FIN.out _ (by rfl)
      refine AllReady.cons rfl (fun K hK => ?_) ?_
      · go_simp
        refine hK _ _ ?_
        clear hK K
        refine wpAny_ready (rs := [2]) (by kernel_rfl) (by simp) ?_
        refine AllReady.cons rfl (fun K hK => ?_) ?_
        · go_simp
          go_wp2_with (go_at_call 62; refine A.out.mono ?_; rintro e w1 ⟨rfl, hw1⟩; subst w1)
          exact FIN.out _ (by rfl)
        exact AllReady.nil
      exact AllReady.nil
    refine AllReady.cons rfl (fun K hK => ?_) ?_
    · go_simp
      refine hK _ _ ?_
      clear hK K
      refine wpAny_ready (rs := [0]) (by kernel_rfl) (by simp) ?_
      refine AllReady.cons rfl (fun K hK => ?_) ?_
      · go_simp
        refine hK _ _ ?_
        clear hK K
        refine wpAny_ready (rs := [2]) (by kernel_rfl) (by simp) ?_
        refine AllReady.cons rfl (fun K hK => ?_) ?_
        · go_simp
          go_wp2_with (go_at_call 62; refine A.out.mono ?_; rintro e w1 ⟨rfl, hw1⟩; subst w1)
          exact FIN.out _ (by rfl)
        exact AllReady.nil
      exact AllReady.nil
    exact AllReady.nil
  refine AllReady.cons rfl (fun K hK => ?_) ?_
  · go_simp
    refine hK _ _ ?_
    clear hK K
    refine wpAny_ready (rs := [0, 1]) (by kernel_rfl) (by simp) ?_
    refine AllReady.cons rfl (fun K hK => ?_) ?_
    · go_simp
      refine hK _ _ ?_
      clear hK K
      refine wpAny_ready (rs := [1]) (by kernel_rfl) (by simp) ?_
      refine AllReady.cons rfl (fun K hK => ?_) ?_
      · go_simp
        go_wp2_with (go_at_call 69; refine (width32_any _).mono ?_; rintro e w0 ⟨rfl, hw0⟩; subst w0)
        try refine hK _ _ ?_
        try clear hK K
        refine wpAny_ready (rs := [2]) (by kernel_rfl) (by simp) ?_
        refine AllReady.cons rfl (fun K hK => ?_) ?_
        · go_simp
          go_wp2_with (go_at_call 62; refine A.out.mono ?_; rintro e w1 ⟨rfl, hw1⟩; subst w1)
          exact FIN.out _ (by rfl)
        exact AllReady.nil
      exact AllReady.nil
    refine AllReady.cons rfl (fun K hK => ?_) ?_
    · go_simp
      go_wp2_with (go_at_call 69; refine (width32_any _).mono ?_; rintro e w0 ⟨rfl, hw0⟩; subst w0)
      try refine hK _ _ ?_
      try clear hK K
      refine wpAny_ready (rs := [0]) (by kernel_rfl) (by simp) ?_
      refine AllReady.cons rfl (fun K hK => ?_) ?_
      · go_simp
        refine hK _ _ ?_
        clear hK K
        refine wpAny_ready (rs := [2]) (by kernel_rfl) (by simp) ?_
        refine AllReady.cons rfl (fun K hK => ?_) ?_
        · go_simp
          go_wp2_with (go_at_call 62; refine A.out.mono ?_; rintro e w1 ⟨rfl, hw1⟩; subst w1)
          exact FIN.out _ (by rfl)
        exact AllReady.nil
      exact AllReady.nil
    exact AllReady.nil
  exact AllReady.nil

set_option maxHeartbeats 1600000 in
theorem Get64_pan (w : World) (b : Nat) (a : Option Addr) (cap : Nat) (s : RS) (h : Rd w b a cap s) (hf : s.fail 8 ≠ 0) :
    Calls Try.prog 49 #[.pointer (some ⟨b, 0, none⟩)] w fun x w' => x = .returned (.int .u64 0) ∧ DidR w w' b a ⟨s.l, s.fail 8⟩ := by
  have hmf := mkf
  have hb0 : Below w.heap.size w (w.alloc (.cells #[.pointer (some ⟨b, 0, none⟩)] 40)).drew := ((Below.refl _ _).alloc (Nat.le_refl _) _).drew
  have H := hide (h.keep hb0)
  have A := hide (ahead_pan _ b a cap s 8 H.out hf)
  have HB0 := hide hb0
  clear h hf hb0
  generalize s.fail 8 = er at *
  have FIN : Hid (∀ tmps : Array Value, tmps.getD 2 undef = .int .u64 0 → bodyPostD Try.prog Try.f49 (fun x w' => x = .returned (.int .u64 0) ∧ DidR w w' b a ⟨s.l, er⟩) (Exit.panic (pan er))
      { tmps := tmps, defers := [{ target := Target.fn (Fn.func 75) #[.pointer (some ⟨w.heap.size, 0, none⟩)], args := #[] }] } (w.alloc (.cells #[.pointer (some ⟨b, 0, none⟩)] 40)).drew) := by
    intro tmps ht
    refine leaves_cons (f := 75) (args := #[.pointer (some ⟨w.heap.size, 0, none⟩)]) (by simp) (by simp [go_sem]) ?_
    refine (catch_pan_pGet64C _ ⟨w.heap.size, 0, none⟩ b a cap s er H.out ?_).mono ?_
    · simp [go_sem]
    rintro e u' w'' ⟨rfl, rfl, rfl⟩
    have G := gave_up H.out HB0.out er
    simp only [settle]
    refine ⟨_, results_tmp rfl _ _ _, ?_, G⟩
    rw [ht]
  go_enter_defers Try.func49, Try.ntmps49
  go_wp2
  refine wp_region_any (by kernel_rfl) ?_
  change wpAny _ _ _ _ _ _ _ (World.drew _)
  refine wpAny_ready (rs := [0, 1, 4]) (by kernel_rfl) (by simp) ?_
  refine AllReady.cons rfl (fun K hK => ?_) ?_
  · go_simp
    refine hK _ _ ?_
    clear hK K
    refine wpAny_ready (rs := [1, 4]) (by kernel_rfl) (by simp) ?_
    refine AllReady.cons rfl (fun K hK => ?_) ?_
    · go_simp
      go_wp2_with (go_at_call 70; refine (width64_any _).mono ?_; rintro e w0 ⟨rfl, hw0⟩; subst w0)
      try refine hK _ _ ?_
      try clear hK K
      refine wpAny_ready (rs := [2, 4]) (by kernel_rfl) (by simp) ?_
      refine AllReady.cons rfl (fun K hK => ?_) ?_
      · go_simp
        go_wp2_with (go_at_call 62; refine A.out.mono ?_; rintro e w1 ⟨rfl, hw1⟩; subst w1)
        exact FIN.out _ (by rfl)
      refine AllReady.cons rfl (fun K hK => ?_) ?_
      · go_simp
        refine hK _ _ ?_
        clear hK K
        refine wpAny_ready (rs := [2]) (by kernel_rfl) (by simp) ?_
        refine AllReady.cons rfl (fun K hK => ?_) ?_
        · go_simp
          go_wp2_with (go_at_call 62; refine A.out.mono ?_; rintro e w1 ⟨rfl, hw1⟩; subst w1)
          exact FIN.out _ (by rfl)
        exact AllReady.nil
      exact AllReady.nil
    refine AllReady.cons rfl (fun K hK => ?_) ?_
    · go_simp
      refine hK _ _ ?_
      clear hK K
      refine wpAny_ready (rs := [1]) (by kernel_rfl) (by simp) ?_
      refine AllReady.cons rfl (fun K hK => ?_) ?_
      · go_simp
        go_wp2_with (go_at_call 70; refine (width64_any _).mono ?_; rintro e w0 ⟨rfl, hw0⟩; subst w0)
        try refine hK _ _ ?_
        try clear hK K
        refine wpAny_ready (rs := [2]) (by kernel_rfl) (by simp) ?_
        refine AllReady.cons rfl (fun K hK => ?_) ?_
        · go_simp
          go_wp2_with (go_at_call 62; refine A.out.mono ?_; rintro e w1 ⟨rfl, hw1⟩; subst w1)
          exact FIN.out _ (by rfl)
        exact AllReady.nil
      exact AllReady.nil
    exact AllReady.nil
  refine AllReady.cons rfl (fun K hK => ?_) ?_
  · go_simp
    go_wp2_with (go_at_call 70; refine (width64_any _).mono ?_; rintro e w0 ⟨rfl, hw0⟩; subst w0)
    try refine hK _ _ ?_
    try clear hK K
    refine wpAny_ready (rs := [0, 4]) (by kernel_rfl) (by simp) ?_
    refine AllReady.cons rfl (fun K hK => ?_) ?_
    · go_simp
      refine hK _ _ ?_
      clear hK K
      refine wpAny_ready (rs := [2, 4]) (by kernel_rfl) (by simp) ?_
      refine AllReady.cons rfl (fun K hK => ?_) ?_
      · go_simp
        go_wp2_with (go_at_call 62; refine A.out.mono ?_; rintro e w1 ⟨rfl, hw1⟩; subst w1)
        exact FIN.out _ (by rfl)
      refine AllReady.cons rfl (fun K hK => ?_) ?_
      · go_simp
        refine hK _ _ ?_
        clear hK K
        refine wpAny_ready (rs := [2]) (by kernel_rfl) (by simp) ?_
        refine AllReady.cons rfl (fun K hK => ?_) ?_
        · go_simp
          go_wp2_with (go_at_call 62; refine A.out.mono ?_; rintro e w1 ⟨rfl, hw1⟩; subst w1)
          exact FIN.out _ (by rfl)
        exact AllReady.nil
      exact AllReady.nil
    refine AllReady.cons rfl (fun K hK => ?_) ?_
    · go_simp
      refine hK _ _ ?_
      clear hK K
      refine wpAny_ready (rs := [0]) (by kernel_rfl) (by simp) ?_
      refine AllReady.cons rfl (fun K hK => ?_) ?_
      · go_simp
        refine hK _ _ ?_
        clear hK K
        refine wpAny_ready (rs := [2]) (by kernel_rfl) (by simp) ?_
        refine AllReady.cons rfl (fun K hK => ?_) ?_
        · go_simp
          go_wp2_with (go_at_call 62; refine A.out.mono ?_; rintro e w1 ⟨rfl, hw1⟩; subst w1)
          exact FIN.out _ (by rfl)
        exact AllReady.nil
      exact AllReady.nil
    exact AllReady.nil
  refine AllReady.cons rfl (fun K hK => ?_) ?_
  · go_simp
    refine hK _ _ ?_
    clear hK K
    refine wpAny_ready (rs := [0, 1]) (by kernel_rfl) (by simp) ?_
    refine AllReady.cons rfl (fun K hK => ?_) ?_
    · go_simp
      refine hK _ _ ?_
      clear hK K
      refine wpAny_ready (rs := [1]) (by kernel_rfl) (by simp) ?_
      refine AllReady.cons rfl (fun K hK => ?_) ?_
      · go_simp
        go_wp2_with (go_at_call 70; refine (width64_any _).mono ?_; rintro e w0 ⟨rfl, hw0⟩; subst w0)
        try refine hK _ _ ?_
        try clear hK K
        refine wpAny_ready (rs := [2]) (by kernel_rfl) (by simp) ?_
        refine AllReady.cons rfl (fun K hK => ?_) ?_
        · go_simp
          go_wp2_with (go_at_call 62; refine A.out.mono ?_; rintro e w1 ⟨rfl, hw1⟩; subst w1)
          exact FIN.out _ (by rfl)
        exact AllReady.nil
      exact AllReady.nil
    refine AllReady.cons rfl (fun K hK => ?_) ?_
    · go_simp
      go_wp2_with (go_at_call 70; refine (width64_any _).mono ?_; rintro e w0 ⟨rfl, hw0⟩; subst w0)
      try refine hK _ _ ?_
      try clear hK K
      refine wpAny_ready (rs := [0]) (by kernel_rfl) (by simp) ?_
      refine AllReady.cons rfl (fun K hK => ?_) ?_
      · go_simp
        refine hK _ _ ?_
        clear hK K
        refine wpAny_ready (rs := [2]) (by kernel_rfl) (by simp) ?_
        refine AllReady.cons rfl (fun K hK => ?_) ?_
        · go_simp
          go_wp2_with (go_at_call 62; refine A.out.mono ?_; rintro e w1 ⟨rfl, hw1⟩; subst w1)
          exact FIN.out _ (by rfl)
        exact AllReady.nil
      exact AllReady.nil
    exact AllReady.nil
  exact AllReady.nil

set_option maxHeartbeats 3200000 in
theorem Get8_ok (w : World) (b : Nat) (a : Option Addr) (cap : Nat) (s : RS) (h : Rd w b a cap s) (he : s.e = 0) (hk : 1 ≤ s.l.length) :
    Calls Try.prog 45 #[.pointer (some ⟨b, 0, none⟩)] w fun x w' => x = .returned (.int .u8 (numV (s.l.take 1) : Int)) ∧ DidR w w' b a ⟨s.l.drop 1, s.e⟩ := by
  have hmf := mkf
  have hb0 : Below w.heap.size w (w.alloc (.cells #[.pointer (some ⟨b, 0, none⟩)] 40)).drew := ((Below.refl _ _).alloc (Nat.le_refl _) _).drew
  have hp0 : (w.alloc (.cells #[.pointer (some ⟨b, 0, none⟩)] 40)).drew.cell? ⟨w.heap.size, 0, none⟩ = some (.pointer (some ⟨b, 0, none⟩)) := by simp
  have H := hide (h.keep hb0)
  have HLT := hide h.lt
  have A := hide (ahead_ok _ b a cap s 1 H.out he hk)
  have HB0 := hide hb0
  have HK := hide hk
  clear h hb0 hk
  go_enter_defers Try.func45, Try.ntmps45
  go_wp2
  go_region_held3 (fun w' => w'.cell? ⟨w.heap.size, 0, none⟩ = some (.pointer (some ⟨b, 0, none⟩)))
    (first | exact hp0)
    (first | (go_at_call 65; refine (width8_any _).mono ?_; rintro e w0 ⟨rfl, hw0⟩; subst w0) | (go_at_call 62; refine A.out.mono ?_; rintro e w1 ⟨rfl, hw1⟩; subst w1))
  generalize (w.alloc (.cells #[.pointer (some ⟨b, 0, none⟩)] 40)).drew = W at *
  go_wp2
  go_loopw [3, 11] (fun v i wx => ∃ j : Nat, j ≤ 1 ∧ i = .int .i64 j ∧ v = .int .u64 ((numV (s.l.take j) : Nat) : Int) ∧ wx = W) (fun _ i _ => 1 - (intOf i).toNat)
  case atStart => exact ⟨0, Nat.zero_le _, rfl, rfl, rfl⟩
  case round =>
    obtain ⟨j, hj, rfl, rfl, hw⟩ := hrel
    subst wr
    by_cases hlt : j < 1
    · have hi : (j : Int) < 1 := by omega
      have hjl : j < s.l.length := by have := HK.out; omega
      obtain ⟨g, off, rfl, hc⟩ := H.out.2.1.at' (j := j) hjl
      have hy : s.l.getD j 0 < 256 := by rw [getD_at s.l hjl]; exact H.out.2.1.1 _ (List.getElem_mem _)
      have hv : numV (s.l.take j) < 256 ^ j := by
        have h1 := numV_lt (s.l.take j) fun x hx => H.out.2.1.1 x (List.mem_of_mem_take hx)
        rwa [List.length_take, Nat.min_eq_left (by omega)] at h1
      have hor := or_step _ _ j hv hy (by omega)
      rw [← numV_snoc s.l j hjl] at hor
      clear hv hy
      generalize hu : numV (s.l.take (j + 1)) = u at *
      have HU := hide hu
      clear hu
      generalize s.l.getD j 0 = y at *
      generalize numV (s.l.take j) = v at *
      go_wp2
      refine ⟨⟨j + 1, by omega, congrArg (Value.int IntKind.i64) (by omega), ?_, trivial⟩, meas_up' _ _ _ rfl hlt⟩
      rw [HU.out]
    · obtain rfl : j = 1 := by omega
      have hv := numV_lt (s.l.take 1) fun x hx => H.out.2.1.1 x (List.mem_of_mem_take hx)
      rw [List.length_take, Nat.min_eq_left HK.out] at hv
      have hcv : IntKind.u8.wrap ((numV (s.l.take 1) : Nat) : Int) = ((numV (s.l.take 1) : Nat) : Int) := by rw [IntKind.wrap_u8']; omega
      have hbW : Below W.heap.size W W.drew := (Below.refl _ _).drew
      have PS := hide (pass_any W.drew b a cap s 1 (H.out.keep hbW) HK.out)
      have HBW := hide hbW
      clear hbW A
      generalize hgv : numV (s.l.take 1) = v at *
      have HGV := hide hgv
      clear hgv
      go_wp2
      go_region_held3 (fun w' => w'.cell? ⟨w.heap.size, 0, none⟩ = some (.pointer (some ⟨b, 0, none⟩)))
        (first | exact hp0 | exact hp3)
        (first | (go_at_call 65; refine (width8_any _).mono ?_; rintro e w0 ⟨rfl, hw0⟩; subst w0) | (go_at_call 63; refine PS.out.mono ?_; rintro e w3 ⟨rfl, h3⟩; have hp3 := box_kept HLT.out hp0 h3; have H3 := hide h3; clear h3))
      go_wp2
      refine leaves_cons (f := 72) (args := #[.pointer (some ⟨w.heap.size, 0, none⟩)]) (by simp) (by simp [go_sem]) ?_
      refine (catch_idle_pGet8C _ ⟨w.heap.size, 0, none⟩).mono ?_
      rintro e u' w'' ⟨rfl, rfl, rfl⟩
      simp only [settle]
      exact ⟨_, results_tmp rfl _ _ _, by rw [HGV.out]; rfl, DidR.pre (bt HB0.out HBW.out) H3.out⟩

set_option maxHeartbeats 3200000 in
theorem Get16_ok (w : World) (b : Nat) (a : Option Addr) (cap : Nat) (s : RS) (h : Rd w b a cap s) (he : s.e = 0) (hk : 2 ≤ s.l.length) :
    Calls Try.prog 47 #[.pointer (some ⟨b, 0, none⟩)] w fun x w' => x = .returned (.int .u16 (numV (s.l.take 2) : Int)) ∧ DidR w w' b a ⟨s.l.drop 2, s.e⟩ := by
  have hmf := mkf
  have hb0 : Below w.heap.size w (w.alloc (.cells #[.pointer (some ⟨b, 0, none⟩)] 40)).drew := ((Below.refl _ _).alloc (Nat.le_refl _) _).drew
  have hp0 : (w.alloc (.cells #[.pointer (some ⟨b, 0, none⟩)] 40)).drew.cell? ⟨w.heap.size, 0, none⟩ = some (.pointer (some ⟨b, 0, none⟩)) := by simp
  have H := hide (h.keep hb0)
  have HLT := hide h.lt
  have A := hide (ahead_ok _ b a cap s 2 H.out he hk)
  have HB0 := hide hb0
  have HK := hide hk
  clear h hb0 hk
  go_enter_defers Try.func47, Try.ntmps47
  go_wp2
  go_region_held3 (fun w' => w'.cell? ⟨w.heap.size, 0, none⟩ = some (.pointer (some ⟨b, 0, none⟩)))
    (first | exact hp0)
    (first | (go_at_call 68; refine (width16_any _).mono ?_; rintro e w0 ⟨rfl, hw0⟩; subst w0) | (go_at_call 62; refine A.out.mono ?_; rintro e w1 ⟨rfl, hw1⟩; subst w1))
  generalize (w.alloc (.cells #[.pointer (some ⟨b, 0, none⟩)] 40)).drew = W at *
  go_wp2
  go_loopw [3, 11] (fun v i wx => ∃ j : Nat, j ≤ 2 ∧ i = .int .i64 j ∧ v = .int .u64 ((numV (s.l.take j) : Nat) : Int) ∧ wx = W) (fun _ i _ => 2 - (intOf i).toNat)
  case atStart => exact ⟨0, Nat.zero_le _, rfl, rfl, rfl⟩
  case round =>
    obtain ⟨j, hj, rfl, rfl, hw⟩ := hrel
    subst wr
    by_cases hlt : j < 2
    · have hi : (j : Int) < 2 := by omega
      have hjl : j < s.l.length := by have := HK.out; omega
      obtain ⟨g, off, rfl, hc⟩ := H.out.2.1.at' (j := j) hjl
      have hy : s.l.getD j 0 < 256 := by rw [getD_at s.l hjl]; exact H.out.2.1.1 _ (List.getElem_mem _)
      have hv : numV (s.l.take j) < 256 ^ j := by
        have h1 := numV_lt (s.l.take j) fun x hx => H.out.2.1.1 x (List.mem_of_mem_take hx)
        rwa [List.length_take, Nat.min_eq_left (by omega)] at h1
      have hor := or_step _ _ j hv hy (by omega)
      rw [← numV_snoc s.l j hjl] at hor
      clear hv hy
      generalize hu : numV (s.l.take (j + 1)) = u at *
      have HU := hide hu
      clear hu
      generalize s.l.getD j 0 = y at *
      generalize numV (s.l.take j) = v at *
      go_wp2
      refine ⟨⟨j + 1, by omega, congrArg (Value.int IntKind.i64) (by omega), ?_, trivial⟩, meas_up' _ _ _ rfl hlt⟩
      rw [HU.out]
    · obtain rfl : j = 2 := by omega
      have hv := numV_lt (s.l.take 2) fun x hx => H.out.2.1.1 x (List.mem_of_mem_take hx)
      rw [List.length_take, Nat.min_eq_left HK.out] at hv
      have hcv : IntKind.u16.wrap ((numV (s.l.take 2) : Nat) : Int) = ((numV (s.l.take 2) : Nat) : Int) := by rw [IntKind.wrap_u16]; omega
      have hbW : Below W.heap.size W W.drew := (Below.refl _ _).drew
      have PS := hide (pass_any W.drew b a cap s 2 (H.out.keep hbW) HK.out)
      have HBW := hide hbW
      clear hbW A
      generalize hgv : numV (s.l.take 2) = v at *
      have HGV := hide hgv
      clear hgv
      go_wp2
      go_region_held3 (fun w' => w'.cell? ⟨w.heap.size, 0, none⟩ = some (.pointer (some ⟨b, 0, none⟩)))
        (first | exact hp0 | exact hp3)
        (first | (go_at_call 68; refine (width16_any _).mono ?_; rintro e w0 ⟨rfl, hw0⟩; subst w0) | (go_at_call 63; refine PS.out.mono ?_; rintro e w3 ⟨rfl, h3⟩; have hp3 := box_kept HLT.out hp0 h3; have H3 := hide h3; clear h3))
      go_wp2
      refine leaves_cons (f := 73) (args := #[.pointer (some ⟨w.heap.size, 0, none⟩)]) (by simp) (by simp [go_sem]) ?_
      refine (catch_idle_pGet16C _ ⟨w.heap.size, 0, none⟩).mono ?_
      rintro e u' w'' ⟨rfl, rfl, rfl⟩
      simp only [settle]
      exact ⟨_, results_tmp rfl _ _ _, by rw [HGV.out]; rfl, DidR.pre (bt HB0.out HBW.out) H3.out⟩

set_option maxHeartbeats 3200000 in
theorem Get32_ok (w : World) (b : Nat) (a : Option Addr) (cap : Nat) (s : RS) (h : Rd w b a cap s) (he : s.e = 0) (hk : 4 ≤ s.l.length) :
    Calls Try.prog 48 #[.pointer (some ⟨b, 0, none⟩)] w fun x w' => x = .returned (.int .u32 (numV (s.l.take 4) : Int)) ∧ DidR w w' b a ⟨s.l.drop 4, s.e⟩ := by
  have hmf := mkf
  have hb0 : Below w.heap.size w (w.alloc (.cells #[.pointer (some ⟨b, 0, none⟩)] 40)).drew := ((Below.refl _ _).alloc (Nat.le_refl _) _).drew
  have hp0 : (w.alloc (.cells #[.pointer (some ⟨b, 0, none⟩)] 40)).drew.cell? ⟨w.heap.size, 0, none⟩ = some (.pointer (some ⟨b, 0, none⟩)) := by simp
  have H := hide (h.keep hb0)
  have HLT := hide h.lt
  have A := hide (ahead_ok _ b a cap s 4 H.out he hk)
  have HB0 := hide hb0
  have HK := hide hk
  clear h hb0 hk
  go_enter_defers Try.func48, Try.ntmps48
  go_wp2
  go_region_held3 (fun w' => w'.cell? ⟨w.heap.size, 0, none⟩ = some (.pointer (some ⟨b, 0, none⟩)))
    (first | exact hp0)
    (first | (go_at_call 69; refine (width32_any _).mono ?_; rintro e w0 ⟨rfl, hw0⟩; subst w0) | (go_at_call 62; refine A.out.mono ?_; rintro e w1 ⟨rfl, hw1⟩; subst w1))
  generalize (w.alloc (.cells #[.pointer (some ⟨b, 0, none⟩)] 40)).drew = W at *
  go_wp2
  go_loopw [3, 11] (fun v i wx => ∃ j : Nat, j ≤ 4 ∧ i = .int .i64 j ∧ v = .int .u64 ((numV (s.l.take j) : Nat) : Int) ∧ wx = W) (fun _ i _ => 4 - (intOf i).toNat)
  case atStart => exact ⟨0, Nat.zero_le _, rfl, rfl, rfl⟩
  case round =>
    obtain ⟨j, hj, rfl, rfl, hw⟩ := hrel
    subst wr
    by_cases hlt : j < 4
    · have hi : (j : Int) < 4 := by omega
      have hjl : j < s.l.length := by have := HK.out; omega
      obtain ⟨g, off, rfl, hc⟩ := H.out.2.1.at' (j := j) hjl
      have hy : s.l.getD j 0 < 256 := by rw [getD_at s.l hjl]; exact H.out.2.1.1 _ (List.getElem_mem _)
      have hv : numV (s.l.take j) < 256 ^ j := by
        have h1 := numV_lt (s.l.take j) fun x hx => H.out.2.1.1 x (List.mem_of_mem_take hx)
        rwa [List.length_take, Nat.min_eq_left (by omega)] at h1
      have hor := or_step _ _ j hv hy (by omega)
      rw [← numV_snoc s.l j hjl] at hor
      clear hv hy
      generalize hu : numV (s.l.take (j + 1)) = u at *
      have HU := hide hu
      clear hu
      generalize s.l.getD j 0 = y at *
      generalize numV (s.l.take j) = v at *
      go_wp2
      refine ⟨⟨j + 1, by omega, congrArg (Value.int IntKind.i64) (by omega), ?_, trivial⟩, meas_up' _ _ _ rfl hlt⟩
      rw [HU.out]
    · obtain rfl : j = 4 := by omega
      have hv := numV_lt (s.l.take 4) fun x hx => H.out.2.1.1 x (List.mem_of_mem_take hx)
      rw [List.length_take, Nat.min_eq_left HK.out] at hv
      have hcv : IntKind.u32.wrap ((numV (s.l.take 4) : Nat) : Int) = ((numV (s.l.take 4) : Nat) : Int) := by rw [IntKind.wrap_u32']; omega
      have hbW : Below W.heap.size W W.drew := (Below.refl _ _).drew
      have PS := hide (pass_any W.drew b a cap s 4 (H.out.keep hbW) HK.out)
      have HBW := hide hbW
      clear hbW A
      generalize hgv : numV (s.l.take 4) = v at *
      have HGV := hide hgv
      clear hgv
      go_wp2
      go_region_held3 (fun w' => w'.cell? ⟨w.heap.size, 0, none⟩ = some (.pointer (some ⟨b, 0, none⟩)))
        (first | exact hp0 | exact hp3)
        (first | (go_at_call 69; refine (width32_any _).mono ?_; rintro e w0 ⟨rfl, hw0⟩; subst w0) | (go_at_call 63; refine PS.out.mono ?_; rintro e w3 ⟨rfl, h3⟩; have hp3 := box_kept HLT.out hp0 h3; have H3 := hide h3; clear h3))
      go_wp2
      refine leaves_cons (f := 74) (args := #[.pointer (some ⟨w.heap.size, 0, none⟩)]) (by simp) (by simp [go_sem]) ?_
      refine (catch_idle_pGet32C _ ⟨w.heap.size, 0, none⟩).mono ?_
      rintro e u' w'' ⟨rfl, rfl, rfl⟩
      simp only [settle]
      exact ⟨_, results_tmp rfl _ _ _, by rw [HGV.out]; rfl, DidR.pre (bt HB0.out HBW.out) H3.out⟩

set_option maxHeartbeats 3200000 in
theorem Get64_ok (w : World) (b : Nat) (a : Option Addr) (cap : Nat) (s : RS) (h : Rd w b a cap s) (he : s.e = 0) (hk : 8 ≤ s.l.length) :
    Calls Try.prog 49 #[.pointer (some ⟨b, 0, none⟩)] w fun x w' => x = .returned (.int .u64 (numV (s.l.take 8) : Int)) ∧ DidR w w' b a ⟨s.l.drop 8, s.e⟩ := by
  have hmf := mkf
  have hb0 : Below w.heap.size w (w.alloc (.cells #[.pointer (some ⟨b, 0, none⟩)] 40)).drew := ((Below.refl _ _).alloc (Nat.le_refl _) _).drew
  have hp0 : (w.alloc (.cells #[.pointer (some ⟨b, 0, none⟩)] 40)).drew.cell? ⟨w.heap.size, 0, none⟩ = some (.pointer (some ⟨b, 0, none⟩)) := by simp
  have H := hide (h.keep hb0)
  have HLT := hide h.lt
  have A := hide (ahead_ok _ b a cap s 8 H.out he hk)
  have HB0 := hide hb0
  have HK := hide hk
  clear h hb0 hk
  go_enter_defers Try.func49, Try.ntmps49
  go_wp2
  go_region_held3 (fun w' => w'.cell? ⟨w.heap.size, 0, none⟩ = some (.pointer (some ⟨b, 0, none⟩)))
    (first | exact hp0)
    (first | (go_at_call 70; refine (width64_any _).mono ?_; rintro e w0 ⟨rfl, hw0⟩; subst w0) | (go_at_call 62; refine A.out.mono ?_; rintro e w1 ⟨rfl, hw1⟩; subst w1))
  generalize (w.alloc (.cells #[.pointer (some ⟨b, 0, none⟩)] 40)).drew = W at *
  go_wp2
  go_loopw [3, 11] (fun v i wx => ∃ j : Nat, j ≤ 8 ∧ i = .int .i64 j ∧ v = .int .u64 ((numV (s.l.take j) : Nat) : Int) ∧ wx = W) (fun _ i _ => 8 - (intOf i).toNat)
  case atStart => exact ⟨0, Nat.zero_le _, rfl, rfl, rfl⟩
  case round =>
    obtain ⟨j, hj, rfl, rfl, hw⟩ := hrel
    subst wr
    by_cases hlt : j < 8
    · have hi : (j : Int) < 8 := by omega
      have hjl : j < s.l.length := by have := HK.out; omega
      obtain ⟨g, off, rfl, hc⟩ := H.out.2.1.at' (j := j) hjl
      have hy : s.l.getD j 0 < 256 := by rw [getD_at s.l hjl]; exact H.out.2.1.1 _ (List.getElem_mem _)
      have hv : numV (s.l.take j) < 256 ^ j := by
        have h1 := numV_lt (s.l.take j) fun x hx => H.out.2.1.1 x (List.mem_of_mem_take hx)
        rwa [List.length_take, Nat.min_eq_left (by omega)] at h1
      have hor := or_step _ _ j hv hy (by omega)
      rw [← numV_snoc s.l j hjl] at hor
      clear hv hy
      generalize hu : numV (s.l.take (j + 1)) = u at *
      have HU := hide hu
      clear hu
      generalize s.l.getD j 0 = y at *
      generalize numV (s.l.take j) = v at *
      go_wp2
      refine ⟨⟨j + 1, by omega, congrArg (Value.int IntKind.i64) (by omega), ?_, trivial⟩, meas_up' _ _ _ rfl hlt⟩
      rw [HU.out]
    · obtain rfl : j = 8 := by omega
      have hv := numV_lt (s.l.take 8) fun x hx => H.out.2.1.1 x (List.mem_of_mem_take hx)
      rw [List.length_take, Nat.min_eq_left HK.out] at hv
      have hcv : IntKind.u64.wrap ((numV (s.l.take 8) : Nat) : Int) = ((numV (s.l.take 8) : Nat) : Int) := by rw [IntKind.wrap_u64]; omega
      have hbW : Below W.heap.size W W.drew := (Below.refl _ _).drew
      have PS := hide (pass_any W.drew b a cap s 8 (H.out.keep hbW) HK.out)
      have HBW := hide hbW
      clear hbW A
      generalize hgv : numV (s.l.take 8) = v at *
      have HGV := hide hgv
      clear hgv
      go_wp2
      go_region_held3 (fun w' => w'.cell? ⟨w.heap.size, 0, none⟩ = some (.pointer (some ⟨b, 0, none⟩)))
        (first | exact hp0 | exact hp3)
        (first | (go_at_call 70; refine (width64_any _).mono ?_; rintro e w0 ⟨rfl, hw0⟩; subst w0) | (go_at_call 63; refine PS.out.mono ?_; rintro e w3 ⟨rfl, h3⟩; have hp3 := box_kept HLT.out hp0 h3; have H3 := hide h3; clear h3))
      go_wp2
      refine leaves_cons (f := 75) (args := #[.pointer (some ⟨w.heap.size, 0, none⟩)]) (by simp) (by simp [go_sem]) ?_
      refine (catch_idle_pGet64C _ ⟨w.heap.size, 0, none⟩).mono ?_
      rintro e u' w'' ⟨rfl, rfl, rfl⟩
      simp only [settle]
      exact ⟨_, results_tmp rfl _ _ _, by rw [HGV.out]; rfl, DidR.pre (bt HB0.out HBW.out) H3.out⟩
end Go.Proofs.Ytlkjpljfbmploaa
