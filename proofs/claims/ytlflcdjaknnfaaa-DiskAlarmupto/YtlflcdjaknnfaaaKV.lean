import Derived.Test.YtlflcdjaknnfaaaKU
namespace Go.Proofs.Ytlflcdjaknnfaaa
open Go.RowKit

/-- rows of bytes that are kept: block, room, bytes -/
abbrev Keep := List (Nat × Nat × List Nat)
/-- two disks, and rows that are kept -/
structure Pr (w0 V : World) (F G : Nat → Prop) (p q : Nat) (S T : Sd) (R : Keep) : Prop where
  d : Dk F V p S
  e : Dk G V q T
  f : ∀ k, F k → w0.heap.size ≤ k
  g : ∀ k, G k → w0.heap.size ≤ k
  fg : ∀ k, F k → ¬ G k
  r : ∀ x ∈ R, Rw V (some ⟨x.1, 0, none⟩) x.2.1 x.2.2 ∧ ¬ F x.1 ∧ ¬ G x.1
  b : Below w0.heap.size w0 V
def Prs (w0 V : World) (p q : Nat) (S T : Sd) (R : Keep) : Prop := ∃ F G, Pr w0 V F G p q S T R
section
variable {w0 V V' : World} {F G : Nat → Prop} {p q : Nat} {S T : Sd} {R : Keep}
theorem Pr.keep (h : Pr w0 V F G p q S T R) (hb : Below V.heap.size V V') : Pr w0 V' F G p q S T R :=
  ⟨h.d.keep hb, h.e.keep hb, h.f, h.g, h.fg, fun x hx => ⟨(h.r x hx).1.keep hb, (h.r x hx).2⟩, bt h.b hb⟩
theorem Prs.keep (h : Prs w0 V p q S T R) (hb : Below V.heap.size V V') : Prs w0 V' p q S T R := by
  obtain ⟨F, G, h⟩ := h
  exact ⟨F, G, h.keep hb⟩
theorem Pr.do1 (h : Pr w0 V F G p q S T R) {S' : Sd} (h1 : Dk (ext F V V') V' p S') (hb : But F V V') : Pr w0 V' (ext F V V') G p q S' T R := by
  have hs := h.b.size
  refine ⟨h1, h.e.but hb (fun k hk hf => h.fg k hf hk), fun k hk => ?_, h.g, fun k hk hg => ?_, fun x hx => ?_, below_of h.b hb h.f⟩
  · rcases hk with hk | hk
    · exact h.f k hk
    · omega
  · rcases hk with hk | hk
    · exact h.fg k hk hg
    · have := h.e.lt k hg; omega
  · obtain ⟨r1, r2, r3⟩ := h.r x hx
    refine ⟨r1.but hb (fun y hy => by cases hy; exact r2), fun hk => ?_, r3⟩
    rcases hk with hk | hk
    · exact r2 hk
    · have := r1.lt rfl; simp only at this; omega
theorem Pr.do2 (h : Pr w0 V F G p q S T R) {T' : Sd} (h1 : Dk (ext G V V') V' q T') (hb : But G V V') : Pr w0 V' F (ext G V V') p q S T' R := by
  have hs := h.b.size
  refine ⟨h.d.but hb (fun k hk hf => h.fg k hk hf), h1, h.f, fun k hk => ?_, fun k hk hg => ?_, fun x hx => ?_, below_of h.b hb h.g⟩
  · rcases hk with hk | hk
    · exact h.g k hk
    · omega
  · rcases hg with hg | hg
    · exact h.fg k hk hg
    · have := h.d.lt k hk; omega
  · obtain ⟨r1, r2, r3⟩ := h.r x hx
    refine ⟨r1.but hb (fun y hy => by cases hy; exact r3), r2, fun hk => ?_⟩
    rcases hk with hk | hk
    · exact r3 hk
    · have := r1.lt rfl; simp only at this; omega
/-- one row more -/
theorem Prs.add (h : Prs w0 V p q S T R) (hb : Below V.heap.size V V') {g c : Nat} {l : List Nat} (hr : Rw V' (some ⟨g, 0, none⟩) c l) (hg : V.heap.size ≤ g) : Prs w0 V' p q S T ((g, c, l) :: R) := by
  obtain ⟨F, G, h⟩ := h
  refine ⟨F, G, { h.keep hb with r := fun x hx => ?_ }⟩
  rcases List.mem_cons.1 hx with rfl | hx
  · exact ⟨hr, fun hf => by have := h.d.lt _ hf; simp only at this; omega, fun hf => by have := h.e.lt _ hf; simp only at this; omega⟩
  · exact (h.keep hb).r x hx
theorem Prs.d (h : Prs w0 V p q S T R) : ∃ F, Dk F V p S := by obtain ⟨F, _, h⟩ := h; exact ⟨F, h.d⟩
theorem Prs.e (h : Prs w0 V p q S T R) : ∃ F, Dk F V q T := by obtain ⟨_, G, h⟩ := h; exact ⟨G, h.e⟩
theorem Prs.b (h : Prs w0 V p q S T R) : Below w0.heap.size w0 V := by obtain ⟨_, _, h⟩ := h; exact h.b
theorem Prs.row (h : Prs w0 V p q S T R) {x : Nat × Nat × List Nat} (hx : x ∈ R) : Rw V (some ⟨x.1, 0, none⟩) x.2.1 x.2.2 := by obtain ⟨_, _, h⟩ := h; exact (h.r x hx).1
theorem Prs.run1 (h : Prs w0 V p q S T R) (a : Option Addr) (c : Nat) (L : List Ov) (hL : Sp w0 a L) (m : Nat) (hm : S.room m) (hmb : m + L.length ≤ 100000000) :
    Calls Try.prog 26 #[.pointer (some ⟨p, 0, none⟩), .slice a L.length c] V fun e V' => e = .returned (.tuple #[]) ∧ Prs w0 V' p q (S.run L) T R := by
  obtain ⟨F, G, h⟩ := h
  exact (run_any h.d h.b h.f a c L hL m hm hmb).mono fun e V' ⟨e1, h1, h2⟩ => ⟨e1, _, _, h.do1 h1 h2⟩
theorem Prs.run2 (h : Prs w0 V p q S T R) (a : Option Addr) (c : Nat) (L : List Ov) (hL : Sp w0 a L) (m : Nat) (hm : T.room m) (hmb : m + L.length ≤ 100000000) :
    Calls Try.prog 26 #[.pointer (some ⟨q, 0, none⟩), .slice a L.length c] V fun e V' => e = .returned (.tuple #[]) ∧ Prs w0 V' p q S (T.run L) R := by
  obtain ⟨F, G, h⟩ := h
  exact (run_any h.e h.b h.g a c L hL m hm hmb).mono fun e V' ⟨e1, h1, h2⟩ => ⟨e1, _, _, h.do2 h1 h2⟩
theorem Prs.arm1 (h : Prs w0 V p q S T R) (a : Int) (ha : a ≤ 9223372036854775807) : Calls Try.prog 23 #[.pointer (some ⟨p, 0, none⟩), .int .i64 a] V fun e V' => e = .returned (.tuple #[]) ∧ Prs w0 V' p q (S.arm a) T R := by
  obtain ⟨F, G, h⟩ := h
  exact (kArm h.d a ha).mono fun e V' ⟨e1, h1, h2⟩ => ⟨e1, _, _, h.do1 h1 h2⟩
theorem Prs.arm2 (h : Prs w0 V p q S T R) (a : Int) (ha : a ≤ 9223372036854775807) : Calls Try.prog 23 #[.pointer (some ⟨q, 0, none⟩), .int .i64 a] V fun e V' => e = .returned (.tuple #[]) ∧ Prs w0 V' p q S (T.arm a) R := by
  obtain ⟨F, G, h⟩ := h
  exact (kArm h.e a ha).mono fun e V' ⟨e1, h1, h2⟩ => ⟨e1, _, _, h.do2 h1 h2⟩
theorem Prs.sync1 (h : Prs w0 V p q S T R) (hs : S.sy + 1 ≤ 4611686018427387904) : Calls Try.prog 24 #[.pointer (some ⟨p, 0, none⟩)] V fun e V' => e = .returned (.int .i64 (S.syncE : Int)) ∧ Prs w0 V' p q S.sync T R := by
  obtain ⟨F, G, h⟩ := h
  exact (kSync h.d hs).mono fun e V' ⟨e1, h1, h2⟩ => ⟨e1, _, _, h.do1 h1 h2⟩
theorem Prs.sync2 (h : Prs w0 V p q S T R) (hs : T.sy + 1 ≤ 4611686018427387904) : Calls Try.prog 24 #[.pointer (some ⟨q, 0, none⟩)] V fun e V' => e = .returned (.int .i64 (T.syncE : Int)) ∧ Prs w0 V' p q S T.sync R := by
  obtain ⟨F, G, h⟩ := h
  exact (kSync h.e hs).mono fun e V' ⟨e1, h1, h2⟩ => ⟨e1, _, _, h.do2 h1 h2⟩
theorem Prs.off1 (h : Prs w0 V p q S T R) : Calls Try.prog 28 #[.pointer (some ⟨p, 0, none⟩)] V fun e V' => e = .returned (.tuple #[]) ∧ Prs w0 V' p q S.off T R := by
  obtain ⟨F, G, h⟩ := h
  exact (kOff h.d).mono fun e V' ⟨e1, h1, h2⟩ => ⟨e1, _, _, h.do1 h1 h2⟩
theorem Prs.off2 (h : Prs w0 V p q S T R) : Calls Try.prog 28 #[.pointer (some ⟨q, 0, none⟩)] V fun e V' => e = .returned (.tuple #[]) ∧ Prs w0 V' p q S T.off R := by
  obtain ⟨F, G, h⟩ := h
  exact (kOff h.e).mono fun e V' ⟨e1, h1, h2⟩ => ⟨e1, _, _, h.do2 h1 h2⟩
theorem Prs.on1 (h : Prs w0 V p q S T R) (hb : Below V.heap.size V V') (ka : Option Addr) (kc : Nat) (K : List Bool) (hK : Kb V' ka K) (hA : ∀ x, ka = some x → V.heap.size ≤ x.block) : Calls Try.prog 27 #[.pointer (some ⟨p, 0, none⟩), .slice ka K.length kc] V' fun e V'' => e = .returned (.tuple #[]) ∧ Prs w0 V'' p q (S.on K) T R := by
  obtain ⟨F, G, h⟩ := h
  exact (kOn (h.d.keep hb) ka K.length kc K hK rfl (fun x hx hf => by have := hA x hx; have := h.d.lt _ hf; omega)).mono fun e V' ⟨e1, h1, h2⟩ => ⟨e1, _, _, (h.keep hb).do1 h1 h2⟩
theorem Prs.on2 (h : Prs w0 V p q S T R) (hb : Below V.heap.size V V') (ka : Option Addr) (kc : Nat) (K : List Bool) (hK : Kb V' ka K) (hA : ∀ x, ka = some x → V.heap.size ≤ x.block) : Calls Try.prog 27 #[.pointer (some ⟨q, 0, none⟩), .slice ka K.length kc] V' fun e V'' => e = .returned (.tuple #[]) ∧ Prs w0 V'' p q S (T.on K) R := by
  obtain ⟨F, G, h⟩ := h
  exact (kOn (h.e.keep hb) ka K.length kc K hK rfl (fun x hx hf => by have := hA x hx; have := h.e.lt _ hf; omega)).mono fun e V' ⟨e1, h1, h2⟩ => ⟨e1, _, _, (h.keep hb).do2 h1 h2⟩
end
/-- with one disk -/
def Ds (w0 V : World) (p : Nat) (S : Sd) : Prop := ∃ F, Dk F V p S ∧ (∀ k, F k → w0.heap.size ≤ k) ∧ Below w0.heap.size w0 V
theorem Ds.two {w0 V V' : World} {p q : Nat} {S T : Sd} {G : Nat → Prop} (h : Ds w0 V p S) (hb : Below V.heap.size V V') (h2 : Dk G V' q T) (hG : ∀ k, G k → V.heap.size ≤ k) : Prs w0 V' p q S T [] := by
  obtain ⟨F, h1, h3, h4⟩ := h
  have hs := h4.size
  exact ⟨F, G, h1.keep hb, h2, h3, fun k hk => by have := hG k hk; omega, fun k hk hg => by have := h1.lt k hk; have := hG k hg; omega, fun x hx => by (cases hx), bt h4 hb⟩
theorem Ds.keep {w0 V V' : World} {p : Nat} {S : Sd} (h : Ds w0 V p S) (hb : Below V.heap.size V V') : Ds w0 V' p S := by
  obtain ⟨F, h1, h3, h4⟩ := h
  exact ⟨F, h1.keep hb, h3, bt h4 hb⟩
theorem Ds.run {w0 V : World} {p : Nat} {S : Sd} (h : Ds w0 V p S) (a : Option Addr) (c : Nat) (L : List Ov) (hL : Sp w0 a L) (m : Nat) (hm : S.room m) (hmb : m + L.length ≤ 100000000) :
    Calls Try.prog 26 #[.pointer (some ⟨p, 0, none⟩), .slice a L.length c] V fun e V' => e = .returned (.tuple #[]) ∧ Ds w0 V' p (S.run L) := by
  obtain ⟨F, h1, h3, h4⟩ := h
  refine (run_any h1 h4 h3 a c L hL m hm hmb).mono fun e V' ⟨e1, h5, h6⟩ => ⟨e1, _, h5, fun k hk => ?_, below_of h4 h6 h3⟩
  have := h4.size
  rcases hk with hk | hk
  · exact h3 k hk
  · omega
theorem Sd.run_ok {w0 V : World} {p q : Nat} {S T : Sd} {R : Keep} (h : Prs w0 V p q S T R) : S.ok ∧ T.ok := by
  obtain ⟨_, _, h⟩ := h
  exact ⟨h.d.ok, h.e.ok⟩
theorem st_room (nb : Int) (l : List Nat) : (stS nb l).room 0 := by
  obtain ⟨h1, _, _, h4, h5⟩ := st_new nb l
  exact ⟨by omega, by omega, by rw [h1]; exact Nat.le_refl _⟩
theorem Sd.room.run' {S : Sd} {m : Nat} (h : S.room m) (L : List Ov) : (S.run L).room (m + L.length) := by
  have := h.run L L.length (Nat.le_refl _)
  rw [List.take_length] at this
  exact this
/-! ### behind a sync -/
theorem arm_off {S : Sd} (hp : S.pow = true) : (S.arm (-1)).alm = -1 ∧ (S.arm (-1)).pow = true ∧ (S.arm (-1)).uns = S.uns ∧ (S.arm (-1)).last = S.last ∧ (S.arm (-1)).n = S.n ∧ (S.arm (-1)).sy = S.sy ∧ (S.arm (-1)).wr = S.wr := by
  unfold Sd.arm
  rw [if_neg (by rw [hp]; decide)]
  exact ⟨rfl, hp, rfl, rfl, rfl, rfl, rfl⟩
theorem sync_on {S : Sd} (hp : S.pow = true) (ha : S.alm = -1) : S.syncE = 0 ∧ S.sync = S.synced := by
  have h1 : S.acts = true := by unfold Sd.acts; rw [ha]; decide
  have h2 : S.act = S := by unfold Sd.act; rw [if_neg (by rw [ha]; decide), if_pos ha]
  constructor
  · unfold Sd.syncE; rw [if_neg (by rw [hp]; decide), if_neg (by rw [h1]; decide)]
  · unfold Sd.sync; rw [if_neg (by rw [hp]; decide), if_neg (by rw [h1]; decide), h2]
theorem kept_empty (K : List Bool) : kept [] K = [] := by cases K <;> rfl
/-- behind a sync, the power gone and come again -/
theorem again_on (S : Sd) (K : List Bool) : (S.synced.off.on K).img = S.all ∧ (S.synced.off.on K).wh = S.all ∧ (S.synced.off.on K).pow = true ∧ (S.synced.off.on K).uns = [] := by
  have e : S.synced.off.on K = { (S.synced.off.lays (kept [] K)).forget with pow := true } := by unfold Sd.on; rw [if_neg (show ¬ (S.synced.off.pow = true) from (by show ¬ (false = true); decide))]; rfl
  rw [e, kept_empty]
  refine ⟨rfl, ?_, rfl, rfl⟩
  unfold Sd.wh
  rw [if_pos rfl]
  rfl
end Go.Proofs.Ytlflcdjaknnfaaa
