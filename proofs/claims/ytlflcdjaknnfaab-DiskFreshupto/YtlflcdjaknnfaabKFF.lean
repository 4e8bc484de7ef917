import Derived.Test.YtlflcdjaknnfaabKFE
set_option linter.unusedVariables false
namespace Go.Proofs.Ytlflcdjaknnfaab
open Go.RowKit

/-- both disks and the lists that were told; E: blocks that are none of theirs -/
def Fq (w V : World) (E : Nat → Prop) (p q : Nat) (S S' : Sd) (ab : Option Addr) (cb nT : Nat) (ai : Option Addr) (ci nU m : Nat) : Prop :=
  ∃ (F G Z : Nat → Prop) (T U : List Rb), Bt w V F G p q S S' ∧ Told w V Z ab cb T ai ci U ∧ T.length = nT ∧ U.length = nU ∧ nT ≤ m ∧ nU ≤ m ∧ (∀ k, Z k → ¬ F k ∧ ¬ G k) ∧ (∀ k, E k → k < V.heap.size ∧ ¬ F k ∧ ¬ G k ∧ ¬ Z k)
section
variable {w V V' : World} {E : Nat → Prop} {p q : Nat} {S S' S2 : Sd} {ab ai : Option Addr} {cb nT ci nU m : Nat}
theorem Fq.b (h : Fq w V E p q S S' ab cb nT ai ci nU m) : Below w.heap.size w V := by obtain ⟨_, _, _, _, _, h, _⟩ := h; exact h.b
theorem Fq.ok (h : Fq w V E p q S S' ab cb nT ai ci nU m) : S.ok := by obtain ⟨_, _, _, _, _, h, _⟩ := h; exact h.d.ok
theorem Fq.keep (h : Fq w V E p q S S' ab cb nT ai ci nU m) (hb : Below V.heap.size V V') : Fq w V' E p q S S' ab cb nT ai ci nU m := by
  obtain ⟨F, G, Z, T, U, h1, h2, h3, h4, h5, h6, h7, h8⟩ := h
  exact ⟨F, G, Z, T, U, h1.keep hb, h2.keep hb, h3, h4, h5, h6, h7, fun k hk => ⟨Nat.lt_of_lt_of_le (h8 k hk).1 hb.size, (h8 k hk).2⟩⟩
theorem Fq.more (h : Fq w V E p q S S' ab cb nT ai ci nU m) {m' : Nat} (hm : m ≤ m') : Fq w V E p q S S' ab cb nT ai ci nU m' := by
  obtain ⟨F, G, Z, T, U, h1, h2, h3, h4, h5, h6, h7, h8⟩ := h
  exact ⟨F, G, Z, T, U, h1, h2, h3, h4, Nat.le_trans h5 hm, Nat.le_trans h6 hm, h7, h8⟩
/-- other blocks are watched -/
theorem Fq.watch (h : Fq w V E p q S S' ab cb nT ai ci nU m) (hb : Below V.heap.size V V') {E' : Nat → Prop} (hE : ∀ k, E' k → V.heap.size ≤ k ∧ k < V'.heap.size) : Fq w V' E' p q S S' ab cb nT ai ci nU m := by
  obtain ⟨F, G, Z, T, U, h1, h2, h3, h4, h5, h6, h7, h8⟩ := h
  refine ⟨F, G, Z, T, U, h1.keep hb, h2.keep hb, h3, h4, h5, h6, h7, fun k hk => ?_⟩
  obtain ⟨e1, e2⟩ := hE k hk
  exact ⟨e2, fun hf => by have := h1.d.lt k hf; omega, fun hf => by have := h1.m.lt k hf; omega, fun hf => by have := h2.z1 k hf; omega⟩
theorem Fq.free (h : Fq w V E p q S S' ab cb nT ai ci nU m) : Fq w V (fun _ => False) p q S S' ab cb nT ai ci nU m := by
  obtain ⟨F, G, Z, T, U, h1, h2, h3, h4, h5, h6, h7, h8⟩ := h
  exact ⟨F, G, Z, T, U, h1, h2, h3, h4, h5, h6, h7, fun k hk => hk.elim⟩
/-- a watched block turns -/
theorem Fq.spoil (h : Fq w V E p q S S' ab cb nT ai ci nU m) {X : Nat → Prop} (hb : But X V V') (hX : ∀ k, X k → E k ∧ w.heap.size ≤ k) : Fq w V' E p q S S' ab cb nT ai ci nU m := by
  obtain ⟨F, G, Z, T, U, h1, h2, h3, h4, h5, h6, h7, h8⟩ := h
  exact ⟨F, G, Z, T, U, h1.but hb (fun k hf hx => (h8 k (hX k hx).1).2.1 hf) (fun k hf hx => (h8 k (hX k hx).1).2.2.1 hf) (fun k hx => (hX k hx).2), h2.but hb (fun k hf hx => (h8 k (hX k hx).1).2.2.2 hf), h3, h4, h5, h6, h7, fun k hk => ⟨Nat.lt_of_lt_of_le (h8 k hk).1 hb.size, (h8 k hk).2⟩⟩
theorem fq1 {F G Z : Nat → Prop} {T U : List Rb} (h1 : Bt w V F G p q S S') (h2 : Told w V Z ab cb T ai ci U) (h3 : T.length = nT) (h4 : U.length = nU) (h5 : nT ≤ m) (h6 : nU ≤ m) (h7 : ∀ k, Z k → ¬ F k ∧ ¬ G k) (h8 : ∀ k, E k → k < V.heap.size ∧ ¬ F k ∧ ¬ G k ∧ ¬ Z k)
    (hd : Dk (ext F V V') V' p S2) (hb : But F V V') : Fq w V' E p q S2 S' ab cb nT ai ci nU m ∧ But (fun k => ¬ E k) V V' := by
  refine ⟨⟨_, G, Z, T, U, h1.do1 hd hb, h2.but hb (fun k hk => (h7 k hk).1), h3, h4, h5, h6, fun k hk => ⟨fun hf => ?_, (h7 k hk).2⟩, fun k hk => ⟨Nat.lt_of_lt_of_le (h8 k hk).1 hb.size, fun hf => ?_, (h8 k hk).2.2⟩⟩, hb.mono (fun k _ hf he => (h8 k he).2.1 hf)⟩
  · rcases hf with hf | hf
    · exact (h7 k hk).1 hf
    · have := h2.z1 k hk; omega
  · rcases hf with hf | hf
    · exact (h8 k hk).2.1 hf
    · have := (h8 k hk).1; omega
theorem fq2 {F G Z : Nat → Prop} {T U : List Rb} (h1 : Bt w V F G p q S S') (h2 : Told w V Z ab cb T ai ci U) (h3 : T.length = nT) (h4 : U.length = nU) (h5 : nT ≤ m) (h6 : nU ≤ m) (h7 : ∀ k, Z k → ¬ F k ∧ ¬ G k) (h8 : ∀ k, E k → k < V.heap.size ∧ ¬ F k ∧ ¬ G k ∧ ¬ Z k)
    (hd : Hk (ext G V V') V' q S2) (hb : But G V V') : Fq w V' E p q S S2 ab cb nT ai ci nU m ∧ But (fun k => ¬ E k) V V' := by
  refine ⟨⟨F, _, Z, T, U, h1.do2 hd hb, h2.but hb (fun k hk => (h7 k hk).2), h3, h4, h5, h6, fun k hk => ⟨(h7 k hk).1, fun hf => ?_⟩, fun k hk => ⟨Nat.lt_of_lt_of_le (h8 k hk).1 hb.size, (h8 k hk).2.1, fun hf => ?_, (h8 k hk).2.2.2⟩⟩, hb.mono (fun k _ hf he => (h8 k he).2.2.1 hf)⟩
  · rcases hf with hf | hf
    · exact (h7 k hk).2 hf
    · have := h2.z1 k hk; omega
  · rcases hf with hf | hf
    · exact (h8 k hk).2.2.1 hf
    · have := (h8 k hk).1; omega
theorem Fq.write1 (h : Fq w V E p q S S' ab cb nT ai ci nU m) (i : Int) (a2 : Option Addr) (c2 : Nat) (B : List Nat) (hB : Bs V a2 B) (hE : ∀ x, a2 = some x → E x.block) (hU : S.uns.length + 1 ≤ 268435456) (hW : S.wr + 1 ≤ 4611686018427387904) :
    Calls Try.prog 9 #[.pointer (some ⟨p, 0, none⟩), .int .i64 i, .slice a2 B.length c2] V fun e V' => e = .returned (.int .i64 (S.writeE i B : Int)) ∧ Fq w V' E p q (S.write i B) S' ab cb nT ai ci nU m ∧ But (fun k => ¬ E k) V V' := by
  obtain ⟨F, G, Z, T, U, h1, h2, h3, h4, h5, h6, h7, h8⟩ := h
  exact (kWrite h1.d i a2 B.length c2 B hB rfl (fun x hx => (h8 _ (hE x hx)).2.1) hU hW).mono fun e V' ⟨e1, d1, d2⟩ => ⟨e1, fq1 h1 h2 h3 h4 h5 h6 h7 h8 d1 d2⟩
theorem Fq.write2 (h : Fq w V E p q S S' ab cb nT ai ci nU m) (i : Int) (aB : Option Addr) (cB : Nat) (B : List Nat) (hB : Bs w aB B) (hU : S'.uns.length + 1 ≤ 268435456) (hW : S'.wr + 1 ≤ 4611686018427387904) :
    Calls Try.prog 10 #[.pointer (some ⟨q, 0, none⟩), .int .i64 i, .slice aB B.length cB] V fun e V' => e = .returned (.int .i64 (S'.writeE i B : Int)) ∧ Fq w V' E p q S (S'.write i B) ab cb nT ai ci nU m ∧ But (fun k => ¬ E k) V V' := by
  obtain ⟨F, G, Z, T, U, h1, h2, h3, h4, h5, h6, h7, h8⟩ := h
  exact (mWrite h1.m i aB B.length cB B (hB.keep h1.b) rfl (Bs.low (V := V) hB h1.g) hU hW).mono fun e V' ⟨e1, d1, d2⟩ => ⟨e1, fq2 h1 h2 h3 h4 h5 h6 h7 h8 d1 d2⟩
theorem Fq.lay1 (h : Fq w V E p q S S' ab cb nT ai ci nU m) (i : Int) (a2 : Option Addr) (c2 : Nat) (B : List Nat) (hB : Bs V a2 B) :
    Calls Try.prog 11 #[.pointer (some ⟨p, 0, none⟩), .int .i64 i, .slice a2 B.length c2] V fun e V' => e = .returned (.bool (S.layE i B)) ∧ Fq w V' E p q (S.layd i B) S' ab cb nT ai ci nU m ∧ But (fun k => ¬ E k) V V' := by
  obtain ⟨F, G, Z, T, U, h1, h2, h3, h4, h5, h6, h7, h8⟩ := h
  exact (kLay h1.d i a2 B.length c2 B hB rfl).mono fun e V' ⟨e1, d1, d2⟩ => ⟨e1, fq1 h1 h2 h3 h4 h5 h6 h7 h8 d1 d2⟩
theorem Fq.lay2 (h : Fq w V E p q S S' ab cb nT ai ci nU m) (i : Int) (aB : Option Addr) (cB : Nat) (B : List Nat) (hB : Bs w aB B) :
    Calls Try.prog 12 #[.pointer (some ⟨q, 0, none⟩), .int .i64 i, .slice aB B.length cB] V fun e V' => e = .returned (.bool (S'.layE i B)) ∧ Fq w V' E p q S (S'.layd i B) ab cb nT ai ci nU m ∧ But (fun k => ¬ E k) V V' := by
  obtain ⟨F, G, Z, T, U, h1, h2, h3, h4, h5, h6, h7, h8⟩ := h
  exact (mLay h1.m i aB B.length cB B (hB.keep h1.b) rfl (Bs.low (V := V) hB h1.g)).mono fun e V' ⟨e1, d1, d2⟩ => ⟨e1, fq2 h1 h2 h3 h4 h5 h6 h7 h8 d1 d2⟩
theorem Fq.plays (h : Fq w V E p q S S ab cb nT ai ci nU m) (hfit : S.fit) (o : Ov) (ho : o.good w) (hr1 : S.wr + 1 ≤ 4611686018427387904) (hr2 : S.sy + 1 ≤ 4611686018427387904) (hr3 : S.uns.length + 1 ≤ 268435456) :
    Calls Try.prog 7 #[.pointer (some ⟨p, 0, none⟩), .pointer (some ⟨q, 0, none⟩), .agg #[.int .i64 o.k, .int .i64 o.i, .slice o.aB o.B.length o.cB, .slice o.aK o.K.length o.cK]] V fun e V' => e = .returned (.bool true) ∧ Fq w V' E p q (S.step o) (S.step o) ab cb nT ai ci nU m ∧ But (fun k => ¬ E k) V V' := by
  obtain ⟨F, G, Z, T, U, h1, h2, h3, h4, h5, h6, h7, h8⟩ := h
  refine (plays_any h1 hfit o ho hr1 hr2 hr3).mono fun e V' ⟨e1, F', G', d⟩ => ⟨e1, ⟨F', G', Z, T, U, d.toBt, h2.but d.n.b (fun k hk hf => ?_), h3, h4, h5, h6, fun k hk => ⟨fun hf => ?_, fun hf => ?_⟩, fun k hk => ⟨Nat.lt_of_lt_of_le (h8 k hk).1 d.n.b.size, fun hf => ?_, fun hf => ?_, (h8 k hk).2.2.2⟩⟩, d.n.b.mono (fun k _ hf he => ?_)⟩
  · rcases hf with hf | hf
    · exact (h7 k hk).1 hf
    · exact (h7 k hk).2 hf
  · rcases d.n.f k hf with hf | hf
    · exact (h7 k hk).1 hf
    · have := h2.z1 k hk; omega
  · rcases d.n.g k hf with hf | hf
    · exact (h7 k hk).2 hf
    · have := h2.z1 k hk; omega
  · rcases d.n.f k hf with hf | hf
    · exact (h8 k hk).2.1 hf
    · have := (h8 k hk).1; omega
  · rcases d.n.g k hf with hf | hf
    · exact (h8 k hk).2.2.1 hf
    · have := (h8 k hk).1; omega
  · rcases hf with hf | hf
    · exact (h8 k he).2.1 hf
    · exact (h8 k he).2.2.1 hf
theorem Fq.read1 (h : Fq w V E p q S S' ab cb nT ai ci nU m) (i : Int) : Calls Try.prog 13 #[.pointer (some ⟨p, 0, none⟩), .int .i64 i] V fun e V' => ∃ a c, e = .returned (.tuple #[.slice a (S.read i).length c, .int .i64 (S.readE i : Int)]) ∧ Rw V' a c (S.read i) ∧ New V none a ∧ Below V.heap.size V V' := by
  obtain ⟨F, G, Z, T, U, h1, h2, h3, h4, h5, h6, h7, h8⟩ := h
  exact kRead h1.d i
theorem Fq.read2 (h : Fq w V E p q S S' ab cb nT ai ci nU m) (i : Int) : Calls Try.prog 14 #[.pointer (some ⟨q, 0, none⟩), .int .i64 i] V fun e V' => ∃ a c, e = .returned (.tuple #[.slice a (S'.read i).length c, .int .i64 (S'.readE i : Int)]) ∧ Rw V' a c (S'.read i) ∧ New V none a ∧ Below V.heap.size V V' := by
  obtain ⟨F, G, Z, T, U, h1, h2, h3, h4, h5, h6, h7, h8⟩ := h
  exact mRead h1.m i
theorem Fq.uns1 (h : Fq w V E p q S S' ab cb nT ai ci nU m) : Calls Try.prog 16 #[.pointer (some ⟨p, 0, none⟩)] V fun e V' => e = .returned (.slice (some ⟨V.heap.size, 0, none⟩) S.at.length S.at.length) ∧ Iw V' V.heap.size S.at ∧ Below V.heap.size V V' := by
  obtain ⟨F, G, Z, T, U, h1, _⟩ := h
  exact kUnsynced h1.d
theorem Fq.uns2 (h : Fq w V E p q S S' ab cb nT ai ci nU m) : Calls Try.prog 21 #[.pointer (some ⟨q, 0, none⟩)] V fun e V' => ∃ a c, e = .returned (.slice a S'.at.length c) ∧ Ig V' a c S'.at ∧ New V none a ∧ Below V.heap.size V V' := by
  obtain ⟨F, G, Z, T, U, h1, _⟩ := h
  exact mUnsynced h1.m
theorem Fq.img1 (h : Fq w V E p q S S' ab cb nT ai ci nU m) : Calls Try.prog 17 #[.pointer (some ⟨p, 0, none⟩)] V fun e V' => e = .returned (.slice (some ⟨V.heap.size, 0, none⟩) S.img.length S.img.length) ∧ Rw V' (some ⟨V.heap.size, 0, none⟩) S.img.length S.img ∧ Below V.heap.size V V' := by
  obtain ⟨F, G, Z, T, U, h1, _⟩ := h
  exact kImage h1.d
theorem Fq.lasts (h : Fq w V E p q S S' ab cb nT ai ci nU m) : ∃ la lc, V.cell? ⟨q, 0, none⟩ = some (.slice (some ⟨la, 0, none⟩) S'.img.length lc) ∧ Bs V (some ⟨la, 0, none⟩) S'.img := by
  obtain ⟨F, G, Z, T, U, h1, _⟩ := h
  obtain ⟨la, lc, e1, e2, _⟩ := h1.m.lasts
  exact ⟨la, lc, e1, e2⟩
/-- two lists of bytes are told -/
theorem Fq.addB (h : Fq w V E p q S S' ab cb nT ai ci nU m) : ∃ vs, vs.length = nT ∧ Ar V ab cb vs ∧ Hid (∀ (W1 V2 : World) (a1 : Option Addr) (c1 : Nat) (a2 : Option Addr) (c2 : Nat) (l : List Nat) (g c' : Nat), Below V.heap.size V W1 → Rw W1 a1 c1 l → Rw W1 a2 c2 l →
      (∀ x, a1 = some x → V.heap.size ≤ x.block) → (∀ x, a2 = some x → V.heap.size ≤ x.block) → (∀ x y, a1 = some x → a2 = some y → x.block ≠ y.block) → l.length ≤ 33554432 →
      Ar V2 (some ⟨g, 0, none⟩) c' (vs ++ [.slice a1 l.length c1, .slice a2 l.length c2]) → New W1 ab (some ⟨g, 0, none⟩) → W1.grownBy V2 (ab.map Addr.block) →
      Fq w V2 E p q S S' (some ⟨g, 0, none⟩) c' (nT + 2) ai ci nU (m + 2) ∧ But (fun k => ¬ E k) V V2) := by
  obtain ⟨F, G, Z, T, U, h1, h2, h3, h4, h5, h6, h7, h8⟩ := h
  refine ⟨_, by rw [List.length_map]; exact h3, h2.ar, ?_⟩
  intro W1 V2 a1 c1 a2 c2 l g c' hb r1 r2 n1 n2 h12 hl hA hN hg
  obtain ⟨t1, t2⟩ := h2.addB h1.b.size hb (r1 := ⟨a1, c1, l⟩) (r2 := ⟨a2, c2, l⟩) r1 r2 n1 n2 h12 hl hl hA hN hg
  have hs := t2.size
  refine ⟨⟨F, G, _, _, U, h1.but t2 (fun k hf hz => (h7 k hz).1 hf) (fun k hf hz => (h7 k hz).2 hf) h2.z0, t1, by rw [List.length_append, h3]; rfl, h4, by omega, by omega, fun k hk => ?_, fun k hk => ⟨Nat.lt_of_lt_of_le (h8 k hk).1 hs, (h8 k hk).2.1, (h8 k hk).2.2.1, fun hz => ?_⟩⟩, t2.mono (fun k _ hz he => (h8 k he).2.2.2 hz)⟩
  · rcases hk with hk | hk
    · exact h7 k hk
    · exact ⟨fun hf => by have := h1.d.lt k hf; omega, fun hf => by have := h1.m.lt k hf; omega⟩
  · rcases hz with hz | hz
    · exact (h8 k hk).2.2.2 hz
    · have := (h8 k hk).1; omega
/-- two lists of numbers are told -/
theorem Fq.addI (h : Fq w V E p q S S' ab cb nT ai ci nU m) : ∃ vs, vs.length = nU ∧ Ai V ai ci vs ∧ Hid (∀ (W1 V2 : World) (a1 : Option Addr) (c1 : Nat) (a2 : Option Addr) (c2 : Nat) (l : List Nat) (g c' : Nat), Below V.heap.size V W1 → Ig W1 a1 c1 l → Ig W1 a2 c2 l →
      (∀ x, a1 = some x → V.heap.size ≤ x.block) → (∀ x, a2 = some x → V.heap.size ≤ x.block) → (∀ x y, a1 = some x → a2 = some y → x.block ≠ y.block) → l.length ≤ 268435436 →
      Ai V2 (some ⟨g, 0, none⟩) c' (vs ++ [.slice a1 l.length c1, .slice a2 l.length c2]) → New W1 ai (some ⟨g, 0, none⟩) → W1.grownBy V2 (ai.map Addr.block) →
      Fq w V2 E p q S S' ab cb nT (some ⟨g, 0, none⟩) c' (nU + 2) (m + 2) ∧ But (fun k => ¬ E k) V V2) := by
  obtain ⟨F, G, Z, T, U, h1, h2, h3, h4, h5, h6, h7, h8⟩ := h
  refine ⟨_, by rw [List.length_map]; exact h4, h2.ria, ?_⟩
  intro W1 V2 a1 c1 a2 c2 l g c' hb r1 r2 n1 n2 h12 hl hA hN hg
  obtain ⟨t1, t2⟩ := h2.addI h1.b.size hb (r1 := ⟨a1, c1, l⟩) (r2 := ⟨a2, c2, l⟩) r1 r2 n1 n2 h12 hl hl hA hN hg
  have hs := t2.size
  refine ⟨⟨F, G, _, T, _, h1.but t2 (fun k hf hz => (h7 k hz).1 hf) (fun k hf hz => (h7 k hz).2 hf) h2.z0, t1, h3, by rw [List.length_append, h4]; rfl, by omega, by omega, fun k hk => ?_, fun k hk => ⟨Nat.lt_of_lt_of_le (h8 k hk).1 hs, (h8 k hk).2.1, (h8 k hk).2.2.1, fun hz => ?_⟩⟩, t2.mono (fun k _ hz he => (h8 k he).2.2.2 hz)⟩
  · rcases hk with hk | hk
    · exact h7 k hk
    · exact ⟨fun hf => by have := h1.d.lt k hf; omega, fun hf => by have := h1.m.lt k hf; omega⟩
  · rcases hz with hz | hz
    · exact (h8 k hk).2.2.2 hz
    · have := (h8 k hk).1; omega
/-- all that was told lies apart -/
theorem Fq.apart (h : Fq w V E p q S S' ab cb nT ai ci nU m) (hm : m ≤ 2097152) : Calls Try.prog 18 #[.slice ab nT cb] V fun e V' => e = .returned (.bool true) ∧ Calls Try.prog 19 #[.slice ai nU ci] V' fun e V2 => e = .returned (.bool true) ∧ ∃ F G, Bt w V2 F G p q S S' := by
  obtain ⟨F, G, Z, T, U, h1, h2, h3, h4, h5, h6, h7, h8⟩ := h
  subst h3 h4
  refine (h2.apart (by omega)).mono fun e V' ⟨e1, hb, k1, k2⟩ => ⟨e1, ?_⟩
  refine (h2.apartI (by omega) k1 k2).mono fun e V2 ⟨e1, hb2⟩ => ⟨e1, F, G, ?_⟩
  exact (h1.but hb (fun k hf hz => (h7 k hz).1 hf) (fun k hf hz => (h7 k hz).2 hf) h2.z0).but hb2 (fun k hf hz => (h7 k hz).1 hf) (fun k hf hz => (h7 k hz).2 hf) h2.z0
end
end Go.Proofs.Ytlflcdjaknnfaab
