import Derived.Test.YtlflcdjaknnfaaaKAA
namespace Go.Proofs.Ytlflcdjaknnfaaa
open Go.RowKit

/-- DiskKeeps under way: the disk, the calls that were gathered, the image that is wanted -/
structure Kp (w V : World) (F : Nat → Prop) (p : Nat) (S : Sd) (aw : Option Addr) (cw : Nat) (O : List Ov) (g N : Nat) (I : List Nat) : Prop where
  d : Dk F V p S
  f : ∀ k, F k → w.heap.size ≤ k
  b : Below w.heap.size w V
  ow : Ow V aw cw O
  on : ∀ x, aw = some x → ¬ F x.block ∧ w.heap.size ≤ x.block
  rw : Rw V (some ⟨g, 0, none⟩) N I
  rn : ¬ F g
  rg : w.heap.size ≤ g
section
variable {w V V' : World} {F : Nat → Prop} {p : Nat} {S S' : Sd} {aw : Option Addr} {cw : Nat} {O : List Ov} {g N : Nat} {I : List Nat}
theorem Kp.keep (h : Kp w V F p S aw cw O g N I) (hb : Below V.heap.size V V') : Kp w V' F p S aw cw O g N I :=
  ⟨h.d.keep hb, h.f, bt h.b hb, h.ow.keep hb, h.on, h.rw.keep hb, h.rn, h.rg⟩
theorem Kp.dk (h : Kp w V F p S aw cw O g N I) (h1 : Dk (ext F V V') V' p S') (hb : But F V V') : Kp w V' (ext F V V') p S' aw cw O g N I := by
  have hs := h.b.size
  refine ⟨h1, fun k hk => ?_, below_of h.b hb h.f, h.ow.but hb (fun x hx => (h.on x hx).1), fun x hx => ⟨fun hk => ?_, (h.on x hx).2⟩, h.rw.but hb (fun x hx => by cases hx; exact h.rn), fun hk => ?_, h.rg⟩
  · rcases hk with hk | hk
    · exact h.f k hk
    · omega
  · rcases hk with hk | hk
    · exact (h.on x hx).1 hk
    · have := h.ow.lt hx; omega
  · rcases hk with hk | hk
    · exact h.rn hk
    · have := h.rw.lt rfl; simp only at this; omega
/-- one call more -/
theorem Kp.more (h : Kp w V F p S aw cw O g N I) {o : Ov} {g2 c2 : Nat} (hg : V.grownBy V' (aw.map Addr.block)) (ho : Ow V' (some ⟨g2, 0, none⟩) c2 (O ++ [o])) (hl : aw.map Addr.block = some g2 ∨ g2 = V.heap.size) : Kp w V' F p S (some ⟨g2, 0, none⟩) c2 (O ++ [o]) g N I := by
  have hbut : But (fun k => aw.map Addr.block = some k) V V' := ⟨hg.os, hg.tape, hg.output, hg.size, fun k hk hn => hg.block k hk fun e => hn e.symm⟩
  have hs := h.b.size
  have hng : aw.map Addr.block ≠ some g := by
    intro e
    obtain ⟨x, hx, e2⟩ := map_some e
    rcases h.rw.cases with ⟨h0, _⟩ | ⟨g', cur, h0, hg', _⟩
    · cases h0
    · cases h0
      exact own_ne (D := cur.toList) h.ow (by simpa using hg') (by decide) x hx e2
  refine ⟨h.d.but hbut (fun k hk e => ?_), h.f, ?_, ho, fun x hx => ?_, h.rw.but hbut (fun x hx => by cases hx; exact hng), h.rn, h.rg⟩
  · obtain ⟨x, hx, e2⟩ := map_some e
    exact (h.on x hx).1 (e2 ▸ hk)
  · refine h.b.grown hg hs fun k hk => ?_
    obtain ⟨x, hx, e2⟩ := map_some hk
    rw [← e2]; exact (h.on x hx).2
  · cases hx
    rcases hl with e | e
    · obtain ⟨y, hy, e2⟩ := map_some e
      have := h.on y hy
      rw [e2] at this
      exact this
    · refine ⟨fun hk => ?_, by show _ ≤ g2; omega⟩
      have := h.d.lt _ hk
      simp only at this
      omega
/-- the image turns -/
theorem Kp.set (h : Kp w V F p S aw cw O g N I) (k v : Nat) : Kp w (V.setCell ⟨g, k, none⟩ (.int .u8 ((v : Nat) : Int))) F p S aw cw O g N (I.set k v) := by
  have hb := set_but V g k (.int .u8 ((v : Nat) : Int))
  refine ⟨h.d.but hb (fun x hx e => h.rn (e ▸ hx)), h.f, h.b.setCell h.rg _, h.ow.but hb (fun x hx e => ?_), h.on, h.rw.set k v, h.rn, h.rg⟩
  rcases h.rw.cases with ⟨h0, _⟩ | ⟨g', cur, h0, hg', _⟩
  · cases h0
  · cases h0
    exact own_ne (D := cur.toList) h.ow (by simpa using hg') (by decide) x hx e
theorem Kp.write (h : Kp w V F p S aw cw O g N I) (hb : Below V.heap.size V V') (i : Int) (a : Option Addr) (c : Nat) (b : List Nat) (hB : Bs V' a b) (hA : New V none a) (hU : S.uns.length + 1 ≤ 268435456) (hW : S.wr + 1 ≤ 4611686018427387904) :
    Calls Try.prog 25 #[.pointer (some ⟨p, 0, none⟩), .int .i64 i, .slice a b.length c] V' fun e V'' => e = .returned (.int .i64 (S.writeE i b : Int)) ∧ (∃ F', Kp w V'' F' p (S.write i b) aw cw O g N I) ∧ But F V' V'' := by
  refine (kWrite (h.d.keep hb) i a b.length c b hB rfl (fun x hx hf => ?_) hU hW).mono fun e V'' ⟨e1, q1, q2⟩ => ⟨e1, ⟨_, (h.keep hb).dk q1 q2⟩, q2⟩
  rcases hA x hx with ⟨y, hy, _⟩ | hn
  · cases hy
  · have := h.d.lt _ hf; omega
theorem Kp.off (h : Kp w V F p S aw cw O g N I) : Calls Try.prog 28 #[.pointer (some ⟨p, 0, none⟩)] V fun e V' => e = .returned (.tuple #[]) ∧ ∃ F', Kp w V' F' p S.off aw cw O g N I :=
  (kOff h.d).mono fun _ _ ⟨e1, q1, q2⟩ => ⟨e1, _, h.dk q1 q2⟩
theorem Kp.onn (h : Kp w V F p S aw cw O g N I) (hb : Below V.heap.size V V') (ka : Option Addr) (kc : Nat) (K : List Bool) (hK : Kb V' ka K) (hA : ∀ x, ka = some x → V.heap.size ≤ x.block) : Calls Try.prog 27 #[.pointer (some ⟨p, 0, none⟩), .slice ka K.length kc] V' fun e V'' => e = .returned (.tuple #[]) ∧ ∃ F', Kp w V'' F' p (S.on K) aw cw O g N I :=
  (kOn (h.d.keep hb) ka K.length kc K hK rfl (fun x hx hf => by have := hA x hx; have := h.d.lt _ hf; omega)).mono fun e V'' ⟨e1, q1, q2⟩ => ⟨e1, _, (h.keep hb).dk q1 q2⟩
end
/-- the image with so many writes kept -/
def kI (S : Sd) (O : List Ov) (K : List Bool) (t : Nat) : List Nat := imgF S.n fun i => shows (kept ((uO O).take t) K) (S.last i) i
theorem uO_at {O : List Ov} {t : Nat} {o : Ov} (h : O[t]? = some o) : (uO O)[t]? = some (o.i.toNat, o.B) := by unfold uO; rw [List.getElem?_map, h]; rfl
theorem kI_zero (S : Sd) (O : List Ov) (K : List Bool) : kI S O K 0 = S.img := by
  unfold kI
  rw [List.take_zero, kept_empty]
  rfl
theorem kI_no {S : Sd} {O : List Ov} {K : List Bool} {t : Nat} {o : Ov} (h : O[t]? = some o) (hk : K.getD t false = false) : kI S O K (t + 1) = kI S O K t := by
  unfold kI
  rw [kept_take _ K t _ (uO_at h), hk]
  simp
theorem kI_yes {S : Sd} (hok : S.ok) {O : List Ov} {K : List Bool} {t : Nat} {o : Ov} (h : O[t]? = some o) (hk : K.getD t false = true) (hO : ∀ o ∈ O, o.i.toNat < S.n ∧ Blk o.B) : kI S O K (t + 1) = lays (kI S O K t) (o.i.toNat * 512) o.B := by
  have hm := hO o (List.mem_of_getElem? h)
  have hblk : ∀ t i, Blk (shows (kept ((uO O).take t) K) (S.last i) i) := fun t i => shows_blk (hok.last i) fun u hu => by
    have h1 := List.mem_of_mem_take (kept_mem u hu)
    unfold uO at h1
    obtain ⟨x, hx, rfl⟩ := List.mem_map.1 h1
    exact (hO x hx).2
  have hl : (kI S O K t).length = S.n * 512 := imgF_len fun i _ => (hblk t i).1
  have hfit : o.i.toNat * 512 + o.B.length ≤ (kI S O K t).length := by
    rw [hl, hm.2.1]
    have : (o.i.toNat + 1) * 512 ≤ S.n * 512 := Nat.mul_le_mul_right _ hm.1
    omega
  symm
  refine img_ext (fun i _ => (hblk (t + 1) i).1) (by rw [lays_len hfit, hl]) fun i k hi hk2 => ?_
  rw [lays_get hfit, hm.2.1]
  have e : shows (kept ((uO O).take (t + 1)) K) (S.last i) i = if o.i.toNat = i then o.B else shows (kept ((uO O).take t) K) (S.last i) i := by
    rw [kept_take _ K t _ (uO_at h), hk, if_pos rfl, shows_snoc]
  rw [e]
  by_cases e1 : o.i.toNat = i
  · subst e1
    rw [if_pos ⟨Nat.le_add_right _ _, Nat.add_lt_add_left hk2 _⟩, if_pos rfl, Nat.add_sub_cancel_left]
  · rw [if_neg (by omega), if_neg e1]
    exact imgF_get (fun i _ => (hblk t i).1) hi hk2
theorem kI_over (S : Sd) (O : List Ov) (K : List Bool) {t : Nat} (h : O.length ≤ t ∨ K.length ≤ t) : kI S O K t = ((S.many O).off.on K).img := by
  have e : (S.many O).off.on K = { ((S.many O).off.lays (kept (uO O) K)).forget with pow := true } := by unfold Sd.on; rw [if_neg (show ¬ ((S.many O).off.pow = true) from (by show ¬ (false = true); decide))]; rfl
  rw [e]
  show imgF S.n _ = imgF S.n _
  refine imgF_congr fun i _ => ?_
  show shows (kept ((uO O).take t) K) (S.last i) i = shows (kept (uO O) K) (S.last i) i
  rcases h with h | h
  · rw [List.take_of_length_le (by unfold uO; rw [List.length_map]; exact h)]
  · rw [kept_over _ K t h]
theorem on_many (S : Sd) (O : List Ov) (K : List Bool) : ((S.many O).off.on K).pow = true ∧ ((S.many O).off.on K).uns = [] ∧ ((S.many O).off.on K).wh = ((S.many O).off.on K).img := by
  have e : (S.many O).off.on K = { ((S.many O).off.lays (kept (uO O) K)).forget with pow := true } := by unfold Sd.on; rw [if_neg (show ¬ ((S.many O).off.pow = true) from (by show ¬ (false = true); decide))]; rfl
  rw [e]
  refine ⟨rfl, rfl, ?_⟩
  unfold Sd.wh
  rw [if_pos rfl]
  rfl
/-- byte by byte -/
theorem lays_set {L b : List Nat} {o k : Nat} (hk : k < b.length) (h : o + b.length ≤ L.length) : (lays L o (b.take k)).set (o + k) (b.getD k 0) = lays L o (b.take (k + 1)) := by
  have l1 : (b.take k).length = k := by rw [List.length_take]; omega
  have l2 : (b.take (k + 1)).length = k + 1 := by rw [List.length_take]; omega
  have f1 : o + (b.take k).length ≤ L.length := by omega
  have f2 : o + (b.take (k + 1)).length ≤ L.length := by omega
  refine ext_get (by rw [List.length_set, lays_len f1, lays_len f2]) fun i hi => ?_
  rw [List.length_set, lays_len f1] at hi
  rw [lays_get f2, l2, List.getD_eq_getElem?_getD, List.getElem?_set]
  by_cases e : o + k = i
  · subst e
    rw [if_pos rfl, if_pos (by rw [lays_len f1]; exact hi), if_pos ⟨by omega, by omega⟩, Nat.add_sub_cancel_left]
    simp [List.getD_eq_getElem?_getD]
  · rw [if_neg e, ← List.getD_eq_getElem?_getD, lays_get f1, l1]
    by_cases e2 : o ≤ i ∧ i < o + k
    · rw [if_pos e2, if_pos ⟨e2.1, by omega⟩]
      have : i - o < k := by omega
      simp [List.getD_eq_getElem?_getD, this, show i - o < k + 1 by omega]
    · rw [if_neg e2, if_neg (by omega)]
theorem lays_none (L : List Nat) (o : Nat) : lays L o [] = L := by
  unfold lays
  simp
end Go.Proofs.Ytlflcdjaknnfaaa
