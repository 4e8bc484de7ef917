import Derived.Test.YtlflcdjaknnfaabKL
namespace Go.Proofs.Ytlflcdjaknnfaab
open Go.RowKit

/-- a disk in memory -/
def Dk (F : Nat → Prop) (w : World) (p : Nat) (S : Sd) : Prop := ∃ bl bn ua uc, DkAt F w p bl bn ua uc S
section
variable {F : Nat → Prop} {w w' : World} {p : Nat} {S : Sd}
theorem Dk.ok (h : Dk F w p S) : S.ok := by obtain ⟨_, _, _, _, h⟩ := h; exact h.ok
theorem Dk.lt (h : Dk F w p S) : ∀ k, F k → k < w.heap.size := by obtain ⟨_, _, _, _, h⟩ := h; exact h.lt
theorem Dk.but {T : Nat → Prop} (h : Dk F w p S) (hb : But T w w') (hn : ∀ k, F k → ¬ T k) : Dk F w' p S := by
  obtain ⟨a, b, c, d, h⟩ := h; exact ⟨a, b, c, d, h.but hb hn⟩
theorem Dk.keep (h : Dk F w p S) (hb : Below w.heap.size w w') : Dk F w' p S := by obtain ⟨a, b, c, d, h⟩ := h; exact ⟨a, b, c, d, h.keep hb⟩
theorem Dk.mono {G : Nat → Prop} (h : Dk F w p S) (hG : ∀ k, F k → G k) (hl : ∀ k, G k → k < w.heap.size) : Dk G w p S := by obtain ⟨a, b, c, d, h⟩ := h; exact ⟨a, b, c, d, h.mono hG hl⟩
theorem kRead (h : Dk F w p S) (i : Int) : Calls Try.prog 13 #[.pointer (some ⟨p, 0, none⟩), .int .i64 i] w fun e w' => ∃ a c, e = .returned (.tuple #[.slice a (S.read i).length c, .int .i64 (S.readE i : Int)]) ∧ Rw w' a c (S.read i) ∧ New w none a ∧ Below w.heap.size w w' := by
  obtain ⟨_, _, _, _, h⟩ := h; exact dRead_any h i
theorem kLay (h : Dk F w p S) (i : Int) (a : Option Addr) (n c : Nat) (b : List Nat) (hB : Bs w a b) (hn : n = b.length) :
    Calls Try.prog 11 #[.pointer (some ⟨p, 0, none⟩), .int .i64 i, .slice a n c] w fun e w' => e = .returned (.bool (S.layE i b)) ∧ Dk (ext F w w') w' p (S.layd i b) ∧ But F w w' := by
  have hl := h.lt
  obtain ⟨_, _, _, _, h⟩ := h
  refine (dLay_any h i a n c b hB hn).mono ?_
  rintro e w' ⟨rfl, h1, h2⟩
  exact ⟨rfl, ⟨_, _, _, _, h1.mono (fun _ h => .inl h) (ext_lt hl h2.size)⟩, h2⟩
theorem kWrite (h : Dk F w p S) (i : Int) (a : Option Addr) (n c : Nat) (b : List Nat) (hB : Bs w a b) (hn : n = b.length) (hA : ∀ x, a = some x → ¬ F x.block) (hU : S.uns.length + 1 ≤ 268435456) (hW : S.wr + 1 ≤ 4611686018427387904) :
    Calls Try.prog 9 #[.pointer (some ⟨p, 0, none⟩), .int .i64 i, .slice a n c] w fun e w' => e = .returned (.int .i64 (S.writeE i b : Int)) ∧ Dk (ext F w w') w' p (S.write i b) ∧ But F w w' := by
  obtain ⟨_, _, _, _, h⟩ := h
  refine (dWrite_any h i a n c b hB hn hA hU hW).mono ?_
  rintro e w' ⟨rfl, _, _, h1, h2⟩
  exact ⟨rfl, ⟨_, _, _, _, h1⟩, h2⟩
theorem kSync (h : Dk F w p S) (hs : S.sy + 1 ≤ 4611686018427387904) :
    Calls Try.prog 28 #[.pointer (some ⟨p, 0, none⟩)] w fun e w' => e = .returned (.int .i64 (S.syncE : Int)) ∧ Dk (ext F w w') w' p S.sync ∧ But F w w' := by
  obtain ⟨_, _, _, _, h⟩ := h
  refine (dSync_any h hs).mono ?_
  rintro e w' ⟨rfl, _, _, _, h1, h2⟩
  exact ⟨rfl, ⟨_, _, _, _, h1⟩, h2⟩
theorem kOn (h : Dk F w p S) (ka : Option Addr) (kn kc : Nat) (K : List Bool) (hK : Kb w ka K) (hkn : kn = K.length) (hA : ∀ x, ka = some x → ¬ F x.block) :
    Calls Try.prog 35 #[.pointer (some ⟨p, 0, none⟩), .slice ka kn kc] w fun e w' => e = .returned (.tuple #[]) ∧ Dk (ext F w w') w' p (S.on K) ∧ But F w w' := by
  obtain ⟨_, _, _, _, h⟩ := h
  refine (dOn_any h ka kn kc K hK hkn hA).mono ?_
  rintro e w' ⟨rfl, _, _, _, h1, h2⟩
  exact ⟨rfl, ⟨_, _, _, _, h1⟩, h2⟩
theorem kOff (h : Dk F w p S) : Calls Try.prog 32 #[.pointer (some ⟨p, 0, none⟩)] w fun e w' => e = .returned (.tuple #[]) ∧ Dk (ext F w w') w' p S.off ∧ But F w w' := by
  have hl := h.lt
  obtain ⟨_, _, _, _, h⟩ := h
  refine (dOff_any h).mono ?_
  rintro e w' ⟨rfl, h1, h2⟩
  exact ⟨rfl, ⟨_, _, _, _, h1.mono (fun _ h => .inl h) (ext_lt hl h2.size)⟩, h2⟩
theorem kArm (h : Dk F w p S) (a : Int) (ha : a ≤ 9223372036854775807) : Calls Try.prog 30 #[.pointer (some ⟨p, 0, none⟩), .int .i64 a] w fun e w' => e = .returned (.tuple #[]) ∧ Dk (ext F w w') w' p (S.arm a) ∧ But F w w' := by
  have hl := h.lt
  obtain ⟨_, _, _, _, h⟩ := h
  refine (dArm_any h a ha).mono ?_
  rintro e w' ⟨rfl, h1, h2⟩
  exact ⟨rfl, ⟨_, _, _, _, h1.mono (fun _ h => .inl h) (ext_lt hl h2.size)⟩, h2⟩
theorem kIsOn (h : Dk F w p S) : Calls Try.prog 52 #[.pointer (some ⟨p, 0, none⟩)] w fun e w' => e = .returned (.bool S.pow) ∧ w' = w := by
  obtain ⟨_, _, _, _, h⟩ := h; exact dIsOn_any h
theorem kBlocks (h : Dk F w p S) : Calls Try.prog 56 #[.pointer (some ⟨p, 0, none⟩)] w fun e w' => e = .returned (.int .i64 (S.n : Int)) ∧ w' = w := by
  obtain ⟨_, _, _, _, h⟩ := h; exact dBlocks_any h
theorem kActs (h : Dk F w p S) : Calls Try.prog 54 #[.pointer (some ⟨p, 0, none⟩)] w fun e w' => e = .returned (.tuple #[.int .i64 (S.wr : Int), .int .i64 (S.sy : Int)]) ∧ Below w.heap.size w w' := by
  obtain ⟨_, _, _, _, h⟩ := h; exact dActs_any h
theorem kUnsynced (h : Dk F w p S) : Calls Try.prog 16 #[.pointer (some ⟨p, 0, none⟩)] w fun e w' => e = .returned (.slice (some ⟨w.heap.size, 0, none⟩) S.at.length S.at.length) ∧ Iw w' w.heap.size S.at ∧ Below w.heap.size w w' := by
  obtain ⟨_, _, _, _, h⟩ := h; exact dUnsynced_any h
theorem kImage (h : Dk F w p S) : Calls Try.prog 17 #[.pointer (some ⟨p, 0, none⟩)] w fun e w' => e = .returned (.slice (some ⟨w.heap.size, 0, none⟩) S.img.length S.img.length) ∧ Rw w' (some ⟨w.heap.size, 0, none⟩) S.img.length S.img ∧ Below w.heap.size w w' := by
  obtain ⟨_, _, _, _, h⟩ := h; exact dImage_any h
end
theorem Sd.ok.imgLt {S : Sd} (h : S.ok) : ∀ x ∈ S.img, x < 256 := imgF_mem fun i _ => (h.last i).2
theorem Sd.ok.imgLen {S : Sd} (h : S.ok) : S.img.length = S.n * 512 := imgF_len fun i _ => (h.last i).1
theorem Sd.ok.imgBig {S : Sd} (h : S.ok) : S.img.length ≤ 33554432 := by rw [h.imgLen]; have := h.n1; omega
/-- a row of bytes that the call has made, as bytes that can be read -/
theorem Rw.bs' {w : World} {a : Option Addr} {cap : Nat} {l : List Nat} (h : Rw w a cap l) (hl : ∀ x ∈ l, x < 256) : Bs w a l := h.bs hl h.len_le
/-- what a disk shows, block behind block -/
def Sd.all (S : Sd) : List Nat := imgF S.n S.show
theorem Sd.ok.allLen {S : Sd} (h : S.ok) : S.all.length = S.n * 512 := imgF_len fun i _ => (h.show i).1
theorem Sd.ok.allLt {S : Sd} (h : S.ok) : ∀ x ∈ S.all, x < 256 := imgF_mem fun i _ => (h.show i).2
section
variable {F : Nat → Prop} {w w' : World} {p : Nat} {S : Sd}
theorem read_on {S : Sd} {j : Nat} (hp : S.pow = true) (hj : j < S.n) : S.read (j : Int) = S.show j := by
  have hh : S.has (j : Int) = true := Sd.has_iff.2 ⟨by omega, by omega⟩
  unfold Sd.read
  rw [if_neg (by rw [hp]; decide), if_neg (by rw [hh]; decide)]
  rfl
end
end Go.Proofs.Ytlflcdjaknnfaab
