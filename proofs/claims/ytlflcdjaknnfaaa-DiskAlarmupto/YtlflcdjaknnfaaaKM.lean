import Derived.Test.YtlflcdjaknnfaaaKL
namespace Go.Proofs.Ytlflcdjaknnfaaa
open Go.RowKit

/-- a disk in memory -/
def Dk (F : Nat → Prop) (w : World) (p : Nat) (S : Sd) : Prop := ∃ bl bn ua uc, DkAt F w p bl bn ua uc S
section
variable {F : Nat → Prop} {w w' : World} {p : Nat} {S : Sd}
theorem Dk.ok (h : Dk F w p S) : S.ok := by obtain ⟨_, _, _, _, h⟩ := h; exact h.ok
theorem Dk.lt (h : Dk F w p S) : ∀ k, F k → k < w.heap.size := by obtain ⟨_, _, _, _, h⟩ := h; exact h.lt
theorem Dk.but {T : Nat → Prop} (h : Dk F w p S) (hb : But T w w') (hn : ∀ k, F k → ¬ T k) : Dk F w' p S := by
  obtain ⟨a, b, c, d, h⟩ := h; exact ⟨a, b, c, d, h.but hb hn⟩
theorem Dk.keep (h : Dk F w p S) (hb : Below w.heap.size w w') : Dk F w' p S := by obtain ⟨a, b, c, d, h⟩ := h; exact ⟨a, b, c, d, h.keep hb⟩
theorem Dk.mono {G : Nat → Prop} (h : Dk F w p S) (hG : ∀ k, F k → G k) (hl : ∀ k, G k → k < w.heap.size) : Dk G w p S := by obtain ⟨a, b, c, d, h⟩ := h; exact ⟨a, b, c, d, h.mono hG hl⟩
theorem kRead (h : Dk F w p S) (i : Int) : Calls Try.prog 35 #[.pointer (some ⟨p, 0, none⟩), .int .i64 i] w fun e w' => ∃ a c, e = .returned (.tuple #[.slice a (S.read i).length c, .int .i64 (S.readE i : Int)]) ∧ Rw w' a c (S.read i) ∧ New w none a ∧ Below w.heap.size w w' := by
  obtain ⟨_, _, _, _, h⟩ := h; exact dRead_any h i
theorem kLay (h : Dk F w p S) (i : Int) (a : Option Addr) (n c : Nat) (b : List Nat) (hB : Bs w a b) (hn : n = b.length) :
    Calls Try.prog 43 #[.pointer (some ⟨p, 0, none⟩), .int .i64 i, .slice a n c] w fun e w' => e = .returned (.bool (S.layE i b)) ∧ Dk (ext F w w') w' p (S.layd i b) ∧ But F w w' := by
  have hl := h.lt
  obtain ⟨_, _, _, _, h⟩ := h
  refine (dLay_any h i a n c b hB hn).mono ?_
  rintro e w' ⟨rfl, h1, h2⟩
  exact ⟨rfl, ⟨_, _, _, _, h1.mono (fun _ h => .inl h) (ext_lt hl h2.size)⟩, h2⟩
theorem kWrite (h : Dk F w p S) (i : Int) (a : Option Addr) (n c : Nat) (b : List Nat) (hB : Bs w a b) (hn : n = b.length) (hA : ∀ x, a = some x → ¬ F x.block) (hU : S.uns.length + 1 ≤ 268435456) (hW : S.wr + 1 ≤ 4611686018427387904) :
    Calls Try.prog 25 #[.pointer (some ⟨p, 0, none⟩), .int .i64 i, .slice a n c] w fun e w' => e = .returned (.int .i64 (S.writeE i b : Int)) ∧ Dk (ext F w w') w' p (S.write i b) ∧ But F w w' := by
  obtain ⟨_, _, _, _, h⟩ := h
  refine (dWrite_any h i a n c b hB hn hA hU hW).mono ?_
  rintro e w' ⟨rfl, _, _, h1, h2⟩
  exact ⟨rfl, ⟨_, _, _, _, h1⟩, h2⟩
theorem kSync (h : Dk F w p S) (hs : S.sy + 1 ≤ 4611686018427387904) :
    Calls Try.prog 24 #[.pointer (some ⟨p, 0, none⟩)] w fun e w' => e = .returned (.int .i64 (S.syncE : Int)) ∧ Dk (ext F w w') w' p S.sync ∧ But F w w' := by
  obtain ⟨_, _, _, _, h⟩ := h
  refine (dSync_any h hs).mono ?_
  rintro e w' ⟨rfl, _, _, _, h1, h2⟩
  exact ⟨rfl, ⟨_, _, _, _, h1⟩, h2⟩
theorem kOn (h : Dk F w p S) (ka : Option Addr) (kn kc : Nat) (K : List Bool) (hK : Kb w ka K) (hkn : kn = K.length) (hA : ∀ x, ka = some x → ¬ F x.block) :
    Calls Try.prog 27 #[.pointer (some ⟨p, 0, none⟩), .slice ka kn kc] w fun e w' => e = .returned (.tuple #[]) ∧ Dk (ext F w w') w' p (S.on K) ∧ But F w w' := by
  obtain ⟨_, _, _, _, h⟩ := h
  refine (dOn_any h ka kn kc K hK hkn hA).mono ?_
  rintro e w' ⟨rfl, _, _, _, h1, h2⟩
  exact ⟨rfl, ⟨_, _, _, _, h1⟩, h2⟩
theorem kOff (h : Dk F w p S) : Calls Try.prog 28 #[.pointer (some ⟨p, 0, none⟩)] w fun e w' => e = .returned (.tuple #[]) ∧ Dk (ext F w w') w' p S.off ∧ But F w w' := by
  have hl := h.lt
  obtain ⟨_, _, _, _, h⟩ := h
  refine (dOff_any h).mono ?_
  rintro e w' ⟨rfl, h1, h2⟩
  exact ⟨rfl, ⟨_, _, _, _, h1.mono (fun _ h => .inl h) (ext_lt hl h2.size)⟩, h2⟩
theorem kArm (h : Dk F w p S) (a : Int) (ha : a ≤ 9223372036854775807) : Calls Try.prog 23 #[.pointer (some ⟨p, 0, none⟩), .int .i64 a] w fun e w' => e = .returned (.tuple #[]) ∧ Dk (ext F w w') w' p (S.arm a) ∧ But F w w' := by
  have hl := h.lt
  obtain ⟨_, _, _, _, h⟩ := h
  refine (dArm_any h a ha).mono ?_
  rintro e w' ⟨rfl, h1, h2⟩
  exact ⟨rfl, ⟨_, _, _, _, h1.mono (fun _ h => .inl h) (ext_lt hl h2.size)⟩, h2⟩
theorem kIsOn (h : Dk F w p S) : Calls Try.prog 20 #[.pointer (some ⟨p, 0, none⟩)] w fun e w' => e = .returned (.bool S.pow) ∧ w' = w := by
  obtain ⟨_, _, _, _, h⟩ := h; exact dIsOn_any h
theorem kBlocks (h : Dk F w p S) : Calls Try.prog 18 #[.pointer (some ⟨p, 0, none⟩)] w fun e w' => e = .returned (.int .i64 (S.n : Int)) ∧ w' = w := by
  obtain ⟨_, _, _, _, h⟩ := h; exact dBlocks_any h
theorem kActs (h : Dk F w p S) : Calls Try.prog 17 #[.pointer (some ⟨p, 0, none⟩)] w fun e w' => e = .returned (.tuple #[.int .i64 (S.wr : Int), .int .i64 (S.sy : Int)]) ∧ Below w.heap.size w w' := by
  obtain ⟨_, _, _, _, h⟩ := h; exact dActs_any h
theorem kUnsynced (h : Dk F w p S) : Calls Try.prog 21 #[.pointer (some ⟨p, 0, none⟩)] w fun e w' => e = .returned (.slice (some ⟨w.heap.size, 0, none⟩) S.at.length S.at.length) ∧ Iw w' w.heap.size S.at ∧ Below w.heap.size w w' := by
  obtain ⟨_, _, _, _, h⟩ := h; exact dUnsynced_any h
theorem kImage (h : Dk F w p S) : Calls Try.prog 14 #[.pointer (some ⟨p, 0, none⟩)] w fun e w' => e = .returned (.slice (some ⟨w.heap.size, 0, none⟩) S.img.length S.img.length) ∧ Rw w' (some ⟨w.heap.size, 0, none⟩) S.img.length S.img ∧ Below w.heap.size w w' := by
  obtain ⟨_, _, _, _, h⟩ := h; exact dImage_any h
end
theorem Sd.ok.imgLt {S : Sd} (h : S.ok) : ∀ x ∈ S.img, x < 256 := imgF_mem fun i _ => (h.last i).2
theorem Sd.ok.imgLen {S : Sd} (h : S.ok) : S.img.length = S.n * 512 := imgF_len fun i _ => (h.last i).1
theorem Sd.ok.imgBig {S : Sd} (h : S.ok) : S.img.length ≤ 33554432 := by rw [h.imgLen]; have := h.n1; omega
/-- a row of bytes that the call has made, as bytes that can be read -/
theorem Rw.bs' {w : World} {a : Option Addr} {cap : Nat} {l : List Nat} (h : Rw w a cap l) (hl : ∀ x ∈ l, x < 256) : Bs w a l := h.bs hl h.len_le
/-- what a disk shows, block behind block -/
def Sd.all (S : Sd) : List Nat := imgF S.n S.show
theorem Sd.ok.allLen {S : Sd} (h : S.ok) : S.all.length = S.n * 512 := imgF_len fun i _ => (h.show i).1
theorem Sd.ok.allLt {S : Sd} (h : S.ok) : ∀ x ∈ S.all, x < 256 := imgF_mem fun i _ => (h.show i).2
section
variable {F : Nat → Prop} {w w' : World} {p : Nat} {S : Sd}
theorem read_on {S : Sd} {j : Nat} (hp : S.pow = true) (hj : j < S.n) : S.read (j : Int) = S.show j := by
  have hh : S.has (j : Int) = true := Sd.has_iff.2 ⟨by omega, by omega⟩
  unfold Sd.read
  rw [if_neg (by rw [hp]; decide), if_neg (by rw [hh]; decide)]
  rfl
set_option maxHeartbeats 2000000 in
theorem whole_any (h : Dk F w p S) (hp : S.pow = true) : Calls Try.prog 15 #[.pointer (some ⟨p, 0, none⟩)] w fun e w' => ∃ a c, e = .returned (.slice a S.all.length c) ∧ Rw w' a c S.all ∧ New w none a ∧ Below w.heap.size w w' := by
  have hn1 := h.ok.n1
  have hok := hide h.ok
  have H := hide h
  have hal := h.ok.allLen
  clear h
  go_enter Try.func15, Try.ntmps15
  go_wp2
  go_loopw [3, 4] (fun v i wx => ∃ (j : Nat) (aj : Option Addr) (cj : Nat), j ≤ S.n ∧ i = .int .i64 j ∧ v = .slice aj (j * 512) cj ∧ (Rw wx aj cj (imgF j S.show) ∧ New w none aj ∧ Below w.heap.size w wx)) (fun _ i _ => S.n - (intOf i).toNat)
  case atStart => exact ⟨0, none, 0, Nat.zero_le _, rfl, rfl, Rw.nil _, New.none _ _, Below.refl _ _⟩
  case round =>
    obtain ⟨j, aj, cj, hj, rfl, rfl, hG⟩ := hrel
    have HG := hide hG
    clear hG
    have R0 := hide (kBlocks (H.out.keep HG.out.2.2))
    by_cases hlt : j < S.n
    · have hi : (j : Int) < (S.n : Int) := by omega
      have hi2 : (j : Int) ≤ 65536 := by omega
      have R1 := hide (kRead (H.out.keep HG.out.2.2) (j : Int))
      rw [read_on hp hlt] at R1
      have hsb := hok.out.show j
      rw [hsb.1] at R1
      have HE : Hid (imgF j S.show ++ S.show j = imgF (j + 1) S.show) := (imgF_succ j S.show).symm
      have hz : (imgF j S.show).length = j * 512 := imgF_len fun i _ => (hok.out.show i).1
      have HZ := hide hz
      clear hz
      obtain ⟨q, hq⟩ : ∃ q, q = j * 512 := ⟨_, rfl⟩
      rw [← hq] at HZ
      have hq2 : (j + 1) * 512 = q + 512 := by omega
      rw [← hq]
      have HQ := hide (And.intro hq hq2)
      have hqb : q ≤ 33554432 := by omega
      clear hq hq2
      generalize S.show j = sj at *
      generalize imgF j S.show = L at *
      go_wp2_with (first | (go_at_call 18; refine R0.out.mono ?_; rintro e w1 ⟨rfl, e1⟩; have e1 := e1.symm; subst e1) | (go_at_call 35; refine R1.out.mono ?_; rintro e w2 ⟨a2, c2, rfl, hr2, hn2, hb2⟩; have H2 := hide (And.intro hr2 (And.intro hn2 hb2)); clear hr2 hn2 hb2) | (at_builtin; refine wpList_apB rfl _ _ rfl aj q cj L rfl HZ.out.symm (HG.out.1.keep H2.out.2.2) a2 512 c2 sj rfl hsb.1.symm (H2.out.1.bs' hsb.2) (by rw [HZ.out, hsb.1]; omega) ?_; intro a' cap' w3 hR hN hg _; have H3 := hide (And.intro hR (And.intro hN hg)); clear hR hN hg))
      go_roundw
      case rel =>
        obtain ⟨r1, r2, r3⟩ := H3.out
        refine ⟨j + 1, a', cap', by omega, by go_num, by rw [HQ.out.2], by rw [← HE.out]; exact r1, (HG.out.2.1).trans r2 (by have := HG.out.2.2.size; have := H2.out.2.2.size; omega), ?_⟩
        refine (bt HG.out.2.2 H2.out.2.2).grown r3 (by have := HG.out.2.2.size; have := H2.out.2.2.size; omega) fun k hk => ?_
        obtain ⟨x, hx, e⟩ := map_some hk
        rcases HG.out.2.1 x hx with ⟨y, hy, _⟩ | h
        · cases hy
        · omega
      case measure => simp [intOf]; omega
    · obtain rfl : j = S.n := by omega
      have hi : ¬ ((S.n : Nat) : Int) < ((S.n : Nat) : Int) := by omega
      go_wp2_with (go_at_call 18; refine R0.out.mono ?_; rintro e w1 ⟨rfl, e1⟩; have e1 := e1.symm; subst e1)
      go_ret
      exact ⟨aj, cj, by rw [hal]; rfl, HG.out⟩
end
end Go.Proofs.Ytlflcdjaknnfaaa
