import Derived.Test.YtoachodngjlpaaaVA
import Derived.Test.YtoachodngjlpaaaZA
import Derived.Laws.Externs
import Derived.Laws.CopyOwn
namespace Go.Proofs.Ytoachodngjlpaaa
open Go.RowKit

theorem al (w : World) (o : Obj) : Below w.heap.size w (w.alloc o) := (Below.refl _ _).alloc (Nat.le_refl _) _
/-- bytes that are new memory -/
structure Own (w wx : World) (a : Option Addr) (cap : Nat) (l : List Nat) : Prop where
  r : Rw wx a cap l
  n : New w none a
  b : Below w.heap.size w wx
theorem Own.nil (w : World) {wx : World} (h : Below w.heap.size w wx) : Own w wx none 0 [] := ⟨Rw.nil _, New.none _ _, h⟩
theorem Own.keep {w wx wy : World} {a : Option Addr} {cap : Nat} {l : List Nat} (h : Own w wx a cap l) (hb : Below wx.heap.size wx wy) : Own w wy a cap l := ⟨h.r.keep hb, h.n, bt h.b hb⟩
theorem Own.pre {w w0 wx : World} {a : Option Addr} {cap : Nat} {l : List Nat} (hb : Below w.heap.size w w0) (h : Own w0 wx a cap l) : Own w wx a cap l := ⟨h.r, h.n.mono hb.size, bt hb h.b⟩
theorem Own.fresh {w wx : World} {a : Option Addr} {cap : Nat} {l : List Nat} (h : Own w wx a cap l) {x : Addr} (hx : a = some x) : w.heap.size ≤ x.block := by
  rcases h.n x hx with ⟨y, hy, _⟩ | h
  · cases hy
  · exact h

/-! ### bytealg.Compare -/
def ba (l : List Nat) : ByteArray := ⟨(l.map fun x => x.toUInt8).toArray⟩
theorem run_loadBytes (w : World) (b : Nat) : ∀ (l : List Nat) (off : Nat) (acc : ByteArray), (∀ i, i < l.length → w.cell? ⟨b, off + i, none⟩ = some (.int .u8 ((l.getD i 0 : Nat) : Int))) →
    (Extern.Bytes.loadBytes ⟨b, off, none⟩ l.length acc).run Try.prog w = .ok ⟨acc.data ++ (l.map fun x => x.toUInt8).toArray⟩ w
  | [], off, acc, _ => by simp [Extern.Bytes.loadBytes]
  | x :: l, off, acc, h => by
    have h0 := h 0 (by simp)
    simp only [List.getD_cons_zero, Nat.add_zero] at h0
    have hl : (load ⟨b, off, none⟩).run Try.prog w = .ok (.int .u8 (x : Int)) w := by
      rw [run_load, h0]
    have ih := run_loadBytes w b l (off + 1) (acc.push x.toUInt8) (fun i hi => by
      have := h (i + 1) (by simpa using hi)
      rw [List.getD_cons_succ] at this
      rw [show off + 1 + i = off + (i + 1) by omega]; exact this)
    simp only [List.length_cons, Extern.Bytes.loadBytes, Sem.run_bind, hl, Result.andThen_ok]
    rw [show ((⟨b, off, none⟩ : Addr).add 1) = ⟨b, off + 1, none⟩ from rfl, show (x : Int).toNat.toUInt8 = x.toUInt8 from rfl, ih]
    simp [ByteArray.push]
theorem run_bytesOf {w : World} {a : Option Addr} {l : List Nat} {n c : Nat} (hB : Bs w a l) (hn : n = l.length) : (Extern.Bytes.bytesOf (.slice a n c)).run Try.prog w = .ok (ba l) w := by
  subst hn
  cases a with
  | none =>
    rcases hB.2.2 with rfl | ⟨b, off, h, _⟩
    · rfl
    · cases h
  | some x =>
    rcases hB.2.2 with rfl | ⟨b, off, h, hc⟩
    · rfl
    · simp only [Option.some.injEq] at h
      subst h
      simp only [Extern.Bytes.bytesOf]
      rw [run_loadBytes w b l off .empty hc]
      simp only [ba]
      congr 1
      simp [ByteArray.empty, ByteArray.emptyWithCapacity]
      try rfl
theorem ba_size (l : List Nat) : (ba l).size = l.length := by simp [ba, ByteArray.size]
theorem ba_get (l : List Nat) (i : Nat) (hi : i < l.length) : (ba l)[i]! = (l.getD i 0).toUInt8 := by
  have h1 : i < (ba l).size := by rw [ba_size]; exact hi
  rw [getElem!_pos (ba l) i h1]
  show (ba l).data[i] = _
  simp [ba, hi]
theorem u8_eq {x y : Nat} (hx : x < 256) (hy : y < 256) : (x.toUInt8 = y.toUInt8) ↔ x = y := by
  constructor
  · intro h
    have := congrArg UInt8.toNat h
    simp at this
    omega
  · rintro rfl; rfl
theorem u8_lt {x y : Nat} (hx : x < 256) (hy : y < 256) : (x.toUInt8 < y.toUInt8) ↔ x < y := by
  rw [UInt8.lt_iff_toNat_lt]
  simp
  omega
theorem cmp_ba (l k : List Nat) (hl : ∀ x ∈ l, x < 256) (hk : ∀ x ∈ k, x < 256) : Extern.BytealgCompare.cmp (ba l) (ba k) = cmpB l k := by
  have gl : ∀ i, i < l.length → l.getD i 0 < 256 := fun i hi => by rw [getD_at l hi]; exact hl _ (List.getElem_mem _)
  have gk : ∀ i, i < k.length → k.getD i 0 < 256 := fun i hi => by rw [getD_at k hi]; exact hk _ (List.getElem_mem _)
  have step : ∀ m, m ≤ l.length → m ≤ k.length → (∀ i, i < m → l.getD i 0 = k.getD i 0) → cmpB l k = cmpB (l.drop m) (k.drop m) := by
    intro m
    induction m with
    | zero => intros; rfl
    | succ m ih =>
      intro h1 h2 h3
      rw [ih (by omega) (by omega) (fun i hi => h3 i (by omega)), cmpB_drop l k m (by omega) (by omega), h3 m (by omega), if_neg (by omega), if_neg (by omega)]
  unfold Extern.BytealgCompare.cmp
  rw [ba_size, ba_size]
  split
  · rename_i i hf
    obtain ⟨h1, hm, h3⟩ := List.find?_range_eq_some.1 hf
    have hm' := List.mem_range.1 hm
    have hil : i < l.length := by omega
    have hik : i < k.length := by omega
    rw [ba_get l i hil, ba_get k i hik] at h1 ⊢
    have hne : l.getD i 0 ≠ k.getD i 0 := fun e => by rw [e] at h1; simp at h1
    rw [step i (by omega) (by omega) (fun j hj => by
      have := h3 j hj
      rw [ba_get l j (by omega), ba_get k j (by omega)] at this
      simp only [bne_eq_false_iff_eq, Bool.not_eq_eq_eq_not, Bool.not_true] at this
      exact (u8_eq (gl j (by omega)) (gk j (by omega))).1 this), cmpB_drop l k i hil hik]
    by_cases h : l.getD i 0 < k.getD i 0
    · rw [if_pos ((u8_lt (gl i hil) (gk i hik)).2 h), if_pos h]
    · rw [if_neg (fun h4 => h ((u8_lt (gl i hil) (gk i hik)).1 h4)), if_neg h, if_pos (by omega)]
  · rename_i hf
    have hf' := List.find?_eq_none.1 hf
    have heq : ∀ i, i < min l.length k.length → l.getD i 0 = k.getD i 0 := fun i hi => by
      have := hf' i (List.mem_range.2 hi)
      rw [ba_get l i (by omega), ba_get k i (by omega)] at this
      simp only [bne_iff_ne, ne_eq, Decidable.not_not] at this
      exact (u8_eq (gl i (by omega)) (gk i (by omega))).1 this
    rw [step (min l.length k.length) (by omega) (by omega) heq, cmpB_end l k _ (by omega) (by omega) (by omega)]
theorem call_cmp {w : World} {a b : Option Addr} {l k : List Nat} (n c m d : Nat) (hA : Bs w a l) (hB : Bs w b k) (hn : n = l.length) (hm : m = k.length) : (callFunc 44 #[.slice a n c, .slice b m d]).run Try.prog w = .ok (.value (.int .i64 (cmpB l k))) w := by
  rw [run_callFunc_extern Try.func44 (by kernel_rfl) (by kernel_rfl) (by kernel_rfl) (e := Extern.BytealgCompare.compare) (by kernel_rfl)]
  have e : Extern.BytealgCompare.compare #[.slice a n c, .slice b m d] = (do pure (goInt (Extern.BytealgCompare.cmp (← Extern.Bytes.bytesOf (.slice a n c)) (← Extern.Bytes.bytesOf (.slice b m d))))) := rfl
  simp only [e, Sem.run_bind, run_bytesOf hA hn, run_bytesOf hB hm, Result.andThen_ok, Sem.run_pure, cmp_ba l k hA.1 hB.1]
  rfl
theorem bCompare_any (w : World) (a b : Option Addr) (n c m d : Nat) (l k : List Nat) (hA : Bs w a l) (hB : Bs w b k) (hn : n = l.length) (hm : m = k.length) :
    Calls Try.prog 42 #[.slice a n c, .slice b m d] w fun e w' => e = .returned (.int .i64 (cmpB l k)) ∧ w' = w := by
  subst hn hm
  have hc := call_cmp l.length c k.length d hA hB rfl rfl
  clear hA hB
  go_enter Try.func42, Try.ntmps42
  go_wp2
  go_ret
  exact ⟨rfl, rfl⟩
theorem sCompare_any (w : World) (a b : Option Addr) (n c m d : Nat) (l k : List Nat) (hA : Bs w a l) (hB : Bs w b k) (hn : n = l.length) (hm : m = k.length) :
    Calls Try.prog 36 #[.slice a n c, .slice b m d] w fun e w' => e = .returned (.int .i64 (cmpB l k)) ∧ w' = w := by
  subst hn hm
  have hc := hide (bCompare_any w a b l.length c k.length d l k hA hB rfl rfl)
  clear hA hB
  go_enter Try.func36, Try.ntmps36
  go_wp2_with fail
  refine hc.out.mono ?_
  rintro e w1 ⟨rfl, rfl⟩
  go_wp2
  go_ret
  exact ⟨rfl, rfl⟩
end Go.Proofs.Ytoachodngjlpaaa
