import Derived.Test.YtlkjpljfbmploaaWB
import Derived.Laws.BitsAllLaws
namespace Go.Proofs.Ytlkjpljfbmploaa
open Go.RowKit

theorem drN (w : World) (n : Nat) : Below w.heap.size w (w.drewN n) := ⟨rfl, rfl, rfl, Nat.le_refl _, fun _ _ => rfl⟩
theorem wrapI {x : Int} (h : -9223372036854775808 ≤ x) (h2 : x ≤ 9223372036854775807) : IntKind.i64.wrap x = x := by rw [IntKind.wrap_i64]; omega

set_option maxHeartbeats 800000 in
theorem takes_yes (w : World) (b : Nat) (a : Option Addr) (cap : Nat) (s : WS) (n : Int) (h : Wt 68 w b a cap s) (he : s.e = 0) (hn : n + s.l.length ≤ s.most) :
    Calls Try.prog 59 #[.pointer (some ⟨b, 0, none⟩), .int .i64 n] w fun x w' => x = .returned (.bool true) ∧ Below w.heap.size w w' := by
  have c0 := h.c0
  have c1 := h.c1
  have c2 := h.c2
  have hm := h.2.2.1
  have hl := h.2.2.2.1
  rw [he] at c2
  have hs : IntKind.i64.wrap ((s.most : Int) - (s.l.length : Int)) = (s.most : Int) - (s.l.length : Int) := wrapI (by omega) (by omega)
  have hgt2 : ¬ (s.most : Int) - (s.l.length : Int) < n := by omega
  generalize s.l.length = len at *
  generalize s.most = mo at *
  clear h he hn hm hl
  go_enter Try.func59, Try.ntmps59
  go_wp2
  go_quiet (fail)
  go_wp2
  go_ret
  exact ⟨rfl, drN _ _⟩
set_option maxHeartbeats 800000 in
theorem takes_no (w : World) (b : Nat) (a : Option Addr) (cap : Nat) (s : WS) (n : Int) (h : Wt 68 w b a cap s) (he : s.e = 0) (hn : (s.most : Int) < n + s.l.length) :
    Calls Try.prog 59 #[.pointer (some ⟨b, 0, none⟩), .int .i64 n] w fun x w' => x = .returned (.bool false) ∧ Wt 68 w' b a cap (s.err 4) ∧ But (fun k => k = b) w w' := by
  have c0 := h.c0
  have c1 := h.c1
  have hm := h.2.2.1
  have hl := h.2.2.2.1
  have hs : IntKind.i64.wrap ((s.most : Int) - (s.l.length : Int)) = (s.most : Int) - (s.l.length : Int) := wrapI (by omega) (by omega)
  have hgt2 : (s.most : Int) - (s.l.length : Int) < n := by omega
  have H := hide h
  have HE := hide he
  generalize s.l.length = len at *
  generalize s.most = mo at *
  clear h he hn hm hl
  go_enter Try.func59, Try.ntmps59
  go_wp2
  go_quiet (fail)
  go_wp2_with fail
  refine (fail_ok _ b a cap s 4 (H.out.keep (drN _ _)) HE.out).mono ?_
  rintro e w1 ⟨rfl, h1, hb1⟩
  have d2 := h1.c2
  have H1 := hide h1
  clear h1
  go_wp2
  go_ret
  exact ⟨rfl, H1.out, (But.ofBelow (drN _ _)).trans hb1 fun _ _ e => e⟩
set_option maxHeartbeats 800000 in
theorem takes_err (w : World) (b : Nat) (a : Option Addr) (cap : Nat) (s : WS) (n : Int) (h : Wt 68 w b a cap s) (he : s.e ≠ 0) :
    Calls Try.prog 59 #[.pointer (some ⟨b, 0, none⟩), .int .i64 n] w fun x w' => x = .returned (.bool false) ∧ Below w.heap.size w w' := by
  have c0 := h.c0
  have c1 := h.c1
  have c2 := h.c2
  have hm := h.2.2.1
  have hl := h.2.2.2.1
  have hz : (((s.e : Nat) : Int) == 0) = false := by simp; omega
  have hs : IntKind.i64.wrap ((s.most : Int) - (s.l.length : Int)) = (s.most : Int) - (s.l.length : Int) := wrapI (by omega) (by omega)
  have H := hide h
  have HE := hide he
  by_cases hgt2 : (s.most : Int) - (s.l.length : Int) < n
  · generalize s.l.length = len at *
    generalize s.most = mo at *
    clear h he hm hl
    go_enter Try.func59, Try.ntmps59
    go_wp2
    go_quiet (fail)
    go_wp2_with fail
    refine (fail_err _ b a cap s 4 (H.out.keep (drN _ _)) HE.out).mono ?_
    rintro e w1 ⟨rfl, rfl⟩
    go_wp2
    go_ret
    exact ⟨rfl, drN _ _⟩
  · generalize s.l.length = len at *
    generalize s.most = mo at *
    clear h he hm hl H HE
    go_enter Try.func59, Try.ntmps59
    go_wp2
    go_quiet (fail)
    go_wp2
    go_ret
    exact ⟨rfl, drN _ _⟩

theorem Did.pre {T : TypeId} {w w1 w2 : World} {b : Nat} {a : Option Addr} {s : WS} (hb : Below w.heap.size w w1) (h : Did T w1 w2 b a s) : Did T w w2 b a s := by
  obtain ⟨a', cap', h1, h2, h3⟩ := h
  exact ⟨a', cap', h1, h2.mono hb.size, (But.ofBelow hb).trans h3 fun _ _ h => h⟩
theorem Did.post {T : TypeId} {w w1 w2 : World} {b : Nat} {a : Option Addr} {s : WS} (h : Did T w w1 b a s) (hb : Below w1.heap.size w1 w2) : Did T w w2 b a s := by
  obtain ⟨a', cap', h1, h2, h3⟩ := h
  exact ⟨a', cap', h1.keep hb, h2, h3.andBelow hb⟩
/-- what the walk wants behind an append to the bytes -/
theorem Wt.after {T : TypeId} {w w1 : World} {b : Nat} {a : Option Addr} {cap : Nat} {s : WS} (h : Wt T w b a cap s) (hT : T ≠ 5) {a' : Option Addr} {n cap' : Nat} {p : List Nat} (hR : Rw w1 a' cap' (s.l ++ p)) (hN : New w a a') (hg : w.grownBy w1 (a.map Addr.block))
    (hp : ∀ x ∈ p, x < 256) (hm : s.l.length + p.length ≤ s.most) (he : s.e = 0) (hn : n = s.l.length + p.length) :
    w1.cell? ⟨b, 1, none⟩ = some (.slice a s.l.length cap) ∧ w1.frozen? ⟨b, 1, none⟩ = false ∧ Hid (Wt T (w1.setCell ⟨b, 1, none⟩ (.slice a' n cap')) b a' cap' ⟨s.most, s.l ++ p, 0⟩ ∧ New w a a' ∧ But (Ft b a) w (w1.setCell ⟨b, 1, none⟩ (.slice a' n cap'))) := by
  have hblk : w1.heap[b]? = w.heap[b]? := hg.block b h.lt fun e => by
    obtain ⟨x, hx, e⟩ := map_some e.symm
    exact h.ne hT hx e
  exact ⟨(World.cell?_of_block hblk).trans h.c1, (World.frozen?_of_block hblk).trans (h.f 1), h.grow hT hR hN hg hp hm he hn⟩

set_option maxHeartbeats 800000 in
theorem Raw_any (w : World) (b : Nat) (a : Option Addr) (cap : Nat) (s : WS) (aa : Option Addr) (n capa : Nat) (p : List Nat) (h : Wt 68 w b a cap s) (hB : Bs w aa p) (hn : n = p.length) :
    Calls Try.prog 37 #[.pointer (some ⟨b, 0, none⟩), .slice aa n capa] w fun x w' => x = .returned (.tuple #[]) ∧ Did 68 w w' b a (s.put p) := by
  subst hn
  have hm := h.2.2.1
  have H := hide h
  have HB := hide hB
  have HM := hide hm
  clear h hB hm
  by_cases he : s.e = 0
  · have HE := hide he
    by_cases hf : s.l.length + p.length ≤ s.most
    · rw [WS.put_fits he hf]
      have HF := hide hf
      clear hf he
      go_enter Try.func37, Try.ntmps37
      go_wp2_with fail
      refine (takes_yes _ b a cap s _ H.out HE.out (by have := HF.out; omega)).mono ?_
      rintro e w1 ⟨rfl, hb1⟩
      have H1 := hide (H.out.keep hb1)
      have HB1 := hide (HB.out.keep hb1)
      have c1 := H1.out.c1
      go_wp2_with (at_builtin; refine wpList_apB rfl _ _ rfl a s.l.length cap s.l rfl rfl H1.out.2.1 aa p.length capa p rfl rfl HB1.out (by have := HF.out; have := HM.out; omega) ?_)
      intro a' cap' w2 hR hN hg _
      obtain ⟨d1, e1, G⟩ := H1.out.after (by decide) hR hN hg HB.out.1 HF.out HE.out rfl
      clear hR hN hg c1
      go_wp2
      go_end0
      exact ⟨rfl, Did.pre hb1 ⟨_, _, G.out⟩⟩
    · rw [WS.put_many he (by omega)]
      have HF := hide hf
      clear hf he
      go_enter Try.func37, Try.ntmps37
      go_wp2_with fail
      refine (takes_no _ b a cap s _ H.out HE.out (by have := HF.out; omega)).mono ?_
      rintro e w1 ⟨rfl, h1, hb1⟩
      have H1 := hide h1
      clear h1
      go_wp2
      go_end0
      exact ⟨rfl, Did.same H1.out (hb1.toFt a)⟩
  · rw [WS.put_err he]
    have HE := hide he
    clear he
    go_enter Try.func37, Try.ntmps37
    go_wp2_with fail
    refine (takes_err _ b a cap s _ H.out HE.out).mono ?_
    rintro e w1 ⟨rfl, hb1⟩
    go_wp2
    go_end0
    exact ⟨rfl, Did.same (H.out.keep hb1) (But.ofBelow hb1)⟩

end Go.Proofs.Ytlkjpljfbmploaa
