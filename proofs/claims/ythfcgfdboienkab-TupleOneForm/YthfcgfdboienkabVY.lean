import Derived.Test.YthfcgfdboienkabVX
import Derived.Test.YthfcgfdboienkabVF
import Derived.Test.YthfcgfdboienkabVK
namespace Go.Proofs.Ythfcgfdboienkab
open Go.RowKit

/-- a row of the call's own -/
structure Own (w wx : World) (a : Option Addr) (cap : Nat) (l : List Nat) : Prop where
  r : Rw wx a cap l
  n : New w none a
  b : Below w.heap.size w wx
theorem Own.nil (w : World) {wx : World} (h : Below w.heap.size w wx) : Own w wx none 0 [] := ⟨Rw.nil _, New.none _ _, h⟩
theorem Own.keep {w wx wy : World} {a : Option Addr} {cap : Nat} {l : List Nat} (h : Own w wx a cap l) (hb : Below wx.heap.size wx wy) : Own w wy a cap l := ⟨h.r.keep hb, h.n, bt h.b hb⟩
theorem Own.step {w wx wy : World} {a a' : Option Addr} {cap cap' : Nat} {l l' : List Nat} (h : Own w wx a cap l) (k : Apd wx a wy a' cap' l') : Own w wy a' cap' l' := by
  refine ⟨k.r, h.n.trans k.n h.b.size, ?_⟩
  have hh : But (fun _ => False) w wy := (But.ofBelow h.b).trans k.b fun x hx ht => by
    obtain ⟨y, hy, e⟩ := map_some ht
    rcases h.n y hy with ⟨z, hz, _⟩ | h2
    · cases hz
    · omega
  exact hh.below fun _ _ h => h
theorem enc_take_succ {L : List VV} {j : Nat} (h : j < L.length) : enc (L.take (j + 1)) = enc (L.take j) ++ (L.getD j VV.zero).bytes := by
  rw [List.take_succ_eq_append_getElem h, enc_snoc]
  simp [h]
theorem enc_take_le (L : List VV) (j : Nat) : (enc (L.take j)).length ≤ (enc L).length := by
  have h := enc_append (L.take j) (L.drop j)
  rw [List.take_append_drop] at h
  rw [h, List.length_append]
  omega
theorem encR_many {L : List VV} (hv : L.all VV.valid = true) {j : Nat} (h : 4096 < (enc (L.take j)).length) : encR L = ([], 4) := by
  unfold encR
  rw [if_pos hv, if_neg (by have := enc_take_le L j; omega)]
theorem encR_kind {L : List VV} {j : Nat} (hj : j < L.length) (h : (L.getD j VV.zero).valid = false) : encR L = ([], 22) := by
  unfold encR
  rw [if_neg fun hv => by rw [List.all_eq_true.1 hv _ (getD_mem hj)] at h; cases h]
theorem encR_ok {L : List VV} (hv : L.all VV.valid = true) (h : (enc L).length ≤ 4096) : encR L = (enc L, 0) := by
  unfold encR
  rw [if_pos hv, if_pos h]
theorem valid_kind {v : VV} (h : v.valid = true) : 0 ≤ v.kind ∧ v.kind ≤ 5 := by
  unfold VV.valid at h
  simp only [Bool.and_eq_true, decide_eq_true_eq] at h
  exact ⟨h.1.1.1.1.1.1, h.1.1.1.1.1.2⟩
theorem valid_text {v : VV} (h : v.valid = true) : v.text.size + 2 ≤ v.bytes.length ∨ v.text.size = 0 := by
  unfold VV.valid at h
  simp only [Bool.and_eq_true, Bool.or_eq_true, decide_eq_true_eq] at h
  rcases h.2 with h5 | h0
  · left
    have := (esc_le (tl v.text)).1
    rw [tl_length] at this
    unfold VV.bytes
    simp only [h5]
    simp
    omega
  · exact .inr h0
theorem valid_all {L : List VV} (h : ∀ r, r < L.length → (L.getD r VV.zero).valid = true) : L.all VV.valid = true := by
  rw [List.all_eq_true]
  intro v hv
  obtain ⟨r, hr, rfl⟩ := List.getElem_of_mem hv
  have := h r hr
  simpa [hr] using this
theorem bytes_small {v : VV} (h : v.ok) (ht : v.text.size ≤ 4096) : v.bytes.length ≤ 8209 := by
  have := bytes_le h
  omega
set_option maxHeartbeats 1600000 in
theorem tEncode_any (w : World) (a : Option Addr) (n cap : Nat) (L : List VV) (hP : Ps w a L) (hn : n = L.length) :
    Calls Try.prog 11 #[.slice a n cap] w fun e w' => ∃ a' cap', e = .returned (.tuple #[.slice a' (encR L).1.length cap', .int .i64 (encR L).2]) ∧ Own w w' a' cap' (encR L).1 := by
  subst hn
  have hlen := hP.2.1
  have V := hide tValid_any
  have AV := hide appendValue_any
  have HP := hide hP
  have sf := st_float
  have sc := st_complex
  clear hP
  go_enter Try.func11, Try.ntmps11
  go_wp2
  go_loopw [11] (fun i wx => ∃ j : Nat, j ≤ L.length ∧ i = .int .i64 (j : Int) ∧ (Below w.heap.size w wx ∧ ∀ r, r < j → (L.getD r VV.zero).valid = true)) (fun i _ => L.length - (intOf i).toNat)
  case atStart => exact ⟨0, Nat.zero_le _, rfl, Below.refl _ _, fun r hr => by omega⟩
  case round =>
    obtain ⟨j, hj, rfl, hG⟩ := hrel
    have HG := hide hG
    clear hG
    by_cases hlt : j < L.length
    · have hi : (j : Int) < (L.length : Int) := by omega
      obtain ⟨b, off, rfl, hc⟩ := (HP.out.keep HG.out.1).at hlt
      cases hvv : (L.getD j VV.zero).valid with
      | false =>
        have HE := hide (encR_kind hlt hvv)
        generalize L.getD j VV.zero = x at *
        have VX := hide (fun W => V.out W x)
        rw [hvv] at VX
        unfold VV.pc at VX
        have HC : Hid (wr.rangeAt b (off + j * 6) [.int .i64 x.kind, .bool x.bool, .int .i64 x.int, .float .f64 x.real, .complex .f64 x.re x.im, .string x.text]) := hc
        clear hc hvv V AV
        go_wp2_with (refine wpList_load_mid rfl 48 _ rfl b _ rfl [.int .i64 x.kind, .bool x.bool, .int .i64 x.int, .float .f64 x.real, .complex .f64 x.re x.im, .string x.text] _ HC.out Try.underlying48 rfl sizeVal ?_)
        refine (VX.out _).mono ?_
        rintro e w1 ⟨rfl, o, rfl⟩
        go_wp2
        refine bodyPost_ret (v := .tuple #[.slice none 0 0, .int .i64 22]) (by simp [results, Try.results11, go_sem]) rfl ?_
        rw [HE.out]
        exact ⟨none, 0, rfl, Own.nil w ((HG.out.1.alloc HG.out.1.size _).alloc (by rw [size_alloc]; have := HG.out.1.size; omega) _)⟩
      | true =>
        have HS : Hid (∀ r, r < j + 1 → (L.getD r VV.zero).valid = true) := fun r hr => by
          by_cases e : r = j
          · rw [e]; exact hvv
          · exact HG.out.2 r (by omega)
        generalize L.getD j VV.zero = x at *
        have VX := hide (fun W => V.out W x)
        rw [hvv] at VX
        unfold VV.pc at VX
        have HC : Hid (wr.rangeAt b (off + j * 6) [.int .i64 x.kind, .bool x.bool, .int .i64 x.int, .float .f64 x.real, .complex .f64 x.re x.im, .string x.text]) := hc
        clear hc hvv V AV
        go_wp2_with (refine wpList_load_mid rfl 48 _ rfl b _ rfl [.int .i64 x.kind, .bool x.bool, .int .i64 x.int, .float .f64 x.real, .complex .f64 x.re x.im, .string x.text] _ HC.out Try.underlying48 rfl sizeVal ?_)
        refine (VX.out _).mono ?_
        rintro e w1 ⟨rfl, o, rfl⟩
        have HB := hide ((HG.out.1.alloc HG.out.1.size (.cells #[.int .i64 x.kind, .bool x.bool, .int .i64 x.int, .float .f64 x.real, .complex .f64 x.re x.im, .string x.text] 48)).alloc (by rw [size_alloc]; have := HG.out.1.size; omega) o)
        go_wp2
        go_roundw
        case rel => exact ⟨j + 1, by omega, by first | rfl | go_num, HB.out, HS.out⟩
        case measure => simp [intOf]; omega
    · obtain rfl : j = L.length := by omega
      have HV := hide (valid_all HG.out.2)
      have HB := hide HG.out.1
      have HVR := hide HG.out.2
      clear HG hlt hj
      go_wp2
      go_loopw [6, 21] (fun v i wx => ∃ (j : Nat) (m : List Nat) (aj : Option Addr) (cj : Nat), j ≤ L.length ∧ i = .int .i64 (j : Int) ∧ v = .slice aj m.length cj ∧ (Own w wx aj cj m ∧ m = enc (L.take j) ∧ m.length ≤ 4096)) (fun _ i _ => L.length - (intOf i).toNat)
      case atStart => exact ⟨0, [], none, 0, Nat.zero_le _, rfl, rfl, Own.nil w HB.out, rfl, Nat.zero_le _⟩
      case round =>
        clear HB
        obtain ⟨j, m, aj, cj, hj, rfl, rfl, hG⟩ := hrel
        have HG := hide hG
        clear hG
        by_cases hlt : j < L.length
        · have hi : (j : Int) < (L.length : Int) := by omega
          have hok := HP.out.1 _ (getD_mem hlt)
          obtain ⟨b, off, rfl, hc⟩ := (HP.out.keep HG.out.1.b).at hlt
          have hvv := HVR.out j hlt
          have HT := hide (enc_take_succ hlt)
          have HMANY := hide (fun h => encR_many HV.out (j := j + 1) h)
          generalize L.getD j VV.zero = x at *
          have HC : Hid (wr.rangeAt b (off + j * 6) [.int .i64 x.kind, .bool x.bool, .int .i64 x.int, .float .f64 x.real, .complex .f64 x.re x.im, .string x.text]) := hc
          have hvt := valid_text hvv
          have HKD := hide (valid_kind hvv)
          have HOK := hide hok
          have hm := HG.out.2.2
          by_cases ht : x.text.size ≤ 4096
          · have hti : ¬ (4096 : Int) < (x.text.size : Int) := by omega
            have hbs := bytes_small hok ht
            have HO : Hid (Own w (wr.alloc (.cells #[.int .i64 x.kind, .bool x.bool, .int .i64 x.int, .float .f64 x.real, .complex .f64 x.re x.im, .string x.text] 48)) aj cj m) := HG.out.1.keep (al _ _)
            have AX := hide (AV.out (wr.alloc (.cells #[.int .i64 x.kind, .bool x.bool, .int .i64 x.int, .float .f64 x.real, .complex .f64 x.re x.im, .string x.text] 48)) aj cj m.length m x HO.out.r hok HKD.out rfl (by omega))
            have HT2 : Hid (enc (L.take (j + 1)) = m ++ x.bytes) := by show _ = _; rw [HT.out, HG.out.2.1]
            unfold VV.pc at AX
            clear hc hvv V AV hvt hok hbs HT
            by_cases hz : (m ++ x.bytes).length ≤ 4096
            · have hzi : ¬ (4096 : Int) < ((m ++ x.bytes).length : Int) := by omega
              generalize m ++ x.bytes = Z at *
              go_wp2_with (refine wpList_load_mid rfl 48 _ rfl b _ rfl [.int .i64 x.kind, .bool x.bool, .int .i64 x.int, .float .f64 x.real, .complex .f64 x.re x.im, .string x.text] _ HC.out Try.underlying48 rfl sizeVal ?_)
              refine AX.out.mono ?_
              rintro e w1 ⟨a1, c1, rfl, h1⟩
              have H1 := hide (HO.out.step h1)
              clear h1
              go_wp2
              go_roundw
              case rel => exact ⟨j + 1, Z, a1, c1, by omega, by first | rfl | go_num, rfl, H1.out, HT2.out.symm, hz⟩
              case measure => simp [intOf]; omega
            · have hzi : (4096 : Int) < ((m ++ x.bytes).length : Int) := by omega
              have HE := hide (HMANY.out (by rw [HT2.out]; omega))
              generalize m ++ x.bytes = Z at *
              go_wp2_with (refine wpList_load_mid rfl 48 _ rfl b _ rfl [.int .i64 x.kind, .bool x.bool, .int .i64 x.int, .float .f64 x.real, .complex .f64 x.re x.im, .string x.text] _ HC.out Try.underlying48 rfl sizeVal ?_)
              refine AX.out.mono ?_
              rintro e w1 ⟨a1, c1, rfl, h1⟩
              have H1 := hide (HO.out.step h1)
              clear h1
              go_wp2
              refine bodyPost_ret (v := .tuple #[.slice none 0 0, .int .i64 4]) (by simp [results, Try.results11, go_sem]) rfl ?_
              rw [HE.out]
              exact ⟨none, 0, rfl, Own.nil w H1.out.b⟩
          · have hti : (4096 : Int) < (x.text.size : Int) := by omega
            have HE := hide (HMANY.out (by rw [HT.out, List.length_append]; omega))
            clear hc hvv V AV hvt hok HT
            go_wp2_with (refine wpList_load_mid rfl 48 _ rfl b _ rfl [.int .i64 x.kind, .bool x.bool, .int .i64 x.int, .float .f64 x.real, .complex .f64 x.re x.im, .string x.text] _ HC.out Try.underlying48 rfl sizeVal ?_)
            refine bodyPost_ret (v := .tuple #[.slice none 0 0, .int .i64 4]) (by simp [results, Try.results11, go_sem]) rfl ?_
            rw [HE.out]
            exact ⟨none, 0, rfl, Own.nil w (HG.out.1.b.alloc HG.out.1.b.size _)⟩
        · obtain rfl : j = L.length := by omega
          have hz := HG.out.2.1
          rw [List.take_length] at hz
          have HE := hide (encR_ok HV.out (by rw [← hz]; exact HG.out.2.2))
          have HZ := hide hz
          clear hz
          go_wp2
          refine bodyPost_ret (v := .tuple #[.slice aj m.length cj, .int .i64 0]) (by simp [results, Try.results11, go_sem]) rfl ?_
          rw [HE.out, ← HZ.out]
          exact ⟨aj, cj, rfl, HG.out.1⟩
end Go.Proofs.Ythfcgfdboienkab
