import Derived.Test.YthfcgfdboienkaaXA
namespace Go.Proofs.Ythfcgfdboienkaa
open Go.RowKit

set_option maxHeartbeats 1600000 in
theorem dEncode_any (w : World) (a : Option Addr) (n cap : Nat) (L : List VV) (hP : Rs w a L) (hT : ∀ v ∈ L, v.text.size ≤ 1048576) (hn : n = L.length) :
    Calls Try.prog 20 #[.slice a n cap] w fun e w' => ∃ a' cap', e = .returned (.tuple #[.slice a' (encR L).1.length cap', .int .i64 (encR L).2]) ∧ Own w w' a' cap' (encR L).1 := by
  subst hn
  have hlen := hP.2.1
  have V := hide dValid_any
  have AV := hide dput_any
  have HP := hide hP
  have HT := hide hT
  clear hP hT
  go_enter Try.func20, Try.ntmps20
  go_wp2
  go_loopw [4] (fun i wx => ∃ j : Nat, j ≤ L.length ∧ i = .int .i64 (j : Int) ∧ (Below w.heap.size w wx ∧ ∀ r, r < j → (L.getD r VV.zero).valid = true)) (fun i _ => L.length - (intOf i).toNat)
  case atStart => exact ⟨0, Nat.zero_le _, rfl, Below.refl _ _, fun r hr => by omega⟩
  case round =>
    obtain ⟨j, hj, rfl, hG⟩ := hrel
    have HG := hide hG
    clear hG
    by_cases hlt : j < L.length
    · have hi : (j : Int) < (L.length : Int) := by omega
      obtain ⟨b, off, rfl, hc⟩ := (HP.out.keep HG.out.1).at hlt
      cases hvv : (L.getD j VV.zero).valid with
      | false =>
        have HE := hide (encR_kind hlt hvv)
        generalize L.getD j VV.zero = x at *
        have VX := hide (fun W => V.out W x)
        rw [hvv] at VX
        have HC := hide hc
        clear hc hvv V AV
        go_wp2_with (refine wpList_load_mid rfl 30 _ rfl b _ rfl x.rc.toList _ HC.out Try.underlying30 rfl sizeV ?_)
        refine (VX.out _).mono ?_
        rintro e w1 ⟨rfl, o, rfl⟩
        go_wp2
        refine bodyPost_ret (v := .tuple #[.slice none 0 0, .int .i64 22]) (by simp [results, Try.results20, go_sem]) rfl ?_
        rw [HE.out]
        exact ⟨none, 0, rfl, Own.nil w (HG.out.1.alloc HG.out.1.size _)⟩
      | true =>
        have HS : Hid (∀ r, r < j + 1 → (L.getD r VV.zero).valid = true) := fun r hr => by
          by_cases e : r = j
          · rw [e]; exact hvv
          · exact HG.out.2 r (by omega)
        generalize L.getD j VV.zero = x at *
        have VX := hide (fun W => V.out W x)
        rw [hvv] at VX
        have HC := hide hc
        clear hc hvv V AV
        go_wp2_with (refine wpList_load_mid rfl 30 _ rfl b _ rfl x.rc.toList _ HC.out Try.underlying30 rfl sizeV ?_)
        refine (VX.out _).mono ?_
        rintro e w1 ⟨rfl, o, rfl⟩
        have HB := hide (HG.out.1.alloc HG.out.1.size o)
        go_wp2
        go_roundw
        case rel => exact ⟨j + 1, by omega, by first | rfl | go_num, HB.out, HS.out⟩
        case measure => simp [intOf]; omega
    · obtain rfl : j = L.length := by omega
      have HV := hide (valid_all HG.out.2)
      have HB := hide HG.out.1
      have HVR := hide HG.out.2
      clear HG hlt hj
      go_wp2
      go_loopw [5, 6] (fun v i wx => ∃ (j : Nat) (m : List Nat) (aj : Option Addr) (cj : Nat), j ≤ L.length ∧ i = .int .i64 (j : Int) ∧ v = .slice aj m.length cj ∧ (Own w wx aj cj m ∧ m = enc (L.take j) ∧ m.length ≤ 4096)) (fun _ i _ => L.length - (intOf i).toNat)
      case atStart => exact ⟨0, [], none, 0, Nat.zero_le _, rfl, rfl, Own.nil w HB.out, rfl, Nat.zero_le _⟩
      case round =>
        clear HB
        obtain ⟨j, m, aj, cj, hj, rfl, rfl, hG⟩ := hrel
        have HG := hide hG
        clear hG
        by_cases hlt : j < L.length
        · have hi : (j : Int) < (L.length : Int) := by omega
          have hok := HP.out.1 _ (getD_mem hlt)
          have ht := HT.out _ (getD_mem hlt)
          obtain ⟨b, off, rfl, hc⟩ := (HP.out.keep HG.out.1.b).at hlt
          have hvv := HVR.out j hlt
          have HTK := hide (enc_take_succ hlt)
          have HMANY := hide (fun h => encR_many HV.out (j := j + 1) h)
          generalize L.getD j VV.zero = x at *
          have HC := hide hc
          have hm := HG.out.2.2
          have hbs := bytes_le hok
          have AX := hide (AV.out wr aj cj m.length m x HG.out.1.r hok rfl (by omega))
          have HT2 : Hid (enc (L.take (j + 1)) = m ++ x.bytes) := by show _ = _; rw [HTK.out, HG.out.2.1]
          clear hc hvv V AV hok hbs HTK ht
          by_cases hz : (m ++ x.bytes).length ≤ 4096
          · have hzi : ¬ (4096 : Int) < ((m ++ x.bytes).length : Int) := by omega
            generalize m ++ x.bytes = Z at *
            go_wp2_with (refine wpList_load_mid rfl 30 _ rfl b _ rfl x.rc.toList _ HC.out Try.underlying30 rfl sizeV ?_)
            refine AX.out.mono ?_
            rintro e w1 ⟨a1, c1, rfl, h1⟩
            have H1 := hide (HG.out.1.step h1)
            clear h1
            go_wp2
            go_roundw
            case rel => exact ⟨j + 1, Z, a1, c1, by omega, by first | rfl | go_num, rfl, H1.out, HT2.out.symm, hz⟩
            case measure => simp [intOf]; omega
          · have hzi : (4096 : Int) < ((m ++ x.bytes).length : Int) := by omega
            have HE := hide (HMANY.out (by rw [HT2.out]; omega))
            generalize m ++ x.bytes = Z at *
            go_wp2_with (refine wpList_load_mid rfl 30 _ rfl b _ rfl x.rc.toList _ HC.out Try.underlying30 rfl sizeV ?_)
            refine AX.out.mono ?_
            rintro e w1 ⟨a1, c1, rfl, h1⟩
            have H1 := hide (HG.out.1.step h1)
            clear h1
            go_wp2
            refine bodyPost_ret (v := .tuple #[.slice none 0 0, .int .i64 4]) (by simp [results, Try.results20, go_sem]) rfl ?_
            rw [HE.out]
            exact ⟨none, 0, rfl, Own.nil w H1.out.b⟩
        · obtain rfl : j = L.length := by omega
          have hz := HG.out.2.1
          rw [List.take_length] at hz
          have HE := hide (encR_ok HV.out (by rw [← hz]; exact HG.out.2.2))
          have HZ := hide hz
          clear hz
          go_wp2
          refine bodyPost_ret (v := .tuple #[.slice aj m.length cj, .int .i64 0]) (by simp [results, Try.results20, go_sem]) rfl ?_
          rw [HE.out, ← HZ.out]
          exact ⟨aj, cj, rfl, HG.out.1⟩
end Go.Proofs.Ythfcgfdboienkaa
