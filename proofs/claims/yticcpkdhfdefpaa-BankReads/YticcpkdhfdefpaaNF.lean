import Derived.Test.YticcpkdhfdefpaaNE
import Derived.Test.YticcpkdhfdefpaaNYJ
namespace Go.Proofs.Yticcpkdhfdefpaa
open Go.RowKit

/-! ### is there a count that cannot be? -/
theorem any_bad {C : List Int} {j : Nat} (hj : j < C.length) (h : badC (C.getD j 0) = true) : C.any badC = true := List.any_eq_true.2 ⟨C.getD j 0, by simp [hj], h⟩
theorem any_none {C : List Int} (h : ∀ k, k < C.length → badC (C.getD k 0) = false) : C.any badC = false := by
  refine List.any_eq_false.2 fun c hc => ?_
  obtain ⟨k, hk, rfl⟩ := List.getElem_of_mem hc
  have := h k hk
  simp only [List.getD_eq_getElem?_getD, List.getElem?_eq_getElem hk, Option.getD_some] at this
  rw [this]
  simp
def fNo : Value := .func (.func 28) #[] #[]
set_option maxRecDepth 8000 in
set_option maxHeartbeats 1600000 in
theorem IndexFunc_any (w : World) (a : Option Addr) (c : Nat) (C : List Int) (hI : Ir w a C) (hl : C.length ≤ 17592186044415) :
    Calls Try.prog 49 #[.slice a C.length c, fNo] w fun y w' => ∃ z : Int, y = .returned (.int .i64 z) ∧ decide (0 ≤ z) = C.any badC ∧ Below w.heap.size w w' := by
  have HI := hide hI
  clear hI
  unfold fNo
  go_enter Try.func49, Try.ntmps49
  go_wp2
  go_loopw [8] (fun q wx => ∃ j : Nat, j ≤ C.length ∧ q = .int .i64 j ∧ (∀ k, k < j → badC (C.getD k 0) = false) ∧ Below w.heap.size w wx) (fun q _ => C.length - (intOf q).toNat)
  case atStart => exact ⟨0, Nat.zero_le _, rfl, fun k hk => by omega, Below.refl _ _⟩
  case round =>
    obtain ⟨j, hj, rfl, hN, hB⟩ := hrel
    have HN := hide hN
    have HB := hide hB
    clear hN hB
    by_cases hlt : j < C.length
    · have hlti : (j : Int) < (C.length : Int) := by omega
      obtain ⟨b1, o1, rfl, cA⟩ := (HI.out.keep HB.out).at hlt
      have HX : Hid (C.getD j 0 = C.getD j 0) := rfl
      generalize hx : C.getD j 0 = x at *
      have HXX := hide hx
      have NB := hide fun w1 => nBad_any w1 x
      cases hb : badC x with
      | true =>
        rw [hb] at NB
        have HA := hide (any_bad hlt (by rw [hx]; exact hb))
        clear hx hb
        go_wp2_with (go_at_call 28; refine (NB.out _).mono ?_; rintro y w1 ⟨rfl, hww⟩; obtain rfl := hww.symm)
        go_ret
        exact ⟨(j : Int), rfl, by rw [HA.out]; simp, HB.out⟩
      | false =>
        rw [hb] at NB
        have HNN : Hid (∀ k, k < j + 1 → badC (C.getD k 0) = false) := by
          intro k hk
          by_cases e : k = j
          · rw [e, hx]; exact hb
          · exact HN.out k (by omega)
        clear hx hb
        go_wp2_with (go_at_call 28; refine (NB.out _).mono ?_; rintro y w1 ⟨rfl, hww⟩; obtain rfl := hww.symm)
        go_roundw
        case rel => exact ⟨j + 1, by omega, by go_num, HNN.out, HB.out⟩
        case measure => simp [intOf]; omega
    · obtain rfl : j = C.length := by omega
      have HA := hide (any_none HN.out)
      go_wp2
      go_ret
      exact ⟨-1, rfl, by rw [HA.out]; rfl, HB.out⟩
set_option maxHeartbeats 800000 in
theorem ContainsFunc_any (w : World) (a : Option Addr) (c : Nat) (C : List Int) (hI : Ir w a C) (hl : C.length ≤ 17592186044415) :
    Calls Try.prog 27 #[.slice a C.length c, fNo] w fun y w' => y = .returned (.bool (C.any badC)) ∧ Below w.heap.size w w' := by
  have IF := hide (IndexFunc_any w a c C hI hl)
  clear hI
  unfold fNo at *
  go_enter Try.func27, Try.ntmps27
  go_wp2_with fail
  refine IF.out.mono ?_
  rintro y w1 ⟨z, rfl, hz, hb⟩
  have HZ := hide hz
  have HB := hide hb
  clear hz hb
  go_wp2
  go_ret
  exact ⟨by rw [← HZ.out]; rfl, HB.out⟩

/-! ### the blocks of a bank -/
theorem Fam.grownA {w W1 W2 : World} {T : List Br} {a : Option Addr} {c : Nat} {vs : List Value} (f : Fam w W1 T) (hA : Ar W1 a c vs) (hg : W1.grownBy W2 (a.map Addr.block)) (hw : Below w.heap.size w W2) : Fam w W2 T :=
  f.but (S := fun k => a.map Addr.block = some k) ((But.refl _ W1).grown hg fun k hk _ => hk) hw fun t ht x hx e => by
    obtain ⟨y, hy, e2⟩ := map_some e
    exact (hA.ne (f.own t ht).1.r hy hx) e2
/-- a list of blocks, each in memory of its own -/
structure Lb (w W : World) (a : Option Addr) (c : Nat) (T : List Br) : Prop where
  x : Ax w W a c T
  f : Fam w W T
theorem Lb.keep {w W W' : World} {a : Option Addr} {c : Nat} {T : List Br} (h : Lb w W a c T) (hb : Below W.heap.size W W') : Lb w W' a c T := ⟨h.x.keep hb, h.f.keep hb⟩
theorem Lb.nil (w : World) {W : World} (hb : Below w.heap.size w W) : Lb w W none 0 [] := ⟨⟨Ar.nil _, New.none _ _, hb⟩, Fam.nil _ _⟩
theorem Lb.pre {w w0 W : World} {a : Option Addr} {c : Nat} {T : List Br} (hb : Below w.heap.size w w0) (h : Lb w0 W a c T) : Lb w W a c T := ⟨⟨h.x.r, h.x.n.mono hb.size, bt hb h.x.b⟩, Fam.pre hb h.f⟩
theorem Lb.step {w W W1 W2 : World} {a : Option Addr} {c c' g : Nat} {T : List Br} {t : Br} {o : Obj} (h : Lb w W a c T) (ht : Own W W1 t.a t.c t.l) (h8 : B8 t.l) (hR : Ar W2 (some ⟨g, 0, none⟩) c' (T.map bv ++ [bv t])) (hN : New (W1.alloc o) a (some ⟨g, 0, none⟩)) (hg : (W1.alloc o).grownBy W2 (a.map Addr.block)) : Lb w W2 (some ⟨g, 0, none⟩) c' (T ++ [t]) := by
  have hb : Below W.heap.size W (W1.alloc o) := bt ht.b (al _ _)
  have hx := h.x.step (U := [t]) hb (by simpa using hR) hN hg
  refine ⟨hx, ?_⟩
  have f1 : Fam W (W1.alloc o) [t] := ⟨fun s hs => by rw [List.mem_singleton.1 hs]; exact ⟨ht.keep (al _ _), h8⟩, List.pairwise_singleton _ _⟩
  exact (h.f.add f1 hb h.x.b).grownA (h.x.r.keep hb) hg hx.b
theorem bank_take (gen : Nat) (cs : List Nat) {j : Nat} (h : j < nbl cs.length) : (bank gen cs).take (j + 1) = (bank gen cs).take j ++ [bbk gen j cs.length (chunk cs j)] := by
  rw [List.take_succ_eq_append_getElem (by rw [bank_length]; exact h)]
  simp [bank]
set_option maxRecDepth 8000 in
set_option maxHeartbeats 6400000 in
theorem blocksOf_any (w : World) (gen : Nat) (a : Option Addr) (c : Nat) (C : List Int) (hI : Ir w a C) (hg : gen ≤ 1099511627776) (hl : C.length ≤ 65536) (hc : ∀ x ∈ C, 0 ≤ x ∧ x < 65536) :
    Calls Try.prog 29 #[.int .i64 (gen : Int), .slice a C.length c] w fun y w' => ∃ a' c' T, y = .returned (.slice a' (nbl C.length) c') ∧ T.map Br.l = bank gen (nats C) ∧ Lb w w' a' c' T := by
  have HI := hide hI
  have HC := hide hc
  have BL := hide fun w1 => Blocks_any w1 (C.length : Int) (by omega)
  simp only [Int.toNat_natCast] at BL
  have hnb : nbl C.length ≤ 274 := by unfold nbl; omega
  have hbl : (bank gen (nats C)).length = nbl C.length := by rw [bank_length, nats_length]
  have HCL := hide fun j => (show (chunk (nats C) j).length = cin C.length j by rw [chunk_length, nats_length])
  have HCM := hide fun j x (hx : x ∈ chunk (nats C) j) => nats_lt hc x (chunk_mem hx)
  have HTS := hide fun j (hj : j < nbl C.length) => bank_take gen (nats C) (j := j) (by rw [nats_length]; exact hj)
  rw [nats_length] at HTS
  clear hI hc
  go_enter Try.func29, Try.ntmps29
  go_wp2_with (go_at_call 8; refine (BL.out _).mono ?_; rintro y w1 ⟨rfl, hww⟩; obtain rfl := hww.symm)
  go_loopw [5, 13] (fun o q wx => ∃ (j : Nat) (aj : Option Addr) (cj : Nat) (T : List Br), j ≤ nbl C.length ∧ q = .int .i64 j ∧ o = .slice aj j cj ∧ T.map Br.l = (bank gen (nats C)).take j ∧ Lb w wx aj cj T) (fun _ q _ => nbl C.length - (intOf q).toNat)
  case atStart => exact ⟨0, none, 0, [], Nat.zero_le _, rfl, rfl, rfl, Lb.nil w (Below.refl _ _)⟩
  case round =>
    obtain ⟨j, aj, cj, T, hj, rfl, rfl, hT, hLb⟩ := hrel
    have L := hide hLb
    have HT := hide hT
    have htl : T.length = j := by have := congrArg List.length hT; rw [List.length_map, List.length_take] at this; omega
    clear hLb hT
    by_cases hlt : j < nbl C.length
    · have hlti : (j : Int) < (nbl C.length : Int) := by omega
      have CI := hide fun w1 => countsIn_any w1 C.length j hl hlt
      have HO := hide fun w1 => headOf_any w1 gen C.length j (by omega) (by omega) (by omega)
      have RO := hide fun (w1 : World) (hb : Below wr.heap.size wr w1) => rowOf_any w1 a c C (HI.out.keep (bt L.out.x.b hb)) j hlt hl HC.out
      have hcl := HCL.out j
      have hcn := cin_le C.length j
      go_wp2_with fail
      refine (wNew wr).mono ?_
      rintro y w2 ⟨rfl, hk⟩
      have K := hide hk
      clear hk
      go_wp2_with fail
      refine (wPut8 K.out (fun _ h => h.elim) 66 (by decide) (by simp)).mono ?_
      rintro y w3 ⟨rfl, hk⟩
      have K := hide hk.k
      clear hk
      go_wp2_with fail
      refine (HO.out _).mono ?_
      rintro y w4 ⟨rfl, hb4⟩
      have K := hide (K.out.keep hb4)
      clear hb4
      go_wp2_with fail
      refine (Hwrite_any wr _ _ _ _ gen j C.length K.out (fun _ h => h.elim) (by omega) (by omega) (by omega) (by simp [numB_length])).mono ?_
      rintro y w5 ⟨rfl, hk⟩
      have K := hide hk.k
      have hd : ([] ++ numB 66 1) ++ (numB gen 8 ++ (numB j 4 ++ numB C.length 4)) = hdr gen j C.length := rfl
      rw [hd] at K
      clear hk hd
      go_wp2_with fail
      refine (RO.out _ K.out.1).mono ?_
      rintro y w6 ⟨rfl, hb6⟩
      have K := hide (K.out.keep hb6)
      clear hb6
      go_wp2_with fail
      refine (CI.out _).mono ?_
      rintro y w7 ⟨rfl, hww⟩
      obtain rfl := hww.symm
      clear hww
      go_wp2_with fail
      refine (Rwrite_any wr _ _ _ _ (chunk (nats C) j) _ K.out (fun _ h => h.elim) hcl.symm (by omega) (HCM.out j) (by rw [hdr_length]; omega)).mono ?_
      rintro y w8 ⟨rfl, hk⟩
      have K := hide hk.k
      clear hk
      have hd : hdr gen j C.length ++ cB (chunk (nats C) j) = bod gen j C.length (chunk (nats C) j) := rfl
      rw [hd] at K
      clear hd
      go_wp2_with fail
      refine (Close_any wr _ _ _ _ K.out (fun _ h => h.elim) (by rw [bod_length]; omega)).mono ?_
      rintro y w9 ⟨a9, c9, rfl, hr9, hn9, hk⟩
      have O9 : Hid (Own wr w9 a9 c9 (bbk gen j C.length (chunk (nats C) j))) := ⟨hr9, hn9.mono K.out.1.size, hk.k.1⟩
      clear hr9 hn9 hk K
      have hbl9 : (bbk gen j C.length (chunk (nats C) j)).length = 512 := bbk_length (by omega)
      go_wp2_with (at_builtin; refine wpList_apRows rfl _ _ rfl aj j cj (T.map bv) ?r1 (by rw [List.length_map, htl]) (L.out.x.r.keep (bt O9.out.b (al _ _))) ⟨w9.heap.size, 0, none⟩ 1 (.slice a9 512 c9) ?r2 ?r3 rfl (by rw [List.length_map]; omega) ?_)
      try case r1 => rfl
      try case r2 => rfl
      try case r3 => simp
      intro g c2 wz hR hN hg
      have L2 := hide (L.out.step (t := ⟨a9, c9, bbk gen j C.length (chunk (nats C) j)⟩) O9.out (bbk_b8 _ _ _ _) (by unfold bv; dsimp only; rw [hbl9]; exact hR) hN hg)
      clear hR hN hg
      go_wp2
      go_roundw
      case rel => exact ⟨j + 1, _, c2, _, by omega, by go_num, rfl, by rw [List.map_append, HT.out, HTS.out j hlt]; rfl, L2.out⟩
      case measure => simp [intOf]; omega
    · obtain rfl : j = nbl C.length := by omega
      rw [List.take_of_length_le (by omega)] at HT
      go_wp2
      go_ret
      exact ⟨aj, cj, T, rfl, HT.out, L.out⟩
end Go.Proofs.Yticcpkdhfdefpaa
