import Derived.Test.YticcpkdhfdefpaaNT
import Derived.Test.YticcpkdhfdefpaaNYK
namespace Go.Proofs.Yticcpkdhfdefpaa
open Go.RowKit

def tA (T : List Br) (i : Nat) : Option Addr := (T.getD i Br0).a
def tC (T : List Br) (i : Nat) : Nat := (T.getD i Br0).c
def tL (T : List Br) (i : Nat) : List Nat := (T.getD i Br0).l
theorem t_mem {T : List Br} {i : Nat} (h : i < T.length) : T.getD i Br0 ∈ T := by simp [h]
theorem Fam.rowsG {w W : World} {T : List Br} (h : Fam w W T) : RowsG W T.length (tA T) (tC T) (tL T) := fun _ hi => (h.own _ (t_mem hi)).1.r
theorem Fam.distG {w W : World} {T : List Br} (h : Fam w W T) : Dist T.length (tA T) := by
  intro i j hi hj hne x y hx hy
  have hp := List.pairwise_iff_getElem.1 h.dist
  have ei : T.getD i Br0 = T[i] := by simp [hi]
  have ej : T.getD j Br0 = T[j] := by simp [hj]
  unfold tA at hx hy
  rw [ei] at hx
  rw [ej] at hy
  rcases Nat.lt_or_gt_of_ne hne with h1 | h1
  · exact hp i j hi hj h1 x y hx hy
  · exact fun e => hp j i hj hi h1 y x hy hx e.symm
theorem bv_get (T : List Br) {i : Nat} (hi : i < T.length) : (T.map bv)[i]? = some (.slice (tA T i) (tL T i).length (tC T i)) := by
  simp [hi, bv, tA, tL, tC]
theorem rows_val (T : List Br) : T.map bv = (List.range T.length).map (fun i => Value.slice (tA T i) (tL T i).length (tC T i)) := by
  apply List.ext_getElem?
  intro i
  by_cases hi : i < T.length
  · rw [bv_get _ hi]; simp only [List.getElem?_map, List.getElem?_range hi, Option.map_some]
  · rw [List.getElem?_eq_none (by rw [List.length_map]; omega), List.getElem?_eq_none (by rw [List.length_map, List.length_range]; omega)]
/-- carried over what changes older blocks -/
theorem Fam.but2 {S : Nat → Prop} {B0 w W W' : World} {T : List Br} (h : Fam B0 W T) (hp : Below w.heap.size w B0) (hb : But S W W') (hs : ∀ k, S k → k < B0.heap.size) (hw : Below w.heap.size w W') : Fam w W' T :=
  ⟨fun t ht => by
    obtain ⟨o1, o2⟩ := h.own t ht
    exact ⟨⟨o1.r.but hb fun x hx e => by have := o1.fresh hx; have := hs _ e; omega, o1.n.mono hp.size, hw⟩, o2⟩, h.dist⟩
theorem Apart_fam (w B0 : World) (T : List Br) (a : Option Addr) (ct : Nat) (hf : Fam B0 w T) (hw : Below B0.heap.size B0 w) (hA : Ar w a ct (T.map bv)) (hn : T.length ≤ 2932031007410) (hl : ∀ t ∈ T, t.l.length ≤ 1048577) :
    Calls Try.prog 15 #[.slice a T.length ct] w fun x w' => x = .returned (.bool true) ∧ Below B0.heap.size B0 w' := by
  rw [rows_val] at hA
  refine (Apart_some w _ ct _ _ _ _ hA hf.rowsG hf.distG (by omega) fun i hi => ?_).mono ?_
  · have := hl _ (t_mem hi)
    unfold tL
    omega
  · rintro x w' ⟨rfl, hbut⟩
    refine ⟨rfl, ((But.ofBelow (S := InRows T.length (tA T)) hw).trans hbut fun _ _ e => e).below fun k hk ⟨i, hi, y, hy, e⟩ => ?_⟩
    have := (hf.own _ (t_mem hi)).1.fresh hy
    omega
theorem Lb.but2 {S : Nat → Prop} {B0 w W W' : World} {a : Option Addr} {c : Nat} {T : List Br} (h : Lb B0 W a c T) (hp : Below w.heap.size w B0) (hb : But S W W') (hs : ∀ k, S k → k < B0.heap.size) (hw : Below w.heap.size w W') : Lb w W' a c T :=
  ⟨⟨h.x.r.but hb fun x hx hS => by have h1 := new_at h.x.n hx; have h2 := hs _ hS; omega, h.x.n.mono hp.size, hw⟩, h.f.but2 hp hb hs hw⟩
theorem enL_length (gen : Int) (C : List Int) : (enL gen C).length ≤ 274 := by
  by_cases h : enE gen C = 0
  · rw [bank_eqL h, bank_length, nats_length]
    have := (enE_zero.1 h).2.1
    unfold nbl
    omega
  · rw [none_eqL h]; simp
theorem enL_one {gen : Int} {C : List Int} : ∀ b ∈ enL gen C, b.length = 512 := by
  intro b hb
  by_cases h : enE gen C = 0
  · rw [bank_eqL h] at hb; exact (bank_one b hb).1
  · rw [none_eqL h] at hb; cases hb
theorem rows_len {T : List Br} {gen : Int} {C : List Int} (h : T.map Br.l = enL gen C) : T.length ≤ 274 ∧ ∀ t ∈ T, t.l.length ≤ 1048577 := by
  constructor
  · have := congrArg List.length h
    rw [List.length_map] at this
    have := enL_length gen C
    omega
  · intro t ht
    have := enL_one (gen := gen) (C := C) t.l (by rw [← h]; exact List.mem_map_of_mem ht)
    omega
def ones (n : Nat) : List Int := List.replicate n 1
theorem ones_length (n : Nat) : (ones n).length = n := by simp [ones]
theorem ones_ir {w : World} {g n N : Nat} {C : List Int} (h : w.rowIs g 3 N (fun i => if i < n then .int .i64 1 else spI C i)) (hn : n ≤ N) : Ir w (some ⟨g, 0, none⟩) (ones n) :=
  .inr ⟨g, 0, rfl, fun i hi => by
    rw [ones_length] at hi
    have := h.cell (i := i) (by omega)
    rw [if_pos hi] at this
    rw [Nat.zero_add, this]
    simp [ones, hi]⟩
theorem take_br (T : List Br) {j : Nat} (h : j < T.length) : T.take (j + 1) = T.take j ++ [T.getD j Br0] := by
  rw [List.take_succ_eq_append_getElem h]; simp [h]
set_option maxRecDepth 8000 in
set_option maxHeartbeats 12800000 in
theorem bankWrites_any (W : World) (n0 : Int) (_ : N64 n0) (a : Option Addr) (c : Nat) (C : List Int) (hI : Ir W a C) (_ : ∀ x ∈ C, N64 x) (hl : C.length ≤ 17592186043904) (n2 : Int) (h2 : N64 n2) :
    Calls Try.prog 3 #[.int .i64 n0, .slice a C.length c, .int .i64 n2] W fun e w' => e = .returned (.bool true) ∧ Below W.heap.size W w' := by
  have WK := hide (works_any W)
  have B1 := hide fun w1 => Blocks_any w1 n2 h2.2
  have B2 := hide fun w1 => mBlocks_any w1 n2 h2.2
  have B3 := hide fun w1 => Blocks_any w1 (C.length : Int) (by omega)
  have B4 := hide fun w1 => mBlocks_any w1 (C.length : Int) (by omega)
  have HI := hide hI
  have SP := hide fun (w1 : World) (hb : Below W.heap.size W w1) => SpareInts_any w1 a C.length c C (hI.keep hb) rfl (by omega)
  have KP := hide fun (w1 : World) (hb : Below W.heap.size W w1) (g : Nat) (hR : w1.rowIs g 3 (C.length + 64) (spI C)) => KeptInts_any w1 g (C.length + 64) a C.length C.length c C hR (hI.keep hb) rfl rfl rfl (by omega)
  generalize nbl n2.toNat = N2 at *
  generalize nbl ((C.length : Int)).toNat = N3 at *
  clear hI h2
  go_enter Try.func3, Try.ntmps3
  go_wp2_with fail
  refine WK.out.mono ?_
  rintro y w1 ⟨rfl, hb1⟩
  have T1 := hide hb1
  clear hb1 WK
  go_wp2_with (first | (go_at_call 8; first | (refine (B1.out _).mono ?_; rintro y wq ⟨rfl, hww⟩; obtain rfl := hww.symm) | (refine (B3.out _).mono ?_; rintro y wq ⟨rfl, hww⟩; obtain rfl := hww.symm)) | (go_at_call 9; first | (refine (B2.out _).mono ?_; rintro y wq ⟨rfl, hww⟩; obtain rfl := hww.symm) | (refine (B4.out _).mono ?_; rintro y wq ⟨rfl, hww⟩; obtain rfl := hww.symm)))
  refine (SP.out _ T1.out).mono ?_
  rintro y w2 ⟨rfl, hR2, hb2⟩
  have R2 := hide hR2
  have BB2 := hide hb2
  have T2 := hide (bt T1.out hb2)
  have hg2 : Hid (w1.heap.size < w2.heap.size) := hR2.lt
  clear hR2 hb2 SP B1 B2 B3 B4
  have EN1 := hide (Encode_any w2 n0 (some ⟨w1.heap.size, 0, none⟩) (C.length + 64) C (spare_ir R2.out (by omega)) (by omega))
  go_wp2_with fail
  refine EN1.out.mono ?_
  rintro y w3 ⟨a3, c3, TA, rfl, hTA, hLA⟩
  have HTA := hide hTA
  have LA := hide hLA
  have T3 := hide (bt T2.out hLA.x.b)
  have R3 := hide (rowIs_below R2.out hLA.x.b)
  have BB3 := hide (bt BB2.out hLA.x.b)
  have S3 : Hid (w1.heap.size < w3.heap.size) := Nat.lt_of_lt_of_le hg2.out hLA.x.b.size
  clear hTA hLA EN1
  have EN2 := hide (mEncode_any w3 n0 a c C (HI.out.keep T3.out) (by omega))
  go_wp2_with fail
  refine EN2.out.mono ?_
  rintro y w4 ⟨a4, c4, UA, rfl, hUA, hLB⟩
  have HUA := hide hUA
  have LU := hide hLB
  have T4 := hide (bt T3.out hLB.x.b)
  have R4 := hide (rowIs_below R3.out hLB.x.b)
  have LA := hide (LA.out.keep hLB.x.b)
  clear hUA hLB EN2
  have hq0 : (((enE n0 C : Nat) : Int) == ((enE n0 C : Nat) : Int)) = true := by simp
  generalize enE n0 C = E1 at *
  have hta := (rows_len HTA.out).1
  have htu := (rows_len HUA.out).1
  go_wp2_with fail
  refine (EqRows_same w4 a3 a4 _ _ c3 c4 TA UA LA.out.bl LU.out.bl (by rw [HTA.out, HUA.out]) rfl rfl (by omega)).mono ?_
  rintro y w5 ⟨rfl, hb5⟩
  have T5 := hide (bt T4.out hb5)
  have LA := hide (LA.out.keep hb5)
  have LU := hide (LU.out.keep hb5)
  have R5 := hide (rowIs_below R4.out hb5)
  clear hb5
  go_wp2_with fail
  refine (KP.out _ T5.out w1.heap.size R5.out).mono ?_
  rintro y w6 ⟨rfl, hb6⟩
  have T6 := hide (bt T5.out hb6)
  have LA := hide (LA.out.keep hb6)
  have LU := hide (LU.out.keep hb6)
  have R6 := hide (rowIs_below R5.out hb6)
  have TT6 := hide (bt BB2.out (bt LA.out.x.b (Below.refl _ _)))
  clear hb6 KP
  go_wp2
  go_loopw [12] (fun q wx => ∃ j : Nat, j ≤ C.length ∧ q = .int .i64 j ∧ wx.rowIs w1.heap.size 3 (C.length + 64) (fun i => if i < j then .int .i64 1 else spI C i) ∧ But (fun k => k = w1.heap.size) w6 wx) (fun q _ => C.length - (intOf q).toNat)
  case atStart => exact ⟨0, Nat.zero_le _, rfl, R6.out.congr fun i _ => by simp, But.refl _ _⟩
  case round =>
    obtain ⟨j, hj, rfl, hR, hB⟩ := hrel
    have R := hide hR
    have B := hide hB
    clear hR hB
    by_cases hlt : j < C.length
    · have hlti : (j : Int) < (C.length : Int) := by omega
      have cg := R.out.cell (i := j) (by omega)
      have fg := R.out.frozen j
      rw [if_neg (Nat.lt_irrefl j)] at cg
      have RN := hide ((R.out.set j (.int .i64 1)).congr (f := _) (g := fun i => if i < j + 1 then Value.int .i64 1 else spI C i) fun i hi => by
        by_cases e : i = j
        · subst e; rw [if_pos rfl, if_pos (by omega)]
        · rw [if_neg e]
          by_cases e2 : i < j
          · rw [if_pos e2, if_pos (by omega)]
          · rw [if_neg e2, if_neg (by omega)])
      have BN := hide (B.out.setCell (p := ⟨w1.heap.size, j, none⟩) (fun _ => rfl) (.int .i64 1))
      generalize spI C j = sv at *
      go_wp2
      go_roundw
      case rel => exact ⟨j + 1, by omega, by go_num, RN.out, BN.out⟩
      case measure => simp [intOf]; omega
    · obtain rfl : j = C.length := by omega
      have hgB : w1.heap.size < w2.heap.size := hg2.out
      have T7 : Hid (Below w1.heap.size w1 wr) := ((But.ofBelow (S := fun _ => False) TT6.out).trans B.out fun x hx e => by omega).below fun _ _ h => h
      have TW := hide (bt T1.out T7.out)
      have LU := hide (LU.out.but2 BB3.out B.out (fun k hk => by have := S3.out; omega) T7.out)
      have LA := hide (LA.out.but2 BB2.out B.out (fun k hk => by omega) T7.out)
      have OI := hide (ones_ir R.out (by omega))
      have LW := hide LA.out.f
      have EN3 := hide (Encode_any wr n0 (some ⟨w1.heap.size, 0, none⟩) (C.length + 64) (ones C.length) OI.out (by rw [ones_length]; omega))
      rw [ones_length] at EN3
      clear hta htu hq0 R TT6 R6 R5 R4 R3 R2
      go_wp2_with fail
      refine EN3.out.mono ?_
      rintro y w7 ⟨a7, c7, TB, rfl, hTB, hLB⟩
      have HTB := hide hTB
      have LB := hide hLB
      have LA := hide (LA.out.keep hLB.x.b)
      have LU := hide (LU.out.keep hLB.x.b)
      have OI := hide (OI.out.keep hLB.x.b)
      have TW7 := hide (bt TW.out hLB.x.b)
      clear hTB hLB EN3
      have EN4 := hide (mEncode_any w7 n0 (some ⟨w1.heap.size, 0, none⟩) (C.length + 64) (ones C.length) OI.out (by rw [ones_length]; omega))
      rw [ones_length] at EN4
      go_wp2_with fail
      refine EN4.out.mono ?_
      rintro y w8 ⟨a8, c8, UB, rfl, hUB, hLB⟩
      have HUB := hide hUB
      have LV := hide hLB
      have LA := hide (LA.out.keep hLB.x.b)
      have LU := hide (LU.out.keep hLB.x.b)
      have LB := hide (LB.out.keep hLB.x.b)
      have TW8 := hide (bt TW7.out hLB.x.b)
      clear hUB hLB EN4
      have hq0 : (((enE n0 (ones C.length) : Nat) : Int) == ((enE n0 (ones C.length) : Nat) : Int)) = true := by simp
      generalize enE n0 (ones C.length) = E2 at *
      have ra := rows_len HTA.out
      have rb := rows_len HTB.out
      have RA := hide ra.2
      have RB := hide rb.2
      have hta := ra.1
      have htb := rb.1
      clear ra rb
      go_wp2_with fail
      refine (EqRows_same w8 a7 a8 _ _ c7 c8 TB UB LB.out.bl LV.out.bl (by rw [HTB.out, HUB.out]) rfl rfl (by omega)).mono ?_
      rintro y w9 ⟨rfl, hb9⟩
      have TW9 := hide (bt TW8.out hb9)
      have LA := hide (LA.out.keep hb9)
      have LU := hide (LU.out.keep hb9)
      have LB := hide (LB.out.keep hb9)
      clear hb9 LV
      go_wp2_with fail
      refine (EqRows_same w9 a3 a4 _ _ c3 c4 TA UA LA.out.bl LU.out.bl (by rw [HTA.out, HUA.out]) rfl rfl (by omega)).mono ?_
      rintro y wz ⟨rfl, hbz⟩
      have TWZ := hide (bt TW9.out hbz)
      have LA := hide (LA.out.keep hbz)
      have LB := hide (LB.out.keep hbz)
      have FM := hide (show Fam w1 wz (TA ++ TB) from by
        refine ⟨fun t ht => ?_, List.pairwise_append.2 ⟨LA.out.f.dist, LB.out.f.dist, fun s hs t ht x y hx hy e => ?_⟩⟩
        · rcases List.mem_append.1 ht with h | h
          · exact LA.out.f.own t h
          · exact ⟨Own.pre T7.out (LB.out.f.own t h).1, (LB.out.f.own t h).2⟩
        · have h1 := (LW.out.own s hs).1.r.lt hx
          have h2 := (LB.out.f.own t ht).1.fresh hy
          omega)
      have TZ1 := hide (bt T7.out (bt (LB.out.x.b) (Below.refl _ _)))
      clear hbz LU HTA HTB HUA HUB OI
      go_wp2
      go_loopw [17, 18] (fun o q wx => ∃ (j : Nat) (aj : Option Addr) (cj : Nat), j ≤ TA.length ∧ q = .int .i64 j ∧ o = .slice aj j cj ∧ Ax wz wx aj cj (TA.take j)) (fun _ q _ => TA.length - (intOf q).toNat)
      case atStart => exact ⟨0, none, 0, Nat.zero_le _, rfl, rfl, ⟨Ar.nil _, New.none _ _, Below.refl _ _⟩⟩
      case round =>
        obtain ⟨j, aj, cj, hj, rfl, rfl, hA⟩ := hrel
        have A := hide hA
        clear hA
        by_cases hlt : j < TA.length
        · have hlti : (j : Int) < (TA.length : Int) := by omega
          obtain ⟨b1, o1, rfl, cA⟩ := (LA.out.bl.keep A.out.b).c j hlt
          have TS := hide (take_br TA hlt)
          have htl : (TA.take j).length = j := by rw [List.length_take]; omega
          unfold bv at cA
          generalize TA.getD j Br0 = t at *
          go_wp2_with (at_builtin; refine wpList_apRows rfl _ _ rfl aj j cj ((TA.take j).map bv) ?r1 (by rw [List.length_map, htl]) (A.out.r.keep (al _ _)) ⟨wr.heap.size, 0, none⟩ 1 (.slice t.a t.l.length t.c) ?r2 ?r3 rfl (by rw [List.length_map]; omega) ?_)
          try case r1 => rfl
          try case r2 => rfl
          try case r3 => simp
          intro g9 c9 w11 hR hN hg
          have A2 := hide (A.out.step (U := [t]) (al _ _) (by simpa [bv] using hR) hN hg)
          clear hR hN hg
          go_wp2
          go_roundw
          case rel => exact ⟨j + 1, _, c9, by omega, by go_num, rfl, by rw [TS.out]; exact A2.out⟩
          case measure => simp [intOf]; omega
        · obtain rfl : j = TA.length := by omega
          rw [List.take_length] at A
          go_wp2
          go_loopw [17, 19] (fun o q wx => ∃ (j : Nat) (aj : Option Addr) (cj : Nat), j ≤ TB.length ∧ q = .int .i64 j ∧ o = .slice aj (TA.length + j) cj ∧ Ax wz wx aj cj (TA ++ TB.take j)) (fun _ q _ => TB.length - (intOf q).toNat)
          case atStart => exact ⟨0, aj, cj, Nat.zero_le _, rfl, rfl, by simpa using A.out⟩
          case round =>
            obtain ⟨j, ak, ck, hj, rfl, rfl, hA⟩ := hrel
            have A := hide hA
            clear hA
            by_cases hlt : j < TB.length
            · have hlti : (j : Int) < (TB.length : Int) := by omega
              obtain ⟨b1, o1, rfl, cA⟩ := (LB.out.bl.keep A.out.b).c j hlt
              have TS := hide (take_br TB hlt)
              have htl : (TA ++ TB.take j).length = TA.length + j := by rw [List.length_append, List.length_take]; omega
              unfold bv at cA
              generalize TB.getD j Br0 = t at *
              go_wp2_with (at_builtin; refine wpList_apRows rfl _ _ rfl ak (TA.length + j) ck ((TA ++ TB.take j).map bv) ?r1 (by rw [List.length_map, htl]) (A.out.r.keep (al _ _)) ⟨wr.heap.size, 0, none⟩ 1 (.slice t.a t.l.length t.c) ?r2 ?r3 rfl (by rw [List.length_map]; omega) ?_)
              try case r1 => rfl
              try case r2 => rfl
              try case r3 => simp
              intro g9 c9 w11 hR hN hg
              have A2 := hide (A.out.step (U := [t]) (al _ _) (by simpa [bv] using hR) hN hg)
              rw [List.append_assoc, ← TS.out] at A2
              clear hR hN hg
              go_wp2
              go_roundw
              case rel => exact ⟨j + 1, _, c9, by omega, by go_num, by rw [Nat.add_assoc], A2.out⟩
              case measure => simp [intOf]; omega
            · obtain rfl : j = TB.length := by omega
              rw [List.take_length] at A
              have AP := hide (Apart_fam wr w1 (TA ++ TB) ak ck (FM.out.keep A.out.b) (bt TZ1.out A.out.b) A.out.r (by rw [List.length_append]; omega) (fun t ht => (List.mem_append.1 ht).elim (RA.out t) (RB.out t)))
              rw [List.length_append] at AP
              go_wp2_with fail
              refine AP.out.mono ?_
              rintro y wy ⟨rfl, hby⟩
              have TY := hide (bt T1.out hby)
              clear hby
              go_wp2
              go_ret
              exact ⟨rfl, TY.out⟩
end Go.Proofs.Yticcpkdhfdefpaa
