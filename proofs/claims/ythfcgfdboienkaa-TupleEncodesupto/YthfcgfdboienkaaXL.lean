import Derived.Test.YthfcgfdboienkaaXK
namespace Go.Proofs.Ythfcgfdboienkaa
open Go.RowKit

theorem decF_nil (f : Nat) : decF f [] = ([], 0) := by
  cases f with
  | zero => rfl
  | succ f => unfold decF; rw [if_pos rfl]
theorem decF_fuel : ∀ (n : Nat) (b : List Nat), b.length ≤ n → ∀ f, b.length ≤ f → decF f b = decF n b := by
  intro n
  induction n with
  | zero =>
    intro b hb f hf
    have : b = [] := List.length_eq_zero_iff.1 (by omega)
    subst this
    rw [decF_nil, decF_nil]
  | succ n ih =>
    intro b hb f hf
    by_cases h0 : b = []
    · subst h0; rw [decF_nil, decF_nil]
    · have hp : 0 < b.length := List.length_pos_iff.2 h0
      obtain ⟨f, rfl⟩ : ∃ g, f = g + 1 := ⟨f - 1, by omega⟩
      unfold decF
      by_cases hv : vlen b = 0
      · simp [h0, hv]
      · have e := ih (b.drop (vlen b)) (by rw [List.length_drop]; omega) f (by rw [List.length_drop]; omega)
        rw [e]
def dec (b : List Nat) : List VV × Int := decF b.length b
theorem dec_step {b : List Nat} (h0 : b ≠ []) : dec b = if (readR b).2.2 ≠ 0 then ([], (readR b).2.2) else if (dec (b.drop (readR b).2.1)).2 ≠ 0 then ([], (dec (b.drop (readR b).2.1)).2) else ((readR b).1 :: (dec (b.drop (readR b).2.1)).1, 0) := by
  have hp : 0 < b.length := List.length_pos_iff.2 h0
  unfold dec
  obtain ⟨f, hf⟩ : ∃ f, b.length = f + 1 := ⟨b.length - 1, by omega⟩
  conv => lhs; rw [hf]; unfold decF
  rw [if_neg h0]
  unfold readR
  by_cases h1 : vlen b = 0
  · simp [h1]
  · rw [if_neg h1, if_neg h1]
    by_cases h2 : b.length < vlen b
    · simp [h2]
    · rw [if_neg h2, if_neg h2]
      by_cases h3 : (vget (b.take (vlen b))).bytes ≠ b.take (vlen b)
      · rw [if_pos h3, if_pos h3]; simp
      · rw [if_neg h3, if_neg h3]
        have e := decF_fuel f (b.drop (vlen b)) (by rw [List.length_drop]; omega) (b.drop (vlen b)).length (Nat.le_refl _)
        dsimp only
        rw [e]
        simp
/-- what Decode answers, a part of it read -/
def decA (acc : List VV) (b : List Nat) : List VV × Int := if (dec b).2 ≠ 0 then ([], (dec b).2) else (acc ++ (dec b).1, 0)
theorem decA_nil (acc : List VV) : decA acc [] = (acc, 0) := by unfold decA dec; rw [decF_nil]; simp
theorem decA_start (b : List Nat) (h : b.length ≤ 4096) : decR b = decA [] b := by
  unfold decR decA
  rw [if_neg (by omega)]
  have herr : (dec b).2 ≠ 0 → (dec b).1 = [] := by
    intro hh
    by_cases h0 : b = []
    · subst h0; exact absurd (by unfold dec; rw [decF_nil]) hh
    · rw [dec_step h0] at hh ⊢
      split
      · rfl
      · split
        · rfl
        · rename_i h1 h2
          rw [if_neg h1, if_neg h2] at hh
          exact absurd rfl hh
  show dec b = _
  split
  · rename_i hh
    rw [← herr hh]
  · rename_i hh
    have h2 : (dec b).2 = 0 := by simpa using hh
    rw [List.nil_append, ← h2]
theorem decA_bad {acc : List VV} {b : List Nat} (h0 : b ≠ []) (h : (readR b).2.2 ≠ 0) : decA acc b = ([], (readR b).2.2) := by
  unfold decA
  rw [dec_step h0, if_pos h]
  exact if_pos h
theorem decA_good {acc : List VV} {b : List Nat} (h0 : b ≠ []) (h : (readR b).2.2 = 0) : decA acc b = decA (acc ++ [(readR b).1]) (b.drop (readR b).2.1) := by
  have e : dec b = if (dec (b.drop (readR b).2.1)).2 ≠ 0 then ([], (dec (b.drop (readR b).2.1)).2) else ((readR b).1 :: (dec (b.drop (readR b).2.1)).1, 0) := by
    rw [dec_step h0]
    exact if_neg (by rw [h]; simp)
  unfold decA
  rw [e]
  generalize dec (b.drop (readR b).2.1) = D at *
  by_cases h2 : D.2 ≠ 0
  · simp [h2]
  · simp [show D.2 = 0 by simpa using h2]
theorem readR_good {b : List Nat} (h : (readR b).2.2 = 0) : 0 < (readR b).2.1 ∧ (readR b).2.1 ≤ b.length ∧ (readR b).1 = vget (b.take (vlen b)) ∧ (readR b).2.1 = vlen b := by
  unfold readR at h ⊢
  split at h
  · cases h
  · rename_i h1
    rw [if_neg h1]
    split at h
    · cases h
    · rename_i h2
      rw [if_neg h2]
      split at h
      · cases h
      · rename_i h3
        rw [if_neg h3]
        exact ⟨by show 0 < vlen b; omega, by show vlen b ≤ _; omega, rfl, rfl⟩
theorem readR_ok {b : List Nat} (hb : ∀ x ∈ b, x < 256) (hl : b.length ≤ 4096) (h : (readR b).2.2 = 0) : (readR b).1.ok := by
  obtain ⟨h1, h2, h3, h4⟩ := readR_good h
  rw [h3]
  rw [h4] at h1 h2
  have hth := take_head (l := b) (k := vlen b) h1
  have htl : (b.take (vlen b)).length = vlen b := by rw [List.length_take]; omega
  have hp := vlen_parts b (by omega)
  exact (vget_ok (b.take (vlen b)) (take_lt hb _) (by omega) (by rw [hth.2, htl]; exact ⟨hp.1, hp.2.1, hp.2.2.1⟩) (by rw [hth.2, vlen_first]; simp; omega)).1
theorem new_cells (X : World) (n : Nat) (hn : n = X.heap.size) (v : VV) (t : TypeId) : ∀ (j : Nat) (u : Value), v.pc.toList[j]? = some u → (X.alloc (.cells v.pc t)).cell? ((⟨n, 0, none⟩ : Addr).add j) = some u := by
  intro j u hu
  subst hn
  rw [Addr.add_mid, cell_of_row _ _ _ _ _ _ (heap_alloc_new _ _), Nat.zero_add, ← hu]
  simp
def lenV : Value → Nat
  | .slice _ n _ => n
  | _ => 0
theorem al_ (w : World) (o : Obj) : Below w.heap.size w (w.alloc o) := al w o
set_option maxHeartbeats 1600000 in
theorem tDecode_any (w : World) (a : Option Addr) (n cap : Nat) (l : List Nat) (hB : Bs w a l) (hcap : l.length ≤ cap) (hn : n = l.length) :
    Calls Try.prog 25 #[.slice a n cap] w fun e w' => ∃ a' cap', e = .returned (.tuple #[.slice a' (decR l).1.length cap', .int .i64 (decR l).2]) ∧ POwn w w' a' cap' (decR l).1 ∧ (∀ v ∈ (decR l).1, v.ok) := by
  subst hn
  have HB := hide hB
  have RV := hide readValue_any
  have sf := st_float
  have sc := st_complex
  by_cases hbig : 4096 < l.length
  · have hbi : (4096 : Int) < (l.length : Int) := by omega
    rw [show decR l = ([], 4) by unfold decR; rw [if_pos hbig]]
    clear hB
    go_enter Try.func25, Try.ntmps25
    go_wp2
    refine bodyPost_ret (v := .tuple #[.slice none 0 0, .int .i64 4]) (by simp [results, Try.results25, go_sem]) rfl ?_
    exact ⟨none, 0, rfl, POwn.nil w (Below.refl _ _), fun v hv => (List.not_mem_nil hv).elim⟩
  · have hbi : ¬ (4096 : Int) < (l.length : Int) := by omega
    have HST := hide (decA_start l (by omega))
    clear hB
    go_enter Try.func25, Try.ntmps25
    go_wp2
    go_loopw [0, 4] (fun v x wx => ∃ (rb : List Nat) (aj : Option Addr) (cj : Nat) (acc : List VV) (al : Option Addr) (cl : Nat), v = .slice aj rb.length cj ∧ x = .slice al acc.length cl ∧ (POwn w wx al cl acc ∧ (∀ v ∈ acc, v.ok) ∧ Bs w aj rb ∧ rb.length ≤ cj ∧ acc.length + rb.length ≤ 4096 ∧ decA acc rb = decA [] l)) (fun v _ _ => lenV v)
    case atStart => exact ⟨l, a, cap, [], none, 0, rfl, rfl, POwn.nil w (Below.refl _ _), fun v hv => (List.not_mem_nil hv).elim, HB.out, hcap, by simp; omega, rfl⟩
    case round =>
      obtain ⟨rb, aj, cj, acc, al, cl, rfl, rfl, hG⟩ := hrel
      have HG := hide hG
      clear hG
      by_cases h0 : rb = []
      · subst h0
        have HE : Hid (decA [] l = (acc, 0)) := by rw [← HG.out.2.2.2.2.2, decA_nil]; exact rfl
        go_wp2
        refine bodyPost_ret (v := .tuple #[.slice al acc.length cl, .int .i64 0]) (by simp [results, Try.results25, go_sem]) rfl ?_
        rw [HST.out, HE.out]
        exact ⟨al, cl, rfl, HG.out.1, HG.out.2.1⟩
      · have hp : 0 < rb.length := List.length_pos_iff.2 h0
        have hpi : (0 : Int) < (rb.length : Int) := by omega
        have hr4 : rb.length ≤ 4096 := by have := HG.out.2.2.2.2.1; omega
        obtain ⟨b, off, rfl, hc⟩ := byte_at HG.out.2.2.1 (Below.refl _ _) hp
        have RX := hide (RV.out wr b off cj rb.length rb (HG.out.2.2.1.keep HG.out.1.b) hr4 hp HG.out.2.2.2.1 rfl)
        unfold ReadOk VV.pc at RX
        have HBAD := hide (fun h => decA_bad (acc := acc) h0 h)
        have HGOOD := hide (fun h => decA_good (acc := acc) h0 h)
        have HRG := hide (fun h => readR_good (b := rb) h)
        have HRK := hide (fun h => readR_ok (b := rb) HG.out.2.2.1.1 hr4 h)
        clear hc RV
        generalize readR rb = R at *
        obtain ⟨v, q, er⟩ := R
        dsimp only at *
        by_cases her : er = 0
        · subst her
          have q1 := (HRG.out rfl).1
          have q2 := (HRG.out rfl).2.1
          have HOK := hide (HRK.out rfl)
          have HDA := hide (HGOOD.out rfl)
          have hqi : (0 : Int) ≤ (q : Int) := by omega
          have hqi2 : (q : Int) ≤ (rb.length : Int) := by omega
          have hqc : (q : Int) ≤ (cj : Int) := by have := HG.out.2.2.2.1; omega
          clear HBAD HGOOD HRG HRK
          go_wp2_with fail
          refine RX.out.mono ?_
          rintro e w1 ⟨rfl, hb1⟩
          have O1 := hide (HG.out.1.keep hb1)
          clear hb1 RX
          go_wp2_with (first | (at_builtin; refine wpList_apP rfl _ _ rfl al acc.length cl acc rfl rfl (O1.out.r.keep (bt (al_ _ _) (al_ _ _))) ⟨w1.heap.size + 1, 0, none⟩ 1 v rfl ?c1 (by have := HG.out.2.2.2.2.1; omega) ?_))
          case c1 => exact new_cells _ _ (by rw [size_alloc]) v 26
          intro g3 cap3 w3 hR hN hg
          have O3 := hide (O1.out.step (bt (al_ _ _) (al_ _ _)) hR hN hg)
          clear hR hN hg
          have HL : Hid ((rb.drop q).length = rb.length - q) := List.length_drop
          have HL2 : Hid ((acc ++ [v]).length = acc.length + 1) := by show _ = _; simp
          have HK : Hid (∀ u ∈ acc ++ [v], u.ok) := fun u hu => by
            rcases List.mem_append.1 hu with h | h
            · exact HG.out.2.1 u h
            · rw [List.mem_singleton.1 h]; exact HOK.out
          by_cases hcq : cj = q
          · subst hcq
            have hle : rb.length ≤ cj := HG.out.2.2.2.1
            have HD : Hid (rb.drop cj = []) := List.drop_of_length_le hle
            go_wp2
            go_roundw
            case rel => exact ⟨rb.drop cj, some ⟨b, off, none⟩, 0, acc ++ [v], some ⟨g3, 0, none⟩, cap3, by rw [HD.out]; first | done | rfl | simp, by rw [HL2.out], O3.out, HK.out, by rw [HD.out]; exact Bs.empty _ _, by rw [HD.out]; exact Nat.le_refl _, by rw [HL2.out, HL.out]; have := HG.out.2.2.2.2.1; omega, by rw [← HDA.out]; exact HG.out.2.2.2.2.2⟩
            case measure => simp [lenV]; omega
          · go_wp2
            go_roundw
            case rel => exact ⟨rb.drop q, some ⟨b, off + q, none⟩, cj - q, acc ++ [v], some ⟨g3, 0, none⟩, cap3, by rw [HL.out], by rw [HL2.out], O3.out, HK.out, HG.out.2.2.1.drop' q, by rw [HL.out]; have := HG.out.2.2.2.1; omega, by rw [HL2.out, HL.out]; have := HG.out.2.2.2.2.1; omega, by rw [← HDA.out]; exact HG.out.2.2.2.2.2⟩
            case measure => simp [lenV]; omega
        · have hef : (er == 0) = false := eqf her
          have HE := hide (HBAD.out her)
          have HE2 : Hid (decA [] l = ([], er)) := by rw [← HG.out.2.2.2.2.2]; exact HE.out
          clear HBAD HGOOD HRG HRK HE
          go_wp2_with fail
          refine RX.out.mono ?_
          rintro e w1 ⟨rfl, hb1⟩
          have B1 := hide (bt HG.out.1.b hb1)
          clear hb1 RX
          go_wp2
          refine bodyPost_ret (v := .tuple #[.slice none 0 0, .int .i64 er]) (by simp [results, Try.results25, go_sem]) rfl ?_
          rw [HST.out, HE2.out]
          exact ⟨none, 0, rfl, POwn.nil w (B1.out.alloc B1.out.size _), fun v hv => (List.not_mem_nil hv).elim⟩
end Go.Proofs.Ythfcgfdboienkaa
