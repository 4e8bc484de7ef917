import Derived.Test.YtbhigodjbfoeoaaGreatWqB7
import Derived.Test.YtbhigodjbfoeoaaGreatWqB11
import Derived.Test.YtbhigodjbfoeoaaGreatWqB14
import Derived.Deep.RegionHeld
import Derived.Test.YtbhigodjbfoeoaaGreatRows
import Derived.ProofKit
import Derived.OpenShut
import Derived.ShutString
import Derived.ChangeOld
import Derived.Deep.Slices
import Derived.SizedLaws
import Derived.JoinedCond
section
namespace Go.Proofs.YtbhigodjbfoeoaaGreat
set_option linter.unusedVariables false
set_option linter.unusedSimpArgs false
open Go.RowKit
theorem results_cell_one {P : Program} {fn : Func} {p q : Tmp} {ty : TypeId} (h : fn.results = #[.cell p ty, .tmp q]) (tmps : Array Value) (w : World) (g : Nat) (t : TypeId) (cs : Array Value) (fr : Nat × Nat) (d : TypeDesc)
    (hp : tmps.getD p undef = .pointer (some ⟨g, 0, none⟩)) (hg : w.heap[g]? = some (.cells cs t fr))
    (hu : P.underlying ty = some d) (hd : (match d with | .struct _ | .array _ _ => true | _ => false) = true) (hi : (P.info? ty).map (·.size) = some cs.size) :
    (results fn tmps).run P w = .ok (.tuple #[.agg cs, tmps.getD q undef]) w := by
  have hp' : tmps[p]?.getD undef = .pointer (some ⟨g, 0, none⟩) := by simpa using hp
  simp [results, h, hp', asAddr, run_loadVar_row w g t ty cs fr d hg hu hd hi]
end Go.Proofs.YtbhigodjbfoeoaaGreat
namespace Go.Proofs.YtbhigodjbfoeoaaGreat
set_option linter.unusedVariables false
set_option linter.unusedSimpArgs false
open Go.RowKit
def Vm.lay (X : Vm) (n : Int) (p : Pv) : Vm := { X with f := fput X.f n p, ch := X.ch ++ [(n, X.on n)] }
theorem lay_st (w : World) (b : Nat) (X : Vm) (fl : Nat) (D : Vd) (pc col : Nat → Nat) (h : Vx w b X fl D pc col) (n : Int) (p : Pv) (hp : Pz (fun k => col k = 6) w p) (hlen : X.ch.length + 1 ≤ 1759218604441) :
    Calls Tryz.prog 116 #[.pointer (some ⟨b, 0, none⟩), .int .i64 n, p.vl] w fun e w' => e = .returned (.tuple #[]) ∧ ∃ pc' col', Vx w' b (X.lay n p) fl D pc' col' ∧ Vf w col w' col' := by
  obtain ⟨ac, cc, h⟩ := h
  refine (lay_any w b X.P fl (D.st X ac cc) pc col h n p hp hlen).mono ?_
  rintro _ w' ⟨rfl, ac', cc', col', hv, hf⟩
  exact ⟨rfl, pc, col', ⟨ac', cc', hv⟩, hf⟩
theorem alloc_st (w : World) (b : Nat) (X : Vm) (fl : Nat) (D : Vd) (pc col : Nat → Nat) (h : Vx w b X fl D pc col) (hm : X.P.ac.length + 1 ≤ 17592186044416) :
    Calls Tryz.prog 115 #[.pointer (some ⟨D.pb, 0, none⟩)] w fun e w' => e = .returned (.tuple #[.int .i64 X.P.alloc.1.1, .int .i64 X.P.alloc.1.2]) ∧ ∃ pc' col', Vx w' b { X with P := X.P.alloc.2 } fl D pc' col' ∧ Vf w col w' col' := by
  obtain ⟨ac, cc, h⟩ := h
  refine (Q.Alloc_any w D.pb X.P pc h.pool hm).mono ?_
  rintro _ w' ⟨rfl, pc', hp, hf⟩
  obtain ⟨v, f⟩ := h.pooled hp hf
  exact ⟨rfl, pc', _, ⟨ac, cc, v⟩, f⟩
theorem alloc_ac (P : Q.Po) : P.alloc.2.ac.length ≤ P.ac.length + 1 := by
  unfold Q.Po.alloc
  split
  · exact Nat.le_succ _
  · simp [Q.Po.act]
end Go.Proofs.YtbhigodjbfoeoaaGreat
namespace Go.Proofs.YtbhigodjbfoeoaaGreat
set_option linter.unusedVariables false
set_option linter.unusedSimpArgs false
open Go.RowKit
structure Vs where
  X : Vm
  al : List (Nat × Nat)
  fl : Nat
def Vw (w : World) (b : Nat) (S : Vs) (pb mb : Nat) (pc col : Nat → Nat) : Prop := ∃ ac cc aa ca, Vq w b S.X.P S.fl ⟨pb, mb, S.X.f, ac, cc, S.X.ch, aa, ca, S.al⟩ pc col
theorem Vw.keep {w w' : World} {b : Nat} {S : Vs} {pb mb : Nat} {pc col : Nat → Nat} (h : Vw w b S pb mb pc col) (hb : Below w.heap.size w w') : Vw w' b S pb mb pc col := by
  obtain ⟨ac, cc, aa, ca, h⟩ := h
  exact ⟨ac, cc, aa, ca, h.keep hb⟩
def vd0 (pb mb : Nat) (aa : Option Addr) (ca : Nat) (al : List (Nat × Nat)) : Vd := ⟨pb, mb, fun _ => none, none, 0, [], aa, ca, al⟩
theorem Vw.vx {w : World} {b : Nat} {S : Vs} {pb mb : Nat} {pc col : Nat → Nat} (h : Vw w b S pb mb pc col) : ∃ aa ca, Vx w b S.X S.fl (vd0 pb mb aa ca S.al) pc col := by
  obtain ⟨ac, cc, aa, ca, h⟩ := h
  exact ⟨aa, ca, ac, cc, h⟩
theorem Vw.c0 {w : World} {b : Nat} {S : Vs} {pb mb : Nat} {pc col : Nat → Nat} (h : Vw w b S pb mb pc col) : w.cell? ⟨b, 0, none⟩ = some (.pointer (some ⟨pb, 0, none⟩)) := by
  obtain ⟨ac, cc, aa, ca, h⟩ := h
  exact h.cells.1
theorem Vw.z {w : World} {b : Nat} {S : Vs} {pb mb : Nat} {pc col : Nat → Nat} (h : Vw w b S pb mb pc col) {k : Nat} (hk : w.heap.size ≤ k) : col k = 0 := by
  obtain ⟨aa, ca, h⟩ := h.vx
  exact h.z hk
def Vm.back (X : Vm) (k m : Nat) : Vm := ⟨X.P.undo ((k : Nat) : Int), unl X.f (X.ch.drop m), X.ch.take m⟩
def Vs.done (S : Vs) (e : Int) (X : Vm) : Vs := if e = 0 then ⟨X, S.al ++ [(S.X.P.mark, S.X.ch.length)], S.fl⟩ else ⟨X.back S.X.P.mark S.X.ch.length, S.al, S.fl⟩
theorem here_st (w : World) (b : Nat) (S : Vs) (pb mb : Nat) (pc col : Nat → Nat) (h : Vw w b S pb mb pc col) (hm : S.X.P.mark ≤ 9223372036854775807) :
    Calls Tryz.prog 69 #[.pointer (some ⟨b, 0, none⟩)] w fun e w' => e = .returned (.agg #[.int .i64 ((S.X.P.mark : Nat) : Int), .int .i64 ((S.X.ch.length : Nat) : Int)]) ∧ Below w.heap.size w w' := by
  obtain ⟨ac, cc, aa, ca, h⟩ := h
  exact here_any w b S.X.P S.fl _ pc col h hm
theorem end_st (w : World) (b : Nat) (S : Vs) (X : Vm) (pb mb : Nat) (aa : Option Addr) (ca : Nat) (pc col : Nat → Nat) (h : Vx w b X S.fl (vd0 pb mb aa ca S.al) pc col) (e : Int) (hc : S.X.ch.length ≤ X.ch.length) (hm : X.P.mark ≤ 9223372036854775807) (hl : S.al.length + 1 ≤ 8796093022208) :
    Calls Tryz.prog 70 #[.pointer (some ⟨b, 0, none⟩), .agg #[.int .i64 ((S.X.P.mark : Nat) : Int), .int .i64 ((S.X.ch.length : Nat) : Int)], .int .i64 e] w fun x w' => x = .returned (.int .i64 e) ∧ ∃ pc' col', Vw w' b (S.done e X) pb mb pc' col' ∧ Vf w col w' col' := by
  obtain ⟨ac, cc, h⟩ := h
  unfold Vs.done
  by_cases h0 : e = 0
  · subst h0
    rw [if_pos rfl]
    refine (end_ok w b X.P S.fl _ pc col h (S.X.P.mark, S.X.ch.length) hl).mono ?_
    rintro _ w' ⟨rfl, aa', ca', col', hv, hf⟩
    exact ⟨rfl, pc, col', ⟨ac, cc, aa', ca', hv⟩, hf⟩
  · rw [if_neg h0]
    refine (end_no w b X.P S.fl _ pc col h S.X.P.mark S.X.ch.length hc hm e h0).mono ?_
    rintro _ w' ⟨rfl, pc', col', hv, hf⟩
    exact ⟨rfl, pc', col', ⟨ac, cc, aa, ca, hv⟩, hf⟩
end Go.Proofs.YtbhigodjbfoeoaaGreat
namespace Go.Proofs.YtbhigodjbfoeoaaGreat
set_option linter.unusedVariables false
set_option linter.unusedSimpArgs false
open Go.RowKit
def VMade (w w' : World) (b : Nat) (S : Vs) : Prop := ∃ pb mb pc col, Vw w' b S pb mb pc col ∧ Below w.heap.size w w' ∧ ∀ k, col k ≠ 0 → w.heap.size ≤ k
def Vs.start (P : Q.Po) : Vs := ⟨⟨P, fun _ => none, []⟩, [], 0⟩
theorem made_vault {w w1 : World} {pb : Nat} {P : Q.Po} (h : Q.Made w w1 pb P) :
    VMade w ((w1.alloc (.map #[] 0)).alloc (.cells #[.pointer (some ⟨pb, 0, none⟩), .map (some w1.heap.size), .slice none 0 0, .slice none 0 0, .int .i64 0] 50)) (w1.heap.size + 1) (Vs.start P) := by
  obtain ⟨pc, hp, hb, hn⟩ := h
  have a1 := al w1 (.map #[] 0)
  have a2 := al (w1.alloc (.map #[] 0)) (.cells #[.pointer (some ⟨pb, 0, none⟩), .map (some w1.heap.size), .slice none 0 0, .slice none 0 0, .int .i64 0] 50)
  have s1 : (w1.alloc (.map #[] 0)).heap.size = w1.heap.size + 1 := size_alloc _ _
  have s2 : ((w1.alloc (.map #[] 0)).alloc (.cells #[.pointer (some ⟨pb, 0, none⟩), .map (some w1.heap.size), .slice none 0 0, .slice none 0 0, .int .i64 0] 50)).heap.size = w1.heap.size + 2 := by rw [size_alloc, s1]
  have hbox := World.alloc_heap_new (w1.alloc (.map #[] 0)) (.cells #[.pointer (some ⟨pb, 0, none⟩), .map (some w1.heap.size), .slice none 0 0, .slice none 0 0, .int .i64 0] 50)
  rw [s1] at hbox
  have hs := hb.size
  refine ⟨pb, w1.heap.size, pc, fun k => if k = w1.heap.size + 1 then 1 else if k = w1.heap.size then 2 else if pc k ≠ 0 then 5 else 0, ⟨none, 0, none, 0, ⟨hbox, ((Mp.made w1).keep a2).congr (fun _ => rfl), Q.Gw.nil _ _ _, Q.Gw.nil _ _ _, hp.keep (bt a1 a2), fun k p e => (by cases e), fun x hx => absurd hx (List.not_mem_nil), if_pos rfl, ?_, fun x hx => (by cases hx), fun x hx => (by cases hx), fun k hk => ?_, fun k hk => ?_⟩⟩, bt hb (bt a1 a2), fun k hk => ?_⟩
  · show (if w1.heap.size = w1.heap.size + 1 then 1 else if w1.heap.size = w1.heap.size then 2 else _) = 2
    rw [if_neg (by omega), if_pos rfl]
  · have := hp.lt k hk
    show (if k = w1.heap.size + 1 then 1 else if k = w1.heap.size then 2 else if pc k ≠ 0 then 5 else 0) = 5
    rw [if_neg (by omega), if_neg (by omega), if_pos hk]
  · rw [s2]
    by_cases h1 : k = w1.heap.size + 1
    · omega
    · by_cases h2 : k = w1.heap.size
      · omega
      · by_cases h3 : pc k ≠ 0
        · have := hp.lt k h3; omega
        · exact absurd (show (if k = w1.heap.size + 1 then 1 else if k = w1.heap.size then 2 else if pc k ≠ 0 then 5 else 0) = 0 by rw [if_neg h1, if_neg h2, if_neg h3]) hk
  · by_cases h1 : k = w1.heap.size + 1
    · omega
    · by_cases h2 : k = w1.heap.size
      · omega
      · by_cases h3 : pc k ≠ 0
        · exact hn k h3
        · exact absurd (show (if k = w1.heap.size + 1 then 1 else if k = w1.heap.size then 2 else if pc k ≠ 0 then 5 else 0) = 0 by rw [if_neg h1, if_neg h2, if_neg h3]) hk
set_option maxHeartbeats 1000000 in
theorem vNew_no (w : World) (n r : Int) (h : Q.fits n r = false) : Calls Tryz.prog 21 #[.int .i64 n, .int .i64 r] w fun e w' => e = .returned (.tuple #[.pointer none, .int .i64 1]) ∧ w' = w := by
  have C := hide (Q.New_no w n r h)
  clear h
  go_enter Tryz.func21, Tryz.ntmps21
  go_wp2_with fail
  refine C.out.mono ?_
  rintro _ wq ⟨rfl, hwq⟩
  obtain rfl := hwq.symm
  go_wp2
  go_ret2
  exact ⟨rfl, rfl⟩
set_option maxHeartbeats 1000000 in
theorem vNew_yes (w : World) (n r : Int) (h : Q.fits n r = true) : Calls Tryz.prog 21 #[.int .i64 n, .int .i64 r] w fun e w' => ∃ b, e = .returned (.tuple #[.pointer (some ⟨b, 0, none⟩), .int .i64 0]) ∧ VMade w w' b (Vs.start (Q.Po.start r (List.replicate n.toNat 0))) := by
  have C := hide (Q.New_yes w n r h)
  clear h
  go_enter Tryz.func21, Tryz.ntmps21
  go_wp2_with fail
  refine C.out.mono ?_
  rintro _ w1 ⟨pb, rfl, hM⟩
  have HM := hide (made_vault hM)
  have hmm := @run_makeMap Tryz.prog
  clear hM C
  go_wp2
  go_ret2
  exact ⟨_, rfl, HM.out⟩
end Go.Proofs.YtbhigodjbfoeoaaGreat
namespace Go.Proofs.YtbhigodjbfoeoaaGreat
set_option linter.unusedVariables false
set_option linter.unusedSimpArgs false
open Go.RowKit
theorem Jc_one (L : List Iv) : ∀ u ∈ Jc L, u.oneCell' = true := by
  intro u hu
  unfold Jc at hu
  obtain ⟨l, hl, hu⟩ := List.mem_flatten.1 hu
  obtain ⟨v, hv, rfl⟩ := List.mem_map.1 hl
  exact (Array.all_eq_true_iff_forall_mem.1 (cs_one v)) u (by simpa using hu)
theorem Js.all {w : World} {a : Option Addr} {L : List Iv} (h : Js w a L) (h0 : 0 < L.length) : ∃ ad, a = some ad ∧ ∀ j u, (Jc L)[j]? = some u → w.cell? (ad.add j) = some u := by
  obtain ⟨b, off, rfl, _⟩ := h.at h0
  refine ⟨_, rfl, fun j u hj => ?_⟩
  have hjl : j < L.length * 4 := by
    rw [← Jc_length]
    exact (List.getElem?_eq_some_iff.1 hj).1
  obtain ⟨b2, off2, e, hr⟩ := h.at (r := j / 4) (by omega)
  cases e
  have k := Jc_get L (j / 4) (j % 4) (by omega) (by omega)
  rw [show j / 4 * 4 + j % 4 = j by omega, hj] at k
  have := hr (j % 4) u k.symm
  rw [Addr.add_mid, show off + j = off + j / 4 * 4 + j % 4 by omega]
  exact this
theorem run_apJs (w : World) (ty : TypeId) (ad : Addr) (c : Nat) (L : List Iv) (hc : ∀ j u, (Jc L)[j]? = some u → w.cell? (ad.add j) = some u) (h0 : 0 < L.length) (hlen : L.length ≤ 2199023255489) :
    ∃ g cap' w', (Builtin.append_ #[40, 40] ty #[.slice none 0 0, .slice (some ad) L.length c]).run Tryz.prog w = .ok (.slice (some ⟨g, 0, none⟩) L.length cap') w' ∧
      Jw w' (some ⟨g, 0, none⟩) cap' L ∧ w.heap.size ≤ g ∧ Below w.heap.size w w' := by
  obtain ⟨i0, hi, hz0, hz1, hz2⟩ := info_parts infoItem
  obtain ⟨g, cap', w', hr, h1, h2, h3, h4⟩ := run_append_lies (P := Tryz.prog) w 40 ty 0 34 i0 (.agg Iv.zero.cs) 4 64 Tryz.underlying40 hi hz0 hz1 hz2 rfl (by decide) (.slice none 0 0) 0 [] (World.ownsRow_nil w 0 34 4) ad L.length c (Jc L) (Jc_length L)
    hc (Jc_one L) h0 (by unfold maxLen; omega) (by omega) (Nat.zero_le _) w.heap.size rfl
  rw [Nat.zero_add] at hr h1
  rw [List.nil_append] at h1
  have hg : g = w.heap.size := by
    rcases h3 with h3 | h3
    · cases h3
    · exact h3
  exact ⟨g, cap', w', hr, h1, by omega, (But.inA (a := none) h2).below (fun k _ ⟨x, hx, _⟩ => by cases hx)⟩
theorem Jc_set2 : ∀ (L : List Iv) (k : Nat), k < L.length → ∀ (aK : Option Addr) (cK : Nat) (aV : Option Addr) (cV : Nat), ((Jc L).set (k * 4) (.slice aK (L.getD k Iv.zero).key.length cK)).set (k * 4 + 1) (.slice aV (L.getD k Iv.zero).val.length cV) = Jc (L.set k { L.getD k Iv.zero with aK := aK, cK := cK, aV := aV, cV := cV })
  | [], k, h, _, _, _, _ => absurd h (by simp)
  | x :: L, 0, h, aK, cK, aV, cV => by simp [Jc, Iv.cs]
  | x :: L, k + 1, h, aK, cK, aV, cV => by
    have ih := Jc_set2 L k (by simpa using h) aK cK aV cV
    have e : ∀ (y : Iv) (M : List Iv), Jc (y :: M) = y.cs.toList ++ Jc M := fun y M => by simp [Jc]
    have hl : x.cs.toList.length = 4 := rfl
    rw [e, List.getD_cons_succ, List.set_cons_succ, e, ← ih, show (k + 1) * 4 = k * 4 + 4 by omega, List.set_append_right _ _ (by omega), List.set_append_right _ _ (by omega), hl, show k * 4 + 4 - 4 = k * 4 by omega, show k * 4 + 4 + 1 - 4 = k * 4 + 1 by omega]
theorem Jw.set2 {w : World} {g cap : Nat} {L : List Iv} (h : Jw w (some ⟨g, 0, none⟩) cap L) {k : Nat} (hk : k < L.length) (aK : Option Addr) (cK : Nat) (aV : Option Addr) (cV : Nat) :
    Jw ((w.setCell ⟨g, k * 4, none⟩ (.slice aK (L.getD k Iv.zero).key.length cK)).setCell ⟨g, k * 4 + 1, none⟩ (.slice aV (L.getD k Iv.zero).val.length cV)) (some ⟨g, 0, none⟩) cap (L.set k { L.getD k Iv.zero with aK := aK, cK := cK, aV := aV, cV := cV }) := by
  rcases h.cases with ⟨h0, _⟩ | ⟨g', cur, ha, hg, h1, h2, h3, h4⟩
  · cases h0
  · cases ha
    refine Jw.mk (heap_setCell_same _ _ _ _ _ _ (heap_setCell_same _ _ _ _ _ _ hg)) (by rw [List.length_set]; exact h1) h2 (by simpa using h3) ?_
    rw [Array.toList_setIfInBounds, Array.toList_setIfInBounds, List.length_set, List.take_set, List.take_set, h4]
    exact Jc_set2 L k hk aK cK aV cV
end Go.Proofs.YtbhigodjbfoeoaaGreat
namespace Go.Proofs.YtbhigodjbfoeoaaGreat
set_option linter.unusedVariables false
set_option linter.unusedSimpArgs false
open Go.RowKit
structure Co (w W : World) (g cap i : Nat) (M L : List Iv) : Prop where
  j : Jw W (some ⟨g, 0, none⟩) cap (M ++ L.drop i)
  len : M.length = i
  e : M.map Iv.it = (L.take i).map Iv.it
  f : Fam w W (rowsOf M)
  n : ∀ r ∈ M, N64 r.child ∧ N64 r.size
  b : Below w.heap.size w W
  gn : w.heap.size ≤ g
theorem Co.keep {w W W' : World} {g cap i : Nat} {M L : List Iv} (h : Co w W g cap i M L) (hb : Below W.heap.size W W') : Co w W' g cap i M L := ⟨h.j.keep hb, h.len, h.e, h.f.keep hb, h.n, bt h.b hb, h.gn⟩
theorem but_two (W : World) (g o1 o2 : Nat) (a b : Value) : But (fun k => k = g) W ((W.setCell ⟨g, o1, none⟩ a).setCell ⟨g, o2, none⟩ b) := ((But.refl (fun k => k = g) W).setCell (p := ⟨g, o1, none⟩) (fun _ => rfl) a).setCell (p := ⟨g, o2, none⟩) (fun _ => rfl) b
theorem Co.round {w W W1 W2 : World} {g cap i : Nat} {M L : List Iv} (h : Co w W g cap i M L) (hi : i < L.length) (hn : N64 (L.getD i Iv.zero).child ∧ N64 (L.getD i Iv.zero).size) (h8 : B8 (L.getD i Iv.zero).key) (h9 : B8 (L.getD i Iv.zero).val)
    {aK aV : Option Addr} {cK cV : Nat} (k1 : Own W W1 aK cK (L.getD i Iv.zero).key) (k2 : Own W1 W2 aV cV (L.getD i Iv.zero).val) :
    Co w ((W2.setCell ⟨g, i * 4, none⟩ (.slice aK (L.getD i Iv.zero).key.length cK)).setCell ⟨g, i * 4 + 1, none⟩ (.slice aV (L.getD i Iv.zero).val.length cV)) g cap (i + 1) (M ++ [{ L.getD i Iv.zero with aK := aK, cK := cK, aV := aV, cV := cV }]) L := by
  have b2 : Below W.heap.size W W2 := bt k1.b k2.b
  have hB := but_two W2 g (i * 4) (i * 4 + 1) (.slice aK (L.getD i Iv.zero).key.length cK) (.slice aV (L.getD i Iv.zero).val.length cV)
  have j2 := h.j.keep b2
  have hg : (M ++ L.drop i).getD i Iv.zero = L.getD i Iv.zero := by
    rw [List.getD_eq_getElem?_getD, List.getElem?_append_right (by rw [h.len]; exact Nat.le_refl _), h.len, Nat.sub_self, List.getElem?_drop, Nat.add_zero, ← List.getD_eq_getElem?_getD]
  have j3 := j2.set2 (k := i) (by rw [List.length_append, h.len, List.length_drop]; omega) aK cK aV cV
  rw [hg] at j3
  have hset : (M ++ L.drop i).set i { L.getD i Iv.zero with aK := aK, cK := cK, aV := aV, cV := cV } = (M ++ [{ L.getD i Iv.zero with aK := aK, cK := cK, aV := aV, cV := cV }]) ++ L.drop (i + 1) := by
    rw [List.set_append_right _ _ (by rw [h.len]; exact Nat.le_refl _), h.len, Nat.sub_self, List.drop_eq_getElem_cons hi, List.set_cons_zero, List.append_assoc]
    rfl
  rw [hset] at j3
  have io : Io W W2 { L.getD i Iv.zero with aK := aK, cK := cK, aV := aV, cV := cV } := ⟨k1.keep k2.b, ⟨k2.r, fun x hx => (by
      rcases k2.n x hx with ⟨y, hy, _⟩ | h2
      · cases hy
      · exact .inr (Nat.le_trans k1.b.size h2)), b2⟩, fun x y hx hy e => (by
      have e1 := k1.r.lt hx
      rcases k2.n y hy with ⟨z, hz, _⟩ | h2
      · cases hz
      · have h2 : W1.heap.size ≤ y.block := h2
        omega), h8, h9⟩
  have fm : Fam w W2 (rowsOf M ++ Iv.rows { L.getD i Iv.zero with aK := aK, cK := cK, aV := aV, cV := cV }) := h.f.add io.fam b2 h.b
  have hbw : Below w.heap.size w ((W2.setCell ⟨g, i * 4, none⟩ (.slice aK (L.getD i Iv.zero).key.length cK)).setCell ⟨g, i * 4 + 1, none⟩ (.slice aV (L.getD i Iv.zero).val.length cV)) := ((But.ofBelow (S := fun _ => False) (bt h.b b2)).trans hB (fun k hk e => by have := h.gn; omega)).below (fun _ _ h => h)
  refine ⟨j3, by rw [List.length_append, h.len]; rfl, ?_, ?_, fun r hr => ?_, hbw, h.gn⟩
  · rw [List.map_append, h.e, Q.take_next L Iv.zero hi, List.map_append]
    rfl
  · rw [rowsOf_append, rowsOf_one]
    exact fm.but hB hbw (fun t ht x hx e => j2.ne (fm.own t ht).1.r rfl hx e.symm)
  · rcases List.mem_append.1 hr with hr | hr
    · exact h.n r hr
    · rw [List.mem_singleton.1 hr]; exact hn
end Go.Proofs.YtbhigodjbfoeoaaGreat
namespace Go.Proofs.YtbhigodjbfoeoaaGreat
set_option linter.unusedVariables false
open Go.RowKit
set_option maxHeartbeats 800000 in
theorem bClone_any (w : World) (aa : Option Addr) (n capa : Nat) (p : List Nat) (hB : Bs w aa p) (hn : n = p.length) (hlen : p.length ≤ 140737488355328) :
    Calls Tryz.prog 53 #[.slice aa n capa] w fun x w' => ∃ a' cap', x = .returned (.slice a' n cap') ∧ Rw w' a' cap' p ∧ New w none a' ∧ Below w.heap.size w w' := by
  subst hn
  cases aa with
  | none =>
    obtain rfl : p = [] := by
      rcases hB.2.2 with h | ⟨b, off, h, _⟩
      · exact h
      · cases h
    clear hB
    have hq := run_eql_slice_nil none
    go_enter Tryz.func53, Tryz.ntmps53
    go_wp2
    go_ret
    exact ⟨none, 0, rfl, Rw.nil _, New.none _ _, Below.refl _ _⟩
  | some x =>
    have HB := hide hB
    clear hB
    have hq := run_eql_slice_nil (some x)
    go_enter Tryz.func53, Tryz.ntmps53
    go_wp2_with (at_builtin; refine wpList_apB rfl _ _ rfl (some ⟨w.heap.size, 0, none⟩) 0 0 [] rfl rfl (Rw.mk (cur := #[]) (heap_alloc_new _ _) (Nat.le_refl _) (Nat.zero_le _) rfl rfl) (some x) p.length capa p rfl rfl (HB.out.keep ((Below.refl _ _).alloc (Nat.le_refl _) _)) (by simpa using hlen) ?_)
    intro a' cap' w2 hR hN hg _
    have hb : Below w.heap.size w w2 := (But.grown (S := fun k => k = w.heap.size) ((But.refl _ w).alloc _) hg (by intro k hk _; simpa using hk.symm)).below (by intro k hk e; omega)
    have hN2 : New w none a' := by
      intro y hy
      rcases hN y hy with ⟨z, hz, e⟩ | h
      · simp only [Option.some.injEq] at hz
        subst hz
        exact .inr (by show _ ≤ y.block; rw [← e]; exact Nat.le_refl _)
      · rw [size_alloc] at h; exact .inr (by omega)
    have HR := hide hR
    clear hR hN hg
    go_wp2
    go_ret
    exact ⟨a', cap', by simp, HR.out, hN2, hb⟩
theorem Clone_own (w : World) (aa : Option Addr) (capa : Nat) (p : List Nat) (hB : Bs w aa p) (hlen : p.length ≤ 140737488355328) :
    Calls Tryz.prog 53 #[.slice aa p.length capa] w fun x w' => ∃ a' cap', x = .returned (.slice a' p.length cap') ∧ Own w w' a' cap' p :=
  (bClone_any w aa p.length capa p hB rfl hlen).mono fun _ _ ⟨a', c', h1, h2, h3, h4⟩ => ⟨a', c', h1, h2, h3, h4⟩
end Go.Proofs.YtbhigodjbfoeoaaGreat
end
section
namespace Go.Proofs.YtbhigodjbfoeoaaGreat
open Go.ChangeShapes Go.WideShapes Go.ChangeAt Go.RowKit
theorem own : ownKnob Tryz.prog.godebug = none := by kernel_rfl
theorem laidOut : laidOutB Tryz.prog = true := by kernel_rfl
theorem bytesU8 : Tryz.prog.bytesOf 5 = 1 := by kernel_rfl
theorem cellsInt : Tryz.prog.cellsOf 3 = 1 := by kernel_rfl
theorem cellsBytes : Tryz.prog.cellsOf 32 = 1 := by kernel_rfl
theorem bulk_one {H : Type} (d : DataW H) : 1 ≤ Rows.uptoBulk d := by
  cases d with
  | lit l => cases l <;> simp [Rows.uptoBulk]
  | nil => simp [Rows.uptoBulk]
  | ptr d => simp [Rows.uptoBulk]
  | slice elems spare => simp [Rows.uptoBulk]
  | agg parts => simp [Rows.uptoBulk]
  | iface t d => simp [Rows.uptoBulk]
  | map entries => simp [Rows.uptoBulk]
  | held h => simp [Rows.uptoBulk]
theorem bulk_length {H : Type} (l : List (DataW H)) : l.length ≤ Rows.uptoBulkAll l := by
  induction l with
  | nil => simp [Rows.uptoBulkAll]
  | cons x r ih => have := bulk_one x; simp only [Rows.uptoBulkAll, List.length_cons]; omega
theorem bulk_mem {H : Type} {d : DataW H} : ∀ {l : List (DataW H)}, d ∈ l → Rows.uptoBulk d ≤ Rows.uptoBulkAll l
  | x :: r, hd => by
    simp only [Rows.uptoBulkAll]
    rcases List.mem_cons.1 hd with rfl | hd
    · omega
    · have := bulk_mem hd; omega
def Lit' {H : Type} (t : TypeId) (d : DataW H) : Prop := (∀ x ∈ d.weights Tryz.prog t, x ≤ reachBytes) ∨ Rows.uptoBulk d ≤ 1048576
def IsRow (k : IntKind) (w : World) (a : Option Addr) (len cap : Nat) (zs : List Int) : Prop :=
  (a = none ∧ len = 0 ∧ cap = 0 ∧ zs = []) ∨
  ∃ x, a = some x ∧ len ≤ cap ∧ cap ≤ maxLen ∧ zs.length = cap ∧ (∀ i, i < zs.length → w.cell? (x.add i) = some (.int k (zs.getD i 0))) ∧ ∀ n ∈ zs, (Lit.int k n).wf = true
theorem isrow_bs {w : World} {a : Option Addr} {len cap : Nat} {zs : List Int} (h : IsRow .u8 w a len cap zs) :
    ∃ l : List Nat, len = l.length ∧ Bs w a l ∧ l.length ≤ maxLen ∧ len ≤ cap := by
  rcases h with ⟨rfl, rfl, rfl, rfl⟩ | ⟨x, rfl, hl, hm, hz, hcell, hwz⟩
  · exact ⟨[], rfl, ⟨by simp, by simp, .inl rfl⟩, by simp, Nat.le_refl _⟩
  · have hlen : ((zs.take len).map Int.toNat).length = len := by simp; omega
    have hpos : ∀ n ∈ zs, 0 ≤ n ∧ n < 256 := fun n hn => by have := bounds_u8 (hwz n hn); omega
    refine ⟨(zs.take len).map Int.toNat, hlen.symm, ⟨?_, ?_, ?_⟩, by rw [hlen]; omega, hl⟩
    · intro y hy
      simp only [List.mem_map] at hy
      obtain ⟨n, hn, rfl⟩ := hy
      have := hpos n (List.mem_of_mem_take hn)
      omega
    · rw [hlen]; unfold maxLen at hm; omega
    · by_cases h0 : len = 0
      · left; subst h0; simp
      · right
        obtain ⟨b, off, spot⟩ := x
        have hspot : spot = none := by simpa [Addr.add] using World.cell?_spot (hcell 0 (by omega))
        subst hspot
        refine ⟨b, off, rfl, fun i hi => ?_⟩
        rw [hlen] at hi
        have hc := hcell i (by omega)
        have hzi : i < zs.length := by omega
        have hp := hpos zs[i] (List.getElem_mem _)
        have e1 : ((zs.take len).map Int.toNat).getD i 0 = zs[i].toNat := by simp [hzi, hi]
        have e2 : zs.getD i 0 = zs[i] := by simp [hzi]
        rw [e1, Int.toNat_of_nonneg hp.1]
        rw [e2, Addr.add_mid] at hc
        exact hc
theorem open_bytes_cs {H : Type} {enc : TypeId × Value → H} {W : World} {fuel : Nat} {cs : List Value} {d : DataW H} {p : List MemPlace}
    (hf : DataW.trod enc Tryz.prog W 0 (fun _ => true) true fuel 32 cs = some (d, p)) (hd : Lit' 32 d) :
    ∃ (a : Option Addr) (l : List Nat) (cap : Nat), cs = [.slice a l.length cap] ∧ Bs W a l ∧ l.length + 64 ≤ 140737488355328 ∧ l.length ≤ cap ∧ l.length ≤ Rows.uptoBulk d := by
  rcases open_ints Tryz.underlying32 Tryz.underlying5 (by kernel_rfl) hf with ⟨hcs, _⟩ | ⟨x, l, c, zs, hcs, _, hl, hm, hz, hx, hcell, hwz⟩
  · exact ⟨none, [], 0, hcs, Bs.nil W, by decide, Nat.le_refl _, Nat.zero_le _⟩
  · simp only [Prod.mk.injEq] at hx
    simp only [if_true] at hz
    have h3 : (lits (H := H) .u8 (zs.take l)).length + (lits (H := H) .u8 (zs.drop l)).length = c := by simp [lits]; omega
    obtain ⟨k, hk, hB, _, hc⟩ := isrow_bs (.inr ⟨_, rfl, hl, hm, hz, hcell, hwz⟩)
    have h1 := bulk_length (lits (H := H) .u8 (zs.take l))
    have e : (lits (H := H) .u8 (zs.take l)).length = l := by simp [lits]; omega
    have hbk : k.length ≤ Rows.uptoBulk d := by
      rw [hx.1]
      simp only [Rows.uptoBulk]
      omega
    subst hk
    refine ⟨some x, k, c, hcs, hB, ?_, hc, hbk⟩
    rcases hd with hd | hd
    · have h2 := hd (((lits (H := H) .u8 (zs.take k.length)).length + (lits (H := H) .u8 (zs.drop k.length)).length) * Tryz.prog.bytesOf 5) (by rw [hx.1]; simp only [DataW.weights, Tryz.underlying32, List.mem_cons]; exact .inl trivial)
      rw [h3, bytesU8] at h2
      unfold reachBytes at h2
      omega
    · omega
theorem n64 {z : Int} (h : (Lit.int .i64 z).wf = true) : N64 z := by
  have := bounds_i64 h
  exact ⟨by omega, by omega⟩
theorem weightsAll_mem {H : Type} {P : Program} {e : TypeId} {d : DataW H} : ∀ {l : List (DataW H)}, d ∈ l → ∀ n ∈ d.weights P e, n ∈ DataW.weightsAll P e l
  | x :: l, hd, n, hn => by
    simp only [DataW.weightsAll, List.mem_append]
    rcases List.mem_cons.1 hd with rfl | hd
    · exact .inl hn
    · exact .inr (weightsAll_mem hd n hn)
end Go.Proofs.YtbhigodjbfoeoaaGreat
end
