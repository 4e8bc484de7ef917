import Derived.Test.YtbhigodjbfoeoaaGreatWqB0
import Derived.Deep.MidRow
import Derived.Laws.ResultCell
import Derived.Maps.RangeRun
import Derived.MapKept
section
namespace Go.Proofs.YtbhigodjbfoeoaaGreat
structure It where
  key : List Nat
  val : List Nat
  child : Int
  size : Int
structure Pg where
  kind : Int
  level : Int
  items : List It
  data : List Nat
  next : Int
def It.zero : It := ⟨[], [], 0, 0⟩
def isNum (n : Int) : Bool := decide (1 ≤ n) && decide (n ≤ 65536)
def Pg.form (p : Pg) : Bool :=
  if p.kind = 3 then decide (p.level = 0) && decide (p.items.length = 0) && decide (1 ≤ p.data.length) && decide (p.data.length ≤ 480)
  else decide (p.data.length = 0) && decide (p.next = 0) && decide (p.items.length ≤ 8) && (if p.kind = 1 then decide (p.level = 0) && decide (1 ≤ p.items.length) else decide (1 ≤ p.level) && decide (p.level ≤ 11) && decide (2 ≤ p.items.length))
def Pg.at (p : Pg) (i : Nat) : It := p.items.getD i It.zero
def Pg.keyOk (p : Pg) (i : Nat) : Bool := if p.kind = 2 ∧ i = 0 then decide ((p.at i).key.length = 0) else decide (1 ≤ (p.at i).key.length) && decide ((p.at i).key.length ≤ 24)
def It.valOk (kind : Int) (x : It) : Bool := if kind = 2 then decide (x.val.length = 0) && decide (x.size = 0) else if x.size < 0 ∨ 3840 < x.size then false else if x.size ≤ 32 then decide ((x.val.length : Int) = x.size) else decide (x.val.length = 0)
def It.kidOk (kind : Int) (x : It) : Bool := if kind = 1 ∧ x.size ≤ 32 then decide (x.child = 0) else isNum x.child
def Pg.ordOk (p : Pg) (i : Nat) : Bool := decide (i = 0) || decide (0 < cmpB (p.at i).key (p.at (i - 1)).key)
def Pg.itemE (p : Pg) (i : Nat) : Nat := if p.keyOk i = false then 7 else if p.ordOk i = false then 11 else if (p.at i).valOk p.kind = false then 8 else if (p.at i).kidOk p.kind = false then 15 else 0
def firstE (f : Nat → Nat) : Nat → Nat
  | 0 => 0
  | n + 1 => if firstE f n ≠ 0 then firstE f n else f n
theorem firstE_zero {f : Nat → Nat} : ∀ {n}, firstE f n = 0 → ∀ i, i < n → f i = 0
  | 0, _, i, hi => absurd hi (Nat.not_lt_zero _)
  | n + 1, h, i, hi => by
    unfold firstE at h
    split at h
    · exact absurd h ‹_›
    · rename_i h0
      by_cases e : i = n
      · rw [e]; exact h
      · exact firstE_zero (n := n) (by simpa using h0) i (by omega)
theorem firstE_of {f : Nat → Nat} : ∀ {n}, (∀ i, i < n → f i = 0) → firstE f n = 0
  | 0, _ => rfl
  | n + 1, h => by
    have := firstE_of (n := n) fun i hi => h i (by omega)
    unfold firstE
    rw [this]
    exact h n (by omega)
theorem firstE_stop {f : Nat → Nat} {k : Nat} (h : firstE f k = 0) (hk : f k ≠ 0) : ∀ n, k < n → firstE f n = f k
  | 0, hn => absurd hn (Nat.not_lt_zero _)
  | n + 1, hn => by
    unfold firstE
    by_cases e : k = n
    · subst e; rw [h]; rfl
    · rw [firstE_stop h hk n (by omega), if_pos hk]
def Pg.kindOk (p : Pg) : Bool := decide (p.kind = 1) || decide (p.kind = 2) || decide (p.kind = 3)
theorem Pg.kindOk_iff {p : Pg} : p.kindOk = true ↔ p.kind = 1 ∨ p.kind = 2 ∨ p.kind = 3 := by unfold Pg.kindOk; simp [or_assoc]
def Pg.nextOk (p : Pg) : Bool := !(decide (p.kind = 3) && decide (p.next ≠ 0) && !isNum p.next)
def Pg.check (p : Pg) : Nat := if p.kindOk = false then 22 else if p.form = false then 5 else if firstE p.itemE p.items.length ≠ 0 then firstE p.itemE p.items.length else if p.nextOk = false then 15 else 0
structure Sound (p : Pg) : Prop where
  k : p.kindOk = true
  f : p.form = true
  i : ∀ i, i < p.items.length → p.itemE i = 0
  n : p.nextOk = true
theorem Pg.check_zero {p : Pg} : p.check = 0 ↔ Sound p := by
  unfold Pg.check
  constructor
  · intro h
    split at h
    · cases h
    split at h
    · cases h
    split at h
    · rename_i h1; exact absurd h h1
    split at h
    · cases h
    · rename_i h1 h2 h3 h4
      exact ⟨by simpa using h1, by simpa using h2, firstE_zero (by simpa using h3), by simpa using h4⟩
  · intro h
    rw [if_neg (by rw [h.k]; simp), if_neg (by rw [h.f]; simp), firstE_of h.i, if_neg (by simp), if_neg (by rw [h.n]; simp)]
end Go.Proofs.YtbhigodjbfoeoaaGreat
namespace Go.Proofs.YtbhigodjbfoeoaaGreat
end Go.Proofs.YtbhigodjbfoeoaaGreat
namespace Go.Proofs.YtbhigodjbfoeoaaGreat
end Go.Proofs.YtbhigodjbfoeoaaGreat
namespace Go.Proofs.YtbhigodjbfoeoaaGreat
end Go.Proofs.YtbhigodjbfoeoaaGreat
namespace Go.Proofs.YtbhigodjbfoeoaaGreat
end Go.Proofs.YtbhigodjbfoeoaaGreat
end
section
namespace Go.Proofs.YtbhigodjbfoeoaaGreat
open Go.RowKit
def N64 (x : Int) : Prop := -9223372036854775808 ≤ x ∧ x ≤ 9223372036854775807
structure Iv where
  aK : Option Addr
  cK : Nat
  key : List Nat
  aV : Option Addr
  cV : Nat
  val : List Nat
  child : Int
  size : Int
def Iv.cs (r : Iv) : Array Value := #[.slice r.aK r.key.length r.cK, .slice r.aV r.val.length r.cV, .int .i64 r.child, .int .i64 r.size]
def Iv.vl (r : Iv) : Value := .agg r.cs
def Iv.it (r : Iv) : It := ⟨r.key, r.val, r.child, r.size⟩
structure Ii (w : World) (r : Iv) : Prop where
  bk : Bs w r.aK r.key
  ck : r.key.length ≤ r.cK
  bv : Bs w r.aV r.val
  cv : r.val.length ≤ r.cV
  nc : N64 r.child
  ns : N64 r.size
theorem Ii.keep {w w' : World} {r : Iv} (h : Ii w r) (hb : Below w.heap.size w w') : Ii w' r := ⟨h.bk.keep hb, h.ck, h.bv.keep hb, h.cv, h.nc, h.ns⟩
theorem sizeItem : (Tryz.prog.info? 34).map (·.size) = some 4 := by kernel_rfl
structure Io (w wx : World) (r : Iv) : Prop where
  k : Own w wx r.aK r.cK r.key
  v : Own w wx r.aV r.cV r.val
  apart : ∀ x y, r.aK = some x → r.aV = some y → x.block ≠ y.block
  k8 : B8 r.key
  v8 : B8 r.val
theorem Rw.cap {w : World} {a : Option Addr} {cap : Nat} {l : List Nat} (h : Rw w a cap l) : l.length ≤ cap := by
  rcases h.cases with ⟨_, rfl, rfl⟩ | ⟨g, cur, _, _, h1, _⟩
  · exact Nat.le_refl _
  · exact h1
theorem Io.keep {w wx wy : World} {r : Iv} (h : Io w wx r) (hb : Below wx.heap.size wx wy) : Io w wy r := ⟨h.k.keep hb, h.v.keep hb, h.apart, h.k8, h.v8⟩
theorem Own.bs {w wx : World} {a : Option Addr} {cap : Nat} {l : List Nat} (h : Own w wx a cap l) (h8 : B8 l) : Bs wx a l := h.r.bs h8 h.r.len_le
theorem Io.ii {w wx : World} {r : Iv} (h : Io w wx r) (hc : N64 r.child) (hs : N64 r.size) : Ii wx r := ⟨h.k.bs h.k8, h.k.r.cap, h.v.bs h.v8, h.v.r.cap, hc, hs⟩
def Iv.zero : Iv := ⟨none, 0, [], none, 0, [], 0, 0⟩
theorem infoItem : (Tryz.prog.info? 34).map (fun i => (i.zero, i.size, i.bytes)) = some (some (.agg Iv.zero.cs), 4, 64) := by kernel_rfl
theorem cs_one (v : Iv) : v.cs.all (·.oneCell') = true := by simp [Iv.cs, Value.oneCell']
theorem range_below {w w' : World} {b o : Nat} {cs : List Value} (h : w.rangeAt b o cs) (hb : Below w.heap.size w w') : w'.rangeAt b o cs := fun j v hv => (hb.cell (p := ⟨b, o + j, none⟩) (block_lt_of_cell (h j v hv))).trans (h j v hv)
def Js (w : World) (a : Option Addr) (L : List Iv) : Prop :=
  (∀ r ∈ L, Ii w r) ∧ L.length ≤ 2199023255489 ∧ (L = [] ∨ ∃ b off, a = some ⟨b, off, none⟩ ∧ ∀ r, r < L.length → w.rangeAt b (off + r * 4) (L.getD r Iv.zero).cs.toList)
theorem getD_memR {L : List Iv} {r : Nat} (h : r < L.length) : L.getD r Iv.zero ∈ L := by simp [h]
theorem Js.keep {w w' : World} {a : Option Addr} {L : List Iv} (h : Js w a L) (hb : Below w.heap.size w w') : Js w' a L :=
  ⟨fun r hr => (h.1 r hr).keep hb, h.2.1, h.2.2.imp id fun ⟨b, off, e, hr⟩ => ⟨b, off, e, fun r hr2 => range_below (hr r hr2) hb⟩⟩
theorem Js.at {w : World} {a : Option Addr} {L : List Iv} (h : Js w a L) {r : Nat} (hr : r < L.length) : ∃ b off, a = some ⟨b, off, none⟩ ∧ w.rangeAt b (off + r * 4) (L.getD r Iv.zero).cs.toList := by
  rcases h.2.2 with rfl | ⟨b, off, e, hc⟩
  · simp at hr
  · exact ⟨b, off, e, hc r hr⟩
theorem range4 {w : World} {b o : Nat} {r : Iv} (h : w.rangeAt b o r.cs.toList) : w.cell? ⟨b, o, none⟩ = some (.slice r.aK r.key.length r.cK) ∧ w.cell? ⟨b, o + 1, none⟩ = some (.slice r.aV r.val.length r.cV) ∧ w.cell? ⟨b, o + 2, none⟩ = some (.int .i64 r.child) ∧ w.cell? ⟨b, o + 3, none⟩ = some (.int .i64 r.size) :=
  ⟨h 0 _ rfl, h 1 _ rfl, h 2 _ rfl, h 3 _ rfl⟩
def Jc (L : List Iv) : List Value := (L.map fun v => v.cs.toList).flatten
theorem Jc_snoc (L : List Iv) (v : Iv) : Jc (L ++ [v]) = Jc L ++ v.cs.toList := by simp [Jc]
theorem Jc_length (L : List Iv) : (Jc L).length = L.length * 4 := by
  induction L with
  | nil => rfl
  | cons v L ih =>
    have : Jc (v :: L) = v.cs.toList ++ Jc L := by simp [Jc]
    rw [this, List.length_append, ih, List.length_cons]
    have : v.cs.toList.length = 4 := rfl
    omega
theorem Jc_get (L : List Iv) (r j : Nat) (hr : r < L.length) (hj : j < 4) : (Jc L)[r * 4 + j]? = (L.getD r Iv.zero).cs.toList[j]? := by
  induction L generalizing r with
  | nil => simp at hr
  | cons v L ih =>
    have e : Jc (v :: L) = v.cs.toList ++ Jc L := by simp [Jc]
    have hl : v.cs.toList.length = 4 := rfl
    rw [e]
    cases r with
    | zero =>
      rw [Nat.zero_mul, Nat.zero_add, List.getElem?_append_left (by omega)]
      simp
    | succ r =>
      rw [List.getElem?_append_right (by rw [hl]; omega), hl, show (r + 1) * 4 + j - 4 = r * 4 + j by omega, ih r (by simpa using hr)]
      simp
def Jw (w : World) (a : Option Addr) (cap : Nat) (L : List Iv) : Prop := w.ownsRow 0 34 4 (.slice a L.length cap) L.length (Jc L)
theorem Jw.nil (w : World) : Jw w none 0 [] := World.ownsRow_nil w 0 34 4
theorem Jw.cases {w : World} {a : Option Addr} {cap : Nat} {L : List Iv} (h : Jw w a cap L) : (a = none ∧ cap = 0 ∧ L = []) ∨
    ∃ g cur, a = some ⟨g, 0, none⟩ ∧ w.heap[g]? = some (.cells cur 34 (0, 0)) ∧ L.length ≤ cap ∧ cap ≤ maxLen ∧ cur.size = cap * 4 ∧ cur.toList.take (L.length * 4) = Jc L := by
  obtain ⟨_, h2⟩ := h
  rcases h2 with ⟨hv, h0⟩ | ⟨g, cap', cur, hv, _, hg, hn, hm, hs, ht⟩
  · simp only [Value.slice.injEq] at hv
    exact .inl ⟨hv.1, hv.2.2, List.length_eq_zero_iff.1 h0⟩
  · simp only [Value.slice.injEq] at hv
    obtain ⟨h1, _, rfl⟩ := hv
    exact .inr ⟨g, cur, h1, hg, hn, hm, hs, ht⟩
theorem Jw.mk {w : World} {g cap : Nat} {cur : Array Value} {L : List Iv} (hg : w.heap[g]? = some (.cells cur 34 (0, 0))) (hn : L.length ≤ cap) (hm : cap ≤ maxLen) (hs : cur.size = cap * 4) (ht : cur.toList.take (L.length * 4) = Jc L) : Jw w (some ⟨g, 0, none⟩) cap L :=
  ⟨Jc_length L, .inr ⟨g, cap, cur, rfl, Nat.zero_le _, hg, hn, hm, hs, ht⟩⟩
theorem Jw.lt {w : World} {a : Option Addr} {cap : Nat} {L : List Iv} (h : Jw w a cap L) {x : Addr} (hx : a = some x) : x.block < w.heap.size := by
  rcases h.cases with ⟨rfl, _⟩ | ⟨g, cur, rfl, hg, _⟩
  · cases hx
  · cases hx; exact (Array.getElem?_eq_some_iff.1 hg).1
theorem Jw.but {S : Nat → Prop} {w w' : World} {a : Option Addr} {cap : Nat} {L : List Iv} (h : Jw w a cap L) (hb : But S w w') (hn : ∀ x, a = some x → ¬ S x.block) : Jw w' a cap L := by
  rcases h.cases with ⟨rfl, rfl, rfl⟩ | ⟨g, cur, rfl, hg, h1, h2, h3, h4⟩
  · exact Jw.nil w'
  · exact Jw.mk ((hb.block g (Array.getElem?_eq_some_iff.1 hg).1 (hn _ rfl)).trans hg) h1 h2 h3 h4
theorem Jw.keep {w w' : World} {a : Option Addr} {cap : Nat} {L : List Iv} (h : Jw w a cap L) (hb : Below w.heap.size w w') : Jw w' a cap L :=
  h.but (S := fun _ => False) (But.ofBelow hb) (fun _ _ hf => hf)
theorem Jw.qs {w : World} {a : Option Addr} {cap : Nat} {L : List Iv} (h : Jw w a cap L) (hk : ∀ r ∈ L, Ii w r) (hl : L.length ≤ 2199023255489) : Js w a L := by
  refine ⟨hk, hl, ?_⟩
  rcases h.cases with ⟨rfl, rfl, rfl⟩ | ⟨g, cur, rfl, hg, h1, h2, h3, h4⟩
  · exact .inl rfl
  · refine .inr ⟨g, 0, rfl, fun r hr j u hu => ?_⟩
    have hj : j < 4 := (List.getElem?_eq_some_iff.1 hu).1
    rw [cell_of_row _ _ _ _ _ _ hg, Nat.zero_add, ← hu, ← Jc_get L r j hr hj, ← h4, List.getElem?_take, if_pos (by have : (r + 1) * 4 ≤ L.length * 4 := Nat.mul_le_mul_right _ hr; omega)]
    simp
theorem run_apJ (w : World) (ty : TypeId) (a : Option Addr) (n cap : Nat) (L : List Iv) (hn : n = L.length) (hR : Jw w a cap L) (ad : Addr) (c : Nat) (v : Iv) (hc : ∀ j u, v.cs.toList[j]? = some u → w.cell? (ad.add j) = some u) (hlen : L.length + 1 ≤ 2199023255489) :
    ∃ g cap' w', (Builtin.append_ #[40, 40] ty #[.slice a n cap, .slice (some ad) 1 c]).run Tryz.prog w = .ok (.slice (some ⟨g, 0, none⟩) (n + 1) cap') w' ∧
      Jw w' (some ⟨g, 0, none⟩) cap' (L ++ [v]) ∧ New w a (some ⟨g, 0, none⟩) ∧ w.grownBy w' (a.map Addr.block) := by
  subst hn
  obtain ⟨i0, hi, hz0, hz1, hz2⟩ := info_parts infoItem
  obtain ⟨g, cap', w', hr, h1, h2, h3, h4⟩ := run_append_lies (P := Tryz.prog) w 40 ty 0 34 i0 (.agg Iv.zero.cs) 4 64 Tryz.underlying40 hi hz0 hz1 hz2 rfl (by decide) (.slice a L.length cap) L.length (Jc L) hR ad 1 c v.cs.toList rfl
    hc (fun u hu => (Array.all_eq_true_iff_forall_mem.1 (cs_one v)) u (by simpa using hu)) (by decide) (by unfold maxLen; omega) (by omega) (Nat.zero_le _) w.heap.size rfl
  rw [ob_eq] at h2 h3
  refine ⟨g, cap', w', hr, ?_, ?_, h2⟩
  · unfold Jw
    rw [Jc_snoc, List.length_append]
    exact h1
  · intro y hy
    simp only [Option.some.injEq] at hy
    subst hy
    rcases h3 with h3 | h3
    · obtain ⟨z, hz, e⟩ := map_some h3
      exact .inl ⟨z, hz, e⟩
    · exact .inr (by show _ ≤ g; omega)
theorem wp_apJ {w : World} {o : Oper} {a : Act} {K : Act → World → Prop} {Q : Exit → Act → World → Prop} (s x : Operand)
    (ho : o.op = .call { callee := .builtin .append, args := #[s, x], argTypes := #[40, 40] }) (ao : Option Addr) (n cap : Nat) (L : List Iv) (hs : a.eval s = .slice ao n cap) (hn : n = L.length) (hR : Jw w ao cap L)
    (ad : Addr) (c : Nat) (v : Iv) (hx : a.eval x = .slice (some ad) 1 c) (hc : ∀ j u, v.cs.toList[j]? = some u → w.cell? (ad.add j) = some u) (hlen : L.length + 1 ≤ 2199023255489)
    (h : ∀ g cap' w', Jw w' (some ⟨g, 0, none⟩) cap' (L ++ [v]) → New w ao (some ⟨g, 0, none⟩) → w.grownBy w' (ao.map Addr.block) → K (a.put o.dst (.slice (some ⟨g, 0, none⟩) (n + 1) cap')) w') : o.wp Tryz.prog a w K Q := by
  obtain ⟨g, cap', w', hr, h1, h2, h3⟩ := run_apJ w o.type ao n cap L hn hR ad c v hc hlen
  unfold Oper.wp execOp
  simp only [ho, resolve, invoke, builtin, Sem.run_bind, Sem.run_pure, Result.andThen_ok, List.map_toArray, List.map_cons, List.map_nil, hs, hx, hr]
  exact h g cap' w' h1 h2 h3
theorem wpList_apJ {w : World} {ops : Array Oper} {rest : List Oper} {o : Oper} {a : Act} {Q : Exit → Act → World → Prop} (hgd : o.guard = none) (s x : Operand)
    (ho : o.op = .call { callee := .builtin .append, args := #[s, x], argTypes := #[40, 40] }) (ao : Option Addr) (n cap : Nat) (L : List Iv) (hs : a.eval s = .slice ao n cap) (hn : n = L.length) (hR : Jw w ao cap L)
    (ad : Addr) (c : Nat) (v : Iv) (hx : a.eval x = .slice (some ad) 1 c) (hc : ∀ j u, v.cs.toList[j]? = some u → w.cell? (ad.add j) = some u) (hlen : L.length + 1 ≤ 2199023255489)
    (h : ∀ g cap' w', Jw w' (some ⟨g, 0, none⟩) cap' (L ++ [v]) → New w ao (some ⟨g, 0, none⟩) → w.grownBy w' (ao.map Addr.block) → wpList Tryz.prog ops Q rest (a.put o.dst (.slice (some ⟨g, 0, none⟩) (n + 1) cap')) w') : wpList Tryz.prog ops Q (o :: rest) a w :=
  wpList_plain hgd fun _ hK => wp_apJ s x ho ao n cap L hs hn hR ad c v hx hc hlen fun g cap' w' h1 h2 h3 => hK _ _ (h g cap' w' h1 h2 h3)
structure JOwn (w wx : World) (a : Option Addr) (cap : Nat) (L : List Iv) : Prop where
  r : Jw wx a cap L
  n : New w none a
  b : Below w.heap.size w wx
theorem JOwn.nil (w : World) {wx : World} (h : Below w.heap.size w wx) : JOwn w wx none 0 [] := ⟨Jw.nil _, New.none _ _, h⟩
theorem JOwn.keep {w wx wy : World} {a : Option Addr} {cap : Nat} {L : List Iv} (h : JOwn w wx a cap L) (hb : Below wx.heap.size wx wy) : JOwn w wy a cap L := ⟨h.r.keep hb, h.n, bt h.b hb⟩
theorem JOwn.step {w wx w1 wy : World} {a a' : Option Addr} {cap cap' : Nat} {L L' : List Iv} (h : JOwn w wx a cap L) (hb : Below wx.heap.size wx w1) (hR : Jw wy a' cap' L') (hN : New w1 a a') (hg : w1.grownBy wy (a.map Addr.block)) : JOwn w wy a' cap' L' := by
  refine ⟨hR, h.n.trans hN (Nat.le_trans h.b.size hb.size), ?_⟩
  have h1 := bt h.b hb
  have hh : But (fun _ => False) w wy := (But.ofBelow h1).grown hg fun k hk hlt => by
    obtain ⟨y, hy, e⟩ := map_some hk
    rcases h.n y hy with ⟨z, hz, _⟩ | h2
    · cases hz
    · omega
  exact hh.below fun _ _ h => h
theorem Jw.cells {w : World} {g cap : Nat} {L : List Iv} (h : Jw w (some ⟨g, 0, none⟩) cap L) : ∀ j u, (Jc L)[j]? = some u → w.cell? ((⟨g, 0, none⟩ : Addr).add j) = some u := by
  rcases h.cases with ⟨h0, _⟩ | ⟨g', cur, h0, hg, h1, h2, h3, h4⟩
  · cases h0
  · simp only [Option.some.injEq, Addr.mk.injEq] at h0
    obtain ⟨rfl, _⟩ := h0
    intro j u hj
    rw [Addr.add_mid, Nat.zero_add, cell_of_row _ _ _ _ _ _ hg]
    have hlt := (List.getElem?_eq_some_iff.1 hj).1
    rw [Jc_length] at hlt
    rw [← h4, List.getElem?_take, if_pos hlt] at hj
    rw [← hj]
    simp
theorem heap_setCells_same (g : Nat) (t : TypeId) : ∀ (vs : List Value) (w : World) (o : Nat) (cur : Array Value), w.heap[g]? = some (.cells cur t (0, 0)) →
    ∃ cur' : Array Value, (w.setCells g o vs).heap[g]? = some (.cells cur' t (0, 0)) ∧ cur'.size = cur.size ∧ ∀ i, i < cur.size → cur'[i]? = if o ≤ i ∧ i < o + vs.length then vs[i - o]? else cur[i]? := by
  intro vs
  induction vs with
  | nil => exact fun w o cur hg => ⟨cur, hg, rfl, fun i _ => by rw [if_neg (by simp)]⟩
  | cons v vs ih =>
    intro w o cur hg
    obtain ⟨cur', h1, h2, h3⟩ := ih (w.setCell ⟨g, o, none⟩ v) (o + 1) (cur.setIfInBounds o v) (heap_setCell_same w g o _ _ _ hg)
    refine ⟨cur', h1, by rw [h2]; simp, fun i hi => ?_⟩
    rw [h3 i (by simpa using hi), List.length_cons]
    by_cases e : i = o
    · subst e
      rw [if_neg (by omega), if_pos (by omega), Nat.sub_self]
      simp [hi]
    · by_cases h4 : o + 1 ≤ i ∧ i < o + 1 + vs.length
      · rw [if_pos h4, if_pos (by omega), show i - o = (i - (o + 1)) + 1 by omega, List.getElem?_cons_succ]
      · rw [if_neg h4, if_neg (by omega), Array.getElem?_setIfInBounds_ne (by omega)]
structure Br where
  a : Option Addr
  c : Nat
  l : List Nat
def brApart (s t : Br) : Prop := ∀ x y, s.a = some x → t.a = some y → x.block ≠ y.block
structure Fam (w W : World) (T : List Br) : Prop where
  own : ∀ t ∈ T, Own w W t.a t.c t.l ∧ B8 t.l
  dist : T.Pairwise brApart
theorem Fam.nil (w W : World) : Fam w W [] := ⟨fun _ h => (List.not_mem_nil h).elim, List.Pairwise.nil⟩
theorem Fam.keep {w W W' : World} {T : List Br} (h : Fam w W T) (hb : Below W.heap.size W W') : Fam w W' T := ⟨fun t ht => ⟨(h.own t ht).1.keep hb, (h.own t ht).2⟩, h.dist⟩
theorem Fam.add {w W W' : World} {T U : List Br} (h : Fam w W T) (k : Fam W W' U) (hb : Below W.heap.size W W') (hw : Below w.heap.size w W) : Fam w W' (T ++ U) := by
  refine ⟨fun t ht => ?_, List.pairwise_append.2 ⟨h.dist, k.dist, fun s hs t ht x y hx hy e => ?_⟩⟩
  · rcases List.mem_append.1 ht with ht | ht
    · exact ⟨(h.own t ht).1.keep hb, (h.own t ht).2⟩
    · exact ⟨Own.pre hw (k.own t ht).1, (k.own t ht).2⟩
  · have h1 := (h.own s hs).1.r.lt hx
    have h2 := (k.own t ht).1.fresh hy
    omega
theorem Fam.sub {w W : World} {T U : List Br} (h : Fam w W T) (hs : U.Sublist T) : Fam w W U := ⟨fun t ht => h.own t (hs.subset ht), h.dist.sublist hs⟩
def Iv.rows (r : Iv) : List Br := [⟨r.aK, r.cK, r.key⟩, ⟨r.aV, r.cV, r.val⟩]
def rowsOf (L : List Iv) : List Br := (L.map Iv.rows).flatten
theorem rowsOf_append (L M : List Iv) : rowsOf (L ++ M) = rowsOf L ++ rowsOf M := by simp [rowsOf]
theorem rowsOf_cons (r : Iv) (M : List Iv) : rowsOf (r :: M) = r.rows ++ rowsOf M := by simp [rowsOf]
theorem rowsOf_one (r : Iv) : rowsOf [r] = r.rows := by simp [rowsOf]
theorem Io.fam {w W : World} {r : Iv} (h : Io w W r) : Fam w W r.rows :=
  ⟨fun t ht => by
    simp only [Iv.rows, List.mem_cons, List.not_mem_nil, or_false] at ht
    rcases ht with rfl | rfl
    · exact ⟨h.k, h.k8⟩
    · exact ⟨h.v, h.v8⟩, List.pairwise_cons.2 ⟨fun t ht => by rw [List.mem_singleton.1 ht]; exact h.apart, List.pairwise_singleton _ _⟩⟩
theorem Fam.io {w W : World} {r : Iv} (h : Fam w W r.rows) : Io w W r :=
  ⟨(h.own ⟨r.aK, r.cK, r.key⟩ (by simp [Iv.rows])).1, (h.own ⟨r.aV, r.cV, r.val⟩ (by simp [Iv.rows])).1, (List.pairwise_cons.1 h.dist).1 ⟨r.aV, r.cV, r.val⟩ (by simp), (h.own ⟨r.aK, r.cK, r.key⟩ (by simp [Iv.rows])).2, (h.own ⟨r.aV, r.cV, r.val⟩ (by simp [Iv.rows])).2⟩
theorem rows_sub {L : List Iv} {r : Iv} (h : r ∈ L) : r.rows.Sublist (rowsOf L) := by
  obtain ⟨a, b, rfl⟩ := List.append_of_mem h
  rw [rowsOf_append, rowsOf_cons]
  exact (List.sublist_append_left _ _).trans (List.sublist_append_right _ _)
theorem Jw.ne {w : World} {a b : Option Addr} {cap c : Nat} {L : List Iv} {l : List Nat} (h : Jw w a cap L) (k : Rw w b c l) {x y : Addr} (hx : a = some x) (hy : b = some y) : x.block ≠ y.block := by
  intro e
  rcases h.cases with ⟨rfl, _⟩ | ⟨g, cur, rfl, hg, _⟩
  · cases hx
  · rcases k.cases with ⟨rfl, _⟩ | ⟨g', cur', rfl, hg', _⟩
    · cases hy
    · cases hx; cases hy
      dsimp only at e
      subst e
      rw [hg] at hg'
      simp only [Option.some.injEq, Obj.cells.injEq] at hg'
      exact absurd hg'.2.1 (by decide)
theorem Own.but {S : Nat → Prop} {w W W' : World} {a : Option Addr} {cap : Nat} {l : List Nat} (h : Own w W a cap l) (hb : But S W W') (hw : Below w.heap.size w W') (hn : ∀ x, a = some x → ¬ S x.block) : Own w W' a cap l := ⟨h.r.but hb hn, h.n, hw⟩
theorem Fam.but {S : Nat → Prop} {w W W' : World} {T : List Br} (h : Fam w W T) (hb : But S W W') (hw : Below w.heap.size w W') (hn : ∀ t ∈ T, ∀ x, t.a = some x → ¬ S x.block) : Fam w W' T := ⟨fun t ht => ⟨(h.own t ht).1.but hb hw (hn t ht), (h.own t ht).2⟩, h.dist⟩
structure Pv where
  kind : Int
  level : Int
  aI : Option Addr
  cI : Nat
  items : List Iv
  aD : Option Addr
  cD : Nat
  data : List Nat
  next : Int
def Pv.cs (p : Pv) : Array Value := #[.int .i64 p.kind, .int .i64 p.level, .slice p.aI p.items.length p.cI, .slice p.aD p.data.length p.cD, .int .i64 p.next]
def Pv.vl (p : Pv) : Value := .agg p.cs
def Pv.pg (p : Pv) : Pg := ⟨p.kind, p.level, p.items.map Iv.it, p.data, p.next⟩
def Pv.zero : Pv := ⟨0, 0, none, 0, [], none, 0, [], 0⟩
structure Pi (w : World) (p : Pv) : Prop where
  it : Js w p.aI p.items
  ci : p.items.length ≤ p.cI
  bd : Bs w p.aD p.data
  cd : p.data.length ≤ p.cD
  nk : N64 p.kind
  nl : N64 p.level
  nn : N64 p.next
theorem Pi.keep {w w' : World} {p : Pv} (h : Pi w p) (hb : Below w.heap.size w w') : Pi w' p := ⟨h.it.keep hb, h.ci, h.bd.keep hb, h.cd, h.nk, h.nl, h.nn⟩
theorem Pi.zero (w : World) : Pi w Pv.zero := ⟨⟨fun _ h => (List.not_mem_nil h).elim, by simp [Pv.zero], .inl rfl⟩, Nat.le_refl _, Bs.nil w, Nat.le_refl _, by simp [Pv.zero, N64], by simp [Pv.zero, N64], by simp [Pv.zero, N64]⟩
theorem Pv.at (p : Pv) (i : Nat) : p.pg.at i = (p.items.getD i Iv.zero).it := by
  show (p.items.map Iv.it).getD i It.zero = _
  have : It.zero = Iv.zero.it := rfl
  rw [this]
  simp [List.getD_eq_getElem?_getD, List.getElem?_map]
theorem sizePage : (Tryz.prog.info? 93).map (·.size) = some 5 := by kernel_rfl
end Go.Proofs.YtbhigodjbfoeoaaGreat
end
section
namespace Go.Proofs.YtbhigodjbfoeoaaGreat
open Go.RowKit
open Go.ChangeMaps (setBlock)
open Go.MapKept
structure Mo (es : Array MapEntry) (clock : Nat) (f : Int → Option Value) : Prop where
  st : Stamped es clock
  key : ∀ e ∈ es.toList, ∃ k : Int, e.key = .int .i64 k ∧ f k = some e.val
  has : ∀ k v, f k = some v → ∃ e ∈ es.toList, e.key = .int .i64 k
theorem Mo.isKey {es : Array MapEntry} {clock : Nat} {f : Int → Option Value} (h : Mo es clock f) : ∀ x ∈ es.toList, IsKey (.int .i64) x.key := by
  intro x hx
  obtain ⟨k, hk, _⟩ := h.key x hx
  rw [hk]
  rfl
theorem isKm (k : Int) : IsKey (.int .i64) (.int .i64 k) := rfl
theorem Mo.empty : Mo #[] 0 (fun _ => none) := ⟨stamped_empty 0, by simp, by simp⟩
theorem Mo.find {es : Array MapEntry} {clock : Nat} {f : Int → Option Value} (h : Mo es clock f) (k : Int) :
    (Instr.findNow (.int .i64) (.int .i64 k) es.toList 0 = some none ∧ f k = none ∧ ∀ x ∈ es.toList, x.key ≠ .int .i64 k) ∨
      ∃ j e, Instr.findNow (.int .i64) (.int .i64 k) es.toList 0 = some (some (j, e.val)) ∧ es.toList[j]? = some e ∧ e.key = .int .i64 k ∧ f k = some e.val := by
  rcases findNow_spec (isKm k) es.toList 0 h.isKey with ⟨h1, h2⟩ | ⟨j, e, h1, h2, h3⟩
  · refine .inl ⟨h1, ?_, h2⟩
    cases hf : f k with
    | none => rfl
    | some v =>
      obtain ⟨e, he, hk⟩ := h.has k v hf
      exact absurd hk (h2 e he)
  · refine .inr ⟨j, e, by simpa using h1, h2, h3, ?_⟩
    obtain ⟨k', hk, hv⟩ := h.key e (List.mem_of_getElem? h2)
    rw [h3] at hk
    simp only [Value.int.injEq, true_and] at hk
    rw [hk]; exact hv
theorem Mo.congr {es : Array MapEntry} {clock : Nat} {f g : Int → Option Value} (h : Mo es clock f) (e : ∀ k, g k = f k) : Mo es clock g := by
  obtain rfl : g = f := funext e
  exact h
def mput (f : Int → Option Value) (k : Int) (v : Value) : Int → Option Value := fun x => if x = k then some v else f x
def mdel (f : Int → Option Value) (k : Int) : Int → Option Value := fun x => if x = k then none else f x
theorem nodup_idx {α : Type} {l : List α} (h : l.Nodup) {i j : Nat} {a : α} (hi : l[i]? = some a) (hj : l[j]? = some a) : i = j := by
  obtain ⟨hi1, hi2⟩ := List.getElem?_eq_some_iff.1 hi
  obtain ⟨hj1, hj2⟩ := List.getElem?_eq_some_iff.1 hj
  rcases Nat.lt_trichotomy i j with h1 | h1 | h1
  · exact absurd (hi2.trans hj2.symm) (List.pairwise_iff_getElem.1 h i j hi1 hj1 h1)
  · exact h1
  · exact absurd (hj2.trans hi2.symm) (List.pairwise_iff_getElem.1 h j i hj1 hi1 h1)
theorem nodup_key {es : Array MapEntry} {clock : Nat} (h : Stamped es clock) {i j : Nat} {a b : MapEntry} (hi : es.toList[i]? = some a) (hj : es.toList[j]? = some b) (hk : a.key = b.key) : i = j := by
  obtain ⟨_, _, h3⟩ := h
  exact nodup_idx h3 (a := a.key) (by rw [List.getElem?_map, hi]; rfl) (by rw [List.getElem?_map, hj, hk]; rfl)
theorem Mo.push {es : Array MapEntry} {clock : Nat} {f : Int → Option Value} (h : Mo es clock f) (k : Int) (v : Value) (hn : ∀ x ∈ es.toList, x.key ≠ .int .i64 k) :
    Mo (es.push { key := .int .i64 k, val := v, born := clock }) (clock + 1) (mput f k v) := by
  refine ⟨stamped_push h.st hn, ?_, ?_⟩
  · intro e he
    simp only [Array.toList_push, List.mem_append, List.mem_singleton] at he
    rcases he with he | rfl
    · obtain ⟨k', hk, hv⟩ := h.key e he
      refine ⟨k', hk, ?_⟩
      unfold mput
      rw [if_neg (fun e' => hn e he (by rw [hk, e']))]
      exact hv
    · exact ⟨k, rfl, by simp [mput]⟩
  · intro k' v' hv
    by_cases e : k' = k
    · subst e
      exact ⟨_, by simp only [Array.toList_push, List.mem_append, List.mem_singleton]; exact .inr rfl, rfl⟩
    · unfold mput at hv
      rw [if_neg e] at hv
      obtain ⟨x, hx, hk⟩ := h.has k' v' hv
      exact ⟨x, by simp [hx] , hk⟩
theorem Mo.modify {es : Array MapEntry} {clock : Nat} {f : Int → Option Value} (h : Mo es clock f) (k : Int) (v : Value) (j : Nat) (e : MapEntry) (hj : es.toList[j]? = some e) (hk : e.key = .int .i64 k) :
    Mo (es.modify j fun e => { e with key := .int .i64 k, val := v }) clock (mput f k v) := by
  have hj' : es[j]? = some e := by simpa using hj
  have hkey : ∀ e', es[j]? = some e' → ({ e' with key := .int .i64 k, val := v } : MapEntry).key = e'.key := fun e' he' => by rw [hj'] at he'; cases he'; exact hk.symm
  have hget : ∀ i : Nat, (es.modify j fun e => { e with key := .int .i64 k, val := v }).toList[i]? = if j = i then (es.toList[i]?).map (fun e => { e with key := .int .i64 k, val := v }) else es.toList[i]? := by
    intro i
    simp only [Array.getElem?_toList, Array.getElem?_modify]
  refine ⟨stamped_modify h.st _ _ (fun _ _ => rfl) (fun e' _ he' => hkey e' he'), ?_, ?_⟩
  · intro x hx
    obtain ⟨i, hi⟩ := List.getElem?_of_mem hx
    rw [hget] at hi
    by_cases e1 : j = i
    · subst e1
      rw [if_pos rfl, hj] at hi
      simp only [Option.map_some, Option.some.injEq] at hi
      subst hi
      exact ⟨k, rfl, by simp [mput]⟩
    · rw [if_neg e1] at hi
      obtain ⟨k', hk', hv⟩ := h.key x (List.mem_of_getElem? hi)
      refine ⟨k', hk', ?_⟩
      unfold mput
      rw [if_neg (fun e' => e1 (nodup_key h.st hj hi (by rw [hk, hk', e'])))]
      exact hv
  · intro k' v' hv
    by_cases e1 : k' = k
    · subst e1
      refine ⟨_, List.mem_of_getElem? (i := j) (by rw [hget, if_pos rfl, hj]; rfl), rfl⟩
    · unfold mput at hv
      rw [if_neg e1] at hv
      obtain ⟨x, hx, hk'⟩ := h.has k' v' hv
      obtain ⟨i, hi⟩ := List.getElem?_of_mem hx
      refine ⟨x, List.mem_of_getElem? (i := i) ?_, hk'⟩
      rw [hget, if_neg ?_]
      · exact hi
      · intro e2
        subst e2
        rw [hj] at hi
        cases hi
        rw [hk] at hk'
        simp only [Value.int.injEq, true_and] at hk'
        exact e1 hk'.symm
theorem Mo.erase {es : Array MapEntry} {clock : Nat} {f : Int → Option Value} (h : Mo es clock f) (k : Int) (j : Nat) (e : MapEntry) (hj : es.toList[j]? = some e) (hk : e.key = .int .i64 k) :
    Mo (es.eraseIdxIfInBounds j) clock (mdel f k) := by
  have hlt : j < es.size := by
    have := (List.getElem?_eq_some_iff.1 hj).1
    simpa using this
  have hl : (es.eraseIdxIfInBounds j).toList = es.toList.eraseIdx j := by
    unfold Array.eraseIdxIfInBounds
    rw [dif_pos hlt, Array.toList_eraseIdx]
  have hmem : ∀ x, x ∈ es.toList.eraseIdx j ↔ ∃ i, i ≠ j ∧ es.toList[i]? = some x := by
    intro x
    rw [List.mem_eraseIdx_iff_getElem?]
  refine ⟨stamped_erase h.st j, ?_, ?_⟩
  · intro x hx
    rw [hl, hmem] at hx
    obtain ⟨i, hne, hi⟩ := hx
    obtain ⟨k', hk', hv⟩ := h.key x (List.mem_of_getElem? hi)
    refine ⟨k', hk', ?_⟩
    unfold mdel
    rw [if_neg (fun e' => hne (nodup_key h.st hi hj (by rw [hk, hk', e'])))]
    exact hv
  · intro k' v' hv
    unfold mdel at hv
    by_cases e1 : k' = k
    · rw [if_pos e1] at hv; cases hv
    · rw [if_neg e1] at hv
      obtain ⟨x, hx, hk'⟩ := h.has k' v' hv
      obtain ⟨i, hi⟩ := List.getElem?_of_mem hx
      refine ⟨x, ?_, hk'⟩
      rw [hl, hmem]
      refine ⟨i, fun e2 => ?_, hi⟩
      subst e2
      rw [hj] at hi
      cases hi
      rw [hk] at hk'
      simp only [Value.int.injEq, true_and] at hk'
      exact e1 hk'.symm
def Mp (w : World) (b : Nat) (f : Int → Option Value) : Prop := ∃ es clock, w.heap[b]? = some (.map es clock) ∧ Mo es clock f
theorem Mp.lt {w : World} {b : Nat} {f : Int → Option Value} (h : Mp w b f) : b < w.heap.size := by
  obtain ⟨es, clock, hb, _⟩ := h
  exact (Array.getElem?_eq_some_iff.1 hb).1
theorem Mp.of_block {w w' : World} {b : Nat} {f : Int → Option Value} (h : Mp w b f) (hb : w'.heap[b]? = w.heap[b]?) : Mp w' b f := by
  obtain ⟨es, clock, h1, h2⟩ := h
  exact ⟨es, clock, hb.trans h1, h2⟩
theorem Mp.but {S : Nat → Prop} {w w' : World} {b : Nat} {f : Int → Option Value} (h : Mp w b f) (hb : But S w w') (hn : ¬ S b) : Mp w' b f := h.of_block (hb.block b h.lt hn)
theorem Mp.keep {w w' : World} {b : Nat} {f : Int → Option Value} (h : Mp w b f) (hb : Below w.heap.size w w') : Mp w' b f := h.of_block (hb.block b h.lt)
theorem Mp.made (w : World) : Mp (w.alloc (.map #[] 0)) w.heap.size (fun _ => none) := ⟨#[], 0, (heap_alloc w _).1, Mo.empty⟩
theorem Mp.congr {w : World} {b : Nat} {f g : Int → Option Value} (h : Mp w b f) (e : ∀ k, g k = f k) : Mp w b g := by
  obtain rfl : g = f := funext e
  exact h
theorem But.setBlock {S : Nat → Prop} {w : World} {b : Nat} (o : Obj) (hS : S b) : But S w (setBlock w b o) :=
  ⟨rfl, rfl, rfl, by simp [Go.ChangeMaps.setBlock], fun k _ hn => by
    show (w.heap.setIfInBounds b o)[k]? = _
    rw [Array.getElem?_setIfInBounds_ne]
    intro e; subst e; exact hn hS⟩
section
variable {P : Program} {w : World} {b : Nat} {f : Int → Option Value} {T K E : TypeId}
theorem Mp.look (h : Mp w b f) (hT : P.underlying T = some (.map K E)) (hK : P.underlying K = some (.int .i64)) (z : Value) (hz : (zeroValue E).run P w = .ok z w) (k : Int) (c : Bool) :
    (Instr.lookup T (.map (some b)) (.int .i64 k) c).run P w = .ok (if c then .tuple #[(f k).getD z, .bool (f k).isSome] else (f k).getD z) w := by
  obtain ⟨es, clock, hb, hm⟩ := h
  rcases hm.find k with ⟨h1, h2, _⟩ | ⟨j, e, h1, _, _, h4⟩
  · simp [Instr.lookup, run_underlying hT, Go.MapKept.run_getObj_map hb, run_checkKey hK (isKm k), run_findKey hK h1, Result.andThen, hz, h2]
  · simp [Instr.lookup, run_underlying hT, Go.MapKept.run_getObj_map hb, run_checkKey hK (isKm k), run_findKey hK h1, Result.andThen, h4]
theorem Mp.store (h : Mp w b f) (hT : P.underlying T = some (.map K E)) (hK : P.underlying K = some (.int .i64)) (k : Int) (v : Value) :
    ∃ w', (Instr.mapUpdate T (.map (some b)) (.int .i64 k) v).run P w = .ok () w' ∧ Mp w' b (mput f k v) ∧ But (· = b) w w' ∧ w'.heap.size = w.heap.size := by
  obtain ⟨es, clock, hb, hm⟩ := h
  rcases hm.find k with ⟨h1, h2, h3⟩ | ⟨j, e, h1, h2, h3, h4⟩
  · refine ⟨setBlock w b (.map (es.push { key := .int .i64 k, val := v, born := clock }) (clock + 1)), ?_, ⟨_, _, (heap_set hb).1, hm.push k v h3⟩, But.setBlock _ rfl, by simp [setBlock]⟩
    simp [Instr.mapUpdate, run_underlying hT, Go.MapKept.run_getObj_map hb, run_checkKey hK (isKm k), run_findKey hK h1, Go.MapKept.run_setObj_map _ hb, Result.andThen, setBlock]
  · have hj : es[j]? = some e := by simpa using h2
    refine ⟨setBlock w b (.map (es.modify j fun e => { e with key := .int .i64 k, val := v }) clock), ?_, ⟨_, _, (heap_set hb).1, hm.modify k v j e h2 h3⟩, But.setBlock _ rfl, by simp [setBlock]⟩
    simp [Instr.mapUpdate, run_underlying hT, Go.MapKept.run_getObj_map hb, run_checkKey hK (isKm k), run_findKey hK h1, hj, h3, run_keyThatStays (isKm k), Go.MapKept.run_setObj_map _ hb, Result.andThen, setBlock]
theorem Mp.drop (h : Mp w b f) (hT : P.underlying T = some (.map K E)) (hK : P.underlying K = some (.int .i64)) (k : Int) (kt : TypeId) :
    ∃ w', (∀ ty, (Builtin.delete_ #[T, kt] ty #[.map (some b), .int .i64 k]).run P w = .ok (.tuple #[]) w') ∧ Mp w' b (mdel f k) ∧ But (· = b) w w' ∧ w'.heap.size = w.heap.size := by
  obtain ⟨es, clock, hb, hm⟩ := h
  rcases hm.find k with ⟨h1, h2, h3⟩ | ⟨j, e, h1, h2, h3, h4⟩
  · refine ⟨setBlock w b (.map es clock), ?_, ⟨_, _, (heap_set hb).1, hm.congr fun x => ?_⟩, But.setBlock _ rfl, by simp [setBlock]⟩
    · intro ty
      simp [Builtin.delete_, run_underlying hT, Go.MapKept.run_getObj_map hb, run_checkKey hK (isKm k), run_findKey hK h1, Go.MapKept.run_setObj_map _ hb, Result.andThen, setBlock]
    · unfold mdel
      split
      · rename_i e; rw [e, h2]
      · rfl
  · refine ⟨setBlock w b (.map (es.eraseIdxIfInBounds j) clock), ?_, ⟨_, _, (heap_set hb).1, hm.erase k j e h2 h3⟩, But.setBlock _ rfl, by simp [setBlock]⟩
    intro ty
    simp [Builtin.delete_, run_underlying hT, Go.MapKept.run_getObj_map hb, run_checkKey hK (isKm k), run_findKey hK h1, Go.MapKept.run_setObj_map _ hb, Result.andThen, setBlock]
end
section
variable {P : Program} {w : World} {b r : Nat} {f : Int → Option Value} {T K E : TypeId}
end
end Go.Proofs.YtbhigodjbfoeoaaGreat
end
