import Derived.Test.YtcpkinhneehomaaGreatWqB0
import Derived.Maps.RangeRun
import Derived.MapKept
set_option linter.unusedVariables false
set_option linter.unusedSimpArgs false
namespace Go.Proofs.YtcpkinhneehomaaGreat
open Go.RowKit
open Go.ChangeMaps (setBlock)
open Go.MapKept
variable {f g:Int->Option Value}{b clock i j:Nat}{S:Nat->Prop}{w w':World}
structure Mo(es:Array MapEntry)(clock:Nat)(f:Int->Option Value):Prop where
 st:Stamped es clock
 key:∀e∈es.toList,∃k:Int,e.key=.int .i64 k/\f k=some e.val
 has:∀k v,f k=some v->∃e∈es.toList,e.key=.int .i64 k
theorem Mo.isKey{es:Array MapEntry}(h:Mo es clock f):∀x∈es.toList,IsKey (.int .i64) x.key:=by
 intro x hx;obtain⟨k,hk,_⟩:=h.key x hx;rw[hk];rfl
theorem isKm(k:Int):IsKey (.int .i64) (.int .i64 k):=rfl
theorem Mo.empty:Mo #[] 0 (fun _=>none):=⟨stamped_empty 0,by simp,by simp⟩
theorem Mo.find{es:Array MapEntry}(h:Mo es clock f)(k:Int):
 (Instr.findNow (.int .i64) (.int .i64 k) es.toList 0=some none/\f k=none/\∀x∈es.toList,x.key≠ .int .i64 k)\/
   ∃j e,Instr.findNow (.int .i64) (.int .i64 k) es.toList 0=some (some (j,e.val))/\es.toList[j]?=some e/\e.key=.int .i64 k/\f k=some e.val:=by
 rcases findNow_spec (isKm k) es.toList 0 h.isKey with⟨h1,h2⟩|⟨j,e,h1,h2,h3⟩
 · refine .inl ⟨h1,?_,h2⟩;cases hf:f k with
   |none=>rfl
   |some v=>
    obtain⟨e,he,hk⟩:=h.has k v hf;exact absurd hk (h2 e he)
 · refine .inr ⟨j,e,by simpa using h1,h2,h3,?_⟩
   obtain⟨k',hk,hv⟩:=h.key e (List.mem_of_getElem? h2);rw[h3] at hk;simp only[Value.int.injEq,true_and] at hk;rw[hk];exact hv
theorem Mo.congr{es:Array MapEntry}(h:Mo es clock f)(e:∀k,g k=f k):Mo es clock g:=by
 obtain rfl:g=f:=funext e;exact h
def mput(f:Int->Option Value)(k:Int)(v:Value):Int->Option Value:=fun x=>if x=k then some v else f x
def mdel(f:Int->Option Value)(k:Int):Int->Option Value:=fun x=>if x=k then none else f x
theorem nodup_idx{α:Type}{l:List α}(h:l.Nodup){a:α}(hi:l[i]?=some a)(hj:l[j]?=some a):i=j:=by
 obtain⟨hi1,hi2⟩:=List.getElem?_eq_some_iff.1 hi;obtain⟨hj1,hj2⟩:=List.getElem?_eq_some_iff.1 hj;rcases Nat.lt_trichotomy i j with h1|h1|h1
 · exact absurd (hi2.trans hj2.symm) (List.pairwise_iff_getElem.1 h i j hi1 hj1 h1)
 · exact h1
 · exact absurd (hj2.trans hi2.symm) (List.pairwise_iff_getElem.1 h j i hj1 hi1 h1)
theorem nodup_key{es:Array MapEntry}(h:Stamped es clock){a b:MapEntry}(hi:es.toList[i]?=some a)(hj:es.toList[j]?=some b)(hk:a.key=b.key):i=j:=by
 obtain⟨_,_,h3⟩:=h;exact nodup_idx h3 (a:=a.key) (by rw[List.getElem?_map,hi];rfl) (by rw[List.getElem?_map,hj,hk];rfl)
theorem Mo.push{es:Array MapEntry}(h:Mo es clock f)(k:Int)(v:Value)(hn:∀x∈es.toList,x.key≠ .int .i64 k):
 Mo (es.push {key:=.int .i64 k,val:=v,born:=clock}) (clock+1) (mput f k v):=by
 refine⟨stamped_push h.st hn,?_,?_⟩
 · intro e he;simp only[Array.toList_push,List.mem_append,List.mem_singleton] at he;rcases he with he|rfl
   · obtain⟨k',hk,hv⟩:=h.key e he;refine⟨k',hk,?_⟩;unfold mput;rw[if_neg (fun e'=>hn e he (by rw[hk,e']))]
     exact hv
   · exact⟨k,rfl,by simp[mput]⟩
 · intro k' v' hv;by_cases e:k'=k
   · subst e;exact⟨_,by simp only[Array.toList_push,List.mem_append,List.mem_singleton];exact .inr rfl,rfl⟩
   · unfold mput at hv;rw[if_neg e] at hv;obtain⟨x,hx,hk⟩:=h.has k' v' hv;exact⟨x,by simp[hx],hk⟩
theorem Mo.modify{es:Array MapEntry}(h:Mo es clock f)(k:Int)(v:Value)(j:Nat)(e:MapEntry)(hj:es.toList[j]?=some e)(hk:e.key=.int .i64 k):
 Mo (es.modify j fun e=>{e with key:=.int .i64 k,val:=v}) clock (mput f k v):=by
 have hj':es[j]?=some e:=by simpa using hj
 have hkey:∀e',es[j]?=some e'->({e' with key:=.int .i64 k,val:=v}:MapEntry).key=e'.key:=fun e' he'=>by rw[hj'] at he';cases he';exact hk.symm
 have hget:∀i:Nat,(es.modify j fun e=>{e with key:=.int .i64 k,val:=v}).toList[i]?=if j=i then (es.toList[i]?).map (fun e=>{e with key:=.int .i64 k,val:=v}) else es.toList[i]?:=by
  intro i;simp only[Array.getElem?_toList,Array.getElem?_modify]
 refine⟨stamped_modify h.st _ _ (fun _ _=>rfl) (fun e' _ he'=>hkey e' he'),?_,?_⟩
 · intro x hx;obtain⟨i,hi⟩:=List.getElem?_of_mem hx;rw[hget] at hi;by_cases e1:j=i
   · subst e1;rw[if_pos rfl,hj] at hi;simp only[Option.map_some,Option.some.injEq] at hi;subst hi;exact⟨k,rfl,by simp[mput]⟩
   · rw[if_neg e1] at hi;obtain⟨k',hk',hv⟩:=h.key x (List.mem_of_getElem? hi);refine⟨k',hk',?_⟩;unfold mput;rw[if_neg (fun e'=>e1 (nodup_key h.st hj hi (by rw[hk,hk',e'])))]
     exact hv
 · intro k' v' hv;by_cases e1:k'=k
   · subst e1;refine⟨_,List.mem_of_getElem? (i:=j) (by rw[hget,if_pos rfl,hj];rfl),rfl⟩
   · unfold mput at hv;rw[if_neg e1] at hv;obtain⟨x,hx,hk'⟩:=h.has k' v' hv;obtain⟨i,hi⟩:=List.getElem?_of_mem hx;refine⟨x,List.mem_of_getElem? (i:=i) ?_,hk'⟩;rw[hget,if_neg ?_]
     · exact hi
     · intro e2;subst e2;rw[hj] at hi;cases hi;rw[hk] at hk';simp only[Value.int.injEq,true_and] at hk';exact e1 hk'.symm
theorem Mo.erase{es:Array MapEntry}(h:Mo es clock f)(k:Int)(j:Nat)(e:MapEntry)(hj:es.toList[j]?=some e)(hk:e.key=.int .i64 k):
 Mo (es.eraseIdxIfInBounds j) clock (mdel f k):=by
 have hlt:j<es.size:=by
  have:=(List.getElem?_eq_some_iff.1 hj).1;simpa using this
 have hl:(es.eraseIdxIfInBounds j).toList=es.toList.eraseIdx j:=by
  unfold Array.eraseIdxIfInBounds;rw[dif_pos hlt,Array.toList_eraseIdx]
 have hmem:∀x,x∈es.toList.eraseIdx j↔∃i,i≠j/\es.toList[i]?=some x:=by
  intro x;rw[List.mem_eraseIdx_iff_getElem?]
 refine⟨stamped_erase h.st j,?_,?_⟩
 · intro x hx;rw[hl,hmem] at hx;obtain⟨i,hne,hi⟩:=hx;obtain⟨k',hk',hv⟩:=h.key x (List.mem_of_getElem? hi);refine⟨k',hk',?_⟩;unfold mdel;rw[if_neg (fun e'=>hne (nodup_key h.st hi hj (by rw[hk,hk',e'])))]
   exact hv
 · intro k' v' hv;unfold mdel at hv;by_cases e1:k'=k
   · rw[if_pos e1] at hv;cases hv
   · rw[if_neg e1] at hv;obtain⟨x,hx,hk'⟩:=h.has k' v' hv;obtain⟨i,hi⟩:=List.getElem?_of_mem hx;refine⟨x,?_,hk'⟩;rw[hl,hmem];refine⟨i,fun e2=>?_,hi⟩
     subst e2;rw[hj] at hi;cases hi;rw[hk] at hk';simp only[Value.int.injEq,true_and] at hk';exact e1 hk'.symm
def Mp(w:World)(b:Nat)(f:Int->Option Value):Prop:=∃es clock,w.heap[b]?=some (.map es clock)/\Mo es clock f
theorem Mp.lt(h:Mp w b f):b<w.heap.size:=by
 obtain⟨es,clock,hb,_⟩:=h;exact(Array.getElem?_eq_some_iff.1 hb).1
theorem Mp.of_block(h:Mp w b f)(hb:w'.heap[b]?=w.heap[b]?):Mp w' b f:=by
 obtain⟨es,clock,h1,h2⟩:=h;exact⟨es,clock,hb.trans h1,h2⟩
theorem Mp.but(h:Mp w b f)(hb:But S w w')(hn:¬S b):Mp w' b f:=h.of_block (hb.block b h.lt hn)
theorem Mp.keep(h:Mp w b f)(hb:Below w.heap.size w w'):Mp w' b f:=h.of_block (hb.block b h.lt)
theorem Mp.made(w:World):Mp (w.alloc (.map #[] 0)) w.heap.size (fun _=>none):=⟨#[],0,(heap_alloc w _).1,Mo.empty⟩
theorem Mp.congr(h:Mp w b f)(e:∀k,g k=f k):Mp w b g:=by
 obtain rfl:g=f:=funext e;exact h
theorem But.setBlock(o:Obj)(hS:S b):But S w (setBlock w b o):=
 ⟨rfl,rfl,rfl,by simp[Go.ChangeMaps.setBlock],fun k _ hn=>by
   show(w.heap.setIfInBounds b o)[k]?=_;rw[Array.getElem?_setIfInBounds_ne];intro e;subst e;exact hn hS⟩
section
variable {P:Program} {w:World} {b:Nat} {f:Int->Option Value} {T K E:TypeId}
theorem Mp.look(h:Mp w b f)(hT:P.underlying T=some (.map K E))(hK:P.underlying K=some (.int .i64))(z:Value)(hz:(zeroValue E).run P w=.ok z w)(k:Int)(c:Bool):
 (Instr.lookup T (.map (some b)) (.int .i64 k) c).run P w=.ok (if c then .tuple #[(f k).getD z,.bool (f k).isSome] else (f k).getD z) w:=by
 obtain⟨es,clock,hb,hm⟩:=h;rcases hm.find k with⟨h1,h2,_⟩|⟨j,e,h1,_,_,h4⟩
 · simp[Instr.lookup,run_underlying hT,Go.MapKept.run_getObj_map hb,run_checkKey hK (isKm k),run_findKey hK h1,Result.andThen,hz,h2]
 · simp[Instr.lookup,run_underlying hT,Go.MapKept.run_getObj_map hb,run_checkKey hK (isKm k),run_findKey hK h1,Result.andThen,h4]
theorem Mp.store(h:Mp w b f)(hT:P.underlying T=some (.map K E))(hK:P.underlying K=some (.int .i64))(k:Int)(v:Value):
 ∃w',(Instr.mapUpdate T (.map (some b)) (.int .i64 k) v).run P w=.ok () w'/\Mp w' b (mput f k v)/\But (· =b) w w'/\w'.heap.size=w.heap.size:=by
 obtain⟨es,clock,hb,hm⟩:=h;rcases hm.find k with⟨h1,h2,h3⟩|⟨j,e,h1,h2,h3,h4⟩
 · refine⟨setBlock w b (.map (es.push {key:=.int .i64 k,val:=v,born:=clock}) (clock+1)),?_,⟨_,_,(heap_set hb).1,hm.push k v h3⟩,But.setBlock _ rfl,by simp[setBlock]⟩
   simp[Instr.mapUpdate,run_underlying hT,Go.MapKept.run_getObj_map hb,run_checkKey hK (isKm k),run_findKey hK h1,Go.MapKept.run_setObj_map _ hb,Result.andThen,setBlock]
 · have hj:es[j]?=some e:=by simpa using h2
   refine⟨setBlock w b (.map (es.modify j fun e=>{e with key:=.int .i64 k,val:=v}) clock),?_,⟨_,_,(heap_set hb).1,hm.modify k v j e h2 h3⟩,But.setBlock _ rfl,by simp[setBlock]⟩
   simp[Instr.mapUpdate,run_underlying hT,Go.MapKept.run_getObj_map hb,run_checkKey hK (isKm k),run_findKey hK h1,hj,h3,run_keyThatStays (isKm k),Go.MapKept.run_setObj_map _ hb,Result.andThen,setBlock]
theorem Mp.drop(h:Mp w b f)(hT:P.underlying T=some (.map K E))(hK:P.underlying K=some (.int .i64))(k:Int)(kt:TypeId):
 ∃w',(∀ty,(Builtin.delete_ #[T,kt] ty #[.map (some b),.int .i64 k]).run P w=.ok (.tuple #[]) w')/\Mp w' b (mdel f k)/\But (· =b) w w'/\w'.heap.size=w.heap.size:=by
 obtain⟨es,clock,hb,hm⟩:=h;rcases hm.find k with⟨h1,h2,h3⟩|⟨j,e,h1,h2,h3,h4⟩
 · refine⟨setBlock w b (.map es clock),?_,⟨_,_,(heap_set hb).1,hm.congr fun x=>?_⟩,But.setBlock _ rfl,by simp[setBlock]⟩
   · intro ty;simp[Builtin.delete_,run_underlying hT,Go.MapKept.run_getObj_map hb,run_checkKey hK (isKm k),run_findKey hK h1,Go.MapKept.run_setObj_map _ hb,Result.andThen,setBlock]
   · unfold mdel;split
     · rename_i e;rw[e,h2]
     · rfl
 · refine⟨setBlock w b (.map (es.eraseIdxIfInBounds j) clock),?_,⟨_,_,(heap_set hb).1,hm.erase k j e h2 h3⟩,But.setBlock _ rfl,by simp[setBlock]⟩
   intro ty;simp[Builtin.delete_,run_underlying hT,Go.MapKept.run_getObj_map hb,run_checkKey hK (isKm k),run_findKey hK h1,Go.MapKept.run_setObj_map _ hb,Result.andThen,setBlock]
end
section
variable {P:Program} {w:World} {b r:Nat} {f:Int->Option Value} {T K E:TypeId}
end
end Go.Proofs.YtcpkinhneehomaaGreat
