import Derived.Test.YtlboinokdhmacaaGreatDoorIrSide
namespace Go.Proofs.YtlboinokdhmacaaGreatDoor
set_option maxHeartbeats 64000000
set_option maxRecDepth 1000000
open Lib(hid)
section
open Go.RowKit
structure Put (b:Nat) (o:Obj) (w w':World):Prop where
 os:w'.os=w.os
 tape:w'.tape=w.tape
 output:w'.output=w.output
 size:w'.heap.size=w.heap.size
 at_b:w'.heap[b]? = some o
 rest:∀ k,k≠b→w'.heap[k]? = w.heap[k]?
theorem Yr (b:Nat) (T:TypeId):∀ (vs:List Value) (o:Nat) (w:World) (old:Array Value),w.heap[b]? = some (.cells old T (0,0)) →
 ∃ new,(w.setCells b o vs).heap[b]? = some (.cells new T (0,0))∧new.size=old.size∧∀ j,new[j]? = if o≤j∧j<o+vs.length∧j<old.size then vs[j - o]? else old[j]?
 | [],o,w,old,h=>⟨old,h,rfl,fun j=>by rw[if_neg (by simp;omega)]⟩
 | v :: r,o,w,old,h=>by
  have h1:(w.setCell ⟨b,o,none⟩ v).heap[b]? = some (.cells (old.setIfInBounds o v) T (0,0)):=by
   simp[World.setCell,Array.getElem?_modify,h]
  obtain⟨new,h2,h3,h4⟩:=Yr b T r (o+1) _ _ h1;refine⟨new,h2,by simpa using h3,fun j=>?_⟩;rw[h4 j];simp only[List.length_cons,Array.size_setIfInBounds]
  by_cases hj:o+1≤j∧j<o+1+r.length∧j<old.size
  · rw[if_pos hj,if_pos (by omega),show j - o=(j - (o+1))+1 by omega,List.getElem?_cons_succ]
  · rw[if_neg hj,Array.getElem?_setIfInBounds]
    by_cases hjo:o=j
    · subst hjo
      by_cases hl:o<old.size
      · rw[if_pos rfl,if_pos hl,if_pos (by omega)];simp
      · rw[if_pos rfl,if_neg hl,if_neg (by omega),Array.getElem?_eq_none (by omega)]
    · rw[if_neg hjo,if_neg (by omega)]
theorem Zf (b:Nat):∀ (vs:List Value) (o:Nat) (w:World),(w.setCells b o vs).os=w.os∧(w.setCells b o vs).tape=w.tape∧(w.setCells b o vs).output=w.output∧(w.setCells b o vs).heap.size=w.heap.size∧∀ k,k≠b→(w.setCells b o vs).heap[k]? = w.heap[k]?
 | [],_,_=>⟨rfl,rfl,rfl,rfl,fun _ _=>rfl⟩
 | v :: r,o,w=>by
  obtain⟨h1,h2,h3,h4,h5⟩:=Zf b r (o+1) (w.setCell ⟨b,o,none⟩ v);exact⟨h1,h2,h3,by rw[show (w.setCells b o (v :: r))=(w.setCell ⟨b,o,none⟩ v).setCells b (o+1) r from rfl,h4];simp[World.setCell],fun k hk=>(h5 k hk).trans (Below.heap_setCell _ _ _ _ (by simpa using hk))⟩
theorem XV {w:World} {b o n:Nat} {T:TypeId} {old:Array Value} (h:w.heap[b]? = some (.cells old T (0,0))) (hn:o+n≤old.size):w.there b o n:=fun j hj=>by
 rw[Lib.cell_of_heap h];exact⟨by rw[Array.getElem?_eq_getElem (by omega)];rfl,Lib.frozen_of_heap h _⟩
section
variable {P:Program} {ops:Array Oper} {rest:List Oper} {op:Oper} {a:Act} {w:World} {Q:Exit→Act→World→Prop}
theorem Xi {K:Act→World→Prop} (ty:TypeId) (x y:Operand) (ho:op.op = .store ty x y) (b o:Nat) (T:TypeId) (old cells new:Array Value)
 (hx:a.eval x = .pointer (some ⟨b,o,none⟩)) (hy:a.eval y = .agg cells) (hb:w.heap[b]? = some (.cells old T (0,0))) (hs:o+cells.size≤old.size) (hi:(P.info? ty).map (·.size)=some cells.size) (h1:cells.all (·.oneCell')=true)
 (hnew:new=old.extract 0 o++cells++old.extract (o+cells.size) old.size)
 (h:∀ w',Put b (.cells new T (0,0)) w w'→K (a.put op.dst undef) w'):op.wp P a w K Q:=by
 refine wp_store_mid ty x y ho b o cells hx hy (XV hb hs) hi h1 (h _ ?_);obtain⟨g1,g2,g3,g4,g5⟩:=Zf b cells.toList o w;obtain⟨n2,k1,k2,k3⟩:=Yr b T cells.toList o w old hb;refine⟨g1,g2,g3,g4, ?_,g5⟩;rw[k1]
 congr 2
 apply Array.ext_getElem?;intro j;rw[k3 j,hnew,Array.getElem?_append,Array.getElem?_append];simp only[Array.size_append,Array.size_extract,Array.length_toList,Nat.min_eq_left (show o≤old.size by omega),Nat.sub_zero,Array.getElem?_extract,Nat.min_self,Array.getElem?_toList]
 by_cases ha:j<o
 · rw[if_neg (by omega),if_pos (by omega),if_pos ha,if_pos (by omega)];simp
 · by_cases hc:j<o+cells.size
   · rw[if_pos (by omega),if_pos hc,if_neg ha]
   · rw[if_neg (by omega),if_neg hc]
     by_cases hd:j<old.size
     · rw[if_pos (by omega)];congr 1;omega
     · rw[if_neg (by omega),Array.getElem?_eq_none (by omega)]
theorem vN (hgd:op.guard=none) (ty:TypeId) (x y:Operand) (ho:op.op = .store ty x y) (b o:Nat) (T:TypeId) (old cells new:Array Value)
 (hx:a.eval x = .pointer (some ⟨b,o,none⟩)) (hy:a.eval y = .agg cells) (hb:w.heap[b]? = some (.cells old T (0,0))) (hs:o+cells.size≤old.size) (hi:(P.info? ty).map (·.size)=some cells.size) (h1:cells.all (·.oneCell')=true)
 (hnew:new=old.extract 0 o++cells++old.extract (o+cells.size) old.size)
 (h:∀ w',Put b (.cells new T (0,0)) w w'→wpList P ops Q rest (a.put op.dst undef) w'):wpList P ops Q (op :: rest) a w:=
 wpList_plain hgd fun _ hK=>Xi ty x y ho b o T old cells new hx hy hb hs hi h1 hnew fun w' hp=>hK _ _ (h w' hp)
theorem qD (hgd:op.guard=none) (ty:TypeId) (x y:Operand) (ho:op.op = .store ty x y) (b:Nat) (T:TypeId) (old cells:Array Value)
 (hx:a.eval x = .pointer (some ⟨b,0,none⟩)) (hy:a.eval y = .agg cells) (hb:w.heap[b]? = some (.cells old T (0,0))) (hs:old.size=cells.size) (hi:(P.info? ty).map (·.size)=some cells.size) (h1:cells.all (·.oneCell')=true)
 (h:∀ w',Put b (.cells cells T (0,0)) w w'→wpList P ops Q rest (a.put op.dst undef) w'):wpList P ops Q (op :: rest) a w:=
 vN hgd ty x y ho b 0 T old cells cells hx hy hb (by omega) hi h1 (by
  rw[show old.extract (0+cells.size) old.size=#[]from Array.extract_empty_of_stop_le_start (by omega),show old.extract 0 0=#[]from Array.extract_empty_of_stop_le_start (by omega)];simp) h
end
theorem Put.below {B b:Nat} {o:Obj} {a w w':World} (h:Put b o w w') (hA:Below B a w) (hb:B≤b):Below B a w':=
 ⟨h.os.trans hA.os,h.tape.trans hA.tape,h.output.trans hA.output,by rw[h.size];exact hA.size,fun k hk=>(h.rest k (by omega)).trans (hA.block k hk)⟩
end
section
open Go.RowKit
def xK (lo:Nat) (w:World) (Q:World→Prop):Prop:=∀ v:World,(∀ g,lo≤g→g<w.heap.size→v.heap[g]? = w.heap[g]?)→Q v
theorem xK.here {lo:Nat} {w:World} {Q:World→Prop} (h:xK lo w Q):Q w:=h w fun _ _ _=>rfl
theorem xK.mono {lo:Nat} {w:World} {Q R:World→Prop} (h:xK lo w Q) (k:∀ v,Q v→R v):xK lo w R:=fun v hv=>k v (h v hv)
theorem xK.step {lo lo':Nat} {w w':World} {Q:World→Prop} (h:xK lo w Q) (hlo:lo'≤lo) (hs:w.heap.size≤w'.heap.size) (hk:∀ g,lo≤g→g<w.heap.size→w'.heap[g]? = w.heap[g]?):xK lo' w' Q:=
 fun v hv=>h v fun g h1 h2=>(hv g (by omega) (by omega)).trans (hk g h1 h2)
def Kept (lo:Nat) (w w':World):Prop:=w.heap.size≤w'.heap.size∧∀ g,lo≤g→g<w.heap.size→w'.heap[g]? = w.heap[g]?
theorem Kept.refl (lo:Nat) (w:World):Kept lo w w:=⟨Nat.le_refl _,fun _ _ _=>rfl⟩
theorem Kept.trans {lo:Nat} {a b c:World} (h:Kept lo a b) (k:Kept lo b c):Kept lo a c:=⟨Nat.le_trans h.1 k.1,fun g h1 h2=>(k.2 g h1 (Nat.lt_of_lt_of_le h2 h.1)).trans (h.2 g h1 h2)⟩
theorem Kept.of_below {lo:Nat} {w w':World} (h:Below w.heap.size w w'):Kept lo w w':=⟨h.size,fun g _ h2=>h.block g h2⟩
theorem Kept.of_put {lo b:Nat} {o:Obj} {w w':World} (h:Put b o w w') (hb:b<lo):Kept lo w w':=⟨by rw[h.size];exact Nat.le_refl _,fun g h1 _=>h.rest g (by omega)⟩
theorem Kept.of_set {lo b o:Nat} {v:Value} {w:World} (hb:b<lo):Kept lo w (w.setCell ⟨b,o,none⟩ v):=⟨by simp[World.setCell],fun g h1 _=>Below.heap_setCell _ _ _ _ (by show g≠b;omega)⟩
theorem xK.kept {lo:Nat} {w w':World} {Q:World→Prop} (h:xK lo w Q) (k:Kept lo w w'):xK lo w' Q:=h.step (Nat.le_refl _) k.1 k.2
theorem jv {w:World} {b o:Nat} {v:Value} {T:TypeId} {old:Array Value} (h:w.heap[b]? = some (.cells old T (0,0))):Put b (.cells (old.setIfInBounds o v) T (0,0)) w (w.setCell ⟨b,o,none⟩ v):=
 ⟨rfl,rfl,rfl,by simp[World.setCell],by simp[World.setCell,Array.getElem?_modify,h],fun k hk=>Below.heap_setCell _ _ _ _ (by simpa using hk)⟩
structure TwS {α:Type} (cells:α→List Value) (E:TypeId) (kc:Nat) (In:World→Nat→α→Prop) (b N k:Nat) (w wr:World) (l':List α) (R:Array Value) (rest:List Value):Prop where
 len:l'.length=k
 below:Below b w wr
 lt:b<wr.heap.size
 row:wr.heap[b]? = some (.cells R E (0,0))
 list:R.toList=l'.flatMap cells++rest
 rest:rest.length=(N+2 - k)*kc
 new:∀ a ∈ l',xK (b+1) wr fun v=>In v wr.heap.size a
theorem wB {α:Type} {cells:α→List Value} {kc:Nat} (hc:∀ a,(cells a).length=kc):∀ l:List α,(l.flatMap cells).length=l.length*kc
 | []=>by simp
 | a :: r=>by rw[List.flatMap_cons,List.length_append,hc,wB hc r,List.length_cons,Nat.succ_mul];omega
theorem Zp (A:Array Value) (P M:List Value) (c:Array Value) (kc:Nat) (h:A.toList=P++M) (hc:c.size=kc) (hM:kc≤M.length) :
 (A.extract 0 P.length++c++A.extract (P.length+c.size) A.size).toList=P++c.toList++M.drop kc:=by
 rw[Array.toList_append,Array.toList_append,Array.toList_extract,Array.toList_extract]
 have e1:A.toList.extract 0 P.length=P:=by
  rw[h];simp[List.extract]
 have e2:A.toList.extract (P.length+c.size) A.size=M.drop kc:=by
  rw[h,hc];have:A.size=P.length+M.length:=by rw[←Array.length_toList,h,List.length_append]
  rw[this];simp only[List.extract];rw[List.drop_append];simp only[show P.length+kc - P.length=kc by omega,List.drop_eq_nil_of_le (show P.length≤P.length+kc by omega),List.nil_append];rw[List.take_of_length_le (by rw[List.length_drop];omega)]
 rw[e1,e2]
section
variable {α:Type} {cells:α→List Value} {E:TypeId} {kc:Nat} {In:World→Nat→α→Prop} {b N k:Nat} {w wr:World} {l':List α} {R:Array Value} {rest:List Value}
theorem TwS.rsize (h:TwS cells E kc In b N k w wr l' R rest) (hc:∀ a,(cells a).length=kc) (hk:k≤N+2):R.size=(N+2)*kc:=by
 rw[←Array.length_toList,h.list,List.length_append,wB hc,h.len,h.rest,←Nat.add_mul]
 congr 1;omega
theorem TwS.step (h:TwS cells E kc In b N k w wr l' R rest) (hc:∀ a,(cells a).length=kc) (hup:∀ v B B' a,B≤B'→In v B a→In v B' a) (hk:k<N) {w1 w2:World} {a:α} {new:Array Value}
 (hb1:Below wr.heap.size wr w1) (ha:xK wr.heap.size w1 fun v=>In v w1.heap.size a)
 (hnew:new=R.extract 0 (k*kc)++(cells a).toArray++R.extract (k*kc+(cells a).toArray.size) R.size) (hp:Put b (.cells new E (0,0)) w1 w2) :
 ∃ rest',TwS cells E kc In b N (k+1) w w2 (l'++[a]) new rest':=by
 have hs1:=hb1.size;have hlt:=h.lt;refine⟨rest.drop kc,⟨by rw[List.length_append,h.len];rfl,hp.below (h.below.trans (hb1.mono (by omega))) (Nat.le_refl _),by rw[hp.size];omega,hp.at_b, ?_, ?_,fun x hx=>?_⟩⟩
 · have e:k*kc=(l'.flatMap cells).length:=by rw[wB hc,h.len]
   rw[hnew,e,Zp R (l'.flatMap cells) rest (cells a).toArray kc h.list (by simp[hc]) (by rw[h.rest];exact Nat.le_trans (by omega) (Nat.mul_le_mul_right kc (show 1≤N+2 - k by omega)))];simp
 · rw[List.length_drop,h.rest,show N+2 - k=(N+2 - (k+1))+1 by omega,Nat.succ_mul];omega
 · rcases List.mem_append.1 hx with hx|hx
   · have hn:=h.new x hx
     refine (hn.mono fun v hv=>hup v wr.heap.size w2.heap.size x (by rw[hp.size];omega) hv).step (Nat.le_refl _) (by rw[hp.size];omega) fun g h1 h2=>?_
     rw[hp.rest g (by omega),hb1.block g h2]
   · obtain rfl:x=a:=by simpa using hx
     refine (ha.mono fun v hv=>hup v w1.heap.size w2.heap.size x (by rw[hp.size];omega) hv).step (by omega) (by rw[hp.size];omega) fun g h1 h2=>?_
     rw[hp.rest g (by omega)]
structure TwM {α:Type} (cells:α→List Value) (E:TypeId) (kc:Nat) (In:World→Nat→α→Prop) (b N:Nat) (w wr:World) (l':List α) (R:Array Value) (marks rest:List Value) (m:Nat):Prop where
 len:l'.length=N
 below:Below b w wr
 lt:b<wr.heap.size
 row:wr.heap[b]? = some (.cells R E (0,0))
 list:R.toList=l'.flatMap cells++marks++rest
 mlen:marks.length=m*kc
 rest:rest.length=(2 - m)*kc
 new:∀ a ∈ l',xK (b+1) wr fun v=>In v wr.heap.size a
theorem TwS.marks (h:TwS cells E kc In b N N w wr l' R rest):TwM cells E kc In b N w wr l' R [] rest 0:=
 ⟨h.len,h.below,h.lt,h.row,by rw[h.list];simp,by simp,by rw[h.rest];congr 1;omega,h.new⟩
theorem TwM.rsize {marks:List Value} {m:Nat} (h:TwM cells E kc In b N w wr l' R marks rest m) (hc:∀ a,(cells a).length=kc) (hm:m≤2):R.size=(N+2)*kc:=by
 rw[←Array.length_toList,h.list,List.length_append,List.length_append,wB hc,h.len,h.mlen,h.rest,←Nat.add_mul,←Nat.add_mul]
 congr 1;omega
theorem TwM.step {marks:List Value} {m:Nat} (h:TwM cells E kc In b N w wr l' R marks rest m) (hc:∀ a,(cells a).length=kc) (hup:∀ v B B' a,B≤B'→In v B a→In v B' a) (hm:m<2) {w1 w2:World} {mk:List Value} {new:Array Value} (hmk:mk.length=kc)
 (hb1:Below wr.heap.size wr w1)
 (hnew:new=R.extract 0 ((N+m)*kc)++mk.toArray++R.extract ((N+m)*kc+mk.toArray.size) R.size) (hp:Put b (.cells new E (0,0)) w1 w2) :
 TwM cells E kc In b N w w2 l' new (marks++mk) (rest.drop kc) (m+1):=by
 have hs1:=hb1.size;have hlt:=h.lt;refine⟨h.len,hp.below (h.below.trans (hb1.mono (by omega))) (Nat.le_refl _),by rw[hp.size];omega,hp.at_b, ?_, ?_, ?_,fun x hx=>?_⟩
 · have e:(N+m)*kc=(l'.flatMap cells++marks).length:=by rw[List.length_append,wB hc,h.len,h.mlen,Nat.add_mul]
   rw[hnew,e,Zp R (l'.flatMap cells++marks) rest mk.toArray kc h.list (by simp[hmk]) (by rw[h.rest];exact Nat.le_trans (by omega) (Nat.mul_le_mul_right kc (show 1≤2 - m by omega)))];simp
 · rw[List.length_append,h.mlen,hmk,Nat.succ_mul]
 · rw[List.length_drop,h.rest,show 2 - m=(2 - (m+1))+1 by omega,Nat.succ_mul];omega
 · refine ((h.new x hx).mono fun v hv=>hup v wr.heap.size w2.heap.size x (by rw[hp.size];omega) hv).step (Nat.le_refl _) (by rw[hp.size];omega) fun g h1 h2=>?_
   rw[hp.rest g (by omega),hb1.block g h2]
end
structure TwL {α:Type} (cells:α→List Value) (E:TypeId) (kc:Nat) (In:World→Nat→α→Prop) (N:Nat) (mk:Nat→List Value→Prop) (w w':World) (v:Value) (l':List α) (R:Array Value) (t1 t2:List Value):Prop where
 val:v = .slice (some ⟨w.heap.size,0,none⟩) N (N+2)
 len:l'.length=N
 below:Below w.heap.size w w'
 lt:w.heap.size<w'.heap.size
 row:w'.heap[w.heap.size]? = some (.cells R E (0,0))
 list:R.toList=l'.flatMap cells++(t1++t2)
 l1:t1.length=kc
 l2:t2.length=kc
 m1:mk N t1
 m2:mk (N+1) t2
 new:∀ a ∈ l',xK (w.heap.size+1) w' fun v=>In v w'.heap.size a
def TwE {α:Type} (cells:α→List Value) (E:TypeId) (kc:Nat) (In:World→Nat→α→Prop) (N:Nat) (mk:Nat→List Value→Prop) (P:List α→Prop) (w:World) (e:Ending) (w':World):Prop:=
 ∃ v l' R t1 t2,e = .returned v∧P l'∧TwL cells E kc In N mk w w' v l' R t1 t2
theorem TwM.done {α:Type} {cells:α→List Value} {E:TypeId} {kc:Nat} {In:World→Nat→α→Prop} {N:Nat} {mk:Nat→List Value→Prop} {w wr:World} {l':List α} {R:Array Value} {t1 t2 rest:List Value}
 (h:TwM cells E kc In w.heap.size N w wr l' R ([]++t1++t2) rest 2) (h1:t1.length=kc) (h2:t2.length=kc) (m1:mk N t1) (m2:mk (N+1) t2):TwL cells E kc In N mk w wr (.slice (some ⟨w.heap.size,0,none⟩) N (N+2)) l' R t1 t2:=
 ⟨rfl,h.len,h.below,h.lt,h.row,by
  have hr:rest=[]:=List.eq_nil_of_length_eq_zero (by rw[h.rest];omega);rw[h.list,hr];simp,h1,h2,m1,m2,h.new⟩
section
variable {α:Type} {cells:α→List Value} {E:TypeId} {kc:Nat} {In:World→Nat→α→Prop} {N:Nat} {mk:Nat→List Value→Prop} {w w':World} {v:Value} {l':List α} {R:Array Value} {t1 t2:List Value}
theorem jH (hc:∀ a,(cells a).length=kc):∀ (l:List α) (T:List Value) (i:Nat) (x:α),l[i]? = some x→∀ j u,(cells x)[j]? = some u→(l.flatMap cells++T)[i*kc+j]? = some u
 | [],_,i,x,h,_,_,_=>by cases h
 | a :: r,T,i,x,h,j,u,hu=>by
  rw[List.flatMap_cons,List.append_assoc];have hj:j<kc:=by rw[←hc x];exact (List.getElem?_eq_some_iff.1 hu).1
  cases i with
  | zero =>
   obtain rfl:a=x:=by simpa using h
   rw[Nat.zero_mul,Nat.zero_add,List.getElem?_append_left (by rw[hc];exact hj)];exact hu
  | succ i =>
   rw[List.getElem?_append_right (by rw[hc,Nat.succ_mul];omega),hc,show (i+1)*kc+j - kc=i*kc+j by rw[Nat.succ_mul];omega];exact jH hc r T i x (by simpa using h) j u hu
theorem TwL.lies (h:TwL cells E kc In N mk w w' v l' R t1 t2) (hc:∀ a,(cells a).length=kc) (hN:N≤140737488351232):xK w.heap.size w' fun u=>zB cells kc u w'.heap.size v l':=by
 intro u hu;refine⟨some ⟨w.heap.size,0,none⟩,N+2,by rw[h.val,h.len],by rw[h.len];exact hN,.inr ⟨w.heap.size,0,rfl,h.lt,fun i x hx j q hq=>?_⟩⟩;have hr:u.heap[w.heap.size]? = some (.cells R E (0,0)):=(hu _ (Nat.le_refl _) h.lt).trans h.row;rw[Lib.cell_of_heap hr,Nat.zero_add];rw[←Array.getElem?_toList,h.list];exact jH hc l' (t1++t2) i x hx j q hq
theorem TwL.all (h:TwL cells E kc In N mk w w' v l' R t1 t2):∀ a ∈ l',xK w.heap.size w' fun u=>In u w'.heap.size a:=
 fun a ha=>(h.new a ha).step (by omega) (Nat.le_refl _) fun _ _ _=>rfl
end
end
open Go.Joins Go.RowKit
attribute [local go_sem ↓] zL zJ
theorem Yt {w:World} {k:Nat} {o:Obj} (h:w.heap[k]? = some o):k<w.heap.size:=(Array.getElem?_eq_some_iff.1 h).1
theorem xz (a:In):(In.cells a).length=6:=rfl
theorem vL (a:Bool):(xL a).length=1:=rfl
def xw (n:Nat):List Value:=[.int .u8 99,.int .u8 0,.int .i64 (-1000 - (n:Int)),.int .i64 0,.int .i64 0,.int .i64 0]
theorem qV (n:Nat):(xw n).length=6:=rfl
theorem uk (n:Nat):(xw n).toArray.all (·.oneCell')=true:=by simp[xw,Value.oneCell']
def mkI (n:Nat) (t:List Value):Prop:=t=xw n
def InI (_:World) (_:Nat) (i:In):Prop:=qz i
theorem twiI:(Tryz.prog.info? 159).map (fun i=>(i.zero,i.size,i.bytes))=some (some (.agg #[.int .u8 0,.int .u8 0,.int .i64 0,.int .i64 0,.int .i64 0,.int .i64 0]),6,40):=by kernel_rfl
theorem twiB:(Tryz.prog.info? 4).map (fun i=>(i.zero,i.size,i.bytes))=some (some (.bool false),1,1):=by kernel_rfl
theorem um (n:Nat) (h:n≤1000000) (w:World):Calls Tryz.prog 127 #[.int .i64 (n:Int)] w fun e w'=>e = .returned (.agg (xw n).toArray)∧Below w.heap.size w w':=by
 have e5:=zH 159 #[(0,.int .u8 99),(2,.int .i64 (-1000 - (n:Int)))] (xw n).toArray (by kernel_rfl);have hP:=(MapKept.heap_alloc w (.cells #[.int .u8 0,.int .u8 0,.int .i64 0,.int .i64 0,.int .i64 0,.int .i64 0] 159)).1;have HP:=hid hP;have HB:=hid (ze w (.cells #[.int .u8 0,.int .u8 0,.int .i64 0,.int .i64 0,.int .i64 0,.int .i64 0] 159));obtain⟨C,hC⟩:∃ C,C=(xw n).toArray:=⟨_,rfl⟩
 have hCs:C.size=6:=by rw[hC];rfl
 have hC1:C.all (·.oneCell')=true:=by rw[hC];exact uk n
 rw[←hC]at e5 ⊢;have HC:=hid (And.intro hCs hC1);clear hP hC hCs hC1;go_enter Tryz.func127,Tryz.ntmps127;go_wp2_with (refine qD rfl 159 (Operand.tmp 2) (Operand.tmp 5) rfl w.heap.size 159 _ C rfl rfl HP.out (by rw[HC.out.1];rfl) (by rw[HC.out.1];kernel_rfl) HC.out.2 ?_);intro w5 hp5;have HQ:=hid hp5;clear hp5;go_wp2_with fail;refine bodyPost_ret (v:=.agg C) (results_cell_row rfl _ _ w.heap.size 159 _ (0,0) _ rfl HQ.out.at_b Tryz.underlying159 rfl (by rw[HC.out.1];kernel_rfl)) rfl ?_;exact⟨rfl,HQ.out.below HB.out (Nat.le_refl _)⟩
theorem Ur {α:Type} {cells:α→List Value} {kc:Nat} (hk:0<kc) (hc:∀ a,(cells a).length=kc) (l:List α) (j:Nat) (u:Value) (h:(l.flatMap cells)[j]? = some u):∃ x,l[j / kc]? = some x∧(cells x)[j % kc]? = some u:=by
 have hj:j<l.length*kc:=by rw[←wB hc];exact (List.getElem?_eq_some_iff.1 h).1
 have hi:j / kc<l.length:=(Nat.div_lt_iff_lt_mul hk).2 hj;refine⟨l[j / kc],List.getElem?_eq_getElem hi, ?_⟩;have hm:j % kc<(cells l[j / kc]).length:=by rw[hc];exact Nat.mod_lt _ hk
 have h2:=jH hc l [] (j / kc) _ (List.getElem?_eq_getElem hi) (j % kc) _ (List.getElem?_eq_getElem hm);rw[List.append_nil,Nat.mul_comm,Nat.div_add_mod]at h2;rw[h]at h2;rw[List.getElem?_eq_getElem hm,h2]
theorem uF {P:Program} {α:Type} {cells:α→List Value} {kc:Nat} (hk:0<kc) (hc:∀ a,(cells a).length=kc) (hone:∀ a,∀ u ∈ cells a,u.oneCell'=true) (T E ty:TypeId) (i:TypeInfo) (hT:P.underlying T=some (.slice E)) (hi:P.info? E=some i) (hz:i.size=kc) {W:World} {B:Nat} {v:Value} {l:List α} (h:zB cells kc W B v l)
 (g m:Nat) (M:Array Value) (hM:M.size=m*kc) (hnm:l.length≤m) (hg:W.heap[g]? = some (.cells M E (0,0))) :
 (Builtin.copy_ #[T,T] ty #[.slice (some ⟨g,0,none⟩) l.length m,v]).run P W = .ok (goInt l.length) (W.setRow g (l.flatMap cells++M.toList.drop (l.length*kc)).toArray):=by
 have hl:(l.flatMap cells).length=l.length*kc:=wB hc l;have hle:l.length*kc≤m*kc:=Nat.mul_le_mul_right kc hnm
 have hone2:∀ u ∈ l.flatMap cells,u.oneCell'=true:=by
  intro u hu;obtain⟨f,_,hf⟩:=List.mem_flatMap.1 hu;exact hone f u hf
 have hst:=run_storeCells_at P g 0 E (l.flatMap cells) 0 M W hg (by rw[hM,hl];omega) hone2;have hmin:Nat.min l.length l.length=l.length:=Nat.min_self _;simp only[Nat.add_zero,List.take_zero,List.nil_append,Nat.zero_add,hl]at hst;obtain⟨ao,cap,rfl,hlen,hcc⟩:=h;cases ao with
 | none =>
  rcases hcc with rfl|⟨g2,off,e,_⟩
  · simp at hst
    simp[Builtin.copy_,run_underlying hT,Builtin.lenOf,Builtin.firstCells,sizeOf,typeInfo,hi,storeCells];rw[setRow_self W g M E (0,0) hg]
  · cases e
 | some a =>
  have hcell:∀ j u,(l.flatMap cells)[j]? = some u→W.cell? (a.add j)=some u:=by
   intro j u hu;rcases hcc with rfl|⟨g2,off,e,_,hcc⟩
   · cases hu
   · cases e
     obtain⟨x,hx,hxu⟩:=Ur hk hc l j u hu;have:=hcc (j / kc) x hx (j % kc) u hxu;rw[Nat.mul_comm,Nat.div_add_mod]at this;rw[Addr.add_mid];exact this
  have hld:=run_loadCells_list (P:=P) W a (l.flatMap cells) hcell;rw[hl]at hld;simp[Builtin.copy_,run_underlying hT,Builtin.lenOf,Builtin.firstCells,sizeOf,typeInfo,hi,hz,hld,hst,hmin]
theorem XJ (l:List In) (B:Nat) (v:Value) (w:World) (hL:zB In.cells 6 w B v l) (hI:∀ f ∈ l,qz f) (hBw:B≤w.heap.size) (hsm:l.length≤262144) :
 Calls Tryz.prog 225 #[v] w (TwE In.cells 159 6 InI l.length mkI (fun l'=>l'=l) w):=by
 obtain⟨ao,cap,rfl,hlen,hgo⟩:=hL.form;obtain⟨N,hN⟩:∃ N,N=l.length:=⟨_,rfl⟩
 have hNs:N≤262144:=by rw[hN];exact hsm
 obtain⟨i0,hi,hz0,hz1,hz2⟩:=info_parts twiI;obtain⟨M,hM⟩:∃ M,M=madeCells (Value.cells (.agg #[.int .u8 0,.int .u8 0,.int .i64 0,.int .i64 0,.int .i64 0,.int .i64 0])) (((N:Int)+2).toNat*i0.size):=⟨_,rfl⟩
 have hMs:M.size=(N+2)*6:=by rw[hM,size_madeCells,hz1];congr 1
 have hmk:(Instr.makeSlice 115 (.int .i64 (N:Int)) (.int .i64 ((N:Int)+2))).run Tryz.prog w = .ok (.slice (some ⟨w.heap.size,0,none⟩) N (N+2)) (w.alloc (.cells M 159)):=by
  have h:=run_make (P:=Tryz.prog) w 115 159 i0 (.agg #[.int .u8 0,.int .u8 0,.int .i64 0,.int .i64 0,.int .i64 0,.int .i64 0]) Tryz.underlying115 hi hz0 .i64 .i64 (N:Int) ((N:Int)+2) (by omega) (by omega) (by rw[hz2];omega) (by omega);rw[←hM,show ((N:Int)+2).toNat=N+2 by omega]at h
  simpa using h
 obtain⟨W0,hW0⟩:∃ W0,W0=w.alloc (.cells M 159):=⟨_,rfl⟩
 have hb0:Below w.heap.size w W0:=by rw[hW0];exact ze w _
 have hg0:W0.heap[w.heap.size]? = some (.cells M 159 (0,0)):=by rw[hW0];exact (MapKept.heap_alloc _ _).1
 have hlt0:w.heap.size<W0.heap.size:=by rw[hW0];simp
 have hcp:=uF (P:=Tryz.prog) (by omega) xz (fun a u hu=>by simp only[In.cells,List.mem_cons,List.not_mem_nil,or_false]at hu;rcases hu with rfl|rfl|rfl|rfl|rfl|rfl <;> rfl) 115 159 3 i0 Tryz.underlying115 hi hz1 (hL.below (hb0.mono hBw)) w.heap.size (N+2) M hMs (by omega) hg0;rw[←hN]at hcp;obtain⟨R,hR⟩:∃ A,A=(l.flatMap In.cells++M.toList.drop (N*6)).toArray:=⟨_,rfl⟩
 rw[←hR]at hcp;obtain⟨wr,hwr⟩:∃ u,u=W0.setRow w.heap.size R:=⟨_,rfl⟩
 have hrow:wr.heap[w.heap.size]? = some (.cells R 159 (0,0)):=by rw[hwr];exact setRow_heap _ _ M R 159 (0,0) hg0
 have hsr:wr.heap.size=W0.heap.size:=by rw[hwr];simp[World.setRow]
 have hbw:Below w.heap.size w wr:=hb0.trans ⟨by rw[hwr];rfl,by rw[hwr];rfl,by rw[hwr];rfl,by rw[hsr];exact Nat.le_refl _,fun k hk=>by rw[hwr];exact setRow_other _ _ _ _ (by omega)⟩
 have hS:TwS In.cells 159 6 InI w.heap.size N N w wr l R (M.toList.drop (N*6)):=
  ⟨hN.symm,hbw,by rw[hsr];exact hlt0,hrow,by rw[hR],by rw[List.length_drop,Array.length_toList,hMs,show N+2 - N=2 by omega];omega,fun a ha=>fun v _=>hI a ha⟩
 rw[←hwr]at hcp;rw[←hN]at hlen ⊢;have HM:=hid hS.marks;rw[hW0]at hcp;clear hi hz0 hz1 hz2 hM hMs hb0 hg0 hlt0 hL hI hgo hN hR hwr hrow hsr hbw hS hW0;go_enter Tryz.func225,Tryz.ntmps225;have HM1:=HM;clear HM;obtain⟨R1,hR1⟩:∃ A,A=R:=⟨_,rfl⟩
 rw[←hR1]at HM1;clear hR1;have HK1:=hid (fun w=>um N (by omega) w);have HK2:=hid (fun w=>(show ((N+1:Nat):Int)=(N:Int)+1 by push_cast;rfl) ▸ um (N+1) (by omega) w);go_wp2_with fail;refine wp_loop_rounds 3 ?_;rw[rounds_succ];go_wp2_with fail;refine (HK1.out wr).mono ?_;rintro e w1 ⟨rfl,hb1⟩;have HO1:=hid ((hb1.block _ HM1.out.lt).trans HM1.out.row);have HR1:=hid (show N*6+(xw N).toArray.size≤R1.size by rw[HM1.out.rsize xz (by omega),List.size_toArray,qV];omega);have HB1:=hid hb1;obtain⟨NEW1,hNEW1⟩:∃ A:Array Value,A=R1.extract 0 ((N+0)*6)++(xw N).toArray++R1.extract ((N+0)*6+(xw N).toArray.size) R1.size:=⟨_,rfl⟩
 have HNEW1:=hid hNEW1;clear hNEW1 hb1;go_wp2_with (refine vN rfl 159 (Operand.tmp 32) (Operand.tmp 31) rfl w.heap.size (N*6) 159 R1 (xw N).toArray NEW1 rfl rfl HO1.out HR1.out (by kernel_rfl) (uk N) HNEW1.out ?_);intro w2 hp2;have HM2:=hid (HM1.out.step xz (fun v B B2 a h q=>q) (by omega) (qV N) HB1.out HNEW1.out hp2);clear hp2;go_wp2_with fail;obtain⟨R2,hR2⟩:∃ A,A=NEW1:=⟨_,rfl⟩
 rw[←hR2]at HM2;clear hR2;rw[rounds_succ];go_wp2_with fail;refine (HK2.out w2).mono ?_;rintro e w3 ⟨rfl,hb3⟩;have HO2:=hid ((hb3.block _ HM2.out.lt).trans HM2.out.row);have HR2:=hid (show (N+1)*6+(xw (N+1)).toArray.size≤R2.size by rw[HM2.out.rsize xz (by omega),List.size_toArray,qV];omega);have HB2:=hid hb3;obtain⟨NEW2,hNEW2⟩:∃ A:Array Value,A=R2.extract 0 ((N+1)*6)++(xw (N+1)).toArray++R2.extract ((N+1)*6+(xw (N+1)).toArray.size) R2.size:=⟨_,rfl⟩
 have HNEW2:=hid hNEW2;clear hNEW2 hb3;go_wp2_with (refine vN rfl 159 (Operand.tmp 32) (Operand.tmp 31) rfl w.heap.size ((N+1)*6) 159 R2 (xw (N+1)).toArray NEW2 rfl rfl HO2.out HR2.out (by kernel_rfl) (uk (N+1)) HNEW2.out ?_);intro w4 hp4;have HM3:=hid (HM2.out.step xz (fun v B B2 a h q=>q) (by omega) (qV (N+1)) HB2.out HNEW2.out hp4);clear hp4;go_wp2_with fail;rw[rounds_succ];go_wp2_with fail;go_ret;exact⟨_,l,NEW2,xw N,xw (N+1),rfl,rfl,HM3.out.done (qV N) (qV (N+1)) rfl rfl⟩
def InB (_:World) (_:Nat) (_:Bool):Prop:=True
def mkB (N:Nat) (n:Nat) (t:List Value):Prop:=t=[.bool (decide (n=N))]
theorem XM (l:List Bool) (B:Nat) (v:Value) (w:World) (hL:zB xL 1 w B v l) (_hI:∀ f ∈ l,True) (hBw:B≤w.heap.size) (hsm:l.length≤262144) :
 Calls Tryz.prog 175 #[v] w (TwE xL 4 1 InB l.length (mkB l.length) (fun l'=>l'=l) w):=by
 obtain⟨ao,cap,rfl,hlen,hgo⟩:=hL.form;obtain⟨N,hN⟩:∃ N,N=l.length:=⟨_,rfl⟩
 have hNs:N≤262144:=by rw[hN];exact hsm
 obtain⟨i0,hi,hz0,hz1,hz2⟩:=info_parts twiB;obtain⟨M,hM⟩:∃ M,M=madeCells (Value.cells (.bool false)) (((N:Int)+2).toNat*i0.size):=⟨_,rfl⟩
 have hMs:M.size=(N+2)*1:=by rw[hM,size_madeCells,hz1];congr 1
 have hmk:(Instr.makeSlice 72 (.int .i64 (N:Int)) (.int .i64 ((N:Int)+2))).run Tryz.prog w = .ok (.slice (some ⟨w.heap.size,0,none⟩) N (N+2)) (w.alloc (.cells M 4)):=by
  have h:=run_make (P:=Tryz.prog) w 72 4 i0 (.bool false) Tryz.underlying72 hi hz0 .i64 .i64 (N:Int) ((N:Int)+2) (by omega) (by omega) (by rw[hz2];omega) (by omega);rw[←hM,show ((N:Int)+2).toNat=N+2 by omega]at h
  simpa using h
 obtain⟨W0,hW0⟩:∃ W0,W0=w.alloc (.cells M 4):=⟨_,rfl⟩
 have hb0:Below w.heap.size w W0:=by rw[hW0];exact ze w _
 have hg0:W0.heap[w.heap.size]? = some (.cells M 4 (0,0)):=by rw[hW0];exact (MapKept.heap_alloc _ _).1
 have hlt0:w.heap.size<W0.heap.size:=by rw[hW0];simp
 have hcp:=uF (P:=Tryz.prog) (by omega) vL (fun a u hu=>by simp only[xL,List.mem_cons,List.not_mem_nil,or_false]at hu;subst hu;rfl) 72 4 3 i0 Tryz.underlying72 hi hz1 (hL.below (hb0.mono hBw)) w.heap.size (N+2) M hMs (by omega) hg0;rw[←hN]at hcp;obtain⟨R,hR⟩:∃ A,A=(l.flatMap xL++M.toList.drop (N*1)).toArray:=⟨_,rfl⟩
 rw[←hR]at hcp;obtain⟨wr,hwr⟩:∃ u,u=W0.setRow w.heap.size R:=⟨_,rfl⟩
 have hrow:wr.heap[w.heap.size]? = some (.cells R 4 (0,0)):=by rw[hwr];exact setRow_heap _ _ M R 4 (0,0) hg0
 have hsr:wr.heap.size=W0.heap.size:=by rw[hwr];simp[World.setRow]
 have hbw:Below w.heap.size w wr:=hb0.trans ⟨by rw[hwr];rfl,by rw[hwr];rfl,by rw[hwr];rfl,by rw[hsr];exact Nat.le_refl _,fun k hk=>by rw[hwr];exact setRow_other _ _ _ _ (by omega)⟩
 have hS:TwS xL 4 1 InB w.heap.size N N w wr l R (M.toList.drop (N*1)):=
  ⟨hN.symm,hbw,by rw[hsr];exact hlt0,hrow,by rw[hR],by rw[List.length_drop,Array.length_toList,hMs,show N+2 - N=2 by omega];omega,fun a ha=>fun v _=>trivial⟩
 rw[←hwr]at hcp
 have hR2:R.toList=l.flatMap xL++[.bool false]++[.bool false]:=by
  have hM2:M.toList.drop (N*1)=[.bool false,.bool false]:=by
   have hMr:M=(List.replicate (N+2) (Value.bool false)).toArray:=by
    rw[hM,hz1,show ((N:Int)+2).toNat*1=N+2 by omega];show madeCells #[.bool false] (N+2)=_
    unfold madeCells;apply Array.ext
    · simp
    · intro i h1 h2
      simp[Nat.mod_one]
   rw[hMr,Nat.mul_one];show (List.replicate (N+2) (Value.bool false)).drop N=_
   rw[List.drop_replicate,show N+2 - N=2 by omega]
   rfl
  rw[hR,hM2];simp
 obtain⟨w9,hw9⟩:∃ u,u=wr.setCell ⟨w.heap.size,N,none⟩ (.bool true):=⟨_,rfl⟩
 have hrs:R.size=N+2:=by
  have:=wB vL l;rw[←Array.length_toList,hR2,List.length_append,List.length_append,this,hN];simp
 have hrow9:w9.heap[w.heap.size]? = some (.cells (R.setIfInBounds N (.bool true)) 4 (0,0)):=by rw[hw9];exact (jv hrow).at_b
 have hlist9:(R.setIfInBounds N (.bool true)).toList=l.flatMap xL++([.bool true]++[.bool false]):=by
  have hfl:(l.flatMap xL).length=N:=by rw[wB vL l,hN,Nat.mul_one]
  rw[Array.toList_setIfInBounds,hR2,List.append_assoc,List.set_append_right _ _ (by omega),hfl,Nat.sub_self]
  rfl
 have hsz9:w9.heap.size=wr.heap.size:=by rw[hw9];simp[World.setCell]
 have hb9:Below w.heap.size w w9:=by rw[hw9];exact hbw.setCell (by show w.heap.size≤w.heap.size;omega) _
 have HEND:=hid (show TwL xL 4 1 InB N (mkB N) w w9 (.slice (some ⟨w.heap.size,0,none⟩) N (N+2)) l (R.setIfInBounds N (.bool true)) [.bool true] [.bool false]from
  ⟨rfl,hN.symm,hb9,by rw[hsz9,hsr];exact hlt0,hrow9,hlist9,rfl,rfl,by simp[mkB],by simp[mkB],fun _ _=>fun _ _=>trivial⟩)
 have HW9:=hid hw9;have f0:wr.frozen? ⟨w.heap.size,N,none⟩ = false:=Lib.frozen_of_heap hrow N
 have s0:wr.cell? ⟨w.heap.size,N,none⟩ = some (.bool false):=by
  rw[Lib.cell_of_heap hrow];rw[←Array.getElem?_toList,hR2,List.append_assoc,List.getElem?_append_right (by rw[wB vL l];omega),wB vL l];simp[hN]
 have hlw:w.heap.size<wr.heap.size:=Yt hrow;rw[←hN]at hlen ⊢;rw[hW0]at hcp;clear hi hz0 hz1 hz2 hM hMs hb0 hg0 hlt0 hL hgo hN hR hwr hrow hsr hbw hS hW0 hR2 hw9 hrow9 hlist9 hsz9 hb9 hrs;go_enter Tryz.func175,Tryz.ntmps175;go_wp2_with fail;go_ret;rw[←HW9.out];exact⟨_,l,_,_,_,rfl,rfl,HEND.out⟩
