import Derived.Test.YtlboinokdhmacaaGreatDoorWkUndo
import Derived.Laws.Append
import Derived.Laws.AppendOwn
import Derived.Lib.AppendZeros
namespace Go.Proofs.YtlboinokdhmacaaGreatDoor
set_option maxHeartbeats 64000000
set_option maxRecDepth 1000000
open Lib(hid)
section
open Go.RowKit
theorem jF:(Tryz.prog.info? 2).map (fun i=>(i.zero,i.size,i.bytes))=some (some (.int .i64 0),1,8):=by kernel_rfl
theorem uU (m:Nat):(Builtin.zeroCells #[Value.int .i64 0] m).toList=List.replicate m (Value.int .i64 0):=by
 apply List.ext_getElem?;intro i;simp only[Builtin.zeroCells]
 by_cases h:i<m
 · simp[h,Nat.mod_one]
 · simp[h]
section
variable {w:World} {i:TypeInfo} (hi:Tryz.prog.info? 2=some i) (hz:i.zero=some (.int .i64 0)) (hs:i.size=1) (hb:i.bytes=8) (m:Nat) (hm:m≤65536)
include hi hz hs hb hm
theorem Xg (ty:TypeId) (a:Addr) (n c:Nat) (W:World) (hr:n+m≤c) (hst:(storeCells (a.add n) (List.replicate m (Value.int .i64 0))).run Tryz.prog w = .ok () W) :
 (Builtin.append_ #[85,2] ty #[.slice (some a) n c,.int .i64 (m:Int)]).run Tryz.prog w = .ok (.slice (some a) (n+m) c) W:=by
 have ht:=Tryz.underlying85;have hd:=Tryz.underlying2;have hw:IntKind.wrap .i64 (m:Int)=(m:Int):=IntWalk.i64_in _ (by omega);have b0:¬ ((m:Int)<0):=by omega
 have b1:¬ (281474976710656<(m:Int)*8):=by omega
 have hst2:(storeCells (a.add n) (if m=0 then (#[]:Array Value) else Builtin.zeroCells #[Value.int .i64 0] m).toList).run Tryz.prog w = .ok () W:=by
  have:(if m=0 then (#[]:Array Value) else Builtin.zeroCells #[Value.int .i64 0] m).toList=List.replicate m (Value.int .i64 0):=by
   by_cases h:m=0
   · subst h;simp
   · rw[if_neg h];exact uU m
  rw[this];exact hst
 by_cases hn:m=0
 · subst hn
   rw[if_pos rfl]at hst2;have hw0:IntKind.wrap .i64 0=0:=by decide
   have hr0:n≤c:=hr;have hst3:(storeCells (a.add n) []).run Tryz.prog w = .ok () W:=by simpa using hst2
   simp[Builtin.append_,run_underlying ht,run_underlying hd,sizeOf,typeInfo,hi,hs,asInt,asIntOf,hw0,hr0,hst3]
 · rw[if_neg hn]at hst2
   simp[Builtin.append_,run_underlying ht,run_underlying hd,sizeOf,typeInfo,zeroValue,hi,hz,hs,hb,asInt,asIntOf,hw,b0,b1,hn,hr,hst2,Value.cells]
theorem Xf (ty:TypeId) (s:Value) (p:Option Addr) (n c:Nat) (olds:List Value) (he:s = .slice p n c) (ho:(Builtin.firstCells 1 n s).run Tryz.prog w.drew = .ok olds.toArray w.drew) (hg:c<n+m) (hnc:n≤c) (hn:n≤1000000) :
 (Builtin.append_ #[85,2] ty #[s,.int .i64 (m:Int)]).run Tryz.prog w = .ok (.slice (some ⟨w.heap.size,0,none⟩) (n+m) (grownCap w (n+m) c 2))
  (w.drew.alloc (.cells ((olds++List.replicate m (Value.int .i64 0))++List.replicate (grownCap w (n+m) c 2 - (n+m)) (Value.int .i64 0)).toArray 2)):=by
 have ht:=Tryz.underlying85;have hd:=Tryz.underlying2;have hw:IntKind.wrap .i64 (m:Int)=(m:Int):=IntWalk.i64_in _ (by omega);have b0:¬ ((m:Int)<0):=by omega
 have b1:¬ (281474976710656<(m:Int)*8):=by omega
 have hm0:¬ m=0:=by
  rintro rfl;omega
 have hn':¬ (n+m≤c):=by omega
 have h63':¬ (9223372036854775807<((n:Int)+(m:Int))):=by omega
 have h48':¬ (281474976710656<Builtin.nextslicecap (n+m) c*8):=by
  have:=growslice_fits (bytes:=8) hg (by omega);omega
 subst he;simp[Builtin.append_,run_underlying ht,run_underlying hd,sizeOf,typeInfo,zeroValue,hi,hz,hs,hb,asInt,asIntOf,hw,b0,b1,hn',h63',h48',Question.forced,ho,newRow,grownCap,hm0,Value.cells]
 congr 2
 apply Array.ext';simp[uU]
end
theorem X0 (w:World) (v:Value) (xs:List Int) (ty:TypeId) (m:Nat) (hm:m≤65536) (hx:xs.length≤65537) (hown:w.ownsRow 0 2 1 v xs.length (wds xs)) :
 ∃ v' w',(Builtin.append_ #[85,2] ty #[v,.int .i64 (m:Int)]).run Tryz.prog w = .ok v' w'∧w'.ownsRow 0 2 1 v' (xs++List.replicate m 0).length (wds (xs++List.replicate m 0))∧w.grownBy w' v.ownBlock ∧
  (v'.ownBlock=v.ownBlock∨v'.ownBlock=some w.heap.size):=by
 obtain⟨i,hi,hz,hs,hb⟩:=info_parts jF;have hwz:wds (xs++List.replicate m 0)=wds xs++List.replicate m (Value.int .i64 0):=by simp[wds]
 have hl:(xs++List.replicate m 0).length=xs.length+m:=by simp
 rw[hwz,hl];have hall:∀ u ∈ List.replicate m (Value.int .i64 0),u.oneCell'=true:=fun u hu=>by rw[List.eq_of_mem_replicate hu];rfl
 have new:∀ (p:Option Addr) (c:Nat),v = .slice p xs.length c→(Builtin.firstCells 1 xs.length v).run Tryz.prog w.drew = .ok (wds xs).toArray w.drew→c<xs.length+m→xs.length≤c →
  ∃ v' w',(Builtin.append_ #[85,2] ty #[v,.int .i64 (m:Int)]).run Tryz.prog w = .ok v' w'∧w'.ownsRow 0 2 1 v' (xs.length+m) (wds xs++List.replicate m (Value.int .i64 0))∧w.grownBy w' v.ownBlock ∧
   (v'.ownBlock=v.ownBlock∨v'.ownBlock=some w.heap.size):=by
  intro p c he ho hg hnc;have hr:=Xf hi hz hs hb m hm ty v p xs.length c (wds xs) he ho hg hnc (by omega);have hge:=grownCap_ge w (xs.length+m) c 2;have hle:=grownCap_le_maxLen w (xs.length+m) c 2 (by unfold maxLen;omega);refine⟨_,_,hr,⟨by simp[xR],.inr ⟨w.heap.size,_,_,rfl,Nat.zero_le _,heap_alloc_new w.drew _,hge,hle, ?_, ?_⟩⟩,⟨rfl,rfl,rfl,by simp,fun k hk _=>Below.heap_alloc w.drew _ k hk⟩,.inr rfl⟩
  · simp[xR];omega
  · simp only[Nat.mul_one]
    rw[List.take_append_of_le_length (by simp[xR]),List.take_of_length_le (by simp[xR])]
 rcases hown.2 with ⟨rfl,h0⟩|⟨g,cap,cur,rfl,hbs,hg,hnc,hcm,hcs,ht⟩
 · have hxs:xs=[]:=List.eq_nil_of_length_eq_zero h0
   subst hxs
   by_cases hm0:m=0
   · subst hm0
     refine⟨.slice none 0 0,w, ?_,World.ownsRow_nil _ _ _ _,⟨rfl,rfl,rfl,Nat.le_refl _,fun _ _ _=>rfl⟩,.inl rfl⟩;have h1:=Tryz.underlying85;have h2:=Tryz.underlying2;have hw0:IntKind.wrap .i64 0=0:=by decide
     simp[Builtin.append_,run_underlying h1,run_underlying h2,sizeOf,typeInfo,hi,hs,asInt,asIntOf,hw0]
   · exact new none 0 rfl (by simp[Builtin.firstCells,wds]) (by simp;omega) (Nat.le_refl _)
 · by_cases hr:xs.length+m≤cap
   · have hst:=run_storeCells_at Tryz.prog g xs.length 2 (List.replicate m (Value.int .i64 0)) 0 cur w hg (by simp;omega) hall
     have ha:(⟨g,0,none⟩:Addr).add xs.length=⟨g,xs.length,none⟩:=by unfold Addr.add;split <;> simp_all
     refine⟨_,_,Xg hi hz hs hb m hm ty ⟨g,0,none⟩ xs.length cap _ hr (by rw[ha];exact hst),⟨by simp[xR],.inr ⟨g,cap,_,rfl,hbs,setRow_heap w g cur _ _ _ hg,hr,hcm, ?_, ?_⟩⟩,⟨rfl,rfl,rfl,by simp,fun k _ hne=>setRow_other w g k _ (by rintro rfl;exact hne rfl)⟩,.inl rfl⟩
     · simp;omega
     · simp only[Nat.add_zero,Nat.mul_one,List.length_replicate]
       rw[Nat.mul_one]at ht;rw[ht,List.append_assoc,←List.append_assoc,List.take_append_of_le_length (by simp[xR]),List.take_of_length_le (by simp[xR])]
   · refine new (some ⟨g,0,none⟩) cap rfl ?_ (by omega) hnc
     have:=run_loadCells_list (P:=Tryz.prog) w.drew ⟨g,0,none⟩ (wds xs) (fun j u hu=>hown.cells rfl j u hu);rw[xR]at this
     simpa[Builtin.firstCells]using this
end
open Go.RowKit
theorem WAt.slice {ow:Nat→Nat} {w:World} {b n:Nat} {W:WS} {v:Value} (h:WAt ow w b W n v):∃ p c,v = .slice p W.words.length c:=by
 rcases h.row.2 with ⟨rfl,h0⟩|⟨q,cap,cur,rfl,_⟩
 · exact⟨none,0,by rw[h0]⟩
 · exact⟨_,_,rfl⟩
theorem kT {w:World} {b n:Nat} {v x:Value} {s:Bool} {T:TypeId} (i:Nat) (cs:Array Value) (h:w.heap[b]? = some (.cells (wK v n s) T (0,0))) (hc:(wK v n s).setIfInBounds i x=cs):(w.setCell ⟨b,i,none⟩ x).heap[b]? = some (.cells cs T (0,0)):=by
 rw[heap_setCell_same w b i _ _ _ h,hc]
theorem xX {ow:Nat→Nat} {w:World} {l:Nat} (p:Addr) (x:Value) (hl:ow p.block=l):But ow [l] w (w.setCell p x):=(But.of (Below.refl _ _)).set (by rw[hl];exact List.mem_singleton.2 rfl) x
theorem WAt.fuel {ow:Nat→Nat} {w:World} {b n:Nat} {W:WS} {v:Value} (h:WAt ow w b W n v) (m:Nat) (hm:m≤n):WAt ow (w.setCell ⟨b,1,none⟩ (.int .i64 (m:Int))) b W m v∧But ow [1] w (w.setCell ⟨b,1,none⟩ (.int .i64 (m:Int))):=by
 have hb:But ow [1] w (w.setCell ⟨b,1,none⟩ (.int .i64 (m:Int))):=xX _ _ h.lab;have hx:=h.big;exact⟨⟨kT 1 _ h.box rfl,zM h.row hb h.labr (by simp),h.lab,h.labr,by omega,h.many⟩,hb⟩
theorem Wo (ow:Nat→Nat) (w:World) (b:Nat) (W:WS) (v:Value) (h1:WAt ow w b W 0 v) :
 Calls Tryz.prog 191 #[.pointer (some ⟨b,0,none⟩)] w fun e w'=>e = .returned (.bool false)∧w=w':=by
 obtain⟨e0,e1,e2⟩:=h1.cells;clear h1;have e1':w.cell? ⟨b,1,none⟩ = some (.int .i64 0):=e1;clear e1;go_enter Tryz.func191,Tryz.ntmps191;go_wp2_with fail;go_ret;exact⟨rfl,rfl⟩
theorem Wn (ow:Nat→Nat) (w:World) (b n:Nat) (W:WS) (v:Value) (h1:WAt ow w b W (n+1) v) :
 Calls Tryz.prog 191 #[.pointer (some ⟨b,0,none⟩)] w fun e w'=>e = .returned (.bool true)∧WAt ow w' b W n v∧But ow [1] w w':=by
 obtain⟨e0,e1,e2⟩:=h1.cells;have f1:=Lib.frozen_of_heap h1.box 1;have hbig:=h1.big;have HF:=hid (h1.fuel n (by omega));have e1':w.cell? ⟨b,1,none⟩ = some (.int .i64 ((n:Int)+1)):=e1;clear h1 e1;go_enter Tryz.func191,Tryz.ntmps191;go_wp2_with fail;go_ret;exact⟨rfl,HF.out⟩
theorem K5 {ow:Nat→Nat} {w:World} {l:Nat}:Ext ow (fun k=>if k<w.heap.size then ow k else l) w:=fun k hk=>by simp[hk]
theorem Ql (ow:Nat→Nat) (w:World) (b n m:Nat) (W:WS) (v:Value) (h1:WAt ow w b W n v) (hm:m≤64) (hl:(W.words.length:Int) - 1+(m:Int)≤65536) :
 Calls Tryz.prog 210 #[.pointer (some ⟨b,0,none⟩),.int .i64 (m:Int)] w fun e w'=>e = .returned (.tuple #[.int .i64 (W.words.length:Int),.bool true]) ∧
  ∃ ow' v',Ext ow ow' w∧WAt ow' w' b { W with words:=W.words++List.replicate m 0 } n v'∧But ow [1,2] w w':=by
 obtain⟨e0,e1,e2⟩:=h1.cells;obtain⟨vp,vc,ev⟩:=h1.slice;have hmany:=h1.many;obtain⟨v',w2,hr,hown,hg,hgo⟩:=X0 w v W.words 85 m (by omega) hmany h1.row;obtain⟨ow',how⟩:∃ ow',ow'=fun k=>if k<w.heap.size then ow k else 2:=⟨_,rfl⟩
 have hext:Ext ow ow' w:=by rw[how];exact K5
 have hbw:b<w.heap.size:=z8 h1.box;have hbl:But ow [2] w w2:=⟨hg.os,hg.tape,hg.output,hg.size,fun k hk hn=>hg.block k hk (fun q=>hn (by rw[h1.labr k q.symm];simp))⟩
 have hbox2:w2.heap[b]? = some (.cells (wK v n W.strange) 90 (0,0)):=(hbl.block b hbw (by rw[h1.lab];simp)).trans h1.box
 have hlab2:∀ k,v'.ownBlock=some k→ow' k=2:=fun k hk=>by
  rcases hgo with q|q
  · rw[hext k (h1.row.lt k (q.symm.trans hk)).2];exact h1.labr k (q.symm.trans hk)
  · rw[hk]at q;cases q;rw[how];simp
 have hlb:ow' b=1:=by rw[hext b hbw];exact h1.lab
 have hne:v'.ownBlock≠some b:=fun q=>by have:=hlab2 b q;omega
 have hfin:WAt ow' (w2.setCell ⟨b,0,none⟩ v') b { W with words:=W.words++List.replicate m 0 } n v'∧But ow [1,2] w (w2.setCell ⟨b,0,none⟩ v'):=by
  refine⟨⟨kT 0 _ hbox2 rfl, ?_,hlb,hlab2,h1.big, ?_⟩, ?_⟩
  · refine hown.kept (row:=some b) ⟨rfl,rfl,rfl,by simp[World.setCell],fun k _ hk=>Below.heap_setCell _ _ _ _ (by rintro rfl;exact hk rfl)⟩ (.inr hne)
  · show (W.words++List.replicate m 0).length≤65537
    simp;omega
  · exact (show But ow [1,2] w w2 from⟨hbl.os,hbl.tape,hbl.output,hbl.size,fun k hk hn=>hbl.block k hk (fun q=>hn (by simp at q ⊢;exact .inr q))⟩).set (p:=⟨b,0,none⟩) (by rw[h1.lab];simp) v'
 have g0:=zh hbox2 0 _ rfl;have f2:=Lib.frozen_of_heap hbox2 0;have g0':w2.cell? ⟨b,0,none⟩ = some v:=g0
 obtain⟨vp2,vl2,vc2,ev2⟩:∃ p l c,v' = .slice p l c:=by
  rcases hown.2 with ⟨h,_⟩|⟨q,cap,cur,h,_⟩
  · exact⟨_,_,_,h⟩
  · exact⟨_,_,_,h⟩
 have HFIN:=hid hfin;have HEXT:=hid hext;obtain⟨N,hN⟩:∃ N,N=W.words.length:=⟨_,rfl⟩
 rw[←hN]at ev hl hmany ⊢;subst ev;subst ev2;have HR:=hid hr;clear h1 hr hown hg hgo how hext hbl hbox2 hlab2 hlb hne hfin hN g0;go_enter Tryz.func210,Tryz.ntmps210;go_wp2_with (at_builtin;refine wpList_plain rfl fun _ hK=>Lib.wp_append_run _ (Operand.tmp 20) (Operand.tmp 21) 85 2 rfl _ _ rfl rfl _ w2 HR.out (hK _ _ ?_));clear e0 e1 e2;go_wp2_with fail
 go_ret2
 exact⟨rfl,ow',_,HEXT.out,HFIN.out⟩
theorem Qm (ow:Nat→Nat) (w:World) (b n m:Nat) (W:WS) (v:Value) (h1:WAt ow w b W n v) (hm:m≤64) (hl:65536<(W.words.length:Int) - 1+(m:Int)) :
 Calls Tryz.prog 210 #[.pointer (some ⟨b,0,none⟩),.int .i64 (m:Int)] w fun e w'=>e = .returned (.tuple #[.int .i64 0,.bool false])∧w=w':=by
 obtain⟨e0,e1,e2⟩:=h1.cells;obtain⟨vp,vc,ev⟩:=h1.slice;have hmany:=h1.many;clear h1;obtain⟨N,hN⟩:∃ N,N=W.words.length:=⟨_,rfl⟩
 rw[←hN]at ev hl hmany;subst ev;clear hN e1 e2;go_enter Tryz.func210,Tryz.ntmps210;go_wp2_with fail
 go_ret2
 exact⟨rfl,rfl⟩
theorem jI {ow:Nat→Nat} {w:World} {l:Nat}:Ext ow (fun k=>if k<w.heap.size then ow k else l) w:=fun k hk=>by simp[hk]
theorem jU (ow:Nat→Nat) (w:World) (lab:Nat) (v:Value) (l:List Int) (x:Int) (ty:TypeId) (g1:Nat) (h:zI ow w lab v l) (hnew:w.heap[g1]? = some (.cells #[.int .i64 x] 2 (0,0))) (hl:l.length≤1048576) :
 ∃ v' w',(Builtin.append_ #[85,85] ty #[v,.slice (some ⟨g1,0,none⟩) 1 1]).run Tryz.prog w = .ok v' w'∧(∃ p c,v' = .slice p (l.length+1) c)∧∃ ow',Ext ow ow' w∧zI ow' w' lab v' (l++[x])∧But ow [lab] w w':=by
 obtain⟨i,hi,hz,hs,hb⟩:=info_parts jF;have ht:=Tryz.underlying85;have hnews:∀ j u,[Value.int .i64 x][j]? = some u→w.cell? ((⟨g1,0,none⟩:Addr).add j)=some u:=World.news_of_block hnew
 have fresh:∀ (cs:Array Value) (cap:Nat),l.length+1≤cap→cap≤maxLen→cs.size=cap→(∀ (k:Nat) y,(l++[x])[k]? = some y→cs[k]? = some (.int .i64 y)) →
  ∃ ow',Ext ow ow' w∧zI ow' (w.drew.alloc (.cells cs 2)) lab (.slice (some ⟨w.heap.size,0,none⟩) (l.length+1) cap) (l++[x])∧But ow [lab] w (w.drew.alloc (.cells cs 2)):=by
  intro cs cap h1 h2 h3 h4;refine⟨_,jI (l:=lab),.inr ⟨w.heap.size,0,cap,cs,by simp,heap_alloc_new w.drew _,by simp,by simpa using h1,h2,by omega,fun k y hy=>by rw[Nat.zero_add];exact h4 k y hy⟩,⟨rfl,rfl,rfl,by simp,fun k hk _=>Below.heap_alloc w.drew _ k hk⟩⟩
 rcases h with ⟨rfl,rfl⟩|⟨g,off,cap,cur,rfl,hg,hlab,hlc,hcm,hsz,hc⟩
 · have hr:=run_append_nil (P:=Tryz.prog) (w:=w) 85 ty 2 i (.int .i64 0) ht hi hz ⟨g1,0,none⟩ 1 1 [.int .i64 x] (by rw[hs];rfl) hnews (by decide) (by decide) (by rw[hb];decide)
   have hge:=grownCap_ge w 1 0 2;have hle:=grownCap_le_maxLen w 1 0 2 (by decide);refine⟨_,_,hr,⟨_,_,rfl⟩,fresh _ _ hge hle (by simp[Builtin.zeroCells,Value.cells];omega) fun k y hy=>?_⟩;cases k with
   | zero=>simp at hy;subst hy;first|rfl|(rw[Array.getElem?_append,if_pos (by simp)];rfl)
   | succ k=>simp at hy
 · have holds:∀ j u,(wds l)[j]? = some u→w.cell? ((⟨g,off,none⟩:Addr).add j)=some u:=fun j u hu=>by
    rw[wds,List.getElem?_map]at hu;obtain⟨y,hy,rfl⟩:=Option.map_eq_some_iff.1 hu;rw[Addr.add_mid,Lib.cell_of_heap hg];exact hc j y hy
   by_cases hroom:l.length+1≤cap
   · have hst:=run_storeCells_at Tryz.prog g (off+l.length) 2 [Value.int .i64 x] 0 cur w hg (by simp;omega) (by simp[Value.oneCell'])
     simp only[Nat.add_zero,List.length_singleton]at hst;have hlo:(Builtin.lenOf (.slice (some ⟨g1,0,none⟩) 1 1)).run Tryz.prog w = .ok 1 w:=rfl;have hfc:=run_firstCells_some (P:=Tryz.prog) w 1 1 ⟨g1,0,none⟩ 1 1 [.int .i64 x] rfl hnews
     have hr:(Builtin.append_ #[85,85] ty #[.slice (some ⟨g,off,none⟩) l.length cap,.slice (some ⟨g1,0,none⟩) 1 1]).run Tryz.prog w = .ok (.slice (some ⟨g,off,none⟩) (l.length+1) cap) (w.setRow g (cur.toList.take (off+l.length)++[Value.int .i64 x]++cur.toList.drop (off+l.length+1)).toArray):=by
      simp[Builtin.append_,run_underlying ht,sizeOf,typeInfo,hi,hs,Builtin.lenOf,hroom,hfc,Addr.add_mid];simp at hst;rw[hst]
      rfl
     have hcs:∀ k y,(l++[x])[k]? = some y→(cur.toList.take (off+l.length)++[Value.int .i64 x]++cur.toList.drop (off+l.length+1)).toArray[off+k]? = some (.int .i64 y):=by
      intro k y hy;simp only[List.getElem?_toArray];rw[List.append_assoc];have htl:(cur.toList.take (off+l.length)).length=off+l.length:=by simp;omega
      by_cases hk:k<l.length
      · rw[List.getElem?_append,if_pos hk]at hy
        rw[List.getElem?_append,if_pos (by omega),List.getElem?_take,if_pos (by omega)];have:=hc k y hy
        simpa using this
      · rw[List.getElem?_append,if_neg hk]at hy
        have hk0:k=l.length:=by
         rcases Nat.lt_or_ge (k - l.length) 1 with q|q
         · omega
         · rw[List.getElem?_eq_none (by simpa using q)]at hy;cases hy
        subst hk0;simp at hy;subst hy;rw[List.getElem?_append,if_neg (by omega),htl,Nat.sub_self]
        rfl
     refine⟨_,_,hr,⟨_,_,rfl⟩,ow,.refl _ _,.inr ⟨g,off,cap,_,by simp,setRow_heap w g cur _ _ _ hg,hlab,by simpa using hroom,hcm,by simp;omega,hcs⟩,⟨rfl,rfl,rfl,by simp,fun k _ hn=>setRow_other w g k _ (by rintro rfl;exact hn (by rw[hlab];simp))⟩⟩
   · have hg2:cap<l.length+1:=by omega
     have hr:=run_append_grow (P:=Tryz.prog) (w:=w) 85 ty 2 i (.int .i64 0) ht hi hz ⟨g,off,none⟩ l.length cap (wds l) (by rw[hs,xR,Nat.mul_one]) holds ⟨g1,0,none⟩ 1 1 [.int .i64 x] (by rw[hs];rfl) hnews hg2 (by omega) (by rw[hb];exact growslice_fits hg2 (by omega));have hge:=grownCap_ge w (l.length+1) cap 2;have hle:=grownCap_le_maxLen w (l.length+1) cap 2 (by unfold maxLen;omega);refine⟨_,_,hr,⟨_,_,rfl⟩,fresh _ _ hge hle (by simp[Builtin.zeroCells,Value.cells,xR];omega) fun k y hy=>?_⟩
     have hkl:k<l.length+1:=by
      rcases Nat.lt_or_ge k (l.length+1)with q|q
      · exact q
      · rw[List.getElem?_eq_none (by simpa using q)]at hy;cases hy
     rw[Array.getElem?_append,if_pos (by simp[xR];omega)];simp only[List.append_toArray,List.getElem?_toArray];have:wds l++[Value.int .i64 x]=wds (l++[x]):=by simp[wds]
     rw[this,wds,List.getElem?_map,hy];rfl
theorem But.trans {ow ow':Nat→Nat} {ls ms:List Nat} {a b c:World} (h:But ow ls a b) (he:Ext ow ow' a) (k:But ow' ms b c):But ow (ls++ms) a c:=
 ⟨k.os.trans h.os,k.tape.trans h.tape,k.output.trans h.output,Nat.le_trans h.size k.size,fun i hi hn=>(k.block i (Nat.lt_of_lt_of_le hi h.size) (by rw[he i hi];exact fun q=>hn (List.mem_append.2 (.inr q)))).trans (h.block i hi (fun q=>hn (List.mem_append.2 (.inl q))))⟩
theorem vo {w:World} {b p:Nat} {g:Gr} {T:TS} {rs us ts ws x:Value} (i:Nat) (cs:Array Value) (h:w.heap[p]? = some (.cells (wL b g rs T us ts ws) 124 (0,0))) (hc:(wL b g rs T us ts ws).setIfInBounds i x=cs):(w.setCell ⟨p,i,none⟩ x).heap[p]? = some (.cells cs 124 (0,0)):=by
 rw[heap_setCell_same w p i _ _ _ h,hc]
theorem Z6 (ow:Nat→Nat) (u:World) (b j p n:Nat) (g:Gr) (W:WS) (T:TS) (v rs us ts ws:Value) (h1:WAt ow u b W n v) (h2:TAt ow u b j p g T rs us ts ws) (x:Int) (hl:T.told.length≤1048576) :
 ∃ v' w4,(Builtin.append_ #[85,85] 85 #[ts,.slice (some ⟨u.heap.size,0,none⟩) 1 1]).run Tryz.prog (u.alloc (.cells #[.int .i64 x] 2)) = .ok v' w4∧(∃ q c,v' = .slice q (T.told.length+1) c)∧w4.cell? ⟨p,10,none⟩ = some ts∧w4.frozen? ⟨p,10,none⟩ = false ∧
  ∃ ow',Ext ow ow' u∧WAt ow' (w4.setCell ⟨p,10,none⟩ v') b W n v∧TAt ow' (w4.setCell ⟨p,10,none⟩ v') b j p g { T with told:=T.told++[x] } rs us v' ws∧Kp ow j u (w4.setCell ⟨p,10,none⟩ v')∧But ow [13+8*j] u w4:=by
 have hB:=ze u (.cells #[.int .i64 x] 2);have hb0:But ow [] u (u.alloc (.cells #[.int .i64 x] 2)):=But.of hB;obtain⟨v',w4,hr,hv,ow',he,ht,hb⟩:=jU ow _ _ ts T.told x 85 u.heap.size (h2.told.keeps hb0 (.refl _ _) (by simp)) (MapKept.heap_alloc u _).1 hl;have he':Ext ow ow' u:=fun k hk=>he k (by simp;omega)
 have hbb:=hb0.trans (.refl _ _) hb;rw[List.nil_append]at hbb;have hp4:w4.heap[p]? = some (.cells (wL b g rs T us ts ws) 124 (0,0)):=(hbb.block p (z8 h2.box) (by rw[h2.lab];simp <;> omega)).trans h2.box;have hlp:ow' p=10+8*j:=by rw[he' p (z8 h2.box)];exact h2.lab
 have hs:But ow' [10+8*j] w4 (w4.setCell ⟨p,10,none⟩ v'):=xX _ _ hlp;have hall:=hbb.trans he' hs;have hno:∀ k,k≠0→k≠3→10+k+8*j ∉ [13+8*j]++[10+8*j]:=fun k h0 h3 q=>by simp at q;omega
 refine⟨v',w4,hr,hv,zh hp4 10 _ rfl,Lib.frozen_of_heap hp4 10,ow',he',h1.keeps hall he' (by simp;omega) (by simp;omega),⟨vo 10 _ hp4 rfl,hlp,qh h2.regs hall he' (hno 1 (by omega) (by omega)),qF h2.undo hall he' (hno 2 (by omega) (by omega)) (hno 5 (by omega) (by omega)), ?_,h2.waiting.keeps hall he' (hno 4 (by omega) (by omega))⟩,hall.kp (by intro l hl;simp at hl;unfold Mine;omega),hbb⟩;exact ht.keeps hs (.refl _ _) (by simp <;> omega)
theorem XT (ow:Nat→Nat) (u:World) (b j p n:Nat) (g:Gr) (W:WS) (T:TS) (v rs us ts ws:Value) (h1:WAt ow u b W n v) (h2:TAt ow u b j p g T rs us ts ws) (x:Int) (hl:T.told.length≤1048576) :
 ∃ v' w4,(Builtin.append_ #[85,85] 85 #[ts,.slice (some ⟨u.heap.size,0,none⟩) 1 1]).run Tryz.prog (u.alloc (.cells #[.int .i64 x] 2)) = .ok v' w4∧(∃ q c,v' = .slice q (T.told.length+1) c)∧w4.cell? ⟨p,10,none⟩ = some ts∧w4.frozen? ⟨p,10,none⟩ = false ∧
  ∃ ow',Ext ow ow' u∧WAt ow' (w4.setCell ⟨p,10,none⟩ v') b W n v∧TAt ow' (w4.setCell ⟨p,10,none⟩ v') b j p g { T with told:=T.told++[x] } rs us v' ws∧Kp ow j u (w4.setCell ⟨p,10,none⟩ v'):=by
 obtain⟨v',w4,hr,hv,g0,f0,ow',he,h1',h2',hk,_⟩:=Z6 ow u b j p n g W T v rs us ts ws h1 h2 x hl;exact⟨v',w4,hr,hv,g0,f0,ow',he,h1',h2',hk⟩
theorem Xv (ow:Nat→Nat) (u:World) (b j p n:Nat) (g:Gr) (W:WS) (T:TS) (v rs us ts ws:Value) (h1:WAt ow u b W n v) (h2:TAt ow u b j p g T rs us ts ws) (x:Int) (hl:T.waiting.length≤1048576) :
 ∃ v' w4,(Builtin.append_ #[85,85] 85 #[ws,.slice (some ⟨u.heap.size,0,none⟩) 1 1]).run Tryz.prog (u.alloc (.cells #[.int .i64 x] 2)) = .ok v' w4∧(∃ q c,v' = .slice q (T.waiting.length+1) c)∧w4.cell? ⟨p,11,none⟩ = some ws∧w4.frozen? ⟨p,11,none⟩ = false ∧
  ∃ ow',Ext ow ow' u∧WAt ow' (w4.setCell ⟨p,11,none⟩ v') b W n v∧TAt ow' (w4.setCell ⟨p,11,none⟩ v') b j p g { T with waiting:=T.waiting++[x] } rs us ts v'∧Kp ow j u (w4.setCell ⟨p,11,none⟩ v'):=by
 have hB:=ze u (.cells #[.int .i64 x] 2);have hb0:But ow [] u (u.alloc (.cells #[.int .i64 x] 2)):=But.of hB;obtain⟨v',w4,hr,hv,ow',he,ht,hb⟩:=jU ow _ _ ws T.waiting x 85 u.heap.size (h2.waiting.keeps hb0 (.refl _ _) (by simp)) (MapKept.heap_alloc u _).1 hl;have he':Ext ow ow' u:=fun k hk=>he k (by simp;omega)
 have hbb:=hb0.trans (.refl _ _) hb;rw[List.nil_append]at hbb;have hp4:w4.heap[p]? = some (.cells (wL b g rs T us ts ws) 124 (0,0)):=(hbb.block p (z8 h2.box) (by rw[h2.lab];simp <;> omega)).trans h2.box;have hlp:ow' p=10+8*j:=by rw[he' p (z8 h2.box)];exact h2.lab
 have hs:But ow' [10+8*j] w4 (w4.setCell ⟨p,11,none⟩ v'):=xX _ _ hlp;have hall:=hbb.trans he' hs;have hno:∀ k,k≠0→k≠4→10+k+8*j ∉ [14+8*j]++[10+8*j]:=fun k h0 h3 q=>by simp at q;omega
 refine⟨v',w4,hr,hv,zh hp4 11 _ rfl,Lib.frozen_of_heap hp4 11,ow',he',h1.keeps hall he' (by simp;omega) (by simp;omega),⟨vo 11 _ hp4 rfl,hlp,qh h2.regs hall he' (hno 1 (by omega) (by omega)),qF h2.undo hall he' (hno 2 (by omega) (by omega)) (hno 5 (by omega) (by omega)),h2.told.keeps hall he' (hno 3 (by omega) (by omega)), ?_⟩,hall.kp (by intro l hl;simp at hl;unfold Mine;omega)⟩;exact ht.keeps hs (.refl _ _) (by simp <;> omega)
theorem TAt.rebox {ow:Nat→Nat} {w w':World} {b j p:Nat} {g:Gr} {T T':TS} {rs us ts ws:Value} (h:TAt ow w b j p g T rs us ts ws) (hb:But ow [10+8*j] w w') (hbox:w'.heap[p]? = some (.cells (wL b g rs T' us ts ws) 124 (0,0))) (e1:T'.regs=T.regs) (e2:T'.undo=T.undo) (e3:T'.told=T.told) (e4:T'.waiting=T.waiting) :
 TAt ow w' b j p g T' rs us ts ws:=by
 have hno:∀ k,k≠0→10+k+8*j ∉ [10+8*j]:=fun k h0 q=>by simp at q;omega
 refine⟨hbox,h.lab,by rw[e1];exact qh h.regs hb (.refl _ _) (hno 1 (by omega)), ?_,by rw[e3];exact h.told.keeps hb (.refl _ _) (hno 3 (by omega)),by rw[e4];exact h.waiting.keeps hb (.refl _ _) (hno 4 (by omega))⟩;have:=qF h.undo hb (.refl _ _) (hno 2 (by omega)) (hno 5 (by omega));rw[e2];exact this
theorem zN.from {ow:Nat→Nat} {b j p n:Nat} {g:Gr} {r:WS × TS × Bool} {w u w':World} {e:Ending} (hb:Below w.heap.size w u) (h:zN ow b j p g n r u e w'):zN ow b j p g n r w e w':=by
 obtain⟨he,ow',v,rs,us,ts,ws,h1,h2,h3,h4⟩:=h;exact⟨he,ow',v,rs,us,ts,ws,fun k hk=>h1 k (Nat.lt_of_lt_of_le hk hb.size),h2,h3,(Kp.of hb).trans (.refl _ _) h4⟩
