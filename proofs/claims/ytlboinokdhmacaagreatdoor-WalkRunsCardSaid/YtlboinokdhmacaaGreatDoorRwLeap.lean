import Derived.Test.YtlboinokdhmacaaGreatDoorRwGo
namespace Go.Proofs.YtlboinokdhmacaaGreatDoor
set_option maxHeartbeats 64000000
set_option maxRecDepth 1000000
open Lib(hid)
section
open Go.RowKit
theorem Qr (w:World):(bls 85 0 #[]).run Tryz.prog w = .ok (.slice (some ⟨w.heap.size,0,none⟩) 0 0) (w.alloc (.cells #[] 2)):=by
 unfold bls;have hi:(Tryz.prog.info? 2).map (fun i=>(i.zero,i.size,i.bytes))=some (some (.int .i64 0),1,8):=by kernel_rfl
 obtain⟨i0,hi,hz0,hz1,hz2⟩:=info_parts hi;simp[Instr.buildSlice,run_underlying Tryz.underlying85,sizeOf,typeInfo,hi,hz1,newRow,Instr.fill,Array.range_zero']
def x9 (a c:Nat) (ow:Nat→Nat):Nat→Nat:=fun k=>if ow k=5 then a else if ow k=6 then c else if ow k=4 then 0 else ow k
theorem qg {a c:Nat} {ow:Nat→Nat} {k:Nat} (h:ow k≠4∧ow k≠5∧ow k≠6):x9 a c ow k=ow k:=by simp[x9,h]
theorem zI.rl {a c:Nat} {ow:Nat→Nat} {w:World} {lab:Nat} {v:Value} {l:List Int} (h:zI ow w lab v l) (hl:lab≠4∧lab≠5∧lab≠6):zI (x9 a c ow) w lab v l:=by
 rcases h with h|⟨g,off,cap,cur,h1,h2,h3,h4⟩
 · exact .inl h
 · exact .inr ⟨g,off,cap,cur,h1,h2,by rw[qg (by rw[h3];exact hl)];exact h3,h4⟩
theorem zI.rl5 {a c:Nat} {ow:Nat→Nat} {w:World} {v:Value} {l:List Int} (h:zI ow w 5 v l):zI (x9 a c ow) w a v l:=by
 rcases h with h|⟨g,off,cap,cur,h1,h2,h3,h4⟩
 · exact .inl h
 · exact .inr ⟨g,off,cap,cur,h1,h2,by simp[x9,h3],h4⟩
theorem QT.rl {a c:Nat} {ow:Nat→Nat} {w:World} {tb o j:Nat} {T:RT} {rs ws os:Value} (h:QT ow w tb o j T rs ws os):QT (x9 a c ow) w tb o j T rs ws os:=by
 obtain⟨rg,r1,r2,r3⟩:=h.regs;exact⟨h.row,by rw[qg (by rw[h.lab];simp)];exact h.lab,⟨rg,r1,r2,by rw[qg (by rw[r3];omega)];exact r3⟩,h.wait.rl (by omega),h.out.rl (by omega)⟩
theorem QW.rl {a c:Nat} {ow:Nat→Nat} {w:World} {b:Nat} {wd:Int} {tv tw:Value} {W:WS} {n:Int} {v:Value} (h:QW ow w b wd tv tw W n v):QW (x9 a c ow) w b wd tv tw W n v:=
 ⟨h.box,h.row,by rw[qg (by rw[h.lab];simp)];exact h.lab,fun k hk=>by rw[qg (by rw[h.labr k hk];simp)];exact h.labr k hk,h.many⟩
theorem GoS.begin {ow0:Nat→Nat} {U:World} {b:Nat} {wd:Int} {tv tw:Value} {tb j cl:Nat} {rs ws os:Value} {g:Gr} {out:List Int} {n:Nat} {W:WS} {T:RT} {K:Ks} {l:List Int} {ow1:Nat→Nat} {wr w':World} {v lv wv:Value} (h:GoS ow0 U b wd tv tw tb j cl rs ws os g out n W T K l ow1 wr v lv wv) :
 ∃ v' w' ow3,(Builtin.append_ #[85,85] 85 #[.slice (some ⟨wr.heap.size,0,none⟩) 0 0,v]).run Tryz.prog (wr.alloc (.cells #[] 2)) = .ok v' w'∧(∃ q c,v' = .slice q W.words.length c) ∧
  GoS ow0 U b wd tv tw tb j cl rs ws os g out n W T ⟨true,W.words,W.words.length⟩ l ow3 w' v lv v':=by
 obtain⟨V1,hV1⟩:∃ V1,V1=wr.alloc (.cells #[] 2):=⟨_,rfl⟩
 have hb1:Below wr.heap.size wr V1:=by rw[hV1];exact ze wr _
 have hs:=h.below hb1;have hH:V1.heap[wr.heap.size]? = some (.cells #[] 2 (0,0)):=by rw[hV1];exact (MapKept.heap_alloc wr _).1
 have hlH:=z8 hH;obtain⟨owH,howH⟩:∃ owH,owH=fun k=>if k=wr.heap.size then 6 else ow1 k:=⟨_,rfl⟩
 have hne:∀ k,ow1 k≠0→owH k=ow1 k:=fun k hk=>by
  rw[howH]
  by_cases e:k=wr.heap.size
  · subst e;exact absurd (h.new _ (Nat.le_refl _)) hk
  · simp[e]
 have heH:Ext ow1 owH wr:=fun k hk=>by rw[howH];simp[Nat.ne_of_lt hk]
 have hwsz:U.heap.size≤wr.heap.size:=h.but.size;have hqw:QW owH V1 b wd tv tw W (n:Int) v:=⟨hs.qw.box,hs.qw.row,by rw[hne b (by rw[hs.qw.lab];simp)];exact hs.qw.lab,fun k hk=>by rw[hne k (by rw[hs.qw.labr k hk];simp)];exact hs.qw.labr k hk,hs.qw.many⟩
 have htl:∀ {lab:Nat} {u:Value} {q:List Int},lab≠0→zI ow1 V1 lab u q→zI owH V1 lab u q:=fun {lab u q} h0 ht=>by
  rcases ht with ht|⟨g,off,cap,cur,h1,h2,h3,h4⟩
  · exact .inl ht
  · exact .inr ⟨g,off,cap,cur,h1,h2,by rw[hne g (by rw[h3];exact h0)];exact h3,h4⟩
 have hqt:QT owH V1 tb (j*6) j T rs ws os:=by
  obtain⟨rg,r1,r2,r3⟩:=hs.qt.regs;exact⟨hs.qt.row,by rw[hne tb (by rw[hs.qt.lab];simp)];exact hs.qt.lab,⟨rg,r1,r2,by rw[hne rg (by rw[r3];omega)];exact r3⟩,htl (by omega) hs.qt.wait,htl (by omega) hs.qt.out⟩
 have hla:LAt owH V1 cl lv l:=⟨hs.la.box,by rw[hne cl (by rw[hs.la.lab];simp)];exact hs.la.lab,htl (by simp) hs.la.row⟩
 obtain⟨v',w',hrun,hf,ow',he,hown,hlab,hbut⟩:=Xp owH V1 W.words 85 v hs.qw.row hs.qw.many wr.heap.size hH (by rw[howH];simp);have hB:But ow' ([]:List Nat) w' w':=But.of (Below.refl _ _);have hc:Ext ow' (fun k=>if k<w'.heap.size then ow' k else 0) w':=uE;have hsz:=hbut.size;have hrow:Ext owH (fun k=>if k<w'.heap.size then ow' k else 0) V1:=fun k hk=>(hc k (Nat.lt_of_lt_of_le hk hsz)).trans (he k hk)
 have hbw:But ow1 [6] wr w':=⟨hbut.os.trans hb1.os,hbut.tape.trans hb1.tape,hbut.output.trans hb1.output,Nat.le_trans hb1.size hbut.size,fun k hk hn=>by
  have h1:=hb1.block k hk;exact (hbut.block k (Nat.lt_of_lt_of_le hk hb1.size) (by rw[heH k hk];exact hn)).trans h1⟩
 rw[←hV1]
 refine⟨v',w',_,hrun,hf,fun k hk=>?_,hqw.keeps hbut hrow (by simp) (by simp),hqt.keeps hbut hrow (by simp) (by simp;omega) (by simp;omega) (by simp;omega),hla.keeps hbut hrow (by simp) (by simp),
  fun _=>⟨hown,fun k hk=>?_,hs.qw.many⟩,vD h.but h.ext (zi hbw (by simp)),h.tk.trans (TbK.of_but h.qt.row.choose_spec.1 h.qt.lab hbw (by simp)),fun k hk=>by simp[Nat.not_lt.2 hk],h.ok,h.len,(fun q=>by simp at q),h.wait,h.same,h.lb⟩
 · exact (hrow k (Nat.lt_of_lt_of_le hk (Nat.le_trans hwsz hb1.size))).trans ((heH k (Nat.lt_of_lt_of_le hk hwsz)).trans (h.ext k hk))
 · exact (hc k (hown.lt k hk).2).trans (hlab k hk)
def GoE (ow0:Nat→Nat) (U:World) (b:Nat) (wd:Int) (tv tw:Value) (tb j:Nat) (rs:Value) (n:Int) (W:WS) (T:RT) (w':World):Prop:=
 ∃ ow' v' ws' os',(∀ k,k<U.heap.size→ow0 k≠4→ow0 k≠5→ow0 k≠6→ow' k=ow0 k)∧QW ow' w' b wd tv tw W n v'∧QT ow' w' tb (j*6) j T rs ws' os'∧But ow0 [1,2,3,4,5,6,10+8*j,11+8*j,12+8*j] U w'∧TbK tb (j*6) U w'
theorem GoS.stay {ow0:Nat→Nat} {U:World} {b:Nat} {wd:Int} {tv tw:Value} {tb j cl:Nat} {rs ws os:Value} {g:Gr} {out:List Int} {n:Nat} {W:WS} {T:RT} {K:Ks} {l:List Int} {ow1:Nat→Nat} {wr w':World} {v lv wv:Value} {m:Int} {W':WS} {T':RT} {l':List Int} (h:GoS ow0 U b wd tv tw tb j cl rs ws os g out n W T K l ow1 wr v lv wv) (hq:QSt ow1 b wd tv tw tb (j*6) j cl rs ws os m W' T' l' wr w'):GoE ow0 U b wd tv tw tb j rs m W' T' w':=by
 obtain⟨ow2,v',lv',he,q1,q2,q3,q4,q5⟩:=hq;exact⟨ow2,v',ws,os,fun k hk _ _ _=>(he k (Nat.lt_of_lt_of_le hk h.but.size)).trans (h.ext k hk),q1,q2,zi (vD h.but h.ext (zi q4 (by simp))) (by simp),h.tk.trans q5⟩
theorem GoS.undo {ow0:Nat→Nat} {U:World} {b:Nat} {wd:Int} {tv tw:Value} {tb j cl:Nat} {rs ws os:Value} {g:Gr} {out:List Int} {n:Nat} {W:WS} {T:RT} {K:Ks} {l:List Int} {ow1:Nat→Nat} {wr w':World} {v lv wv:Value} {m:Int} {W':WS} {T':RT} {l':List Int} (h:GoS ow0 U b wd tv tw tb j cl rs ws os g out n W T K l ow1 wr v lv wv) (hi:K.inside=true) (hq:QSt ow1 b wd tv tw tb (j*6) j cl rs ws os m W' T' l' wr w'):GoE ow0 U b wd tv tw tb j rs m { W' with words:=K.was } T' (w'.setCell ⟨b,2,none⟩ wv):=by
 obtain⟨ow2,v',lv',he,q1,q2,q3,q4,q5⟩:=hq;obtain⟨a1,a2,a3⟩:=h.was hi;have hown:=zM a1 q4 a2 (by simp;omega);have hlab:∀ k,wv.ownBlock=some k→ow2 k=6:=fun k hk=>by rw[he k (a1.lt k hk).2];exact a2 k hk
 have q1r:QW (x9 0 2 ow2) w' b wd tv tw W' m v':=q1.rl;have q2r:QT (x9 0 2 ow2) w' tb (j*6) j T' rs ws os:=q2.rl;have hs:But (x9 0 2 ow2) [1] w' (w'.setCell ⟨b,2,none⟩ wv):=xX _ _ q1r.lab;have hne:wv.ownBlock≠some b:=fun q=>by have:=hlab b q;rw[q1.lab]at this;omega
 refine⟨x9 0 2 ow2,wv,ws,os,fun k hk h4 h5 h6=>?_,⟨?_, ?_,q1r.lab,fun k hk=>by simp[x9,hlab k hk],a3⟩,q2r.keeps hs (.refl _ _) (by simp) (by simp;omega) (by simp;omega) (by simp;omega), ?_,(h.tk.trans q5).trans (TbK.of_but q2r.row.choose_spec.1 q2r.lab hs (by simp))⟩
 · have e:ow2 k=ow0 k:=(he k (Nat.lt_of_lt_of_le hk h.but.size)).trans (h.ext k hk)
   rw[qg (by rw[e];exact⟨h4,h5,h6⟩)];exact e
 · rw[heap_setCell_same w' b 2 _ _ _ q1.box];rfl
 · exact hown.kept (row:=some b) ⟨rfl,rfl,rfl,by simp[World.setCell],fun k _ hk=>Below.heap_setCell _ _ _ _ (by rintro rfl;exact hk rfl)⟩ (.inr hne)
 · exact (zi (vD h.but h.ext (zi q4 (by simp))) (by simp)).set (p:=⟨b,2,none⟩) (by simp[h.lb]) _
theorem ZK {g:Gr} {W:WS} {T:RT} {inside:Bool} {mark:Nat} {l:List Int} (h:(zy g W T inside mark l).2.2.2=3):inside=false∧∃ x,(zy g W T inside mark l).2.2.1=l++[x]:=by
 unfold zy at h ⊢;cases hb:g.blocks[T.bi]? with
 | none=>rw[hb]at h;simp at h
 | some bk =>
  rw[hb]at h;simp only at h ⊢;cases hx:bk.ins[T.ii]? with
  | none=>rw[hx]at h;simp only at h;split at h <;> omega
  | some x =>
   rw[hx]at h;simp only at h ⊢
   by_cases h12:x.k=12
   · rw[if_pos h12]at h ⊢
     cases inside with
     | true=>simp at h
     | false=>exact⟨rfl,_,rfl⟩
   · rw[if_neg h12]at h
     by_cases h14:x.k=14
     · rw[if_pos h14]at h;simp at h
     · rw[if_neg h14]at h
       simp only at h;split at h <;> omega
theorem ZM (g:Gr) (W:WS) (T:RT) (inside:Bool) (mark:Nat) (l:List Int):(zy g W T inside mark l).2.2.2=0∨(zy g W T inside mark l).2.2.2=1∨(zy g W T inside mark l).2.2.2=2∨(zy g W T inside mark l).2.2.2=3:=by
 unfold zy
 repeat' split
 all_goals simp
theorem QSt.below {ow:Nat→Nat} {b:Nat} {wd:Int} {tv tw:Value} {tb o j cl:Nat} {rs ws os:Value} {n:Int} {W:WS} {T:RT} {l:List Int} {w w' V:World} (h:QSt ow b wd tv tw tb o j cl rs ws os n W T l w w') (hb:Below w'.heap.size w' V):QSt ow b wd tv tw tb o j cl rs ws os n W T l w V:=by
 obtain⟨ow2,v',lv',he,q1,q2,q3,q4,q5⟩:=h;have hB:∀ ow ls,But ow ls w' V:=fun ow ls=>But.of hb
 exact⟨ow2,v',lv',he,q1.keeps (hB _ []) (.refl _ _) (by simp) (by simp),q2.keeps (hB _ []) (.refl _ _) (by simp) (by simp) (by simp) (by simp),q3.keeps (hB _ []) (.refl _ _) (by simp) (by simp),zw q4 (hB _ _),q5.trans (TbK.of_but q2.row.choose_spec.1 q2.lab (hB ow2 []) (by simp))⟩
theorem GoS.short {ow0:Nat→Nat} {U:World} {b:Nat} {wd:Int} {tv tw:Value} {tb j cl:Nat} {rs ws os:Value} {g:Gr} {out:List Int} {n:Nat} {W:WS} {T:RT} {K:Ks} {l:List Int} {ow1:Nat→Nat} {wr w':World} {v lv wv:Value} {m:Int} {W':WS} {T':RT} {l':List Int} (h:GoS ow0 U b wd tv tw tb j cl rs ws os g out n W T K l ow1 wr v lv wv) (hq:QSt ow1 b wd tv tw tb (j*6) j cl rs ws os m W' T' l' wr w'):But ow0 [1,2,3,4,5,6,10+8*j] U w':=by
 obtain⟨ow2,v',lv',he,q1,q2,q3,q4,q5⟩:=hq;exact vD h.but h.ext (zi q4 (by simp))
theorem GoS.shut {ow0:Nat→Nat} {U:World} {b:Nat} {wd:Int} {tv tw:Value} {tb j cl:Nat} {rs ws os:Value} {g:Gr} {out:List Int} {n:Nat} {W:WS} {T:RT} {K:Ks} {l:List Int} {ow1:Nat→Nat} {wr w':World} {v lv wv:Value} {m:Int} {W':WS} {T':RT} {l':List Int} (h:GoS ow0 U b wd tv tw tb j cl rs ws os g out n W T K l ow1 wr v lv wv) (hq:QSt ow1 b wd tv tw tb (j*6) j cl rs ws os m W' T' l' wr w') :
 ∃ lv',w'.heap[cl]? = some (.cells #[lv'] 85 (0,0))∧(∃ q c,lv' = .slice q l'.length c)∧tb<w'.heap.size∧w'.cell? ⟨tb,j*6+3,none⟩ = some ws∧w'.frozen? ⟨tb,j*6+3,none⟩ = false ∧
  GoE ow0 U b wd tv tw tb j rs m W' { T' with wait:=l' } (w'.setCell ⟨tb,j*6+3,none⟩ lv'):=by
 obtain⟨ow2,v',lv',he,q1,q2,q3,q4,q5⟩:=hq;have q1r:QW (x9 (11+8*j) 0 ow2) w' b wd tv tw W' m v':=q1.rl;have q2r:QT (x9 (11+8*j) 0 ow2) w' tb (j*6) j T' rs ws os:=q2.rl;have htl:zI (x9 (11+8*j) 0 ow2) w' (11+8*j) lv' l':=q3.row.rl5;obtain⟨z1,z2,z3⟩:=q2r.putWait (But.of (ls:=[11+8*j]) (Below.refl _ _)) (.refl _ _) htl;refine⟨lv',q3.box,htl.form',q2.cells.1,q2.cells.2.2.2.2.1,q2.frozen _,x9 (11+8*j) 0 ow2,v',lv',os,fun k hk h4 h5 h6=>?_,q1r.keeps z2 (.refl _ _) (by simp) (by simp),z1, ?_,(h.tk.trans q5).trans z3⟩
 · have e:ow2 k=ow0 k:=(he k (Nat.lt_of_lt_of_le hk h.but.size)).trans (h.ext k hk)
   rw[qg (by rw[e];exact⟨h4,h5,h6⟩)];exact e
 · exact (zi (vD h.but h.ext (zi q4 (by simp))) (by simp)).set (p:=⟨tb,j*6+3,none⟩) (by simp[h.lb]) _
theorem GoS.tell {ow0:Nat→Nat} {U:World} {b:Nat} {wd:Int} {tv tw:Value} {tb j cl:Nat} {rs ws os:Value} {g:Gr} {out:List Int} {n:Nat} {W:WS} {T:RT} {K:Ks} {l:List Int} {ow1:Nat→Nat} {wr w':World} {v lv wv:Value} {m:Int} {W':WS} {T':RT} {x:Int} (h:GoS ow0 U b wd tv tw tb j cl rs ws os g out n W T K l ow1 wr v lv wv) (hq:QSt ow1 b wd tv tw tb (j*6) j cl rs ws os m W' T' [x] wr w') (hlo:T'.out.length≤1048576) :
 ∃ wg off cap q0 c0 q8 c8 w8,w'.heap[cl]? = some (.cells #[.slice (some ⟨wg,off,none⟩) 1 cap] 85 (0,0))∧os = .slice q0 T'.out.length c0∧tb<w'.heap.size∧w'.cell? ⟨tb,j*6+4,none⟩ = some os ∧
  (Builtin.append_ #[85,85] 85 #[os,.slice (some ⟨wg,off,none⟩) 1 cap]).run Tryz.prog w' = .ok (.slice q8 (T'.out.length+1) c8) w8∧w8.heap[tb]? = w'.heap[tb]? ∧ w8.heap[cl]? = w'.heap[cl]? ∧ tb<w8.heap.size∧w8.cell? ⟨tb,j*6+4,none⟩ = some os∧w8.frozen? ⟨tb,j*6+4,none⟩ = false ∧
  GoE ow0 U b wd tv tw tb j rs m W' { T' with out:=T'.out++[x] } (w8.setCell ⟨tb,j*6+4,none⟩ (.slice q8 (T'.out.length+1) c8)):=by
 obtain⟨ow2,v',lv',he,q1,q2,q3,q4,q5⟩:=hq;obtain⟨wg,off,cap,rfl,hc1,hc2,hwg,hlw,hcell,-⟩:=q3.row.cons;obtain⟨q0,c0,hos⟩:=q2.out.form'
 obtain⟨v8,w8,hrun,⟨q8,c8,e8⟩,ow',hext,htail,hbut⟩:=XY ow2 w' (12+8*j) os T'.out x 85 ⟨wg,off,none⟩ cap q2.out (fun k u hu=>by
  cases k with
  | zero=>simp at hu;subst hu;exact hcell
  | succ k=>simp at hu) hlo
 subst e8;obtain⟨z1,z2,z3⟩:=q2.putOut hbut hext htail;have htbk:=hbut.block tb q2.cells.1 (by rw[q2.lab];simp;omega);obtain⟨cur,hc,r0,r1,r2,r3,r4,r5⟩:=q2.row;have hc8:=htbk.trans hc;refine⟨wg,off,cap,q0,c0,q8,c8,w8,q3.box,hos,q2.cells.1,q2.cells.2.2.2.2.2.1,hrun,htbk,hbut.block cl (z8 q3.box) (by rw[q3.lab];simp;omega),z8 hc8,zh hc8 _ _ r4,Lib.frozen_of_heap hc8 _,ow',v',ws,_,fun k hk _ _ _=>?_,(q1.keeps hbut hext (by simp;omega) (by simp;omega)).keeps z2 (.refl _ _) (by simp) (by simp),z1, ?_,(h.tk.trans q5).trans z3⟩
 · have hk1:=Nat.lt_of_lt_of_le hk h.but.size
   exact (hext k (Nat.lt_of_lt_of_le hk1 q4.size)).trans ((he k hk1).trans (h.ext k hk))
 · have b1:But ow0 [1,2,3,4,5,6,10+8*j,11+8*j,12+8*j] U w':=zi (vD h.but h.ext (zi q4 (by simp))) (by simp)
   have b2:But ow0 [1,2,3,4,5,6,10+8*j,11+8*j,12+8*j] U w8:=vD b1 (fun k hk=>(he k (Nat.lt_of_lt_of_le hk h.but.size)).trans (h.ext k hk)) (zi hbut (by simp));exact b2.set (p:=⟨tb,j*6+4,none⟩) (by simp[h.lb]) _
end
open Go.RowKit
attribute [local go_sem ↓] zL zJ
def kg (b:Nat) (w:World):Nat:=match w.cell? ⟨b,4,none⟩with|some v=>(intOf v).toNat|none=>0
theorem QW.fuelAt {ow:Nat→Nat} {w:World} {b:Nat} {wd:Int} {tv tw:Value} {W:WS} {n:Nat} {v:Value} (h:QW ow w b wd tv tw W (n:Int) v):kg b w=n:=by
 unfold kg;rw[zh h.box 4 _ rfl];simp[intOf]
theorem GoE.lp {ow ow0:Nat→Nat} {w U:World} {b:Nat} {wd:Int} {tv tw:Value} {tb j:Nat} {rs:Value} {n:Int} {r:Nat × WS × RT × Bool} {w':World} (hU:Below w.heap.size w U) (h0:∀ k,k<w.heap.size→ow0 k=ow k) (hcl:∀ k,ow k≠4∧ow k≠5∧ow k≠6) (htk:TbK tb (j*6) w U)
 (hr:r.2.2.2=true→n=(r.1:Int)) (hf:r.2.2.2=false→But ow0 [1,2,3,4,5,6,10+8*j] U w') (he:GoE ow0 U b wd tv tw tb j rs n r.2.1 r.2.2.1 w'):QLp ow b wd tv tw tb j rs r w (.returned (.bool r.2.2.2)) w':=by
 obtain⟨ow',v',ws',os',e1,e2,e3,e4,e5⟩:=he;refine⟨rfl,ow',v',ws',os',n,hr,fun k hk=>?_,e2,e3,⟨e4.os.trans hU.os,e4.tape.trans hU.tape,e4.output.trans hU.output,Nat.le_trans hU.size e4.size,fun k hk hn=>(e4.block k (Nat.lt_of_lt_of_le hk hU.size) (by rw[h0 k hk];exact hn)).trans (hU.block k hk)⟩,htk.trans e5,fun q=>?_⟩
 rotate_left
 · have e4:=hf q
   exact⟨e4.os.trans hU.os,e4.tape.trans hU.tape,e4.output.trans hU.output,Nat.le_trans hU.size e4.size,fun k hk hn=>(e4.block k (Nat.lt_of_lt_of_le hk hU.size) (by rw[h0 k hk];exact hn)).trans (hU.block k hk)⟩
 have h:=h0 k hk;exact (e1 k (Nat.lt_of_lt_of_le hk hU.size) (by rw[h];exact (hcl k).1) (by rw[h];exact (hcl k).2.1) (by rw[h];exact (hcl k).2.2)).trans h
theorem GoS.all {ow0:Nat→Nat} {U:World} {b:Nat} {wd:Int} {tv tw:Value} {tb j cl:Nat} {rs ws os:Value} {g:Gr} {out:List Int} {n:Nat} {W:WS} {T:RT} {K:Ks} {l:List Int} {ow1:Nat→Nat} {wr:World} {v lv wv:Value} {B:Nat} (h:GoS ow0 U b wd tv tw tb j cl rs ws os g out n W T K l ow1 wr v lv wv) (hgi:GIn U B g) (hBU:B≤U.heap.size) (hlow:∀ k,k<B→ow0 k=0) (hGO:GOk g) (hkind:∀ bk ∈ g.blocks,1≤bk.last∧bk.last≤3):∃ bk,uR ow1 wr B b wd tv tw tb (j*6) j cl rs ws os (n:Int) W T l v lv g bk:=by
 obtain⟨bk,hbk⟩:∃ bk,g.blocks[T.bi]? = some bk:=⟨_,List.getElem?_eq_getElem h.ok.bi⟩
 have hbm:bk ∈ g.blocks:=List.mem_of_getElem? hbk;have hBel:Below B U wr:=⟨h.but.os,h.but.tape,h.but.output,h.but.size,fun k hk=>h.but.block k (Nat.lt_of_lt_of_le hk hBU) (by rw[hlow k hk];simp;omega)⟩
 exact⟨bk,{ qw:=h.qw,qt:=h.qt,la:=h.la,gi:=hgi.keeps hBel,base:=Nat.le_trans hBU h.but.size,low:=fun k hk=>(h.ext k (Nat.lt_of_lt_of_le hk hBU)).trans (hlow k hk),new:=h.new,hbk:=hbk,ii:=h.ok.ii bk hbk,fit:=by rw[h.ok.regs];exact hGO.fit bk hbm,last:=by rw[h.ok.regs];exact hGO.last bk hbm,long:=by have:=h.len;omega,kind:=hkind bk hbm }⟩
theorem Yw {g:Gr} {m:Nat} {W:WS} {T:RT} {K K2:Ks} {l:List Int} (hat:K.at g W T=K2) {W':WS} {T':RT} {l':List Int} {c:Nat} (hN:(W',T',l',c)=zy g W T K2.inside K2.mark l) :
 goR g (m+1) W T K l=if c=0 then goR g m W' T' K2 l' else (m,(y8 W' T' K2 l' c).1,(y8 W' T' K2 l' c).2,true):=by
 rw[goR,hat,←hN];cases c with
 | zero=>rfl
 | succ c=>rfl
theorem Vj {ow:Nat→Nat} {w:World} {B b:Nat} {wd:Int} {tv tw:Value} {tb j:Nat} {rs ws os:Value} {n:Nat} {W:WS} {T:RT} {v:Value} {g:Gr} {NT tc gt goff NG gc:Nat} (h:kK ow w B b wd tv tw tb j rs ws os n W T v g NT tc gt goff NG gc) (hwt:T.wait=[]) (hGO:GOk g) (hkind:∀ bk ∈ g.blocks,1≤bk.last∧bk.last≤3) (hok:ROk g T) (hn:n≤1048576) :
 Calls Tryz.prog 27 #[.pointer (some ⟨b,0,none⟩),.int .i64 (j:Int)] w (QLp ow b wd tv tw tb j rs (goR g n W T ⟨false,[],0⟩ []) w):=by
 obtain⟨R,hR⟩:∃ R,R=goR g n W T ⟨false,[],0⟩ []:=⟨_,rfl⟩
 rw[←hR];obtain⟨ro,NR,rc,hrv⟩:∃ ro NR rc,g.rv = .slice ro NR rc:=by obtain⟨ao,cap,e,-⟩:=h.gi.rlies;exact⟨_,_,_,e⟩
 obtain⟨bo,NB,bc,hbv⟩:∃ ro NR rc,g.bv = .slice ro NR rc:=by obtain⟨ao,cap,e,-⟩:=h.gi.blies;exact⟨_,_,_,e⟩
 have etw:=h.etw;have etv:=h.etv;subst etw etv;have g0:=h.g0;have g1:=h.g1;have g2:=h.g2;rw[hrv]at g0;rw[hbv]at g2;obtain⟨sites,hsi⟩:∃ s,s=g.sites:=⟨_,rfl⟩
 rw[←hsi]at g1;have hjT:=h.jT;have hjG:=h.jG;have hgt:gt<w.heap.size:=Nat.lt_of_lt_of_le h.gtB h.base;have k0:=zh h.qw.box 0 _ rfl;have k1:=zh h.qw.box 1 _ rfl;have k3:=zh h.qw.box 3 _ rfl;have hlb:=z8 h.qw.box;obtain⟨htb,-,-,-,d3,-,-⟩:=h.qt.cells;obtain⟨wq,wc,hws⟩:=h.qt.wait.form';rw[hwt,List.length_nil]at hws;rw[hws]at d3;obtain⟨U1,hU1⟩:∃ U1,U1=w.alloc (.cells #[.slice ro NR rc,.int .i64 sites,.slice bo NB bc] 75):=⟨_,rfl⟩
 have hb1:Below w.heap.size w U1:=by rw[hU1];exact ze w _
 have hx1:U1.heap[w.heap.size]? = some (.cells #[.slice ro NR rc,.int .i64 sites,.slice bo NB bc] 75 (0,0)):=by rw[hU1];exact (MapKept.heap_alloc w _).1
 have hz1:U1.heap.size=w.heap.size+1:=by rw[hU1];simp
 obtain⟨U,hU⟩:∃ U,U=U1.alloc (.cells #[.slice none 0 0] 85):=⟨_,rfl⟩
 have hb2:Below U1.heap.size U1 U:=by rw[hU];exact ze U1 _
 have hbU:Below w.heap.size w U:=hb1.trans (hb2.mono hb1.size);have hxg:=(hb2.block w.heap.size (z8 hx1)).trans hx1;have hxl:U.heap[w.heap.size+1]? = some (.cells #[.slice none 0 0] 85 (0,0)):=by rw[hU,←hz1];exact (MapKept.heap_alloc U1 _).1
 have hzU:U.heap.size=w.heap.size+2:=by rw[hU];simp[hz1]
 obtain⟨ow0,how0⟩:∃ ow0,ow0=fun k=>if k=w.heap.size+1 then 4 else ow k:=⟨_,rfl⟩
 have hold:∀ k,k<w.heap.size→ow0 k=ow k:=fun k hk=>by rw[how0];simp[Nat.ne_of_lt (Nat.lt_succ_of_lt hk)]
 have hB0:But ow ([]:List Nat) w U:=But.of hbU
 have hS0:GoS ow0 U b wd (.slice (some ⟨gt,goff,none⟩) NG gc) (.slice (some ⟨tb,0,none⟩) NT tc) tb j (w.heap.size+1) rs ws os g T.out n W T ⟨false,[],0⟩ [] ow0 U v (.slice none 0 0) (.slice none 0 0):=
  ⟨.refl _ _,h.qw.keeps hB0 hold (by simp) (by simp),h.qt.keeps hB0 hold (by simp) (by simp) (by simp) (by simp),⟨hxl,by rw[how0];simp,.inl ⟨rfl,rfl⟩⟩,fun q=>by simp at q,But.of (Below.refl _ _),TbK.of_but ((hbU.block tb htb).trans h.qt.row.choose_spec.1) (by rw[hold tb htb];exact h.qt.lab) (But.of (ow:=ow0) (ls:=[]) (Below.refl _ _)) (by simp),
   fun k hk=>by rw[how0,hzU]at *;simp;rw[if_neg (by omega)];exact h.new k (by omega),hok,by simpa using hn,fun _=>rfl,hwt,rfl,⟨by rw[hold b hlb];exact h.qw.lab,by rw[hold tb htb];exact h.qt.lab⟩⟩
 have hg0:ow0 w.heap.size=0:=by rw[how0];simp;exact h.new _ (Nat.le_refl _)
 have hlow:∀ k,k<B→ow0 k=0:=fun k hk=>by rw[hold k (Nat.lt_of_lt_of_le hk h.base)];exact h.low k hk
 have htk0:TbK tb (j*6) w U:=TbK.of_but h.qt.row.choose_spec.1 h.qt.lab hB0 (by simp);have HEND:=hid (fun (nq:Int) (r:Nat × WS × RT × Bool) (w':World) (hr:r.2.2.2=true→nq=(r.1:Int)) (hf:r.2.2.2=false→But ow0 [1,2,3,4,5,6,10+8*j] U w') (he:GoE ow0 U b wd (.slice (some ⟨gt,goff,none⟩) NG gc) (.slice (some ⟨tb,0,none⟩) NT tc) tb j rs nq r.2.1 r.2.2.1 w')=>GoE.lp hbU hold h.clean htk0 hr hf he);have HS0:=hid hS0;have HR:=hid hR;have HU:=hid (show (w.alloc (.cells #[.slice ro NR rc,.int .i64 sites,.slice bo NB bc] 75)).alloc (.cells #[.slice none 0 0] 85)=U from by rw[hU,hU1]);have HXG:=hid hxg;have HG0:=hid hg0;have HLOW:=hid hlow;have HGI:=hid (h.gi.keeps (w':=U) (by have:=h.base;exact hbU.mono this));have HBU:=hid (show B≤U.heap.size from Nat.le_trans h.base hbU.size);have HGO:=hid hGO;have HKD:=hid hkind;have HZU:=hid hzU;have HLO:=hid h.lo;have HGV:=hid (And.intro hrv (And.intro hsi hbv));clear h hwt hrv hbv hsi hU1 hb1 hx1 hz1 hU hb2 hbU hxg hxl hzU how0 hold hB0 hS0 hg0 hlow htk0 hR hGO hkind hok hn hws;go_enter Tryz.func27,Tryz.ntmps27;go_wp2_with fail;rw[HU.out];clear g0 g1 g2 k0 k1 k3 d3;obtain⟨gx,hgx⟩:∃ gx,gx=w.heap.size:=⟨_,rfl⟩
 have HGX:=hid hgx
 go_loopw [8,9,10] (fun iv wv mv wr=>∃ n1 W1 T1 K1 l1 ow1 v1 lv1,iv = .bool K1.inside∧mv = .int .i64 (K1.mark:Int)∧R=goR g n1 W1 T1 K1 l1∧GoS ow0 U b wd (.slice (some ⟨gt,goff,none⟩) NG gc) (.slice (some ⟨tb,0,none⟩) NT tc) tb j (w.heap.size+1) rs ws os g T.out n1 W1 T1 K1 l1 ow1 wr v1 lv1 wv) (fun _ _ _ wr=>kg b wr)
 case atStart=>exact⟨n,W,T,⟨false,[],0⟩,[],ow0,v,_,rfl,rfl,HR.out,HS0.out⟩
 case round =>
  obtain⟨n1,W1,T1,K1,l1,ow1,v1,lv1,rfl,rfl,hR1,hS⟩:=hrel;have HR1:=hid hR1;have HS:=hid hS;have hfu:kg b wr=n1:=hS.qw.fuelAt;have HFU:=hid hfu;have hxg:=(hS.but.block w.heap.size (z8 HXG.out) (by rw[HG0.out];simp;omega)).trans HXG.out;have hlg:=z8 hxg;obtain⟨c0,c1,c2⟩:=yl hxg;have hBel:Below B U wr:=⟨hS.but.os,hS.but.tape,hS.but.output,hS.but.size,fun k hk=>hS.but.block k (Nat.lt_of_lt_of_le hk HBU.out) (by rw[HLOW.out k hk];simp;omega)⟩
  have hgi:=HGI.out.keeps hBel;have hBw:B≤wr.heap.size:=Nat.le_trans HBU.out hS.but.size;obtain⟨bk,hbk⟩:∃ bk,g.blocks[T1.bi]? = some bk:=⟨_,List.getElem?_eq_getElem hS.ok.bi⟩
  have HBG:=hid (Vt hS.qt hgi hBw hbk (hS.ok.ii bk hbk));rw[HGV.out.1,←HGV.out.2.1,HGV.out.2.2]at HBG;have HBK:=hid hbk;have HGW:=hid hgi;have HBW:=hid hBw;have HXW:=hid hxg;clear hR1 hS hfu hxg hBel hgi hBw hbk;go_wp2_with fail;refine HBG.out.mono ?_;rintro e w2 ⟨rfl,hb2⟩;have HS2:=hid (HS.out.below hb2);have HB2:=hid hb2;have HX2:=hid ((hb2.block w.heap.size hlg).trans HXW.out);clear hb2 c0 c1 c2 hlg;cases hbg:vK g T1 with
  | false =>
   obtain⟨c0,c1,c2⟩:=yl HX2.out;have hlg:=z8 HX2.out;have HSV:=hid HS2.out;have HAT:=hid (show K1.at g W1 T1=K1 from by simp[Ks.at,hbg]);go_wp2_with fail;obtain⟨bk,hall⟩:=HSV.out.all HGI.out HBU.out HLOW.out HGO.out HKD.out;cases n1 with
   | zero =>
    have HN:=hid (Zw (by exact hall) K1.inside K1.mark);rw[HGV.out.1,←HGV.out.2.1,HGV.out.2.2]at HN;clear hall;go_wp2_with fail;refine HN.out.mono ?_;rintro e w5 ⟨rfl,hq⟩;have HQ:=hid hq;clear hq;go_wp2_with fail;go_ret;have hr:R=(0,W1,T1,false):=HR1.out;have hE:=HEND.out (-1) R w5 (by rw[hr];simp) (fun _=>HSV.out.short HQ.out) (by rw[hr];exact HSV.out.stay HQ.out);rw[hr]at hE ⊢;exact hE
   | succ m =>
    have hml:m≤1048576:=by have:=HSV.out.len;omega
    have hn:=Zx hall hml K1.inside K1.mark;obtain⟨NX,hNX⟩:∃ NX,NX=zy g W1 T1 K1.inside K1.mark l1:=⟨_,rfl⟩
    have hcode:=ZM g W1 T1 K1.inside K1.mark l1;rw[←hNX]at hn hcode;have HN:=hid hn;rw[HGV.out.1,←HGV.out.2.1,HGV.out.2.2]at HN;have HNX:=hid hNX;have HCD:=hid hcode;clear hall hn hNX hcode hml;go_wp2_with fail;refine HN.out.mono ?_;rintro e w5 ⟨rfl,hq⟩;have HQ:=hid hq;clear hq;obtain⟨W',T',l',c⟩:=NX;have HGT:=hid (HR1.out.trans (Yw (m:=m) HAT.out HNX.out));have hcode:=HCD.out;simp only at hcode;rcases hcode with rfl|rfl|rfl|rfl
    · go_wp2_with fail
      go_roundw
      case rel =>
       have hon:(zy g W1 T1 K1.inside K1.mark l1).2.2.2=0:=by rw[←HNX.out]
       obtain⟨ow9,v9,lv9,hS9⟩:=HSV.out.step HGO.out hon (by rw[←HNX.out];exact HQ.out);rw[←HNX.out]at hS9;exact⟨m,W',T',K1,l',ow9,v9,lv9,rfl,rfl,HGT.out,hS9⟩
      case measure =>
       obtain⟨ow9,v9,lv9,e1,e2,-⟩:=HQ.out;rw[HFU.out,e2.fuelAt];omega
    · cases hi:K1.inside with
      | false =>
       have hrs:R=(m,W',T',true):=by rw[HGT.out];simp[y8,hi]
       have HRS:=hid hrs;clear hrs;go_wp2_with fail;go_ret;rw[HRS.out];exact HEND.out (m:Int) (m,W',T',true) _ (fun _=>rfl) (fun q=>by simp at q) (HSV.out.stay HQ.out)
      | true =>
       obtain⟨gw9,cw9,hw9,-⟩:=(HSV.out.was hi).1.form (by have:=(HSV.out.was hi).2.2.1;omega);subst hw9;have hrs:R=(m,{ W' with words:=K1.was },T',true):=by rw[HGT.out];simp[y8,hi]
       have HRS:=hid hrs;have HE:=hid (HEND.out (m:Int) (m,{ W' with words:=K1.was },T',true) _ (fun _=>rfl) (fun q=>by simp at q) (HSV.out.undo hi HQ.out));obtain⟨ow9,v9,lv9,e1,e2,-⟩:=HQ.out;have m5:=zh e2.box 2 _ rfl;have f5:=Lib.frozen_of_heap e2.box 2;have hlb5:=z8 e2.box;clear hrs e1 e2;go_wp2_with fail;go_ret;rw[HRS.out];exact HE.out
    · have hrs:R=(m,W',{ T' with wait:=l' },true):=by rw[HGT.out];simp[y8]
      have HRS:=hid hrs;obtain⟨lv5,hbx,⟨q5,cc5,hlv⟩,htb5,hd5,hf5,hE⟩:=HSV.out.shut HQ.out;have x5:=zh hbx 0 _ rfl;have hlc5:=z8 hbx;obtain⟨NL5,hNL5⟩:∃ N,N=l'.length:=⟨_,rfl⟩
      rw[←hNL5]at hlv;subst hlv;have HE:=hid (HEND.out (m:Int) (m,W',{ T' with wait:=l' },true) _ (fun _=>rfl) (fun q=>by simp at q) hE);clear hrs hbx hE hNL5;go_wp2_with fail;go_ret;rw[HRS.out];exact HE.out
    · have htold:=ZK (g:=g) (W:=W1) (T:=T1) (inside:=K1.inside) (mark:=K1.mark) (l:=l1) (by rw[←HNX.out])
      obtain⟨hi,x,hl⟩:=htold;rw[←HNX.out,HSV.out.out0 hi,List.nil_append]at hl;simp only at hl;subst hl;have hrs:R=(m,W',{ T' with out:=T'.out++[x] },true):=by rw[HGT.out];simp[y8]
      have HRS:=hid hrs
      have hto:T'.out.length≤1048576:=by
       have h1:=(uf g W1 T1 K1.inside K1.mark l1).2.2.1;rw[←HNX.out]at h1;simp only at h1;rw[h1,HSV.out.same];exact HLO.out
      obtain⟨V6,hV6⟩:∃ V6,V6=w5.drew:=⟨_,rfl⟩
      obtain⟨wg,off,cap,q0,cc0,q8,c8,w8,t1,t2,t3,t4,t5,t6,t7,t8,t9,t10,hE⟩:=HSV.out.tell (HQ.out.below (db hV6)) hto;obtain⟨NO,hNO⟩:∃ N,N=T'.out.length:=⟨_,rfl⟩
      have HE:=hid (HEND.out (m:Int) (m,W',{ T' with out:=T'.out++[x] },true) _ (fun _=>rfl) (fun q=>by simp at q) hE);rw[←hNO]at t2 t5 HE;rw[t2]at t4 t5 t9;have HRUN5:=hid t5;have d5:w5.cell? ⟨tb,j*6+4,none⟩ = some (.slice q0 NO cc0):=by rw[hV6]at t4;exact t4
      have y5:w5.cell? ⟨w.heap.size+1,0,none⟩ = some (.slice (some ⟨wg,off,none⟩) 1 cap):=by rw[hV6]at t1;exact zh t1 0 _ rfl
      have hlt5:tb<w5.heap.size:=by rw[hV6]at t3;exact t3
      have hlc5:w.heap.size+1<w5.heap.size:=by rw[hV6]at t1;exact z8 t1
      have HS8:=hid (show ∀ k,(k=tb∨k=w.heap.size+1)→w8.heap[k]? = w5.heap[k]? from fun k hk=>by
       have e:V6.heap[k]? = w5.heap[k]?:=by rw[hV6];rfl
       rcases hk with rfl|rfl
       · exact t6.trans e
       · exact t7.trans e)
      have HV6:=hid hV6;clear hrs hto hV6 t1 t2 t3 t4 t5 t6 t7 hE hNO;go_wp2_with fail;refine yO (S:=zn (fun k=>k=tb∨k=w.heap.size+1) w5) (fun j=>decide (7≤j)) (by kernel_rfl) (zn.drew _ _) (fun hSw=>?_);rw[←HV6.out];rw[←HV6.out]at hSw;refine lH 0 (.pointer (some ⟨tb,j*6,none⟩)) hSw ?_;(try simp only[nS]);refine lH 1 (.pointer (some ⟨tb,j*6,none⟩)) hSw ?_;(try simp only[nS]);refine lH 2 (.pointer (some ⟨tb,j*6,none⟩)) hSw ?_;(try simp only[nS]);refine lH 3 (.pointer (some ⟨tb,j*6+4,none⟩)) hSw ?_;(try simp only[nS]);refine lG 4 (.slice q0 NO cc0) hSw (fun W hW=>?_) ?_
      · have d5:=hW.cell (by dsimp only;omega) d5
        first|(go_simp;done)|rfl
      (try simp only[nS]);refine lG 5 (.slice (some ⟨wg,off,none⟩) 1 cap) hSw (fun W hW=>?_) ?_
      · have y5:=hW.cell (by dsimp only;omega) y5
        first|(go_simp;done)|rfl
      (try simp only[nS]);refine lR 6 (fun J hK=>?_);clear hSw;refine Lib.wp_append_run _ _ _ _ _ rfl _ _ rfl rfl _ _ HRUN5.out ?_;refine hK.out _ _ (fun k hk=>HS8.out k hk) (fun hSw=>?_);clear hK J;(try simp only[nS]);refine yP (rs:=[7]) (by kernel_rfl) (by simp) (by rfl) ?_;refine oR 7 (fun J hK=>?_);go_simp;refine hK.out _ _ ?_;clear hK J;(try simp only[nS]);refine oR 8 (fun J hK=>?_);go_simp;refine hK.out _ _ ?_;clear hK J;(try simp only[nS]);refine oR 9 (fun J hK=>?_);go_simp;refine hK.out _ _ ?_;clear hK J;(try simp only[nS]);refine wpAny_done (by kernel_rfl) ?_ _;go_wp2_with fail;go_ret;rw[HRS.out];exact HE.out
  | true =>
   obtain⟨c0,c1,c2⟩:=yl HX2.out;have hlg:=z8 HX2.out;have hq:=HS2.out.qw;obtain⟨vq,vc,hve⟩:=hq.slice;obtain⟨NW,hNW⟩:∃ N,N=W1.words.length:=⟨_,rfl⟩
   have m2:=zh hq.box 2 _ rfl;have hlb2:=z8 hq.box;rw[hve,←hNW]at m2;obtain⟨wv',w4,ow3,hrun,⟨uq,uc,hue⟩,hS4⟩:=HS2.out.begin (w':=w);rw[hve,←hNW]at hrun;rw[←hNW]at hue;subst hue;have HRUN:=hid hrun;have HS4:=hid hS4;have m4:=zh hS4.qw.box 2 _ rfl;have hlb4:=z8 hS4.qw.box;rw[hve,←hNW]at m4;have e0:=Qr;obtain⟨c0',c1',c2'⟩:=yl ((hS4.but.block w.heap.size (z8 HXG.out) (by rw[HG0.out];simp;omega)).trans HXG.out);have hlg4:w.heap.size<w4.heap.size:=by have h1:=hS4.but.size;have h2:=HZU.out;omega
   have HNW:=hid hNW;clear hq hve hrun hS4 hNW;go_wp2_with (at_builtin;refine Lib.wpList_append_run _ rfl _ _ _ _ rfl _ _ rfl rfl _ _ HRUN.out ?_);have HSV:=hid HS4.out;have HAT:=hid (show K1.at g W1 T1=⟨true,W1.words,W1.words.length⟩from by simp[Ks.at,hbg]);obtain⟨bk,hall⟩:=HSV.out.all HGI.out HBU.out HLOW.out HGO.out HKD.out;cases n1 with
   | zero =>
    have HN:=hid (Zw (by exact hall) true W1.words.length);rw[HGV.out.1,←HGV.out.2.1,HGV.out.2.2,←HNW.out]at HN;clear hall;go_wp2_with fail;refine HN.out.mono ?_;rintro e w5 ⟨rfl,hq⟩;have HQ:=hid hq;clear hq;go_wp2_with fail;go_ret;have hr:R=(0,W1,T1,false):=HR1.out;have hE:=HEND.out (-1) R w5 (by rw[hr];simp) (fun _=>HSV.out.short HQ.out) (by rw[hr];exact HSV.out.stay HQ.out);rw[hr]at hE ⊢;exact hE
   | succ m =>
    have hml:m≤1048576:=by have:=HSV.out.len;omega
    have hn:=Zx hall hml true W1.words.length;obtain⟨NX,hNX⟩:∃ NX,NX=zy g W1 T1 true W1.words.length l1:=⟨_,rfl⟩
    have hcode:=ZM g W1 T1 true W1.words.length l1;rw[←hNX]at hn hcode;have HN:=hid hn;rw[HGV.out.1,←HGV.out.2.1,HGV.out.2.2,←HNW.out]at HN;have HNX:=hid hNX;have HCD:=hid hcode;clear hall hn hNX hcode hml;go_wp2_with fail;refine HN.out.mono ?_;rintro e w5 ⟨rfl,hq⟩;have HQ:=hid hq;clear hq;obtain⟨W',T',l',c⟩:=NX;have HGT:=hid (HR1.out.trans (Yw (m:=m) HAT.out HNX.out));have hcode:=HCD.out;simp only at hcode;rcases hcode with rfl|rfl|rfl|rfl
    · go_wp2_with fail
      go_roundw
      case rel =>
       have hon:(zy g W1 T1 true W1.words.length l1).2.2.2=0:=by rw[←HNX.out]
       obtain⟨ow9,v9,lv9,hS9⟩:=HSV.out.step HGO.out hon (by rw[←HNX.out];exact HQ.out);rw[←HNX.out]at hS9;exact⟨m,W',T',⟨true,W1.words,W1.words.length⟩,l',ow9,v9,lv9,rfl,(by rw[←HNW.out]),HGT.out,hS9⟩
      case measure =>
       obtain⟨ow9,v9,lv9,e1,e2,-⟩:=HQ.out;rw[HFU.out,e2.fuelAt];omega
    · have hrs:R=(m,{ W' with words:=W1.words },T',true):=by rw[HGT.out];simp[y8]
      have HRS:=hid hrs;have HE:=hid (HEND.out (m:Int) (m,{ W' with words:=W1.words },T',true) _ (fun _=>rfl) (fun q=>by simp at q) (HSV.out.undo rfl HQ.out));obtain⟨ow9,v9,lv9,e1,e2,-⟩:=HQ.out;have m5:=zh e2.box 2 _ rfl;have f5:=Lib.frozen_of_heap e2.box 2;have hlb5:=z8 e2.box;clear hrs e1 e2;go_wp2_with fail;go_ret;rw[HRS.out];exact HE.out
    · have hrs:R=(m,W',{ T' with wait:=l' },true):=by rw[HGT.out];simp[y8]
      have HRS:=hid hrs;obtain⟨lv5,hbx,⟨q5,cc5,hlv⟩,htb5,hd5,hf5,hE⟩:=HSV.out.shut HQ.out;have x5:=zh hbx 0 _ rfl;have hlc5:=z8 hbx;obtain⟨NL5,hNL5⟩:∃ N,N=l'.length:=⟨_,rfl⟩
      rw[←hNL5]at hlv;subst hlv;have HE:=hid (HEND.out (m:Int) (m,W',{ T' with wait:=l' },true) _ (fun _=>rfl) (fun q=>by simp at q) hE);clear hrs hbx hE hNL5;go_wp2_with fail;go_ret;rw[HRS.out];exact HE.out
    · have htold:=ZK (g:=g) (W:=W1) (T:=T1) (inside:=true) (mark:=W1.words.length) (l:=l1) (by rw[←HNX.out])
      exact absurd htold.1 (by simp)
