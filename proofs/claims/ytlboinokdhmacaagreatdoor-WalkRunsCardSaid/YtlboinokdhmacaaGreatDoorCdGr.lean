import Derived.Test.YtlboinokdhmacaaGreatDoorCdFlat
namespace Go.Proofs.YtlboinokdhmacaaGreatDoor
set_option maxHeartbeats 64000000
set_option maxRecDepth 1000000
open Lib(hid)
open Go.Joins Go.RowKit
attribute [local go_sem ↓] zL zJ
theorem xQ (a:Bk):(Bk.cells a).length=5:=rfl
def xP:Value→Nat
 | .slice (some a) _ _=>a.block
 | _=>0
def KB (v:World) (B:Nat) (a:Bk):Prop:=∃ ib R,a.iv = .slice (some ⟨ib,0,none⟩) a.ins.length (a.ins.length+2)∧ib<B∧v.heap[ib]? = some (.cells R 159 (0,0))∧R.toList=a.ins.flatMap In.cells++(xw a.ins.length++xw (a.ins.length+1))∧BkOk a∧∀ i ∈ a.ins,qz i
theorem KB.up {v:World} {B B':Nat} {a:Bk} (hB:B≤B') (h:KB v B a):KB v B' a:=by
 obtain⟨ib,R,h1,h2,r⟩:=h;exact⟨ib,R,h1,by omega,r⟩
theorem KB.lt {v:World} {B:Nat} {a:Bk} (h:KB v B a):xP a.iv<B:=by
 obtain⟨ib,R,h1,h2,r⟩:=h;rw[h1];exact h2
def Bk.bare (b:Bk):List In × Int × Int × Int × Int:=(b.ins,b.last,b.reg,b.yes,b.no)
def Bk.bares (l:List Bk):List (List In × Int × Int × Int × Int):=l.map Bk.bare
theorem Xd (a b:List Bk):Bk.bares (a++b)=Bk.bares a++Bk.bares b:=List.map_append
theorem Xc (a:Bk):Bk.bares [a]=[a.bare]:=rfl
def xy (n:Nat):List Value:=[.slice none 0 0,.int .u8 0,.int .i64 (-1000 - (n:Int)),.int .i64 0,.int .i64 0]
theorem qZ (n:Nat):(xy n).length=5:=rfl
theorem ut (n:Nat):(xy n).toArray.all (·.oneCell')=true:=by simp[xy,Value.oneCell']
def mkK (n:Nat) (t:List Value):Prop:=t=xy n
theorem twiK:(Tryz.prog.info? 118).map (fun i=>(i.zero,i.size,i.bytes))=some (some (.agg #[.slice none 0 0,.int .u8 0,.int .i64 0,.int .i64 0,.int .i64 0]),5,56):=by kernel_rfl
theorem ZZ (n:Nat) (h:n≤1000000) (w:World):Calls Tryz.prog 141 #[.int .i64 (n:Int)] w fun e w'=>e = .returned (.agg (xy n).toArray)∧Below w.heap.size w w':=by
 have e5:=zH 118 #[(2,.int .i64 (-1000 - (n:Int)))] (xy n).toArray (by kernel_rfl);have hP:=(MapKept.heap_alloc w (.cells #[.slice none 0 0,.int .u8 0,.int .i64 0,.int .i64 0,.int .i64 0] 118)).1;have HP:=hid hP;have HB:=hid (ze w (.cells #[.slice none 0 0,.int .u8 0,.int .i64 0,.int .i64 0,.int .i64 0] 118));obtain⟨C,hC⟩:∃ C,C=(xy n).toArray:=⟨_,rfl⟩
 have hCs:C.size=5:=by rw[hC];rfl
 have hC1:C.all (·.oneCell')=true:=by rw[hC];exact ut n
 rw[←hC]at e5 ⊢;have HC:=hid (And.intro hCs hC1);clear hP hC hCs hC1;go_enter Tryz.func141,Tryz.ntmps141;go_wp2_with (refine qD rfl 118 (Operand.tmp 2) (Operand.tmp 5) rfl w.heap.size 118 _ C rfl rfl HP.out (by rw[HC.out.1];rfl) (by rw[HC.out.1];kernel_rfl) HC.out.2 ?_);intro w5 hp5;have HQ:=hid hp5;clear hp5;go_wp2_with fail;refine bodyPost_ret (v:=.agg C) (results_cell_row rfl _ _ w.heap.size 118 _ (0,0) _ rfl HQ.out.at_b Tryz.underlying118 rfl (by rw[HC.out.1];kernel_rfl)) rfl ?_;exact⟨rfl,HQ.out.below HB.out (Nat.le_refl _)⟩
def TwKE (r:Bk) (w:World) (e:Ending) (w':World):Prop:=∃ y:Bk,e = .returned (.agg #[y.iv,.int .u8 y.last,.int .i64 y.reg,.int .i64 y.yes,.int .i64 y.no])∧y.bare=r.bare∧Below w.heap.size w w'∧(xK w.heap.size w' fun v=>KB v w'.heap.size y)∧w.heap.size≤xP y.iv
theorem XP (r:Bk) (B:Nat) (w:World) (hI:BIn w B r) (hBw:B≤w.heap.size) (hsz:r.ins.length≤262144) :
 Calls Tryz.prog 201 #[.agg #[r.iv,.int .u8 r.last,.int .i64 r.reg,.int .i64 r.yes,.int .i64 r.no]] w (TwKE r w):=by
 obtain⟨po,pc,ep,-⟩:=hI.lies.form;have hpr:=hI.lies.room;obtain⟨W2,hW2⟩:∃ W2,W2=(w.alloc (.cells #[.slice po r.ins.length pc,.int .u8 r.last,.int .i64 r.reg,.int .i64 r.yes,.int .i64 r.no] 118)).alloc (.cells #[.slice none 0 0,.int .u8 0,.int .i64 0,.int .i64 0,.int .i64 0] 118):=⟨_,rfl⟩
 have hb1:=ze w (.cells #[.slice po r.ins.length pc,.int .u8 r.last,.int .i64 r.reg,.int .i64 r.yes,.int .i64 r.no] 118);have hb2:Below w.heap.size w W2:=by rw[hW2];exact hb1.alloc (by simp) _
 have hz2:W2.heap.size=w.heap.size+2:=by rw[hW2];simp
 have hO2:W2.heap[w.heap.size]? = some (.cells #[.slice po r.ins.length pc,.int .u8 r.last,.int .i64 r.reg,.int .i64 r.yes,.int .i64 r.no] 118 (0,0)):=by
  rw[hW2,Below.heap_alloc _ _ _ (by simp)];exact (MapKept.heap_alloc _ _).1
 have hP2:W2.heap[w.heap.size+1]? = some (.cells #[.slice none 0 0,.int .u8 0,.int .i64 0,.int .i64 0,.int .i64 0] 118 (0,0)):=by
  rw[hW2];have:=(MapKept.heap_alloc (w.alloc (.cells #[.slice po r.ins.length pc,.int .u8 r.last,.int .i64 r.reg,.int .i64 r.yes,.int .i64 r.no] 118)) (.cells #[.slice none 0 0,.int .u8 0,.int .i64 0,.int .i64 0,.int .i64 0] 118)).1;simpa using this
 have hK:=XJ r.ins B r.iv W2 (hI.lies.below (hb2.mono hBw)) hI.ins (by omega) hsz;have p0:W2.cell? ⟨w.heap.size,0,none⟩ = some (.slice po r.ins.length pc):=by rw[Lib.cell_of_heap hO2];rfl
 rw[ep]at hK ⊢;have HIN:=hid hI;have HZ2:=hid hz2;rw[hW2]at p0;have HK:=hid hK;have HW2:=hid hW2;have HB2:=hid hb2;have HO2:=hid hO2;have HP2:=hid hP2;clear hK hW2 hb1 hb2 hO2 hP2 hz2 hI hsz ep;go_enter Tryz.func201,Tryz.ntmps201;go_wp2_with fail;rw[←HW2.out];refine HK.out.mono ?_;intro e w3 hq;obtain⟨v,l',R,t1,t2,rfl,hsame,hT3⟩:=hq;have hv:=hT3.val;subst hv;obtain rfl:=hsame;have hb3:=hT3.below;have hs3:=hb3.size;have hO3:=(hb3.block w.heap.size (by have:=HZ2.out;omega)).trans HO2.out;have HP3:=hid ((hb3.block (w.heap.size+1) (by have:=HZ2.out;omega)).trans HP2.out);have hsz3:w.heap.size+2≤w3.heap.size:=by have:=HZ2.out;omega
 have f0:=Lib.frozen_of_heap hO3 0;have q0:w3.cell? ⟨w.heap.size,0,none⟩ = some (.slice po r.ins.length pc):=by rw[Lib.cell_of_heap hO3];rfl
 have q1:w3.cell? ⟨w.heap.size,1,none⟩ = some (.int .u8 r.last):=by rw[Lib.cell_of_heap hO3];rfl
 have q2:w3.cell? ⟨w.heap.size,2,none⟩ = some (.int .i64 r.reg):=by rw[Lib.cell_of_heap hO3];rfl
 have q3:w3.cell? ⟨w.heap.size,3,none⟩ = some (.int .i64 r.yes):=by rw[Lib.cell_of_heap hO3];rfl
 have q4:w3.cell? ⟨w.heap.size,4,none⟩ = some (.int .i64 r.no):=by rw[Lib.cell_of_heap hO3];rfl
 have HT3:=hid hT3;have HB3:=hid (HB2.out.trans (hb3.mono (by have:=HZ2.out;omega)));have HP4:=hid (show (w3.setCell ⟨w.heap.size,0,none⟩ (.slice (some ⟨W2.heap.size,0,none⟩) r.ins.length (r.ins.length+2))).heap[w.heap.size+1]? = some (.cells #[.slice none 0 0,.int .u8 0,.int .i64 0,.int .i64 0,.int .i64 0] 118 (0,0))from (Below.heap_setCell _ _ _ _ (by show w.heap.size+1≠w.heap.size;omega)).trans HP3.out);clear hT3 hb3 hO3 p0;go_wp2_with (refine qD rfl 118 (Operand.tmp 2) (Operand.tmp 7) rfl (w.heap.size+1) 118 _ #[.slice (some ⟨W2.heap.size,0,none⟩) r.ins.length (r.ins.length+2),.int .u8 r.last,.int .i64 r.reg,.int .i64 r.yes,.int .i64 r.no] rfl rfl HP4.out rfl (by kernel_rfl) (by simp[Value.oneCell']) ?_);intro w5 hp5;have HP:=hid hp5;clear hp5;go_wp2_with fail;refine bodyPost_ret (v:=.agg #[.slice (some ⟨W2.heap.size,0,none⟩) r.ins.length (r.ins.length+2),.int .u8 r.last,.int .i64 r.reg,.int .i64 r.yes,.int .i64 r.no]) (results_cell_row rfl _ _ (w.heap.size+1) 118 _ (0,0) _ rfl HP.out.at_b Tryz.underlying118 rfl (by kernel_rfl)) rfl ?_;have hz2:=HZ2.out;have hz5:w5.heap.size=w3.heap.size:=by rw[HP.out.size];simp[World.setCell]
 refine⟨⟨.slice (some ⟨W2.heap.size,0,none⟩) r.ins.length (r.ins.length+2),r.ins,r.last,r.reg,r.yes,r.no⟩,rfl,rfl, ?_, ?_,by show w.heap.size≤W2.heap.size;omega⟩
 · exact HP.out.below ((HB3.out).setCell (show w.heap.size≤w.heap.size from Nat.le_refl _) _) (by omega)
 · intro u hu
   have hu2:∀ g,W2.heap.size≤g→g<w3.heap.size→u.heap[g]? = w3.heap[g]?:=fun g h1 h2=>(hu g (by omega) (by rw[hz5];exact h2)).trans ((HP.out.rest g (by omega)).trans (Below.heap_setCell _ _ _ _ (by show g≠w.heap.size;omega)))
   rw[hz5];have ht1:=HT3.out.m1;have ht2:=HT3.out.m2;unfold mkI at ht1 ht2;exact⟨W2.heap.size,R,rfl,HT3.out.lt,(hu2 _ (Nat.le_refl _) HT3.out.lt).trans HT3.out.row,by rw[HT3.out.list,ht1,ht2],⟨HIN.out.ok.last,HIN.out.ok.reg,HIN.out.ok.yes,HIN.out.ok.no⟩,HIN.out.ins⟩
theorem ZE {α:Type} {ids:α→List Nat} {l:List α} {y:α} {L m:Nat} (hL:L<m) (h:(l.flatMap ids).Pairwise (· < ·)∧∀ x ∈ l.flatMap ids,L<x) (hlt:∀ a ∈ l,∀ x ∈ ids a,x<m) (hy:(ids y).Pairwise (· < ·)) (hm:∀ x ∈ ids y,m≤x) :
 ((l++[y]).flatMap ids).Pairwise (· < ·)∧∀ x ∈ (l++[y]).flatMap ids,L<x:=by
 have e:(l++[y]).flatMap ids=l.flatMap ids++ids y:=by simp
 rw[e];refine⟨List.pairwise_append.2 ⟨h.1,hy,fun a ha b hb=>?_⟩,fun x hx=>?_⟩
 · obtain⟨c,hc,hac⟩:=List.mem_flatMap.1 ha
   exact Nat.lt_of_lt_of_le (hlt c hc a hac) (hm b hb)
 · rcases List.mem_append.1 hx with hx|hx
   · exact h.2 x hx
   · exact Nat.lt_of_lt_of_le hL (hm x hx)
def Bk.id (b:Bk):List Nat:=[xP b.iv]
theorem Xb {v:World} {B:Nat} {a:Bk} (h:KB v B a):∀ x ∈ a.id,x<B:=by
 intro x hx;simp only[Bk.id,List.mem_cons,List.not_mem_nil,or_false]at hx;subst hx;exact h.lt
theorem XO (l:List Bk) (B:Nat) (v:Value) (w:World) (hL:zB Bk.cells 5 w B v l) (hI:∀ a ∈ l,BIn w B a) (hBw:B≤w.heap.size) (hsm:l.length≤262144) (hsz:∀ a ∈ l,a.ins.length≤262144) :
 Calls Tryz.prog 176 #[v] w (TwE Bk.cells 118 5 KB l.length mkK (fun l'=>Bk.bares l'=Bk.bares l∧(l'.flatMap Bk.id).Pairwise (· < ·)∧∀ x ∈ l'.flatMap Bk.id,w.heap.size<x) w):=by
 have hroom:=hL.room;obtain⟨ao,cap,rfl,hlen,hgo⟩:=hL.form;obtain⟨N,hN⟩:∃ N,N=l.length:=⟨_,rfl⟩
 have hNs:N≤262144:=by rw[hN];exact hsm
 obtain⟨i0,hi,hz0,hz1,hz2⟩:=info_parts twiK;obtain⟨M,hM⟩:∃ M,M=madeCells (Value.cells (.agg #[.slice none 0 0,.int .u8 0,.int .i64 0,.int .i64 0,.int .i64 0])) (((N:Int)+2).toNat*i0.size):=⟨_,rfl⟩
 have hMs:M.size=(N+2)*5:=by rw[hM,size_madeCells,hz1];congr 1
 have hmk:(Instr.makeSlice 73 (.int .i64 (N:Int)) (.int .i64 ((N:Int)+2))).run Tryz.prog w = .ok (.slice (some ⟨w.heap.size,0,none⟩) N (N+2)) (w.alloc (.cells M 118)):=by
  have h:=run_make (P:=Tryz.prog) w 73 118 i0 (.agg #[.slice none 0 0,.int .u8 0,.int .i64 0,.int .i64 0,.int .i64 0]) Tryz.underlying73 hi hz0 .i64 .i64 (N:Int) ((N:Int)+2) (by omega) (by omega) (by rw[hz2];omega) (by omega);rw[←hM,show ((N:Int)+2).toNat=N+2 by omega]at h
  simpa using h
 obtain⟨W0,hW0⟩:∃ W0,W0=w.alloc (.cells M 118):=⟨_,rfl⟩
 have hb0:Below w.heap.size w W0:=by rw[hW0];exact ze w _
 have hlt0:w.heap.size<W0.heap.size:=by rw[hW0];simp
 have hS0:TwS Bk.cells 118 5 KB w.heap.size N 0 w W0 [] M M.toList:=
  ⟨rfl,hb0,hlt0,by rw[hW0];exact (MapKept.heap_alloc _ _).1,by simp,by rw[Array.length_toList,hMs];rfl,fun a ha=>by cases ha⟩
 rw[←hN]at hlen hgo hL ⊢;have HS0:=hid hS0;have HW0:=hid hW0;have HL:=hid hL;have HIN:=hid hI;have HG:=hid hgo;have HN:=hid hN;have HSZ:=hid (hsz);clear hi hz0 hz1 hz2 hM hMs hb0 hS0 hW0 hL hI hgo hN hroom;rw[HW0.out.symm]at hmk;go_enter Tryz.func176,Tryz.ntmps176;go_wp2_with fail
 go_loopw [15] (fun i wr=>∃ k:Nat,k≤N∧i = .int .i64 k∧Hid (∃ l' R rest,Bk.bares l'=Bk.bares (l.take k)∧((l'.flatMap Bk.id).Pairwise (· < ·)∧∀ x ∈ l'.flatMap Bk.id,w.heap.size<x)∧TwS Bk.cells 118 5 KB w.heap.size N k w wr l' R rest)) (fun i _=>N - (intOf i).toNat)
 case atStart=>exact⟨0,by omega,rfl,hid ⟨[],M,M.toList,by rw[List.take_zero],⟨List.Pairwise.nil,fun x hx=>by cases hx⟩,HS0.out⟩⟩
 case round =>
  obtain⟨k,hkN,rfl,HR⟩:=hrel;obtain⟨l',R,rest,hsame,hord,hS⟩:=HR.out;clear HR;have hbw:=hS.below;have hsw:=hbw.size;have hlb:=hS.lt
  by_cases hlt2:k<N
  · have hpx:k<l.length:=by rw[←HN.out];exact hlt2
    obtain⟨g,off,rfl,hg⟩:=HG.out (by omega);have hat:=((HL.out.below (hbw.mono hBw)).at rfl k hpx).2;have hma:=List.getElem_mem hpx;have hIa:=(HIN.out _ hma).keeps (hbw.mono hBw);have htk:l.take (k+1)=l.take k++[l[k]]:=List.take_succ_eq_append_getElem hpx;have hPa:=XP l[k] B wr hIa (by omega) (HSZ.out l[k] hma);have p0:wr.cell? ⟨g,off+k*5,none⟩ = some l[k].iv:=hat 0 _ rfl;have p1:wr.cell? ⟨g,off+k*5+1,none⟩ = some (.int .u8 l[k].last):=hat 1 _ rfl;have p2:wr.cell? ⟨g,off+k*5+2,none⟩ = some (.int .i64 l[k].reg):=hat 2 _ rfl;have p3:wr.cell? ⟨g,off+k*5+3,none⟩ = some (.int .i64 l[k].yes):=hat 3 _ rfl;have p4:wr.cell? ⟨g,off+k*5+4,none⟩ = some (.int .i64 l[k].no):=hat 4 _ rfl;generalize l[k]=a at *;obtain⟨fo,fc,ef,-⟩:=hIa.lies.form;rw[ef]at p0 hPa;have HPA:=hid hPa;have HS:=hid hS;have HTK:=hid htk;have HSAME:=hid hsame;have HORD:=hid hord;have hgs:g<wr.heap.size:=by omega
    clear hat hma hIa hPa htk hS hsame hbw hord ef;go_wp2_with fail;refine HPA.out.mono ?_;intro e w1 hq;obtain⟨y,rfl,hy,hb1,hn1,hyl0⟩:=hq;obtain⟨yb,yR,ey,-⟩:=id hn1.here;have hyo:y.id.Pairwise (· < ·):=by simp[Bk.id]
    have hyl:∀ x ∈ y.id,wr.heap.size≤x:=by intro x hx;simp only[Bk.id,List.mem_cons,List.not_mem_nil,or_false]at hx;subst hx;exact hyl0
    rw[ey];have HEY:=hid (show y.cells=[.slice (some ⟨yb,0,none⟩) y.ins.length (y.ins.length+2),.int .u8 y.last,.int .i64 y.reg,.int .i64 y.yes,.int .i64 y.no]by unfold Bk.cells;rw[ey]);clear ey hyl0 p0 p1 p2 p3 p4;have HO1:=hid ((hb1.block _ hlb).trans HS.out.row);have HRS:=hid (show k*5+5≤R.size by rw[HS.out.rsize xQ (by omega)];omega);have HB1:=hid hb1;have HN1:=hid hn1;have HY:=hid hy
    have HORD2:=hid (show ((l'++[y]).flatMap Bk.id).Pairwise (· < ·)∧∀ x ∈ (l'++[y]).flatMap Bk.id,w.heap.size<x from
     ZE hlb HORD.out (fun a ha=>Xb (HS.out.new a ha).here) hyo hyl)
    clear hb1 hn1 hy hyo hyl;obtain⟨NEW,hNEW⟩:∃ A:Array Value,A=R.extract 0 (k*5)++(Bk.cells y).toArray++R.extract (k*5+(Bk.cells y).toArray.size) R.size:=⟨_,rfl⟩
    have HNEW:=hid hNEW;clear hNEW;go_wp2_with (refine vN rfl 118 (Operand.tmp 25) (Operand.tmp 24) rfl w.heap.size (k*5) 118 R #[.slice (some ⟨yb,0,none⟩) y.ins.length (y.ins.length+2),.int .u8 y.last,.int .i64 y.reg,.int .i64 y.yes,.int .i64 y.no] NEW rfl rfl HO1.out HRS.out (by kernel_rfl) (by simp[Value.oneCell']) (by rw[HNEW.out,HEY.out]) ?_);intro w2 hp;obtain⟨rest2,hst⟩:=HS.out.step xQ (fun v B B2 a h q=>KB.up h q) (by omega) HB1.out HN1.out HNEW.out hp;have HST:=hid hst;clear hst hp;go_wp2_with fail;go_roundw
    case rel=>exact⟨k+1,by omega,by go_num,hid ⟨_,_,rest2,by rw[Xd,HSAME.out,HTK.out,Xd,Xc,Xc,HY.out],HORD2.out,HST.out⟩⟩
    case measure=>simp[intOf];omega
  · obtain rfl:N=k:=by omega
    have HM:=hid hS.marks;have hsame2:Bk.bares l'=Bk.bares l:=by rw[hsame,List.take_of_length_le (by rw[←HN.out];exact Nat.le_refl _)]
    have HSAME:=hid hsame2;have HORD:=hid hord;clear hS hsame hsame2 hbw hord;have HM1:=HM;clear HM;obtain⟨R1,hR1⟩:∃ A,A=R:=⟨_,rfl⟩
    rw[←hR1]at HM1;clear hR1;have HK1:=hid (fun w=>ZZ N (by omega) w);have HK2:=hid (fun w=>(show ((N+1:Nat):Int)=(N:Int)+1 by push_cast;rfl) ▸ ZZ (N+1) (by omega) w);go_wp2_with fail;refine wp_loop_rounds 3 ?_;rw[rounds_succ];go_wp2_with fail;refine (HK1.out wr).mono ?_;rintro e w1 ⟨rfl,hb1⟩;have HO1:=hid ((hb1.block _ HM1.out.lt).trans HM1.out.row);have HR1:=hid (show N*5+(xy N).toArray.size≤R1.size by rw[HM1.out.rsize xQ (by omega),List.size_toArray,qZ];omega);have HB1:=hid hb1;obtain⟨NEW1,hNEW1⟩:∃ A:Array Value,A=R1.extract 0 ((N+0)*5)++(xy N).toArray++R1.extract ((N+0)*5+(xy N).toArray.size) R1.size:=⟨_,rfl⟩
    have HNEW1:=hid hNEW1;clear hNEW1 hb1;go_wp2_with (refine vN rfl 118 (Operand.tmp 44) (Operand.tmp 43) rfl w.heap.size (N*5) 118 R1 (xy N).toArray NEW1 rfl rfl HO1.out HR1.out (by kernel_rfl) (ut N) HNEW1.out ?_);intro w2 hp2;have HM2:=hid (HM1.out.step xQ (fun v B B2 a h q=>KB.up h q) (by omega) (qZ N) HB1.out HNEW1.out hp2);clear hp2;go_wp2_with fail;obtain⟨R2,hR2⟩:∃ A,A=NEW1:=⟨_,rfl⟩
    rw[←hR2]at HM2;clear hR2;rw[rounds_succ];go_wp2_with fail;refine (HK2.out w2).mono ?_;rintro e w3 ⟨rfl,hb3⟩;have HO2:=hid ((hb3.block _ HM2.out.lt).trans HM2.out.row);have HR2:=hid (show (N+1)*5+(xy (N+1)).toArray.size≤R2.size by rw[HM2.out.rsize xQ (by omega),List.size_toArray,qZ];omega);have HB2:=hid hb3;obtain⟨NEW2,hNEW2⟩:∃ A:Array Value,A=R2.extract 0 ((N+1)*5)++(xy (N+1)).toArray++R2.extract ((N+1)*5+(xy (N+1)).toArray.size) R2.size:=⟨_,rfl⟩
    have HNEW2:=hid hNEW2;clear hNEW2 hb3;go_wp2_with (refine vN rfl 118 (Operand.tmp 44) (Operand.tmp 43) rfl w.heap.size ((N+1)*5) 118 R2 (xy (N+1)).toArray NEW2 rfl rfl HO2.out HR2.out (by kernel_rfl) (ut (N+1)) HNEW2.out ?_);intro w4 hp4;have HM3:=hid (HM2.out.step xQ (fun v B B2 a h q=>KB.up h q) (by omega) (qZ (N+1)) HB2.out HNEW2.out hp4);clear hp4;go_wp2_with fail;rw[rounds_succ];go_wp2_with fail;go_ret;exact⟨_,l',NEW2,xy N,xy (N+1),rfl,⟨HSAME.out,HORD.out⟩,HM3.out.done (qZ N) (qZ (N+1)) rfl rfl⟩
theorem wJ (a:Gr):(Gr.cells a).length=3:=rfl
structure KG (v:World) (B:Nat) (a:Gr):Prop where
 refs:∃ rb R,a.rv = .slice (some ⟨rb,0,none⟩) a.refs.length (a.refs.length+2)∧rb<B∧v.heap[rb]? = some (.cells R 4 (0,0))∧R.toList=a.refs.flatMap xL++([.bool true]++[.bool false])
 sites:-9223372036854775808≤a.sites∧a.sites≤9223372036854775807
 blocks:∃ bb R,a.bv = .slice (some ⟨bb,0,none⟩) a.blocks.length (a.blocks.length+2)∧bb<B∧v.heap[bb]? = some (.cells R 118 (0,0))∧R.toList=a.blocks.flatMap Bk.cells++(xy a.blocks.length++xy (a.blocks.length+1))
 each:∀ b ∈ a.blocks,KB v B b
def Gr.id (a:Gr):List Nat:=xP a.rv :: xP a.bv :: a.blocks.flatMap Bk.id
theorem KG.up {v:World} {B B':Nat} {a:Gr} (hB:B≤B') (h:KG v B a):KG v B' a:=by
 obtain⟨⟨rb,R,h1,h2,r⟩,hs,⟨bb,R2,h3,h4,r2⟩,he⟩:=h;exact⟨⟨rb,R,h1,by omega,r⟩,hs,⟨bb,R2,h3,by omega,r2⟩,fun b hb=>(he b hb).up hB⟩
theorem z3p {v:World} {B:Nat} {a:Gr} (h:KG v B a):∀ x ∈ a.id,x<B:=by
 intro x hx;obtain⟨⟨rb,R,h1,h2,-⟩,-,⟨bb,R2,h3,h4,-⟩,he⟩:=h;simp only[Gr.id,List.mem_cons]at hx;rcases hx with rfl|rfl|hx
 · rw[h1];exact h2
 · rw[h3];exact h4
 · obtain⟨b,hb,hxb⟩:=List.mem_flatMap.1 hx
   exact Xb (he b hb) x hxb
def Gr.bare (a:Gr):List Bool × Int × List (List In × Int × Int × Int × Int):=(a.refs,a.sites,Bk.bares a.blocks)
def Gr.bares (l:List Gr):List (List Bool × Int × List (List In × Int × Int × Int × Int)):=l.map Gr.bare
theorem X9 (a b:List Gr):Gr.bares (a++b)=Gr.bares a++Gr.bares b:=List.map_append
theorem X8 (a:Gr):Gr.bares [a]=[a.bare]:=rfl
def xx (n:Nat):List Value:=[.slice none 0 0,.int .i64 (-1000 - (n:Int)),.slice none 0 0]
theorem qY (n:Nat):(xx n).length=3:=rfl
theorem uo (n:Nat):(xx n).toArray.all (·.oneCell')=true:=by simp[xx,Value.oneCell']
def mkG (n:Nat) (t:List Value):Prop:=t=xx n
theorem twiG:(Tryz.prog.info? 75).map (fun i=>(i.zero,i.size,i.bytes))=some (some (.agg #[.slice none 0 0,.int .i64 0,.slice none 0 0]),3,56):=by kernel_rfl
theorem ZY (n:Nat) (h:n≤1000000) (w:World):Calls Tryz.prog 116 #[.int .i64 (n:Int)] w fun e w'=>e = .returned (.agg (xx n).toArray)∧Below w.heap.size w w':=by
 have e5:=zH 75 #[(1,.int .i64 (-1000 - (n:Int)))] (xx n).toArray (by kernel_rfl);have hP:=(MapKept.heap_alloc w (.cells #[.slice none 0 0,.int .i64 0,.slice none 0 0] 75)).1;have HP:=hid hP;have HB:=hid (ze w (.cells #[.slice none 0 0,.int .i64 0,.slice none 0 0] 75));obtain⟨C,hC⟩:∃ C,C=(xx n).toArray:=⟨_,rfl⟩
 have hCs:C.size=3:=by rw[hC];rfl
 have hC1:C.all (·.oneCell')=true:=by rw[hC];exact uo n
 rw[←hC]at e5 ⊢;have HC:=hid (And.intro hCs hC1);clear hP hC hCs hC1;go_enter Tryz.func116,Tryz.ntmps116;go_wp2_with (refine qD rfl 75 (Operand.tmp 2) (Operand.tmp 5) rfl w.heap.size 75 _ C rfl rfl HP.out (by rw[HC.out.1];rfl) (by rw[HC.out.1];kernel_rfl) HC.out.2 ?_);intro w5 hp5;have HQ:=hid hp5;clear hp5;go_wp2_with fail;refine bodyPost_ret (v:=.agg C) (results_cell_row rfl _ _ w.heap.size 75 _ (0,0) _ rfl HQ.out.at_b Tryz.underlying75 rfl (by rw[HC.out.1];kernel_rfl)) rfl ?_;exact⟨rfl,HQ.out.below HB.out (Nat.le_refl _)⟩
def TwGE (r:Gr) (w:World) (e:Ending) (w':World):Prop:=∃ y:Gr,e = .returned (.agg #[y.rv,.int .i64 y.sites,y.bv])∧y.bare=r.bare∧Below w.heap.size w w'∧(xK w.heap.size w' fun v=>KG v w'.heap.size y)∧y.id.Pairwise (· < ·)∧∀ x ∈ y.id,w.heap.size≤x
theorem XL (r:Gr) (B:Nat) (w:World) (hI:GIn w B r) (hBw:B≤w.heap.size) (hsz:r.refs.length≤262144∧r.blocks.length≤262144∧∀ a ∈ r.blocks,a.ins.length≤262144) :
 Calls Tryz.prog 115 #[.agg #[r.rv,.int .i64 r.sites,r.bv]] w (TwGE r w):=by
 obtain⟨po,pc,ep,-⟩:=hI.rlies.form;have hpr:=hI.rlies.room;obtain⟨bo,bc,eb,-⟩:=hI.blies.form;have hbr:=hI.blies.room;obtain⟨W2,hW2⟩:∃ W2,W2=(w.alloc (.cells #[.slice po r.refs.length pc,.int .i64 r.sites,.slice bo r.blocks.length bc] 75)).alloc (.cells #[.slice none 0 0,.int .i64 0,.slice none 0 0] 75):=⟨_,rfl⟩
 have hb1:=ze w (.cells #[.slice po r.refs.length pc,.int .i64 r.sites,.slice bo r.blocks.length bc] 75);have hb2:Below w.heap.size w W2:=by rw[hW2];exact hb1.alloc (by simp) _
 have hz2:W2.heap.size=w.heap.size+2:=by rw[hW2];simp
 have hO2:W2.heap[w.heap.size]? = some (.cells #[.slice po r.refs.length pc,.int .i64 r.sites,.slice bo r.blocks.length bc] 75 (0,0)):=by
  rw[hW2,Below.heap_alloc _ _ _ (by simp)];exact (MapKept.heap_alloc _ _).1
 have hP2:W2.heap[w.heap.size+1]? = some (.cells #[.slice none 0 0,.int .i64 0,.slice none 0 0] 75 (0,0)):=by
  rw[hW2];have:=(MapKept.heap_alloc (w.alloc (.cells #[.slice po r.refs.length pc,.int .i64 r.sites,.slice bo r.blocks.length bc] 75)) (.cells #[.slice none 0 0,.int .i64 0,.slice none 0 0] 75)).1;simpa using this
 have hK:=XM r.refs B r.rv W2 (hI.rlies.below (hb2.mono hBw)) (fun _ _=>trivial) (by omega) hsz.1;have p0:W2.cell? ⟨w.heap.size,0,none⟩ = some (.slice po r.refs.length pc):=by rw[Lib.cell_of_heap hO2];rfl
 have HKB:=hid (fun (u:World) (hu:Below w.heap.size w u)=>XO r.blocks B r.bv u (hI.blies.below (hu.mono hBw)) (fun a ha=>(hI.blocks a ha).keeps (hu.mono hBw)) (by have:=hu.size;omega) hsz.2.1 hsz.2.2);rw[ep]at hK ⊢;rw[eb];have HIN:=hid hI;have HZ2:=hid hz2;rw[hW2]at p0;have HK:=hid hK;have HW2:=hid hW2;have HB2:=hid hb2;have HO2:=hid hO2;have HP2:=hid hP2;have HEB:=hid eb;clear hK hW2 hb1 hb2 hO2 hP2 hz2 hI hsz ep eb;go_enter Tryz.func115,Tryz.ntmps115;go_wp2_with fail;rw[←HW2.out];refine HK.out.mono ?_;intro e w3 hq;obtain⟨v,l',R,t1,t2,rfl,hsame,hT3⟩:=hq;have hv:=hT3.val;subst hv;obtain rfl:=hsame;have hb3:=hT3.below;have hs3:=hb3.size;have hO3:=(hb3.block w.heap.size (by have:=HZ2.out;omega)).trans HO2.out;have HP3:=hid ((hb3.block (w.heap.size+1) (by have:=HZ2.out;omega)).trans HP2.out);have hsz3:w.heap.size+2≤w3.heap.size:=by have:=HZ2.out;omega
 have f0:=Lib.frozen_of_heap hO3 0;have q0:w3.cell? ⟨w.heap.size,0,none⟩ = some (.slice po r.refs.length pc):=by rw[Lib.cell_of_heap hO3];rfl
 have q2:w3.cell? ⟨w.heap.size,2,none⟩ = some (.slice bo r.blocks.length bc):=by rw[Lib.cell_of_heap hO3];rfl
 have hp4:=jv (o:=0) (v:=.slice (some ⟨W2.heap.size,0,none⟩) r.refs.length (r.refs.length+2)) hO3;have HT3:=hid hT3;have HB3:=hid (HB2.out.trans (hb3.mono (by have:=HZ2.out;omega)));have HPC:=hid hp4;clear hT3 hb3 hO3 p0 hp4;go_wp2_with fail;obtain⟨w4,hw4⟩:∃ u,u=w3.setCell ⟨w.heap.size,0,none⟩ (.slice (some ⟨W2.heap.size,0,none⟩) r.refs.length (r.refs.length+2)):=⟨_,rfl⟩
 have hp4:=HPC.out;rw[←hw4]at hp4 ⊢;have hb4:Below w.heap.size w w4:=hp4.below HB3.out (Nat.le_refl _);have HB4:=hid hb4;have hO4:w4.heap[w.heap.size]? = some (.cells #[.slice (some ⟨W2.heap.size,0,none⟩) r.refs.length (r.refs.length+2),.int .i64 r.sites,.slice bo r.blocks.length bc] 75 (0,0)):=hp4.at_b;have HO4:=hid hO4;have hlt4:w.heap.size+1<w4.heap.size:=by rw[hp4.size];omega
 have HS34:=hid hp4.size;have HP4:=hid ((hp4.rest (w.heap.size+1) (by omega)).trans HP3.out);have HK4:=hid (Kept.of_put (lo:=W2.heap.size) hp4 (by have:=HZ2.out;omega));have hkb:=HKB.out w4 hb4;rw[HEB.out]at hkb;have HKB2:=hid hkb;clear hp4 hb4 hO4 hkb hw4 HPC q0 q2 f0;refine HKB2.out.mono ?_;intro e w5 hq;obtain⟨v5,b',R5,t51,t52,rfl,⟨hbs,hord⟩,hT5⟩:=hq;have hv5:=hT5.val;subst hv5;have hb5:=hT5.below;have hs5:=hb5.size;have hO5:=(hb5.block w.heap.size (by omega)).trans HO4.out;have HP5:=hid ((hb5.block (w.heap.size+1) (by omega)).trans HP4.out);have f2:=Lib.frozen_of_heap hO5 2;have q0:w5.cell? ⟨w.heap.size,0,none⟩ = some (.slice (some ⟨W2.heap.size,0,none⟩) r.refs.length (r.refs.length+2)):=by rw[Lib.cell_of_heap hO5];rfl
 have q1:w5.cell? ⟨w.heap.size,1,none⟩ = some (.int .i64 r.sites):=by rw[Lib.cell_of_heap hO5];rfl
 have q2:w5.cell? ⟨w.heap.size,2,none⟩ = some (.slice bo r.blocks.length bc):=by rw[Lib.cell_of_heap hO5];rfl
 have HT5:=hid hT5;have HBS:=hid hbs;have HORD:=hid hord;have HB5:=hid (HB4.out.trans (hb5.mono (by omega)));have HK5:=hid (HK4.out.trans (Kept.of_below hb5));have HP6:=hid (show (w5.setCell ⟨w.heap.size,2,none⟩ (.slice (some ⟨w4.heap.size,0,none⟩) r.blocks.length (r.blocks.length+2))).heap[w.heap.size+1]? = some (.cells #[.slice none 0 0,.int .i64 0,.slice none 0 0] 75 (0,0))from (Below.heap_setCell _ _ _ _ (by show w.heap.size+1≠w.heap.size;omega)).trans HP5.out);clear hT5 hbs hb5 hO5 hord;go_wp2_with (refine qD rfl 75 (Operand.tmp 2) (Operand.tmp 11) rfl (w.heap.size+1) 75 _ #[.slice (some ⟨W2.heap.size,0,none⟩) r.refs.length (r.refs.length+2),.int .i64 r.sites,.slice (some ⟨w4.heap.size,0,none⟩) r.blocks.length (r.blocks.length+2)] rfl rfl HP6.out rfl (by kernel_rfl) (by simp[Value.oneCell']) ?_);intro w7 hp7;have HP:=hid hp7;clear hp7;go_wp2_with fail;refine bodyPost_ret (v:=.agg #[.slice (some ⟨W2.heap.size,0,none⟩) r.refs.length (r.refs.length+2),.int .i64 r.sites,.slice (some ⟨w4.heap.size,0,none⟩) r.blocks.length (r.blocks.length+2)]) (results_cell_row rfl _ _ (w.heap.size+1) 75 _ (0,0) _ rfl HP.out.at_b Tryz.underlying75 rfl (by kernel_rfl)) rfl ?_;have hz2:=HZ2.out;have hz7:w7.heap.size=w5.heap.size:=by rw[HP.out.size];simp[World.setCell]
 have hlb:=HT5.out.len;have h34:=HS34.out;have hlt3:=HT3.out.lt;have hlt5:=HT5.out.lt;refine⟨⟨.slice (some ⟨W2.heap.size,0,none⟩) r.refs.length (r.refs.length+2),r.refs,r.sites,.slice (some ⟨w4.heap.size,0,none⟩) r.blocks.length (r.blocks.length+2),b'⟩,rfl, ?_, ?_, ?_, ?_, ?_⟩
 · unfold Gr.bare;rw[HBS.out]
 · exact HP.out.below ((HB5.out).setCell (show w.heap.size≤w.heap.size from Nat.le_refl _) _) (by omega)
 · intro u hu
   have hu5:∀ g,W2.heap.size≤g→g<w5.heap.size→u.heap[g]? = w5.heap[g]?:=fun g h1 h2=>(hu g (by omega) (by rw[hz7];exact h2)).trans ((HP.out.rest g (by omega)).trans (Below.heap_setCell _ _ _ _ (by show g≠w.heap.size;omega)))
   have hu3:∀ g,W2.heap.size≤g→g<w3.heap.size→u.heap[g]? = w3.heap[g]?:=fun g h1 h2=>(hu5 g h1 (by have:=HK5.out.1;omega)).trans (HK5.out.2 g h1 h2)
   have hu4:∀ g,w4.heap.size≤g→g<w5.heap.size→u.heap[g]? = w5.heap[g]?:=fun g h1 h2=>hu5 g (by have:=HS34.out;omega) h2
   rw[hz7];have m1:=HT3.out.m1;have m2:=HT3.out.m2;have n1:=HT5.out.m1;have n2:=HT5.out.m2;simp only[mkB,decide_true,Nat.succ_ne_self,decide_false]at m1 m2;unfold mkK at n1 n2;refine⟨⟨W2.heap.size,R,rfl,by have:=HK5.out.1;omega,(hu3 _ (Nat.le_refl _) hlt3).trans HT3.out.row,by rw[HT3.out.list,m1,m2]⟩,HIN.out.sites,⟨w4.heap.size,R5,by simp only[hlb],hlt5,(hu4 _ (Nat.le_refl _) hlt5).trans HT5.out.row,by rw[HT5.out.list,n1,n2,hlb]⟩,fun a ha=>HT5.out.all a ha u hu4⟩
 · simp only[Gr.id,xP]
   have hK5:=HK5.out.1;refine List.Pairwise.cons (fun x hx=>?_) (List.Pairwise.cons (fun x hx=>?_) HORD.out.1)
   · rcases List.mem_cons.1 hx with rfl|hx
     · show W2.heap.size<w4.heap.size;omega
     · have:=HORD.out.2 x hx
       show W2.heap.size<x;omega
   · exact HORD.out.2 x hx
 · intro x hx
   simp only[Gr.id,xP,List.mem_cons]at hx;rcases hx with rfl|rfl|hx
   · show w.heap.size≤W2.heap.size;omega
   · show w.heap.size≤w4.heap.size;omega
   · have:=HORD.out.2 x hx;omega
theorem XK (l:List Gr) (B:Nat) (v:Value) (w:World) (hL:zB Gr.cells 3 w B v l) (hI:∀ a ∈ l,GIn w B a) (hBw:B≤w.heap.size) (hsm:l.length≤262144) (hsz:∀ a ∈ l,a.refs.length≤262144∧a.blocks.length≤262144∧∀ b ∈ a.blocks,b.ins.length≤262144) :
 Calls Tryz.prog 18 #[v] w (TwE Gr.cells 75 3 KG l.length mkG (fun l'=>Gr.bares l'=Gr.bares l∧(l'.flatMap Gr.id).Pairwise (· < ·)∧∀ x ∈ l'.flatMap Gr.id,w.heap.size<x) w):=by
 have hroom:=hL.room;obtain⟨ao,cap,rfl,hlen,hgo⟩:=hL.form;obtain⟨N,hN⟩:∃ N,N=l.length:=⟨_,rfl⟩
 have hNs:N≤262144:=by rw[hN];exact hsm
 obtain⟨i0,hi,hz0,hz1,hz2⟩:=info_parts twiG;obtain⟨M,hM⟩:∃ M,M=madeCells (Value.cells (.agg #[.slice none 0 0,.int .i64 0,.slice none 0 0])) (((N:Int)+2).toNat*i0.size):=⟨_,rfl⟩
 have hMs:M.size=(N+2)*3:=by rw[hM,size_madeCells,hz1];congr 1
 have hmk:(Instr.makeSlice 22 (.int .i64 (N:Int)) (.int .i64 ((N:Int)+2))).run Tryz.prog w = .ok (.slice (some ⟨w.heap.size,0,none⟩) N (N+2)) (w.alloc (.cells M 75)):=by
  have h:=run_make (P:=Tryz.prog) w 22 75 i0 (.agg #[.slice none 0 0,.int .i64 0,.slice none 0 0]) Tryz.underlying22 hi hz0 .i64 .i64 (N:Int) ((N:Int)+2) (by omega) (by omega) (by rw[hz2];omega) (by omega);rw[←hM,show ((N:Int)+2).toNat=N+2 by omega]at h
  simpa using h
 obtain⟨W0,hW0⟩:∃ W0,W0=w.alloc (.cells M 75):=⟨_,rfl⟩
 have hb0:Below w.heap.size w W0:=by rw[hW0];exact ze w _
 have hlt0:w.heap.size<W0.heap.size:=by rw[hW0];simp
 have hS0:TwS Gr.cells 75 3 KG w.heap.size N 0 w W0 [] M M.toList:=
  ⟨rfl,hb0,hlt0,by rw[hW0];exact (MapKept.heap_alloc _ _).1,by simp,by rw[Array.length_toList,hMs];rfl,fun a ha=>by cases ha⟩
 rw[←hN]at hlen hgo hL ⊢;have HS0:=hid hS0;have HW0:=hid hW0;have HL:=hid hL;have HIN:=hid hI;have HG:=hid hgo;have HN:=hid hN;have HSZ:=hid (hsz);clear hi hz0 hz1 hz2 hM hMs hb0 hS0 hW0 hL hI hgo hN hroom;rw[HW0.out.symm]at hmk;go_enter Tryz.func18,Tryz.ntmps18;go_wp2_with fail
 go_loopw [15] (fun i wr=>∃ k:Nat,k≤N∧i = .int .i64 k∧Hid (∃ l' R rest,Gr.bares l'=Gr.bares (l.take k)∧((l'.flatMap Gr.id).Pairwise (· < ·)∧∀ x ∈ l'.flatMap Gr.id,w.heap.size<x)∧TwS Gr.cells 75 3 KG w.heap.size N k w wr l' R rest)) (fun i _=>N - (intOf i).toNat)
 case atStart=>exact⟨0,by omega,rfl,hid ⟨[],M,M.toList,by rw[List.take_zero],⟨List.Pairwise.nil,fun x hx=>by cases hx⟩,HS0.out⟩⟩
 case round =>
  obtain⟨k,hkN,rfl,HR⟩:=hrel;obtain⟨l',R,rest,hsame,hord,hS⟩:=HR.out;clear HR;have hbw:=hS.below;have hsw:=hbw.size;have hlb:=hS.lt
  by_cases hlt2:k<N
  · have hpx:k<l.length:=by rw[←HN.out];exact hlt2
    obtain⟨g,off,rfl,hg⟩:=HG.out (by omega);have hat:=((HL.out.below (hbw.mono hBw)).at rfl k hpx).2;have hma:=List.getElem_mem hpx;have hIa:=(HIN.out _ hma).keeps (hbw.mono hBw);have htk:l.take (k+1)=l.take k++[l[k]]:=List.take_succ_eq_append_getElem hpx;have hPa:=XL l[k] B wr hIa (by omega) (HSZ.out l[k] hma);have p0:wr.cell? ⟨g,off+k*3,none⟩ = some l[k].rv:=hat 0 _ rfl;have p1:wr.cell? ⟨g,off+k*3+1,none⟩ = some (.int .i64 l[k].sites):=hat 1 _ rfl;have p2:wr.cell? ⟨g,off+k*3+2,none⟩ = some l[k].bv:=hat 2 _ rfl;generalize l[k]=a at *;obtain⟨fo,fc,ef,-⟩:=hIa.rlies.form;obtain⟨eo,ec,ee,-⟩:=hIa.blies.form;rw[ef]at p0 hPa;rw[ee]at p2 hPa;have HPA:=hid hPa;have HS:=hid hS;have HTK:=hid htk;have HSAME:=hid hsame;have HORD:=hid hord;have hgs:g<wr.heap.size:=by omega
    clear hat hma hIa hPa htk hS hsame hbw hord ef ee;go_wp2_with fail;refine HPA.out.mono ?_;intro e w1 hq;obtain⟨y,rfl,hy,hb1,hn1,hyo,hyl⟩:=hq;obtain⟨⟨yb,yR,ey,-⟩,-,⟨zb,zR,ez,-⟩,-⟩:=id hn1.here;rw[ey,ez];have HEY:=hid (show y.cells=[.slice (some ⟨yb,0,none⟩) y.refs.length (y.refs.length+2),.int .i64 y.sites,.slice (some ⟨zb,0,none⟩) y.blocks.length (y.blocks.length+2)]by unfold Gr.cells;rw[ey,ez]);clear ey ez p0 p1 p2;have HO1:=hid ((hb1.block _ hlb).trans HS.out.row);have HRS:=hid (show k*3+3≤R.size by rw[HS.out.rsize wJ (by omega)];omega);have HB1:=hid hb1;have HN1:=hid hn1;have HY:=hid hy
    have HORD2:=hid (show ((l'++[y]).flatMap Gr.id).Pairwise (· < ·)∧∀ x ∈ (l'++[y]).flatMap Gr.id,w.heap.size<x from
     ZE hlb HORD.out (fun a ha=>z3p (HS.out.new a ha).here) hyo hyl)
    clear hb1 hn1 hy hyo hyl;obtain⟨NEW,hNEW⟩:∃ A:Array Value,A=R.extract 0 (k*3)++(Gr.cells y).toArray++R.extract (k*3+(Gr.cells y).toArray.size) R.size:=⟨_,rfl⟩
    have HNEW:=hid hNEW;clear hNEW;go_wp2_with (refine vN rfl 75 (Operand.tmp 25) (Operand.tmp 24) rfl w.heap.size (k*3) 75 R #[.slice (some ⟨yb,0,none⟩) y.refs.length (y.refs.length+2),.int .i64 y.sites,.slice (some ⟨zb,0,none⟩) y.blocks.length (y.blocks.length+2)] NEW rfl rfl HO1.out HRS.out (by kernel_rfl) (by simp[Value.oneCell']) (by rw[HNEW.out,HEY.out]) ?_);intro w2 hp;obtain⟨rest2,hst⟩:=HS.out.step wJ (fun v B B2 a h q=>KG.up h q) (by omega) HB1.out HN1.out HNEW.out hp;have HST:=hid hst;clear hst hp;go_wp2_with fail;go_roundw
    case rel=>exact⟨k+1,by omega,by go_num,hid ⟨_,_,rest2,by rw[X9,HSAME.out,HTK.out,X9,X8,X8,HY.out],HORD2.out,HST.out⟩⟩
    case measure=>simp[intOf];omega
  · obtain rfl:N=k:=by omega
    have HM:=hid hS.marks;have hsame2:Gr.bares l'=Gr.bares l:=by rw[hsame,List.take_of_length_le (by rw[←HN.out];exact Nat.le_refl _)]
    have HSAME:=hid hsame2;have HORD:=hid hord;clear hS hsame hsame2 hbw hord;have HM1:=HM;clear HM;obtain⟨R1,hR1⟩:∃ A,A=R:=⟨_,rfl⟩
    rw[←hR1]at HM1;clear hR1;have HK1:=hid (fun w=>ZY N (by omega) w);have HK2:=hid (fun w=>(show ((N+1:Nat):Int)=(N:Int)+1 by push_cast;rfl) ▸ ZY (N+1) (by omega) w);go_wp2_with fail;refine wp_loop_rounds 3 ?_;rw[rounds_succ];go_wp2_with fail;refine (HK1.out wr).mono ?_;rintro e w1 ⟨rfl,hb1⟩;have HO1:=hid ((hb1.block _ HM1.out.lt).trans HM1.out.row);have HR1:=hid (show N*3+(xx N).toArray.size≤R1.size by rw[HM1.out.rsize wJ (by omega),List.size_toArray,qY];omega);have HB1:=hid hb1;obtain⟨NEW1,hNEW1⟩:∃ A:Array Value,A=R1.extract 0 ((N+0)*3)++(xx N).toArray++R1.extract ((N+0)*3+(xx N).toArray.size) R1.size:=⟨_,rfl⟩
    have HNEW1:=hid hNEW1;clear hNEW1 hb1;go_wp2_with (refine vN rfl 75 (Operand.tmp 44) (Operand.tmp 43) rfl w.heap.size (N*3) 75 R1 (xx N).toArray NEW1 rfl rfl HO1.out HR1.out (by kernel_rfl) (uo N) HNEW1.out ?_);intro w2 hp2;have HM2:=hid (HM1.out.step wJ (fun v B B2 a h q=>KG.up h q) (by omega) (qY N) HB1.out HNEW1.out hp2);clear hp2;go_wp2_with fail;obtain⟨R2,hR2⟩:∃ A,A=NEW1:=⟨_,rfl⟩
    rw[←hR2]at HM2;clear hR2;rw[rounds_succ];go_wp2_with fail;refine (HK2.out w2).mono ?_;rintro e w3 ⟨rfl,hb3⟩;have HO2:=hid ((hb3.block _ HM2.out.lt).trans HM2.out.row);have HR2:=hid (show (N+1)*3+(xx (N+1)).toArray.size≤R2.size by rw[HM2.out.rsize wJ (by omega),List.size_toArray,qY];omega);have HB2:=hid hb3;obtain⟨NEW2,hNEW2⟩:∃ A:Array Value,A=R2.extract 0 ((N+1)*3)++(xx (N+1)).toArray++R2.extract ((N+1)*3+(xx (N+1)).toArray.size) R2.size:=⟨_,rfl⟩
    have HNEW2:=hid hNEW2;clear hNEW2 hb3;go_wp2_with (refine vN rfl 75 (Operand.tmp 44) (Operand.tmp 43) rfl w.heap.size ((N+1)*3) 75 R2 (xx (N+1)).toArray NEW2 rfl rfl HO2.out HR2.out (by kernel_rfl) (uo (N+1)) HNEW2.out ?_);intro w4 hp4;have HM3:=hid (HM2.out.step wJ (fun v B B2 a h q=>KG.up h q) (by omega) (qY (N+1)) HB2.out HNEW2.out hp4);clear hp4;go_wp2_with fail;rw[rounds_succ];go_wp2_with fail;go_ret;exact⟨_,l',NEW2,xx N,xx (N+1),rfl,⟨HSAME.out,HORD.out⟩,HM3.out.done (qY N) (qY (N+1)) rfl rfl⟩
