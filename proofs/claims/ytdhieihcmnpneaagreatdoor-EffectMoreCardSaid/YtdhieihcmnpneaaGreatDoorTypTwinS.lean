/- Copies of statements. -/
import Derived.Test.YtdhieihcmnpneaaGreatDoorRows
import Derived.Test.YtdhieihcmnpneaaGreatDoorGTw
import Derived.Test.YtdhieihcmnpneaaGreatDoorGSize
import Derived.Test.YtdhieihcmnpneaaGreatDoorGTwinA
namespace Go.Proofs.YtdhieihcmnpneaaGreatDoor
open Lib (hid)
set_option maxHeartbeats 8000000
set_option maxRecDepth 100000
open Go.RowKit Go.Joins
attribute [local go_sem ↓] loadX_eq loadS_eq
theorem twiS:(Tryz.prog.info? 64).map (fun i=>(i.zero,i.size,i.bytes))=some (some (.agg #[.int .u8 0,.string ⟨#[]⟩,.int .u8 0,.string ⟨#[]⟩,.int .i64 0,.int .u8 0,.int .i64 0,.string ⟨#[]⟩,.int .u8 0,.string ⟨#[]⟩,.int .i64 0,.slice none 0 0,.int .u8 0,.int .i64 0,.string ⟨#[]⟩,.int .u8 0,.string ⟨#[]⟩,.int .i64 0,.slice none 0 0,.slice none 0 0,.slice none 0 0]),21,280):=by kernel_rfl
def TwSE (s:St) (w:World) (e:Ending) (w':World):Prop:=∃ y:St,e = .returned (.agg y.arr)∧y.bare=s.bare∧Below w.heap.size w w'∧NewW w.heap.size w' fun v=>SIn v w'.heap.size y
def PTS (s:St):Prop:=∀ (B:Nat) (w:World),SIn w B s→B≤w.heap.size→St.wt s≤262145→Tab w→Calls Tryz.prog 40 #[.agg s.arr] w (TwSE s w)
def mkS (n:Nat) (t:List Value):Prop:=t=markStmt n
def PTSs (l:List St):Prop:=∀ (B:Nat) (v:Value) (w:World),LiesG St.cells 21 w B v l→(∀ a ∈ l,SIn w B a)→B≤w.heap.size→St.wts l≤262144→Tab w →
  Calls Tryz.prog 22 #[v] w (TwE St.cells 64 21 SIn l.length mkS (fun l'=>St.bares l'=St.bares l) w)
theorem scells_len (a:St):(St.cells a).length=21:=rfl
theorem St_bares_append:∀ a b:List St,St.bares (a ++ b)=St.bares a ++ St.bares b
  | [],b=>by rw [sbares_nil];rfl
  | x :: r,b=>by rw [List.cons_append,sbares_cons,sbares_cons,St_bares_append r b];rfl
theorem St_bares_one (a:St):St.bares [a] = [a.bare]:=by rw [sbares_cons,sbares_nil]
theorem wt_le (l:List St) (a:St) (h:a ∈ l):St.wt a≤St.wts l:=by
  induction l with
  | nil=>cases h
  | cons b r ih =>
    rw [wts_cons]
    rcases List.mem_cons.1 h with rfl|h
    · omega
    · have:=ih h;omega
theorem arr_cells (s:St):(St.cells s).toArray=s.arr:=by unfold St.arr;rfl
theorem twinStmts_of (l:List St) (ih:∀ a ∈ l,PTS a):PTSs l:=by
  intro B v w hL hI hBw hsz hT
  have hsm:l.length≤262144:=by rw [wts_below] at hsz;omega
  have hroom:=hL.room
  obtain⟨ao,cap,rfl,hlen,hgo⟩:=hL.form
  obtain⟨N,hN⟩:∃ N,N=l.length:=⟨_,rfl⟩
  have hNs:N≤262144:=by rw [hN];exact hsm
  obtain⟨i0,hi,hz0,hz1,hz2⟩:=info_parts twiS
  obtain⟨M,hM⟩:∃ M,M=madeCells (Value.cells (.agg #[.int .u8 0,.string ⟨#[]⟩,.int .u8 0,.string ⟨#[]⟩,.int .i64 0,.int .u8 0,.int .i64 0,.string ⟨#[]⟩,.int .u8 0,.string ⟨#[]⟩,.int .i64 0,.slice none 0 0,.int .u8 0,.int .i64 0,.string ⟨#[]⟩,.int .u8 0,.string ⟨#[]⟩,.int .i64 0,.slice none 0 0,.slice none 0 0,.slice none 0 0])) (((N:Int)+2).toNat * i0.size):=⟨_,rfl⟩
  have hMs:M.size=(N+2) * 21:=by rw [hM,size_madeCells,hz1];congr 1
  have hmk:(Instr.makeSlice 31 (.int .i64 (N:Int)) (.int .i64 ((N:Int)+2))).run Tryz.prog w = .ok (.slice (some ⟨w.heap.size,0,none⟩) N (N+2)) (w.alloc (.cells M 64)):=by
    have h:=run_make (P:=Tryz.prog) w 31 64 i0 (.agg #[.int .u8 0,.string ⟨#[]⟩,.int .u8 0,.string ⟨#[]⟩,.int .i64 0,.int .u8 0,.int .i64 0,.string ⟨#[]⟩,.int .u8 0,.string ⟨#[]⟩,.int .i64 0,.slice none 0 0,.int .u8 0,.int .i64 0,.string ⟨#[]⟩,.int .u8 0,.string ⟨#[]⟩,.int .i64 0,.slice none 0 0,.slice none 0 0,.slice none 0 0]) Tryz.underlying31 hi hz0 .i64 .i64 (N:Int) ((N:Int)+2) (by omega) (by omega) (by rw [hz2];omega) (by omega)
    rw [← hM,show ((N:Int)+2).toNat=N+2 by omega] at h
    simpa using h
  obtain⟨W0,hW0⟩:∃ W0,W0=w.alloc (.cells M 64):=⟨_,rfl⟩
  have hb0:Below w.heap.size w W0:=by rw [hW0];exact below_box w _
  have hlt0:w.heap.size < W0.heap.size:=by rw [hW0];simp
  have hS0:TwS St.cells 64 21 SIn w.heap.size N 0 w W0 [] M M.toList:=
    ⟨rfl,hb0,hlt0,by rw [hW0];exact (MapKept.heap_alloc _ _).1,by simp,by rw [Array.length_toList,hMs];rfl,fun a ha=>by cases ha⟩
  rw [← hN] at hlen hgo hL ⊢
  have HS0:=hid hS0
  have HW0:=hid hW0
  have HL:=hid hL
  have HIN:=hid hI
  have HG:=hid hgo
  have HN:=hid hN
  have HSM:=hid hsz
  have HT0:=hid hT
  have HIH:=hid ih
  clear hi hz0 hz1 hz2 hM hMs hb0 hS0 hW0 hL hI hgo hN hsz ih hroom hT
  rw [HW0.out.symm] at hmk
  go_enter Tryz.func22,Tryz.ntmps22
  go_wp2_with fail
  go_loopw [15] (fun i wr=>∃ k:Nat,k≤N∧i = .int .i64 k∧Hid (∃ l' R rest,St.bares l'=St.bares (l.take k)∧TwS St.cells 64 21 SIn w.heap.size N k w wr l' R rest)) (fun i _=>N - (intOf i).toNat)
  case atStart=>exact⟨0,by omega,rfl,hid ⟨[],M,M.toList,by rw [List.take_zero],HS0.out⟩⟩
  case round =>
    obtain⟨k,hkN,rfl,HR⟩:=hrel
    obtain⟨l',R,rest,hsame,hS⟩:=HR.out
    clear HR
    have hbw:=hS.below
    have hsw:=hbw.size
    have hlb:=hS.lt
    by_cases hlt2:k < N
    · have hpx:k < l.length:=by rw [← HN.out];exact hlt2
      obtain⟨g,off,rfl,hg⟩:=HG.out (by omega)
      have hat:=((HL.out.below (hbw.mono hBw)).at rfl k hpx).2
      have hma:=List.getElem_mem hpx
      have hIa:=SIn.keeps (hbw.mono hBw) _ (HIN.out _ hma)
      have htk:l.take (k+1)=l.take k ++ [l[k]]:=List.take_succ_eq_append_getElem hpx
      have hld:=loadS_mid l[k] hat
      have hPa:=HIH.out _ hma B wr hIa (by omega) (by have:=wt_le l _ hma;have:=HSM.out;omega) (HT0.out.keeps hbw)
      generalize l[k] = a at *
      have HPA:=hid hPa
      have HS:=hid hS
      have HTK:=hid htk
      have HSAME:=hid hsame
      have hgs:g < wr.heap.size:=by omega
      clear hat hma hIa hPa htk hS hsame hbw
      go_wp2_with fail
      refine HPA.out.mono ?_;intro e w1 hq
      obtain⟨y,rfl,hy,hb1,hn1⟩:=hq
      have HEY:=hid (arr_cells y)
      have HONE:=hid hn1.here.one
      have HO1:=hid ((hb1.block _ hlb).trans HS.out.row)
      have HRS:=hid (show k * 21+y.arr.size≤R.size by rw [arr_size,HS.out.rsize scells_len (by omega)];omega)
      have HB1:=hid hb1
      have HN1:=hid hn1
      have HY:=hid hy
      clear hb1 hn1 hy
      obtain⟨NEW,hNEW⟩:∃ A:Array Value,A=R.extract 0 (k * 21) ++ (St.cells y).toArray ++ R.extract (k * 21+(St.cells y).toArray.size) R.size:=⟨_,rfl⟩
      have HNEW:=hid hNEW
      clear hNEW
      go_wp2_with (refine wpList_put_at rfl 64 (Operand.tmp 25) (Operand.tmp 24) rfl w.heap.size (k * 21) 64 R y.arr NEW rfl rfl HO1.out HRS.out (by rw [arr_size];kernel_rfl) HONE.out (by rw [HNEW.out,HEY.out]) ?_)
      intro w2 hp
      obtain⟨rest2,hst⟩:=HS.out.step scells_len (fun v B B2 a h=>SIn.up h a) (by omega) HB1.out HN1.out HNEW.out hp
      have HST:=hid hst
      clear hst hp
      go_wp2_with fail
      go_roundw
      case rel=>exact⟨k+1,by omega,by go_num,hid ⟨_,_,rest2,by rw [St_bares_append,HSAME.out,HTK.out,St_bares_append,St_bares_one,St_bares_one,HY.out],HST.out⟩⟩
      case measure=>simp [intOf];omega
    · obtain rfl:N=k:=by omega
      have HM:=hid hS.marks
      have hsame2:St.bares l'=St.bares l:=by rw [hsame,List.take_of_length_le (by rw [← HN.out];exact Nat.le_refl _)]
      have HSAME:=hid hsame2
      have HTW:=hid (HT0.out.keeps hbw)
      clear hS hsame hsame2 hbw
      have HM1:=HM
      clear HM
      obtain⟨R1,hR1⟩:∃ A,A=R:=⟨_,rfl⟩
      rw [← hR1] at HM1
      clear hR1
      have HK1:=hid (fun w (hT:Tab w)=>markStmt_any N (by omega) w hT)
      have HK2:=hid (fun w (hT:Tab w)=>(show ((N+1:Nat):Int)=(N:Int)+1 by push_cast;rfl) ▸ markStmt_any (N+1) (by omega) w hT)
      go_wp2_with fail
      refine wp_loop_rounds 3 ?_
      rw [rounds_succ]
      go_wp2_with fail
      refine (HK1.out wr HTW.out).mono ?_;rintro e w1 ⟨rfl,hb1⟩
      have HO1:=hid ((hb1.block _ HM1.out.lt).trans HM1.out.row)
      have HR1:=hid (show N * 21+(markStmt N).toArray.size≤R1.size by rw [HM1.out.rsize scells_len (by omega),List.size_toArray,markStmt_len];omega)
      have HB1:=hid hb1
      obtain⟨NEW1,hNEW1⟩:∃ A:Array Value,A=R1.extract 0 ((N+0) * 21) ++ (markStmt N).toArray ++ R1.extract ((N+0) * 21+(markStmt N).toArray.size) R1.size:=⟨_,rfl⟩
      have HNEW1:=hid hNEW1
      clear hNEW1 hb1
      go_wp2_with (refine wpList_put_at rfl 64 (Operand.tmp 44) (Operand.tmp 43) rfl w.heap.size (N * 21) 64 R1 (markStmt N).toArray NEW1 rfl rfl HO1.out HR1.out (by kernel_rfl) (markStmt_one N) HNEW1.out ?_)
      intro w2 hp2
      have HM2:=hid (HM1.out.step scells_len (fun v B B2 a h=>SIn.up h a) (by omega) (markStmt_len N) HB1.out HNEW1.out hp2)
      clear hp2
      go_wp2_with fail
      obtain⟨R2,hR2⟩:∃ A,A=NEW1:=⟨_,rfl⟩
      rw [← hR2] at HM2
      clear hR2
      rw [rounds_succ]
      go_wp2_with fail
      refine (HK2.out w2 (HT0.out.keeps HM2.out.below)).mono ?_;rintro e w3 ⟨rfl,hb3⟩
      have HO2:=hid ((hb3.block _ HM2.out.lt).trans HM2.out.row)
      have HR2:=hid (show (N+1) * 21+(markStmt (N+1)).toArray.size≤R2.size by rw [HM2.out.rsize scells_len (by omega),List.size_toArray,markStmt_len];omega)
      have HB2:=hid hb3
      obtain⟨NEW2,hNEW2⟩:∃ A:Array Value,A=R2.extract 0 ((N+1) * 21) ++ (markStmt (N+1)).toArray ++ R2.extract ((N+1) * 21+(markStmt (N+1)).toArray.size) R2.size:=⟨_,rfl⟩
      have HNEW2:=hid hNEW2
      clear hNEW2 hb3
      go_wp2_with (refine wpList_put_at rfl 64 (Operand.tmp 44) (Operand.tmp 43) rfl w.heap.size ((N+1) * 21) 64 R2 (markStmt (N+1)).toArray NEW2 rfl rfl HO2.out HR2.out (by kernel_rfl) (markStmt_one (N+1)) HNEW2.out ?_)
      intro w4 hp4
      have HM3:=hid (HM2.out.step scells_len (fun v B B2 a h=>SIn.up h a) (by omega) (markStmt_len (N+1)) HB2.out HNEW2.out hp4)
      clear hp4
      go_wp2_with fail
      rw [rounds_succ]
      go_wp2_with fail
      go_ret
      exact⟨_,l',NEW2,markStmt N,markStmt (N+1),rfl,HSAME.out,HM3.out.done (markStmt_len N) (markStmt_len (N+1)) rfl rfl⟩
def St.setX (s:St) (x:X):St:=.mk s.h x s.y s.bv s.ev s.body s.els
def St.setY (s:St) (y:X):St:=.mk s.h s.x y s.bv s.ev s.body s.els
def St.setB (s:St) (v:Value) (b:List St):St:=.mk s.h s.x s.y v s.ev b s.els
def St.setE (s:St) (v:Value) (e:List St):St:=.mk s.h s.x s.y s.bv v s.body e
theorem setX_arr (s:St) (x:X):(s.setX x).arr=s.arr.extract 0 5 ++ x.cells.toArray ++ s.arr.extract (5+x.cells.toArray.size) s.arr.size:=by rw [arr_size];unfold St.arr;kernel_rfl
theorem setY_arr (s:St) (x:X):(s.setY x).arr=s.arr.extract 0 12 ++ x.cells.toArray ++ s.arr.extract (12+x.cells.toArray.size) s.arr.size:=by rw [arr_size];unfold St.arr;kernel_rfl
theorem setB_arr (s:St) (v:Value) (b:List St):s.arr.setIfInBounds 19 v=(s.setB v b).arr:=by unfold St.arr;rfl
theorem setE_arr (s:St) (v:Value) (b:List St):s.arr.setIfInBounds 20 v=(s.setE v b).arr:=by unfold St.arr;rfl
theorem twinStmt_of (s:St) (hkb:PTSs s.body) (hke:PTSs s.els):PTS s:=by
  intro B w hI hBw hsz hT
  rw [wt_parts] at hsz
  obtain⟨hx,hy,hLb,hLe,hIb,hIe⟩:=sin_all hI
  obtain⟨bo,bc,eb,-⟩:=hLb.form
  obtain⟨eo,ec,ee,-⟩:=hLe.form
  obtain⟨xo,xn,xc,ex⟩:=slice_of hx
  obtain⟨yo,yn,yc,ey⟩:=slice_of hy
  have hOK:ShOk s.h:=by cases hI;assumption
  obtain⟨W2,hW2⟩:∃ W2,W2=(w.alloc (.cells s.arr 64)).alloc (.cells #[.int .u8 0,.string ⟨#[]⟩,.int .u8 0,.string ⟨#[]⟩,.int .i64 0,.int .u8 0,.int .i64 0,.string ⟨#[]⟩,.int .u8 0,.string ⟨#[]⟩,.int .i64 0,.slice none 0 0,.int .u8 0,.int .i64 0,.string ⟨#[]⟩,.int .u8 0,.string ⟨#[]⟩,.int .i64 0,.slice none 0 0,.slice none 0 0,.slice none 0 0] 64):=⟨_,rfl⟩
  have hb1:=below_box w (.cells s.arr 64)
  have hb2:Below w.heap.size w W2:=by rw [hW2];exact hb1.alloc (by simp) _
  have hz2:W2.heap.size=w.heap.size+2:=by rw [hW2];simp
  have hO2:W2.heap[w.heap.size]? = some (.cells s.arr 64 (0,0)):=by
    rw [hW2,Below.heap_alloc _ _ _ (by simp)];exact (MapKept.heap_alloc _ _).1
  have hP2:W2.heap[w.heap.size+1]? = some (.cells #[.int .u8 0,.string ⟨#[]⟩,.int .u8 0,.string ⟨#[]⟩,.int .i64 0,.int .u8 0,.int .i64 0,.string ⟨#[]⟩,.int .u8 0,.string ⟨#[]⟩,.int .i64 0,.slice none 0 0,.int .u8 0,.int .i64 0,.string ⟨#[]⟩,.int .u8 0,.string ⟨#[]⟩,.int .i64 0,.slice none 0 0,.slice none 0 0,.slice none 0 0] 64 (0,0)):=by
    rw [hW2];have:=(MapKept.heap_alloc (w.alloc (.cells s.arr 64)) (.cells #[.int .u8 0,.string ⟨#[]⟩,.int .u8 0,.string ⟨#[]⟩,.int .i64 0,.int .u8 0,.int .i64 0,.string ⟨#[]⟩,.int .u8 0,.string ⟨#[]⟩,.int .i64 0,.slice none 0 0,.int .u8 0,.int .i64 0,.string ⟨#[]⟩,.int .u8 0,.string ⟨#[]⟩,.int .i64 0,.slice none 0 0,.slice none 0 0,.slice none 0 0] 64)).1;simpa using this
  have HKX:=hid (twinExpr_all s.x B W2 (InW.keeps (hb2.mono hBw) _ hx) (by omega) (by omega))
  have HKY:=hid (fun (u:World) (hu:Below w.heap.size w u)=>twinExpr_all s.y B u (InW.keeps (hu.mono hBw) _ hy) (by have:=hu.size;omega) (by omega))
  have HKB:=hid (fun (u:World) (hu:Below w.heap.size w u)=>hkb B s.bv u (hLb.below (hu.mono hBw)) (fun a ha=>SIn.keeps (hu.mono hBw) _ (hIb a ha)) (by have:=hu.size;omega) (by omega) (hT.keeps hu))
  have HKE:=hid (fun (u:World) (hu:Below w.heap.size w u)=>hke B s.ev u (hLe.below (hu.mono hBw)) (fun a ha=>SIn.keeps (hu.mono hBw) _ (hIe a ha)) (by have:=hu.size;omega) (by omega) (hT.keeps hu))
  have hlx:=st_x hO2
  rw [val_of ex] at hlx HKX
  rw [hW2] at hlx
  have HW2:=hid hW2
  have HB2:=hid hb2
  have HZ2:=hid hz2
  have HO2:=hid hO2
  have HP2:=hid hP2
  have HOK:=hid hOK
  have HEB:=hid eb
  have HEE:=hid ee
  have HEY:=hid (val_of ey)
  have hLbr:=hLb.room
  have hLer:=hLe.room
  clear hW2 hb1 hb2 hz2 hO2 hP2 hI hx hy hLb hLe hIb hIe hkb hke hsz hT ex ey eb ee hOK
  go_enter Tryz.func40,Tryz.ntmps40
  go_wp2_with fail
  rw [← HW2.out]
  refine HKX.out.mono ?_;intro e w3 hq
  obtain⟨x',rfl,hxs,hb3,hn3⟩:=hq
  obtain⟨xo',xn',xc',ex'⟩:=slice_of hn3.here
  rw [val_of ex']
  have hs3:=hb3.size
  have HO3:=hid ((hb3.block w.heap.size (by have:=HZ2.out;omega)).trans HO2.out)
  have HP3:=hid ((hb3.block (w.heap.size+1) (by have:=HZ2.out;omega)).trans HP2.out)
  have HXC:=hid (show x'.cells = [.int .u8 x'.hd.k,.int .i64 x'.hd.n,.string x'.hd.name,.int .u8 x'.hd.tk,.string x'.hd.tn,.int .i64 x'.hd.tz,.slice xo' xn' xc'] by unfold X.cells;rw [ex'])
  have hsx:=setX_arr s x'
  rw [HXC.out] at hsx
  have HSX:=hid hsx
  have HB3:=hid (HB2.out.trans (hb3.mono (by have:=HZ2.out;omega)))
  have HN3:=hid hn3
  have HXS:=hid hxs
  have HAS:=hid (show 5+7≤s.arr.size by rw [arr_size];omega)
  clear hb3 hn3 hxs ex' hsx hlx
  go_wp2_with (refine wpList_put_at rfl 62 (Operand.tmp 6) (Operand.tmp 5) rfl w.heap.size 5 64 s.arr #[.int .u8 x'.hd.k,.int .i64 x'.hd.n,.string x'.hd.name,.int .u8 x'.hd.tk,.string x'.hd.tn,.int .i64 x'.hd.tz,.slice xo' xn' xc'] (s.setX x').arr rfl rfl HO3.out HAS.out (by kernel_rfl) (by simp [Value.oneCell']) HSX.out ?_)
  intro w4 hp4
  have hb4:Below w.heap.size w w4:=hp4.below HB3.out (Nat.le_refl _)
  have HB4:=hid hb4
  have HS4:=hid hp4.size
  have HO4:=hid hp4.at_b
  have HP4:=hid ((hp4.rest (w.heap.size+1) (by omega)).trans HP3.out)
  have HK4:=hid (Kept.of_put (lo:=W2.heap.size) hp4 (by have:=HZ2.out;omega))
  have hly:=st_y hp4.at_b
  rw [show (s.setX x').y=s.y from rfl,HEY.out] at hly
  have hky:=HKY.out w4 hb4
  rw [HEY.out] at hky
  have HKY2:=hid hky
  have hlt4:w.heap.size+1 < w4.heap.size:=by have:=HZ2.out;have:=hp4.size;omega
  clear hb4 hp4 hky
  go_wp2_with fail
  refine HKY2.out.mono ?_;intro e w5 hq
  obtain⟨y',rfl,hys,hb5,hn5⟩:=hq
  obtain⟨yo',yn',yc',ey'⟩:=slice_of hn5.here
  rw [val_of ey']
  have hs5:=hb5.size
  have HO5:=hid ((hb5.block w.heap.size (by omega)).trans HO4.out)
  have HP5:=hid ((hb5.block (w.heap.size+1) (by omega)).trans HP4.out)
  have HYC:=hid (show y'.cells = [.int .u8 y'.hd.k,.int .i64 y'.hd.n,.string y'.hd.name,.int .u8 y'.hd.tk,.string y'.hd.tn,.int .i64 y'.hd.tz,.slice yo' yn' yc'] by unfold X.cells;rw [ey'])
  have hsy:=setY_arr (s.setX x') y'
  rw [HYC.out] at hsy
  have HSY:=hid hsy
  have HB5:=hid (HB4.out.trans (hb5.mono (by omega)))
  have HK5:=hid (HK4.out.trans (Kept.of_below hb5))
  have HN5:=hid hn5
  have HYS:=hid hys
  have HAS5:=hid (show 12+7≤(s.setX x').arr.size by rw [arr_size];omega)
  clear hb5 hn5 hys ey' hsy hly
  go_wp2_with (refine wpList_put_at rfl 62 (Operand.tmp 10) (Operand.tmp 9) rfl w.heap.size 12 64 (s.setX x').arr #[.int .u8 y'.hd.k,.int .i64 y'.hd.n,.string y'.hd.name,.int .u8 y'.hd.tk,.string y'.hd.tn,.int .i64 y'.hd.tz,.slice yo' yn' yc'] ((s.setX x').setY y').arr rfl rfl HO5.out HAS5.out (by kernel_rfl) (by simp [Value.oneCell']) HSY.out ?_)
  intro w6 hp6
  obtain⟨s2,hs2⟩:∃ q,q=(s.setX x').setY y':=⟨_,rfl⟩
  rw [← hs2] at hp6
  have hb6:Below w.heap.size w w6:=hp6.below HB5.out (Nat.le_refl _)
  have HB6:=hid hb6
  have hlt6:w.heap.size+1 < w6.heap.size:=by rw [hp6.size];omega
  have hs56:w5.heap.size≤w6.heap.size:=by rw [hp6.size];exact Nat.le_refl _
  have HO6:=hid hp6.at_b
  have HP6:=hid ((hp6.rest (w.heap.size+1) (by omega)).trans HP5.out)
  have HK6:=hid (HK5.out.trans (Kept.of_put (lo:=W2.heap.size) hp6 (by have:=HZ2.out;omega)))
  have HN6:=hid (HN5.out.kept (Kept.of_put hp6 (by omega)))
  have p19:=st_cell hp6.at_b 19 s.bv (by rw [hs2];rfl)
  have hkb:=HKB.out w6 hb6
  rw [HEB.out] at p19 hkb
  have HKB2:=hid hkb
  have HS2:=hid hs2
  clear hb6 hp6 hkb hs2
  go_wp2_with fail
  refine HKB2.out.mono ?_;intro e w7 hq
  obtain⟨v7,b',R7,t71,t72,rfl,hbs,hT7⟩:=hq
  have hv7:=hT7.val
  subst hv7
  have hb7:=hT7.below
  have hs7:=hb7.size
  have hO7:=(hb7.block w.heap.size (by omega)).trans HO6.out
  have HO7:=hid hO7
  have HP7:=hid ((hb7.block (w.heap.size+1) (by omega)).trans HP6.out)
  have HB7:=hid (HB6.out.trans (hb7.mono (by omega)))
  have HK7:=hid (HK6.out.trans (Kept.of_below hb7))
  have HN7:=hid (HN6.out.kept (Kept.of_below hb7))
  have HT7:=hid hT7
  have HBS:=hid hbs
  have p19':=st_cell hO7 19 s.bv (by rw [HS2.out];rfl)
  have p20:=st_cell hO7 20 s.ev (by rw [HS2.out];rfl)
  have f19:=Lib.frozen_of_heap hO7 19
  have hsz6:w6.heap.size≤w7.heap.size:=hs7
  rw [HEB.out] at p19'
  rw [HEE.out] at p20
  clear hb7 hO7 hT7 hbs p19
  go_wp2_with fail
  have hp8:=put_cell (o:=19) (v:=.slice (some ⟨w6.heap.size,0,none⟩) s.body.length (s.body.length+2)) HO7.out
  obtain⟨w8,hw8⟩:∃ u,u=w7.setCell ⟨w.heap.size,19,none⟩ (.slice (some ⟨w6.heap.size,0,none⟩) s.body.length (s.body.length+2)):=⟨_,rfl⟩
  rw [← hw8] at hp8 ⊢
  rw [setB_arr s2 _ b'] at hp8
  obtain⟨s3,hs3⟩:∃ q,q=s2.setB (.slice (some ⟨w6.heap.size,0,none⟩) s.body.length (s.body.length+2)) b':=⟨_,rfl⟩
  rw [← hs3] at hp8
  have hb8:Below w.heap.size w w8:=hp8.below HB7.out (Nat.le_refl _)
  have HB8:=hid hb8
  have hlt8:w.heap.size+1 < w8.heap.size:=by rw [hp8.size];omega
  have HO8:=hid hp8.at_b
  have HP8:=hid ((hp8.rest (w.heap.size+1) (by omega)).trans HP7.out)
  have HK8:=hid (HK7.out.trans (Kept.of_put (lo:=W2.heap.size) hp8 (by have:=HZ2.out;omega)))
  have HN8:=hid (HN7.out.kept (Kept.of_put hp8 (by omega)))
  have HK78:=hid (Kept.of_put (lo:=w6.heap.size) hp8 (by omega))
  have hke:=HKE.out w8 hb8
  rw [HEE.out] at hke
  have HKE2:=hid hke
  have HS3:=hid hs3
  clear hb8 hp8 hw8 hke hs3 p19' p20 f19
  refine HKE2.out.mono ?_;intro e w9 hq
  obtain⟨v9,e',R9,t91,t92,rfl,hes,hT9⟩:=hq
  have hv9:=hT9.val
  subst hv9
  have hb9:=hT9.below
  have hs9:=hb9.size
  have hO9:=(hb9.block w.heap.size (by omega)).trans HO8.out
  have HO9:=hid hO9
  have HP9:=hid ((hb9.block (w.heap.size+1) (by omega)).trans HP8.out)
  have HB9:=hid (HB8.out.trans (hb9.mono (by omega)))
  have HK9:=hid (HK8.out.trans (Kept.of_below hb9))
  have HN9:=hid (HN8.out.kept (Kept.of_below hb9))
  have HK79:=hid (HK78.out.trans (Kept.of_below hb9))
  have HT9:=hid hT9
  have HES:=hid hes
  have p20:=st_cell hO9 20 s.ev (by rw [HS3.out,HS2.out];rfl)
  have f20:=Lib.frozen_of_heap hO9 20
  rw [HEE.out] at p20
  have hp10:=put_cell (o:=20) (v:=.slice (some ⟨w8.heap.size,0,none⟩) s.els.length (s.els.length+2)) hO9
  rw [setE_arr s3 _ e'] at hp10
  obtain⟨s4,hs4⟩:∃ q,q=s3.setE (.slice (some ⟨w8.heap.size,0,none⟩) s.els.length (s.els.length+2)) e':=⟨_,rfl⟩
  rw [← hs4] at hp10
  have HPU:=hid hp10
  have hld:=loadS_row (arr_size s4) hp10.at_b
  have HP10:=hid ((hp10.rest (w.heap.size+1) (by omega)).trans HP9.out)
  have HS4':=hid hs4
  clear hb9 hO9 hT9 hes hp10 hs4
  obtain⟨w10,hw10⟩:∃ u,u=w9.setCell ⟨w.heap.size,20,none⟩ (.slice (some ⟨w8.heap.size,0,none⟩) s.els.length (s.els.length+2)):=⟨_,rfl⟩
  have hst:∀ lo,w.heap.size < lo→Kept lo w9 w10:=fun lo h=>by rw [hw10];exact Kept.of_set h
  have hz10:w10.heap.size=w9.heap.size:=by rw [hw10];simp [World.setCell]
  have e4:s4 = .mk s.h x' y' (.slice (some ⟨w6.heap.size,0,none⟩) s.body.length (s.body.length+2)) (.slice (some ⟨w8.heap.size,0,none⟩) s.els.length (s.els.length+2)) b' e':=by
    rw [HS4'.out,HS3.out,HS2.out];rfl
  have hall:NewW W2.heap.size w10 fun u=>SIn u w10.heap.size s4:=by
    intro u hu
    have k3:Kept W2.heap.size w3 w10:=HK9.out.trans (hst _ (by have:=HZ2.out;omega))
    have k5:Kept w4.heap.size w9 w10:=hst _ (by omega)
    have k7:Kept w6.heap.size w7 w10:=HK79.out.trans (hst _ (by omega))
    have k9:Kept w8.heap.size w9 w10:=hst _ (by omega)
    have z2:=HZ2.out
    have hx:=(HN3.out.kept k3).step (lo':=W2.heap.size) (by omega) (Nat.le_refl _) (fun _ _ _=>rfl) u hu
    have hy:=(HN9.out.kept k5).step (lo':=W2.heap.size) (by omega) (Nat.le_refl _) (fun _ _ _=>rfl) u hu
    have hb:=((HT7.out.lies scells_len hLbr).kept k7).step (lo':=W2.heap.size) (by omega) (Nat.le_refl _) (fun _ _ _=>rfl) u hu
    have he:=((HT9.out.lies scells_len hLer).kept k9).step (lo':=W2.heap.size) (by omega) (Nat.le_refl _) (fun _ _ _=>rfl) u hu
    have hba:∀ a ∈ b',SIn u w7.heap.size a:=fun a ha=>((HT7.out.all a ha).kept k7).step (lo':=W2.heap.size) (by omega) (Nat.le_refl _) (fun _ _ _=>rfl) u hu
    have hea:∀ a ∈ e',SIn u w9.heap.size a:=fun a ha=>((HT9.out.all a ha).kept k9).step (lo':=W2.heap.size) (by omega) (Nat.le_refl _) (fun _ _ _=>rfl) u hu
    have z79:=HK79.out.1
    have z39:=HK9.out.1
    rw [e4]
    exact .mk _ _ _ _ _ _ _ HOK.out (InW.up (by omega) _ hx) (InW.up (by have:=k5.1;omega) _ hy) (hb.up (by omega)) (he.up (by omega)) (fun a ha=>SIn.up (by omega) _ (hba a ha)) (fun a ha=>SIn.up (by omega) _ (hea a ha))
  have HONE:=hid hall.here.one
  have HALL:=hid hall
  have hbr:s4.bare=s.bare:=by
    rw [e4,sbare_mk,HXS.out,HYS.out,HBS.out,HES.out]
    cases s;rw [sbare_mk];rfl
  have HBR:=hid hbr
  have hb10:Below w.heap.size w w10:=by rw [hw10];exact HB9.out.setCell (show w.heap.size≤w.heap.size from Nat.le_refl _) _
  have HB10:=hid hb10
  have HW10:=hid hw10
  have hPP:=HP10.out
  have HSZ:=hid (show (#[.int .u8 0,.string ⟨#[]⟩,.int .u8 0,.string ⟨#[]⟩,.int .i64 0,.int .u8 0,.int .i64 0,.string ⟨#[]⟩,.int .u8 0,.string ⟨#[]⟩,.int .i64 0,.slice none 0 0,.int .u8 0,.int .i64 0,.string ⟨#[]⟩,.int .u8 0,.string ⟨#[]⟩,.int .i64 0,.slice none 0 0,.slice none 0 0,.slice none 0 0]:Array Value).size=s4.arr.size by rw [arr_size];rfl)
  have HIN:=hid (show (Tryz.prog.info? 64).map (·.size)=some s4.arr.size by rw [arr_size];kernel_rfl)
  clear hst hz10 e4 hall hbr hb10 hw10 hPP
  go_wp2_with (refine wpList_put rfl 64 (Operand.tmp 2) (Operand.tmp 19) rfl (w.heap.size+1) 64 _ s4.arr rfl rfl HP10.out HSZ.out HIN.out HONE.out ?_)
  intro w11 hp11
  rw [← HW10.out] at hp11
  have HP:=hid hp11
  clear hp11
  go_wp2_with fail
  refine bodyPost_ret (v:=.agg s4.arr) (results_cell_row rfl _ _ (w.heap.size+1) 64 _ (0,0) _ rfl HP.out.at_b Tryz.underlying64 rfl (by rw [arr_size];kernel_rfl)) rfl ?_
  have z2:=HZ2.out
  refine⟨s4,rfl,HBR.out,HP.out.below HB10.out (by omega),fun u hu=>?_⟩
  have h1:∀ g,W2.heap.size≤g→g < w10.heap.size→u.heap[g]? = w10.heap[g]?:=fun g h1 h2=>(hu g (by omega) (by rw [HP.out.size];exact h2)).trans (HP.out.rest g (by omega))
  rw [HP.out.size]
  exact HALL.out u h1
theorem twinStmt_parts:∀ s,PTS s∧PTSs s.body∧PTSs s.els:=by
  refine St.ind fun h x y bv ev b e ih1 ih2=>?_
  have hb:PTSs b:=twinStmts_of b fun a ha=>(ih1 a ha).1
  have he:PTSs e:=twinStmts_of e fun a ha=>(ih2 a ha).1
  exact⟨twinStmt_of (.mk h x y bv ev b e) hb he,hb,he⟩
theorem twinStmt_all (s:St):PTS s:=(twinStmt_parts s).1
theorem twinStmts_all (l:List St):PTSs l:=twinStmts_of l fun a _=>twinStmt_all a
end Go.Proofs.YtdhieihcmnpneaaGreatDoor
