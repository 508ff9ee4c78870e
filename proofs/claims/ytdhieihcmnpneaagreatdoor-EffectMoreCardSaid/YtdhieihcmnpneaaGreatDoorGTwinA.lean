/- Copies of expressions. -/
import Derived.Test.YtdhieihcmnpneaaGreatDoorRows
import Derived.Test.YtdhieihcmnpneaaGreatDoorGTw
import Derived.Test.YtdhieihcmnpneaaGreatDoorGSize
import Derived.Laws.MakeOwn
import Derived.Laws.CopyRow
import Derived.Laws.OwnMore
import Derived.Lib.SmallJoins
namespace Go.Proofs.YtdhieihcmnpneaaGreatDoor
open Lib (hid)
set_option maxRecDepth 100000
set_option maxHeartbeats 4000000
open Go.RowKit Go.Joins
attribute [local go_sem ↓] loadX_eq
theorem twiX:(Tryz.prog.info? 62).map (fun i=>(i.zero,i.size,i.bytes))=some (some (.agg #[.int .u8 0,.int .i64 0,.string ⟨#[]⟩,.int .u8 0,.string ⟨#[]⟩,.int .i64 0,.slice none 0 0]),7,88):=by kernel_rfl
def TwXE (x:X) (w:World) (e:Ending) (w':World):Prop:=∃ y:X,e = .returned y.val∧y.bare=x.bare∧Below w.heap.size w w'∧NewW w.heap.size w' fun v=>InW v w'.heap.size y
def PTX (x:X):Prop:=∀ (B:Nat) (w:World),InW w B x→B≤w.heap.size→X.sizes x.args≤262144→Calls Tryz.prog 70 #[x.val] w (TwXE x w)
def mkX (n:Nat) (t:List Value):Prop:=t=markExpr n
def PTXs (l:List X):Prop:=∀ (B:Nat) (v:Value) (w:World),LiesG X.cells 7 w B v l→(∀ a ∈ l,InW w B a)→B≤w.heap.size→X.sizes l≤262144 →
  Calls Tryz.prog 89 #[v] w (TwE X.cells 62 7 InW l.length mkX (fun l'=>X.bares l'=X.bares l) w)
theorem xcells_len (a:X):(X.cells a).length=7:=rfl
theorem X_bares_append:∀ a b:List X,X.bares (a ++ b)=X.bares a ++ X.bares b
  | [],b=>by rw [xbares_nil];rfl
  | x :: r,b=>by rw [List.cons_append,xbares_cons,xbares_cons,X_bares_append r b];rfl
theorem X_bares_one (a:X):X.bares [a] = [a.bare]:=by rw [xbares_cons,xbares_nil]
theorem under_le (l:List X) (a:X) (h:a ∈ l):X.sizes a.args≤X.sizes l:=by
  induction l with
  | nil=>cases h
  | cons b r ih =>
    rw [sizes_cons]
    rcases List.mem_cons.1 h with rfl|h
    · cases a;rw [size_mk];show X.sizes _≤_;simp only [X.args];omega
    · have:=ih h;omega
theorem twinExprs_of (l:List X) (ih:∀ a ∈ l,PTX a):PTXs l:=by
  intro B v w hL hI hBw hsz
  have hsm:l.length≤262144:=by rw [sizes_under] at hsz;omega
  have hroom:=hL.room
  obtain⟨ao,cap,rfl,hlen,hgo⟩:=hL.form
  obtain⟨N,hN⟩:∃ N,N=l.length:=⟨_,rfl⟩
  have hNs:N≤262144:=by rw [hN];exact hsm
  obtain⟨i0,hi,hz0,hz1,hz2⟩:=info_parts twiX
  obtain⟨M,hM⟩:∃ M,M=madeCells (Value.cells (.agg #[.int .u8 0,.int .i64 0,.string ⟨#[]⟩,.int .u8 0,.string ⟨#[]⟩,.int .i64 0,.slice none 0 0])) (((N:Int)+2).toNat * i0.size):=⟨_,rfl⟩
  have hMs:M.size=(N+2) * 7:=by rw [hM,size_madeCells,hz1];congr 1
  have hmk:(Instr.makeSlice 60 (.int .i64 (N:Int)) (.int .i64 ((N:Int)+2))).run Tryz.prog w = .ok (.slice (some ⟨w.heap.size,0,none⟩) N (N+2)) (w.alloc (.cells M 62)):=by
    have h:=run_make (P:=Tryz.prog) w 60 62 i0 (.agg #[.int .u8 0,.int .i64 0,.string ⟨#[]⟩,.int .u8 0,.string ⟨#[]⟩,.int .i64 0,.slice none 0 0]) Tryz.underlying60 hi hz0 .i64 .i64 (N:Int) ((N:Int)+2) (by omega) (by omega) (by rw [hz2];omega) (by omega)
    rw [← hM,show ((N:Int)+2).toNat=N+2 by omega] at h
    simpa using h
  obtain⟨W0,hW0⟩:∃ W0,W0=w.alloc (.cells M 62):=⟨_,rfl⟩
  have hb0:Below w.heap.size w W0:=by rw [hW0];exact below_box w _
  have hlt0:w.heap.size < W0.heap.size:=by rw [hW0];simp
  have hS0:TwS X.cells 62 7 InW w.heap.size N 0 w W0 [] M M.toList:=
    ⟨rfl,hb0,hlt0,by rw [hW0];exact (MapKept.heap_alloc _ _).1,by simp,by rw [Array.length_toList,hMs];rfl,fun a ha=>by cases ha⟩
  rw [← hN] at hlen hgo hL ⊢
  have HS0:=hid hS0
  have HW0:=hid hW0
  have HL:=hid hL
  have HIN:=hid hI
  have HG:=hid hgo
  have HN:=hid hN
  have HSM:=hid hsz
  have HIH:=hid ih
  clear hi hz0 hz1 hz2 hM hMs hb0 hS0 hW0 hL hI hgo hN hsz ih hroom
  rw [HW0.out.symm] at hmk
  go_enter Tryz.func89,Tryz.ntmps89
  go_wp2_with fail
  go_loopw [15] (fun i wr=>∃ k:Nat,k≤N∧i = .int .i64 k∧Hid (∃ l' R rest,X.bares l'=X.bares (l.take k)∧TwS X.cells 62 7 InW w.heap.size N k w wr l' R rest)) (fun i _=>N - (intOf i).toNat)
  case atStart=>exact⟨0,by omega,rfl,hid ⟨[],M,M.toList,by rw [List.take_zero],HS0.out⟩⟩
  case round =>
    obtain⟨k,hkN,rfl,HR⟩:=hrel
    obtain⟨l',R,rest,hsame,hS⟩:=HR.out
    clear HR
    have hbw:=hS.below
    have hsw:=hbw.size
    have hlb:=hS.lt
    by_cases hlt2:k < N
    · have hpx:k < l.length:=by rw [← HN.out];exact hlt2
      obtain⟨g,off,rfl,hg⟩:=HG.out (by omega)
      have hat:=((HL.out.below (hbw.mono hBw)).at rfl k hpx).2
      have hma:=List.getElem_mem hpx
      have hIa:=InW.keeps (hbw.mono hBw) _ (HIN.out _ hma)
      have htk:l.take (k+1)=l.take k ++ [l[k]]:=List.take_succ_eq_append_getElem hpx
      have hld:=loadX_mid l[k] hat
      have hPa:=HIH.out _ hma B wr hIa (by omega) (by have:=under_le l _ hma;have:=HSM.out;omega)
      generalize l[k] = a at *
      obtain⟨xo,xn,xc,ex⟩:=slice_of hIa
      rw [val_of ex] at hld hPa
      have HPA:=hid hPa
      have HS:=hid hS
      have HTK:=hid htk
      have HSAME:=hid hsame
      have hgs:g < wr.heap.size:=by omega
      clear hat hma hIa hPa htk hS hsame hbw ex
      go_wp2_with fail
      refine HPA.out.mono ?_;intro e w1 hq
      obtain⟨y,rfl,hy,hb1,hn1⟩:=hq
      obtain⟨yo,yn,yc,ey⟩:=slice_of hn1.here
      rw [val_of ey]
      have HEY:=hid (show y.cells = [.int .u8 y.hd.k,.int .i64 y.hd.n,.string y.hd.name,.int .u8 y.hd.tk,.string y.hd.tn,.int .i64 y.hd.tz,.slice yo yn yc] by unfold X.cells;rw [ey])
      clear ey
      have HO1:=hid ((hb1.block _ hlb).trans HS.out.row)
      have HRS:=hid (show k * 7+7≤R.size by rw [HS.out.rsize xcells_len (by omega)];omega)
      have HB1:=hid hb1
      have HN1:=hid hn1
      have HY:=hid hy
      clear hb1 hn1 hy
      obtain⟨NEW,hNEW⟩:∃ A:Array Value,A=R.extract 0 (k * 7) ++ (X.cells y).toArray ++ R.extract (k * 7+(X.cells y).toArray.size) R.size:=⟨_,rfl⟩
      have HNEW:=hid hNEW
      clear hNEW
      go_wp2_with (refine wpList_put_at rfl 62 (Operand.tmp 25) (Operand.tmp 24) rfl w.heap.size (k * 7) 62 R #[.int .u8 y.hd.k,.int .i64 y.hd.n,.string y.hd.name,.int .u8 y.hd.tk,.string y.hd.tn,.int .i64 y.hd.tz,.slice yo yn yc] NEW rfl rfl HO1.out HRS.out (by kernel_rfl) (by simp [Value.oneCell']) (by rw [HNEW.out,HEY.out]) ?_)
      intro w2 hp
      obtain⟨rest2,hst⟩:=HS.out.step xcells_len (fun v B B2 a h=>InW.up h a) (by omega) HB1.out HN1.out HNEW.out hp
      have HST:=hid hst
      clear hst hp
      go_wp2_with fail
      go_roundw
      case rel=>exact⟨k+1,by omega,by go_num,hid ⟨_,_,rest2,by rw [X_bares_append,HSAME.out,HTK.out,X_bares_append,X_bares_one,X_bares_one,HY.out],HST.out⟩⟩
      case measure=>simp [intOf];omega
    · obtain rfl:N=k:=by omega
      have HM:=hid hS.marks
      have hsame2:X.bares l'=X.bares l:=by rw [hsame,List.take_of_length_le (by rw [← HN.out];exact Nat.le_refl _)]
      have HSAME:=hid hsame2
      clear hS hsame hsame2 hbw
      have HM1:=HM
      clear HM
      obtain⟨R1,hR1⟩:∃ A,A=R:=⟨_,rfl⟩
      rw [← hR1] at HM1
      clear hR1
      have HK1:=hid (fun w=>markExpr_any N (by omega) w)
      have HK2:=hid (fun w=>(show ((N+1:Nat):Int)=(N:Int)+1 by push_cast;rfl) ▸ markExpr_any (N+1) (by omega) w)
      go_wp2_with fail
      refine wp_loop_rounds 3 ?_
      rw [rounds_succ]
      go_wp2_with fail
      refine (HK1.out wr).mono ?_;rintro e w1 ⟨rfl,hb1⟩
      have HO1:=hid ((hb1.block _ HM1.out.lt).trans HM1.out.row)
      have HR1:=hid (show N * 7+(markExpr N).toArray.size≤R1.size by rw [HM1.out.rsize xcells_len (by omega),List.size_toArray,markExpr_len];omega)
      have HB1:=hid hb1
      obtain⟨NEW1,hNEW1⟩:∃ A:Array Value,A=R1.extract 0 ((N+0) * 7) ++ (markExpr N).toArray ++ R1.extract ((N+0) * 7+(markExpr N).toArray.size) R1.size:=⟨_,rfl⟩
      have HNEW1:=hid hNEW1
      clear hNEW1 hb1
      go_wp2_with (refine wpList_put_at rfl 62 (Operand.tmp 44) (Operand.tmp 43) rfl w.heap.size (N * 7) 62 R1 (markExpr N).toArray NEW1 rfl rfl HO1.out HR1.out (by kernel_rfl) (markExpr_one N) HNEW1.out ?_)
      intro w2 hp2
      have HM2:=hid (HM1.out.step xcells_len (fun v B B2 a h=>InW.up h a) (by omega) (markExpr_len N) HB1.out HNEW1.out hp2)
      clear hp2
      go_wp2_with fail
      obtain⟨R2,hR2⟩:∃ A,A=NEW1:=⟨_,rfl⟩
      rw [← hR2] at HM2
      clear hR2
      rw [rounds_succ]
      go_wp2_with fail
      refine (HK2.out w2).mono ?_;rintro e w3 ⟨rfl,hb3⟩
      have HO2:=hid ((hb3.block _ HM2.out.lt).trans HM2.out.row)
      have HR2:=hid (show (N+1) * 7+(markExpr (N+1)).toArray.size≤R2.size by rw [HM2.out.rsize xcells_len (by omega),List.size_toArray,markExpr_len];omega)
      have HB2:=hid hb3
      obtain⟨NEW2,hNEW2⟩:∃ A:Array Value,A=R2.extract 0 ((N+1) * 7) ++ (markExpr (N+1)).toArray ++ R2.extract ((N+1) * 7+(markExpr (N+1)).toArray.size) R2.size:=⟨_,rfl⟩
      have HNEW2:=hid hNEW2
      clear hNEW2 hb3
      go_wp2_with (refine wpList_put_at rfl 62 (Operand.tmp 44) (Operand.tmp 43) rfl w.heap.size ((N+1) * 7) 62 R2 (markExpr (N+1)).toArray NEW2 rfl rfl HO2.out HR2.out (by kernel_rfl) (markExpr_one (N+1)) HNEW2.out ?_)
      intro w4 hp4
      have HM3:=hid (HM2.out.step xcells_len (fun v B B2 a h=>InW.up h a) (by omega) (markExpr_len (N+1)) HB2.out HNEW2.out hp4)
      clear hp4
      go_wp2_with fail
      rw [rounds_succ]
      go_wp2_with fail
      go_ret
      exact⟨_,l',NEW2,markExpr N,markExpr (N+1),rfl,HSAME.out,HM3.out.done (markExpr_len N) (markExpr_len (N+1)) rfl rfl⟩
theorem twinExpr_of (x:X) (hk:PTXs x.args):PTX x:=by
  intro B w hI hBw hsz
  obtain⟨⟨k,n,nm,tk,tn,tz⟩,s,xs⟩:=x
  have hLi:LiesG X.cells 7 w B s xs:=by cases hI;assumption
  have hIn:=(in_kids hI).2
  have hok:=(in_kids hI).1
  obtain⟨ao,cap,rfl,hlen,hgo⟩:=lies_form hI
  show Calls Tryz.prog 70 #[.agg #[.int .u8 k,.int .i64 n,.string nm,.int .u8 tk,.string tn,.int .i64 tz,.slice ao xs.length cap]] w (TwXE (.mk ⟨k,n,nm,tk,tn,tz⟩ (.slice ao xs.length cap) xs) w)
  have hNs:xs.length≤262144:=by
    have h:X.sizes xs≤262144:=hsz
    rw [sizes_under] at h;omega
  obtain⟨N,hN⟩:∃ N,N=xs.length:=⟨_,rfl⟩
  obtain⟨W2,hW2⟩:∃ W2,W2=(w.alloc (.cells #[.int .u8 k,.int .i64 n,.string nm,.int .u8 tk,.string tn,.int .i64 tz,.slice ao xs.length cap] 62)).alloc (.cells #[.int .u8 0,.int .i64 0,.string ⟨#[]⟩,.int .u8 0,.string ⟨#[]⟩,.int .i64 0,.slice none 0 0] 62):=⟨_,rfl⟩
  have hb1:=below_box w (.cells #[.int .u8 k,.int .i64 n,.string nm,.int .u8 tk,.string tn,.int .i64 tz,.slice ao xs.length cap] 62)
  have hb2:Below w.heap.size w W2:=by rw [hW2];exact hb1.alloc (by simp) _
  have hz2:W2.heap.size=w.heap.size+2:=by rw [hW2];simp
  have hO2:W2.heap[w.heap.size]? = some (.cells #[.int .u8 k,.int .i64 n,.string nm,.int .u8 tk,.string tn,.int .i64 tz,.slice ao xs.length cap] 62 (0,0)):=by
    rw [hW2,Below.heap_alloc _ _ _ (by simp)];exact (MapKept.heap_alloc _ _).1
  have hP2:W2.heap[w.heap.size+1]? = some (.cells #[.int .u8 0,.int .i64 0,.string ⟨#[]⟩,.int .u8 0,.string ⟨#[]⟩,.int .i64 0,.slice none 0 0] 62 (0,0)):=by
    rw [hW2];have:=(MapKept.heap_alloc (w.alloc (.cells #[.int .u8 k,.int .i64 n,.string nm,.int .u8 tk,.string tn,.int .i64 tz,.slice ao xs.length cap] 62)) (.cells #[.int .u8 0,.int .i64 0,.string ⟨#[]⟩,.int .u8 0,.string ⟨#[]⟩,.int .i64 0,.slice none 0 0] 62)).1;simpa using this
  have hK:=hk B (.slice ao xs.length cap) W2 (hLi.below (hb2.mono hBw)) (fun a ha=>InW.keeps (hb2.mono hBw) _ (hIn a ha)) (by omega) hsz
  have q6:W2.cell? ⟨w.heap.size,6,none⟩ = some (.slice ao xs.length cap):=by rw [Lib.cell_of_heap hO2];rfl
  simp only [X.args] at hK
  rw [← hN] at hK q6 hlen hgo hNs ⊢
  rw [← hN] at hW2
  rw [hW2] at q6
  have HZ2:=hid hz2
  have HK:=hid hK
  have HW2:=hid hW2
  have HB2:=hid hb2
  have HO2:=hid hO2
  have HP2:=hid hP2
  have HN:=hid hN
  have HOK:=hid hok
  clear hK hW2 hb1 hb2 hO2 hP2 hN hok hI hLi hIn hgo hk hsz hz2
  go_enter Tryz.func70,Tryz.ntmps70
  go_wp2_with fail
  rw [← HW2.out]
  refine HK.out.mono ?_;intro e w3 hq
  obtain⟨v,l',R,t1,t2,rfl,hsame,hT⟩:=hq
  have hv:=hT.val
  subst hv
  have hb3:=hT.below
  have hs3:=hb3.size
  have hO3:=(hb3.block w.heap.size (by have:=HZ2.out;omega)).trans HO2.out
  have hP3:=(hb3.block (w.heap.size+1) (by have:=HZ2.out;omega)).trans HP2.out
  have p6:w3.cell? ⟨w.heap.size,6,none⟩ = some (.slice ao xs.length cap):=by rw [Lib.cell_of_heap hO3];rfl
  have f6:=Lib.frozen_of_heap hO3 6
  have hsz3:w.heap.size+2≤w3.heap.size:=by have:=HZ2.out;omega
  have hO4:(w3.setCell ⟨w.heap.size,6,none⟩ (.slice (some ⟨W2.heap.size,0,none⟩) N (N+2))).heap[w.heap.size]? = some (.cells #[.int .u8 k,.int .i64 n,.string nm,.int .u8 tk,.string tn,.int .i64 tz,.slice (some ⟨W2.heap.size,0,none⟩) N (N+2)] 62 (0,0)):=by
    simp [World.setCell,Array.getElem?_modify,hO3]
  have hP4:(w3.setCell ⟨w.heap.size,6,none⟩ (.slice (some ⟨W2.heap.size,0,none⟩) N (N+2))).heap[w.heap.size+1]? = some (.cells #[.int .u8 0,.int .i64 0,.string ⟨#[]⟩,.int .u8 0,.string ⟨#[]⟩,.int .i64 0,.slice none 0 0] 62 (0,0)):=
    (Below.heap_setCell _ _ _ _ (by show w.heap.size+1 ≠ w.heap.size;omega)).trans hP3
  have hld:(loadX ⟨w.heap.size,0,none⟩).run Tryz.prog (w3.setCell ⟨w.heap.size,6,none⟩ (.slice (some ⟨W2.heap.size,0,none⟩) N (N+2))) = .ok (.agg #[.int .u8 k,.int .i64 n,.string nm,.int .u8 tk,.string tn,.int .i64 tz,.slice (some ⟨W2.heap.size,0,none⟩) N (N+2)]) (w3.setCell ⟨w.heap.size,6,none⟩ (.slice (some ⟨W2.heap.size,0,none⟩) N (N+2))):=
    loadX_mid (.mk ⟨k,n,nm,tk,tn,tz⟩ (.slice (some ⟨W2.heap.size,0,none⟩) N (N+2)) l') fun j u hu=>by
      rw [Lib.cell_of_heap hO4,Nat.zero_add]
      simpa [X.cells,X.hd,X.s] using hu
  have HT:=hid hT
  have HSAME:=hid hsame
  have HB3:=hid hb3
  have HP4:=hid hP4
  clear hT hsame hb3 hO3 hP3 hO4 hP4 q6
  go_wp2_with (refine wpList_put rfl 62 (Operand.tmp 2) (Operand.tmp 7) rfl (w.heap.size+1) 62 _ #[.int .u8 k,.int .i64 n,.string nm,.int .u8 tk,.string tn,.int .i64 tz,.slice (some ⟨W2.heap.size,0,none⟩) N (N+2)] rfl rfl HP4.out rfl (by kernel_rfl) (by simp [Value.oneCell']) ?_)
  intro w5 hp5
  have HP:=hid hp5
  clear hp5
  go_wp2_with fail
  refine bodyPost_ret (v:=.agg #[.int .u8 k,.int .i64 n,.string nm,.int .u8 tk,.string tn,.int .i64 tz,.slice (some ⟨W2.heap.size,0,none⟩) N (N+2)]) (results_cell_row rfl _ _ (w.heap.size+1) 62 _ (0,0) _ rfl HP.out.at_b Tryz.underlying62 rfl (by kernel_rfl)) rfl ?_
  have hz2:=HZ2.out
  have hT:=HT.out
  have hz5:w5.heap.size=w3.heap.size:=by rw [HP.out.size];simp [World.setCell]
  have hsame5:∀ g,W2.heap.size≤g→w5.heap[g]? = w3.heap[g]?:=fun g hg=>(HP.out.rest g (by omega)).trans (Below.heap_setCell _ _ _ _ (by show g ≠ w.heap.size;omega))
  have hlies:=hT.lies xcells_len (by omega)
  refine⟨.mk ⟨k,n,nm,tk,tn,tz⟩ (.slice (some ⟨W2.heap.size,0,none⟩) N (N+2)) l',rfl, ?_, ?_, ?_⟩
  · rw [xbare_mk,xbare_mk,HSAME.out]
  · exact HP.out.below ((HB2.out.trans (HB3.out.mono (by omega))).setCell (show w.heap.size≤w.heap.size from Nat.le_refl _) _) (by omega)
  · intro u hu
    have hu2:∀ g,W2.heap.size≤g→g < w3.heap.size→u.heap[g]? = w3.heap[g]?:=fun g h1 h2=>(hu g (by omega) (by rw [hz5];exact h2)).trans (hsame5 g h1)
    have h1:=hlies u hu2
    have h2:∀ a ∈ l',InW u w3.heap.size a:=fun a ha=>hT.all a ha u hu2
    rw [hz5]
    exact .mk _ _ _ HOK.out h1 h2
theorem twinExpr_all:∀ x,PTX x:=X.ind fun h s l ih=>twinExpr_of (.mk h s l) (twinExprs_of l ih)
end Go.Proofs.YtdhieihcmnpneaaGreatDoor
/- Copies of fields. -/
namespace Go.Proofs.YtdhieihcmnpneaaGreatDoor
open Lib (hid)
set_option maxRecDepth 100000
set_option maxHeartbeats 4000000
open Go.RowKit Go.Joins
theorem twiF:(Tryz.prog.info? 57).map (fun i=>(i.zero,i.size,i.bytes))=some (some (.agg #[.string ⟨#[]⟩,.int .u8 0,.string ⟨#[]⟩,.int .i64 0]),4,48):=by kernel_rfl
def InF (_:World) (_:Nat) (f:Fd):Prop:=FdOk f
def mkF (n:Nat) (t:List Value):Prop:=t=markField n
theorem fcells_len (a:Fd):(Fd.cells a).length=4:=rfl
theorem flat_div {α:Type} {cells:α→List Value} {kc:Nat} (hk:0 < kc) (hc:∀ a,(cells a).length=kc) (l:List α) (j:Nat) (u:Value) (h:(l.flatMap cells)[j]? = some u):∃ x,l[j / kc]? = some x∧(cells x)[j % kc]? = some u:=by
  have hj:j < l.length * kc:=by rw [← flat_len hc];exact (List.getElem?_eq_some_iff.1 h).1
  have hi:j / kc < l.length:=(Nat.div_lt_iff_lt_mul hk).2 hj
  refine⟨l[j / kc],List.getElem?_eq_getElem hi, ?_⟩
  have hm:j % kc < (cells l[j / kc]).length:=by rw [hc];exact Nat.mod_lt _ hk
  have h2:=flat_at hc l [] (j / kc) _ (List.getElem?_eq_getElem hi) (j % kc) _ (List.getElem?_eq_getElem hm)
  rw [List.append_nil,Nat.mul_comm,Nat.div_add_mod] at h2
  rw [h] at h2
  rw [List.getElem?_eq_getElem hm,h2]
theorem fd_one (l:List Fd):∀ u ∈ l.flatMap Fd.cells,u.oneCell'=true:=by
  intro u hu
  obtain⟨f,_,hf⟩:=List.mem_flatMap.1 hu
  simp only [Fd.cells,Ty.cells,List.mem_cons,List.not_mem_nil,or_false] at hf
  rcases hf with rfl|rfl|rfl|rfl <;> rfl
theorem copy_lies {P:Program} (T E ty:TypeId) (i:TypeInfo) (hT:P.underlying T=some (.slice E)) (hi:P.info? E=some i) (hz:i.size=4) {W:World} {B:Nat} {v:Value} {l:List Fd} (h:LiesG Fd.cells 4 W B v l)
    (g m:Nat) (M:Array Value) (hM:M.size=m * 4) (hnm:l.length≤m) (hg:W.heap[g]? = some (.cells M E (0,0))) :
    (Builtin.copy_ #[T,T] ty #[.slice (some ⟨g,0,none⟩) l.length m,v]).run P W = .ok (goInt l.length) (W.setRow g (l.flatMap Fd.cells ++ M.toList.drop (l.length * 4)).toArray):=by
  have hl:(l.flatMap Fd.cells).length=l.length * 4:=flat_len fcells_len l
  have hle:l.length * 4≤m * 4:=Nat.mul_le_mul_right 4 hnm
  have hst:=run_storeCells_at P g 0 E (l.flatMap Fd.cells) 0 M W hg (by rw [hM,hl];omega) (fd_one l)
  have hmin:Nat.min l.length l.length=l.length:=Nat.min_self _
  simp only [Nat.add_zero,List.take_zero,List.nil_append,Nat.zero_add,hl] at hst
  obtain⟨ao,cap,rfl,hlen,hc⟩:=h
  cases ao with
  | none =>
    rcases hc with rfl|⟨g2,off,e,_⟩
    · simp at hst
      simp [Builtin.copy_,run_underlying hT,Builtin.lenOf,Builtin.firstCells,sizeOf,typeInfo,hi,storeCells]
      rw [setRow_self W g M E (0,0) hg]
    · cases e
  | some a =>
    have hcell:∀ j u,(l.flatMap Fd.cells)[j]? = some u→W.cell? (a.add j)=some u:=by
      intro j u hu
      rcases hc with rfl|⟨g2,off,e,_,hcc⟩
      · cases hu
      · cases e
        obtain⟨x,hx,hxu⟩:=flat_div (by omega) fcells_len l j u hu
        have:=hcc (j / 4) x hx (j % 4) u hxu
        rw [Nat.mul_comm,Nat.div_add_mod] at this
        rw [Addr.add_mid]
        exact this
    have hld:=run_loadCells_list (P:=P) W a (l.flatMap Fd.cells) hcell
    rw [hl] at hld
    simp [Builtin.copy_,run_underlying hT,Builtin.lenOf,Builtin.firstCells,sizeOf,typeInfo,hi,hz,hld,hst,hmin]
theorem twinFields_any (l:List Fd) (B:Nat) (v:Value) (w:World) (hL:LiesG Fd.cells 4 w B v l) (hI:∀ f ∈ l,FdOk f) (hBw:B≤w.heap.size) (hsm:l.length≤262144) (hT:Tab w) :
    Calls Tryz.prog 19 #[v] w (TwE Fd.cells 57 4 InF l.length mkF (fun l'=>l'=l) w):=by
  obtain⟨ao,cap,rfl,hlen,hgo⟩:=hL.form
  obtain⟨N,hN⟩:∃ N,N=l.length:=⟨_,rfl⟩
  have hNs:N≤262144:=by rw [hN];exact hsm
  obtain⟨i0,hi,hz0,hz1,hz2⟩:=info_parts twiF
  obtain⟨M,hM⟩:∃ M,M=madeCells (Value.cells (.agg #[.string ⟨#[]⟩,.int .u8 0,.string ⟨#[]⟩,.int .i64 0])) (((N:Int)+2).toNat * i0.size):=⟨_,rfl⟩
  have hMs:M.size=(N+2) * 4:=by rw [hM,size_madeCells,hz1];congr 1
  have hmk:(Instr.makeSlice 23 (.int .i64 (N:Int)) (.int .i64 ((N:Int)+2))).run Tryz.prog w = .ok (.slice (some ⟨w.heap.size,0,none⟩) N (N+2)) (w.alloc (.cells M 57)):=by
    have h:=run_make (P:=Tryz.prog) w 23 57 i0 (.agg #[.string ⟨#[]⟩,.int .u8 0,.string ⟨#[]⟩,.int .i64 0]) Tryz.underlying23 hi hz0 .i64 .i64 (N:Int) ((N:Int)+2) (by omega) (by omega) (by rw [hz2];omega) (by omega)
    rw [← hM,show ((N:Int)+2).toNat=N+2 by omega] at h
    simpa using h
  obtain⟨W0,hW0⟩:∃ W0,W0=w.alloc (.cells M 57):=⟨_,rfl⟩
  have hb0:Below w.heap.size w W0:=by rw [hW0];exact below_box w _
  have hg0:W0.heap[w.heap.size]? = some (.cells M 57 (0,0)):=by rw [hW0];exact (MapKept.heap_alloc _ _).1
  have hlt0:w.heap.size < W0.heap.size:=by rw [hW0];simp
  have hcp:=copy_lies (P:=Tryz.prog) 23 57 3 i0 Tryz.underlying23 hi hz1 (hL.below (hb0.mono hBw)) w.heap.size (N+2) M hMs (by omega) hg0
  rw [← hN] at hcp
  obtain⟨R,hR⟩:∃ A,A=(l.flatMap Fd.cells ++ M.toList.drop (N * 4)).toArray:=⟨_,rfl⟩
  rw [← hR] at hcp
  obtain⟨wr,hwr⟩:∃ u,u=W0.setRow w.heap.size R:=⟨_,rfl⟩
  have hrow:wr.heap[w.heap.size]? = some (.cells R 57 (0,0)):=by rw [hwr];exact setRow_heap _ _ M R 57 (0,0) hg0
  have hsr:wr.heap.size=W0.heap.size:=by rw [hwr];simp [World.setRow]
  have hbw:Below w.heap.size w wr:=hb0.trans ⟨by rw [hwr];rfl,by rw [hwr];rfl,by rw [hwr];rfl,by rw [hsr];exact Nat.le_refl _,fun k hk=>by rw [hwr];exact setRow_other _ _ _ _ (by omega)⟩
  have hS:TwS Fd.cells 57 4 InF w.heap.size N N w wr l R (M.toList.drop (N * 4)):=
    ⟨hN.symm,hbw,by rw [hsr];exact hlt0,hrow,by rw [hR],by rw [List.length_drop,Array.length_toList,hMs,show N+2 - N=2 by omega];omega,fun a ha=>fun v _=>hI a ha⟩
  rw [← hwr] at hcp
  rw [← hN] at hlen ⊢
  have HSAME:=hid (show l=l from rfl)
  have HM:=hid hS.marks
  have HT0:=hid hT
  have HTW:=hid (hT.keeps hbw)
  rw [hW0] at hcp
  clear hi hz0 hz1 hz2 hM hMs hb0 hg0 hlt0 hL hI hgo hN hR hwr hrow hsr hbw hS hT hW0
  go_enter Tryz.func19,Tryz.ntmps19
  have HM1:=HM
  clear HM
  obtain⟨R1,hR1⟩:∃ A,A=R:=⟨_,rfl⟩
  rw [← hR1] at HM1
  clear hR1
  have HK1:=hid (fun w (hT:Tab w)=>markField_any N (by omega) w hT)
  have HK2:=hid (fun w (hT:Tab w)=>(show ((N+1:Nat):Int)=(N:Int)+1 by push_cast;rfl) ▸ markField_any (N+1) (by omega) w hT)
  go_wp2_with fail
  refine wp_loop_rounds 3 ?_
  rw [rounds_succ]
  go_wp2_with fail
  refine (HK1.out wr HTW.out).mono ?_;rintro e w1 ⟨rfl,hb1⟩
  have HO1:=hid ((hb1.block _ HM1.out.lt).trans HM1.out.row)
  have HR1:=hid (show N * 4+(markField N).toArray.size≤R1.size by rw [HM1.out.rsize fcells_len (by omega),List.size_toArray,markField_len];omega)
  have HB1:=hid hb1
  obtain⟨NEW1,hNEW1⟩:∃ A:Array Value,A=R1.extract 0 ((N+0) * 4) ++ (markField N).toArray ++ R1.extract ((N+0) * 4+(markField N).toArray.size) R1.size:=⟨_,rfl⟩
  have HNEW1:=hid hNEW1
  clear hNEW1 hb1
  go_wp2_with (refine wpList_put_at rfl 57 (Operand.tmp 32) (Operand.tmp 31) rfl w.heap.size (N * 4) 57 R1 (markField N).toArray NEW1 rfl rfl HO1.out HR1.out (by kernel_rfl) (markField_one N) HNEW1.out ?_)
  intro w2 hp2
  have HM2:=hid (HM1.out.step fcells_len (fun v B B2 a h q=>q) (by omega) (markField_len N) HB1.out HNEW1.out hp2)
  clear hp2
  go_wp2_with fail
  obtain⟨R2,hR2⟩:∃ A,A=NEW1:=⟨_,rfl⟩
  rw [← hR2] at HM2
  clear hR2
  rw [rounds_succ]
  go_wp2_with fail
  refine (HK2.out w2 (HT0.out.keeps HM2.out.below)).mono ?_;rintro e w3 ⟨rfl,hb3⟩
  have HO2:=hid ((hb3.block _ HM2.out.lt).trans HM2.out.row)
  have HR2:=hid (show (N+1) * 4+(markField (N+1)).toArray.size≤R2.size by rw [HM2.out.rsize fcells_len (by omega),List.size_toArray,markField_len];omega)
  have HB2:=hid hb3
  obtain⟨NEW2,hNEW2⟩:∃ A:Array Value,A=R2.extract 0 ((N+1) * 4) ++ (markField (N+1)).toArray ++ R2.extract ((N+1) * 4+(markField (N+1)).toArray.size) R2.size:=⟨_,rfl⟩
  have HNEW2:=hid hNEW2
  clear hNEW2 hb3
  go_wp2_with (refine wpList_put_at rfl 57 (Operand.tmp 32) (Operand.tmp 31) rfl w.heap.size ((N+1) * 4) 57 R2 (markField (N+1)).toArray NEW2 rfl rfl HO2.out HR2.out (by kernel_rfl) (markField_one (N+1)) HNEW2.out ?_)
  intro w4 hp4
  have HM3:=hid (HM2.out.step fcells_len (fun v B B2 a h q=>q) (by omega) (markField_len (N+1)) HB2.out HNEW2.out hp4)
  clear hp4
  go_wp2_with fail
  rw [rounds_succ]
  go_wp2_with fail
  go_ret
  exact⟨_,l,NEW2,markField N,markField (N+1),rfl,rfl,HM3.out.done (markField_len N) (markField_len (N+1)) rfl rfl⟩
end Go.Proofs.YtdhieihcmnpneaaGreatDoor
