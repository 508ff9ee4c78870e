import Derived.Test.YtlboinokdhmacaaGreatDoorIrFit7
import Derived.Lib.OthersKept
import Derived.Laws.StructEq
import Derived.WalkSmall
import Derived.Laws.RangeString
namespace Go.Proofs.YtlboinokdhmacaaGreatDoor
set_option maxHeartbeats 64000000
set_option maxRecDepth 1000000
open Lib(hid)
open Go.RowKit
attribute [local go_sem ↓] zL zJ
def offL (l:Int):Nat:=if l=65 then 2 else if l=66 then 3 else if l=98 then 3 else 4
theorem Wq (b:Nat) (l:Int) (w:World) (hl:l=65∨l=66∨l=67∨l=98∨l=99∨l=45) (hb:b<w.heap.size) :
 Calls Tryz.prog 260 #[.pointer (some ⟨b,0,none⟩),.int .i32 l] w fun e w'=>e = .returned (.pointer (some ⟨b,offL l,none⟩))∧w=w':=by
 rcases hl with rfl|rfl|rfl|rfl|rfl|rfl
 all_goals
  go_enter Tryz.func260,Tryz.ntmps260;go_wp2_with fail;go_ret;exact⟨rfl,rfl⟩
theorem z0c (b:Bk) (w:World) :
 Calls Tryz.prog 254 #[.agg #[b.iv,.int .u8 b.last,.int .i64 b.reg,.int .i64 b.yes,.int .i64 b.no]] w fun e w'=>e = .returned (.agg #[.int .u8 (xA b).k,.int .u8 (xA b).o,.int .i64 (xA b).a,.int .i64 (xA b).b,.int .i64 (xA b).c,.int .i64 (xA b).n])∧Below w.heap.size w w':=by
 have e0:=zH 159 #[(2,.int .i64 b.reg),(3,.int .i64 b.yes),(4,.int .i64 b.no)] #[.int .u8 0,.int .u8 0,.int .i64 b.reg,.int .i64 b.yes,.int .i64 b.no,.int .i64 0] (by kernel_rfl);have hb2:∀ o1 o2,Below w.heap.size w ((w.alloc o1).alloc o2):=fun o1 o2=>(ze w o1).alloc (by simp) o2
 go_enter Tryz.func254,Tryz.ntmps254;go_wp2_with fail;have hO:∀ (o1:Obj) (c:Array Value),((w.alloc o1).alloc (.cells c 159)).heap[w.heap.size+1]? = some (.cells c 159 (0,0)):=fun o1 c=>by have:=(MapKept.heap_alloc (w.alloc o1) (.cells c 159)).1;simpa using this
 refine bodyPost_ret (v:=.agg #[.int .u8 (xA b).k,.int .u8 (xA b).o,.int .i64 (xA b).a,.int .i64 (xA b).b,.int .i64 (xA b).c,.int .i64 (xA b).n]) (results_cell_row rfl _ _ (w.heap.size+1) 159 _ (0,0) _ rfl (hO _ _) Tryz.underlying159 rfl (by kernel_rfl)) rfl ?_;exact⟨rfl,hb2 _ _⟩
theorem qQ {w:World} {b:Nat} {T:TypeId} {fr:Nat × Nat} {c:Array Value} (h:w.heap[b]? = some (.cells c T fr)) (k:Nat) (v:Value):(w.setCell ⟨b,k,none⟩ v).heap[b]? = some (.cells (c.setIfInBounds k v) T fr):=by
 simp[World.setCell,Array.getElem?_modify,h]
def Let (l:UInt8):Prop:=l=111∨l=110∨l=98∨l=99∨l=45∨l=65∨l=66∨l=67
structure ShAt (w:World) (j:In) (has:ByteArray) (pos:Nat) (wr:World):Prop where
 box:wr.heap[w.heap.size]? = some (.cells #[.int .u8 j.k,.int .u8 j.o,.int .i64 j.a,.int .i64 j.b,.int .i64 j.c,.int .i64 j.n] 159 (0,0))
 iter:wr.heap[w.heap.size+1]? = some (.stringIter has pos)
 below:Below w.heap.size w wr
theorem ShAt.step {w wr:World} {j:In} {has:ByteArray} {pos:Nat} (h:ShAt w j has pos wr):ShAt w j has (pos+1) (wr.iterAt (w.heap.size+1) has (pos+1)):=
 ⟨by rw[Lib.iterAt_other _ _ _ _ _ (by omega)];exact h.box,Lib.iterAt_heap _ _ _ _ _ h.iter,Lib.below_iterAt h.below (by omega) _ _⟩
theorem ShAt.put {w wr:World} {j:In} {has:ByteArray} {pos:Nat} (h:ShAt w j has pos wr) (k:Nat) (v:Value) (j':In) (hj:(#[.int .u8 j.k,.int .u8 j.o,.int .i64 j.a,.int .i64 j.b,.int .i64 j.c,.int .i64 j.n]:Array Value).setIfInBounds k v=#[.int .u8 j'.k,.int .u8 j'.o,.int .i64 j'.a,.int .i64 j'.b,.int .i64 j'.c,.int .i64 j'.n]) :
 ShAt w j' has pos (wr.setCell ⟨w.heap.size,k,none⟩ v):=
 ⟨by rw[qQ h.box,hj],by rw[Below.heap_setCell _ _ _ _ (by dsimp only;omega)];exact h.iter,h.below.setCell (Nat.le_refl _) _⟩
theorem ShAt.drewN {w wr:World} {j:In} {has:ByteArray} {pos:Nat} (h:ShAt w j has pos wr) (n:Nat):ShAt w j has pos (wr.drewN n):=⟨h.box,h.iter,below_drewN h.below n⟩
theorem kS (R:List Bool) (l:UInt8) (r:List UInt8) (i:In):xN R (l :: r) i=match zF R l i with
 | none=>none
 | some j=>xN R r j:=rfl
theorem vQ {R:List Bool} {l:UInt8} {r:List UInt8} {i j:In} (h:zF R l i=some j):xN R (l :: r) i=xN R r j:=by rw[kS,h]
theorem jV {R:List Bool} {l:UInt8} {r:List UInt8} {i:In} (h:zF R l i=none):xN R (l :: r) i=none:=by rw[kS,h]
theorem jX {R:List Bool} {r:Int} (h:zg R r=false):r<0∨(R.length:Int)≤r:=by
 unfold zg at h;rw[Bool.and_eq_false_iff]at h;simp only[decide_eq_false_iff_not]at h;omega
theorem Ze (B c m:Nat) (g:Gr) (W:Int) (M:List Bool) (i:In) (has:ByteArray) (w:World) (h:zP w B c m g W M) (hlet:∀ l ∈ has.data.toList,Let l) (hsz:has.size≤100) :
 Calls Tryz.prog 251 #[.pointer (some ⟨c,0,none⟩),.agg #[.int .u8 i.k,.int .u8 i.o,.int .i64 i.a,.int .i64 i.b,.int .i64 i.c,.int .i64 i.n],.string has] w fun e w'=>e = .returned (.bool (shaped g.refs i has))∧Below w.heap.size w w':=by
 obtain⟨ao,cap,er,-,-⟩:=h.here.rlies.form;have hroom:=h.here.rlies.room;have hlc:=h.lt.1;have hq:=h.box;rw[er]at hq;obtain⟨Y,hY⟩:∃ Y,Y=xN g.refs has.data.toList { i with k:=0 }:=⟨_,rfl⟩
 have hR:shaped g.refs i has=decide (Y=some noI):=by rw[hY];rfl
 have HR:=hid hR;have HB0:=hid (fun (u:World) (hu:Below w.heap.size w u)=>zx ((hu.block c hlc).trans hq));obtain⟨R,hRR⟩:∃ R,R=g.refs:=⟨_,rfl⟩
 rw[←hRR]at hY HB0 hroom;obtain⟨NR,hNR⟩:∃ N,N=R.length:=⟨_,rfl⟩
 rw[←hNR]at HB0 hroom;have HRN:=hid hNR;have HL:=hid hlet;have HY:=hid hY;have HSL:=hid (fun b l w=>Wq b l w);have hdl:has.data.toList.length=has.size:=Array.length_toList;clear h hq hY hR hlet hNR hRR;go_enter Tryz.func251,Tryz.ntmps251;go_wp2_with fail
 go_loopw [] (fun wr=>∃ (pos:Nat) (j:In),pos≤has.size∧ShAt w j has pos wr∧j.k=0∧Hid (xN R (has.data.toList.drop pos) j=Y)) (fun wr=>has.size - wr.iterPos (w.heap.size+1))
 case atStart =>
  refine⟨0,{ i with k:=0 },Nat.zero_le _,⟨?_, ?_, ?_⟩,rfl,hid HY.out.symm⟩
  · exact (Below.heap_alloc _ _ _ (by simp)).trans (MapKept.heap_alloc _ _).1
  · have h:=World.iter_heap (w.alloc (.cells #[.int .u8 0,.int .u8 i.o,.int .i64 i.a,.int .i64 i.b,.int .i64 i.c,.int .i64 i.n] 159)) has 0;simpa using h
  · exact (ze w _).alloc (by simp) _
 case round =>
  obtain⟨pos,j,hpz,hS,hk,hD⟩:=hrel;have hit:=hS.iter
  by_cases hp:pos<has.size
  · have hpl:pos<has.data.toList.length:=by rw[hdl];exact hp
    have hgl:has.data.toList[pos]=has[pos]'hp:=rfl;have hcs:has.data.toList.drop pos=(has[pos]'hp) :: has.data.toList.drop (pos+1):=by rw[List.drop_eq_getElem_cons hpl,hgl]
    have hll:Let (has[pos]'hp):=HL.out _ (hgl ▸ List.getElem_mem hpl)
    have hn0:∀ ty,(Instr.next (.pointer (some ⟨w.heap.size+1,0,none⟩)) true ty).run Tryz.prog wr = .ok (.tuple #[.bool true,.int .i64 pos,.int .i32 (has[pos]'hp).toNat]) (wr.iterAt (w.heap.size+1) has (pos+1)):=fun ty=>Lib.run_next_ascii_at wr (w.heap.size+1) has pos ty hit hp (by
     rcases hll with e|e|e|e|e|e|e|e <;> rw[e] <;> decide)
    have hS1:=hS.step;obtain⟨U,hU⟩:∃ U,U=wr.iterAt (w.heap.size+1) has (pos+1):=⟨_,rfl⟩
    rw[←hU]at hn0 hS1;rw[hcs]at hD;generalize has[pos]'hp=l at hn0 hll hD;have hps:wr.iterPos (w.heap.size+1)=pos:=iterPos_of hit;have HPS:=hid hps;have HD:=hid hD.out;have HS1:=hid hS1;obtain⟨q0,q1,q2,q3,q4⟩:=HB0.out U hS1.below;have f0:=Lib.frozen_of_heap hS1.box 0;have f1:=Lib.frozen_of_heap hS1.box 1;have f2:=Lib.frozen_of_heap hS1.box 2;have f3:=Lib.frozen_of_heap hS1.box 3;have f4:=Lib.frozen_of_heap hS1.box 4;have f5:=Lib.frozen_of_heap hS1.box 5;obtain⟨k0,k1,k2,k3,k4,k5⟩:=zl hS1.box;have hbU:w.heap.size<U.heap.size:=(Array.getElem?_eq_some_iff.1 hS1.box).1;have HSU:=hid (fun l hl=>HSL.out w.heap.size l U hl hbU);clear hS hS1 hD hcs hgl hU hit hps hpl;rcases hll with rfl|rfl|rfl|rfl|rfl|rfl|rfl|rfl
    · have hnx:∀ ty,(Instr.next (.pointer (some ⟨w.heap.size+1,0,none⟩)) true ty).run Tryz.prog wr = .ok (.tuple #[.bool true,.int .i64 pos,.int .i32 111]) U:=hn0
      clear hn0;have HH:=hid (show zF R 111 j=some { j with o:=0 }from rfl);go_wp2_with fail;go_roundw
      case rel=>exact⟨pos+1,{ j with o:=0 },hp,HS1.out.put 1 _ { j with o:=0 } rfl,hk,hid ((vQ HH.out).symm.trans HD.out)⟩
      case measure=>rw[iterPos_of (HS1.out.put 1 (.int .u8 0) { j with o:=0 } rfl).iter,HPS.out];omega
    · have hnx:∀ ty,(Instr.next (.pointer (some ⟨w.heap.size+1,0,none⟩)) true ty).run Tryz.prog wr = .ok (.tuple #[.bool true,.int .i64 pos,.int .i32 110]) U:=hn0
      clear hn0;have HH:=hid (show zF R 110 j=some { j with n:=0 }from rfl);go_wp2_with fail;go_roundw
      case rel=>exact⟨pos+1,{ j with n:=0 },hp,HS1.out.put 5 _ { j with n:=0 } rfl,hk,hid ((vQ HH.out).symm.trans HD.out)⟩
      case measure=>rw[iterPos_of (HS1.out.put 5 (.int .i64 0) { j with n:=0 } rfl).iter,HPS.out];omega
    · have hnx:∀ ty,(Instr.next (.pointer (some ⟨w.heap.size+1,0,none⟩)) true ty).run Tryz.prog wr = .ok (.tuple #[.bool true,.int .i64 pos,.int .i32 98]) U:=hn0
      clear hn0;have HH:=hid (show zF R 98 j=some { j with b:=0 }from rfl);have HSC:=hid (show Calls Tryz.prog 260 #[.pointer (some ⟨w.heap.size,0,none⟩),.int .i32 98] U fun e w'=>e = .returned (.pointer (some ⟨w.heap.size,3,none⟩))∧U=w' from HSU.out 98 (by decide));go_wp2_with (go_at_call 260;refine HSC.out.mono ?_;rintro e w5 ⟨rfl,rfl⟩);go_roundw
      case rel=>exact⟨pos+1,{ j with b:=0 },hp,HS1.out.put 3 _ { j with b:=0 } rfl,hk,hid ((vQ HH.out).symm.trans HD.out)⟩
      case measure=>rw[iterPos_of (HS1.out.put 3 (.int .i64 0) { j with b:=0 } rfl).iter,HPS.out];omega
    · have hnx:∀ ty,(Instr.next (.pointer (some ⟨w.heap.size+1,0,none⟩)) true ty).run Tryz.prog wr = .ok (.tuple #[.bool true,.int .i64 pos,.int .i32 99]) U:=hn0
      clear hn0;have HH:=hid (show zF R 99 j=some { j with c:=0 }from rfl);have HSC:=hid (show Calls Tryz.prog 260 #[.pointer (some ⟨w.heap.size,0,none⟩),.int .i32 99] U fun e w'=>e = .returned (.pointer (some ⟨w.heap.size,4,none⟩))∧U=w' from HSU.out 99 (by decide));go_wp2_with (go_at_call 260;refine HSC.out.mono ?_;rintro e w5 ⟨rfl,rfl⟩);go_roundw
      case rel=>exact⟨pos+1,{ j with c:=0 },hp,HS1.out.put 4 _ { j with c:=0 } rfl,hk,hid ((vQ HH.out).symm.trans HD.out)⟩
      case measure=>rw[iterPos_of (HS1.out.put 4 (.int .i64 0) { j with c:=0 } rfl).iter,HPS.out];omega
    · have hnx:∀ ty,(Instr.next (.pointer (some ⟨w.heap.size+1,0,none⟩)) true ty).run Tryz.prog wr = .ok (.tuple #[.bool true,.int .i64 pos,.int .i32 45]) U:=hn0
      clear hn0
      by_cases hc1:j.c = -1
      · have HH:=hid (show zF R 45 j=some { j with c:=0 }from by unfold zF;simp[hc1])
        have hkc:=hc1;rw[hc1]at k4;go_wp2_with fail;go_roundw
        case rel=>exact⟨pos+1,{ j with c:=0 },hp,HS1.out.put 4 _ { j with c:=0 } rfl,hk,hid ((vQ HH.out).symm.trans HD.out)⟩
        case measure=>rw[iterPos_of (HS1.out.put 4 (.int .i64 0) { j with c:=0 } rfl).iter,HPS.out];omega
      · have hq1:(j.c == -1)=false:=by simpa using hc1
        have HSC:=hid (show Calls Tryz.prog 260 #[.pointer (some ⟨w.heap.size,0,none⟩),.int .i32 45] U fun e w'=>e = .returned (.pointer (some ⟨w.heap.size,4,none⟩))∧U=w' from HSU.out 45 (by decide))
        by_cases hg:zg R j.c=true
        · obtain⟨n,en,ln⟩:=yC hg
          have HH:=hid (show zF R 45 j=some { j with c:=0 }from by unfold zF;simp[hg,hc1]);rw[←HRN.out]at ln;rw[en]at k4;clear hg;go_wp2_with (go_at_call 260;refine HSC.out.mono ?_;rintro e w5 ⟨rfl,rfl⟩)
          go_quiet (fail)
          go_wp2_with fail;go_roundw
          case rel=>exact⟨pos+1,{ j with c:=0 },hp,(HS1.out.drewN _).put 4 _ { j with c:=0 } rfl,hk,hid ((vQ HH.out).symm.trans HD.out)⟩
          case measure=>rw[iterPos_of ((HS1.out.drewN _).put 4 (.int .i64 0) { j with c:=0 } rfl).iter,HPS.out];omega
        · have hg0:zg R j.c=false:=by simpa using hg
          have hno:=jX hg0;have HH:=hid (show zF R 45 j=none from by unfold zF;simp[hg0,hc1]);rw[←HRN.out]at hno;clear hg hg0;have HZ:=hid (show shaped g.refs i has=false by rw[HR.out,←HD.out,jV HH.out];rfl)
          by_cases hn:j.c<0
          · clear hno
            go_wp2_with (go_at_call 260;refine HSC.out.mono ?_;rintro e w5 ⟨rfl,rfl⟩)
            go_quiet (fail)
            go_wp2_with fail;go_ret;exact⟨by rw[HZ.out];rfl,below_drewN HS1.out.below _⟩
          · have hn2:(NR:Int)≤j.c:=by omega
            clear hno;go_wp2_with (go_at_call 260;refine HSC.out.mono ?_;rintro e w5 ⟨rfl,rfl⟩)
            go_quiet (fail)
            go_wp2_with fail;go_ret;exact⟨by rw[HZ.out];rfl,below_drewN HS1.out.below _⟩
    · have hnx:∀ ty,(Instr.next (.pointer (some ⟨w.heap.size+1,0,none⟩)) true ty).run Tryz.prog wr = .ok (.tuple #[.bool true,.int .i64 pos,.int .i32 65]) U:=hn0
      clear hn0;have HSC:=hid (show Calls Tryz.prog 260 #[.pointer (some ⟨w.heap.size,0,none⟩),.int .i32 65] U fun e w'=>e = .returned (.pointer (some ⟨w.heap.size,2,none⟩))∧U=w' from HSU.out 65 (by decide))
      by_cases hg:zg R j.a=true
      · obtain⟨n,en,ln⟩:=yC hg
        have HH:=hid (show zF R 65 j=some { j with a:=0 }from by unfold zF;simp[hg]);rw[←HRN.out]at ln;rw[en]at k2;clear hg;go_wp2_with (go_at_call 260;refine HSC.out.mono ?_;rintro e w5 ⟨rfl,rfl⟩)
        go_quiet (fail)
        go_wp2_with fail;go_roundw
        case rel=>exact⟨pos+1,{ j with a:=0 },hp,(HS1.out.drewN _).put 2 _ { j with a:=0 } rfl,hk,hid ((vQ HH.out).symm.trans HD.out)⟩
        case measure=>rw[iterPos_of ((HS1.out.drewN _).put 2 (.int .i64 0) { j with a:=0 } rfl).iter,HPS.out];omega
      · have hg0:zg R j.a=false:=by simpa using hg
        have hno:=jX hg0;have HH:=hid (show zF R 65 j=none from by unfold zF;simp[hg0]);rw[←HRN.out]at hno;clear hg hg0;have HZ:=hid (show shaped g.refs i has=false by rw[HR.out,←HD.out,jV HH.out];rfl)
        by_cases hn:j.a<0
        · clear hno
          go_wp2_with (go_at_call 260;refine HSC.out.mono ?_;rintro e w5 ⟨rfl,rfl⟩)
          go_quiet (fail)
          go_wp2_with fail;go_ret;exact⟨by rw[HZ.out];rfl,below_drewN HS1.out.below _⟩
        · have hn2:(NR:Int)≤j.a:=by omega
          clear hno;go_wp2_with (go_at_call 260;refine HSC.out.mono ?_;rintro e w5 ⟨rfl,rfl⟩)
          go_quiet (fail)
          go_wp2_with fail;go_ret;exact⟨by rw[HZ.out];rfl,below_drewN HS1.out.below _⟩
    · have hnx:∀ ty,(Instr.next (.pointer (some ⟨w.heap.size+1,0,none⟩)) true ty).run Tryz.prog wr = .ok (.tuple #[.bool true,.int .i64 pos,.int .i32 66]) U:=hn0
      clear hn0;have HSC:=hid (show Calls Tryz.prog 260 #[.pointer (some ⟨w.heap.size,0,none⟩),.int .i32 66] U fun e w'=>e = .returned (.pointer (some ⟨w.heap.size,3,none⟩))∧U=w' from HSU.out 66 (by decide))
      by_cases hg:zg R j.b=true
      · obtain⟨n,en,ln⟩:=yC hg
        have HH:=hid (show zF R 66 j=some { j with b:=0 }from by unfold zF;simp[hg]);rw[←HRN.out]at ln;rw[en]at k3;clear hg;go_wp2_with (go_at_call 260;refine HSC.out.mono ?_;rintro e w5 ⟨rfl,rfl⟩)
        go_quiet (fail)
        go_wp2_with fail;go_roundw
        case rel=>exact⟨pos+1,{ j with b:=0 },hp,(HS1.out.drewN _).put 3 _ { j with b:=0 } rfl,hk,hid ((vQ HH.out).symm.trans HD.out)⟩
        case measure=>rw[iterPos_of ((HS1.out.drewN _).put 3 (.int .i64 0) { j with b:=0 } rfl).iter,HPS.out];omega
      · have hg0:zg R j.b=false:=by simpa using hg
        have hno:=jX hg0;have HH:=hid (show zF R 66 j=none from by unfold zF;simp[hg0]);rw[←HRN.out]at hno;clear hg hg0;have HZ:=hid (show shaped g.refs i has=false by rw[HR.out,←HD.out,jV HH.out];rfl)
        by_cases hn:j.b<0
        · clear hno
          go_wp2_with (go_at_call 260;refine HSC.out.mono ?_;rintro e w5 ⟨rfl,rfl⟩)
          go_quiet (fail)
          go_wp2_with fail;go_ret;exact⟨by rw[HZ.out];rfl,below_drewN HS1.out.below _⟩
        · have hn2:(NR:Int)≤j.b:=by omega
          clear hno;go_wp2_with (go_at_call 260;refine HSC.out.mono ?_;rintro e w5 ⟨rfl,rfl⟩)
          go_quiet (fail)
          go_wp2_with fail;go_ret;exact⟨by rw[HZ.out];rfl,below_drewN HS1.out.below _⟩
    · have hnx:∀ ty,(Instr.next (.pointer (some ⟨w.heap.size+1,0,none⟩)) true ty).run Tryz.prog wr = .ok (.tuple #[.bool true,.int .i64 pos,.int .i32 67]) U:=hn0
      clear hn0;have HSC:=hid (show Calls Tryz.prog 260 #[.pointer (some ⟨w.heap.size,0,none⟩),.int .i32 67] U fun e w'=>e = .returned (.pointer (some ⟨w.heap.size,4,none⟩))∧U=w' from HSU.out 67 (by decide))
      by_cases hg:zg R j.c=true
      · obtain⟨n,en,ln⟩:=yC hg
        have HH:=hid (show zF R 67 j=some { j with c:=0 }from by unfold zF;simp[hg]);rw[←HRN.out]at ln;rw[en]at k4;clear hg;go_wp2_with (go_at_call 260;refine HSC.out.mono ?_;rintro e w5 ⟨rfl,rfl⟩)
        go_quiet (fail)
        go_wp2_with fail;go_roundw
        case rel=>exact⟨pos+1,{ j with c:=0 },hp,(HS1.out.drewN _).put 4 _ { j with c:=0 } rfl,hk,hid ((vQ HH.out).symm.trans HD.out)⟩
        case measure=>rw[iterPos_of ((HS1.out.drewN _).put 4 (.int .i64 0) { j with c:=0 } rfl).iter,HPS.out];omega
      · have hg0:zg R j.c=false:=by simpa using hg
        have hno:=jX hg0;have HH:=hid (show zF R 67 j=none from by unfold zF;simp[hg0]);rw[←HRN.out]at hno;clear hg hg0;have HZ:=hid (show shaped g.refs i has=false by rw[HR.out,←HD.out,jV HH.out];rfl)
        by_cases hn:j.c<0
        · clear hno
          go_wp2_with (go_at_call 260;refine HSC.out.mono ?_;rintro e w5 ⟨rfl,rfl⟩)
          go_quiet (fail)
          go_wp2_with fail;go_ret;exact⟨by rw[HZ.out];rfl,below_drewN HS1.out.below _⟩
        · have hn2:(NR:Int)≤j.c:=by omega
          clear hno;go_wp2_with (go_at_call 260;refine HSC.out.mono ?_;rintro e w5 ⟨rfl,rfl⟩)
          go_quiet (fail)
          go_wp2_with fail;go_ret;exact⟨by rw[HZ.out];rfl,below_drewN HS1.out.below _⟩
  · have hnx:∀ ty,(Instr.next (.pointer (some ⟨w.heap.size+1,0,none⟩)) true ty).run Tryz.prog wr = .ok (.tuple #[.bool false]) wr:=fun ty=>Lib.run_next_end_at wr (w.heap.size+1) has pos ty hit hp
    have hdn:has.data.toList.drop pos=[]:=List.drop_eq_nil_of_le (by omega);have hd:=hD.out;rw[hdn]at hd;have hY:Y=some j:=hd.symm;have HZ:=hid (show shaped g.refs i has=decide (j=noI)by rw[HR.out,hY];simp);obtain⟨k0,k1,k2,k3,k4,k5⟩:=zl hS.box;have e0:=zH 159 #[] #[.int .u8 0,.int .u8 0,.int .i64 0,.int .i64 0,.int .i64 0,.int .i64 0] (by kernel_rfl);have HB:=hid hS.below;clear hS hD hit hd hdn hY;obtain⟨jk,jo,ja,jb,jc,jn⟩:=j;simp only at *;subst hk
    by_cases hjo:jo=0
    rotate_left
    · have hq:(jo==0)=false:=by simpa using hjo
      have HF:=hid (HZ.out.trans (decide_eq_false (fun e=>hjo (congrArg In.o e))));go_wp2_with fail;go_ret;exact⟨by rw[HF.out];rfl,HB.out⟩
    subst hjo
    by_cases hja:ja=0
    rotate_left
    · have hq:(ja==0)=false:=by simpa using hja
      have HF:=hid (HZ.out.trans (decide_eq_false (fun e=>hja (congrArg In.a e))));go_wp2_with fail;go_ret;exact⟨by rw[HF.out];rfl,HB.out⟩
    subst hja
    by_cases hjb:jb=0
    rotate_left
    · have hq:(jb==0)=false:=by simpa using hjb
      have HF:=hid (HZ.out.trans (decide_eq_false (fun e=>hjb (congrArg In.b e))));go_wp2_with fail;go_ret;exact⟨by rw[HF.out];rfl,HB.out⟩
    subst hjb
    by_cases hjc:jc=0
    rotate_left
    · have hq:(jc==0)=false:=by simpa using hjc
      have HF:=hid (HZ.out.trans (decide_eq_false (fun e=>hjc (congrArg In.c e))));go_wp2_with fail;go_ret;exact⟨by rw[HF.out];rfl,HB.out⟩
    subst hjc
    by_cases hjn:jn=0
    rotate_left
    · have hq:(jn==0)=false:=by simpa using hjn
      have HF:=hid (HZ.out.trans (decide_eq_false (fun e=>hjn (congrArg In.n e))));go_wp2_with fail;go_ret;exact⟨by rw[HF.out];rfl,HB.out⟩
    subst hjn;have HF:=hid (HZ.out.trans (decide_eq_true rfl));go_wp2_with fail;go_ret;exact⟨by rw[HF.out];rfl,HB.out⟩
theorem fits3 (B c m:Nat) (g:Gr) (W:Int) (M:List Bool) (i:In) (w:World) (h:zP w B c m g W M) (hk:i.k=3) (ha:zg g.refs i.a=true) (hb:zg g.refs i.b=true) (hc:zg g.refs i.c=true) :
 Calls Tryz.prog 252 #[.pointer (some ⟨c,0,none⟩),.agg #[.int .u8 i.k,.int .u8 i.o,.int .i64 i.a,.int .i64 i.b,.int .i64 i.c,.int .i64 i.n]] w fun e w'=>e = .returned (.bool (zu g.refs W M i))∧Below w.heap.size w w':=by
 have HR:=hid (show zu g.refs W M i=je g.refs i by unfold zu;simp[hk]);obtain⟨W1,hW1⟩:∃ W1,W1=w.alloc (.cells #[.int .u8 i.k,.int .u8 i.o,.int .i64 i.a,.int .i64 i.b,.int .i64 i.c,.int .i64 i.n] 159):=⟨_,rfl⟩
 have hb1:Below w.heap.size w W1:=by rw[hW1];exact ze w _
 have HC:=hid (z1k B c m g W M i W1 (h.keeps hb1) ha hb hc);have HB:=hid hb1;have HW:=hid hW1;clear h ha hb hc hb1 hW1;obtain⟨k,op,a,b,cc,n⟩:=i;simp only at *;subst hk;go_enter Tryz.func252,Tryz.ntmps252;go_wp2_with fail;rw[←HW.out];refine HC.out.mono ?_;rintro e w2 ⟨rfl,hb2⟩;have HB2:=hid (HB.out.trans (hb2.mono HB.out.size));clear hb2;go_wp2_with fail;go_ret;exact⟨by rw[HR.out];rfl,HB2.out⟩
theorem wC {R:List Bool} {l:UInt8} {r:List UInt8} {i x:In} (h:xN R (l :: r) i=some x):∃ j,zF R l i=some j∧xN R r j=some x:=by
 rw[kS]at h;cases hj:zF R l i with
 | none=>rw[hj]at h;cases h
 | some j=>rw[hj]at h;exact⟨j,rfl,h⟩
theorem qG {R:List Bool} {i j:In} (h:zF R 65 i=some j):zg R i.a=true∧j.b=i.b∧j.c=i.c:=by
 by_cases hg:zg R i.a=true
 · have e:zF R 65 i=some { i with a:=0 }:=by unfold zF;simp[hg]
   rw[e]at h;cases h;exact⟨hg,rfl,rfl⟩
 · have e:zF R 65 i=none:=by unfold zF;simp[hg]
   rw[e]at h;cases h
theorem qN {R:List Bool} {i j:In} (h:zF R 66 i=some j):zg R i.b=true∧j.c=i.c:=by
 by_cases hg:zg R i.b=true
 · have e:zF R 66 i=some { i with b:=0 }:=by unfold zF;simp[hg]
   rw[e]at h;cases h;exact⟨hg,rfl⟩
 · have e:zF R 66 i=none:=by unfold zF;simp[hg]
   rw[e]at h;cases h
theorem shp_c {R:List Bool} {i j:In} (h:zF R 67 i=some j):zg R i.c=true:=by
 by_cases hg:zg R i.c=true
 · exact hg
 · have e:zF R 67 i=none:=by unfold zF;simp[hg]
   rw[e]at h;cases h
theorem shp_d {R:List Bool} {i j:In} (h:zF R 45 i=some j):i.c = -1∨zg R i.c=true:=by
 by_cases h1:i.c = -1
 · exact .inl h1
 · by_cases hg:zg R i.c=true
   · exact .inr hg
   · have e:zF R 45 i=none:=by unfold zF;simp[hg,h1]
     rw[e]at h;cases h
theorem shp_o {R:List Bool} {i j:In} (h:zF R 111 i=some j):j.a=i.a∧j.b=i.b∧j.c=i.c:=by
 have e:zF R 111 i=some { i with o:=0 }:=rfl;rw[e]at h;cases h;exact⟨rfl,rfl,rfl⟩
theorem vH {R:List Bool} {i:In} {has:ByteArray} (h:shaped R i has=true):xN R has.data.toList { i with k:=0 }=some noI:=of_decide_eq_true h
theorem KA (R:List Bool) (i:In) (hs:shaped R i (yY i.k)=true):Has R i:=by
 refine⟨fun hk=>?_,fun hk=>?_,fun hk=>?_,fun hk=>?_,fun hk=>?_,fun hk=>?_⟩
 · rw[hk]at hs
   obtain⟨j,h1,_⟩:=wC (l:=65) (r:=[110]) (vH hs);exact (qG h1).1
 · rw[hk]at hs
   obtain⟨j,h1,h2⟩:=wC (l:=65) (r:=[66]) (vH hs);obtain⟨j2,h3,_⟩:=wC (l:=66) (r:=[]) h2;have e:=qG h1;refine⟨e.1, ?_⟩;have:=(qN h3).1;rw[e.2.1]at this;exact this
 · rw[hk]at hs
   obtain⟨j0,h0,h00⟩:=wC (l:=111) (r:=[65,66,67]) (vH hs);obtain⟨j,h1,h2⟩:=wC (l:=65) (r:=[66,67]) h00;obtain⟨j2,h3,h4⟩:=wC (l:=66) (r:=[67]) h2;obtain⟨j3,h5,_⟩:=wC (l:=67) (r:=[]) h4;have e0:=shp_o h0;have e:=qG h1;have e2:=qN h3;have e3:=shp_c h5;rw[e2.2,e.2.2,e0.2.2]at e3;have e4:=e2.1;rw[e.2.1,e0.2.1]at e4;have e5:=e.1;rw[e0.1]at e5;exact⟨e5,e4,e3⟩
 · rcases hk with hk|hk|hk
   all_goals rw[hk]at hs
   · obtain⟨j,h1,_⟩:=wC (l:=66) (r:=[]) (vH hs)
     exact (qN h1).1
   · obtain⟨j,h1,_⟩:=wC (l:=66) (r:=[110]) (vH hs)
     exact (qN h1).1
   · obtain⟨j,h1,_⟩:=wC (l:=66) (r:=[]) (vH hs)
     exact (qN h1).1
 · rcases hk with hk|hk
   all_goals rw[hk]at hs
   · obtain⟨j,h1,_⟩:=wC (l:=65) (r:=[110]) (vH hs)
     exact (qG h1).1
   · obtain⟨j,h1,_⟩:=wC (l:=65) (r:=[110,99]) (vH hs)
     exact (qG h1).1
 · have hh:yY i.k=⟨#[65,66,45,110]⟩:=by rcases hk with hk|hk|hk|hk <;> rw[hk] <;> rfl
   rw[hh]at hs;obtain⟨j,h1,h2⟩:=wC (l:=65) (r:=[66,45,110]) (vH hs);obtain⟨j2,h3,h4⟩:=wC (l:=66) (r:=[45,110]) h2;obtain⟨j3,h5,_⟩:=wC (l:=45) (r:=[110]) h4;have e:=qG h1;have e2:=qN h3;have e3:=shp_d h5;rw[e2.2,e.2.2]at e3;have e4:=e2.1;rw[e.2.1]at e4;exact⟨e.1,e4,e3⟩
def uT (B c m:Nat) (g:Gr) (W:Int) (r:Bool) (M:List Bool) (w:World) (e:Ending) (w':World):Prop:=e = .returned (.bool r)∧zP w' B c m g W M∧Aside m w w'
theorem wS {B c m:Nat} {g:Gr} {W:Int} {M:List Bool} {i:In} {w:World} (h:zP w B c m g W M) (hk:¬ i.k=7) {e:Ending} {w':World} (hq:e = .returned (.bool (zu g.refs W M i))∧Below w.heap.size w w'):uT B c m g W (zu g.refs W M i) (xC g.refs W M i) w e w':=
 ⟨hq.1,by rw[ZJ hk];exact h.keeps hq.2,Aside.of hq.2⟩
theorem Ut (B c m:Nat) (g:Gr) (W:Int) (M:List Bool) (i:In) (w:World) (h:zP w B c m g W M) (hk:1≤i.k∧i.k≤14) (hs:shaped g.refs i (yY i.k)=true) :
 Calls Tryz.prog 252 #[.pointer (some ⟨c,0,none⟩),.agg #[.int .u8 i.k,.int .u8 i.o,.int .i64 i.a,.int .i64 i.b,.int .i64 i.c,.int .i64 i.n]] w (uT B c m g W (zu g.refs W M i) (xC g.refs W M i) w):=by
 obtain⟨H1,H2,H3,H4,H5,H6⟩:=KA _ _ hs;have hkk:i.k=1∨i.k=2∨i.k=3∨i.k=4∨i.k=5∨i.k=6∨i.k=7∨i.k=8∨i.k=9∨i.k=10∨i.k=11∨i.k=12∨i.k=13∨i.k=14:=by omega
 rcases hkk with k|k|k|k|k|k|k|k|k|k|k|k|k|k
 · exact (Uu B c m g W M i w h k (H1 k)).mono fun e w' hq=>wS h (by omega) hq
 · exact (fits2 B c m g W M i w h k (H2 k).1 (H2 k).2).mono fun e w' hq=>wS h (by omega) hq
 · exact (fits3 B c m g W M i w h k (H3 k).1 (H3 k).2.1 (H3 k).2.2).mono fun e w' hq=>wS h (by omega) hq
 · exact (fits4 B c m g W M i w h k (H4 (.inl k))).mono fun e w' hq=>wS h (by omega) hq
 · exact (fits5 B c m g W M i w h k (H4 (.inr (.inl k)))).mono fun e w' hq=>wS h (by omega) hq
 · exact (fits6 B c m g W M i w h k (H5 (.inl k))).mono fun e w' hq=>wS h (by omega) hq
 · exact fits7 B c m g W M i w h k (H5 (.inr k))
 · exact (fits8 B c m g W M i w h k (H6 (.inl k)).1 (H6 (.inl k)).2.1 (H6 (.inl k)).2.2).mono fun e w' hq=>wS h (by omega) hq
 · exact (fits9 B c m g W M i w h k (H6 (.inr (.inl k))).1 (H6 (.inr (.inl k))).2.1 (H6 (.inr (.inl k))).2.2).mono fun e w' hq=>wS h (by omega) hq
 · exact (Uy B c m g W M i w h k (H6 (.inr (.inr (.inl k)))).1 (H6 (.inr (.inr (.inl k)))).2.1 (H6 (.inr (.inr (.inl k)))).2.2).mono fun e w' hq=>wS h (by omega) hq
 · exact (Ux B c m g W M i w h k (H6 (.inr (.inr (.inr k)))).1 (H6 (.inr (.inr (.inr k)))).2.1 (H6 (.inr (.inr (.inr k)))).2.2).mono fun e w' hq=>wS h (by omega) hq
 · exact (Uw B c m g W M i w h k (H4 (.inr (.inr k)))).mono fun e w' hq=>wS h (by omega) hq
 · exact (Yy B c m g W M i w (.inl k)).mono fun e w' hq=>wS h (by omega) hq
 · exact (Yy B c m g W M i w (.inr k)).mono fun e w' hq=>wS h (by omega) hq
instance (l:UInt8):Decidable (Let l):=by unfold Let;infer_instance
theorem Y9 (k:Int):(∀ l ∈ (yY k).data.toList,Let l)∧(yY k).size≤100:=by
 by_cases h:k=1∨k=2∨k=3∨k=4∨k=5∨k=6∨k=7∨k=8∨k=9∨k=10∨k=11∨k=12
 · rcases h with rfl|rfl|rfl|rfl|rfl|rfl|rfl|rfl|rfl|rfl|rfl|rfl <;> exact⟨by decide,by decide⟩
 · simp only[not_or]at h
   have e:yY k=⟨#[]⟩:=by unfold yY;simp[h]
   rw[e];exact⟨fun l hl=>by simp at hl,by decide⟩
theorem Y8 (k:Int):(∀ l ∈ (wO k).data.toList,Let l)∧(wO k).size≤100:=by
 by_cases h:k=1∨k=2
 · rcases h with rfl|rfl <;> exact⟨by decide,by decide⟩
 · simp only[not_or]at h
   have e:wO k=⟨#[]⟩:=by unfold wO;simp[h]
   rw[e];exact⟨fun l hl=>by simp at hl,by decide⟩
def wY (R:List Bool) (W:Int) (M:List Bool) (i:In):List Bool:=if yK R W M i=true then xC R W M i else M
theorem Yj {R:List Bool} {W:Int} {M:List Bool} {i:In} (h:yK R W M i=true):wY R W M i=xC R W M i:=by unfold wY;rw[if_pos h]
theorem uB {R:List Bool} {W:Int} {M:List Bool} {i:In} (h:yK R W M i=false):wY R W M i=M:=by unfold wY;rw[if_neg (by rw[h];exact Bool.false_ne_true)]
theorem Ki {R:List Bool} {W:Int} {M:List Bool} {i:In} (h:yK R W M i=zu R W M i):wY R W M i=xC R W M i:=by
 cases hf:zu R W M i with
 | true=>exact Yj (h.trans hf)
 | false =>
  rw[uB (h.trans hf)]
  by_cases hk:i.k=7
  · exact (ZP hf).symm
  · exact (ZJ hk).symm
theorem Kb (B c m:Nat) (g:Gr) (W:Int) (M:List Bool) (i:In) (w:World) (h:zP w B c m g W M) :
 Calls Tryz.prog 227 #[.pointer (some ⟨c,0,none⟩),.agg #[.int .u8 i.k,.int .u8 i.o,.int .i64 i.a,.int .i64 i.b,.int .i64 i.c,.int .i64 i.n]] w (uT B c m g W (yK g.refs W M i) (wY g.refs W M i) w):=by
 obtain⟨W1,hW1⟩:∃ W1,W1=w.alloc (.cells #[.int .u8 i.k,.int .u8 i.o,.int .i64 i.a,.int .i64 i.b,.int .i64 i.c,.int .i64 i.n] 159):=⟨_,rfl⟩
 have hb1:Below w.heap.size w W1:=by rw[hW1];exact ze w _
 have hz1:W1.heap.size=w.heap.size+1:=by rw[hW1];simp
 have h1:=h.keeps hb1;have hO:W1.heap[w.heap.size]? = some (.cells #[.int .u8 i.k,.int .u8 i.o,.int .i64 i.a,.int .i64 i.b,.int .i64 i.c,.int .i64 i.n] 159 (0,0)):=by rw[hW1];exact (MapKept.heap_alloc _ _).1
 have HIL:=hid (Kj i.k W1);have HSH:=hid (Ze B c m g W M i (yY i.k) W1 h1 (Y9 i.k).1 (Y9 i.k).2);have HFI:=hid (fun (u:World) (hu:Below W1.heap.size W1 u)=>Ut B c m g W M i u (h1.keeps hu));have HCK:=hid (fun (u:World) (hu:Below W1.heap.size W1 u)=>h1.keeps hu);have HO:=hid (fun (u:World) (hu:Below W1.heap.size W1 u)=>zl ((hu.block _ (by omega)).trans hO));obtain⟨p0,p1,p2,p3,p4,p5⟩:=zl hO;have hem:=Kg i.k;have hr:yK g.refs W M i=(inB i.k 1 14 && (shaped g.refs i (yY i.k) && zu g.refs W M i)):=rfl;have hyk:inB i.k 1 14=true→1≤i.k∧i.k≤14:=fun hh=>by unfold inB at hh;simpa using hh
 generalize inB i.k 1 14=y at hem hr hyk;have HYK:=hid hyk;generalize hsb:shaped g.refs i (yY i.k)=z at HSH HFI hr;generalize jE i.k=nm at HIL hem;obtain⟨F,hF⟩:∃ F,F=yK g.refs W M i:=⟨_,rfl⟩
 have HR:=hid hr;have HB:=hid hb1;have HW:=hid hW1;have HF:=hid hF;rw[hW1]at p0;rw[←hF];clear h h1 hb1 hr hyk hsb hF hO hW1 p1 p2 p3 p4 p5;cases y
 · have HN:=hid (show F=false by rw[HF.out,HR.out];rfl)
   go_enter Tryz.func227,Tryz.ntmps227;go_wp2_with fail;rw[←HW.out];refine HIL.out.mono ?_;rintro e w2 ⟨rfl,rfl⟩;go_wp2_with fail;go_ret;exact⟨by rw[HN.out];rfl,by rw[uB (HF.out.symm.trans HN.out)];exact HCK.out _ (Below.refl _ _),Aside.of HB.out⟩
 cases z
 · have HN:=hid (show F=false by rw[HF.out,HR.out];rfl)
   go_enter Tryz.func227,Tryz.ntmps227;go_wp2_with fail;rw[←HW.out];refine HIL.out.mono ?_;rintro e w2 ⟨rfl,rfl⟩;obtain⟨p0,p1,p2,p3,p4,p5⟩:=HO.out _ (Below.refl _ _);go_wp2_with fail;refine HSH.out.mono ?_;rintro e w3 ⟨rfl,hb3⟩;have HB3:=hid hb3;clear hb3;go_wp2_with fail;go_ret;exact⟨by rw[HN.out];rfl,by rw[uB (HF.out.symm.trans HN.out)];exact HCK.out _ HB3.out,Aside.of (HB.out.trans (HB3.out.mono (by omega)))⟩
 have HEQ:=hid (show yK g.refs W M i=zu g.refs W M i by rw[HR.out];rfl);go_enter Tryz.func227,Tryz.ntmps227;go_wp2_with fail;rw[←HW.out];refine HIL.out.mono ?_;rintro e w2 ⟨rfl,rfl⟩;obtain⟨p0,p1,p2,p3,p4,p5⟩:=HO.out _ (Below.refl _ _);go_wp2_with fail;refine HSH.out.mono ?_;rintro e w3 ⟨rfl,hb3⟩;obtain⟨p0,p1,p2,p3,p4,p5⟩:=HO.out w3 hb3;have HFF:=hid (HFI.out w3 hb3 (HYK.out (by first|rfl|trivial)) (by first|rfl|trivial));have HA3:=hid ((Aside.of (m:=m) HB.out).trans (Aside.of hb3));clear hb3;go_wp2_with fail;refine HFF.out.mono ?_;rintro e w4 ⟨rfl,hc4,ha4⟩;have HC4:=hid hc4;have HA4:=hid (HA3.out.trans ha4);clear hc4 ha4;go_wp2_with fail;go_ret;exact⟨by rw[HF.out,HEQ.out];rfl,by rw[Ki HEQ.out];exact HC4.out,HA4.out⟩
theorem JN (B c m:Nat) (g:Gr) (W:Int) (M:List Bool) (b:Bk) (w:World) (h:zP w B c m g W M) (hv:∃ ao n cap,b.iv = .slice ao n cap) (hk:b.last=1∨b.last=2∨b.last=3) (hreg:b.last=2→zg g.refs b.reg=true) :
 Calls Tryz.prog 255 #[.pointer (some ⟨c,0,none⟩),.agg #[b.iv,.int .u8 b.last,.int .i64 b.reg,.int .i64 b.yes,.int .i64 b.no]] w fun e w'=>e = .returned (.bool (wX g.refs g.blocks.length b))∧Below w.heap.size w w':=by
 obtain⟨ao,n,cap,eiv⟩:=hv;have hr:wX g.refs g.blocks.length b=if b.last=1 then xY g.blocks.length b.yes else if b.last=2 then !zm g.refs b.reg && (xY g.blocks.length b.yes && xY g.blocks.length b.no) else true:=rfl
 obtain⟨F,hF⟩:∃ F,F=wX g.refs g.blocks.length b:=⟨_,rfl⟩
 rw[←hF]at hr ⊢;clear hF;obtain⟨iv,ins,last,reg,yes,no⟩:=b;simp only at *;subst eiv;obtain⟨W1,hW1⟩:∃ W1,W1=w.alloc (.cells #[.slice ao n cap,.int .u8 last,.int .i64 reg,.int .i64 yes,.int .i64 no] 118):=⟨_,rfl⟩
 have hb1:Below w.heap.size w W1:=by rw[hW1];exact ze w _
 have hz1:W1.heap.size=w.heap.size+1:=by rw[hW1];simp
 have h1:=h.keeps hb1;have hO:W1.heap[w.heap.size]? = some (.cells #[.slice ao n cap,.int .u8 last,.int .i64 reg,.int .i64 yes,.int .i64 no] 118 (0,0)):=by rw[hW1];exact (MapKept.heap_alloc _ _).1
 have HBK:=hid (fun (k:Int) (u:World) (hu:Below W1.heap.size W1 u)=>z1r B c m g W M k u (h1.keeps hu));have HB:=hid hb1;have HW:=hid hW1;obtain⟨p0,p1,p2,p3,p4⟩:=zx hO;rcases hk with rfl|rfl|rfl
 · rw[if_pos rfl]at hr
   have HR:=hid hr;have HC:=hid (HBK.out yes W1 (Below.refl _ _));rw[hW1]at p0 p1 p2 p3 p4;clear h h1 hb1 hW1 hO hr hreg;go_enter Tryz.func255,Tryz.ntmps255;go_wp2_with fail;rw[←HW.out];refine HC.out.mono ?_;rintro e w2 ⟨rfl,rfl⟩;go_wp2_with fail;go_ret;exact⟨by rw[HR.out];rfl,HB.out⟩
 · rw[if_neg (by decide),if_pos rfl]at hr
   obtain⟨b0,off,cap0,er,hb0⟩:=wR h1.here (hreg rfl);obtain⟨na,ea,la⟩:=yC (hreg rfl);subst ea;have ta:=h1.here.rlies.bit er na la;have hq:=h1.box;rw[er]at hq;obtain⟨q0,q1,q2,q3,q4⟩:=zx hq;have hlb:b0<W1.heap.size:=by have:=h1.base.2.2.2;omega
   obtain⟨NR,hNR⟩:∃ N,N=g.refs.length:=⟨_,rfl⟩
   rw[←hNR]at q0 la;have hroom:NR≤140737488351232:=by rw[hNR];exact h.here.rlies.room
   generalize zm g.refs (na:Int)=xa at ta hr;generalize xY g.blocks.length=bf at HBK hr;generalize hy1:bf yes=y1 at hr;generalize hy2:bf no=y2 at hr;have HR:=hid hr;rw[hW1]at p1;clear h h1 hb1 hO hr hreg er hq hNR hW1;cases xa <;> cases y1 <;> cases y2
   all_goals
    go_enter Tryz.func255,Tryz.ntmps255;go_wp2_with fail;rw[←HW.out]
    go_quiet ((go_at_call 264;exact Calls.quiet_of_same ((HBK.out _ _ (below_drewN (Below.refl _ _) _)).mono fun e w1 hh=>⟨hh.1,hh.2.symm⟩)))
    go_wp2_with fail;go_ret;exact⟨by rw[HR.out];rfl,below_drewN HB.out _⟩
 · rw[if_neg (by decide),if_neg (by decide)]at hr
   have HR:=hid hr;rw[hW1]at p0 p1 p2 p3 p4;clear h h1 hb1 hW1 hO hr hreg;go_enter Tryz.func255,Tryz.ntmps255;go_wp2_with fail;go_ret;exact⟨by rw[HR.out];rfl,by rw[←HW.out];exact HB.out⟩
theorem JR (B c m:Nat) (g:Gr) (W:Int) (M:List Bool) (b:Bk) (w:World) (h:zP w B c m g W M) (hv:∃ ao n cap,b.iv = .slice ao n cap) :
 Calls Tryz.prog 228 #[.pointer (some ⟨c,0,none⟩),.agg #[b.iv,.int .u8 b.last,.int .i64 b.reg,.int .i64 b.yes,.int .i64 b.no]] w fun e w'=>e = .returned (.bool (lastB g.refs g.blocks.length b))∧Below w.heap.size w w':=by
 obtain⟨W1,hW1⟩:∃ W1,W1=w.alloc (.cells #[b.iv,.int .u8 b.last,.int .i64 b.reg,.int .i64 b.yes,.int .i64 b.no] 118):=⟨_,rfl⟩
 have hb1:Below w.heap.size w W1:=by rw[hW1];exact ze w _
 have hz1:W1.heap.size=w.heap.size+1:=by rw[hW1];simp
 have h1:=h.keeps hb1;have hO:W1.heap[w.heap.size]? = some (.cells #[b.iv,.int .u8 b.last,.int .i64 b.reg,.int .i64 b.yes,.int .i64 b.no] 118 (0,0)):=by rw[hW1];exact (MapKept.heap_alloc _ _).1
 have HLL:=hid (JX b.last W1);have HEN:=hid (fun u=>z0c b u);have HSH:=hid (fun (u:World) (hu:Below W1.heap.size W1 u)=>Ze B c m g W M (xA b) (wO b.last) u (h1.keeps hu) (Y8 b.last).1 (Y8 b.last).2)
 have hh2:shaped g.refs (xA b) (wO b.last)=true→b.last=2→zg g.refs b.reg=true:=by
  intro hs hk;rw[hk]at hs;obtain⟨j,h1,_⟩:=wC (l:=65) (r:=[98,99]) (vH hs);exact (qG h1).1
 have HLE:=hid (fun (hk:b.last=1∨b.last=2∨b.last=3) (hs:shaped g.refs (xA b) (wO b.last)=true) (u:World) (hu:Below W1.heap.size W1 u)=>JN B c m g W M b u (h1.keeps hu) hv hk (hh2 hs));have HO:=hid (fun (u:World) (hu:Below W1.heap.size W1 u)=>zx ((hu.block _ (by omega)).trans hO));obtain⟨p0,p1,p2,p3,p4⟩:=zx hO;have hem:=JW b.last;have hr:lastB g.refs g.blocks.length b=(inB b.last 1 3 && (shaped g.refs (xA b) (wO b.last) && wX g.refs g.blocks.length b)):=rfl;have hyk:inB b.last 1 3=true→b.last=1∨b.last=2∨b.last=3:=fun hh=>by unfold inB at hh;simp at hh;omega
 generalize inB b.last 1 3=y at hem hr hyk;have HYK:=hid hyk;generalize hsb:shaped g.refs (xA b) (wO b.last)=z at HSH HLE hr;generalize jD b.last=nm at HLL hem;obtain⟨F,hF⟩:∃ F,F=lastB g.refs g.blocks.length b:=⟨_,rfl⟩
 rw[←hF]at hr ⊢;have HR:=hid hr;have HB:=hid hb1;have HW:=hid hW1;rw[hW1]at p1;clear h h1 hb1 hr hyk hsb hF hO hW1 p0 p2 p3 p4 hh2;have HV:=hid hv;obtain⟨ao,n,cap,eiv⟩:=hv;rw[eiv]at HO HLE HEN HW;rw[eiv];cases y
 · have HN:=hid (show F=false by rw[HR.out];rfl)
   go_enter Tryz.func228,Tryz.ntmps228;go_wp2_with fail;rw[←HW.out];refine HLL.out.mono ?_;rintro e w2 ⟨rfl,rfl⟩;go_wp2_with fail;go_ret;exact⟨by rw[HN.out];rfl,HB.out⟩
 cases z
 · have HN:=hid (show F=false by rw[HR.out];rfl)
   go_enter Tryz.func228,Tryz.ntmps228;go_wp2_with fail;rw[←HW.out];refine HLL.out.mono ?_;rintro e w2 ⟨rfl,rfl⟩;obtain⟨p0,p1,p2,p3,p4⟩:=HO.out _ (Below.refl _ _);go_wp2_with fail;refine (HEN.out _).mono ?_;rintro e w3 ⟨rfl,hb3⟩;have HS3:=hid (HSH.out w3 hb3);have HB3:=hid hb3;clear hb3;go_wp2_with fail;refine HS3.out.mono ?_;rintro e w4 ⟨rfl,hb4⟩;have HB4:=hid (HB3.out.trans (hb4.mono HB3.out.size));clear hb4;go_wp2_with fail;go_ret;exact⟨by rw[HN.out];rfl,HB.out.trans (HB4.out.mono (by omega))⟩
 go_enter Tryz.func228,Tryz.ntmps228;go_wp2_with fail;rw[←HW.out];refine HLL.out.mono ?_;rintro e w2 ⟨rfl,rfl⟩;obtain⟨p0,p1,p2,p3,p4⟩:=HO.out _ (Below.refl _ _);go_wp2_with fail;refine (HEN.out _).mono ?_;rintro e w3 ⟨rfl,hb3⟩;have HS3:=hid (HSH.out w3 hb3);have HB3:=hid hb3;clear hb3;go_wp2_with fail;refine HS3.out.mono ?_;rintro e w4 ⟨rfl,hb4⟩;have HB4:=hid (HB3.out.trans (hb4.mono HB3.out.size));obtain⟨p0,p1,p2,p3,p4⟩:=HO.out w4 HB4.out;have HLF:=hid (HLE.out (HYK.out (by first|rfl|trivial)) (by first|rfl|trivial) w4 HB4.out);clear hb4;go_wp2_with fail;refine HLF.out.mono ?_;rintro e w5 ⟨rfl,hb5⟩;have HB5:=hid (HB4.out.trans (hb5.mono HB4.out.size));clear hb5;go_wp2_with fail;go_ret;exact⟨by rw[HR.out];rfl,HB.out.trans (HB5.out.mono (by omega))⟩
