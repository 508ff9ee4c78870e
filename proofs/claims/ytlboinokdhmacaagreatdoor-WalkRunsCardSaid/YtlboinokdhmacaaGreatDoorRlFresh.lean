import Derived.Test.YtlboinokdhmacaaGreatDoorRlInsE
namespace Go.Proofs.YtlboinokdhmacaaGreatDoor
set_option maxHeartbeats 64000000
set_option maxRecDepth 1000000
open Lib(hid)
open Go.RowKit
attribute [local go_sem ↓] zL zJ
theorem Jt {w:World} {B c m:Nat} {g:Gr} {W:Int} {M:List Bool} (h:zG w B c m g W M) (o a b cc n:Int) :
 Calls Tryz.prog 216 #[.pointer (some ⟨c,0,none⟩),.agg #[.int .u8 12,.int .u8 o,.int .i64 a,.int .i64 b,.int .i64 cc,.int .i64 n]] w fun e w'=>e = .returned (.bool (zf g.refs W M ⟨12,o,a,b,cc,n⟩))∧Below w.heap.size w w':=by
 obtain⟨U,hU⟩:∃ U,U=w.alloc (.cells #[.int .u8 12,.int .u8 o,.int .i64 a,.int .i64 b,.int .i64 cc,.int .i64 n] 159):=⟨_,rfl⟩
 have hBU:Below w.heap.size w U:=by rw[hU];exact ze w _
 have hO:U.heap[w.heap.size]? = some (.cells #[.int .u8 12,.int .u8 o,.int .i64 a,.int .i64 b,.int .i64 cc,.int .i64 n] 159 (0,0)):=by rw[hU];exact (MapKept.heap_alloc _ _).1
 have HK:=hid (fun (V:World) (hv:Below U.heap.size U V)=>(h.keeps hBU).keeps hv);have HN:=hid (fun r=>wN (h.keeps hBU) r);have HR:=hid (fun r=>yS (h.keeps hBU) r);have HG:=hid (fun r=>y7 (h.keeps hBU) r);have HH:=hid (h.keeps hBU).here;have HZ:=hid (h.keeps hBU).base.2.2.2;have hlc:=(h.keeps hBU).lt.1;obtain⟨p0,p1,p2,p3,p4⟩:=zx (h.keeps hBU).box;obtain⟨q0,q1,q2,q3,q4,q5⟩:=zl hO;have HB:=hid hBU;have HU:=hid hU;rw[hU]at q0 q1 q2 q3 q4 q5;clear hBU hO hU h
 by_cases h0:o=0
 · have d0a:(o==0)=true:=by simpa using h0
   have d0b:(o != 0)=false:=by simpa using h0
   replace h0:=hid h0
   cases h1:yE g.refs b with
   | false =>
    have HY:=hid (show zf g.refs W M ⟨12,o,a,b,cc,n⟩ = false from by simp[zf,h0.out,h1]);go_enter Tryz.func216,Tryz.ntmps216;go_wp2_with fail;rw[←HU.out];rw[←HU.out]at q0 q1 q2 q3 q4 q5;refine (HN.out _).mono ?_;rintro e w' ⟨rfl,rfl⟩;rw[h1];go_wp2_with fail;go_ret;exact⟨by rw[HY.out];rfl,HB.out⟩
   | true =>
    by_cases h2:a=0
    · have d2a:(a==0)=true:=by simpa using h2
      have d2b:(a != 0)=false:=by simpa using h2
      replace h2:=hid h2
      by_cases h3:cc=0
      · have d3a:(cc==0)=true:=by simpa using h3
        have d3b:(cc != 0)=false:=by simpa using h3
        replace h3:=hid h3
        by_cases h4:n=0
        · have d4a:(n==0)=true:=by simpa using h4
          have d4b:(n != 0)=false:=by simpa using h4
          replace h4:=hid h4
          have HY:=hid (show zf g.refs W M ⟨12,o,a,b,cc,n⟩ = true from by simp[zf,h0.out,h1,h2.out,h3.out,h4.out]);go_enter Tryz.func216,Tryz.ntmps216;go_wp2_with fail;rw[←HU.out];rw[←HU.out]at q0 q1 q2 q3 q4 q5;refine (HN.out _).mono ?_;rintro e w' ⟨rfl,rfl⟩;rw[h1];go_wp2_with fail;go_ret;exact⟨by rw[HY.out];rfl,HB.out⟩
        · have d4a:(n==0)=false:=by simpa using h4
          have d4b:(n != 0)=true:=by simpa using h4
          replace h4:=hid h4
          have HY:=hid (show zf g.refs W M ⟨12,o,a,b,cc,n⟩ = false from by simp[zf,h0.out,h1,h2.out,h3.out,h4.out]);go_enter Tryz.func216,Tryz.ntmps216;go_wp2_with fail;rw[←HU.out];rw[←HU.out]at q0 q1 q2 q3 q4 q5;refine (HN.out _).mono ?_;rintro e w' ⟨rfl,rfl⟩;rw[h1];go_wp2_with fail;go_ret;exact⟨by rw[HY.out];rfl,HB.out⟩
      · have d3a:(cc==0)=false:=by simpa using h3
        have d3b:(cc != 0)=true:=by simpa using h3
        replace h3:=hid h3
        have HY:=hid (show zf g.refs W M ⟨12,o,a,b,cc,n⟩ = false from by simp[zf,h0.out,h1,h2.out,h3.out]);go_enter Tryz.func216,Tryz.ntmps216;go_wp2_with fail;rw[←HU.out];rw[←HU.out]at q0 q1 q2 q3 q4 q5;refine (HN.out _).mono ?_;rintro e w' ⟨rfl,rfl⟩;rw[h1];go_wp2_with fail;go_ret;exact⟨by rw[HY.out];rfl,HB.out⟩
    · have d2a:(a==0)=false:=by simpa using h2
      have d2b:(a != 0)=true:=by simpa using h2
      replace h2:=hid h2
      have HY:=hid (show zf g.refs W M ⟨12,o,a,b,cc,n⟩ = false from by simp[zf,h0.out,h1,h2.out]);go_enter Tryz.func216,Tryz.ntmps216;go_wp2_with fail;rw[←HU.out];rw[←HU.out]at q0 q1 q2 q3 q4 q5;refine (HN.out _).mono ?_;rintro e w' ⟨rfl,rfl⟩;rw[h1];go_wp2_with fail;go_ret;exact⟨by rw[HY.out];rfl,HB.out⟩
 · have d0a:(o==0)=false:=by simpa using h0
   have d0b:(o != 0)=true:=by simpa using h0
   replace h0:=hid h0
   have HY:=hid (show zf g.refs W M ⟨12,o,a,b,cc,n⟩ = false from by simp[zf,h0.out]);go_enter Tryz.func216,Tryz.ntmps216;go_wp2_with fail;go_ret;exact⟨by rw[HY.out];rfl,by rw[←HU.out];exact HB.out⟩
theorem Js {w:World} {B c m:Nat} {g:Gr} {W:Int} {M:List Bool} (h:zG w B c m g W M) (o a b cc n:Int) :
 Calls Tryz.prog 216 #[.pointer (some ⟨c,0,none⟩),.agg #[.int .u8 13,.int .u8 o,.int .i64 a,.int .i64 b,.int .i64 cc,.int .i64 n]] w fun e w'=>e = .returned (.bool (zf g.refs W M ⟨13,o,a,b,cc,n⟩))∧Below w.heap.size w w':=by
 obtain⟨U,hU⟩:∃ U,U=w.alloc (.cells #[.int .u8 13,.int .u8 o,.int .i64 a,.int .i64 b,.int .i64 cc,.int .i64 n] 159):=⟨_,rfl⟩
 have hBU:Below w.heap.size w U:=by rw[hU];exact ze w _
 have hO:U.heap[w.heap.size]? = some (.cells #[.int .u8 13,.int .u8 o,.int .i64 a,.int .i64 b,.int .i64 cc,.int .i64 n] 159 (0,0)):=by rw[hU];exact (MapKept.heap_alloc _ _).1
 have HK:=hid (fun (V:World) (hv:Below U.heap.size U V)=>(h.keeps hBU).keeps hv);have HN:=hid (fun r=>wN (h.keeps hBU) r);have HR:=hid (fun r=>yS (h.keeps hBU) r);have HG:=hid (fun r=>y7 (h.keeps hBU) r);have HH:=hid (h.keeps hBU).here;have HZ:=hid (h.keeps hBU).base.2.2.2;have hlc:=(h.keeps hBU).lt.1;obtain⟨p0,p1,p2,p3,p4⟩:=zx (h.keeps hBU).box;obtain⟨q0,q1,q2,q3,q4,q5⟩:=zl hO;have HB:=hid hBU;have HU:=hid hU;rw[hU]at q0 q1 q2 q3 q4 q5;clear hBU hO hU h
 by_cases h0:o=0
 · have d0a:(o==0)=true:=by simpa using h0
   have d0b:(o != 0)=false:=by simpa using h0
   replace h0:=hid h0
   by_cases h1:a=0
   · have d1a:(a==0)=true:=by simpa using h1
     have d1b:(a != 0)=false:=by simpa using h1
     replace h1:=hid h1
     by_cases h2:b=0
     · have d2a:(b==0)=true:=by simpa using h2
       have d2b:(b != 0)=false:=by simpa using h2
       replace h2:=hid h2
       by_cases h3:cc=0
       · have d3a:(cc==0)=true:=by simpa using h3
         have d3b:(cc != 0)=false:=by simpa using h3
         replace h3:=hid h3
         by_cases h4:n=0
         · have d4a:(n==0)=true:=by simpa using h4
           have d4b:(n != 0)=false:=by simpa using h4
           replace h4:=hid h4
           have HY:=hid (show zf g.refs W M ⟨13,o,a,b,cc,n⟩ = true from by simp[zf,h0.out,h1.out,h2.out,h3.out,h4.out]);go_enter Tryz.func216,Tryz.ntmps216;go_wp2_with fail;go_ret;exact⟨by rw[HY.out];rfl,by rw[←HU.out];exact HB.out⟩
         · have d4a:(n==0)=false:=by simpa using h4
           have d4b:(n != 0)=true:=by simpa using h4
           replace h4:=hid h4
           have HY:=hid (show zf g.refs W M ⟨13,o,a,b,cc,n⟩ = false from by simp[zf,h0.out,h1.out,h2.out,h3.out,h4.out]);go_enter Tryz.func216,Tryz.ntmps216;go_wp2_with fail;go_ret;exact⟨by rw[HY.out];rfl,by rw[←HU.out];exact HB.out⟩
       · have d3a:(cc==0)=false:=by simpa using h3
         have d3b:(cc != 0)=true:=by simpa using h3
         replace h3:=hid h3
         have HY:=hid (show zf g.refs W M ⟨13,o,a,b,cc,n⟩ = false from by simp[zf,h0.out,h1.out,h2.out,h3.out]);go_enter Tryz.func216,Tryz.ntmps216;go_wp2_with fail;go_ret;exact⟨by rw[HY.out];rfl,by rw[←HU.out];exact HB.out⟩
     · have d2a:(b==0)=false:=by simpa using h2
       have d2b:(b != 0)=true:=by simpa using h2
       replace h2:=hid h2
       have HY:=hid (show zf g.refs W M ⟨13,o,a,b,cc,n⟩ = false from by simp[zf,h0.out,h1.out,h2.out]);go_enter Tryz.func216,Tryz.ntmps216;go_wp2_with fail;go_ret;exact⟨by rw[HY.out];rfl,by rw[←HU.out];exact HB.out⟩
   · have d1a:(a==0)=false:=by simpa using h1
     have d1b:(a != 0)=true:=by simpa using h1
     replace h1:=hid h1
     have HY:=hid (show zf g.refs W M ⟨13,o,a,b,cc,n⟩ = false from by simp[zf,h0.out,h1.out]);go_enter Tryz.func216,Tryz.ntmps216;go_wp2_with fail;go_ret;exact⟨by rw[HY.out];rfl,by rw[←HU.out];exact HB.out⟩
 · have d0a:(o==0)=false:=by simpa using h0
   have d0b:(o != 0)=true:=by simpa using h0
   replace h0:=hid h0
   have HY:=hid (show zf g.refs W M ⟨13,o,a,b,cc,n⟩ = false from by simp[zf,h0.out]);go_enter Tryz.func216,Tryz.ntmps216;go_wp2_with fail;go_ret;exact⟨by rw[HY.out];rfl,by rw[←HU.out];exact HB.out⟩
theorem Jr {w:World} {B c m:Nat} {g:Gr} {W:Int} {M:List Bool} (h:zG w B c m g W M) (o a b cc n:Int) :
 Calls Tryz.prog 216 #[.pointer (some ⟨c,0,none⟩),.agg #[.int .u8 14,.int .u8 o,.int .i64 a,.int .i64 b,.int .i64 cc,.int .i64 n]] w fun e w'=>e = .returned (.bool (zf g.refs W M ⟨14,o,a,b,cc,n⟩))∧Below w.heap.size w w':=by
 obtain⟨U,hU⟩:∃ U,U=w.alloc (.cells #[.int .u8 14,.int .u8 o,.int .i64 a,.int .i64 b,.int .i64 cc,.int .i64 n] 159):=⟨_,rfl⟩
 have hBU:Below w.heap.size w U:=by rw[hU];exact ze w _
 have hO:U.heap[w.heap.size]? = some (.cells #[.int .u8 14,.int .u8 o,.int .i64 a,.int .i64 b,.int .i64 cc,.int .i64 n] 159 (0,0)):=by rw[hU];exact (MapKept.heap_alloc _ _).1
 have HK:=hid (fun (V:World) (hv:Below U.heap.size U V)=>(h.keeps hBU).keeps hv);have HN:=hid (fun r=>wN (h.keeps hBU) r);have HR:=hid (fun r=>yS (h.keeps hBU) r);have HG:=hid (fun r=>y7 (h.keeps hBU) r);have HH:=hid (h.keeps hBU).here;have HZ:=hid (h.keeps hBU).base.2.2.2;have hlc:=(h.keeps hBU).lt.1;obtain⟨p0,p1,p2,p3,p4⟩:=zx (h.keeps hBU).box;obtain⟨q0,q1,q2,q3,q4,q5⟩:=zl hO;have HB:=hid hBU;have HU:=hid hU;rw[hU]at q0 q1 q2 q3 q4 q5;clear hBU hO hU h
 by_cases h0:o=0
 · have d0a:(o==0)=true:=by simpa using h0
   have d0b:(o != 0)=false:=by simpa using h0
   replace h0:=hid h0
   by_cases h1:a=0
   · have d1a:(a==0)=true:=by simpa using h1
     have d1b:(a != 0)=false:=by simpa using h1
     replace h1:=hid h1
     by_cases h2:b=0
     · have d2a:(b==0)=true:=by simpa using h2
       have d2b:(b != 0)=false:=by simpa using h2
       replace h2:=hid h2
       by_cases h3:cc=0
       · have d3a:(cc==0)=true:=by simpa using h3
         have d3b:(cc != 0)=false:=by simpa using h3
         replace h3:=hid h3
         by_cases h4:n=0
         · have d4a:(n==0)=true:=by simpa using h4
           have d4b:(n != 0)=false:=by simpa using h4
           replace h4:=hid h4
           have HY:=hid (show zf g.refs W M ⟨14,o,a,b,cc,n⟩ = true from by simp[zf,h0.out,h1.out,h2.out,h3.out,h4.out]);go_enter Tryz.func216,Tryz.ntmps216;go_wp2_with fail;go_ret;exact⟨by rw[HY.out];rfl,by rw[←HU.out];exact HB.out⟩
         · have d4a:(n==0)=false:=by simpa using h4
           have d4b:(n != 0)=true:=by simpa using h4
           replace h4:=hid h4
           have HY:=hid (show zf g.refs W M ⟨14,o,a,b,cc,n⟩ = false from by simp[zf,h0.out,h1.out,h2.out,h3.out,h4.out]);go_enter Tryz.func216,Tryz.ntmps216;go_wp2_with fail;go_ret;exact⟨by rw[HY.out];rfl,by rw[←HU.out];exact HB.out⟩
       · have d3a:(cc==0)=false:=by simpa using h3
         have d3b:(cc != 0)=true:=by simpa using h3
         replace h3:=hid h3
         have HY:=hid (show zf g.refs W M ⟨14,o,a,b,cc,n⟩ = false from by simp[zf,h0.out,h1.out,h2.out,h3.out]);go_enter Tryz.func216,Tryz.ntmps216;go_wp2_with fail;go_ret;exact⟨by rw[HY.out];rfl,by rw[←HU.out];exact HB.out⟩
     · have d2a:(b==0)=false:=by simpa using h2
       have d2b:(b != 0)=true:=by simpa using h2
       replace h2:=hid h2
       have HY:=hid (show zf g.refs W M ⟨14,o,a,b,cc,n⟩ = false from by simp[zf,h0.out,h1.out,h2.out]);go_enter Tryz.func216,Tryz.ntmps216;go_wp2_with fail;go_ret;exact⟨by rw[HY.out];rfl,by rw[←HU.out];exact HB.out⟩
   · have d1a:(a==0)=false:=by simpa using h1
     have d1b:(a != 0)=true:=by simpa using h1
     replace h1:=hid h1
     have HY:=hid (show zf g.refs W M ⟨14,o,a,b,cc,n⟩ = false from by simp[zf,h0.out,h1.out]);go_enter Tryz.func216,Tryz.ntmps216;go_wp2_with fail;go_ret;exact⟨by rw[HY.out];rfl,by rw[←HU.out];exact HB.out⟩
 · have d0a:(o==0)=false:=by simpa using h0
   have d0b:(o != 0)=true:=by simpa using h0
   replace h0:=hid h0
   have HY:=hid (show zf g.refs W M ⟨14,o,a,b,cc,n⟩ = false from by simp[zf,h0.out]);go_enter Tryz.func216,Tryz.ntmps216;go_wp2_with fail;go_ret;exact⟨by rw[HY.out];rfl,by rw[←HU.out];exact HB.out⟩
theorem zG.aside {w w':World} {B c m:Nat} {g:Gr} {W:Int} {M:List Bool} (h:zG w B c m g W M) (ha:Aside m w w') {M':List Bool} (hm:w'.heap[m]? = some (.cells (M'.map Value.bool).toArray 4 (0,0))) (hl:M'.length=M.length):zG w' B c m g W M':=
 ⟨by rw[hl];exact (ha.block c h.lt.1 h.base.2.2.1).trans h.box,hm,h.here.keeps (ha.below h.base.2.2.2 h.base.2.1),⟨h.base.1,h.base.2.1,h.base.2.2.1,Nat.le_trans h.base.2.2.2 ha.size⟩,h.words,by rw[hl];exact h.many,by rw[hl];exact h.sites⟩
theorem zG.marked {w:World} {B c m:Nat} {g:Gr} {W:Int} {M:List Bool} (h:zG w B c m g W M) (k:Nat):zG (w.setCell ⟨m,k,none⟩ (.bool true)) B c m g W (M.set k true):=by
 refine h.aside ((Aside.refl m w).set k _) ?_ (by simp);simp only[World.setCell,Array.getElem?_modify,if_true,h.made];simp
def xG (R M:List Bool) (i:In):List Bool:=if yT R M i=true then M.set i.c.toNat true else M
def FrE (w:World) (B c m:Nat) (g:Gr) (W:Int) (M':List Bool) (b:Bool) (e:Ending) (w':World):Prop:=e = .returned (.bool b)∧zG w' B c m g W M'∧Aside m w w'
theorem Jy {w:World} {B c m:Nat} {g:Gr} {W:Int} {M:List Bool} (h:zG w B c m g W M) (o a b cc n:Int) :
 Calls Tryz.prog 241 #[.pointer (some ⟨c,0,none⟩),.agg #[.int .u8 7,.int .u8 o,.int .i64 a,.int .i64 b,.int .i64 cc,.int .i64 n]] w (FrE w B c m g W (xG g.refs M ⟨7,o,a,b,cc,n⟩) (yT g.refs M ⟨7,o,a,b,cc,n⟩)):=by
 obtain⟨U,hU⟩:∃ U,U=w.alloc (.cells #[.int .u8 7,.int .u8 o,.int .i64 a,.int .i64 b,.int .i64 cc,.int .i64 n] 159):=⟨_,rfl⟩
 have hBU:Below w.heap.size w U:=by rw[hU];exact ze w _
 have hO:U.heap[w.heap.size]? = some (.cells #[.int .u8 7,.int .u8 o,.int .i64 a,.int .i64 b,.int .i64 cc,.int .i64 n] 159 (0,0)):=by rw[hU];exact (MapKept.heap_alloc _ _).1
 have HK:=hid (fun (V:World) (hv:Below U.heap.size U V)=>(h.keeps hBU).keeps hv);have hlc:=(h.keeps hBU).lt.1;have hlm:=(h.keeps hBU).lt.2;have hs:=h.sites;have hmk:=(h.keeps hBU).made;have HF:=hid (fun (k:Nat)=>Lib.frozen_of_heap hmk k)
 have HM:=hid (fun (k:Nat) (hk:k<M.length)=>(show U.cell? ⟨m,k,none⟩ = some (.bool (zm M (k:Int)))from by
  rw[Lib.cell_of_heap hmk];unfold zm;rw[Int.toNat_natCast];simp[hk]))
 have hq:=(h.keeps hBU).box;rw[hs]at hq;obtain⟨p0,p1,p2,p3,p4⟩:=zx hq;obtain⟨q0,q1,q2,q3,q4,q5⟩:=zl hO;have HB:=hid hBU;have HU:=hid hU;have hmany:=h.many;rw[hU]at q0 q1 q2 q3 q4 q5;clear hBU hO hU h hq hmk hs;cases h0:xS g.refs a with
 | false =>
  have HY:=hid (show yT g.refs M ⟨7,o,a,b,cc,n⟩ = false from by simp[yT,h0]);have HC0:=hid (fun (n:Nat)=>((yS (HK.out _ (below_drewN (Below.refl _ _) n)) a).mono fun e w' hh=>(show e = .returned (.bool false)∧∃ m,w'=U.drewN m from⟨by rw[hh.1,h0],n,hh.2.symm⟩):Calls Tryz.prog 239 #[.pointer (some ⟨c,0,none⟩),.int .i64 a] (U.drewN n) _));go_enter Tryz.func241,Tryz.ntmps241;go_wp2_with fail;rw[←HU.out];rw[←HU.out]at q0 q1 q2 q3 q4 q5
  go_quiet ((go_at_call 239;exact HC0.out _))
  go_wp2_with fail;go_ret;have hk:=HK.out (U.drewN nq) (below_drewN (Below.refl _ _) nq);have hM:xG g.refs M ⟨7,o,a,b,cc,n⟩ = M:=by unfold xG;rw[HY.out];rfl
  rw[hM,HY.out];exact⟨rfl,hk,Aside.of (below_drewN HB.out nq)⟩
 | true =>
  by_cases h1:b=0
  · have d1a:(b==0)=true:=by simpa using h1
    have d1b:(b != 0)=false:=by simpa using h1
    replace h1:=hid h1
    by_cases h2:n<1
    · have d2a:decide (n<1)=true:=by simpa using h2
      replace h2:=hid h2
      have HY:=hid (show yT g.refs M ⟨7,o,a,b,cc,n⟩ = false from by simp[yT,h0,h1.out,h2.out]);have HC0:=hid (fun (n:Nat)=>((yS (HK.out _ (below_drewN (Below.refl _ _) n)) a).mono fun e w' hh=>(show e = .returned (.bool true)∧∃ m,w'=U.drewN m from⟨by rw[hh.1,h0],n,hh.2.symm⟩):Calls Tryz.prog 239 #[.pointer (some ⟨c,0,none⟩),.int .i64 a] (U.drewN n) _));go_enter Tryz.func241,Tryz.ntmps241;go_wp2_with fail;rw[←HU.out];rw[←HU.out]at q0 q1 q2 q3 q4 q5
      go_quiet ((go_at_call 239;exact HC0.out _))
      go_wp2_with fail;go_ret;have hk:=HK.out (U.drewN nq) (below_drewN (Below.refl _ _) nq);have hM:xG g.refs M ⟨7,o,a,b,cc,n⟩ = M:=by unfold xG;rw[HY.out];rfl
      rw[hM,HY.out];exact⟨rfl,hk,Aside.of (below_drewN HB.out nq)⟩
    · have d2a:decide (n<1)=false:=by simpa using h2
      replace h2:=hid h2
      by_cases h3:64<n
      · have d3a:decide (64<n)=true:=by simpa using h3
        replace h3:=hid h3
        have HY:=hid (show yT g.refs M ⟨7,o,a,b,cc,n⟩ = false from by simp[yT,h0,h1.out,h2.out,h3.out]);have HC0:=hid (fun (n:Nat)=>((yS (HK.out _ (below_drewN (Below.refl _ _) n)) a).mono fun e w' hh=>(show e = .returned (.bool true)∧∃ m,w'=U.drewN m from⟨by rw[hh.1,h0],n,hh.2.symm⟩):Calls Tryz.prog 239 #[.pointer (some ⟨c,0,none⟩),.int .i64 a] (U.drewN n) _));go_enter Tryz.func241,Tryz.ntmps241;go_wp2_with fail;rw[←HU.out];rw[←HU.out]at q0 q1 q2 q3 q4 q5
        go_quiet ((go_at_call 239;exact HC0.out _))
        go_wp2_with fail;go_ret;have hk:=HK.out (U.drewN nq) (below_drewN (Below.refl _ _) nq);have hM:xG g.refs M ⟨7,o,a,b,cc,n⟩ = M:=by unfold xG;rw[HY.out];rfl
        rw[hM,HY.out];exact⟨rfl,hk,Aside.of (below_drewN HB.out nq)⟩
      · have d3a:decide (64<n)=false:=by simpa using h3
        replace h3:=hid h3
        by_cases h4:cc<0
        · have d4a:decide (cc<0)=true:=by simpa using h4
          replace h4:=hid h4
          have HY:=hid (show yT g.refs M ⟨7,o,a,b,cc,n⟩ = false from by simp[yT,h0,h1.out,h2.out,h3.out,h4.out]);have HC0:=hid (fun (n:Nat)=>((yS (HK.out _ (below_drewN (Below.refl _ _) n)) a).mono fun e w' hh=>(show e = .returned (.bool true)∧∃ m,w'=U.drewN m from⟨by rw[hh.1,h0],n,hh.2.symm⟩):Calls Tryz.prog 239 #[.pointer (some ⟨c,0,none⟩),.int .i64 a] (U.drewN n) _));go_enter Tryz.func241,Tryz.ntmps241;go_wp2_with fail;rw[←HU.out];rw[←HU.out]at q0 q1 q2 q3 q4 q5
          go_quiet ((go_at_call 239;exact HC0.out _))
          go_wp2_with fail;go_ret;have hk:=HK.out (U.drewN nq) (below_drewN (Below.refl _ _) nq);have hM:xG g.refs M ⟨7,o,a,b,cc,n⟩ = M:=by unfold xG;rw[HY.out];rfl
          rw[hM,HY.out];exact⟨rfl,hk,Aside.of (below_drewN HB.out nq)⟩
        · have d4a:decide (cc<0)=false:=by simpa using h4
          replace h4:=hid h4
          by_cases h5:(M.length:Int)≤cc
          · have d5a:decide ((M.length:Int)≤cc)=true:=by simpa using h5
            replace h5:=hid h5
            have HY:=hid (show yT g.refs M ⟨7,o,a,b,cc,n⟩ = false from by simp[yT,h0,h1.out,h2.out,h3.out,h4.out,h5.out]);have HC0:=hid (fun (n:Nat)=>((yS (HK.out _ (below_drewN (Below.refl _ _) n)) a).mono fun e w' hh=>(show e = .returned (.bool true)∧∃ m,w'=U.drewN m from⟨by rw[hh.1,h0],n,hh.2.symm⟩):Calls Tryz.prog 239 #[.pointer (some ⟨c,0,none⟩),.int .i64 a] (U.drewN n) _));go_enter Tryz.func241,Tryz.ntmps241;go_wp2_with fail;rw[←HU.out];rw[←HU.out]at q0 q1 q2 q3 q4 q5
            go_quiet ((go_at_call 239;exact HC0.out _))
            go_wp2_with fail;go_ret;have hk:=HK.out (U.drewN nq) (below_drewN (Below.refl _ _) nq);have hM:xG g.refs M ⟨7,o,a,b,cc,n⟩ = M:=by unfold xG;rw[HY.out];rfl
            rw[hM,HY.out];exact⟨rfl,hk,Aside.of (below_drewN HB.out nq)⟩
          · have d5a:decide ((M.length:Int)≤cc)=false:=by simpa using h5
            replace h5:=hid h5
            obtain⟨nc,rfl⟩:∃ k:Nat,cc=(k:Int):=⟨cc.toNat,by have:=h4.out;omega⟩
            have hnc:nc<M.length:=by have:=h5.out;omega
            have r1:=HM.out nc hnc;have f1:=HF.out nc;have i1:(nc:Int)<(M.length:Int):=by omega
            cases h6:zm M (nc:Int)with
            | false =>
             rw[h6]at r1;have HY:=hid (show yT g.refs M ⟨7,o,a,b,(nc:Int),n⟩ = true from by simp[yT,h0,h1.out,h2.out,h3.out,h4.out,h5.out,h6]);have HC0:=hid (fun (n:Nat)=>((yS (HK.out _ (below_drewN (Below.refl _ _) n)) a).mono fun e w' hh=>(show e = .returned (.bool true)∧∃ m,w'=U.drewN m from⟨by rw[hh.1,h0],n,hh.2.symm⟩):Calls Tryz.prog 239 #[.pointer (some ⟨c,0,none⟩),.int .i64 a] (U.drewN n) _));go_enter Tryz.func241,Tryz.ntmps241;go_wp2_with fail;rw[←HU.out];rw[←HU.out]at q0 q1 q2 q3 q4 q5
             go_quiet ((go_at_call 239;exact HC0.out _))
             go_wp2_with fail;refine yJ 7 (by kernel_rfl) (by kernel_rfl) (fun w2 hw2=>?_);have p4:=dc hw2 (w:=U.drewN nq) p4;have q4:=dc hw2 (w:=U.drewN nq) q4;have f1:=df hw2 (w:=U.drewN nq) f1;have hk:=HK.out w2 (by rw[hw2];exact (below_drewN (Below.refl _ _) nq).drew);have hlm:=hk.lt.2;have r1:=dc hw2 (w:=U.drewN nq) r1;have HKM:=hid (hk.marked nc);have HAS:=hid ((show Aside m w w2 from by rw[hw2];exact (Aside.of (m:=m) (below_drewN HB.out nq)).drew).set nc (.bool true));clear hk hw2;simp only[List.take_succ_cons,List.take_zero,List.drop_succ_cons,List.drop_zero]
             repeat still_step
             refine wpStill_nil ?_;go_wp2_with fail;go_ret;have hM:xG g.refs M ⟨7,o,a,b,(nc:Int),n⟩ = M.set nc true:=by unfold xG;rw[HY.out];simp
             rw[hM,HY.out];exact⟨rfl,HKM.out,HAS.out⟩
            | true =>
             rw[h6]at r1;have HY:=hid (show yT g.refs M ⟨7,o,a,b,(nc:Int),n⟩ = false from by simp[yT,h0,h1.out,h2.out,h3.out,h4.out,h5.out,h6]);have HC0:=hid (fun (n:Nat)=>((yS (HK.out _ (below_drewN (Below.refl _ _) n)) a).mono fun e w' hh=>(show e = .returned (.bool true)∧∃ m,w'=U.drewN m from⟨by rw[hh.1,h0],n,hh.2.symm⟩):Calls Tryz.prog 239 #[.pointer (some ⟨c,0,none⟩),.int .i64 a] (U.drewN n) _));go_enter Tryz.func241,Tryz.ntmps241;go_wp2_with fail;rw[←HU.out];rw[←HU.out]at q0 q1 q2 q3 q4 q5
             go_quiet ((go_at_call 239;exact HC0.out _))
             go_wp2_with fail;go_ret;have hk:=HK.out (U.drewN nq) (below_drewN (Below.refl _ _) nq);have hM:xG g.refs M ⟨7,o,a,b,(nc:Int),n⟩ = M:=by unfold xG;rw[HY.out];rfl
             rw[hM,HY.out];exact⟨rfl,hk,Aside.of (below_drewN HB.out nq)⟩
  · have d1a:(b==0)=false:=by simpa using h1
    have d1b:(b != 0)=true:=by simpa using h1
    replace h1:=hid h1
    have HY:=hid (show yT g.refs M ⟨7,o,a,b,cc,n⟩ = false from by simp[yT,h0,h1.out]);have HC0:=hid (fun (n:Nat)=>((yS (HK.out _ (below_drewN (Below.refl _ _) n)) a).mono fun e w' hh=>(show e = .returned (.bool true)∧∃ m,w'=U.drewN m from⟨by rw[hh.1,h0],n,hh.2.symm⟩):Calls Tryz.prog 239 #[.pointer (some ⟨c,0,none⟩),.int .i64 a] (U.drewN n) _));go_enter Tryz.func241,Tryz.ntmps241;go_wp2_with fail;rw[←HU.out];rw[←HU.out]at q0 q1 q2 q3 q4 q5
    go_quiet ((go_at_call 239;exact HC0.out _))
    go_wp2_with fail;go_ret;have hk:=HK.out (U.drewN nq) (below_drewN (Below.refl _ _) nq);have hM:xG g.refs M ⟨7,o,a,b,cc,n⟩ = M:=by unfold xG;rw[HY.out];rfl
    rw[hM,HY.out];exact⟨rfl,hk,Aside.of (below_drewN HB.out nq)⟩
theorem Jl {w:World} {B c m:Nat} {g:Gr} {W:Int} {M:List Bool} (h:zG w B c m g W M) (o a b cc n:Int) :
 Calls Tryz.prog 216 #[.pointer (some ⟨c,0,none⟩),.agg #[.int .u8 7,.int .u8 o,.int .i64 a,.int .i64 b,.int .i64 cc,.int .i64 n]] w (FrE w B c m g W (if o=0 then xG g.refs M ⟨7,o,a,b,cc,n⟩ else M) (zf g.refs W M ⟨7,o,a,b,cc,n⟩)):=by
 obtain⟨U,hU⟩:∃ U,U=w.alloc (.cells #[.int .u8 7,.int .u8 o,.int .i64 a,.int .i64 b,.int .i64 cc,.int .i64 n] 159):=⟨_,rfl⟩
 have hBU:Below w.heap.size w U:=by rw[hU];exact ze w _
 have hO:U.heap[w.heap.size]? = some (.cells #[.int .u8 7,.int .u8 o,.int .i64 a,.int .i64 b,.int .i64 cc,.int .i64 n] 159 (0,0)):=by rw[hU];exact (MapKept.heap_alloc _ _).1
 have HC:=hid (Jy (h.keeps hBU) o a b cc n);have HK:=hid (h.keeps hBU);obtain⟨q0,q1,q2,q3,q4,q5⟩:=zl hO;have HB:=hid hBU;have HU:=hid hU;rw[hU]at q0 q1 q2 q3 q4 q5;clear hBU hO hU h
 by_cases h0:o=0
 · have d0a:(o==0)=true:=by simpa using h0
   have d0b:(o != 0)=false:=by simpa using h0
   replace h0:=hid h0
   have HY:=hid (show zf g.refs W M ⟨7,o,a,b,cc,n⟩ = yT g.refs M ⟨7,o,a,b,cc,n⟩from by simp[zf,h0.out]);rw[HY.out,if_pos h0.out];go_enter Tryz.func216,Tryz.ntmps216;go_wp2_with fail;rw[←HU.out];refine HC.out.mono ?_;rintro e w2 ⟨rfl,hk,ha⟩;have H2:=hid (And.intro hk ((Aside.of HB.out).trans ha));clear hk ha;go_wp2_with fail;go_ret;exact⟨rfl,H2.out.1,H2.out.2⟩
 · have d0a:(o==0)=false:=by simpa using h0
   have d0b:(o != 0)=true:=by simpa using h0
   replace h0:=hid h0
   have HY:=hid (show zf g.refs W M ⟨7,o,a,b,cc,n⟩ = false from by simp[zf,h0.out]);rw[HY.out,if_neg h0.out];go_enter Tryz.func216,Tryz.ntmps216;go_wp2_with fail;rw[←HU.out];go_ret;exact⟨rfl,HK.out,Aside.of HB.out⟩
