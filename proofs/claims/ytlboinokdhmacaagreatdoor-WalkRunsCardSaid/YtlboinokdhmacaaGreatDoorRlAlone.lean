import Derived.Test.YtlboinokdhmacaaGreatDoorRlFresh
import Derived.Test.YtlboinokdhmacaaGreatDoorRlLast
namespace Go.Proofs.YtlboinokdhmacaaGreatDoor
set_option maxHeartbeats 64000000
set_option maxRecDepth 1000000
open Lib(hid)
open Go.RowKit
attribute [local go_sem ↓] zL zJ
theorem Jw {w:World} {B c m:Nat} {g:Gr} {W:Int} {M:List Bool} (h:zG w B c m g W M) (o a b cc n:Int) :
 Calls Tryz.prog 216 #[.pointer (some ⟨c,0,none⟩),.agg #[.int .u8 1,.int .u8 o,.int .i64 a,.int .i64 b,.int .i64 cc,.int .i64 n]] w fun e w'=>e = .returned (.bool (zf g.refs W M ⟨1,o,a,b,cc,n⟩))∧Below w.heap.size w w':=by
 obtain⟨U,hU⟩:∃ U,U=w.alloc (.cells #[.int .u8 1,.int .u8 o,.int .i64 a,.int .i64 b,.int .i64 cc,.int .i64 n] 159):=⟨_,rfl⟩
 have hBU:Below w.heap.size w U:=by rw[hU];exact ze w _
 have hO:U.heap[w.heap.size]? = some (.cells #[.int .u8 1,.int .u8 o,.int .i64 a,.int .i64 b,.int .i64 cc,.int .i64 n] 159 (0,0)):=by rw[hU];exact (MapKept.heap_alloc _ _).1
 have HK:=hid (fun (V:World) (hv:Below U.heap.size U V)=>(h.keeps hBU).keeps hv);have HN:=hid (fun r=>wN (h.keeps hBU) r);have HR:=hid (fun r=>yS (h.keeps hBU) r);have HG:=hid (fun r=>y7 (h.keeps hBU) r);have HH:=hid (h.keeps hBU).here;have HZ:=hid (h.keeps hBU).base.2.2.2;have hlc:=(h.keeps hBU).lt.1;obtain⟨p0,p1,p2,p3,p4⟩:=zx (h.keeps hBU).box;obtain⟨q0,q1,q2,q3,q4,q5⟩:=zl hO;have HB:=hid hBU;have HU:=hid hU;rw[hU]at q0 q1 q2 q3 q4 q5;clear hBU hO hU h
 by_cases h0:o=0
 · have d0a:(o==0)=true:=by simpa using h0
   have d0b:(o != 0)=false:=by simpa using h0
   replace h0:=hid h0
   cases h1:zg g.refs a with
   | false =>
    have HY:=hid (show zf g.refs W M ⟨1,o,a,b,cc,n⟩ = false from by simp[zf,h0.out,h1]);have HC0:=hid (fun (n:Nat)=>((y7 (HK.out _ (below_drewN (Below.refl _ _) n)) a).mono fun e w' hh=>(show e = .returned (.bool false)∧∃ m,w'=U.drewN m from⟨by rw[hh.1,h1],n,hh.2.symm⟩):Calls Tryz.prog 237 #[.pointer (some ⟨c,0,none⟩),.int .i64 a] (U.drewN n) _));go_enter Tryz.func216,Tryz.ntmps216;go_wp2_with fail;rw[←HU.out];rw[←HU.out]at q0 q1 q2 q3 q4 q5
    go_quiet (first|(go_at_call 237;exact HC0.out _))
    go_wp2_with fail;go_ret;exact⟨by rw[HY.out];rfl,below_drewN HB.out _⟩
   | true =>
    obtain⟨ba,offa,capa,era,hba⟩:=jB HH.out h1;obtain⟨na,ea,la⟩:=jC h1;subst ea;have ta:=HH.out.rlies.bit era na la;rw[era]at p0;have hlb:ba<U.heap.size:=by have:=HZ.out;omega
    by_cases h2:b=0
    · have d2a:(b==0)=true:=by simpa using h2
      have d2b:(b != 0)=false:=by simpa using h2
      replace h2:=hid h2
      by_cases h3:cc=0
      · have d3a:(cc==0)=true:=by simpa using h3
        have d3b:(cc != 0)=false:=by simpa using h3
        replace h3:=hid h3
        cases h4:zm g.refs (na:Int)with
        | false =>
         rw[h4]at ta;have HY:=hid (show zf g.refs W M ⟨1,o,(na:Int),b,cc,n⟩ = true from by simp[zf,h0.out,h1,h2.out,h3.out,h4]);have HC0:=hid (fun (n:Nat)=>((y7 (HK.out _ (below_drewN (Below.refl _ _) n)) (na:Int)).mono fun e w' hh=>(show e = .returned (.bool true)∧∃ m,w'=U.drewN m from⟨by rw[hh.1,h1],n,hh.2.symm⟩):Calls Tryz.prog 237 #[.pointer (some ⟨c,0,none⟩),.int .i64 (na:Int)] (U.drewN n) _));go_enter Tryz.func216,Tryz.ntmps216;go_wp2_with fail;rw[←HU.out];rw[←HU.out]at q0 q1 q2 q3 q4 q5
         go_quiet (first|(go_at_call 237;exact HC0.out _))
         go_wp2_with fail;go_ret;exact⟨by rw[HY.out];rfl,below_drewN HB.out _⟩
        | true =>
         rw[h4]at ta
         by_cases h5:n=0
         · have d5a:(n==0)=true:=by simpa using h5
           have d5b:(n != 0)=false:=by simpa using h5
           replace h5:=hid h5
           have HY:=hid (show zf g.refs W M ⟨1,o,(na:Int),b,cc,n⟩ = true from by simp[zf,h0.out,h1,h2.out,h3.out,h4,h5.out]);have HC0:=hid (fun (n:Nat)=>((y7 (HK.out _ (below_drewN (Below.refl _ _) n)) (na:Int)).mono fun e w' hh=>(show e = .returned (.bool true)∧∃ m,w'=U.drewN m from⟨by rw[hh.1,h1],n,hh.2.symm⟩):Calls Tryz.prog 237 #[.pointer (some ⟨c,0,none⟩),.int .i64 (na:Int)] (U.drewN n) _));go_enter Tryz.func216,Tryz.ntmps216;go_wp2_with fail;rw[←HU.out];rw[←HU.out]at q0 q1 q2 q3 q4 q5
           go_quiet (first|(go_at_call 237;exact HC0.out _))
           go_wp2_with fail;go_ret;exact⟨by rw[HY.out];rfl,below_drewN HB.out _⟩
         · have d5a:(n==0)=false:=by simpa using h5
           have d5b:(n != 0)=true:=by simpa using h5
           replace h5:=hid h5
           have HY:=hid (show zf g.refs W M ⟨1,o,(na:Int),b,cc,n⟩ = false from by simp[zf,h0.out,h1,h2.out,h3.out,h4,h5.out]);have HC0:=hid (fun (n:Nat)=>((y7 (HK.out _ (below_drewN (Below.refl _ _) n)) (na:Int)).mono fun e w' hh=>(show e = .returned (.bool true)∧∃ m,w'=U.drewN m from⟨by rw[hh.1,h1],n,hh.2.symm⟩):Calls Tryz.prog 237 #[.pointer (some ⟨c,0,none⟩),.int .i64 (na:Int)] (U.drewN n) _));go_enter Tryz.func216,Tryz.ntmps216;go_wp2_with fail;rw[←HU.out];rw[←HU.out]at q0 q1 q2 q3 q4 q5
           go_quiet (first|(go_at_call 237;exact HC0.out _))
           go_wp2_with fail;go_ret;exact⟨by rw[HY.out];rfl,below_drewN HB.out _⟩
      · have d3a:(cc==0)=false:=by simpa using h3
        have d3b:(cc != 0)=true:=by simpa using h3
        replace h3:=hid h3
        have HY:=hid (show zf g.refs W M ⟨1,o,(na:Int),b,cc,n⟩ = false from by simp[zf,h0.out,h1,h2.out,h3.out]);have HC0:=hid (fun (n:Nat)=>((y7 (HK.out _ (below_drewN (Below.refl _ _) n)) (na:Int)).mono fun e w' hh=>(show e = .returned (.bool true)∧∃ m,w'=U.drewN m from⟨by rw[hh.1,h1],n,hh.2.symm⟩):Calls Tryz.prog 237 #[.pointer (some ⟨c,0,none⟩),.int .i64 (na:Int)] (U.drewN n) _));go_enter Tryz.func216,Tryz.ntmps216;go_wp2_with fail;rw[←HU.out];rw[←HU.out]at q0 q1 q2 q3 q4 q5
        go_quiet (first|(go_at_call 237;exact HC0.out _))
        go_wp2_with fail;go_ret;exact⟨by rw[HY.out];rfl,below_drewN HB.out _⟩
    · have d2a:(b==0)=false:=by simpa using h2
      have d2b:(b != 0)=true:=by simpa using h2
      replace h2:=hid h2
      have HY:=hid (show zf g.refs W M ⟨1,o,(na:Int),b,cc,n⟩ = false from by simp[zf,h0.out,h1,h2.out]);have HC0:=hid (fun (n:Nat)=>((y7 (HK.out _ (below_drewN (Below.refl _ _) n)) (na:Int)).mono fun e w' hh=>(show e = .returned (.bool true)∧∃ m,w'=U.drewN m from⟨by rw[hh.1,h1],n,hh.2.symm⟩):Calls Tryz.prog 237 #[.pointer (some ⟨c,0,none⟩),.int .i64 (na:Int)] (U.drewN n) _));go_enter Tryz.func216,Tryz.ntmps216;go_wp2_with fail;rw[←HU.out];rw[←HU.out]at q0 q1 q2 q3 q4 q5
      go_quiet (first|(go_at_call 237;exact HC0.out _))
      go_wp2_with fail;go_ret;exact⟨by rw[HY.out];rfl,below_drewN HB.out _⟩
 · have d0a:(o==0)=false:=by simpa using h0
   have d0b:(o != 0)=true:=by simpa using h0
   replace h0:=hid h0
   have HY:=hid (show zf g.refs W M ⟨1,o,a,b,cc,n⟩ = false from by simp[zf,h0.out]);go_enter Tryz.func216,Tryz.ntmps216;go_wp2_with fail;go_ret;exact⟨by rw[HY.out];rfl,by rw[←HU.out];exact HB.out⟩
theorem Jp {w:World} {B c m:Nat} {g:Gr} {W:Int} {M:List Bool} (h:zG w B c m g W M) (o a b cc n:Int) (ho:0≤o∧o≤255) :
 Calls Tryz.prog 216 #[.pointer (some ⟨c,0,none⟩),.agg #[.int .u8 3,.int .u8 o,.int .i64 a,.int .i64 b,.int .i64 cc,.int .i64 n]] w fun e w'=>e = .returned (.bool (zf g.refs W M ⟨3,o,a,b,cc,n⟩))∧Below w.heap.size w w':=by
 obtain⟨U,hU⟩:∃ U,U=w.alloc (.cells #[.int .u8 3,.int .u8 o,.int .i64 a,.int .i64 b,.int .i64 cc,.int .i64 n] 159):=⟨_,rfl⟩
 have hBU:Below w.heap.size w U:=by rw[hU];exact ze w _
 have hO:U.heap[w.heap.size]? = some (.cells #[.int .u8 3,.int .u8 o,.int .i64 a,.int .i64 b,.int .i64 cc,.int .i64 n] 159 (0,0)):=by rw[hU];exact (MapKept.heap_alloc _ _).1
 have HC:=hid (JO (h.keeps hBU) 3 o a b cc n ho);obtain⟨q0,q1,q2,q3,q4,q5⟩:=zl hO;have HB:=hid hBU;have HU:=hid hU;rw[hU]at q0 q1 q2 q3 q4 q5;clear hBU hO hU h;have HY:=hid (show zf g.refs W M ⟨3,o,a,b,cc,n⟩ = zO g.refs ⟨3,o,a,b,cc,n⟩from by simp[zf]);rw[HY.out];go_enter Tryz.func216,Tryz.ntmps216;go_wp2_with fail;rw[←HU.out];refine HC.out.mono ?_;rintro e w2 ⟨rfl,hb⟩;have HB2:=hid (HB.out.trans (hb.mono HB.out.size));clear hb;go_wp2_with fail;go_ret;exact⟨rfl,HB2.out⟩
theorem Jk {w:World} {B c m:Nat} {g:Gr} {W:Int} {M:List Bool} (h:zG w B c m g W M) (o a b cc n:Int) (ho:0≤o∧o≤255) :
 Calls Tryz.prog 216 #[.pointer (some ⟨c,0,none⟩),.agg #[.int .u8 8,.int .u8 o,.int .i64 a,.int .i64 b,.int .i64 cc,.int .i64 n]] w fun e w'=>e = .returned (.bool (zf g.refs W M ⟨8,o,a,b,cc,n⟩))∧Below w.heap.size w w':=by
 obtain⟨U,hU⟩:∃ U,U=w.alloc (.cells #[.int .u8 8,.int .u8 o,.int .i64 a,.int .i64 b,.int .i64 cc,.int .i64 n] 159):=⟨_,rfl⟩
 have hBU:Below w.heap.size w U:=by rw[hU];exact ze w _
 have hO:U.heap[w.heap.size]? = some (.cells #[.int .u8 8,.int .u8 o,.int .i64 a,.int .i64 b,.int .i64 cc,.int .i64 n] 159 (0,0)):=by rw[hU];exact (MapKept.heap_alloc _ _).1
 have HC:=hid (ku (h.keeps hBU) 8 o a b cc n ho);obtain⟨q0,q1,q2,q3,q4,q5⟩:=zl hO;have HB:=hid hBU;have HU:=hid hU;rw[hU]at q0 q1 q2 q3 q4 q5;clear hBU hO hU h
 by_cases h0:o=0
 · have d0a:(o==0)=true:=by simpa using h0
   have d0b:(o != 0)=false:=by simpa using h0
   replace h0:=hid h0
   have HY:=hid (show zf g.refs W M ⟨8,o,a,b,cc,n⟩ = yI g.refs ⟨8,o,a,b,cc,n⟩from by simp[zf,h0.out]);rw[HY.out];go_enter Tryz.func216,Tryz.ntmps216;go_wp2_with fail;rw[←HU.out];refine HC.out.mono ?_;rintro e w2 ⟨rfl,hb⟩;have HB2:=hid (HB.out.trans (hb.mono HB.out.size));clear hb;go_wp2_with fail;go_ret;exact⟨rfl,HB2.out⟩
 · have d0a:(o==0)=false:=by simpa using h0
   have d0b:(o != 0)=true:=by simpa using h0
   replace h0:=hid h0
   have HY:=hid (show zf g.refs W M ⟨8,o,a,b,cc,n⟩ = false from by simp[zf,h0.out]);go_enter Tryz.func216,Tryz.ntmps216;go_wp2_with fail;go_ret;exact⟨by rw[HY.out];rfl,by rw[←HU.out];exact HB.out⟩
theorem Jj {w:World} {B c m:Nat} {g:Gr} {W:Int} {M:List Bool} (h:zG w B c m g W M) (o a b cc n:Int) (ho:0≤o∧o≤255) :
 Calls Tryz.prog 216 #[.pointer (some ⟨c,0,none⟩),.agg #[.int .u8 9,.int .u8 o,.int .i64 a,.int .i64 b,.int .i64 cc,.int .i64 n]] w fun e w'=>e = .returned (.bool (zf g.refs W M ⟨9,o,a,b,cc,n⟩))∧Below w.heap.size w w':=by
 obtain⟨U,hU⟩:∃ U,U=w.alloc (.cells #[.int .u8 9,.int .u8 o,.int .i64 a,.int .i64 b,.int .i64 cc,.int .i64 n] 159):=⟨_,rfl⟩
 have hBU:Below w.heap.size w U:=by rw[hU];exact ze w _
 have hO:U.heap[w.heap.size]? = some (.cells #[.int .u8 9,.int .u8 o,.int .i64 a,.int .i64 b,.int .i64 cc,.int .i64 n] 159 (0,0)):=by rw[hU];exact (MapKept.heap_alloc _ _).1
 have HC:=hid (ku (h.keeps hBU) 9 o a b cc n ho);obtain⟨q0,q1,q2,q3,q4,q5⟩:=zl hO;have HB:=hid hBU;have HU:=hid hU;rw[hU]at q0 q1 q2 q3 q4 q5;clear hBU hO hU h
 by_cases h0:o=0
 · have d0a:(o==0)=true:=by simpa using h0
   have d0b:(o != 0)=false:=by simpa using h0
   replace h0:=hid h0
   have HY:=hid (show zf g.refs W M ⟨9,o,a,b,cc,n⟩ = yI g.refs ⟨9,o,a,b,cc,n⟩from by simp[zf,h0.out]);rw[HY.out];go_enter Tryz.func216,Tryz.ntmps216;go_wp2_with fail;rw[←HU.out];refine HC.out.mono ?_;rintro e w2 ⟨rfl,hb⟩;have HB2:=hid (HB.out.trans (hb.mono HB.out.size));clear hb;go_wp2_with fail;go_ret;exact⟨rfl,HB2.out⟩
 · have d0a:(o==0)=false:=by simpa using h0
   have d0b:(o != 0)=true:=by simpa using h0
   replace h0:=hid h0
   have HY:=hid (show zf g.refs W M ⟨9,o,a,b,cc,n⟩ = false from by simp[zf,h0.out]);go_enter Tryz.func216,Tryz.ntmps216;go_wp2_with fail;go_ret;exact⟨by rw[HY.out];rfl,by rw[←HU.out];exact HB.out⟩
theorem Jv {w:World} {B c m:Nat} {g:Gr} {W:Int} {M:List Bool} (h:zG w B c m g W M) (o a b cc n:Int) (ho:0≤o∧o≤255) :
 Calls Tryz.prog 216 #[.pointer (some ⟨c,0,none⟩),.agg #[.int .u8 10,.int .u8 o,.int .i64 a,.int .i64 b,.int .i64 cc,.int .i64 n]] w fun e w'=>e = .returned (.bool (zf g.refs W M ⟨10,o,a,b,cc,n⟩))∧Below w.heap.size w w':=by
 obtain⟨U,hU⟩:∃ U,U=w.alloc (.cells #[.int .u8 10,.int .u8 o,.int .i64 a,.int .i64 b,.int .i64 cc,.int .i64 n] 159):=⟨_,rfl⟩
 have hBU:Below w.heap.size w U:=by rw[hU];exact ze w _
 have hO:U.heap[w.heap.size]? = some (.cells #[.int .u8 10,.int .u8 o,.int .i64 a,.int .i64 b,.int .i64 cc,.int .i64 n] 159 (0,0)):=by rw[hU];exact (MapKept.heap_alloc _ _).1
 have HC:=hid (ku (h.keeps hBU) 10 o a b cc n ho);obtain⟨q0,q1,q2,q3,q4,q5⟩:=zl hO;have HB:=hid hBU;have HU:=hid hU;rw[hU]at q0 q1 q2 q3 q4 q5;clear hBU hO hU h
 by_cases h0:o=0
 · have d0a:(o==0)=true:=by simpa using h0
   have d0b:(o != 0)=false:=by simpa using h0
   replace h0:=hid h0
   have HY:=hid (show zf g.refs W M ⟨10,o,a,b,cc,n⟩ = yI g.refs ⟨10,o,a,b,cc,n⟩from by simp[zf,h0.out]);rw[HY.out];go_enter Tryz.func216,Tryz.ntmps216;go_wp2_with fail;rw[←HU.out];refine HC.out.mono ?_;rintro e w2 ⟨rfl,hb⟩;have HB2:=hid (HB.out.trans (hb.mono HB.out.size));clear hb;go_wp2_with fail;go_ret;exact⟨rfl,HB2.out⟩
 · have d0a:(o==0)=false:=by simpa using h0
   have d0b:(o != 0)=true:=by simpa using h0
   replace h0:=hid h0
   have HY:=hid (show zf g.refs W M ⟨10,o,a,b,cc,n⟩ = false from by simp[zf,h0.out]);go_enter Tryz.func216,Tryz.ntmps216;go_wp2_with fail;go_ret;exact⟨by rw[HY.out];rfl,by rw[←HU.out];exact HB.out⟩
theorem Ju {w:World} {B c m:Nat} {g:Gr} {W:Int} {M:List Bool} (h:zG w B c m g W M) (o a b cc n:Int) (ho:0≤o∧o≤255) :
 Calls Tryz.prog 216 #[.pointer (some ⟨c,0,none⟩),.agg #[.int .u8 11,.int .u8 o,.int .i64 a,.int .i64 b,.int .i64 cc,.int .i64 n]] w fun e w'=>e = .returned (.bool (zf g.refs W M ⟨11,o,a,b,cc,n⟩))∧Below w.heap.size w w':=by
 obtain⟨U,hU⟩:∃ U,U=w.alloc (.cells #[.int .u8 11,.int .u8 o,.int .i64 a,.int .i64 b,.int .i64 cc,.int .i64 n] 159):=⟨_,rfl⟩
 have hBU:Below w.heap.size w U:=by rw[hU];exact ze w _
 have hO:U.heap[w.heap.size]? = some (.cells #[.int .u8 11,.int .u8 o,.int .i64 a,.int .i64 b,.int .i64 cc,.int .i64 n] 159 (0,0)):=by rw[hU];exact (MapKept.heap_alloc _ _).1
 have HC:=hid (ku (h.keeps hBU) 11 o a b cc n ho);obtain⟨q0,q1,q2,q3,q4,q5⟩:=zl hO;have HB:=hid hBU;have HU:=hid hU;rw[hU]at q0 q1 q2 q3 q4 q5;clear hBU hO hU h
 by_cases h0:o=0
 · have d0a:(o==0)=true:=by simpa using h0
   have d0b:(o != 0)=false:=by simpa using h0
   replace h0:=hid h0
   have HY:=hid (show zf g.refs W M ⟨11,o,a,b,cc,n⟩ = yI g.refs ⟨11,o,a,b,cc,n⟩from by simp[zf,h0.out]);rw[HY.out];go_enter Tryz.func216,Tryz.ntmps216;go_wp2_with fail;rw[←HU.out];refine HC.out.mono ?_;rintro e w2 ⟨rfl,hb⟩;have HB2:=hid (HB.out.trans (hb.mono HB.out.size));clear hb;go_wp2_with fail;go_ret;exact⟨rfl,HB2.out⟩
 · have d0a:(o==0)=false:=by simpa using h0
   have d0b:(o != 0)=true:=by simpa using h0
   replace h0:=hid h0
   have HY:=hid (show zf g.refs W M ⟨11,o,a,b,cc,n⟩ = false from by simp[zf,h0.out]);go_enter Tryz.func216,Tryz.ntmps216;go_wp2_with fail;go_ret;exact⟨by rw[HY.out];rfl,by rw[←HU.out];exact HB.out⟩
theorem Jh {w:World} {B c m:Nat} {g:Gr} {W:Int} {M:List Bool} (_h:zG w B c m g W M) (k o a b cc n:Int) (hk:k<1∨14<k) :
 Calls Tryz.prog 216 #[.pointer (some ⟨c,0,none⟩),.agg #[.int .u8 k,.int .u8 o,.int .i64 a,.int .i64 b,.int .i64 cc,.int .i64 n]] w fun e w'=>e = .returned (.bool (zf g.refs W M ⟨k,o,a,b,cc,n⟩))∧Below w.heap.size w w':=by
 obtain⟨U,hU⟩:∃ U,U=w.alloc (.cells #[.int .u8 k,.int .u8 o,.int .i64 a,.int .i64 b,.int .i64 cc,.int .i64 n] 159):=⟨_,rfl⟩
 have hBU:Below w.heap.size w U:=by rw[hU];exact ze w _
 have hO:U.heap[w.heap.size]? = some (.cells #[.int .u8 k,.int .u8 o,.int .i64 a,.int .i64 b,.int .i64 cc,.int .i64 n] 159 (0,0)):=by rw[hU];exact (MapKept.heap_alloc _ _).1
 obtain⟨q0,q1,q2,q3,q4,q5⟩:=zl hO;have HB:=hid hBU;have HU:=hid hU;rw[hU]at q0 q1 q2 q3 q4 q5
 have HY:=hid (show zf g.refs W M ⟨k,o,a,b,cc,n⟩ = false from by
  unfold zf;dsimp only
  repeat' split
  all_goals first|rfl|omega)
 have dn:(k != 3)=true:=by simp;omega
 have d1:(k==1)=false:=by simp;omega
 have d2:(k==2)=false:=by simp;omega
 have d3:(k==3)=false:=by simp;omega
 have d4:(k==4)=false:=by simp;omega
 have d5:(k==5)=false:=by simp;omega
 have d6:(k==6)=false:=by simp;omega
 have d7:(k==7)=false:=by simp;omega
 have d8:(k==8)=false:=by simp;omega
 have d9:(k==9)=false:=by simp;omega
 have d10:(k==10)=false:=by simp;omega
 have d11:(k==11)=false:=by simp;omega
 have d12:(k==12)=false:=by simp;omega
 have d13:(k==13)=false:=by simp;omega
 have d14:(k==14)=false:=by simp;omega
 clear hBU hO hU hk
 by_cases h0:o=0
 · have d0b:(o != 0)=false:=by simpa using h0
   replace h0:=hid h0
   go_enter Tryz.func216,Tryz.ntmps216;go_wp2_with fail;go_ret;exact⟨by rw[HY.out];rfl,by rw[←HU.out];exact HB.out⟩
 · have d0b:(o != 0)=true:=by simpa using h0
   replace h0:=hid h0
   go_enter Tryz.func216,Tryz.ntmps216;go_wp2_with fail;go_ret;exact⟨by rw[HY.out];rfl,by rw[←HU.out];exact HB.out⟩
theorem FrE.of {w:World} {B c m:Nat} {g:Gr} {W:Int} {M:List Bool} (h:zG w B c m g W M) {b b':Bool} {f:FuncId} {xs:Array Value} (hb:b=b') (hc:Calls Tryz.prog f xs w fun e w'=>e = .returned (.bool b)∧Below w.heap.size w w'):Calls Tryz.prog f xs w (FrE w B c m g W M b'):=by
 subst hb;exact hc.mono fun e w' he=>⟨he.1,h.keeps he.2,Aside.of he.2⟩
theorem Kh {R:List Bool} {W:Int} {M:List Bool} {i:In} (hk:i.k≠7):wY R W M i=M:=by
 unfold wY xC;split
 · rw[if_neg (fun q=>hk q.1)]
 · rfl
theorem Ji {w:World} {B c m:Nat} {g:Gr} {W:Int} {M:List Bool} (h:zG w B c m g W M) (i:In) (hi:qz i) :
 Calls Tryz.prog 216 #[.pointer (some ⟨c,0,none⟩),.agg #[.int .u8 i.k,.int .u8 i.o,.int .i64 i.a,.int .i64 i.b,.int .i64 i.c,.int .i64 i.n]] w (FrE w B c m g W (wY g.refs W M i) (yK g.refs W M i)):=by
 have ho:=hi.o;have heq:=Ke g.refs W M i;obtain⟨k,o,a,b,cc,n⟩:=i;simp only at ho ⊢
 by_cases h7:k=7
 · subst h7
   refine (Jl h o a b cc n).mono fun e w' he=>⟨?_, ?_,he.2.2⟩
   · rw[←heq];exact he.1
   · have hM:wY g.refs W M ⟨7,o,a,b,cc,n⟩ = if o=0 then xG g.refs M ⟨7,o,a,b,cc,n⟩ else M:=by
      unfold wY;rw[←heq]
      by_cases h0:o=0
      · have hR:zf g.refs W M ⟨7,o,a,b,cc,n⟩ = yT g.refs M ⟨7,o,a,b,cc,n⟩:=by simp[zf,h0]
        rw[if_pos h0,hR];unfold xG
        by_cases hf:yT g.refs M ⟨7,o,a,b,cc,n⟩ = true
        · rw[if_pos hf,if_pos hf]
          have hin:yK g.refs W M ⟨7,o,a,b,cc,n⟩ = true:=by rw[←heq,hR];exact hf
          unfold yK at hin;simp only[Bool.and_eq_true]at hin;unfold xC;rw[if_pos ⟨rfl,hin.2.2⟩]
        · rw[if_neg hf,if_neg hf]
      · have hR:zf g.refs W M ⟨7,o,a,b,cc,n⟩ = false:=by simp[zf,h0]
        rw[if_neg h0,hR];simp
     rw[hM];exact he.2.1
 · rw[Kh h7]
   by_cases hk:k<1∨14<k
   · exact FrE.of h heq (Jh h k o a b cc n hk)
   · have h14:k=1∨k=2∨k=3∨k=4∨k=5∨k=6∨k=8∨k=9∨k=10∨k=11∨k=12∨k=13∨k=14:=by omega
     rcases h14 with rfl|rfl|rfl|rfl|rfl|rfl|rfl|rfl|rfl|rfl|rfl|rfl|rfl
     · exact FrE.of h heq (Jw h o a b cc n)
     · exact FrE.of h heq (Jq h o a b cc n)
     · exact FrE.of h heq (Jp h o a b cc n ho)
     · exact FrE.of h heq (Jo h o a b cc n)
     · exact FrE.of h heq (Jn h o a b cc n)
     · exact FrE.of h heq (Jm h o a b cc n)
     · exact FrE.of h heq (Jk h o a b cc n ho)
     · exact FrE.of h heq (Jj h o a b cc n ho)
     · exact FrE.of h heq (Jv h o a b cc n ho)
     · exact FrE.of h heq (Ju h o a b cc n ho)
     · exact FrE.of h heq (Jt h o a b cc n)
     · exact FrE.of h heq (Js h o a b cc n)
     · exact FrE.of h heq (Jr h o a b cc n)
theorem Jc {w:World} {B c m:Nat} {g:Gr} {W:Int} {M:List Bool} (h:zG w B c m g W M) (b:Bk) (hv:∃ ao n cap,b.iv = .slice ao n cap) :
 Calls Tryz.prog 217 #[.pointer (some ⟨c,0,none⟩),.agg #[b.iv,.int .u8 b.last,.int .i64 b.reg,.int .i64 b.yes,.int .i64 b.no]] w fun e w'=>e = .returned (.bool (lastB g.refs g.blocks.length b))∧Below w.heap.size w w':=by
 obtain⟨ao,il,ic,ev⟩:=hv;rw[←JV,ev];obtain⟨iv,ins,k,r,y,z⟩:=b;simp only
 by_cases hk:k<1∨3<k
 · exact Jb h ao il ic _ rfl iv ins k r y z hk
 · have h3:k=1∨k=2∨k=3:=by omega
   rcases h3 with rfl|rfl|rfl
   · exact Jf h ao il ic _ rfl iv ins r y z
   · exact Je h ao il ic _ rfl iv ins r y z
   · exact Jd h ao il ic _ rfl iv ins r y z
structure qd (w:World) (B c m:Nat) (g:Gr) (W:Int) (M:List Bool) (wr:World):Prop where
 ck:zG wr B c m g W M
 aside:Aside m w wr
 own:wr.heap[w.heap.size]? = some (.cells #[.int .i64 0,.int .i64 0] 92 (0,0))
theorem qd.step {w:World} {B c m:Nat} {g:Gr} {W:Int} {M M':List Bool} {wr wr':World} (h:qd w B c m g W M wr) (hm:m<w.heap.size) (h1:zG wr' B c m g W M') (h2:Aside m wr wr'):qd w B c m g W M' wr':=
 ⟨h1,h.aside.trans h2,h2.cells h.own (by omega)⟩
theorem qd.below {w:World} {B c m:Nat} {g:Gr} {W:Int} {M:List Bool} {wr wr':World} (h:qd w B c m g W M wr) (hm:m<w.heap.size) (h2:Below wr.heap.size wr wr'):qd w B c m g W M wr':=h.step hm (h.ck.keeps h2) (Aside.of h2)
def AwE (m:Nat) (Y:Option (Nat × Nat)) (w:World) (e:Ending) (w':World):Prop:=(∃ a b:Int,e = .returned (.tuple #[.agg #[.int .i64 a,.int .i64 b],.bool Y.isNone]))∧Aside m w w'
theorem K3 (B c m:Nat) (g:Gr) (W:Int) (M:List Bool) (w:World) (h:zG w B c m g W M) :
 Calls Tryz.prog 194 #[.pointer (some ⟨c,0,none⟩)] w (AwE m (yz g.refs W g.blocks.length 0 M g.blocks) w):=by
 obtain⟨Y,hY⟩:∃ Y,Y=yz g.refs W g.blocks.length 0 M g.blocks:=⟨_,rfl⟩
 rw[←hY];obtain⟨bo,bcap,eb,hlen,hbg⟩:=h.here.blies.form;have hroom:=h.here.blies.room;have hlm:=h.lt.2;have hlc:=h.lt.1;have hbase:=h.base;have hq:=h.box;have HBL:=hid (fun (u:World) (M':List Bool) (hu:zG u B c m g W M')=>hu.here.blies);have HBI:=hid (fun (u:World) (M':List Bool) (hu:zG u B c m g W M')=>hu.here.blocks);rw[eb]at hq HBL;obtain⟨NB,hNB⟩:∃ N,N=g.blocks.length:=⟨_,rfl⟩
 rw[←hNB]at hq hlen hbg hroom hY HBL;obtain⟨q0,q1,q2,q3,q4⟩:=zx hq;have HS:=hid (show qd w B c m g W M (w.alloc (.cells #[.int .i64 0,.int .i64 0] 92))from⟨h.keeps (ze w _),Aside.of (ze w _),(MapKept.heap_alloc _ _).1⟩);have HBG:=hid hbg;have HN:=hid hNB;have HY:=hid hY;have HIA:=hid (fun (M':List Bool) (i:In) (hi:qz i) (u:World) (hu:zG u B c m g W M')=>Ji hu i hi);have HLA:=hid (fun (M':List Bool) (b:Bk) (u:World) (hu:zG u B c m g W M') (hv:∃ ao n cap,b.iv = .slice ao n cap)=>Jc hu b hv);have e0:=fun (x y:Int)=>zH 92 #[(0,.int .i64 x),(1,.int .i64 y)] #[.int .i64 x,.int .i64 y] (by kernel_rfl)
 have e1:=zH 92 #[] #[.int .i64 0,.int .i64 0] (by kernel_rfl);have HLOOK:=hid (fun (u:World) (M':List Bool) (hu:zG u B c m g W M')=>(show u.cell? ⟨c,2,none⟩ = some (.slice bo NB bcap)∧c<u.heap.size from⟨by have:=(zx hu.box).2.2.1;rw[eb,←hNB]at this;exact this,hu.lt.1⟩));clear h hq hbg hNB hY;go_enter Tryz.func194,Tryz.ntmps194;go_wp2_with fail
 go_loopw [4] (fun q wr=>∃ (p:Nat) (M1:List Bool),p≤NB∧q = .int .i64 p∧qd w B c m g W M1 wr∧Hid (yz g.refs W NB p M1 (g.blocks.drop p)=Y)) (fun q _=>NB - (intOf q).toNat)
 case atStart=>exact⟨0,M,Nat.zero_le _,rfl,HS.out,hid HY.out.symm⟩
 case round =>
  obtain⟨p,M1,hp,rfl,hF,hD⟩:=hrel
  rename World=>U
  have HF:=hid hF;obtain⟨z2,hlc2⟩:=HLOOK.out U M1 hF.ck
  by_cases hlt:p<NB
  · have hpx:p<g.blocks.length:=by rw[←HN.out];exact hlt
    obtain⟨g0,off,rfl,hg0⟩:=HBG.out (by omega);have hat:=((HBL.out U M1 hF.ck).at rfl p hpx).2;have hbi:=HBI.out U M1 hF.ck _ (List.getElem_mem hpx);have hd:=hD.out;rw[List.drop_eq_getElem_cons hpx]at hd;generalize hbb:g.blocks[p]=b at hat hbi hd;have HBB:=hid (fun (u:World) (M':List Bool) (hu:zG u B c m g W M')=>hbb ▸ HBI.out u M' hu _ (List.getElem_mem hpx));obtain⟨Z,hZ⟩:∃ Z,xH g.refs W 0 M1 b.ins=Z:=⟨_,rfl⟩
    rw[YC _ _ _ _ _ _ _ hZ]at hd;have HD:=hid hd;have HZ:=hid hZ;obtain⟨io,icap,eiv,hilen,hig⟩:=hbi.lies.form;have hiroom:=hbi.lies.room;have HV:=hid (show ∃ ao n cap,b.iv = .slice ao n cap from⟨_,_,_,eiv⟩);have HLB:=hid (fun (M':List Bool) (u:World) (hu:zG u B c m g W M')=>HLA.out M' b u hu HV.out);have HEV:=hid eiv;obtain⟨n,hn⟩:∃ n,n=b.ins.length:=⟨_,rfl⟩
    rw[←hn]at eiv hilen hig hiroom;obtain⟨p0,p1,p2,p3,p4⟩:=bc hat;rw[eiv]at p0 HLB;have HNN:=hid hn;have HIG:=hid hig;have hgU:g0<U.heap.size:=by have:=hF.ck.base.2.2.2;omega
    have hzU:=hF.aside.size;have HFB:=hid hF;have HP5:=hid (fun (u:World) (M':List Bool) (hu:zG u B c m g W M')=>bc (show ∀ j v,b.cells[j]? = some v→u.cell? ⟨g0,off+p*5+j,none⟩ = some v from by rw[←hbb];exact ((HBL.out u M' hu).at rfl p hpx).2));clear hF hD hat hbi hd hbb hZ hn hig eiv;go_wp2_with fail
    go_loopw [6] (fun q wr=>∃ (k:Nat) (M2:List Bool),k≤n∧q = .int .i64 k∧qd w B c m g W M2 wr∧Hid (xH g.refs W k M2 (b.ins.drop k)=Z)) (fun q _=>n - (intOf q).toNat)
    case atStart=>exact⟨0,M1,Nat.zero_le _,rfl,HFB.out,hid HZ.out⟩
    case round =>
     obtain⟨k,M2,hk,rfl,hF2,hD2⟩:=hrel;have HF2:=hid hF2;have f0:=Lib.frozen_of_heap hF2.own 0;have f1:=Lib.frozen_of_heap hF2.own 1
     by_cases hlk:k<n
     · have hkx:k<b.ins.length:=by rw[←HNN.out];exact hlk
       obtain⟨gi,offi,rfl,hgi⟩:=HIG.out (by omega);have hati:=((HBB.out wr M2 hF2.ck).lies.at HEV.out k hkx).2;have hd2:=hD2.out;rw[List.drop_eq_getElem_cons hkx]at hd2;have hiok:=(HBB.out wr M2 hF2.ck).ins _ (List.getElem_mem hkx);generalize b.ins[k]=i at hati hd2 hiok;obtain⟨i0,i1,i2,i3,i4,i5⟩:=ic hati;have hgiw:gi<wr.heap.size:=by have:=hF2.ck.base.2.2.2;omega
       have HC:=hid (HIA.out M2 i hiok wr hF2.ck);have HD2:=hid hd2;clear hF2 hati hd2 hD2 f0 f1 hiok;go_wp2_with fail;refine HC.out.mono ?_;rintro e w5 ⟨rfl,hc5,ha5⟩;have hF5:=HF2.out.step hlm hc5 ha5;have HF5:=hid hF5;have f0:=Lib.frozen_of_heap hF5.own 0;have f1:=Lib.frozen_of_heap hF5.own 1;have hl5:w.heap.size<w5.heap.size:=(Array.getElem?_eq_some_iff.1 hF5.own).1;obtain⟨s0,s1⟩:=zt hF5.own;clear hc5 ha5 hF5;cases hib:yK g.refs W M2 i with
       | true =>
        have HZ2:=hid ((Yz hib).symm.trans HD2.out);clear f0 f1 hib;go_wp2_with fail;go_roundw
        case rel=>exact⟨k+1,_,hlk,by go_num,HF5.out,HZ2⟩
        case measure=>simp[intOf];omega
       | false =>
        have HZ2:=hid ((YA hib).symm.trans HD2.out);have HYY:=hid (show Y=some (p,k)by rw[←HD.out,←HZ2.out];rfl);clear hib;go_wp2_with fail;refine bodyPost_ret (v:=.tuple #[.agg #[.int .i64 (p:Int),.int .i64 (k:Int)],.bool false]) (yw (p:=2) (u:=3) rfl _ _ w.heap.size _ _ _ rfl rfl (y9 HF5.out.own _ _)) rfl ?_;exact⟨⟨_,_,by rw[HYY.out];rfl⟩,(HF5.out.aside.fresh _ _ (Nat.le_refl _)).fresh _ _ (Nat.le_refl _)⟩
     · have hz:=hD2.out
       rw[List.drop_eq_nil_of_le (by rw[←HNN.out];omega)]at hz;have hdd:=HD.out;rw[←hz]at hdd;have hdd2:(if lastB g.refs NB b=true then yz g.refs W NB (p+1) M2 (g.blocks.drop (p+1)) else some (p,b.ins.length))=Y:=hdd;have HDD:=hid hdd2;have HC:=hid (HLB.out M2 wr hF2.ck);obtain⟨x0,x1,x2,x3,x4⟩:=HP5.out wr M2 hF2.ck;rw[HEV.out,←HNN.out]at x0;have hlg:g0<wr.heap.size:=by have:=hF2.ck.base.2.2.2;omega
       obtain⟨z2,hlc2⟩:=HLOOK.out wr M2 hF2.ck;have hlw:w.heap.size<wr.heap.size:=(Array.getElem?_eq_some_iff.1 hF2.own).1;clear hF2 hD2 hz hdd hdd2 f0 f1;go_wp2_with fail;refine HC.out.mono ?_;rintro e w5 ⟨rfl,hb5⟩;have hF5:=HF2.out.below hlm hb5;have HF5:=hid hF5;have f0:=Lib.frozen_of_heap hF5.own 0;have f1:=Lib.frozen_of_heap hF5.own 1;have hl5:w.heap.size<w5.heap.size:=(Array.getElem?_eq_some_iff.1 hF5.own).1;obtain⟨s0,s1⟩:=zt hF5.own;rw[←HN.out];clear hb5 hF5;cases hlb:lastB g.refs NB b with
       | true =>
        have HZ2:=hid (show yz g.refs W NB (p+1) M2 (g.blocks.drop (p+1))=Y by rw[←HDD.out,if_pos hlb]);clear f0 f1 hlb;go_wp2_with fail;go_roundw
        case rel=>exact⟨p+1,M2,hlt,by go_num,HF5.out,HZ2⟩
        case measure=>simp[intOf];omega
       | false =>
        have HYY:=hid (show Y=some (p,n)by rw[←HDD.out,if_neg (by rw[hlb];exact Bool.false_ne_true),HNN.out]);clear hlb;go_wp2_with fail;refine bodyPost_ret (v:=.tuple #[.agg #[.int .i64 (p:Int),.int .i64 (n:Int)],.bool false]) (yw (p:=2) (u:=3) rfl _ _ w.heap.size _ _ _ rfl rfl (y9 HF5.out.own _ _)) rfl ?_;exact⟨⟨_,_,by rw[HYY.out];rfl⟩,(HF5.out.aside.fresh _ _ (Nat.le_refl _)).fresh _ _ (Nat.le_refl _)⟩
  · have hz:=hD.out
    rw[List.drop_eq_nil_of_le (by rw[←HN.out];omega)]at hz;have HYY:=hid (show Y=none from hz.symm);have f0:=Lib.frozen_of_heap hF.own 0;have f1:=Lib.frozen_of_heap hF.own 1;have hl5:w.heap.size<U.heap.size:=(Array.getElem?_eq_some_iff.1 hF.own).1;obtain⟨s0,s1⟩:=zt hF.own;clear hF hD hz;go_wp2_with fail;refine bodyPost_ret (v:=.tuple #[.agg #[.int .i64 0,.int .i64 0],.bool true]) (yw (p:=2) (u:=3) rfl _ _ w.heap.size _ _ _ rfl rfl (y9 HF.out.own _ _)) rfl ?_;exact⟨⟨_,_,by rw[HYY.out];rfl⟩,(HF.out.aside.fresh _ _ (Nat.le_refl _)).fresh _ _ (Nat.le_refl _)⟩
