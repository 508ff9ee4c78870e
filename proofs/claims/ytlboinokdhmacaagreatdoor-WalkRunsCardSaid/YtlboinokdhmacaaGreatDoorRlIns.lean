import Derived.Test.YtlboinokdhmacaaGreatDoorRlInsE
namespace Go.Proofs.YtlboinokdhmacaaGreatDoor
set_option maxHeartbeats 64000000
set_option maxRecDepth 1000000
open Lib(hid)
open Go.RowKit
attribute [local go_sem ↓] zL zJ
theorem JO {w:World} {B c m:Nat} {g:Gr} {W:Int} {M:List Bool} (h:zG w B c m g W M) (k o a b cc n:Int) (ho:0≤o∧o≤255) :
 Calls Tryz.prog 238 #[.pointer (some ⟨c,0,none⟩),.agg #[.int .u8 k,.int .u8 o,.int .i64 a,.int .i64 b,.int .i64 cc,.int .i64 n]] w fun e w'=>e = .returned (.bool (zO g.refs ⟨k,o,a,b,cc,n⟩))∧Below w.heap.size w w':=by
 obtain⟨U,hU⟩:∃ U,U=w.alloc (.cells #[.int .u8 k,.int .u8 o,.int .i64 a,.int .i64 b,.int .i64 cc,.int .i64 n] 159):=⟨_,rfl⟩
 have hBU:Below w.heap.size w U:=by rw[hU];exact ze w _
 have hO:U.heap[w.heap.size]? = some (.cells #[.int .u8 k,.int .u8 o,.int .i64 a,.int .i64 b,.int .i64 cc,.int .i64 n] 159 (0,0)):=by rw[hU];exact (MapKept.heap_alloc _ _).1
 have HN:=hid (fun r=>wN (h.keeps hBU) r);have HR:=hid (fun r=>yS (h.keeps hBU) r);have HG:=hid (fun r=>y7 (h.keeps hBU) r);obtain⟨q0,q1,q2,q3,q4,q5⟩:=zl hO;have HB:=hid hBU;have HU:=hid hU;rw[hU]at q0 q1 q2 q3 q4 q5;clear hBU hO hU h
 by_cases h0:n=0
 · have d0a:(n==0)=true:=by simpa using h0
   have d0b:(n != 0)=false:=by simpa using h0
   replace h0:=hid h0
   cases h1:yE g.refs a with
   | false =>
    have HY:=hid (show zO g.refs ⟨k,o,a,b,cc,n⟩ = false from by simp[zO,h0.out,h1]);go_enter Tryz.func238,Tryz.ntmps238;go_wp2_with fail;rw[←HU.out];rw[←HU.out]at q0 q1 q2 q3 q4 q5;refine (HN.out _).mono ?_;rintro e w' ⟨rfl,rfl⟩;rw[h1];go_wp2_with fail;go_ret;exact⟨by rw[HY.out];rfl,HB.out⟩
   | true =>
    by_cases h2:o<1
    · have d2a:decide (o<1)=true:=by simpa using h2
      replace h2:=hid h2
      have HY:=hid (show zO g.refs ⟨k,o,a,b,cc,n⟩ = false from by simp[zO,h0.out,h1,h2.out]);go_enter Tryz.func238,Tryz.ntmps238;go_wp2_with fail;rw[←HU.out];rw[←HU.out]at q0 q1 q2 q3 q4 q5;refine (HN.out _).mono ?_;rintro e w' ⟨rfl,rfl⟩;rw[h1];go_wp2_with fail;go_ret;exact⟨by rw[HY.out];rfl,HB.out⟩
    · have d2a:decide (o<1)=false:=by simpa using h2
      replace h2:=hid h2
      by_cases h3:14<o
      · have d3a:decide (14<o)=true:=by simpa using h3
        replace h3:=hid h3
        have HY:=hid (show zO g.refs ⟨k,o,a,b,cc,n⟩ = false from by simp[zO,h0.out,h1,h2.out,h3.out]);go_enter Tryz.func238,Tryz.ntmps238;go_wp2_with fail;rw[←HU.out];rw[←HU.out]at q0 q1 q2 q3 q4 q5;refine (HN.out _).mono ?_;rintro e w' ⟨rfl,rfl⟩;rw[h1];go_wp2_with fail;go_ret;exact⟨by rw[HY.out];rfl,HB.out⟩
      · have d3a:decide (14<o)=false:=by simpa using h3
        replace h3:=hid h3
        by_cases h4:o=11
        · have d4a:(o==11)=true:=by simpa using h4
          have d4b:(o != 11)=false:=by simpa using h4
          replace h4:=hid h4
          cases h5:xS g.refs b with
          | false =>
           cases h6:yE g.refs b with
           | false =>
            have HY:=hid (show zO g.refs ⟨k,o,a,b,cc,n⟩ = false from by simp[zO,h0.out,h1,h2.out,h3.out,h4.out,h5,h6]);go_enter Tryz.func238,Tryz.ntmps238;go_wp2_with fail;rw[←HU.out];rw[←HU.out]at q0 q1 q2 q3 q4 q5;refine (HN.out _).mono ?_;rintro e w' ⟨rfl,rfl⟩;rw[h1];go_wp2_with fail;refine (HR.out _).mono ?_;rintro e w' ⟨rfl,rfl⟩;rw[h5];go_wp2_with fail;refine (HN.out _).mono ?_;rintro e w' ⟨rfl,rfl⟩;rw[h6];go_wp2_with fail;go_ret;exact⟨by rw[HY.out];rfl,HB.out⟩
           | true =>
            cases h7:yE g.refs cc with
            | false =>
             have HY:=hid (show zO g.refs ⟨k,o,a,b,cc,n⟩ = false from by simp[zO,h0.out,h1,h2.out,h3.out,h4.out,h5,h6,h7]);go_enter Tryz.func238,Tryz.ntmps238;go_wp2_with fail;rw[←HU.out];rw[←HU.out]at q0 q1 q2 q3 q4 q5;refine (HN.out _).mono ?_;rintro e w' ⟨rfl,rfl⟩;rw[h1];go_wp2_with fail;refine (HR.out _).mono ?_;rintro e w' ⟨rfl,rfl⟩;rw[h5];go_wp2_with fail;refine (HN.out _).mono ?_;rintro e w' ⟨rfl,rfl⟩;rw[h6];go_wp2_with fail;refine (HN.out _).mono ?_;rintro e w' ⟨rfl,rfl⟩;rw[h7];go_wp2_with fail;go_ret;exact⟨by rw[HY.out];rfl,HB.out⟩
            | true =>
             have HY:=hid (show zO g.refs ⟨k,o,a,b,cc,n⟩ = true from by simp[zO,h0.out,h1,h2.out,h3.out,h4.out,h5,h6,h7]);go_enter Tryz.func238,Tryz.ntmps238;go_wp2_with fail;rw[←HU.out];rw[←HU.out]at q0 q1 q2 q3 q4 q5;refine (HN.out _).mono ?_;rintro e w' ⟨rfl,rfl⟩;rw[h1];go_wp2_with fail;refine (HR.out _).mono ?_;rintro e w' ⟨rfl,rfl⟩;rw[h5];go_wp2_with fail;refine (HN.out _).mono ?_;rintro e w' ⟨rfl,rfl⟩;rw[h6];go_wp2_with fail;refine (HN.out _).mono ?_;rintro e w' ⟨rfl,rfl⟩;rw[h7];go_wp2_with fail;go_ret;exact⟨by rw[HY.out];rfl,HB.out⟩
          | true =>
           cases h6:xS g.refs cc with
           | false =>
            cases h7:yE g.refs b with
            | false =>
             have HY:=hid (show zO g.refs ⟨k,o,a,b,cc,n⟩ = false from by simp[zO,h0.out,h1,h2.out,h3.out,h4.out,h5,h6,h7]);go_enter Tryz.func238,Tryz.ntmps238;go_wp2_with fail;rw[←HU.out];rw[←HU.out]at q0 q1 q2 q3 q4 q5;refine (HN.out _).mono ?_;rintro e w' ⟨rfl,rfl⟩;rw[h1];go_wp2_with fail;refine (HR.out _).mono ?_;rintro e w' ⟨rfl,rfl⟩;rw[h5];go_wp2_with fail;refine (HR.out _).mono ?_;rintro e w' ⟨rfl,rfl⟩;rw[h6];go_wp2_with fail;refine (HN.out _).mono ?_;rintro e w' ⟨rfl,rfl⟩;rw[h7];go_wp2_with fail;go_ret;exact⟨by rw[HY.out];rfl,HB.out⟩
            | true =>
             cases h8:yE g.refs cc with
             | false =>
              have HY:=hid (show zO g.refs ⟨k,o,a,b,cc,n⟩ = false from by simp[zO,h0.out,h1,h2.out,h3.out,h4.out,h5,h6,h7,h8]);go_enter Tryz.func238,Tryz.ntmps238;go_wp2_with fail;rw[←HU.out];rw[←HU.out]at q0 q1 q2 q3 q4 q5;refine (HN.out _).mono ?_;rintro e w' ⟨rfl,rfl⟩;rw[h1];go_wp2_with fail;refine (HR.out _).mono ?_;rintro e w' ⟨rfl,rfl⟩;rw[h5];go_wp2_with fail;refine (HR.out _).mono ?_;rintro e w' ⟨rfl,rfl⟩;rw[h6];go_wp2_with fail;refine (HN.out _).mono ?_;rintro e w' ⟨rfl,rfl⟩;rw[h7];go_wp2_with fail;refine (HN.out _).mono ?_;rintro e w' ⟨rfl,rfl⟩;rw[h8];go_wp2_with fail;go_ret;exact⟨by rw[HY.out];rfl,HB.out⟩
             | true =>
              have HY:=hid (show zO g.refs ⟨k,o,a,b,cc,n⟩ = true from by simp[zO,h0.out,h1,h2.out,h3.out,h4.out,h5,h6,h7,h8]);go_enter Tryz.func238,Tryz.ntmps238;go_wp2_with fail;rw[←HU.out];rw[←HU.out]at q0 q1 q2 q3 q4 q5;refine (HN.out _).mono ?_;rintro e w' ⟨rfl,rfl⟩;rw[h1];go_wp2_with fail;refine (HR.out _).mono ?_;rintro e w' ⟨rfl,rfl⟩;rw[h5];go_wp2_with fail;refine (HR.out _).mono ?_;rintro e w' ⟨rfl,rfl⟩;rw[h6];go_wp2_with fail;refine (HN.out _).mono ?_;rintro e w' ⟨rfl,rfl⟩;rw[h7];go_wp2_with fail;refine (HN.out _).mono ?_;rintro e w' ⟨rfl,rfl⟩;rw[h8];go_wp2_with fail;go_ret;exact⟨by rw[HY.out];rfl,HB.out⟩
           | true =>
            have HY:=hid (show zO g.refs ⟨k,o,a,b,cc,n⟩ = true from by simp[zO,h0.out,h1,h2.out,h3.out,h4.out,h5,h6]);go_enter Tryz.func238,Tryz.ntmps238;go_wp2_with fail;rw[←HU.out];rw[←HU.out]at q0 q1 q2 q3 q4 q5;refine (HN.out _).mono ?_;rintro e w' ⟨rfl,rfl⟩;rw[h1];go_wp2_with fail;refine (HR.out _).mono ?_;rintro e w' ⟨rfl,rfl⟩;rw[h5];go_wp2_with fail;refine (HR.out _).mono ?_;rintro e w' ⟨rfl,rfl⟩;rw[h6];go_wp2_with fail;go_ret;exact⟨by rw[HY.out];rfl,HB.out⟩
        · have d4a:(o==11)=false:=by simpa using h4
          have d4b:(o != 11)=true:=by simpa using h4
          replace h4:=hid h4
          by_cases h5:o=12
          · have d5a:(o==12)=true:=by simpa using h5
            have d5b:(o != 12)=false:=by simpa using h5
            replace h5:=hid h5
            cases h6:xS g.refs b with
            | false =>
             cases h7:yE g.refs b with
             | false =>
              have HY:=hid (show zO g.refs ⟨k,o,a,b,cc,n⟩ = false from by simp[zO,h0.out,h1,h2.out,h3.out,h4.out,h5.out,h6,h7]);go_enter Tryz.func238,Tryz.ntmps238;go_wp2_with fail;rw[←HU.out];rw[←HU.out]at q0 q1 q2 q3 q4 q5;refine (HN.out _).mono ?_;rintro e w' ⟨rfl,rfl⟩;rw[h1];go_wp2_with fail;refine (HR.out _).mono ?_;rintro e w' ⟨rfl,rfl⟩;rw[h6];go_wp2_with fail;refine (HN.out _).mono ?_;rintro e w' ⟨rfl,rfl⟩;rw[h7];go_wp2_with fail;go_ret;exact⟨by rw[HY.out];rfl,HB.out⟩
             | true =>
              cases h8:yE g.refs cc with
              | false =>
               have HY:=hid (show zO g.refs ⟨k,o,a,b,cc,n⟩ = false from by simp[zO,h0.out,h1,h2.out,h3.out,h4.out,h5.out,h6,h7,h8]);go_enter Tryz.func238,Tryz.ntmps238;go_wp2_with fail;rw[←HU.out];rw[←HU.out]at q0 q1 q2 q3 q4 q5;refine (HN.out _).mono ?_;rintro e w' ⟨rfl,rfl⟩;rw[h1];go_wp2_with fail;refine (HR.out _).mono ?_;rintro e w' ⟨rfl,rfl⟩;rw[h6];go_wp2_with fail;refine (HN.out _).mono ?_;rintro e w' ⟨rfl,rfl⟩;rw[h7];go_wp2_with fail;refine (HN.out _).mono ?_;rintro e w' ⟨rfl,rfl⟩;rw[h8];go_wp2_with fail;go_ret;exact⟨by rw[HY.out];rfl,HB.out⟩
              | true =>
               have HY:=hid (show zO g.refs ⟨k,o,a,b,cc,n⟩ = true from by simp[zO,h0.out,h1,h2.out,h3.out,h4.out,h5.out,h6,h7,h8]);go_enter Tryz.func238,Tryz.ntmps238;go_wp2_with fail;rw[←HU.out];rw[←HU.out]at q0 q1 q2 q3 q4 q5;refine (HN.out _).mono ?_;rintro e w' ⟨rfl,rfl⟩;rw[h1];go_wp2_with fail;refine (HR.out _).mono ?_;rintro e w' ⟨rfl,rfl⟩;rw[h6];go_wp2_with fail;refine (HN.out _).mono ?_;rintro e w' ⟨rfl,rfl⟩;rw[h7];go_wp2_with fail;refine (HN.out _).mono ?_;rintro e w' ⟨rfl,rfl⟩;rw[h8];go_wp2_with fail;go_ret;exact⟨by rw[HY.out];rfl,HB.out⟩
            | true =>
             cases h7:xS g.refs cc with
             | false =>
              cases h8:yE g.refs b with
              | false =>
               have HY:=hid (show zO g.refs ⟨k,o,a,b,cc,n⟩ = false from by simp[zO,h0.out,h1,h2.out,h3.out,h4.out,h5.out,h6,h7,h8]);go_enter Tryz.func238,Tryz.ntmps238;go_wp2_with fail;rw[←HU.out];rw[←HU.out]at q0 q1 q2 q3 q4 q5;refine (HN.out _).mono ?_;rintro e w' ⟨rfl,rfl⟩;rw[h1];go_wp2_with fail;refine (HR.out _).mono ?_;rintro e w' ⟨rfl,rfl⟩;rw[h6];go_wp2_with fail;refine (HR.out _).mono ?_;rintro e w' ⟨rfl,rfl⟩;rw[h7];go_wp2_with fail;refine (HN.out _).mono ?_;rintro e w' ⟨rfl,rfl⟩;rw[h8];go_wp2_with fail;go_ret;exact⟨by rw[HY.out];rfl,HB.out⟩
              | true =>
               cases h9:yE g.refs cc with
               | false =>
                have HY:=hid (show zO g.refs ⟨k,o,a,b,cc,n⟩ = false from by simp[zO,h0.out,h1,h2.out,h3.out,h4.out,h5.out,h6,h7,h8,h9]);go_enter Tryz.func238,Tryz.ntmps238;go_wp2_with fail;rw[←HU.out];rw[←HU.out]at q0 q1 q2 q3 q4 q5;refine (HN.out _).mono ?_;rintro e w' ⟨rfl,rfl⟩;rw[h1];go_wp2_with fail;refine (HR.out _).mono ?_;rintro e w' ⟨rfl,rfl⟩;rw[h6];go_wp2_with fail;refine (HR.out _).mono ?_;rintro e w' ⟨rfl,rfl⟩;rw[h7];go_wp2_with fail;refine (HN.out _).mono ?_;rintro e w' ⟨rfl,rfl⟩;rw[h8];go_wp2_with fail;refine (HN.out _).mono ?_;rintro e w' ⟨rfl,rfl⟩;rw[h9];go_wp2_with fail;go_ret;exact⟨by rw[HY.out];rfl,HB.out⟩
               | true =>
                have HY:=hid (show zO g.refs ⟨k,o,a,b,cc,n⟩ = true from by simp[zO,h0.out,h1,h2.out,h3.out,h4.out,h5.out,h6,h7,h8,h9]);go_enter Tryz.func238,Tryz.ntmps238;go_wp2_with fail;rw[←HU.out];rw[←HU.out]at q0 q1 q2 q3 q4 q5;refine (HN.out _).mono ?_;rintro e w' ⟨rfl,rfl⟩;rw[h1];go_wp2_with fail;refine (HR.out _).mono ?_;rintro e w' ⟨rfl,rfl⟩;rw[h6];go_wp2_with fail;refine (HR.out _).mono ?_;rintro e w' ⟨rfl,rfl⟩;rw[h7];go_wp2_with fail;refine (HN.out _).mono ?_;rintro e w' ⟨rfl,rfl⟩;rw[h8];go_wp2_with fail;refine (HN.out _).mono ?_;rintro e w' ⟨rfl,rfl⟩;rw[h9];go_wp2_with fail;go_ret;exact⟨by rw[HY.out];rfl,HB.out⟩
             | true =>
              have HY:=hid (show zO g.refs ⟨k,o,a,b,cc,n⟩ = true from by simp[zO,h0.out,h1,h2.out,h3.out,h4.out,h5.out,h6,h7]);go_enter Tryz.func238,Tryz.ntmps238;go_wp2_with fail;rw[←HU.out];rw[←HU.out]at q0 q1 q2 q3 q4 q5;refine (HN.out _).mono ?_;rintro e w' ⟨rfl,rfl⟩;rw[h1];go_wp2_with fail;refine (HR.out _).mono ?_;rintro e w' ⟨rfl,rfl⟩;rw[h6];go_wp2_with fail;refine (HR.out _).mono ?_;rintro e w' ⟨rfl,rfl⟩;rw[h7];go_wp2_with fail;go_ret;exact⟨by rw[HY.out];rfl,HB.out⟩
          · have d5a:(o==12)=false:=by simpa using h5
            have d5b:(o != 12)=true:=by simpa using h5
            replace h5:=hid h5
            cases h6:yE g.refs b with
            | false =>
             have HY:=hid (show zO g.refs ⟨k,o,a,b,cc,n⟩ = false from by simp[zO,h0.out,h1,h2.out,h3.out,h4.out,h5.out,h6]);go_enter Tryz.func238,Tryz.ntmps238;go_wp2_with fail;rw[←HU.out];rw[←HU.out]at q0 q1 q2 q3 q4 q5;refine (HN.out _).mono ?_;rintro e w' ⟨rfl,rfl⟩;rw[h1];go_wp2_with fail;refine (HN.out _).mono ?_;rintro e w' ⟨rfl,rfl⟩;rw[h6];go_wp2_with fail;go_ret;exact⟨by rw[HY.out];rfl,HB.out⟩
            | true =>
             cases h7:yE g.refs cc with
             | false =>
              have HY:=hid (show zO g.refs ⟨k,o,a,b,cc,n⟩ = false from by simp[zO,h0.out,h1,h2.out,h3.out,h4.out,h5.out,h6,h7]);go_enter Tryz.func238,Tryz.ntmps238;go_wp2_with fail;rw[←HU.out];rw[←HU.out]at q0 q1 q2 q3 q4 q5;refine (HN.out _).mono ?_;rintro e w' ⟨rfl,rfl⟩;rw[h1];go_wp2_with fail;refine (HN.out _).mono ?_;rintro e w' ⟨rfl,rfl⟩;rw[h6];go_wp2_with fail;refine (HN.out _).mono ?_;rintro e w' ⟨rfl,rfl⟩;rw[h7];go_wp2_with fail;go_ret;exact⟨by rw[HY.out];rfl,HB.out⟩
             | true =>
              have HY:=hid (show zO g.refs ⟨k,o,a,b,cc,n⟩ = true from by simp[zO,h0.out,h1,h2.out,h3.out,h4.out,h5.out,h6,h7]);go_enter Tryz.func238,Tryz.ntmps238;go_wp2_with fail;rw[←HU.out];rw[←HU.out]at q0 q1 q2 q3 q4 q5;refine (HN.out _).mono ?_;rintro e w' ⟨rfl,rfl⟩;rw[h1];go_wp2_with fail;refine (HN.out _).mono ?_;rintro e w' ⟨rfl,rfl⟩;rw[h6];go_wp2_with fail;refine (HN.out _).mono ?_;rintro e w' ⟨rfl,rfl⟩;rw[h7];go_wp2_with fail;go_ret;exact⟨by rw[HY.out];rfl,HB.out⟩
 · have d0a:(n==0)=false:=by simpa using h0
   have d0b:(n != 0)=true:=by simpa using h0
   replace h0:=hid h0
   have HY:=hid (show zO g.refs ⟨k,o,a,b,cc,n⟩ = false from by simp[zO,h0.out]);go_enter Tryz.func238,Tryz.ntmps238;go_wp2_with fail;go_ret;exact⟨by rw[HY.out];rfl,by rw[←HU.out];exact HB.out⟩
theorem ku {w:World} {B c m:Nat} {g:Gr} {W:Int} {M:List Bool} (h:zG w B c m g W M) (k o a b cc n:Int) (ho:0≤o∧o≤255) :
 Calls Tryz.prog 242 #[.pointer (some ⟨c,0,none⟩),.agg #[.int .u8 k,.int .u8 o,.int .i64 a,.int .i64 b,.int .i64 cc,.int .i64 n]] w fun e w'=>e = .returned (.bool (yI g.refs ⟨k,o,a,b,cc,n⟩))∧Below w.heap.size w w':=by
 obtain⟨U,hU⟩:∃ U,U=w.alloc (.cells #[.int .u8 k,.int .u8 o,.int .i64 a,.int .i64 b,.int .i64 cc,.int .i64 n] 159):=⟨_,rfl⟩
 have hBU:Below w.heap.size w U:=by rw[hU];exact ze w _
 have hO:U.heap[w.heap.size]? = some (.cells #[.int .u8 k,.int .u8 o,.int .i64 a,.int .i64 b,.int .i64 cc,.int .i64 n] 159 (0,0)):=by rw[hU];exact (MapKept.heap_alloc _ _).1
 have HN:=hid (fun r=>wN (h.keeps hBU) r);have HR:=hid (fun r=>yS (h.keeps hBU) r);have HG:=hid (fun r=>y7 (h.keeps hBU) r);obtain⟨q0,q1,q2,q3,q4,q5⟩:=zl hO;have HB:=hid hBU;have HU:=hid hU;rw[hU]at q0 q1 q2 q3 q4 q5;clear hBU hO hU h;cases h0:zg g.refs a with
 | false =>
  have HY:=hid (show yI g.refs ⟨k,o,a,b,cc,n⟩ = false from by simp[yI,h0]);go_enter Tryz.func242,Tryz.ntmps242;go_wp2_with fail;rw[←HU.out];rw[←HU.out]at q0 q1 q2 q3 q4 q5;refine (HG.out _).mono ?_;rintro e w' ⟨rfl,rfl⟩;rw[h0];go_wp2_with fail;go_ret;exact⟨by rw[HY.out];rfl,HB.out⟩
 | true =>
  cases h1:xS g.refs b with
  | false =>
   have HY:=hid (show yI g.refs ⟨k,o,a,b,cc,n⟩ = false from by simp[yI,h0,h1]);go_enter Tryz.func242,Tryz.ntmps242;go_wp2_with fail;rw[←HU.out];rw[←HU.out]at q0 q1 q2 q3 q4 q5;refine (HG.out _).mono ?_;rintro e w' ⟨rfl,rfl⟩;rw[h0];go_wp2_with fail;refine (HR.out _).mono ?_;rintro e w' ⟨rfl,rfl⟩;rw[h1];go_wp2_with fail;go_ret;exact⟨by rw[HY.out];rfl,HB.out⟩
  | true =>
   by_cases h2:cc = -1
   · have d2a:(cc == -1)=true:=by simpa using h2
     have d2b:(cc != -1)=false:=by simpa using h2
     replace h2:=hid h2
     by_cases h3:0≤n
     · have d3a:decide (0≤n)=true:=by simpa using h3
       replace h3:=hid h3
       by_cases h4:n≤64
       · have d4a:decide (n≤64)=true:=by simpa using h4
         replace h4:=hid h4
         have HY:=hid (show yI g.refs ⟨k,o,a,b,cc,n⟩ = true from by simp[yI,h0,h1,h2.out,h3.out,h4.out]);go_enter Tryz.func242,Tryz.ntmps242;go_wp2_with fail;rw[←HU.out];rw[←HU.out]at q0 q1 q2 q3 q4 q5;refine (HG.out _).mono ?_;rintro e w' ⟨rfl,rfl⟩;rw[h0];go_wp2_with fail;refine (HR.out _).mono ?_;rintro e w' ⟨rfl,rfl⟩;rw[h1];go_wp2_with fail;go_ret;exact⟨by rw[HY.out];rfl,HB.out⟩
       · have d4a:decide (n≤64)=false:=by simpa using h4
         replace h4:=hid h4
         have HY:=hid (show yI g.refs ⟨k,o,a,b,cc,n⟩ = false from by simp[yI,h0,h1,h2.out,h3.out,h4.out]);go_enter Tryz.func242,Tryz.ntmps242;go_wp2_with fail;rw[←HU.out];rw[←HU.out]at q0 q1 q2 q3 q4 q5;refine (HG.out _).mono ?_;rintro e w' ⟨rfl,rfl⟩;rw[h0];go_wp2_with fail;refine (HR.out _).mono ?_;rintro e w' ⟨rfl,rfl⟩;rw[h1];go_wp2_with fail;go_ret;exact⟨by rw[HY.out];rfl,HB.out⟩
     · have d3a:decide (0≤n)=false:=by simpa using h3
       replace h3:=hid h3
       have HY:=hid (show yI g.refs ⟨k,o,a,b,cc,n⟩ = false from by simp[yI,h0,h1,h2.out,h3.out]);go_enter Tryz.func242,Tryz.ntmps242;go_wp2_with fail;rw[←HU.out];rw[←HU.out]at q0 q1 q2 q3 q4 q5;refine (HG.out _).mono ?_;rintro e w' ⟨rfl,rfl⟩;rw[h0];go_wp2_with fail;refine (HR.out _).mono ?_;rintro e w' ⟨rfl,rfl⟩;rw[h1];go_wp2_with fail;go_ret;exact⟨by rw[HY.out];rfl,HB.out⟩
   · have d2a:(cc == -1)=false:=by simpa using h2
     have d2b:(cc != -1)=true:=by simpa using h2
     replace h2:=hid h2
     cases h3:yE g.refs cc with
     | false =>
      have HY:=hid (show yI g.refs ⟨k,o,a,b,cc,n⟩ = false from by simp[yI,h0,h1,h2.out,h3]);go_enter Tryz.func242,Tryz.ntmps242;go_wp2_with fail;rw[←HU.out];rw[←HU.out]at q0 q1 q2 q3 q4 q5;refine (HG.out _).mono ?_;rintro e w' ⟨rfl,rfl⟩;rw[h0];go_wp2_with fail;refine (HR.out _).mono ?_;rintro e w' ⟨rfl,rfl⟩;rw[h1];go_wp2_with fail;refine (HN.out _).mono ?_;rintro e w' ⟨rfl,rfl⟩;rw[h3];go_wp2_with fail;go_ret;exact⟨by rw[HY.out];rfl,HB.out⟩
     | true =>
      by_cases h4:0≤n
      · have d4a:decide (0≤n)=true:=by simpa using h4
        replace h4:=hid h4
        by_cases h5:n≤64
        · have d5a:decide (n≤64)=true:=by simpa using h5
          replace h5:=hid h5
          have HY:=hid (show yI g.refs ⟨k,o,a,b,cc,n⟩ = true from by simp[yI,h0,h1,h2.out,h3,h4.out,h5.out]);go_enter Tryz.func242,Tryz.ntmps242;go_wp2_with fail;rw[←HU.out];rw[←HU.out]at q0 q1 q2 q3 q4 q5;refine (HG.out _).mono ?_;rintro e w' ⟨rfl,rfl⟩;rw[h0];go_wp2_with fail;refine (HR.out _).mono ?_;rintro e w' ⟨rfl,rfl⟩;rw[h1];go_wp2_with fail;refine (HN.out _).mono ?_;rintro e w' ⟨rfl,rfl⟩;rw[h3];go_wp2_with fail;go_ret;exact⟨by rw[HY.out];rfl,HB.out⟩
        · have d5a:decide (n≤64)=false:=by simpa using h5
          replace h5:=hid h5
          have HY:=hid (show yI g.refs ⟨k,o,a,b,cc,n⟩ = false from by simp[yI,h0,h1,h2.out,h3,h4.out,h5.out]);go_enter Tryz.func242,Tryz.ntmps242;go_wp2_with fail;rw[←HU.out];rw[←HU.out]at q0 q1 q2 q3 q4 q5;refine (HG.out _).mono ?_;rintro e w' ⟨rfl,rfl⟩;rw[h0];go_wp2_with fail;refine (HR.out _).mono ?_;rintro e w' ⟨rfl,rfl⟩;rw[h1];go_wp2_with fail;refine (HN.out _).mono ?_;rintro e w' ⟨rfl,rfl⟩;rw[h3];go_wp2_with fail;go_ret;exact⟨by rw[HY.out];rfl,HB.out⟩
      · have d4a:decide (0≤n)=false:=by simpa using h4
        replace h4:=hid h4
        have HY:=hid (show yI g.refs ⟨k,o,a,b,cc,n⟩ = false from by simp[yI,h0,h1,h2.out,h3,h4.out]);go_enter Tryz.func242,Tryz.ntmps242;go_wp2_with fail;rw[←HU.out];rw[←HU.out]at q0 q1 q2 q3 q4 q5;refine (HG.out _).mono ?_;rintro e w' ⟨rfl,rfl⟩;rw[h0];go_wp2_with fail;refine (HR.out _).mono ?_;rintro e w' ⟨rfl,rfl⟩;rw[h1];go_wp2_with fail;refine (HN.out _).mono ?_;rintro e w' ⟨rfl,rfl⟩;rw[h3];go_wp2_with fail;go_ret;exact⟨by rw[HY.out];rfl,HB.out⟩
