/- Whether calls lead from one function to another, and which function comes back to itself first. -/
import Derived.Test.YtcibiiddigpnfaaRows
import Derived.Test.YtcibiiddigpnfaaEffCalls
namespace Go.Proofs.Ytcibiiddigpnfaa
open Lib (hid)
set_option maxHeartbeats 8000000
open Go.RowKit
set_option maxRecDepth 100000
theorem row_read {w:World} {L:Nat} {v:Value} {l:List ByteArray} (h:w.ownsRow L 9 1 v l.length (l.map Value.string)) :
    ∃ ao cap,v = .slice ao l.length cap∧l.length≤maxLen∧(0 < l.length→∃ g cs,ao=some ⟨g,0,none⟩ ∧ g < w.heap.size∧w.heap[g]? = some (.cells cs 9 (0,0))∧∀ j x,l[j]? = some x→w.cell? ⟨g,j,none⟩ = some (.string x)):=by
  rcases h.2 with ⟨hv,hn⟩|⟨g,cap,cur,hv,_,hg,hn,hc,hs,ht⟩
  · exact⟨none,0,by rw [hn];exact hv,by rw [hn];unfold maxLen;omega,fun h0=>by omega⟩
  · refine⟨_,cap,hv,by omega,fun h0=>⟨g,cur,rfl,(Array.getElem?_eq_some_iff.1 hg).1,hg,fun j x hj=>?_⟩⟩
    have hjl:=(List.getElem?_eq_some_iff.1 hj).1
    rw [Lib.cell_of_heap hg]
    have h2:(cur.toList.take (l.length * 1))[j]? = some (.string x):=by rw [ht,List.getElem?_map,hj];rfl
    rw [List.getElem?_take,if_pos (by omega)] at h2
    rw [← Array.getElem?_toList];exact h2
theorem IsSt.isMap {w:World} {m:Nat} {Q:ByteArray→Bool} (h:IsSt w m Q):∃ kv,IsMapT w m kv:=by obtain⟨kv,h,_⟩:=h;exact⟨kv,h⟩
theorem IsCl.after {w w':World} {L m kb:Nat} {W:ByteArray→List ByteArray} {kv:List (ByteArray × Value)} {Q:ByteArray→Bool} (h:IsCl w L m W kv) (k:Wr (fun g=>g=kb) w w') (hn:kb ≠ m) (hs:IsSt w kb Q):IsCl w' L m W kv:=by
  obtain⟨kv2,hk⟩:=hs.isMap
  exact⟨h.map.of (k.block m h.map.lt (fun e=>hn e.symm)),fun s v hv=>(h.rows s v hv).kept (row:=some kb) ⟨k.os,k.tape,k.output,k.size,fun g hg hne=>k.block g hg (fun e=>hne (by rw [e]))⟩ (.inr (own_not_map (h.rows s v hv) hk)),h.none,h.apart,h.far⟩
theorem has_cons (y x:ByteArray) (l:List ByteArray):has y (x :: l)=(decide (y=x) || has y l):=by
  unfold has
  rw [List.any_cons]
  congr 1
  by_cases h:x=y
  · simp [h]
  · have h2:¬ y=x:=fun e=>h e.symm
    simp [h,h2]
def LeadE (fs:List Fn) (to:ByteArray) (fuel:Nat) (s:ByteArray) (met:List ByteArray) (kb:Nat) (w:World) (e:Ending) (w':World):Prop:=
  e = .returned (.bool (leadsN fs to fuel s met).1)∧IsSt w' kb (fun x=>has x (leadsN fs to fuel s met).2)∧Wr (fun g=>g=kb) w w'
theorem lead_any (fs:List Fn) (hO:Own fs) (to:ByteArray):∀ (fuel:Nat) (s:ByteArray) (met:List ByteArray) (w:World) (L m kb:Nat) (kv:List (ByteArray × Value)),IsCl w L m (callsN fs) kv→IsSt w kb (fun x=>has x met)→kb ≠ m→s ∈ nnames fs→left (nnames fs) met < fuel →
    Calls Try.prog 25 #[.map (some m),.string s,.string to,.map (some kb)] w (LeadE fs to fuel s met kb w):=by
  intro fuel
  induction fuel with
  | zero=>intro s met w L m kb kv _ _ _ _ h;omega
  | succ fuel ih =>
  intro s met w L m kb kv hC hS hne hs hleft
  obtain⟨v,hv,hlk,-⟩:=cl_look hC s
  obtain⟨l,hl⟩:∃ l,l=callsN fs s:=⟨_,rfl⟩
  rw [← hl] at hv
  obtain⟨ao,cap,rfl,hlen,hrd⟩:=row_read hv
  have hlU:∀ c ∈ l,c ∈ nnames fs:=fun c hc=>hO s hs c (by rw [← hl];exact hc)
  obtain⟨R,hR⟩:∃ R,R=leadsN fs to (fuel+1) s met:=⟨_,rfl⟩
  have hR2:R=leadsL (leadsN fs to fuel) to l met:=by rw [hR,leadsN,hl]
  have hpost:LeadE fs to (fuel+1) s met kb w=fun e w'=>e = .returned (.bool R.1)∧IsSt w' kb (fun x=>has x R.2)∧Wr (fun g=>g=kb) w w':=by rw [hR];rfl
  rw [hpost]
  have hl1:=hlk w rfl
  obtain⟨N,hN⟩:∃ N,N=l.length:=⟨_,rfl⟩
  rw [← hN] at hlen hrd hl1
  have hN0:(0:Int)≤(N:Int):=by omega
  have hN1:N≤9223372036854775807:=by unfold maxLen at hlen;omega
  have HC:=hid hC
  have HS:=hid hS
  have HRD:=hid hrd
  have HLU:=hid hlU
  have HR:=hid hR2
  have HN:=hid hN
  have HIH:=hid ih
  have HL:=hid hleft
  clear hC hS hv hlk hrd hlU hR hR2 hpost hN ih hleft hl hlen
  go_enter Try.func25,Try.ntmps25
  go_wp2_with fail
  go_loopw [17] (fun q wr=>∃ j:Nat,j≤N∧q = .int .i64 j∧∃ mt:List ByteArray,Hid (IsSt wr kb (fun x=>has x mt))∧Hid (R=leadsL (leadsN fs to fuel) to (l.drop j) mt)∧Hid (left (nnames fs) mt < fuel+1)∧Hid (Wr (fun g=>g=kb) w wr)) (fun q _=>N - (intOf q).toNat)
  case atStart=>exact⟨0,by omega,rfl,met,HS,hid (by rw [List.drop_zero];exact HR.out),HL,hid (Wr.refl _ _)⟩
  case round =>
    obtain⟨j,hjN,rfl,mt,HSr,HRr,HLr,HWr⟩:=hrel
    by_cases hj:j < N
    · obtain⟨g,cs,rfl,hg,hgc,hrd⟩:=HRD.out (by omega)
      have hjx:j < l.length:=by rw [← HN.out];exact hj
      have hrr:=HRr.out
      rw [List.drop_eq_getElem_cons hjx,leadsL] at hrr
      have hpx:=hrd j l[j] (List.getElem?_eq_getElem hjx)
      have hxU:=HLU.out l[j] (List.getElem_mem hjx)
      have hgk:g ≠ kb:=by
        obtain⟨kv2,es,ck,hb,_⟩:=HS.out.isMap
        rintro rfl
        rw [hgc] at hb;cases hb
      generalize l[j] = x at hrr hpx hxU
      have p0:wr.cell? ⟨g,j,none⟩ = some (.string x):=by rw [← hpx];simp only [World.cell?,HWr.out.block g hg hgk]
      have hgs:g < wr.heap.size:=Nat.lt_of_lt_of_le hg HWr.out.size
      have hq:=str_eq x to
      clear hpx hgc
      by_cases hto:x=to
      · rw [if_pos hto] at hrr
        have HQ:=hid hrr
        rw [decide_eq_true hto] at hq
        clear hrr hto
        go_wp2_with fail
        go_ret
        exact⟨by rw [HQ.out];rfl,by rw [HQ.out];exact HSr.out,HWr.out⟩
      · rw [if_neg hto] at hrr
        rw [decide_eq_false hto] at hq
        clear hto
        obtain⟨W5,hW5⟩:∃ W5,W5=wr.alloc (.cells #[] 87):=⟨_,rfl⟩
        have hb5:Below wr.heap.size wr W5:=by rw [hW5];exact below_box wr _
        have hS5:=HSr.out.of (hb5.block kb HSr.out.lt)
        have hlk:=look_st HSr.out x wr rfl
        have HS5:=hid hS5
        have HW5:=hid hW5
        have HWr5:=hid (HWr.out.trans (Wr.of_below hb5))
        clear hb5 hS5 hW5
        cases hh:has x mt with
        | true =>
          rw [hh] at hlk
          rw [if_pos hh] at hrr
          have HQ:=hid hrr
          clear hrr hh
          go_wp2_with fail
          go_roundw
          case rel=>exact⟨j+1,by omega,by go_num,mt,by rw [← HW5.out];exact HS5,HQ,HLr,by rw [← HW5.out];exact HWr5⟩
          case measure=>simp [intOf];omega
        | false =>
          rw [hh] at hlk
          rw [if_neg (by rw [hh];decide)] at hrr
          have hnm:x ∉ mt:=has_not.1 hh
          obtain⟨w6,hrun,hS6,hg6⟩:=put_st HS5.out x
          have hS6':=hS6.congr (fun y=>(has_cons y x mt).symm)
          have hw6:=Wr.of_grown (S:=fun g=>g=kb) hg6 rfl
          have hall6:=HWr5.out.trans hw6
          have hlt6:=left_cons hxU hnm
          have hcall:=HIH.out x (x :: mt) w6 L m kb kv (HC.out.after hall6 hne HS.out) hS6' hne hxU (by have:=HLr.out;omega)
          have HCALL:=hid hcall
          have HALL6:=hid hall6
          have HRR:=hid hrr
          have HLT:=hid hlt6
          have HXU:=hid hxU
          rw [HW5.out] at hrun
          clear hS6 hS6' hg6 hw6 hall6 hcall hrr hlt6 hnm hh
          go_wp2_with fail
          refine HCALL.out.mono ?_;rintro e w7 ⟨rfl,hS7,hw7⟩
          obtain⟨r,hr⟩:∃ r,r=leadsN fs to fuel x (x :: mt):=⟨_,rfl⟩
          obtain⟨b,mr⟩:=r
          have hrr:=HRR.out
          rw [← hr] at hS7 hrr ⊢
          have HS7:=hid hS7
          have HW7:=hid (HALL6.out.trans hw7)
          have HRN:=hid hr
          clear hS7 hw7 hr hrun
          cases b with
          | true =>
            have HQ:=hid (show R=(true,mr) from hrr)
            clear hrr
            go_wp2_with fail
            go_ret
            exact⟨by rw [HQ.out];rfl,by rw [HQ.out];exact HS7.out,HW7.out⟩
          | false =>
            have HQ:=hid (show R=leadsL (leadsN fs to fuel) to (l.drop (j+1)) mr from hrr)
            have HLM:=hid (show left (nnames fs) mr < fuel+1 by
              have hc:=leadsN_closed fs to (nnames fs) hO fuel x (x :: mt) mr HXU.out (by have:=HLT.out;have:=HLr.out;omega) HRN.out.symm
              have:=left_mono (nnames fs) (met:=mt) (m:=mr) (fun y hy=>hc.sub y (List.mem_cons_of_mem _ hy))
              have:=HLr.out
              omega)
            clear hrr
            go_wp2_with fail
            go_roundw
            case rel=>exact⟨j+1,by omega,by go_num,mr,HS7,HQ,HLM,HW7⟩
            case measure=>simp [intOf];omega
    · have hrr:=HRr.out
      rw [List.drop_eq_nil_of_le (by rw [← HN.out];omega),leadsL] at hrr
      have HQ:=hid hrr
      clear hrr
      go_wp2_with fail
      go_ret
      exact⟨by rw [HQ.out];rfl,by rw [HQ.out];exact HSr.out,HWr.out⟩
end Go.Proofs.Ytcibiiddigpnfaa
