/- Whether calls lead from one function to another, and which function comes back to itself first. -/
import Derived.Test.YtdhieihcmnpneaaGreatDoorRows
import Derived.Test.YtdhieihcmnpneaaGreatDoorEffCalls
namespace Go.Proofs.YtdhieihcmnpneaaGreatDoor
open Lib (hid)
set_option maxHeartbeats 8000000
open Go.RowKit
set_option maxRecDepth 100000
theorem row_read {w:World} {L:Nat} {v:Value} {l:List ByteArray} (h:w.ownsRow L 9 1 v l.length (l.map Value.string)) :
    ∃ ao cap,v = .slice ao l.length cap∧l.length≤maxLen∧(0 < l.length→∃ g cs,ao=some ⟨g,0,none⟩ ∧ g < w.heap.size∧w.heap[g]? = some (.cells cs 9 (0,0))∧∀ j x,l[j]? = some x→w.cell? ⟨g,j,none⟩ = some (.string x)):=by
  rcases h.2 with ⟨hv,hn⟩|⟨g,cap,cur,hv,_,hg,hn,hc,hs,ht⟩
  · exact⟨none,0,by rw [hn];exact hv,by rw [hn];unfold maxLen;omega,fun h0=>by omega⟩
  · refine⟨_,cap,hv,by omega,fun h0=>⟨g,cur,rfl,(Array.getElem?_eq_some_iff.1 hg).1,hg,fun j x hj=>?_⟩⟩
    have hjl:=(List.getElem?_eq_some_iff.1 hj).1
    rw [Lib.cell_of_heap hg]
    have h2:(cur.toList.take (l.length * 1))[j]? = some (.string x):=by rw [ht,List.getElem?_map,hj];rfl
    rw [List.getElem?_take,if_pos (by omega)] at h2
    rw [← Array.getElem?_toList];exact h2
theorem IsSt.isMap {w:World} {m:Nat} {Q:ByteArray→Bool} (h:IsSt w m Q):∃ kv,IsMapT w m kv:=by obtain⟨kv,h,_⟩:=h;exact⟨kv,h⟩
theorem IsCl.after {w w':World} {L m kb:Nat} {W:ByteArray→List ByteArray} {kv:List (ByteArray × Value)} {Q:ByteArray→Bool} (h:IsCl w L m W kv) (k:Wr (fun g=>g=kb) w w') (hn:kb ≠ m) (hs:IsSt w kb Q):IsCl w' L m W kv:=by
  obtain⟨kv2,hk⟩:=hs.isMap
  exact⟨h.map.of (k.block m h.map.lt (fun e=>hn e.symm)),fun s v hv=>(h.rows s v hv).kept (row:=some kb) ⟨k.os,k.tape,k.output,k.size,fun g hg hne=>k.block g hg (fun e=>hne (by rw [e]))⟩ (.inr (own_not_map (h.rows s v hv) hk)),h.none,h.apart,h.far⟩
theorem has_cons (y x:ByteArray) (l:List ByteArray):has y (x :: l)=(decide (y=x) || has y l):=by
  unfold has
  rw [List.any_cons]
  congr 1
  by_cases h:x=y
  · simp [h]
  · have h2:¬ y=x:=fun e=>h e.symm
    simp [h,h2]
def LeadE (fs:List Fn) (to:ByteArray) (fuel:Nat) (s:ByteArray) (met:List ByteArray) (kb:Nat) (w:World) (e:Ending) (w':World):Prop:=
  e = .returned (.bool (leadsN fs to fuel s met).1)∧IsSt w' kb (fun x=>has x (leadsN fs to fuel s met).2)∧Wr (fun g=>g=kb) w w'
theorem lead_any (fs:List Fn) (hO:Own fs) (to:ByteArray):∀ (fuel:Nat) (s:ByteArray) (met:List ByteArray) (w:World) (L m kb:Nat) (kv:List (ByteArray × Value)),IsCl w L m (callsN fs) kv→IsSt w kb (fun x=>has x met)→kb ≠ m→s ∈ nnames fs→left (nnames fs) met < fuel →
    Calls Tryz.prog 60 #[.map (some m),.string s,.string to,.map (some kb)] w (LeadE fs to fuel s met kb w):=by
  intro fuel
  induction fuel with
  | zero=>intro s met w L m kb kv _ _ _ _ h;omega
  | succ fuel ih =>
  intro s met w L m kb kv hC hS hne hs hleft
  obtain⟨v,hv,hlk,-⟩:=cl_look hC s
  obtain⟨l,hl⟩:∃ l,l=callsN fs s:=⟨_,rfl⟩
  rw [← hl] at hv
  obtain⟨ao,cap,rfl,hlen,hrd⟩:=row_read hv
  have hlU:∀ c ∈ l,c ∈ nnames fs:=fun c hc=>hO s hs c (by rw [← hl];exact hc)
  obtain⟨R,hR⟩:∃ R,R=leadsN fs to (fuel+1) s met:=⟨_,rfl⟩
  have hR2:R=leadsL (leadsN fs to fuel) to l met:=by rw [hR,leadsN,hl]
  have hpost:LeadE fs to (fuel+1) s met kb w=fun e w'=>e = .returned (.bool R.1)∧IsSt w' kb (fun x=>has x R.2)∧Wr (fun g=>g=kb) w w':=by rw [hR];rfl
  rw [hpost]
  have hl1:=hlk w rfl
  obtain⟨N,hN⟩:∃ N,N=l.length:=⟨_,rfl⟩
  rw [← hN] at hlen hrd hl1
  have hN0:(0:Int)≤(N:Int):=by omega
  have hN1:N≤9223372036854775807:=by unfold maxLen at hlen;omega
  have HC:=hid hC
  have HS:=hid hS
  have HRD:=hid hrd
  have HLU:=hid hlU
  have HR:=hid hR2
  have HN:=hid hN
  have HIH:=hid ih
  have HL:=hid hleft
  clear hC hS hv hlk hrd hlU hR hR2 hpost hN ih hleft hl hlen
  go_enter Tryz.func60,Tryz.ntmps60
  go_wp2_with fail
  go_loopw [17] (fun q wr=>∃ j:Nat,j≤N∧q = .int .i64 j∧∃ mt:List ByteArray,Hid (IsSt wr kb (fun x=>has x mt))∧Hid (R=leadsL (leadsN fs to fuel) to (l.drop j) mt)∧Hid (left (nnames fs) mt < fuel+1)∧Hid (Wr (fun g=>g=kb) w wr)) (fun q _=>N - (intOf q).toNat)
  case atStart=>exact⟨0,by omega,rfl,met,HS,hid (by rw [List.drop_zero];exact HR.out),HL,hid (Wr.refl _ _)⟩
  case round =>
    obtain⟨j,hjN,rfl,mt,HSr,HRr,HLr,HWr⟩:=hrel
    by_cases hj:j < N
    · obtain⟨g,cs,rfl,hg,hgc,hrd⟩:=HRD.out (by omega)
      have hjx:j < l.length:=by rw [← HN.out];exact hj
      have hrr:=HRr.out
      rw [List.drop_eq_getElem_cons hjx,leadsL] at hrr
      have hpx:=hrd j l[j] (List.getElem?_eq_getElem hjx)
      have hxU:=HLU.out l[j] (List.getElem_mem hjx)
      have hgk:g ≠ kb:=by
        obtain⟨kv2,es,ck,hb,_⟩:=HS.out.isMap
        rintro rfl
        rw [hgc] at hb;cases hb
      generalize l[j] = x at hrr hpx hxU
      have p0:wr.cell? ⟨g,j,none⟩ = some (.string x):=by rw [← hpx];simp only [World.cell?,HWr.out.block g hg hgk]
      have hgs:g < wr.heap.size:=Nat.lt_of_lt_of_le hg HWr.out.size
      have hq:=str_eq x to
      clear hpx hgc
      by_cases hto:x=to
      · rw [if_pos hto] at hrr
        have HQ:=hid hrr
        rw [decide_eq_true hto] at hq
        clear hrr hto
        go_wp2_with fail
        go_ret
        exact⟨by rw [HQ.out];rfl,by rw [HQ.out];exact HSr.out,HWr.out⟩
      · rw [if_neg hto] at hrr
        rw [decide_eq_false hto] at hq
        clear hto
        obtain⟨W5,hW5⟩:∃ W5,W5=wr.alloc (.cells #[] 84):=⟨_,rfl⟩
        have hb5:Below wr.heap.size wr W5:=by rw [hW5];exact below_box wr _
        have hS5:=HSr.out.of (hb5.block kb HSr.out.lt)
        have hlk:=look_st HSr.out x wr rfl
        have HS5:=hid hS5
        have HW5:=hid hW5
        have HWr5:=hid (HWr.out.trans (Wr.of_below hb5))
        clear hb5 hS5 hW5
        cases hh:has x mt with
        | true =>
          rw [hh] at hlk
          rw [if_pos hh] at hrr
          have HQ:=hid hrr
          clear hrr hh
          go_wp2_with fail
          go_roundw
          case rel=>exact⟨j+1,by omega,by go_num,mt,by rw [← HW5.out];exact HS5,HQ,HLr,by rw [← HW5.out];exact HWr5⟩
          case measure=>simp [intOf];omega
        | false =>
          rw [hh] at hlk
          rw [if_neg (by rw [hh];decide)] at hrr
          have hnm:x ∉ mt:=has_not.1 hh
          obtain⟨w6,hrun,hS6,hg6⟩:=put_st HS5.out x
          have hS6':=hS6.congr (fun y=>(has_cons y x mt).symm)
          have hw6:=Wr.of_grown (S:=fun g=>g=kb) hg6 rfl
          have hall6:=HWr5.out.trans hw6
          have hlt6:=left_cons hxU hnm
          have hcall:=HIH.out x (x :: mt) w6 L m kb kv (HC.out.after hall6 hne HS.out) hS6' hne hxU (by have:=HLr.out;omega)
          have HCALL:=hid hcall
          have HALL6:=hid hall6
          have HRR:=hid hrr
          have HLT:=hid hlt6
          have HXU:=hid hxU
          rw [HW5.out] at hrun
          clear hS6 hS6' hg6 hw6 hall6 hcall hrr hlt6 hnm hh
          go_wp2_with fail
          refine HCALL.out.mono ?_;rintro e w7 ⟨rfl,hS7,hw7⟩
          obtain⟨r,hr⟩:∃ r,r=leadsN fs to fuel x (x :: mt):=⟨_,rfl⟩
          obtain⟨b,mr⟩:=r
          have hrr:=HRR.out
          rw [← hr] at hS7 hrr ⊢
          have HS7:=hid hS7
          have HW7:=hid (HALL6.out.trans hw7)
          have HRN:=hid hr
          clear hS7 hw7 hr hrun
          cases b with
          | true =>
            have HQ:=hid (show R=(true,mr) from hrr)
            clear hrr
            go_wp2_with fail
            go_ret
            exact⟨by rw [HQ.out];rfl,by rw [HQ.out];exact HS7.out,HW7.out⟩
          | false =>
            have HQ:=hid (show R=leadsL (leadsN fs to fuel) to (l.drop (j+1)) mr from hrr)
            have HLM:=hid (show left (nnames fs) mr < fuel+1 by
              have hc:=leadsN_closed fs to (nnames fs) hO fuel x (x :: mt) mr HXU.out (by have:=HLT.out;have:=HLr.out;omega) HRN.out.symm
              have:=left_mono (nnames fs) (met:=mt) (m:=mr) (fun y hy=>hc.sub y (List.mem_cons_of_mem _ hy))
              have:=HLr.out
              omega)
            clear hrr
            go_wp2_with fail
            go_roundw
            case rel=>exact⟨j+1,by omega,by go_num,mr,HS7,HQ,HLM,HW7⟩
            case measure=>simp [intOf];omega
    · have hrr:=HRr.out
      rw [List.drop_eq_nil_of_le (by rw [← HN.out];omega),leadsL] at hrr
      have HQ:=hid hrr
      clear hrr
      go_wp2_with fail
      go_ret
      exact⟨by rw [HQ.out];rfl,by rw [HQ.out];exact HSr.out,HWr.out⟩
end Go.Proofs.YtdhieihcmnpneaaGreatDoor
namespace Go.Proofs.YtdhieihcmnpneaaGreatDoor
open Lib (hid)
set_option maxHeartbeats 8000000
open Go.RowKit
set_option maxRecDepth 100000
theorem makeS0 (w:World):(Instr.makeMap 79 none).run Tryz.prog w = .ok (.map (some w.heap.size)) (w.alloc (.map #[] 0)):=by
  simp [Instr.makeMap,go_sem,Result.andThen]
def ringV (r:Option Nat):Value:=match r with
  | none=>.tuple #[.int .i64 0,.bool false]
  | some i=>.tuple #[.int .i64 (i:Int),.bool true]
theorem first_ring (P:Pr) (B:Nat) (w:World) (hBw:B≤w.heap.size) (hI:PIn w B P) (hF:Fits P) :
    Calls Tryz.prog 28 #[.agg #[P.e.rv,P.e.sv,P.e.fv,P.tv]] w fun x w'=>x = .returned (ringV (ringN P.e.funcs P.e.funcs 0))∧Below w.heap.size w w':=by
  obtain⟨fo,fc,ef,hfl,hfg⟩:=hI.e.flies.form
  have HFL:=hid hI.e.flies
  have HFI:=hid hI.e.funcs
  obtain⟨W1,hW1⟩:∃ W1,W1=w.alloc (.cells #[P.e.rv,P.e.sv,P.e.fv,P.tv] 27):=⟨_,rfl⟩
  have hb1:Below w.heap.size w W1:=by rw [hW1];exact below_box w _
  have hz1:W1.heap.size=w.heap.size+1:=by rw [hW1];simp
  have hO1:W1.heap[w.heap.size]? = some (.cells #[P.e.rv,P.e.sv,P.e.fv,P.tv] 27 (0,0)):=by rw [hW1];exact (MapKept.heap_alloc _ _).1
  have hco:=calls_of P B W1 (by omega) (hI.keeps (hb1.mono hBw)) hF
  obtain⟨rv,hrv⟩:∃ v,v=P.e.rv:=⟨_,rfl⟩
  obtain⟨sv,hsv⟩:∃ v,v=P.e.sv:=⟨_,rfl⟩
  obtain⟨tv,htv⟩:∃ v,v=P.tv:=⟨_,rfl⟩
  rw [ef,← hrv,← hsv,← htv] at hW1 hO1 hco ⊢
  rw [ef] at HFL
  obtain⟨N3,hN3⟩:∃ N,N=P.e.funcs.length:=⟨_,rfl⟩
  obtain⟨R,hR⟩:∃ R,R=ringN P.e.funcs P.e.funcs 0:=⟨_,rfl⟩
  rw [← hN3] at hfl hfg HFL hW1 hO1 hco ⊢
  rw [← hR]
  obtain⟨q0,q1,q2,q3⟩:=cells_prog _ _ _ _ hO1
  rw [hW1] at q0 q1 q2 q3
  have HCO:=hid hco
  have HB1:=hid hb1
  have HO1:=hid hO1
  have HW1:=hid hW1
  have HFF:=hid hF
  have HN3:=hid hN3
  have HGF:=hid hfg
  have HR:=hid hR
  have mk:=makeS0
  clear hI hF ef hrv hsv htv hN3 hfg hb1 hO1 hW1 hco hR
  go_enter Tryz.func28,Tryz.ntmps28
  go_wp2_with fail
  rw [← HW1.out]
  refine HCO.out.mono ?_;rintro z w2 ⟨m,kv,rfl,hC,hb2⟩
  have hs2:=hb2.size
  have HC:=hid hC
  have HB2:=hid (HB1.out.trans (hb2.mono (by omega)))
  have HO2:=hid ((hb2.block w.heap.size (by omega)).trans HO1.out)
  obtain⟨q0,q1,q2,q3⟩:=cells_prog _ _ _ _ HO2.out
  clear hC hb2
  go_wp2_with fail
  clear q0 q1 q2 q3
  go_loopw [12] (fun q wr=>∃ k:Nat,k≤N3∧q = .int .i64 k∧Hid (IsCl wr W1.heap.size m (callsN P.e.funcs) kv)∧Below w.heap.size w wr∧Hid (R=ringN P.e.funcs (P.e.funcs.drop k) k)) (fun q _=>N3 - (intOf q).toNat)
  case atStart=>exact⟨0,by omega,rfl,HC,HB2.out,hid (by rw [List.drop_zero];exact HR.out)⟩
  case round =>
    obtain⟨k,hkN,rfl,HCr,hB,HRr⟩:=hrel
    have hsr:=hB.size
    by_cases hk:k < N3
    · obtain⟨g,off,rfl,hg⟩:=HGF.out (by omega)
      have hkx:k < P.e.funcs.length:=by rw [← HN3.out];exact hk
      have hat:=((HFL.out.below (hB.mono hBw)).at rfl k hkx).2
      have hma:=(HFI.out _ (List.getElem_mem hkx)).keeps (hB.mono hBw)
      have hmn:P.e.funcs[k].name ∈ nnames P.e.funcs:=List.mem_map.2 ⟨_,List.getElem_mem hkx,rfl⟩
      have hrr:=HRr.out
      rw [List.drop_eq_getElem_cons hkx,ringN] at hrr
      generalize P.e.funcs[k] = a at hat hma hmn hrr
      obtain⟨p0,p1,p2,p3,p4,p5⟩:=cells6F hat
      obtain⟨po,pc,ep,-⟩:=hma.lies.form
      obtain⟨bo,bc,eb,-⟩:=hma.blies.form
      obtain⟨pn,hpn⟩:∃ n,n=a.params.length:=⟨_,rfl⟩
      obtain⟨bn,hbn⟩:∃ n,n=a.body.length:=⟨_,rfl⟩
      rw [ep,← hpn] at p1
      rw [eb,← hbn] at p5
      obtain⟨W5,hW5⟩:∃ W5,W5=wr.alloc (.cells #[.string a.name,.slice po pn pc,.int .u8 a.res.k,.string a.res.n,.int .i64 a.res.z,.slice bo bn bc] 33):=⟨_,rfl⟩
      have hb5:Below wr.heap.size wr W5:=by rw [hW5];exact below_box wr _
      have hz5:W5.heap.size=wr.heap.size+1:=by rw [hW5];simp
      have k5:=own6F (show W5.heap[wr.heap.size]? = some (.cells #[.string a.name,.slice po pn pc,.int .u8 a.res.k,.string a.res.n,.int .i64 a.res.z,.slice bo bn bc] 33 (0,0)) by rw [hW5];exact (MapKept.heap_alloc _ _).1)
      obtain⟨W6,hW6⟩:∃ W6,W6=W5.alloc (.map #[] 0):=⟨_,rfl⟩
      have hb6:Below W5.heap.size W5 W6:=by rw [hW6];exact below_box W5 _
      have hM6:W6.heap[W5.heap.size]? = some (.map #[] 0):=by rw [hW6];exact (MapKept.heap_alloc _ _).1
      have hst6:IsSt W6 W5.heap.size (fun x=>has x []):=⟨[],⟨#[],0,hM6,rfl,rfl⟩,fun s=>by simp [lookT,has]⟩
      have hcl6:=(HCr.out.keeps hb5).keeps hb6
      have hml:m < wr.heap.size:=HCr.out.map.lt
      have hlf:left (nnames P.e.funcs) [] < P.e.funcs.length+1:=by
        have h1:=left_le (nnames P.e.funcs) []
        have h2:(nnames P.e.funcs).length=P.e.funcs.length:=by unfold nnames;simp
        omega
      have hld:=lead_any P.e.funcs HFF.out.own a.name (P.e.funcs.length+1) a.name [] W6 W1.heap.size m W5.heap.size kv hcl6 hst6 (by omega) hmn hlf
      rw [hz5] at hld
      have HLD:=hid hld
      have HW5:=hid hW5
      have HW6:=hid hW6
      have HB6:=hid (hB.trans ((hb5.trans (hb6.mono hb5.size)).mono hsr))
      have HCL6:=hid hcl6
      have HST6:=hid hst6
      have HRR:=hid hrr
      have hgs:g < wr.heap.size:=by omega
      obtain⟨k0,-,-⟩:=k5
      rw [hW5] at k0
      clear hat hma hmn ep eb hpn hbn hW5 hb5 hW6 hb6 hM6 hst6 hcl6 hld hB hrr
      go_wp2_with fail
      rw [← HW5.out,← HW6.out]
      refine HLD.out.mono ?_;rintro z w7 ⟨rfl,-,hw7⟩
      obtain⟨b,hb⟩:∃ b,b=(leadsN P.e.funcs a.name (P.e.funcs.length+1) a.name []).1:=⟨_,rfl⟩
      rw [← hb]
      have hrr:=HRR.out
      unfold ringAt at hrr
      rw [← hb] at hrr
      have HCL7:=hid (HCL6.out.after (hw7.mono (fun g hg=>by rw [hg,hz5])) (by omega) HST6.out)
      have HB7:=hid (HB6.out.trans (hw7.below (B:=w.heap.size) (fun g hg=>by omega) HB6.out.size))
      clear hw7 hb k0 p0 p1 p2 p3 p4 p5
      cases b with
      | true =>
        have HQ:=hid (show R=some k by rw [hrr,if_pos rfl])
        clear hrr
        go_wp2_with fail
        go_ret2
        exact⟨by rw [HQ.out];rfl,HB7.out⟩
      | false =>
        have HQ:=hid (show R=ringN P.e.funcs (P.e.funcs.drop (k+1)) (k+1) by rw [hrr,if_neg (by decide)])
        clear hrr
        go_wp2_with fail
        go_roundw
        case rel=>exact⟨k+1,by omega,by go_num,HCL7,HB7.out,HQ⟩
        case measure=>simp [intOf];omega
    · have hrr:=HRr.out
      rw [List.drop_eq_nil_of_le (by rw [← HN3.out];omega),ringN] at hrr
      have HQ:=hid hrr
      have HBr:=hid hB
      clear hrr hB
      go_wp2_with fail
      go_ret2
      exact⟨by rw [HQ.out];rfl,HBr.out⟩
end Go.Proofs.YtdhieihcmnpneaaGreatDoor
