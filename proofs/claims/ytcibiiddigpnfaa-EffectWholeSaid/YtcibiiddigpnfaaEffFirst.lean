/- Which function comes back to itself first, as package effect finds it. -/
import Derived.Test.YtcibiiddigpnfaaRows
import Derived.Test.YtcibiiddigpnfaaEffLead
namespace Go.Proofs.Ytcibiiddigpnfaa
open Lib (hid)
set_option maxHeartbeats 8000000
open Go.RowKit
set_option maxRecDepth 100000
theorem makeS0 (w:World):(Instr.makeMap 75 none).run Try.prog w = .ok (.map (some w.heap.size)) (w.alloc (.map #[] 0)):=by
  simp [Instr.makeMap,go_sem,Result.andThen]
def ringV (r:Option Nat):Value:=match r with
  | none=>.tuple #[.int .i64 0,.bool false]
  | some i=>.tuple #[.int .i64 (i:Int),.bool true]
theorem first_ring (P:Pr) (B:Nat) (w:World) (hBw:B≤w.heap.size) (hI:PIn w B P) (hF:Fits P) :
    Calls Try.prog 12 #[.agg #[P.e.rv,P.e.sv,P.e.fv,P.tv]] w fun x w'=>x = .returned (ringV (ringN P.e.funcs P.e.funcs 0))∧Below w.heap.size w w':=by
  obtain⟨fo,fc,ef,hfl,hfg⟩:=hI.e.flies.form
  have HFL:=hid hI.e.flies
  have HFI:=hid hI.e.funcs
  obtain⟨W1,hW1⟩:∃ W1,W1=w.alloc (.cells #[P.e.rv,P.e.sv,P.e.fv,P.tv] 27):=⟨_,rfl⟩
  have hb1:Below w.heap.size w W1:=by rw [hW1];exact below_box w _
  have hz1:W1.heap.size=w.heap.size+1:=by rw [hW1];simp
  have hO1:W1.heap[w.heap.size]? = some (.cells #[P.e.rv,P.e.sv,P.e.fv,P.tv] 27 (0,0)):=by rw [hW1];exact (MapKept.heap_alloc _ _).1
  have hco:=calls_of P B W1 (by omega) (hI.keeps (hb1.mono hBw)) hF
  obtain⟨rv,hrv⟩:∃ v,v=P.e.rv:=⟨_,rfl⟩
  obtain⟨sv,hsv⟩:∃ v,v=P.e.sv:=⟨_,rfl⟩
  obtain⟨tv,htv⟩:∃ v,v=P.tv:=⟨_,rfl⟩
  rw [ef,← hrv,← hsv,← htv] at hW1 hO1 hco ⊢
  rw [ef] at HFL
  obtain⟨N3,hN3⟩:∃ N,N=P.e.funcs.length:=⟨_,rfl⟩
  obtain⟨R,hR⟩:∃ R,R=ringN P.e.funcs P.e.funcs 0:=⟨_,rfl⟩
  rw [← hN3] at hfl hfg HFL hW1 hO1 hco ⊢
  rw [← hR]
  obtain⟨q0,q1,q2,q3⟩:=cells_prog _ _ _ _ hO1
  rw [hW1] at q0 q1 q2 q3
  have HCO:=hid hco
  have HB1:=hid hb1
  have HO1:=hid hO1
  have HW1:=hid hW1
  have HFF:=hid hF
  have HN3:=hid hN3
  have HGF:=hid hfg
  have HR:=hid hR
  have mk:=makeS0
  clear hI hF ef hrv hsv htv hN3 hfg hb1 hO1 hW1 hco hR
  go_enter Try.func12,Try.ntmps12
  go_wp2_with fail
  rw [← HW1.out]
  refine HCO.out.mono ?_;rintro z w2 ⟨m,kv,rfl,hC,hb2⟩
  have hs2:=hb2.size
  have HC:=hid hC
  have HB2:=hid (HB1.out.trans (hb2.mono (by omega)))
  have HO2:=hid ((hb2.block w.heap.size (by omega)).trans HO1.out)
  obtain⟨q0,q1,q2,q3⟩:=cells_prog _ _ _ _ HO2.out
  clear hC hb2
  go_wp2_with fail
  clear q0 q1 q2 q3
  go_loopw [12] (fun q wr=>∃ k:Nat,k≤N3∧q = .int .i64 k∧Hid (IsCl wr W1.heap.size m (callsN P.e.funcs) kv)∧Below w.heap.size w wr∧Hid (R=ringN P.e.funcs (P.e.funcs.drop k) k)) (fun q _=>N3 - (intOf q).toNat)
  case atStart=>exact⟨0,by omega,rfl,HC,HB2.out,hid (by rw [List.drop_zero];exact HR.out)⟩
  case round =>
    obtain⟨k,hkN,rfl,HCr,hB,HRr⟩:=hrel
    have hsr:=hB.size
    by_cases hk:k < N3
    · obtain⟨g,off,rfl,hg⟩:=HGF.out (by omega)
      have hkx:k < P.e.funcs.length:=by rw [← HN3.out];exact hk
      have hat:=((HFL.out.below (hB.mono hBw)).at rfl k hkx).2
      have hma:=(HFI.out _ (List.getElem_mem hkx)).keeps (hB.mono hBw)
      have hmn:P.e.funcs[k].name ∈ nnames P.e.funcs:=List.mem_map.2 ⟨_,List.getElem_mem hkx,rfl⟩
      have hrr:=HRr.out
      rw [List.drop_eq_getElem_cons hkx,ringN] at hrr
      generalize P.e.funcs[k] = a at hat hma hmn hrr
      obtain⟨p0,p1,p2,p3,p4,p5⟩:=cells6F hat
      obtain⟨po,pc,ep,-⟩:=hma.lies.form
      obtain⟨bo,bc,eb,-⟩:=hma.blies.form
      obtain⟨pn,hpn⟩:∃ n,n=a.params.length:=⟨_,rfl⟩
      obtain⟨bn,hbn⟩:∃ n,n=a.body.length:=⟨_,rfl⟩
      rw [ep,← hpn] at p1
      rw [eb,← hbn] at p5
      obtain⟨W5,hW5⟩:∃ W5,W5=wr.alloc (.cells #[.string a.name,.slice po pn pc,.int .u8 a.res.k,.string a.res.n,.int .i64 a.res.z,.slice bo bn bc] 43):=⟨_,rfl⟩
      have hb5:Below wr.heap.size wr W5:=by rw [hW5];exact below_box wr _
      have hz5:W5.heap.size=wr.heap.size+1:=by rw [hW5];simp
      have k5:=own6F (show W5.heap[wr.heap.size]? = some (.cells #[.string a.name,.slice po pn pc,.int .u8 a.res.k,.string a.res.n,.int .i64 a.res.z,.slice bo bn bc] 43 (0,0)) by rw [hW5];exact (MapKept.heap_alloc _ _).1)
      obtain⟨W6,hW6⟩:∃ W6,W6=W5.alloc (.map #[] 0):=⟨_,rfl⟩
      have hb6:Below W5.heap.size W5 W6:=by rw [hW6];exact below_box W5 _
      have hM6:W6.heap[W5.heap.size]? = some (.map #[] 0):=by rw [hW6];exact (MapKept.heap_alloc _ _).1
      have hst6:IsSt W6 W5.heap.size (fun x=>has x []):=⟨[],⟨#[],0,hM6,rfl,rfl⟩,fun s=>by simp [lookT,has]⟩
      have hcl6:=(HCr.out.keeps hb5).keeps hb6
      have hml:m < wr.heap.size:=HCr.out.map.lt
      have hlf:left (nnames P.e.funcs) [] < P.e.funcs.length+1:=by
        have h1:=left_le (nnames P.e.funcs) []
        have h2:(nnames P.e.funcs).length=P.e.funcs.length:=by unfold nnames;simp
        omega
      have hld:=lead_any P.e.funcs HFF.out.own a.name (P.e.funcs.length+1) a.name [] W6 W1.heap.size m W5.heap.size kv hcl6 hst6 (by omega) hmn hlf
      rw [hz5] at hld
      have HLD:=hid hld
      have HW5:=hid hW5
      have HW6:=hid hW6
      have HB6:=hid (hB.trans ((hb5.trans (hb6.mono hb5.size)).mono hsr))
      have HCL6:=hid hcl6
      have HST6:=hid hst6
      have HRR:=hid hrr
      have hgs:g < wr.heap.size:=by omega
      obtain⟨k0,-,-⟩:=k5
      rw [hW5] at k0
      clear hat hma hmn ep eb hpn hbn hW5 hb5 hW6 hb6 hM6 hst6 hcl6 hld hB hrr
      go_wp2_with fail
      rw [← HW5.out,← HW6.out]
      refine HLD.out.mono ?_;rintro z w7 ⟨rfl,-,hw7⟩
      obtain⟨b,hb⟩:∃ b,b=(leadsN P.e.funcs a.name (P.e.funcs.length+1) a.name []).1:=⟨_,rfl⟩
      rw [← hb]
      have hrr:=HRR.out
      unfold ringAt at hrr
      rw [← hb] at hrr
      have HCL7:=hid (HCL6.out.after (hw7.mono (fun g hg=>by rw [hg,hz5])) (by omega) HST6.out)
      have HB7:=hid (HB6.out.trans (hw7.below (B:=w.heap.size) (fun g hg=>by omega) HB6.out.size))
      clear hw7 hb k0 p0 p1 p2 p3 p4 p5
      cases b with
      | true =>
        have HQ:=hid (show R=some k by rw [hrr,if_pos rfl])
        clear hrr
        go_wp2_with fail
        go_ret2
        exact⟨by rw [HQ.out];rfl,HB7.out⟩
      | false =>
        have HQ:=hid (show R=ringN P.e.funcs (P.e.funcs.drop (k+1)) (k+1) by rw [hrr,if_neg (by decide)])
        clear hrr
        go_wp2_with fail
        go_roundw
        case rel=>exact⟨k+1,by omega,by go_num,HCL7,HB7.out,HQ⟩
        case measure=>simp [intOf];omega
    · have hrr:=HRr.out
      rw [List.drop_eq_nil_of_le (by rw [← HN3.out];omega),ringN] at hrr
      have HQ:=hid hrr
      have HBr:=hid hB
      clear hrr hB
      go_wp2_with fail
      go_ret2
      exact⟨by rw [HQ.out];rfl,HBr.out⟩
end Go.Proofs.Ytcibiiddigpnfaa
