/- What is wrong with an expression's own form, as the show layer's checker finds it: what the document asks, at every expression. -/
import Derived.Test.YtdhieihcmnpneaaGreatDoorRows
import Derived.Test.YtdhieihcmnpneaaGreatDoorShowFormZ
import Derived.LoopTactic
import Derived.Test.YtdhieihcmnpneaaGreatDoorGCheck
import Derived.Tactics2
import Derived.Defers
import Derived.Recover
import Derived.Laws.Pointers
namespace Go.Proofs.YtdhieihcmnpneaaGreatDoor
open Lib (hid)
set_option maxHeartbeats 4000000
open Go.RowKit
def nameOk (xm:Bool) (nm:ByteArray):Prop:=(xm=true∧isName nm.data.toList=true) ∨ (xm=false∧nm.data.toList = [])
def argsOk (xa:Int) (m:Nat):Prop:=xa = -1 ∨ (m:Int)=xa
def numOk (xn:Bool) (n:Int):Prop:=xn=true ∨ n=0
def tyOf (xd:Bool) (tk:Int) (tn:ByteArray) (tz:Int):Int:=if xd=true then (if tk=2 ∨ tk=3 then tyForm tk tn.data.toList tz else 1) else (if noTy tk tn tz=true then 0 else 1)
theorem form_some {h:Hd} {m:Nat} {xa:Int} {xn xm xd:Bool} {xs:ByteArray} (hx:wants h.k=some ⟨xa,xn,xm,xd,xs⟩) :
    (¬ argsOk xa m→form h m=1)∧(argsOk xa m → ¬ numOk xn h.n→form h m=1)∧(argsOk xa m→numOk xn h.n → ¬ nameOk xm h.name→form h m=1) ∧
    (argsOk xa m→numOk xn h.n→nameOk xm h.name→form h m=tyOf xd h.tk h.tn h.tz):=by
  have hn:((xm=true∧isName h.name.data.toList=false) ∨ (xm=false∧h.name.data.toList ≠ [])) ↔ ¬ nameOk xm h.name:=by
    unfold nameOk
    cases xm <;> simp
  unfold form
  rw [hx]
  simp only
  unfold argsOk numOk
  refine⟨fun a=>?_,fun a b=>?_,fun a b e=>?_,fun a b e=>?_⟩
  · rw [if_pos a]
  · rw [if_neg (fun q=>q a),if_pos b]
  · rw [if_neg (fun q=>q a),if_neg (fun q=>q b),if_pos (hn.2 e)]
  · rw [if_neg (fun q=>q a),if_neg (fun q=>q b),if_neg (fun q=>hn.1 q e)]
    unfold tyOf noTy
    cases xd <;> simp
theorem form_any (B c i:Nat) (h:Hd) (ao:Option Addr) (m cap:Nat) (w:World) (hok:HdOk h) (hc:Ck B c i w) :
    Calls Tryz.prog 119 #[.pointer (some ⟨c,0,none⟩),.agg #[.int .u8 h.k,.int .i64 h.n,.string h.name,.int .u8 h.tk,.string h.tn,.int .i64 h.tz,.slice ao m cap]] w (Ends (form h m) w):=by
  cases hx:wants h.k with
  | none =>
    rw [show form h m=1 by unfold form;rw [hx]]
    exact form_none B c i _ _ _ _ _ _ ao m cap w hc hx
  | some x =>
  obtain⟨xa,xn,xm,xd,xs⟩:=x
  obtain⟨f1,f2,f3,f4⟩:=form_some (m:=m) hx
  have hnm:=hok.name
  have htn:=hok.tn
  by_cases hA:argsOk xa m
  · have hA2:(xa == -1)=true ∨ ((xa == -1)=false∧((m:Int) == xa)=true):=by
      by_cases e:xa = -1
      · exact .inl (beq_iff_eq.2 e)
      · exact .inr ⟨beq_eq_false_iff_ne.2 e,beq_iff_eq.2 (hA.resolve_left e)⟩
    by_cases hN:numOk xn h.n
    · have hN2:xn=true ∨ (xn=false∧h.n=0):=by
        cases xn
        · exact .inr ⟨rfl,hN.resolve_left (by simp)⟩
        · exact .inl rfl
      by_cases hM:nameOk xm h.name
      · rw [f4 hA hN hM]
        unfold tyOf
        cases xd with
        | false=>exact form_z B c i h.k h.n h.tz xa h.tk h.name h.tn xs xn xm ao m cap w hc hx hA2 hN2 hnm hM
        | true =>
          obtain⟨k,n,nm,tk,tn,tz⟩:=h
          by_cases h2:tk=2
          · subst h2
            exact form_ty2 B c i k n tz xa nm tn xs xn xm ao m cap w hc hx hA2 hN2 hnm hM htn
          · by_cases h3:tk=3
            · subst h3
              exact form_ty3 B c i k n tz xa nm tn xs xn xm ao m cap w hc hx hA2 hN2 hnm hM htn
            · rw [if_pos rfl,if_neg (by intro h;exact h.elim h2 h3)]
              exact form_ty0 B c i k n tz xa tk nm tn xs xn xm ao m cap w hc hx hA2 hN2 hnm hM (beq_eq_false_iff_ne.2 h2) (beq_eq_false_iff_ne.2 h3)
      · rw [f3 hA hN hM]
        refine form_name0 B c i h.k h.n h.tz xa h.tk h.name h.tn xs xn xm xd ao m cap w hc hx hA2 hN2 hnm ?_
        unfold nameOk at hM
        cases xm
        · exact .inr ⟨rfl,by simpa using hM⟩
        · exact .inl ⟨rfl,by simpa using hM⟩
    · rw [f2 hA hN]
      unfold numOk at hN
      cases xn
      · exact form_num0 B c i h.k h.n h.tz xa h.tk h.name h.tn xs false xm xd ao m cap w hc hx hA2 rfl (beq_eq_false_iff_ne.2 fun e=>hN (.inr e))
      · exact absurd (.inl rfl) hN
  · rw [f1 hA]
    exact form_args0 B c i h.k h.n h.tz xa h.tk h.name h.tn xs xn xm xd ao m cap w hc hx (beq_eq_false_iff_ne.2 fun e=>hA (.inl e)) (beq_eq_false_iff_ne.2 fun e=>hA (.inr e))
end Go.Proofs.YtdhieihcmnpneaaGreatDoor
/- How the show layer's checker goes through any expression: the first thing that is wrong, or how many items it has met. -/
namespace Go.Proofs.YtdhieihcmnpneaaGreatDoor
open Lib (hid)
set_option maxHeartbeats 4000000
open Go.RowKit
def CX (x:X):Prop:=∀ (B c i d:Nat) (di:Int) (w:World),di=(d:Int)→Ck B c i w→B≤w.heap.size→InW w B x→i≤1024→d≤100 →
    Calls Tryz.prog 109 #[.pointer (some ⟨c,0,none⟩),x.val,.int .i64 di] w (Went B c (chk d i x) w)
theorem item_ok {d i j:Nat} (h:itemR d i = .ok j):j=i+1 ∧ ¬ (16 < d ∨ 1024 < i+1):=by
  unfold itemR at h
  split at h
  · cases h
  · cases h;exact⟨rfl,by assumption⟩
theorem item_no {d i:Nat} {e:Int} (h:itemR d i = .error e):e=3∧(16 < d ∨ 1024 < i+1):=by
  unfold itemR at h
  split at h
  · cases h;exact⟨rfl,by assumption⟩
  · cases h
theorem form_cases (h:Hd) (m:Nat):form h m=0 ∨ form h m=1 ∨ form h m=3:=by
  unfold form
  repeat' split
  all_goals first|(simp;done)|exact tyForm_cases _ _ _
theorem chk_item_no {h:Hd} {s:Value} {l:List X} {d i:Nat} {e:Int} (hr:itemR d i = .error e):chk d i (.mk h s l) = .error e:=by
  obtain⟨rfl,h2⟩:=item_no hr
  rw [chk_mk,if_pos h2]
theorem chk_item_ok {h:Hd} {s:Value} {l:List X} {d i j:Nat} (hr:itemR d i = .ok j):chk d i (.mk h s l)=if form h l.length=0 then chks (d+1) j l else .error (form h l.length):=by
  obtain⟨rfl,h2⟩:=item_ok hr
  rw [chk_mk,if_neg h2]
theorem cexpr_mk (h:Hd) (s:Value) (xs:List X) (ih:∀ a ∈ xs,CX a):CX (.mk h s xs):=by
  intro B c i d di w hdi hc hBw hI hi hd
  have hlt:=hc.lt
  have hBc:=hc.1
  obtain⟨hok,hin⟩:=in_kids hI
  obtain⟨ao,cap,rfl,hlen,hgo⟩:=lies_form hI
  obtain⟨N,hN⟩:∃ N,N=xs.length:=⟨_,rfl⟩
  obtain⟨k,n,nm,tk,tn,tz⟩:=h
  obtain⟨W1,hW1⟩:∃ W1,W1=w.alloc (.cells #[.int .u8 k,.int .i64 n,.string nm,.int .u8 tk,.string tn,.int .i64 tz,.slice ao N cap] 62):=⟨_,rfl⟩
  have hz1:W1.heap.size=w.heap.size+1:=by rw [hW1];simp
  have hO:W1.heap[w.heap.size]? = some (.cells #[.int .u8 k,.int .i64 n,.string nm,.int .u8 tk,.string tn,.int .i64 tz,.slice ao N cap] 62 (0,0)):=by rw [hW1];exact (MapKept.heap_alloc _ _).1
  have hD:Only c w W1:=by rw [hW1];exact (Only.refl c w).alloc _
  have hC1:Ck B c i W1:=by rw [hW1];exact hc.alloc _
  have hIT:=item_any B c i d W1 hC1 (by omega) (by omega)
  rw [hW1,← hdi] at hIT
  have HIT:=hid hIT
  have HO:=hid hO
  have HD:=hid hD
  have HI:=hid hI
  have HOK:=hid hok
  have HIH:=hid ih
  have HIN:=hid hin
  have HZ:=hid hW1
  rw [← hN] at hlen hgo
  have HG:=hid hgo
  have HN:=hid hN
  have HDI:=hid hdi
  obtain⟨R,hR⟩:∃ R,R=chk d i (.mk ⟨k,n,nm,tk,tn,tz⟩ (.slice ao xs.length cap) xs):=⟨_,rfl⟩
  show Calls Tryz.prog 109 #[.pointer (some ⟨c,0,none⟩),.agg #[.int .u8 k,.int .i64 n,.string nm,.int .u8 tk,.string tn,.int .i64 tz,.slice ao xs.length cap],.int .i64 di] w (Went B c (chk d i (.mk ⟨k,n,nm,tk,tn,tz⟩ (.slice ao xs.length cap) xs)) w)
  have hdi0:0≤di:=by omega
  have hdi1:di≤100:=by omega
  rw [← hR,← hN]
  have HR:=hid hR
  clear hc hI hok hin ih hIT hO hD hC1 hW1 hgo hN hR hdi
  cases hit:itemR d i with
  | error e =>
    have HF:=hid (show R = .error e by rw [HR.out];exact chk_item_no hit)
    have HT:=hid hit
    clear hit
    go_enter Tryz.func109,Tryz.ntmps109
    go_wp2_with fail
    refine HIT.out.mono ?_;rintro e2 w2 hq;obtain⟨rfl,hb⟩:=hq.not HT.out
    rw [← HZ.out] at hb
    exact⟨rfl,Went.no HF.out (HD.out.trans hb)⟩
  | ok j =>
  have hj:=(item_ok hit).1
  have hj2:=(item_ok hit).2
  have hjl:j≤1024:=by omega
  have hd16:d≤16:=by omega
  have HT:=hid hit
  have HF0:=hid (show R=if form ⟨k,n,nm,tk,tn,tz⟩ xs.length=0 then chks (d+1) j xs else .error (form ⟨k,n,nm,tk,tn,tz⟩ xs.length) by rw [HR.out];exact chk_item_ok hit)
  clear hit hj hj2
  by_cases hf:form ⟨k,n,nm,tk,tn,tz⟩ xs.length=0
  · have HF:=hid (show R=chks (d+1) j xs by rw [HF0.out,if_pos hf])
    have HFM:=hid hf
    clear hf
    go_enter Tryz.func109,Tryz.ntmps109
    go_wp2_with fail
    refine HIT.out.mono ?_;rintro e2 w2 hq;obtain⟨rfl,hC2,hb⟩:=hq.yes HT.out
    rw [← HZ.out] at hb
    have hs2:=hb.size
    have hO2:w2.heap[w.heap.size]? = some (.cells #[.int .u8 k,.int .i64 n,.string nm,.int .u8 tk,.string tn,.int .i64 tz,.slice ao N cap] 62 (0,0)):=by rw [hb.block _ (by omega) (by omega)];exact HO.out
    obtain⟨q0,q1,q2,q3,q4,q5,q6⟩:=own7 hO2
    have hFC:=form_any B c j ⟨k,n,nm,tk,tn,tz⟩ ao N cap w2 HOK.out hC2
    rw [HN.out] at hFC
    rw [HFM.out,← HN.out] at hFC
    have HFC:=hid hFC
    have HO2:=hid hO2
    have HC2:=hid hC2
    have HD2:=hid (HD.out.trans hb)
    clear hb hO2 hC2 hFC hq
    go_wp2_with fail
    refine HFC.out.mono ?_;rintro e3 w3 hq;obtain⟨rfl,hb3⟩:=hq.to0 rfl
    have hs3:=hb3.size
    obtain⟨u0,u1,u2,u3,u4,u5,u6⟩:=own7 ((hb3.block _ (by omega)).trans HO2.out)
    have HC3:=hid (HC2.out.kept hb3)
    have HD3:=hid (HD2.out.more hb3)
    clear hb3 hq q0 q1 q2 q3 q4 q5 q6
    go_wp2_with fail
    go_loopw [17] (fun i wr=>∃ p:Nat,p≤N∧i = .int .i64 p∧∃ jj,jj≤1024∧Hid (R=chks (d+1) jj (xs.drop p))∧Ck B c jj wr∧Only c w wr) (fun i _=>N - (intOf i).toNat)
    case atStart=>exact⟨0,by omega,rfl,j,hjl,hid HF.out,HC3.out,HD3.out⟩
    case round =>
      obtain⟨p,hp,rfl,jj,hjj,HRR,hCk,hOn⟩:=hrel
      have hBelow:=hOn.below hBc hBw
      have hsr:=hOn.size
      have hcr:=hCk.lt
      clear u0 u1 u2 u3 u4 u5 u6
      by_cases hlt2:p < N
      · have hpx:p < xs.length:=by rw [← HN.out];exact hlt2
        obtain⟨g,off,rfl,hg⟩:=HG.out (by omega)
        have hIr:=InW.keeps hBelow _ HI.out
        obtain⟨ao2,n2,c2,ea,p0,p1,p2,p3,p4,p5,p6⟩:=kidk hIr rfl p hpx
        have hma:=List.getElem_mem hpx
        have hdr:=List.drop_eq_getElem_cons hpx
        have hCX:=HIH.out _ hma
        have hIa:=InW.keeps hBelow _ (HIN.out _ hma)
        have hRR:=HRR.out
        rw [hdr,chks_cons] at hRR
        generalize xs[p] = a at *
        have hgs:g < wr.heap.size:=by omega
        have hO3:=(MapKept.heap_alloc wr (.cells #[.int .u8 a.hd.k,.int .i64 a.hd.n,.string a.hd.name,.int .u8 a.hd.tk,.string a.hd.tn,.int .i64 a.hd.tz,.slice ao2 n2 c2] 62)).1
        have hb4:=below_box wr (.cells #[.int .u8 a.hd.k,.int .i64 a.hd.n,.string a.hd.name,.int .u8 a.hd.tk,.string a.hd.tn,.int .i64 a.hd.tz,.slice ao2 n2 c2] 62)
        have hEx:=hCX B c jj (d+1) (di+1) _ (by rw [HDI.out];omega) (hCk.kept hb4) (by simp;omega) (InW.keeps (hb4.mono (by omega)) _ hIa) hjj (by omega)
        rw [val_of ea] at hEx
        have HEX:=hid hEx
        have HD4:=hid (hOn.more hb4)
        have HA:=hid hRR
        clear hIr hma hdr hCX hIa hO3 hb4 hEx ea hOn hCk hBelow HRR hRR
        cases ha:chk (d+1) jj a with
        | error e =>
          have HF9:=hid (show R = .error e by rw [HA.out,ha])
          have HH:=hid ha
          clear ha
          go_wp2_with fail
          refine HEX.out.mono ?_;rintro e4 w4 hq;obtain⟨rfl,hb5⟩:=hq.not HH.out
          exact⟨rfl,Went.no HF9.out (HD4.out.trans hb5)⟩
        | ok j2 =>
          have HF9:=hid (show R=chks (d+1) j2 (xs.drop (p+1)) by rw [HA.out,ha])
          have hj3:=(chk_ok a _ _ _ ha).2.2
          have HH:=hid ha
          clear ha
          go_wp2_with fail
          refine HEX.out.mono ?_;rintro e4 w4 hq;obtain⟨rfl,hC5,hb5⟩:=hq.yes HH.out
          have HC5:=hid hC5
          have HD5:=hid (HD4.out.trans hb5)
          clear hC5 hb5 hq
          go_wp2_with fail
          go_roundw
          case rel=>exact⟨p+1,by omega,by go_num,j2,hj3,HF9,HC5.out,HD5.out⟩
          case measure=>simp [intOf];omega
      · have HF9:=hid (show R = .ok jj by rw [HRR.out,List.drop_eq_nil_of_le (by rw [← HN.out];omega),chks_nil])
        have HC5:=hid hCk
        have HD5:=hid hOn
        clear hOn hCk hBelow HRR
        go_wp2_with fail
        go_end0
        exact Went.ok HF9.out HD5.out HC5.out
  · have HF:=hid (show R = .error (form ⟨k,n,nm,tk,tn,tz⟩ xs.length) by rw [HF0.out,if_neg hf])
    have hfc:=(form_cases ⟨k,n,nm,tk,tn,tz⟩ xs.length).resolve_left hf
    obtain⟨r,hr⟩:∃ r,r=form ⟨k,n,nm,tk,tn,tz⟩ xs.length:=⟨_,rfl⟩
    rw [← hr] at hf hfc
    rw [← hr] at HF
    have HFM:=hid hr
    have HE:=hid (ended_no hf)
    clear hf hr hfc
    go_enter Tryz.func109,Tryz.ntmps109
    go_wp2_with fail
    refine HIT.out.mono ?_;rintro e2 w2 hq;obtain⟨rfl,hC2,hb⟩:=hq.yes HT.out
    rw [← HZ.out] at hb
    have hs2:=hb.size
    have hO2:w2.heap[w.heap.size]? = some (.cells #[.int .u8 k,.int .i64 n,.string nm,.int .u8 tk,.string tn,.int .i64 tz,.slice ao N cap] 62 (0,0)):=by rw [hb.block _ (by omega) (by omega)];exact HO.out
    obtain⟨q0,q1,q2,q3,q4,q5,q6⟩:=own7 hO2
    have hFC:=form_any B c j ⟨k,n,nm,tk,tn,tz⟩ ao N cap w2 HOK.out hC2
    rw [HN.out] at hFC
    rw [← HFM.out,← HN.out] at hFC
    have HFC:=hid hFC
    have HD2:=hid (HD.out.trans hb)
    clear hb hO2 hC2 hFC hq
    go_wp2_with fail
    refine HFC.out.mono ?_;rintro e3 w3 hq
    obtain⟨rfl,hb3⟩:e3 = .panicked (fl r)∧Below w2.heap.size w2 w3:=⟨hq.1.trans HE.out,hq.2⟩
    exact⟨rfl,Went.no HF.out (HD2.out.more hb3)⟩
theorem cexpr_all:∀ x,CX x:=X.ind cexpr_mk
end Go.Proofs.YtdhieihcmnpneaaGreatDoor
/- What the show layer's deferred function literal does, where the walk gave up and where it ended. -/
namespace Go.Proofs.YtdhieihcmnpneaaGreatDoor
open Lib (hid)
set_option maxHeartbeats 4000000
set_option maxRecDepth 100000
open Go.RowKit
theorem catch_panicking (p:Addr) (r x:Int) (older:List PanicEntry) (w:World) (hc:w.cell? p=some (.int .i64 x)) (hz:w.frozen? p=false) :
    CallsD Tryz.prog 71 #[.pointer (some p)] (.panicking ({ v:=.iface 134 (.agg #[.int .i64 r]),recovered:=false } :: older)) w fun e u' w' =>
      e = .returned (.tuple #[])∧u' = .panicking ({ v:=.iface 134 (.agg #[.int .i64 r]),recovered:=true } :: older)∧w'=(w.alloc (.cells #[.int .i64 r] 134)).setCell p (.int .i64 r):=by
  have hta:∀ W:World,(Instr.typeAssert (.iface 134 (.agg #[.int .i64 r])) 20 134 true).run Tryz.prog W = .ok (.tuple #[.agg #[.int .i64 r],.bool true]) W:=fun _=>by kernel_rfl
  have hlt:=World.block_lt_of_cell? w p hc
  have hc':(w.alloc (.cells #[.int .i64 r] 134)).cell? p=some (.int .i64 x):=by rw [World.cell?_alloc_lt _ _ _ hlt];exact hc
  have hz':(w.alloc (.cells #[.int .i64 r] 134)).frozen? p=false:=by rw [World.frozen?_of_block (w:=w) (Below.heap_alloc _ _ _ hlt)];exact hz
  refine callsD_of_wpS Tryz.func71 rfl fun c₀ cs hu=>?_
  have hfr:(#[Value.pointer (some p)] ++ Array.replicate (Tryz.f71.ntmps - #[Value.pointer (some p)].size) undef)=#[.pointer (some p),undef,undef,undef,undef,undef,undef,undef,undef,undef,undef,undef,undef,undef,undef,undef,undef]:=by rfl
  rw [hfr]
  clear hfr
  apply wpS_seq
  apply wpS_region
  simp [wpOpsS,go_sem,recoverD,hu,Exit.thenS]
  apply wpS_seq
  apply wpS_seq
  apply wpS_region
  simp [wpOpsS,go_sem,Exit.thenS]
  refine wpS_cond (t:=false) (by simp [Act.eval]) ?_
  simp only [Bool.false_eq_true,if_false]
  refine wpS_of_wp (wp_skip ?_)
  simp only [Exit.thenS]
  apply wpS_seq
  apply wpS_region
  simp [wpOpsS,go_sem,Exit.thenS,hta]
  apply wpS_seq
  apply wpS_seq
  apply wpS_region
  simp [wpOpsS,go_sem,Exit.thenS]
  refine wpS_cond (t:=false) (by simp [Act.eval]) ?_
  simp only [Bool.false_eq_true,if_false]
  refine wpS_of_wp (wp_skip ?_)
  simp only [Exit.thenS]
  apply wpS_region
  cases c₀
  simp_all [wpOpsS,go_sem,bodyPostS,results,Tryz.results71]
theorem catch_idle (p:Addr) (w:World) :
    CallsD Tryz.prog 71 #[.pointer (some p)] .returning w fun e u' w'=>e = .returned (.tuple #[])∧u' = .returning∧w'=w:=by
  refine callsD_of_wpS Tryz.func71 rfl fun c₀ cs hu=>?_
  apply wpS_seq
  apply wpS_region
  simp [wpOpsS,go_sem,recoverD,hu,Tryz.ntmps71,Exit.thenS]
  apply wpS_seq
  apply wpS_seq
  apply wpS_region
  simp [wpOpsS,go_sem,Exit.thenS]
  refine wpS_cond (t:=true) (by simp [Act.eval,Array.replicate]) ?_
  simp only [if_true]
  refine wpS_of_wp (wp_ret ?_)
  cases c₀
  simp_all [bodyPostS,results,Tryz.results71,Exit.thenS]
end Go.Proofs.YtdhieihcmnpneaaGreatDoor
/- How the show layer catches what its walks give up with. -/
namespace Go.Proofs.YtdhieihcmnpneaaGreatDoor
open Lib (hid)
set_option maxHeartbeats 4000000
open Go.RowKit
theorem caught_check (p:Addr) (r:Int) (hr:r=0 ∨ r=1 ∨ r=3) (w:World) (h:Calls Tryz.prog 43 #[.pointer (some p)] (w.alloc (.cells #[.int .i64 0] 37)) (Ends r (w.alloc (.cells #[.int .i64 0] 37)))) :
    Calls Tryz.prog 42 #[.func (.func 43) #[] #[.pointer (some p)]] w fun e w'=>e = .returned (.int .i64 r)∧Below w.heap.size w w':=by
  have hmf:∀ (fn:Go.Fn) (first cap:Array Value) (w:World),(Instr.makeFunc fn first cap).run Tryz.prog w = .ok (.func fn first cap) w:=fun _ _ _ _=>rfl
  have H:=hid h
  have HB0:=hid (below_box w (.cells #[.int .i64 0] 37))
  have HO:=hid (MapKept.heap_alloc w (.cells #[.int .i64 0] 37)).1
  have HR:=hid hr
  clear h
  by_cases h0:r=0
  · subst h0
    go_enter_defers Tryz.func42,Tryz.ntmps42
    go_wp2_with fail
    refine H.out.mono ?_;rintro e w2 hq;obtain⟨rfl,hb2⟩:=hq.to0 rfl
    have hO2:=(hb2.block _ (by simp)).trans HO.out
    have c0:w2.cell? ⟨w.heap.size,0,none⟩ = some (.int .i64 0):=by rw [Lib.cell_of_heap hO2];rfl
    have f0:w2.frozen? ⟨w.heap.size,0,none⟩ = false:=Lib.frozen_of_heap hO2 0
    have HB2:=hid (HB0.out.trans (hb2.mono (by simp)))
    clear hb2 hO2 hq
    go_wp2_with fail
    have d0:(w2.setCell ⟨w.heap.size,0,none⟩ (.int .i64 0)).cell? ⟨w.heap.size,0,none⟩ = some (.int .i64 0):=World.cell?_setCell_same _ _ _ c0
    refine leaves_cons (f:=71) (args:=#[.pointer (some ⟨w.heap.size,0,none⟩)]) (by simp) (by simp [go_sem]) ?_
    refine (catch_idle ⟨w.heap.size,0,none⟩ _).mono ?_
    rintro e u' w'' ⟨rfl,rfl,rfl⟩
    simp [Leaves,settle,results,Tryz.results42,go_sem,d0]
    exact HB2.out.setCell (p:=⟨w.heap.size,0,none⟩) (Nat.le_refl _) _
  · have hE:∀ (e:Ending) (w2:World),Ends r (w.alloc (.cells #[.int .i64 0] 37)) e w2→e = .panicked (fl r)∧Below (w.alloc (.cells #[.int .i64 0] 37)).heap.size (w.alloc (.cells #[.int .i64 0] 37)) w2:=fun _ _ hq=>⟨hq.1.trans (ended_no h0),hq.2⟩
    have HE:=hid hE
    clear hE
    go_enter_defers Tryz.func42,Tryz.ntmps42
    go_wp2_with fail
    refine H.out.mono ?_;rintro e w2 hq;obtain⟨rfl,hb2⟩:=HE.out _ _ hq
    have hO2:=(hb2.block _ (by simp)).trans HO.out
    have c0:w2.cell? ⟨w.heap.size,0,none⟩ = some (.int .i64 0):=by rw [Lib.cell_of_heap hO2];rfl
    have f0:w2.frozen? ⟨w.heap.size,0,none⟩ = false:=Lib.frozen_of_heap hO2 0
    have HB2:=hid (HB0.out.trans (hb2.mono (by simp)))
    have hs2:=hb2.size
    simp at hs2
    clear hb2 hO2 hq
    have d0:(((w2.alloc (.cells #[.int .i64 r] 134)).setCell ⟨w.heap.size,0,none⟩ (.int .i64 r))).cell? ⟨w.heap.size,0,none⟩ = some (.int .i64 r):=World.cell?_setCell_same _ _ _ (by rw [World.cell?_alloc_lt _ _ _ (by show w.heap.size < _;omega)];exact c0)
    go_wp2_with fail
    refine leaves_cons (f:=71) (args:=#[.pointer (some ⟨w.heap.size,0,none⟩)]) (by simp) (by simp [go_sem]) ?_
    refine (catch_panicking ⟨w.heap.size,0,none⟩ r 0 [] _ c0 f0).mono ?_
    rintro e u' w'' ⟨rfl,rfl,rfl⟩
    simp [Leaves,settle,results,Tryz.results42,go_sem,d0]
    exact (HB2.out.alloc (by omega) _).setCell (p:=⟨w.heap.size,0,none⟩) (Nat.le_refl _) _
end Go.Proofs.YtdhieihcmnpneaaGreatDoor
