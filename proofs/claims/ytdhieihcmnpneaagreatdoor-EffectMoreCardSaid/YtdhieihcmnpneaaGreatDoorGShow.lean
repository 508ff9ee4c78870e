/- How the show layer's checker goes through any program. -/
import Derived.Test.YtdhieihcmnpneaaGreatDoorRows
import Derived.Test.YtdhieihcmnpneaaGreatDoorGStmt
import Derived.Test.YtdhieihcmnpneaaGreatDoorTypWt
import Derived.Test.YtdhieihcmnpneaaGreatDoorGForm
import Derived.Deep.DrawnRows
import Derived.Deep.RegionHeld3
namespace Go.Proofs.YtdhieihcmnpneaaGreatDoor
open Lib (hid)
set_option maxHeartbeats 8000000
set_option maxRecDepth 100000
open Go.RowKit
theorem chkR_cons (i:Nat) (r:Rc) (l:List Rc):chkR i (r :: l)=if 16 < i+1 then 3 else if isName r.name.data.toList=false ∨ r.fields = [] then 1 else if chkF 16 0 r.fields ≠ 0 then chkF 16 0 r.fields else chkR (i+1) l:=rfl
theorem chkFs_cons (i c:Nat) (f:Fn) (r:List Fn):chkFs i c (f :: r)=if 32 < i+1 then .error 3 else match chkFn c f with
    | .error k=>.error k
    | .ok c'=>chkFs (i+1) c' r:=rfl
theorem chkT_cons (i c:Nat) (t:Th) (r:List Th):chkT i c (t :: r)=if 4 < i+1 then .error 3 else match chkSs 1 c t.list with
    | .error k=>.error k
    | .ok c'=>chkT (i+1) c' r:=rfl
theorem chkFn_ok (f:Fn) (c m:Nat) (hc:c≤1024) (e:chkFn c f = .ok m):m≤1024:=by
  unfold chkFn at e
  split at e
  · cases e
  split at e
  · cases e
  split at e
  · cases e
  · exact chkSs_ok _ _ _ _ hc e
theorem cells2 {w:World} {g o:Nat} {r:Rc} (h:∀ j u,r.cells[j]? = some u→w.cell? ⟨g,o+j,none⟩ = some u) :
    w.cell? ⟨g,o,none⟩ = some (.string r.name)∧w.cell? ⟨g,o+1,none⟩ = some r.v:=⟨h 0 _ rfl,h 1 _ rfl⟩
theorem cells6 {w:World} {g o:Nat} {f:Fn} (h:∀ j u,f.cells[j]? = some u→w.cell? ⟨g,o+j,none⟩ = some u) :
    w.cell? ⟨g,o,none⟩ = some (.string f.name)∧w.cell? ⟨g,o+1,none⟩ = some f.pv∧w.cell? ⟨g,o+2,none⟩ = some (.int .u8 f.res.k)∧w.cell? ⟨g,o+3,none⟩ = some (.string f.res.n)∧w.cell? ⟨g,o+4,none⟩ = some (.int .i64 f.res.z)∧w.cell? ⟨g,o+5,none⟩ = some f.bv:=⟨h 0 _ rfl,h 1 _ rfl,h 2 _ rfl,h 3 _ rfl,h 4 _ rfl,h 5 _ rfl⟩
theorem cells_prog (a b c d:Value) {w:World} {g:Nat} {T:TypeId} {fr:Nat × Nat} (h:w.heap[g]? = some (.cells #[a,b,c,d] T fr)) :
    w.cell? ⟨g,0,none⟩ = some a∧w.cell? ⟨g,1,none⟩ = some b∧w.cell? ⟨g,2,none⟩ = some c∧w.cell? ⟨g,3,none⟩ = some d:=
  ⟨by rw [Lib.cell_of_heap h];rfl,by rw [Lib.cell_of_heap h];rfl,by rw [Lib.cell_of_heap h];rfl,by rw [Lib.cell_of_heap h];rfl⟩
theorem PIn.slices {w:World} {B:Nat} {p:Pr} (h:PIn w B p):∃ ro rc so sc fo fc to tc,p.e.rv = .slice ro p.e.records.length rc∧p.e.sv = .slice so p.e.shared.length sc∧p.e.fv = .slice fo p.e.funcs.length fc∧p.tv = .slice to p.threads.length tc:=by
  obtain⟨ro,rc,e1,_⟩:=h.e.rlies.form
  obtain⟨so,sc,e2,_⟩:=h.e.slies.form
  obtain⟨fo,fc,e3,_⟩:=h.e.flies.form
  obtain⟨to,tc,e4,_⟩:=h.tlies.form
  exact⟨ro,rc,so,sc,fo,fc,to,tc,e1,e2,e3,e4⟩
def thenT (R:Except Int Nat) (l:List Th):Except Int Nat:=match R with
  | .error k=>.error k
  | .ok c=>chkT 0 c l
theorem thenT_no (k:Int) (l:List Th):thenT (.error k) l = .error k:=rfl
theorem thenT_ok (c:Nat) (l:List Th):thenT (.ok c) l=chkT 0 c l:=rfl
theorem cprog_any (p:Pr) (B c:Nat) (w:World) (hc:Ck B c 0 w) (hBw:B≤w.heap.size) (hI:PIn w B p) :
    Calls Tryz.prog 45 #[.pointer (some ⟨c,0,none⟩),.agg #[p.e.rv,p.e.sv,p.e.fv,p.tv]] w (Went B c (chkP p) w):=by
  have hlt:=hc.lt
  have hBc:=hc.1
  obtain⟨⟨rv,recs,sv,shs,fv,fns⟩,tv,ths⟩:=p
  obtain⟨ro,rc,er,hrl,hrg⟩:=hI.e.rlies.form
  obtain⟨so,sc,es,hsl,hsg⟩:=hI.e.slies.form
  obtain⟨fo,fc,ef,hfl,hfg⟩:=hI.e.flies.form
  obtain⟨to,tc,et,htl,htg⟩:=hI.tlies.form
  simp only at er es ef et hrl hrg hsl hsg hfl hfg htl htg
  subst er es ef et
  obtain⟨N1,hN1⟩:∃ N,N=recs.length:=⟨_,rfl⟩
  obtain⟨N2,hN2⟩:∃ N,N=shs.length:=⟨_,rfl⟩
  obtain⟨N3,hN3⟩:∃ N,N=fns.length:=⟨_,rfl⟩
  obtain⟨N4,hN4⟩:∃ N,N=ths.length:=⟨_,rfl⟩
  obtain⟨W1,hW1⟩:∃ W1,W1=w.alloc (.cells #[.slice ro recs.length rc,.slice so shs.length sc,.slice fo fns.length fc,.slice to ths.length tc] 27):=⟨_,rfl⟩
  have hz1:W1.heap.size=w.heap.size+1:=by rw [hW1];simp
  have hO:W1.heap[w.heap.size]? = some (.cells #[.slice ro recs.length rc,.slice so shs.length sc,.slice fo fns.length fc,.slice to ths.length tc] 27 (0,0)):=by rw [hW1];exact (MapKept.heap_alloc _ _).1
  have hb1:Below w.heap.size w W1:=by rw [hW1];exact below_box w _
  obtain⟨r1,hr1⟩:∃ r,r=chkR 0 recs:=⟨_,rfl⟩
  obtain⟨r2,hr2⟩:∃ r,r=chkF 1024 0 shs:=⟨_,rfl⟩
  obtain⟨R,hR⟩:∃ R,R=chkP ⟨⟨.slice ro recs.length rc,recs,.slice so shs.length sc,shs,.slice fo fns.length fc,fns⟩,.slice to ths.length tc,ths⟩:=⟨_,rfl⟩
  obtain⟨R3,hR3⟩:∃ R,R=chkFs 0 0 fns:=⟨_,rfl⟩
  have HR:=hid (show R=thenT (if r1 ≠ 0 then .error r1 else if r2 ≠ 0 then .error r2 else R3) ths by rw [hR,hr1,hr2,hR3];rfl)
  rw [← hR]
  have hr2c:=chkF_cases 1024 shs 0
  rw [← hr2] at hr2c
  have HR1:=hid hr1
  have HR2:=hid hr2
  have HR3:=hid hR3
  have HC:=hid hc
  have HI:=hid hI
  have HO:=hid hO
  have HW:=hid hW1
  show Calls Tryz.prog 45 #[.pointer (some ⟨c,0,none⟩),.agg #[.slice ro recs.length rc,.slice so shs.length sc,.slice fo fns.length fc,.slice to ths.length tc]] w (Went B c R w)
  rw [← hN1] at hrl hrg HO HW ⊢
  rw [← hN2] at hsl hsg HO HW ⊢
  rw [← hN3] at hfl hfg HO HW ⊢
  rw [← hN4] at htl htg HO HW ⊢
  have HB1:=hid hb1
  have HN1:=hid hN1
  have HN2:=hid hN2
  have HN3:=hid hN3
  have HN4:=hid hN4
  have HG1:=hid hrg
  have HG2:=hid hsg
  have HG3:=hid hfg
  have HG4:=hid htg
  obtain⟨q0,q1,q2,q3⟩:=cells_prog _ _ _ _ HO.out
  rw [HW.out] at q0 q1 q2 q3
  clear hc hI hO hW1 hb1 hR hr1 hr2 hR3 hrg hsg hfg htg hN1 hN2 hN3 hN4
  go_enter Tryz.func45,Tryz.ntmps45
  go_wp2_with fail
  clear q0 q1 q2 q3
  rw [← HW.out]
  go_loopw [13] (fun q wr=>∃ p:Nat,p≤N1∧q = .int .i64 p∧Hid (r1=chkR p (recs.drop p))∧Below w.heap.size w wr∧w.heap.size < wr.heap.size∧wr.heap[w.heap.size]? = W1.heap[w.heap.size]?) (fun q _=>N1 - (intOf q).toNat)
  case atStart=>exact⟨0,by omega,rfl,hid HR1.out,HB1.out,by omega,rfl⟩
  case round =>
    obtain⟨p,hp,rfl,HRR,hB,hsr,hk⟩:=hrel
    by_cases hlt2:p < N1
    · have hpx:p < recs.length:=by rw [← HN1.out];exact hlt2
      obtain⟨g,off,rfl,hg⟩:=HG1.out (by omega)
      have hat:=((HI.out.e.rlies.below (hB.mono hBw)).at rfl p hpx).2
      have hma:=HI.out.e.records _ (List.getElem_mem hpx)
      have hdr:=List.drop_eq_getElem_cons hpx
      have hRR:=HRR.out
      rw [hdr,chkR_cons] at hRR
      simp only at hat hma
      generalize recs[p] = a at *
      obtain⟨nm,v,fs⟩:=a
      obtain⟨ao,cap,ea,hal,hag⟩:=hma.lies.form
      simp only at ea hal hag hRR
      subst ea
      obtain⟨p0,p1⟩:=cells2 hat
      simp only at p0 p1
      have HNM:=hid (name_any nm hma.name)
      obtain⟨W2,hW2⟩:∃ W,W=wr.alloc (.cells #[.string nm,.slice ao fs.length cap] 49):=⟨_,rfl⟩
      have hb2:Below wr.heap.size wr W2:=by rw [hW2];exact below_box wr _
      have hz2:W2.heap.size=wr.heap.size+1:=by rw [hW2];simp
      have HB2:=hid (hB.trans (hb2.mono (by omega)))
      have HCF:=hid (cfields_any 16 (by omega) fs B (.slice ao fs.length cap) W2 ((hma.keeps (hB.mono hBw)).lies.below (hb2.mono (by omega))) (by omega) hma.fields)
      obtain⟨f,hf⟩:∃ f,f=chkF 16 0 fs:=⟨_,rfl⟩
      have hfc:=chkF_cases 16 fs 0
      rw [← hf] at HCF hRR hfc
      obtain⟨rn,hrn⟩:∃ b,b=isName nm.data.toList:=⟨_,rfl⟩
      rw [← hrn] at HNM hRR
      obtain⟨M,hM⟩:∃ M,M=fs.length:=⟨_,rfl⟩
      have hfsM:fs = [] ↔ M=0:=by rw [hM];exact List.length_eq_zero_iff.symm
      simp only [hfsM] at hRR
      rw [← hM] at HCF p1 hal hag hW2
      have HA:=hid hRR
      have HW2:=hid hW2
      have HK2:=hid (show W2.heap[w.heap.size]? = W1.heap[w.heap.size]? from (hb2.block _ (by omega)).trans hk)
      have hgs:g < wr.heap.size:=by omega
      clear hma hdr hB HRR hRR hat hf hrn hb2 hW2 hk hfsM hM hag
      by_cases h1:16 < p+1
      · have HF9:=hid (show R = .error 3 by rw [HR.out,show r1=3 by rw [HA.out,if_pos h1]];rfl)
        have hq:(16:Int) < (p:Int)+1:=by omega
        clear h1
        go_wp2_with fail
        refine (most_no _ _ (by omega) _).mono ?_;rintro e w' ⟨rfl,rfl⟩
        rw [← HW2.out]
        exact⟨rfl,Went.no HF9.out (Only.of HB2.out)⟩
      have hq:(p:Int)+1≤(16:Int):=by omega
      by_cases h2:rn=true∧M ≠ 0
      rotate_left
      · have HF9:=hid (show R = .error 1 by rw [HR.out,show r1=1 by rw [HA.out,if_neg h1];exact if_pos (by cases rn with|false=>exact .inl (by simp)|true=>exact .inr (by simpa using h2))];rfl)
        cases rn with
        | false =>
          clear h1 h2
          go_wp2_with fail
          refine (most_yes _ _ (by omega) _).mono ?_;rintro e w' ⟨rfl,rfl⟩
          go_wp2_with fail
          refine (HNM.out _).mono ?_;rintro e w' ⟨rfl,rfl⟩
          go_wp2_with fail
          refine (must_no _).mono ?_;rintro e w' ⟨rfl,rfl⟩
          rw [← HW2.out]
          exact⟨rfl,Went.no HF9.out (Only.of HB2.out)⟩
        | true =>
          have h3:M=0:=by simpa using h2
          subst h3
          clear h1 h2
          go_wp2_with fail
          refine (most_yes _ _ (by omega) _).mono ?_;rintro e w' ⟨rfl,rfl⟩
          go_wp2_with fail
          refine (HNM.out _).mono ?_;rintro e w' ⟨rfl,rfl⟩
          go_wp2_with fail
          refine (must_no _).mono ?_;rintro e w' ⟨rfl,rfl⟩
          rw [← HW2.out]
          exact⟨rfl,Went.no HF9.out (Only.of HB2.out)⟩
      obtain⟨rfl,h3⟩:=h2
      have HF8:=hid (show r1=if f ≠ 0 then f else chkR (p+1) (recs.drop (p+1)) by rw [HA.out,if_neg h1];simp [h3])
      have hMp:(0:Int) < (M:Int):=by omega
      clear h1
      go_wp2_with fail
      refine (most_yes _ _ (by omega) _).mono ?_;rintro e w' ⟨rfl,rfl⟩
      go_wp2_with fail
      refine (HNM.out _).mono ?_;rintro e w' ⟨rfl,rfl⟩
      go_wp2_with fail
      rw [show decide (0 < M)=true from decide_eq_true (by omega)]
      refine (must_yes _).mono ?_;rintro e w' ⟨rfl,rfl⟩
      go_wp2_with fail
      rw [← HW2.out]
      refine HCF.out.mono ?_;rintro e w5 ⟨he,hb5⟩
      have hs5:=hb5.size
      have HB5:=hid (HB2.out.trans (hb5.mono (by omega)))
      have HK5:=hid (show w5.heap[w.heap.size]? = W1.heap[w.heap.size]? from (hb5.block _ (by omega)).trans HK2.out)
      clear hb5
      by_cases hf0:f=0
      · rw [ended_ok hf0] at he
        subst he
        have HF9:=hid (show r1=chkR (p+1) (recs.drop (p+1)) by rw [HF8.out,if_neg (fun q=>q hf0)])
        clear p0 p1
        go_wp2_with fail
        go_roundw
        case rel=>exact⟨p+1,by omega,by go_num,HF9,HB5.out,by omega,HK5.out⟩
        case measure=>simp [intOf];omega
      · rw [ended_no hf0] at he
        subst he
        exact⟨rfl,Went.no (show R = .error f by rw [HR.out,show r1=f by rw [HF8.out,if_pos hf0]];simp [hf0,thenT_no]) (Only.of HB5.out)⟩
    · have HF1:=hid (show r1=0 by rw [HRR.out,List.drop_eq_nil_of_le (by rw [← HN1.out];omega)];rfl)
      have HB5:=hid hB
      have HCF:=hid (cfields_any 1024 (by omega) shs B (.slice so N2 sc) wr (by rw [HN2.out];exact HI.out.e.slies.below (hB.mono hBw)) (by omega) HI.out.e.shared)
      rw [← HR2.out] at HCF
      obtain⟨q0,q1,q2,q3⟩:=cells_prog _ _ _ _ (hk.trans HO.out)
      have HK:=hid hk
      clear hB HRR hk
      go_wp2_with fail
      refine HCF.out.mono ?_;rintro e w2 ⟨he,hb2⟩
      have hs2:=hb2.size
      have HB2:=hid (HB5.out.trans (hb2.mono (by omega)))
      have HK2:=hid (show w2.heap[w.heap.size]? = W1.heap[w.heap.size]? from (hb2.block _ (by omega)).trans HK.out)
      clear hb2 q0 q1 q2 q3
      by_cases h2:r2=0
      rotate_left
      · rw [ended_no h2] at he
        subst he
        exact⟨rfl,Went.no (show R = .error r2 by rw [HR.out,HF1.out];simp [h2,thenT_no]) (Only.of HB2.out)⟩
      rw [ended_ok h2] at he
      subst he
      have HF2:=hid (show R=thenT R3 ths by rw [HR.out,HF1.out];simp [h2])
      obtain⟨q0,q1,q2,q3⟩:=cells_prog _ _ _ _ (HK2.out.trans HO.out)
      go_wp2_with fail
      clear q0 q1 q2 q3
      have HCw:=hid (HC.out.kept HB2.out)
      have hslt:w.heap.size < w2.heap.size:=by omega
      go_loopw [41] (fun q wr=>∃ p:Nat,p≤N3∧q = .int .i64 p∧∃ jj,jj≤1024∧Hid (R3=chkFs p jj (fns.drop p))∧Ck B c jj wr∧Only c w wr∧w.heap.size < wr.heap.size∧wr.heap[w.heap.size]? = W1.heap[w.heap.size]?) (fun q _=>N3 - (intOf q).toNat)
      case atStart=>exact⟨0,by omega,rfl,0,by omega,hid HR3.out,HCw.out,Only.of HB2.out,hslt,HK2.out⟩
      case round =>
        obtain⟨p,hp,rfl,jj,hjj,HRR,hCk,hOn,hsr,hk⟩:=hrel
        have hBelow:=hOn.below hBc hBw
        have hcr:=hCk.lt
        by_cases hlt2:p < N3
        · have hpx:p < fns.length:=by rw [← HN3.out];exact hlt2
          obtain⟨g,off,rfl,hg⟩:=HG3.out (by omega)
          have hat:=((HI.out.e.flies.below hBelow).at rfl p hpx).2
          have hma:=(HI.out.e.funcs _ (List.getElem_mem hpx)).keeps hBelow
          have hdr:=List.drop_eq_getElem_cons hpx
          have hRR:=HRR.out
          rw [hdr,chkFs_cons] at hRR
          simp only at hat hma
          generalize fns[p] = a at *
          obtain⟨p0,p1,p2,p3,p4,p5⟩:=cells6 hat
          obtain⟨po,pc,ep,-⟩:=hma.lies.form
          obtain⟨bo,bc,eb,-⟩:=hma.blies.form
          have hb4:=below_box wr (.cells #[.string a.name,a.pv,.int .u8 a.res.k,.string a.res.n,.int .i64 a.res.z,a.bv] 33)
          have hEX:=cfunc_any a B c jj _ (hCk.kept hb4) (by simp;omega) (hma.keeps (hb4.mono (by omega))) hjj
          rw [ep,eb] at hEX
          rw [ep] at p1
          rw [eb] at p5
          have HEX:=hid hEX
          rw [ep,eb] at hb4
          have HD4:=hid (hOn.more hb4)
          have HA:=hid hRR
          have hgs:g < wr.heap.size:=by omega
          have HK4:=hid (show (wr.alloc (.cells #[.string a.name,.slice po a.params.length pc,.int .u8 a.res.k,.string a.res.n,.int .i64 a.res.z,.slice bo a.body.length bc] 33)).heap[w.heap.size]? = W1.heap[w.heap.size]? from (hb4.block _ hsr).trans hk)
          have hs4:=hb4.size
          clear hma hdr hb4 hOn hCk hBelow HRR hRR hat hk hEX
          by_cases h1:32 < p+1
          · have HF9:=hid (show R = .error 3 by rw [HF2.out,show R3 = .error 3 by rw [HA.out,if_pos h1],thenT_no])
            have hq:(32:Int) < (p:Int)+1:=by omega
            clear h1
            go_wp2_with fail
            refine (most_no _ _ (by omega) _).mono ?_;rintro e w' ⟨rfl,rfl⟩
            exact⟨rfl,Went.no HF9.out HD4.out⟩
          have hq:(p:Int)+1≤(32:Int):=by omega
          cases ha:chkFn jj a with
          | error k =>
            have HF9:=hid (show R = .error k by rw [HF2.out,show R3 = .error k by rw [HA.out,if_neg h1,ha],thenT_no])
            have HH:=hid ha
            clear ha h1
            go_wp2_with fail
            refine (most_yes _ _ (by omega) _).mono ?_;rintro e w' ⟨rfl,rfl⟩
            go_wp2_with fail
            refine HEX.out.mono ?_;rintro e4 w4 hq;obtain⟨rfl,hb5⟩:=hq.not HH.out
            exact⟨rfl,Went.no HF9.out (HD4.out.trans hb5)⟩
          | ok j2 =>
            have HF9:=hid (show R3=chkFs (p+1) j2 (fns.drop (p+1)) by rw [HA.out,if_neg h1,ha])
            have hj3:=chkFn_ok a _ _ hjj ha
            have HH:=hid ha
            clear ha h1
            go_wp2_with fail
            refine (most_yes _ _ (by omega) _).mono ?_;rintro e w' ⟨rfl,rfl⟩
            go_wp2_with fail
            refine HEX.out.mono ?_;rintro e4 w4 hq4;obtain⟨rfl,hC5,hb5⟩:=hq4.yes HH.out
            have hs5:=hb5.size
            have HC5:=hid hC5
            have HD5:=hid (HD4.out.trans hb5)
            have HK5:=hid (show w4.heap[w.heap.size]? = W1.heap[w.heap.size]? from (hb5.block _ (by omega) (by omega)).trans HK4.out)
            clear hC5 hb5 hq4 p0 p1 p2 p3 p4 p5
            go_wp2_with fail
            go_roundw
            case rel=>exact⟨p+1,by omega,by go_num,j2,hj3,HF9,HC5.out,HD5.out,by omega,HK5.out⟩
            case measure=>simp [intOf];omega
        · have HF3:=hid (show R=chkT 0 jj ths by rw [HF2.out,show R3 = .ok jj by rw [HRR.out,List.drop_eq_nil_of_le (by rw [← HN3.out];omega)];rfl,thenT_ok])
          obtain⟨q0,q1,q2,q3⟩:=cells_prog _ _ _ _ (hk.trans HO.out)
          have HC5:=hid hCk
          have HD5:=hid hOn
          clear hOn hCk hBelow HRR hk
          go_wp2_with fail
          clear q0 q1 q2 q3
          go_loopw [56] (fun q wr=>∃ p:Nat,p≤N4∧q = .int .i64 p∧∃ jj,jj≤1024∧Hid (R=chkT p jj (ths.drop p))∧Ck B c jj wr∧Only c w wr) (fun q _=>N4 - (intOf q).toNat)
          case atStart=>exact⟨0,by omega,rfl,jj,hjj,HF3,HC5.out,HD5.out⟩
          case round =>
            obtain⟨p,hp,rfl,jj,hjj,HRR,hCk,hOn⟩:=hrel
            have hBelow:=hOn.below hBc hBw
            have hsr:=hOn.size
            have hcr:=hCk.lt
            by_cases hlt2:p < N4
            · have hpx:p < ths.length:=by rw [← HN4.out];exact hlt2
              obtain⟨g,off,rfl,hg⟩:=HG4.out (by omega)
              have hat:=((HI.out.tlies.below hBelow).at rfl p hpx).2
              have hma:=(HI.out.threads _ (List.getElem_mem hpx)).keeps hBelow
              have hdr:=List.drop_eq_getElem_cons hpx
              have hRR:=HRR.out
              rw [hdr,chkT_cons] at hRR
              simp only at hat hma
              generalize ths[p] = a at *
              have p0:wr.cell? ⟨g,off+p * 1,none⟩ = some a.v:=hat 0 _ rfl
              obtain⟨bo,bc,eb,-⟩:=hma.lies.form
              have hEX:=clist_all a.list B c jj 1 1 a.v wr rfl hCk (by omega) hma.lies hma.list hjj (by omega)
              rw [eb] at hEX p0
              rw [Nat.mul_one] at p0
              have HEX:=hid hEX
              have HA:=hid hRR
              have HD4:=hid hOn
              have hgs:g < wr.heap.size:=by omega
              clear hma hdr hOn hCk hBelow HRR hRR hat hEX
              by_cases h1:4 < p+1
              · have HF9:=hid (show R = .error 3 by rw [HA.out,if_pos h1])
                have hq:(4:Int) < (p:Int)+1:=by omega
                clear h1
                go_wp2_with fail
                refine (most_no _ _ (by omega) _).mono ?_;rintro e w' ⟨rfl,rfl⟩
                exact⟨rfl,Went.no HF9.out HD4.out⟩
              have hq:(p:Int)+1≤(4:Int):=by omega
              cases ha:chkSs 1 jj a.list with
              | error k =>
                have HF9:=hid (show R = .error k by rw [HA.out,if_neg h1,ha])
                have HH:=hid ha
                clear ha h1
                go_wp2_with fail
                refine (most_yes _ _ (by omega) _).mono ?_;rintro e w' ⟨rfl,rfl⟩
                go_wp2_with fail
                refine HEX.out.mono ?_;rintro e4 w4 hq4;obtain⟨rfl,hb5⟩:=hq4.not HH.out
                exact⟨rfl,Went.no HF9.out (HD4.out.trans hb5)⟩
              | ok j2 =>
                have HF9:=hid (show R=chkT (p+1) j2 (ths.drop (p+1)) by rw [HA.out,if_neg h1,ha])
                have hj3:=chkSs_ok a.list _ _ _ hjj ha
                have HH:=hid ha
                clear ha h1
                go_wp2_with fail
                refine (most_yes _ _ (by omega) _).mono ?_;rintro e w' ⟨rfl,rfl⟩
                go_wp2_with fail
                refine HEX.out.mono ?_;rintro e4 w4 hq4;obtain⟨rfl,hC5,hb5⟩:=hq4.yes HH.out
                have HC5:=hid hC5
                have HD5:=hid (HD4.out.trans hb5)
                clear hC5 hb5 hq4 p0
                go_wp2_with fail
                go_roundw
                case rel=>exact⟨p+1,by omega,by go_num,j2,hj3,HF9,HC5.out,HD5.out⟩
                case measure=>simp [intOf];omega
            · have HF9:=hid (show R = .ok jj by rw [HRR.out,List.drop_eq_nil_of_le (by rw [← HN4.out];omega)];rfl)
              have HC5:=hid hCk
              have HD5:=hid hOn
              clear hOn hCk hBelow HRR
              go_wp2_with fail
              go_end0
              exact Went.ok HF9.out HD5.out HC5.out
end Go.Proofs.YtdhieihcmnpneaaGreatDoor
/- What the show layer's Check answers, of any program: the first thing that is wrong with it, or nothing. -/
namespace Go.Proofs.YtdhieihcmnpneaaGreatDoor
open Lib (hid)
set_option maxHeartbeats 8000000
open Go.RowKit
attribute [local go_sem ↓] Go.wp_at_zero Go.wp_at_succ
def Rn:Except Int Nat→Int
  | .ok _=>0
  | .error k=>k
theorem went_rn {B c:Nat} {R:Except Int Nat} {w w':World} {e:Ending} (h:Went B c R w e w') (hR:∀ k,R = .error k→k=1 ∨ k=3) (hB:B≤c) (hBw:B≤w.heap.size):e=ended (Rn R)∧Below B w w':=by
  refine⟨?_,h.1.below hB hBw⟩
  cases R with
  | ok m=>exact (h.yes rfl).1
  | error k =>
    show e=ended k
    rw [ended_no (by rcases hR k rfl with rfl|rfl <;> decide)]
    exact (h.not rfl).1
theorem rn_cases {R:Except Int Nat} (hR:∀ k,R = .error k→k=1 ∨ k=3):Rn R=0 ∨ Rn R=1 ∨ Rn R=3:=by
  cases R with
  | ok m=>exact .inl rfl
  | error k=>rcases hR k rfl with rfl|rfl <;> simp [Rn]
def Own4 (b:Nat) (a0 a1 a2 a3:Value) (w:World):Prop:=
  w.cell? ⟨b,0,none⟩ = some a0∧w.cell? ⟨b,1,none⟩ = some a1∧w.cell? ⟨b,2,none⟩ = some a2∧w.cell? ⟨b,3,none⟩ = some a3
theorem check1_any (b:Nat) (a0 a1 a2 a3:Value) (R:Except Int Nat) (hR:∀ k,R = .error k→k=1 ∨ k=3) (w:World) (h:w.heap[b]? = some (.cells #[a0,a1,a2,a3] 27 (0,0)))
    (HP:∀ c w1,Ck w.heap.size c 0 w1→Below w.heap.size w w1→Calls Tryz.prog 45 #[.pointer (some ⟨c,0,none⟩),.agg #[a0,a1,a2,a3]] w1 (Went w.heap.size c R w1)) :
    Calls Tryz.prog 43 #[.pointer (some ⟨b,0,none⟩)] w (Ends (Rn R) w):=by
  have hbl:b < w.heap.size:=(Array.getElem?_eq_some_iff.1 h).1
  obtain⟨q0,q1,q2,q3⟩:=cells_prog _ _ _ _ h
  have HN:=hid (newck_any w.drew)
  have HX:=hid HP
  have HO:=hid h
  have hc:=rn_cases hR
  obtain⟨r,hr⟩:∃ r,r=Rn R:=⟨_,rfl⟩
  have hwe:=fun (c:Nat) (w1:World) (e:Ending) (w':World) (hq:Went w.heap.size c R w1 e w') (h1:w.heap.size≤c) (h2:w.heap.size≤w1.heap.size)=>went_rn hq hR h1 h2
  rw [← hr] at hwe hc ⊢
  have HW:=hid hwe
  clear h hwe hr HP hR
  rcases hc with rfl|rfl|rfl
  · go_enter Tryz.func43,Tryz.ntmps43
    go_wp2_with fail
    refine wp_region_held_drew (S:=Own4 b a0 a1 a2 a3) (by kernel_rfl) (cells_prog _ _ _ _ HO.out) (fun hSw=>?_)
    refine wt (i:=1) (oi:={ dst:=some 2,op:=Op.load 27 (Operand.tmp 0),type:=27,pos := "show.go:8", after:=#[],guard:=none }) (v:=.agg #[a0,a1,a2,a3]) (fun W hW=>?_) hSw ?_
    · obtain⟨s0,s1,s2,s3⟩:=hW
      first|(go_simp;done)|rfl
    try simp only [Act.put]
    refine wpAnyH_ready (rs:=[0]) (by kernel_rfl) (by simp) ?_
    refine AllReadyH.cons (o:={ dst:=some 1,op:=Op.call { callee:=Callee.value (Operand.func 44),args:=#[],argTypes:=#[] },type:=97,pos := "show.go:8", after:=#[],guard:=none }) rfl (fun K hK=>?_) AllReadyH.nil
    rw [if_pos (by rfl)]
    clear hSw
    go_simp
    refine HN.out.mono ?_
    rintro e w1 ⟨c,rfl,hC,hb⟩
    have hO1:=(hb.block _ (by show b < w.heap.size;omega)).trans HO.out
    have HS1:=hid (show Own4 b a0 a1 a2 a3 w1 from cells_prog _ _ _ _ hO1)
    have HO1:=hid hO1
    have HC:=hid hC
    have HB1:=hid (show Below w.heap.size w w1 from (Below.drew (Below.refl _ _)).trans hb)
    have hBc:w.heap.size≤c:=hC.1
    clear hC hb hO1
    refine hK.out _ _ HS1.out (fun hSw=>?_)
    clear hK K
    try simp only [Act.put,q1,q2,q3]
    refine wpAnyH_ready (rs:=[2]) (by kernel_rfl) (by simp) ?_
    refine AllReadyH.cons (o:={ dst:=some 3,op:=Op.call { callee:=Callee.value (Operand.func 45),args:=#[Operand.tmp 1,Operand.tmp 2],argTypes:=#[97,27] },type:=0,pos := "show.go:8", after:=#[gd 0,gd 1,gc 0],guard:=none }) rfl (fun K hK=>?_) AllReadyH.nil
    rw [if_pos (by rfl)]
    clear hSw
    go_simp
    refine (HX.out _ _ HC.out HB1.out).mono ?_
    rintro e w2 hq
    obtain⟨he,hb2⟩:=HW.out _ _ _ _ hq hBc HB1.out.size
    clear hq
    rw [ended_ok rfl] at he
    subst he
    have HS2:=hid (show Own4 b a0 a1 a2 a3 w2 from cells_prog _ _ _ _ ((hb2.block _ (by omega)).trans HO1.out))
    refine hK.out _ _ HS2.out (fun hSw=>?_)
    clear hK K
    try simp only [Act.put,q1,q2,q3]
    refine wpAnyH_done (by kernel_rfl) ?_ _
    go_wp2_with fail
    go_end0
    exact Ends.ok rfl (HB1.out.trans hb2)
  · go_enter Tryz.func43,Tryz.ntmps43
    go_wp2_with fail
    refine wp_region_held_drew (S:=Own4 b a0 a1 a2 a3) (by kernel_rfl) (cells_prog _ _ _ _ HO.out) (fun hSw=>?_)
    refine wt (i:=1) (oi:={ dst:=some 2,op:=Op.load 27 (Operand.tmp 0),type:=27,pos := "show.go:8", after:=#[],guard:=none }) (v:=.agg #[a0,a1,a2,a3]) (fun W hW=>?_) hSw ?_
    · obtain⟨s0,s1,s2,s3⟩:=hW
      first|(go_simp;done)|rfl
    try simp only [Act.put]
    refine wpAnyH_ready (rs:=[0]) (by kernel_rfl) (by simp) ?_
    refine AllReadyH.cons (o:={ dst:=some 1,op:=Op.call { callee:=Callee.value (Operand.func 44),args:=#[],argTypes:=#[] },type:=97,pos := "show.go:8", after:=#[],guard:=none }) rfl (fun K hK=>?_) AllReadyH.nil
    rw [if_pos (by rfl)]
    clear hSw
    go_simp
    refine HN.out.mono ?_
    rintro e w1 ⟨c,rfl,hC,hb⟩
    have hO1:=(hb.block _ (by show b < w.heap.size;omega)).trans HO.out
    have HS1:=hid (show Own4 b a0 a1 a2 a3 w1 from cells_prog _ _ _ _ hO1)
    have HO1:=hid hO1
    have HC:=hid hC
    have HB1:=hid (show Below w.heap.size w w1 from (Below.drew (Below.refl _ _)).trans hb)
    have hBc:w.heap.size≤c:=hC.1
    clear hC hb hO1
    refine hK.out _ _ HS1.out (fun hSw=>?_)
    clear hK K
    try simp only [Act.put,q1,q2,q3]
    refine wpAnyH_ready (rs:=[2]) (by kernel_rfl) (by simp) ?_
    refine AllReadyH.cons (o:={ dst:=some 3,op:=Op.call { callee:=Callee.value (Operand.func 45),args:=#[Operand.tmp 1,Operand.tmp 2],argTypes:=#[97,27] },type:=0,pos := "show.go:8", after:=#[gd 0,gd 1,gc 0],guard:=none }) rfl (fun K hK=>?_) AllReadyH.nil
    rw [if_pos (by rfl)]
    clear hSw
    go_simp
    refine (HX.out _ _ HC.out HB1.out).mono ?_
    rintro e w2 hq
    obtain⟨he,hb2⟩:=HW.out _ _ _ _ hq hBc HB1.out.size
    clear hq
    rw [ended_no (by decide)] at he
    subst he
    exact⟨rfl,Ends.arg rfl (HB1.out.trans hb2)⟩
  · go_enter Tryz.func43,Tryz.ntmps43
    go_wp2_with fail
    refine wp_region_held_drew (S:=Own4 b a0 a1 a2 a3) (by kernel_rfl) (cells_prog _ _ _ _ HO.out) (fun hSw=>?_)
    refine wt (i:=1) (oi:={ dst:=some 2,op:=Op.load 27 (Operand.tmp 0),type:=27,pos := "show.go:8", after:=#[],guard:=none }) (v:=.agg #[a0,a1,a2,a3]) (fun W hW=>?_) hSw ?_
    · obtain⟨s0,s1,s2,s3⟩:=hW
      first|(go_simp;done)|rfl
    try simp only [Act.put]
    refine wpAnyH_ready (rs:=[0]) (by kernel_rfl) (by simp) ?_
    refine AllReadyH.cons (o:={ dst:=some 1,op:=Op.call { callee:=Callee.value (Operand.func 44),args:=#[],argTypes:=#[] },type:=97,pos := "show.go:8", after:=#[],guard:=none }) rfl (fun K hK=>?_) AllReadyH.nil
    rw [if_pos (by rfl)]
    clear hSw
    go_simp
    refine HN.out.mono ?_
    rintro e w1 ⟨c,rfl,hC,hb⟩
    have hO1:=(hb.block _ (by show b < w.heap.size;omega)).trans HO.out
    have HS1:=hid (show Own4 b a0 a1 a2 a3 w1 from cells_prog _ _ _ _ hO1)
    have HO1:=hid hO1
    have HC:=hid hC
    have HB1:=hid (show Below w.heap.size w w1 from (Below.drew (Below.refl _ _)).trans hb)
    have hBc:w.heap.size≤c:=hC.1
    clear hC hb hO1
    refine hK.out _ _ HS1.out (fun hSw=>?_)
    clear hK K
    try simp only [Act.put,q1,q2,q3]
    refine wpAnyH_ready (rs:=[2]) (by kernel_rfl) (by simp) ?_
    refine AllReadyH.cons (o:={ dst:=some 3,op:=Op.call { callee:=Callee.value (Operand.func 45),args:=#[Operand.tmp 1,Operand.tmp 2],argTypes:=#[97,27] },type:=0,pos := "show.go:8", after:=#[gd 0,gd 1,gc 0],guard:=none }) rfl (fun K hK=>?_) AllReadyH.nil
    rw [if_pos (by rfl)]
    clear hSw
    go_simp
    refine (HX.out _ _ HC.out HB1.out).mono ?_
    rintro e w2 hq
    obtain⟨he,hb2⟩:=HW.out _ _ _ _ hq hBc HB1.out.size
    clear hq
    rw [ended_no (by decide)] at he
    subst he
    exact⟨rfl,Ends.limit rfl (HB1.out.trans hb2)⟩
theorem scheck_any (a0 a1 a2 a3:Value) (R:Except Int Nat) (hR:∀ k,R = .error k→k=1 ∨ k=3) (w:World)
    (HP:∀ B c w1,Ck B c 0 w1→w.heap.size≤B→B≤w1.heap.size→Below w.heap.size w w1→Calls Tryz.prog 45 #[.pointer (some ⟨c,0,none⟩),.agg #[a0,a1,a2,a3]] w1 (Went B c R w1)) :
    Calls Tryz.prog 23 #[.agg #[a0,a1,a2,a3]] w fun e w'=>e = .returned (.int .i64 (Rn R))∧Below w.heap.size w w':=by
  have hmf:∀ (fn:Go.Fn) (first cap:Array Value) (w:World),(Instr.makeFunc fn first cap).run Tryz.prog w = .ok (.func fn first cap) w:=fun _ _ _ _=>rfl
  have hB1:=below_box w (.cells #[a0,a1,a2,a3] 27)
  have hB2:=below_box (w.alloc (.cells #[a0,a1,a2,a3] 27)) (.cells #[.int .i64 0] 37)
  have hB:=hB1.trans (hB2.mono hB1.size)
  have hT:=check1_any w.heap.size a0 a1 a2 a3 R hR ((w.alloc (.cells #[a0,a1,a2,a3] 27)).alloc (.cells #[.int .i64 0] 37)) (by
    rw [Below.heap_alloc _ _ _ (by simp)]
    exact (MapKept.heap_alloc _ _).1) (fun c w1 h1 h2=>HP _ c w1 h1 hB.size h2.size (hB.trans (h2.mono hB.size)))
  have HC:=hid (caught_check ⟨w.heap.size,0,none⟩ (Rn R) (rn_cases hR) _ hT)
  have HB:=hid hB1
  clear hT hB1 hB2 hB HP
  go_enter Tryz.func23,Tryz.ntmps23
  go_wp2_with (go_at_call 42;refine HC.out.mono ?_;rintro e w2 ⟨rfl,hb2⟩)
  go_ret
  exact⟨rfl,HB.out.trans (hb2.mono (by simp))⟩
theorem chk_cases:∀ x,∀ d c k,chk d c x = .error k→k=1 ∨ k=3:=by
  refine X.ind fun h s l ih d c k e=>?_
  rw [chk_mk] at e
  split at e
  · cases e;simp
  split at e
  · have key:∀ (l:List X),(∀ a ∈ l,∀ d c k,chk d c a = .error k→k=1 ∨ k=3)→∀ d c k,chks d c l = .error k→k=1 ∨ k=3:=by
      intro l
      induction l with
      | nil=>intro _ d c k e;rw [chks_nil] at e;cases e
      | cons a r ihr =>
        intro hl d c k e
        rw [chks_cons] at e
        split at e
        · rename_i k' he;cases e;exact hl a (by simp) d c _ he
        · exact ihr (fun b hb=>hl b (by simp [hb])) _ _ _ e
    exact key l ih _ _ _ e
  · rename_i hf
    cases e
    exact (form_cases h l.length).resolve_left hf
theorem sform_cases (h:Sh) (x y:X) (bl el:Nat):sform h x y bl el=0 ∨ sform h x y bl el=1 ∨ sform h x y bl el=3:=by
  unfold sform
  repeat' split
  all_goals first|(simp;done)|exact tyForm_cases _ _ _
theorem chkSs_cases_of (l:List St) (hl:∀ a ∈ l,∀ d c k,chkS d c a = .error k→k=1 ∨ k=3):∀ d c k,chkSs d c l = .error k→k=1 ∨ k=3:=by
  induction l with
  | nil=>intro d c k e;rw [chkSs_nil] at e;cases e
  | cons a r ihr =>
    intro d c k e
    rw [chkSs_cons] at e
    split at e
    · rename_i k' he;cases e;exact hl a (by simp) d c _ he
    · exact ihr (fun b hb=>hl b (by simp [hb])) _ _ _ e
theorem chkS_cases:∀ s,∀ d c k,chkS d c s = .error k→k=1 ∨ k=3:=by
  refine St.ind fun h x y bv ev b l ih1 ih2 d c k e=>?_
  rw [chkS_mk] at e
  split at e
  · cases e;simp
  split at e
  · split at e
    · rename_i k' e1
      cases e
      split at e1
      · exact chk_cases x _ _ _ e1
      · cases e1
    split at e
    · rename_i k' e1
      cases e
      split at e1
      · exact chk_cases y _ _ _ e1
      · cases e1
    split at e
    · rename_i k' e1
      cases e
      exact chkSs_cases_of b ih1 _ _ _ e1
    · exact chkSs_cases_of l ih2 _ _ _ e
  · rename_i hf
    cases e
    exact (sform_cases h x y b.length l.length).resolve_left hf
theorem chkSs_cases (l:List St):∀ d c k,chkSs d c l = .error k→k=1 ∨ k=3:=chkSs_cases_of l fun a _=>chkS_cases a
theorem chkR_cases:∀ (l:List Rc) (i:Nat),chkR i l=0 ∨ chkR i l=1 ∨ chkR i l=3
  | [],_=>.inl rfl
  | r :: l,i=>by
    rw [chkR_cons]
    split
    · simp
    split
    · simp
    split
    · exact chkF_cases _ _ _
    · exact chkR_cases l (i+1)
theorem chkFn_cases (c:Nat) (f:Fn) (k:Int) (e:chkFn c f = .error k):k=1 ∨ k=3:=by
  unfold chkFn at e
  split at e
  · cases e;simp
  split at e
  · rename_i h;cases e;exact (chkF_cases _ _ _).resolve_left h
  split at e
  · rename_i h;cases e;exact (tyForm_cases _ _ _).resolve_left h.2
  · exact chkSs_cases _ _ _ _ e
theorem chkFs_cases:∀ (l:List Fn) (i c:Nat) (k:Int),chkFs i c l = .error k→k=1 ∨ k=3
  | [],_,_,_,e=>by cases e
  | f :: r,i,c,k,e=>by
    rw [chkFs_cons] at e
    split at e
    · cases e;simp
    split at e
    · rename_i k' h;cases e;exact chkFn_cases _ _ _ h
    · exact chkFs_cases r _ _ _ e
theorem chkT_cases:∀ (l:List Th) (i c:Nat) (k:Int),chkT i c l = .error k→k=1 ∨ k=3
  | [],_,_,_,e=>by cases e
  | f :: r,i,c,k,e=>by
    rw [chkT_cons] at e
    split at e
    · cases e;simp
    split at e
    · rename_i k' h;cases e;exact chkSs_cases _ _ _ _ h
    · exact chkT_cases r _ _ _ e
theorem chkP_cases (p:Pr) (k:Int) (e:chkP p = .error k):k=1 ∨ k=3:=by
  unfold chkP at e
  split at e
  · rename_i k' h
    cases e
    unfold chkE at h
    split at h
    · rename_i g;cases h;exact (chkR_cases _ _).resolve_left g
    split at h
    · rename_i g;cases h;exact (chkF_cases _ _ _).resolve_left g
    · exact chkFs_cases _ _ _ _ h
  · exact chkT_cases _ _ _ _ e
theorem showcheck_any (p:Pr) (B:Nat) (w:World) (hBw:B≤w.heap.size) (hI:PIn w B p) :
    Calls Tryz.prog 23 #[.agg #[p.e.rv,p.e.sv,p.e.fv,p.tv]] w fun e w'=>e = .returned (.int .i64 (Rn (chkP p)))∧Below w.heap.size w w':=
  scheck_any _ _ _ _ _ (chkP_cases p) w fun B' c w1 hC h1 h2 h3=>cprog_any p B' c w1 hC h2 ((hI.keeps (h3.mono hBw)).up (by omega))
end Go.Proofs.YtdhieihcmnpneaaGreatDoor
