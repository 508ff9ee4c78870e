/- What the types layer finds of a whole program. -/
import Derived.Test.YtdhieihcmnpneaaGreatDoorRows
import Derived.Test.YtdhieihcmnpneaaGreatDoorTypWt
import Derived.Test.YtdhieihcmnpneaaGreatDoorTypFun
namespace Go.Proofs.YtdhieihcmnpneaaGreatDoor
set_option maxHeartbeats 2000000
set_option maxRecDepth 100000
open Go.RowKit
attribute [local go_sem ↓] Go.wp_at_zero Go.wp_at_succ
def restT3 (P:Pr) (Y:Except (Int × Int) Int):Except (Int × Int) Int:=match Y with
  | .error k=>.error k
  | .ok q=>thsT P.e q P.threads
def restT2 (P:Pr) (X:Except (Int × Int) Unit):Except (Int × Int) Int:=match X with
  | .error k=>.error k
  | .ok _=>restT3 P (fnsT P.e 0 ((P.e.records.length:Int)+P.e.shared.length - 1) P.e.funcs)
def restT1 (P:Pr) (X:Except (Int × Int) Unit):Except (Int × Int) Int:=match X with
  | .error k=>.error k
  | .ok _=>restT2 P (sharesT P.e 0 P.e.shared)
theorem progT_rest (P:Pr):progT P=restT1 P (recsT P.e 0 P.e.records):=by
  unfold progT headT restT1 restT2 restT3
  cases recsT P.e 0 P.e.records with
  | error k=>rfl
  | ok u =>
    simp only
    cases sharesT P.e 0 P.e.shared with
    | error k=>rfl
    | ok u=>rfl
theorem restT1_no (P:Pr) (k:Int × Int):restT1 P (.error k) = .error k:=rfl
theorem restT2_no (P:Pr) (k:Int × Int):restT2 P (.error k) = .error k:=rfl
theorem recsT_cons (e:En) (i:Nat) (r:Rc) (l:List Rc):recsT e i (r :: l)=if recE e i r ≠ 0 then .error ((i:Int),recE e i r) else recsT e (i+1) l:=rfl
theorem sharesT_cons (e:En) (i:Nat) (f:Fd) (l:List Fd):sharesT e i (f :: l)=if shareE e i f ≠ 0 then .error ((e.records.length:Int)+i,shareE e i f) else sharesT e (i+1) l:=rfl
theorem fnsT_cons (e:En) (i:Nat) (p:Int) (f:Fn) (r:List Fn):fnsT e i p (f :: r)=match fnT e i (p+1) f with
    | .error k=>.error k
    | .ok q=>fnsT e (i+1) q r:=rfl
theorem thsT_cons (e:En) (p:Int) (t:Th) (r:List Th):thsT e p (t :: r)=match stsT e noT [] (p+1) t.list with
    | .error k=>.error k
    | .ok q=>thsT e q r:=rfl
theorem fnT_mono (e:En) (i:Nat) (p:Int) (f:Fn) (q:Int) (h:fnT e i p f = .ok q):p≤q∧q≤p+(St.counts f.body:Int):=by
  unfold fnT at h
  split at h
  · cases h
  split at h
  · cases h
  split at h
  · exact places_mono _ _ _ _ _ _ h
  · cases h
def PgE (c:Nat) (r:Except (Int × Int) Int) (w:World) (e':Ending) (w':World):Prop:=
  Only c w w'∧(∀ q,r = .ok q→e' = .returned (.tuple #[]))∧(∀ q,r = .error q→e' = .panicked (ft q.1 q.2))
theorem PgE.no {c:Nat} {r:Except (Int × Int) Int} {a k:Int} {w w':World} (hr:r = .error (a,k)) (h:Only c w w'):PgE c r w (.panicked (ft a k)) w':=
  ⟨h,(fun u e=>by rw [hr] at e;cases e),(fun k e=>by rw [hr] at e;cases e;rfl)⟩
theorem PgE.ok {c:Nat} {r:Except (Int × Int) Int} {q:Int} {w w':World} (hr:r = .ok q) (h:Only c w w'):PgE c r w (.returned (.tuple #[])) w':=
  ⟨h,(fun _ _=>rfl),(fun k e=>by rw [hr] at e;cases e)⟩
theorem check_any (P:Pr) (B c:Nat) (res:Ty) (w:World) (h:Sx B c P.e P.tv (-1) res w) (hT:LiesG Th.cells 1 w B P.tv P.threads) (hTI:∀ t ∈ P.threads,TIn w B t) (hFf:∀ f ∈ P.e.funcs,∀ a ∈ f.body,FineS a) (hFt:∀ t ∈ P.threads,∀ a ∈ t.list,FineS a) (hN:placesN P≤1000000) :
    Calls Tryz.prog 27 #[.pointer (some ⟨c,0,none⟩)] w (PgE c (progT P) w):=by
  have hB:=h.hB
  have hw:=h.hw
  have hct:=h.tk.lt
  obtain⟨R,hR⟩:∃ R,R=progT P:=⟨_,rfl⟩
  rw [← hR]
  rw [progT_rest] at hR
  obtain⟨e,he⟩:∃ e,e=P.e:=⟨_,rfl⟩
  obtain⟨tv,htv⟩:∃ e,e=P.tv:=⟨_,rfl⟩
  rw [← he,← htv] at h
  rw [← htv] at hT
  rw [← he] at hR hFf
  have HRX:=Lib.hid hR
  have HP:=Lib.hid he
  obtain⟨ro,rc,er,hrl,hrg⟩:=h.ein.rlies.form
  obtain⟨so,sc,es,hsl,hsg⟩:=h.ein.slies.form
  obtain⟨fo,fc,ef,hfl,hfg⟩:=h.ein.flies.form
  obtain⟨to,tc,et,htl,htg⟩:=hT.form
  obtain⟨N1,hN1⟩:∃ N,N=e.records.length:=⟨_,rfl⟩
  obtain⟨N2,hN2⟩:∃ N,N=e.shared.length:=⟨_,rfl⟩
  obtain⟨N3,hN3⟩:∃ N,N=e.funcs.length:=⟨_,rfl⟩
  obtain⟨N4,hN4⟩:∃ N,N=P.threads.length:=⟨_,rfl⟩
  have HBND:=Lib.hid (show N1+N2+N3+N4+fnsN e.funcs+thsN P.threads≤1000000 by rw [hN1,hN2,hN3,hN4];unfold placesN at hN;rw [← he] at hN;exact hN)
  have hbn:N1+N2+N3+N4≤1000000:=by have:=HBND.out;omega
  obtain⟨K,⟨q0,q1,q2,q3,-,-,-,-,-,-,-,-⟩,-⟩:=h.tk.cells
  rw [er,← hN1] at q0
  have HS:=Lib.hid h
  have HRL:=Lib.hid (show LiesG Rc.cells 2 w B (.slice ro N1 rc) e.records by rw [hN1,← er];exact h.ein.rlies)
  have HSL:=Lib.hid (show LiesG Fd.cells 4 w B (.slice so N2 sc) e.shared by rw [hN2,← es];exact h.ein.slies)
  have HFL:=Lib.hid (show LiesG Fn.cells 6 w B (.slice fo N3 fc) e.funcs by rw [hN3,← ef];exact h.ein.flies)
  have HTL:=Lib.hid (show LiesG Th.cells 1 w B (.slice to N4 tc) P.threads by rw [hN4,← et];exact hT)
  rw [← hN1] at hrl hrg
  rw [← hN2] at hsl hsg
  rw [← hN3] at hfl hfg
  rw [← hN4] at htl htg
  have HTI:=Lib.hid hTI
  have HFf:=Lib.hid hFf
  have HFt:=Lib.hid hFt
  have HG1:=Lib.hid hrg
  have HG2:=Lib.hid hsg
  have HG3:=Lib.hid hfg
  have HG4:=Lib.hid htg
  have HN1:=Lib.hid hN1
  have HN2:=Lib.hid hN2
  have HN3:=Lib.hid hN3
  have HN4:=Lib.hid hN4
  have HES:=Lib.hid es
  have HEF:=Lib.hid ef
  have HET:=Lib.hid et
  clear h hT hTI hFf hFt hN hR he htv hrg hsg hfg htg hN1 hN2 hN3 hN4 er es ef et q1 q2 q3
  go_enter Tryz.func27,Tryz.ntmps27
  go_wp2_with fail
  clear q0
  go_loopw [16] (fun q wr=>∃ k:Nat,k≤N1∧q = .int .i64 k∧Hid (R=restT1 P (recsT e k (e.records.drop k)))∧Tk c e tv ((k:Int) - 1) res wr∧Only c w wr) (fun q _=>N1 - (intOf q).toNat)
  case atStart=>exact⟨0,by omega,rfl,Lib.hid HRX.out,HS.out.tk,Only.refl c w⟩
  case round =>
    obtain⟨k,hkN,rfl,HF,hTk,hOn⟩:=hrel
    have hsr:=hOn.size
    have hSr:=HS.out.only hOn hTk
    by_cases hlt2:k < N1
    · obtain⟨g,off,rfl,hg⟩:=HG1.out (by omega)
      obtain⟨a,haa⟩:∃ r,e.records[k]? = some r:=⟨_,List.getElem?_eq_getElem (by rw [← HN1.out];exact hlt2)⟩
      have hka:k < e.records.length:=by rw [← HN1.out];exact hlt2
      have hdr:=List.drop_eq_getElem_cons hka
      have hga:e.records[k] = a:=(List.getElem?_eq_some_iff.1 haa).2
      have hat:=((HRL.out.below (hOn.below hB hw)).at rfl k hka).2
      rw [hga] at hdr hat
      obtain⟨p0,p1⟩:=cells2 hat
      obtain⟨ao,acap,ea,-⟩:=(hSr.ein.records _ (List.mem_of_getElem? haa)).lies.form
      rw [ea] at p1
      have hb4:=below_box wr (.cells #[.string a.name,.slice ao a.fields.length acap] 49)
      have hS4:=hSr.kept hb4
      have HNX:=Lib.hid (next_any B c e tv _ res _ hS4 (by omega) (by omega))
      have HS4:=Lib.hid hS4
      have HO4:=Lib.hid (MapKept.heap_alloc wr (.cells #[.string a.name,.slice ao a.fields.length acap] 49)).1
      have HOn4:=Lib.hid (hOn.more hb4)
      have HXX:=Lib.hid (show R=restT1 P (if recE e k a ≠ 0 then .error ((k:Int),recE e k a) else recsT e (k+1) (e.records.drop (k+1))) by rw [HF.out,hdr,recsT_cons])
      have HAA:=Lib.hid haa
      have HEA:=Lib.hid ea
      have hgs:g < wr.heap.size:=by omega
      have hcwr:c < wr.heap.size:=hTk.lt
      clear haa hka hdr hga hat ea hb4 hS4 hTk hOn hSr HF
      go_wp2_with fail
      refine HNX.out.mono ?_;rintro e' w5 ⟨rfl,hO5,hT5⟩
      have hs5:=hO5.size
      have hbx:=(hO5.block wr.heap.size (by simp) (by omega)).trans HO4.out
      obtain⟨b0,b1⟩:=own2 hbx
      rw [show (k:Int) - 1+1=(k:Int) by omega] at hT5
      have hRA:=record_any k a c e tv (k:Int) res w5 hT5 HAA.out
      rw [HEA.out] at hRA
      have HRA:=Lib.hid hRA
      have HOn5:=Lib.hid (HOn4.out.trans hO5)
      have HT5:=Lib.hid hT5
      clear hO5 hbx hT5 hRA p0 p1
      go_wp2_with fail
      refine HRA.out.mono ?_;rintro e' w6 ⟨he6,hb6⟩
      by_cases hd0:recE e k a=0
      rotate_left
      · rw [askE_no hd0] at he6
        subst he6
        exact⟨rfl,PgE.no (by rw [HXX.out,if_pos hd0,restT1_no]) (HOn5.out.more hb6)⟩
      rw [askE_0 hd0] at he6
      subst he6
      have HR6:=Lib.hid (show R=restT1 P (recsT e (k+1) (e.records.drop (k+1))) by rw [HXX.out,if_neg (fun q=>q hd0)])
      have HOn6:=Lib.hid (HOn5.out.more hb6)
      have HT6:=Lib.hid (show Tk c e tv (((k+1:Nat):Int) - 1) res w6 by rw [show ((k+1:Nat):Int) - 1=(k:Int) by omega];exact HT5.out.kept hb6)
      clear hb6 hd0 b0 b1
      go_wp2_with fail
      go_roundw
      case rel=>exact⟨k+1,by omega,by go_num,HR6,HT6.out,HOn6.out⟩
      case measure=>simp [intOf];omega
    · have hk1:k=N1:=by omega
      obtain⟨K2,⟨-,q1,-,-,-,-,-,-,-,-,-,-⟩,-⟩:=hTk.cells
      rw [HES.out,← HN2.out] at q1
      have HR2:=Lib.hid (show R=restT2 P (sharesT e 0 e.shared) by rw [HF.out,List.drop_eq_nil_of_le (by rw [← HN1.out];omega),HP.out];rfl)
      have HT2:=Lib.hid (show Tk c e tv ((N1:Int)+(0:Nat) - 1) res wr by rw [← hk1];simpa using hTk)
      have HO2:=Lib.hid hOn
      clear hTk hOn hSr HF hk1
      go_wp2_with fail
      clear q1
      go_loopw [34] (fun q wr=>∃ k:Nat,k≤N2∧q = .int .i64 k∧Hid (R=restT2 P (sharesT e k (e.shared.drop k)))∧Tk c e tv ((N1:Int)+k - 1) res wr∧Only c w wr) (fun q _=>N2 - (intOf q).toNat)
      case atStart=>exact⟨0,by omega,rfl,Lib.hid HR2.out,HT2.out,HO2.out⟩
      case round =>
        obtain⟨k,hkN,rfl,HF,hTk,hOn⟩:=hrel
        have hsr:=hOn.size
        have hSr:=HS.out.only hOn hTk
        by_cases hlt2:k < N2
        · obtain⟨g,off,rfl,hg⟩:=HG2.out (by omega)
          obtain⟨a,haa⟩:∃ r,e.shared[k]? = some r:=⟨_,List.getElem?_eq_getElem (by rw [← HN2.out];exact hlt2)⟩
          have hka:k < e.shared.length:=by rw [← HN2.out];exact hlt2
          have hdr:=List.drop_eq_getElem_cons hka
          have hga:e.shared[k] = a:=(List.getElem?_eq_some_iff.1 haa).2
          have hat:=((HSL.out.below (hOn.below hB hw)).at rfl k hka).2
          rw [hga] at hdr hat
          obtain⟨p0,p1,p2,p3⟩:=cells4 hat
          have hfmem:a.name ∈ fnames e.shared:=by unfold fnames;exact List.mem_map.2 ⟨_,List.mem_of_getElem? haa,rfl⟩
          have hqe:=idx_eq hfmem k
          have hb4:=below_box wr (.cells #[.string a.name,.int .u8 a.t.k,.string a.t.n,.int .i64 a.t.z] 57)
          have hS4:=hSr.kept hb4
          have HNX:=Lib.hid (next_any B c e tv _ res _ hS4 (by omega) (by omega))
          have HO4:=Lib.hid (MapKept.heap_alloc wr (.cells #[.string a.name,.int .u8 a.t.k,.string a.t.n,.int .i64 a.t.z] 57)).1
          have HOn4:=Lib.hid (hOn.more hb4)
          have HXX:=Lib.hid (show restT2 P (sharesT e k (e.shared.drop k))=restT2 P (if shareE e k a ≠ 0 then .error ((e.records.length:Int)+k,shareE e k a) else sharesT e (k+1) (e.shared.drop (k+1))) by rw [hdr,sharesT_cons])
          have HRX:=HF
          have hgs:g < wr.heap.size:=by omega
          have hcwr:c < wr.heap.size:=hTk.lt
          clear haa hka hdr hga hat hfmem hb4 hS4 hTk hOn hSr HF
          go_wp2_with fail
          refine HNX.out.mono ?_;rintro e' w5 ⟨rfl,hO5,hT5⟩
          have hs5:=hO5.size
          have hbx:=(hO5.block wr.heap.size (by simp) (by omega)).trans HO4.out
          obtain⟨b0,b1,b2,b3⟩:=cells_prog _ _ _ _ hbx
          rw [show (N1:Int)+k - 1+1=(N1:Int)+k by omega,HN1.out] at hT5
          obtain⟨K5,⟨-,-,-,-,q4,-,q6,-,q8,-,-,-⟩,-,hmr,hms,-⟩:=hT5.cells
          obtain⟨mr,hmr'⟩:∃ m,m=K5.mr:=⟨_,rfl⟩
          obtain⟨ms,hms'⟩:∃ m,m=K5.ms:=⟨_,rfl⟩
          rw [← hmr'] at q4 hmr
          rw [← hms'] at q6 hms
          have hmsl:=hms.lt
          have hmrl:=hmr.lt
          have hcw5:=hT5.lt
          have hzw5:wr.heap.size < w5.heap.size:=by simp at hs5;omega
          have HMR:=Lib.hid hmr
          have HMS:=Lib.hid hms
          have HOn5:=Lib.hid (HOn4.out.trans hO5)
          have HT5:=Lib.hid hT5
          clear hO5 hbx hT5 hmr hms hmr' hms' p0 p1 p2 p3
          cases hx1:(idx a.name (rnames e.records)).isSome with
          | true =>
            have HSE:=Lib.hid (show shareE e k a=8 by unfold shareE;rw [if_pos (.inl hx1)])
            have HX1:=Lib.hid hx1
            clear hx1 hqe
            go_wp2_with fail
            refine wp_region_held_drew (S:=SameTo (w5.heap.size) w5) (by kernel_rfl) (SameTo.drew _ _) (fun hSw=>?_)
            refine wt (i:=0) (oi:={ dst:=some 41,op:=Op.move (Operand.tmp 0),type:=73,pos := "check.go:73", after:=#[],guard:=none }) (v:=.pointer (some ⟨c,0,none⟩)) (fun W hW=>?_) hSw ?_
            · first|(go_simp;done)|rfl
            try simp only [Act.put,q1,q2,q3]
            refine wt (i:=1) (oi:={ dst:=some 42,op:=Op.move (Operand.tmp 0),type:=73,pos := "check.go:73", after:=#[],guard:=none }) (v:=.pointer (some ⟨c,0,none⟩)) (fun W hW=>?_) hSw ?_
            · first|(go_simp;done)|rfl
            try simp only [Act.put,q1,q2,q3]
            refine wt (i:=2) (oi:={ dst:=some 43,op:=Op.nilCheck (Operand.tmp 42),type:=0,pos := "check.go:73", after:=#[gd 1],guard:=none }) (v:=.pointer (some ⟨c,0,none⟩)) (fun W hW=>?_) hSw ?_
            · first|(go_simp;done)|rfl
            try simp only [Act.put,q1,q2,q3]
            refine wt (i:=3) (oi:={ dst:=some 44,op:=Op.fieldAddr 112 (Operand.tmp 43) 1,type:=0,pos := "check.go:73", after:=#[gd 2],guard:=none }) (v:=.pointer (some ⟨c,4,none⟩)) (fun W hW=>?_) hSw ?_
            · first|(go_simp;done)|rfl
            try simp only [Act.put,q1,q2,q3]
            refine wt (i:=4) (oi:={ dst:=some 45,op:=Op.load 104 (Operand.tmp 44),type:=104,pos := "check.go:73", after:=#[gd 3],guard:=none }) (v:=.map (some mr)) (fun W hW=>?_) hSw ?_
            · have q4:=hW.cell (by dsimp only;omega) q4
              first|(go_simp;done)|rfl
            try simp only [Act.put,q1,q2,q3]
            refine wt (i:=5) (oi:={ dst:=some 46,op:=Op.fieldAddr 57 (Operand.tmp 5) 0,type:=0,pos := "check.go:73", after:=#[],guard:=none }) (v:=.pointer (some ⟨wr.heap.size,0,none⟩)) (fun W hW=>?_) hSw ?_
            · first|(go_simp;done)|rfl
            try simp only [Act.put,q1,q2,q3]
            refine wt (i:=6) (oi:={ dst:=some 47,op:=Op.load 9 (Operand.tmp 46),type:=9,pos := "check.go:73", after:=#[gd 5],guard:=none }) (v:=.string a.name) (fun W hW=>?_) hSw ?_
            · have b0:=hW.cell (by dsimp only;omega) b0
              first|(go_simp;done)|rfl
            try simp only [Act.put,q1,q2,q3]
            refine wpAnyH_ready (rs:=[7]) (by kernel_rfl) (by simp) ?_
            refine AllReadyH.cons (o:={ dst:=some 48,op:=Op.call { callee:=Callee.value (Operand.func 55),args:=#[Operand.tmp 45,Operand.tmp 47],argTypes:=#[104,9] },type:=4,pos := "check.go:73", after:=#[gd 4,gd 6],guard:=none }) rfl (fun K hK=>?_) AllReadyH.nil
            rw [if_pos (by rfl)]
            clear hSw
            go_simp
            refine (has_any _ mr a.name w5.drew HMR.out).mono ?_;rintro e' w' ⟨rfl,rfl⟩
            rw [HX1.out]
            refine hK.out _ _ (SameTo.drew _ _) (fun hSw=>?_)
            clear hK K
            try simp only [Act.put,q1,q2,q3]
            refine wt (i:=8) (oi:={ dst:=some 49,op:=Op.unOp UnOp.not 4 (Operand.tmp 48),type:=4,pos := "check.go:73", after:=#[gd 7],guard:=none }) (v:=.bool false) (fun W hW=>?_) hSw ?_
            · first|(go_simp;done)|rfl
            try simp only [Act.put,q1,q2,q3]
            refine wt (i:=9) (oi:={ dst:=some 50,op:=Op.move (Operand.tmp 49),type:=4,pos := "check.go:73", after:=#[gd 8,gc 7],guard:=none }) (v:=.bool false) (fun W hW=>?_) hSw ?_
            · first|(go_simp;done)|rfl
            try simp only [Act.put,q1,q2,q3]
            refine wpAnyH_take (i:=10) (oi:={ dst:=some 51,op:=Op.move (Operand.tmp 0),type:=73,pos := "check.go:73", after:=#[{ on:=9,ground:=Ground.guard }],guard:=some (9,true) }) (v:=undef) rfl (by kernel_rfl) (by kernel_rfl) (by kernel_rfl) (fun _ _ _ h=>h) (Or.inr ⟨by rfl,rfl⟩) hSw ?_
            try simp only [Act.put,q1,q2,q3]
            refine wpAnyH_take (i:=11) (oi:={ dst:=some 52,op:=Op.nilCheck (Operand.tmp 51),type:=0,pos := "check.go:73", after:=#[gd 10,{ on:=9,ground:=Ground.guard }],guard:=some (9,true) }) (v:=undef) rfl (by kernel_rfl) (by kernel_rfl) (by kernel_rfl) (fun _ _ _ h=>h) (Or.inr ⟨by rfl,rfl⟩) hSw ?_
            try simp only [Act.put,q1,q2,q3]
            refine wpAnyH_take (i:=12) (oi:={ dst:=some 53,op:=Op.fieldAddr 112 (Operand.tmp 52) 3,type:=0,pos := "check.go:73", after:=#[gd 11,{ on:=9,ground:=Ground.guard }],guard:=some (9,true) }) (v:=undef) rfl (by kernel_rfl) (by kernel_rfl) (by kernel_rfl) (fun _ _ _ h=>h) (Or.inr ⟨by rfl,rfl⟩) hSw ?_
            try simp only [Act.put,q1,q2,q3]
            refine wpAnyH_take (i:=13) (oi:={ dst:=some 54,op:=Op.load 104 (Operand.tmp 53),type:=104,pos := "check.go:73", after:=#[gd 12,{ on:=9,ground:=Ground.guard }],guard:=some (9,true) }) (v:=undef) rfl (by kernel_rfl) (by kernel_rfl) (by kernel_rfl) (fun _ _ _ h=>h) (Or.inr ⟨by rfl,rfl⟩) hSw ?_
            try simp only [Act.put,q1,q2,q3]
            refine wpAnyH_take (i:=14) (oi:={ dst:=some 55,op:=Op.fieldAddr 57 (Operand.tmp 5) 0,type:=0,pos := "check.go:73", after:=#[{ on:=9,ground:=Ground.guard }],guard:=some (9,true) }) (v:=undef) rfl (by kernel_rfl) (by kernel_rfl) (by kernel_rfl) (fun _ _ _ h=>h) (Or.inr ⟨by rfl,rfl⟩) hSw ?_
            try simp only [Act.put,q1,q2,q3]
            refine wpAnyH_take (i:=15) (oi:={ dst:=some 56,op:=Op.load 9 (Operand.tmp 55),type:=9,pos := "check.go:73", after:=#[gd 14,{ on:=9,ground:=Ground.guard }],guard:=some (9,true) }) (v:=undef) rfl (by kernel_rfl) (by kernel_rfl) (by kernel_rfl) (fun _ _ _ h=>h) (Or.inr ⟨by rfl,rfl⟩) hSw ?_
            try simp only [Act.put,q1,q2,q3]
            refine wpAnyH_take (i:=16) (oi:={ dst:=some 57,op:=Op.lookup 104 (Operand.tmp 54) (Operand.tmp 56) false,type:=3,pos := "check.go:73", after:=#[gd 13,gd 15,{ on:=9,ground:=Ground.guard }],guard:=some (9,true) }) (v:=undef) rfl (by kernel_rfl) (by kernel_rfl) (by kernel_rfl) (fun _ _ _ h=>h) (Or.inr ⟨by rfl,rfl⟩) hSw ?_
            try simp only [Act.put,q1,q2,q3]
            refine wpAnyH_take (i:=17) (oi:={ dst:=some 58,op:=Op.move (Operand.tmp 4),type:=3,pos := "check.go:73", after:=#[{ on:=9,ground:=Ground.guard }],guard:=some (9,true) }) (v:=undef) rfl (by kernel_rfl) (by kernel_rfl) (by kernel_rfl) (fun _ _ _ h=>h) (Or.inr ⟨by rfl,rfl⟩) hSw ?_
            try simp only [Act.put,q1,q2,q3]
            refine wpAnyH_take (i:=18) (oi:={ dst:=some 59,op:=Op.binOp BinOp.eql 3 (Operand.tmp 57) (Operand.tmp 58) 3,type:=4,pos := "check.go:73", after:=#[gd 16,gd 17,{ on:=9,ground:=Ground.guard }],guard:=some (9,true) }) (v:=undef) rfl (by kernel_rfl) (by kernel_rfl) (by kernel_rfl) (fun _ _ _ h=>h) (Or.inr ⟨by rfl,rfl⟩) hSw ?_
            try simp only [Act.put,q1,q2,q3]
            refine wt (i:=19) (oi:={ dst:=some 60,op:=Op.pick (Operand.tmp 50) (Operand.tmp 59) (Operand.const (Value.bool false)),type:=4,pos := "check.go:73", after:=#[gd 9,gd 18],guard:=none }) (v:=.bool false) (fun W hW=>?_) hSw ?_
            · first|(go_simp;done)|rfl
            try simp only [Act.put,q1,q2,q3]
            refine wpAnyH_ready (rs:=[20]) (by kernel_rfl) (by simp) ?_
            refine AllReadyH.cons (o:={ dst:=some 61,op:=Op.call { callee:=Callee.value (Operand.func 54),args:=#[Operand.tmp 41,Operand.tmp 60,Operand.const (Value.int IntKind.i64 8)],argTypes:=#[73,4,37] },type:=0,pos := "check.go:73", after:=#[gd 0,gd 19,gc 9],guard:=none }) rfl (fun K hK=>?_) AllReadyH.nil
            rw [if_pos (by rfl)]
            clear hSw
            go_simp
            refine (tmust_no c _ 8 w5.drew q8).mono ?_;rintro e' w' ⟨rfl,rfl⟩
            exact⟨rfl,PgE.no (HRX.out.trans (by rw [HXX.out,if_pos (by rw [HSE.out];decide),HSE.out,restT2_no])) (HOn5.out.trans (Only.of (Below.refl _ _).drew))⟩
          | false =>
          have HX1:=Lib.hid hx1
          by_cases hid:idx a.name (fnames e.shared)=some k
          rotate_left
          · have HSE:=Lib.hid (show shareE e k a=8 by unfold shareE;rw [if_pos (.inr hid)])
            rw [decide_eq_false hid] at hqe
            clear hx1 hid
            go_wp2_with fail
            refine wp_region_held_drew (S:=SameTo (w5.heap.size) w5) (by kernel_rfl) (SameTo.drew _ _) (fun hSw=>?_)
            refine wt (i:=0) (oi:={ dst:=some 41,op:=Op.move (Operand.tmp 0),type:=73,pos := "check.go:73", after:=#[],guard:=none }) (v:=.pointer (some ⟨c,0,none⟩)) (fun W hW=>?_) hSw ?_
            · first|(go_simp;done)|rfl
            try simp only [Act.put,q1,q2,q3]
            refine wt (i:=1) (oi:={ dst:=some 42,op:=Op.move (Operand.tmp 0),type:=73,pos := "check.go:73", after:=#[],guard:=none }) (v:=.pointer (some ⟨c,0,none⟩)) (fun W hW=>?_) hSw ?_
            · first|(go_simp;done)|rfl
            try simp only [Act.put,q1,q2,q3]
            refine wt (i:=2) (oi:={ dst:=some 43,op:=Op.nilCheck (Operand.tmp 42),type:=0,pos := "check.go:73", after:=#[gd 1],guard:=none }) (v:=.pointer (some ⟨c,0,none⟩)) (fun W hW=>?_) hSw ?_
            · first|(go_simp;done)|rfl
            try simp only [Act.put,q1,q2,q3]
            refine wt (i:=3) (oi:={ dst:=some 44,op:=Op.fieldAddr 112 (Operand.tmp 43) 1,type:=0,pos := "check.go:73", after:=#[gd 2],guard:=none }) (v:=.pointer (some ⟨c,4,none⟩)) (fun W hW=>?_) hSw ?_
            · first|(go_simp;done)|rfl
            try simp only [Act.put,q1,q2,q3]
            refine wt (i:=4) (oi:={ dst:=some 45,op:=Op.load 104 (Operand.tmp 44),type:=104,pos := "check.go:73", after:=#[gd 3],guard:=none }) (v:=.map (some mr)) (fun W hW=>?_) hSw ?_
            · have q4:=hW.cell (by dsimp only;omega) q4
              first|(go_simp;done)|rfl
            try simp only [Act.put,q1,q2,q3]
            refine wt (i:=5) (oi:={ dst:=some 46,op:=Op.fieldAddr 57 (Operand.tmp 5) 0,type:=0,pos := "check.go:73", after:=#[],guard:=none }) (v:=.pointer (some ⟨wr.heap.size,0,none⟩)) (fun W hW=>?_) hSw ?_
            · first|(go_simp;done)|rfl
            try simp only [Act.put,q1,q2,q3]
            refine wt (i:=6) (oi:={ dst:=some 47,op:=Op.load 9 (Operand.tmp 46),type:=9,pos := "check.go:73", after:=#[gd 5],guard:=none }) (v:=.string a.name) (fun W hW=>?_) hSw ?_
            · have b0:=hW.cell (by dsimp only;omega) b0
              first|(go_simp;done)|rfl
            try simp only [Act.put,q1,q2,q3]
            refine wpAnyH_ready (rs:=[7]) (by kernel_rfl) (by simp) ?_
            refine AllReadyH.cons (o:={ dst:=some 48,op:=Op.call { callee:=Callee.value (Operand.func 55),args:=#[Operand.tmp 45,Operand.tmp 47],argTypes:=#[104,9] },type:=4,pos := "check.go:73", after:=#[gd 4,gd 6],guard:=none }) rfl (fun K hK=>?_) AllReadyH.nil
            rw [if_pos (by rfl)]
            clear hSw
            go_simp
            refine (has_any _ mr a.name w5.drew HMR.out).mono ?_;rintro e' w' ⟨rfl,rfl⟩
            rw [HX1.out]
            refine hK.out _ _ (SameTo.drew _ _) (fun hSw=>?_)
            clear hK K
            try simp only [Act.put,q1,q2,q3]
            refine wt (i:=8) (oi:={ dst:=some 49,op:=Op.unOp UnOp.not 4 (Operand.tmp 48),type:=4,pos := "check.go:73", after:=#[gd 7],guard:=none }) (v:=.bool true) (fun W hW=>?_) hSw ?_
            · first|(go_simp;done)|rfl
            try simp only [Act.put,q1,q2,q3]
            refine wt (i:=9) (oi:={ dst:=some 50,op:=Op.move (Operand.tmp 49),type:=4,pos := "check.go:73", after:=#[gd 8,gc 7],guard:=none }) (v:=.bool true) (fun W hW=>?_) hSw ?_
            · first|(go_simp;done)|rfl
            try simp only [Act.put,q1,q2,q3]
            refine wt (i:=10) (oi:={ dst:=some 51,op:=Op.move (Operand.tmp 0),type:=73,pos := "check.go:73", after:=#[{ on:=9,ground:=Ground.guard }],guard:=some (9,true) }) (v:=.pointer (some ⟨c,0,none⟩)) (fun W hW=>?_) hSw ?_
            · first|(go_simp;done)|rfl
            try simp only [Act.put,q1,q2,q3]
            refine wt (i:=11) (oi:={ dst:=some 52,op:=Op.nilCheck (Operand.tmp 51),type:=0,pos := "check.go:73", after:=#[gd 10,{ on:=9,ground:=Ground.guard }],guard:=some (9,true) }) (v:=.pointer (some ⟨c,0,none⟩)) (fun W hW=>?_) hSw ?_
            · first|(go_simp;done)|rfl
            try simp only [Act.put,q1,q2,q3]
            refine wt (i:=12) (oi:={ dst:=some 53,op:=Op.fieldAddr 112 (Operand.tmp 52) 3,type:=0,pos := "check.go:73", after:=#[gd 11,{ on:=9,ground:=Ground.guard }],guard:=some (9,true) }) (v:=.pointer (some ⟨c,6,none⟩)) (fun W hW=>?_) hSw ?_
            · first|(go_simp;done)|rfl
            try simp only [Act.put,q1,q2,q3]
            refine wt (i:=13) (oi:={ dst:=some 54,op:=Op.load 104 (Operand.tmp 53),type:=104,pos := "check.go:73", after:=#[gd 12,{ on:=9,ground:=Ground.guard }],guard:=some (9,true) }) (v:=.map (some ms)) (fun W hW=>?_) hSw ?_
            · have q6:=hW.cell (by dsimp only;omega) q6
              first|(go_simp;done)|rfl
            try simp only [Act.put,q1,q2,q3]
            refine wt (i:=14) (oi:={ dst:=some 55,op:=Op.fieldAddr 57 (Operand.tmp 5) 0,type:=0,pos := "check.go:73", after:=#[{ on:=9,ground:=Ground.guard }],guard:=some (9,true) }) (v:=.pointer (some ⟨wr.heap.size,0,none⟩)) (fun W hW=>?_) hSw ?_
            · first|(go_simp;done)|rfl
            try simp only [Act.put,q1,q2,q3]
            refine wt (i:=15) (oi:={ dst:=some 56,op:=Op.load 9 (Operand.tmp 55),type:=9,pos := "check.go:73", after:=#[gd 14,{ on:=9,ground:=Ground.guard }],guard:=some (9,true) }) (v:=.string a.name) (fun W hW=>?_) hSw ?_
            · have b0:=hW.cell (by dsimp only;omega) b0
              first|(go_simp;done)|rfl
            try simp only [Act.put,q1,q2,q3]
            refine wt (i:=16) (oi:={ dst:=some 57,op:=Op.lookup 104 (Operand.tmp 54) (Operand.tmp 56) false,type:=3,pos := "check.go:73", after:=#[gd 13,gd 15,{ on:=9,ground:=Ground.guard }],guard:=some (9,true) }) (v:=.int .i64 (idxI a.name (fnames e.shared))) (fun W hW=>?_) hSw ?_
            · have hlk:=look_nm HMS.out a.name W (hW _ (by omega))
              first|(go_simp;done)|rfl
            try simp only [Act.put,q1,q2,q3]
            refine wt (i:=17) (oi:={ dst:=some 58,op:=Op.move (Operand.tmp 4),type:=3,pos := "check.go:73", after:=#[{ on:=9,ground:=Ground.guard }],guard:=some (9,true) }) (v:=.int .i64 (k:Int)) (fun W hW=>?_) hSw ?_
            · first|(go_simp;done)|rfl
            try simp only [Act.put,q1,q2,q3]
            refine wt (i:=18) (oi:={ dst:=some 59,op:=Op.binOp BinOp.eql 3 (Operand.tmp 57) (Operand.tmp 58) 3,type:=4,pos := "check.go:73", after:=#[gd 16,gd 17,{ on:=9,ground:=Ground.guard }],guard:=some (9,true) }) (v:=.bool false) (fun W hW=>?_) hSw ?_
            · first|(go_simp;done)|rfl
            try simp only [Act.put,q1,q2,q3]
            refine wt (i:=19) (oi:={ dst:=some 60,op:=Op.pick (Operand.tmp 50) (Operand.tmp 59) (Operand.const (Value.bool false)),type:=4,pos := "check.go:73", after:=#[gd 9,gd 18],guard:=none }) (v:=.bool false) (fun W hW=>?_) hSw ?_
            · first|(go_simp;done)|rfl
            try simp only [Act.put,q1,q2,q3]
            refine wpAnyH_ready (rs:=[20]) (by kernel_rfl) (by simp) ?_
            refine AllReadyH.cons (o:={ dst:=some 61,op:=Op.call { callee:=Callee.value (Operand.func 54),args:=#[Operand.tmp 41,Operand.tmp 60,Operand.const (Value.int IntKind.i64 8)],argTypes:=#[73,4,37] },type:=0,pos := "check.go:73", after:=#[gd 0,gd 19,gc 9],guard:=none }) rfl (fun K hK=>?_) AllReadyH.nil
            rw [if_pos (by rfl)]
            clear hSw
            go_simp
            refine (tmust_no c _ 8 w5.drew q8).mono ?_;rintro e' w' ⟨rfl,rfl⟩
            exact⟨rfl,PgE.no (HRX.out.trans (by rw [HXX.out,if_pos (by rw [HSE.out];decide),HSE.out,restT2_no])) (HOn5.out.trans (Only.of (Below.refl _ _).drew))⟩
          have HSE:=Lib.hid (show shareE e k a=knownE e a.t by unfold shareE knownE;rw [if_neg (by rw [hx1];simp [hid])])
          rw [decide_eq_true hid] at hqe
          clear hx1 hid
          go_wp2_with fail
          refine wp_region_held_drew (S:=SameTo (w5.heap.size) w5) (by kernel_rfl) (SameTo.drew _ _) (fun hSw=>?_)
          refine wt (i:=0) (oi:={ dst:=some 41,op:=Op.move (Operand.tmp 0),type:=73,pos := "check.go:73", after:=#[],guard:=none }) (v:=.pointer (some ⟨c,0,none⟩)) (fun W hW=>?_) hSw ?_
          · first|(go_simp;done)|rfl
          try simp only [Act.put,q1,q2,q3]
          refine wt (i:=1) (oi:={ dst:=some 42,op:=Op.move (Operand.tmp 0),type:=73,pos := "check.go:73", after:=#[],guard:=none }) (v:=.pointer (some ⟨c,0,none⟩)) (fun W hW=>?_) hSw ?_
          · first|(go_simp;done)|rfl
          try simp only [Act.put,q1,q2,q3]
          refine wt (i:=2) (oi:={ dst:=some 43,op:=Op.nilCheck (Operand.tmp 42),type:=0,pos := "check.go:73", after:=#[gd 1],guard:=none }) (v:=.pointer (some ⟨c,0,none⟩)) (fun W hW=>?_) hSw ?_
          · first|(go_simp;done)|rfl
          try simp only [Act.put,q1,q2,q3]
          refine wt (i:=3) (oi:={ dst:=some 44,op:=Op.fieldAddr 112 (Operand.tmp 43) 1,type:=0,pos := "check.go:73", after:=#[gd 2],guard:=none }) (v:=.pointer (some ⟨c,4,none⟩)) (fun W hW=>?_) hSw ?_
          · first|(go_simp;done)|rfl
          try simp only [Act.put,q1,q2,q3]
          refine wt (i:=4) (oi:={ dst:=some 45,op:=Op.load 104 (Operand.tmp 44),type:=104,pos := "check.go:73", after:=#[gd 3],guard:=none }) (v:=.map (some mr)) (fun W hW=>?_) hSw ?_
          · have q4:=hW.cell (by dsimp only;omega) q4
            first|(go_simp;done)|rfl
          try simp only [Act.put,q1,q2,q3]
          refine wt (i:=5) (oi:={ dst:=some 46,op:=Op.fieldAddr 57 (Operand.tmp 5) 0,type:=0,pos := "check.go:73", after:=#[],guard:=none }) (v:=.pointer (some ⟨wr.heap.size,0,none⟩)) (fun W hW=>?_) hSw ?_
          · first|(go_simp;done)|rfl
          try simp only [Act.put,q1,q2,q3]
          refine wt (i:=6) (oi:={ dst:=some 47,op:=Op.load 9 (Operand.tmp 46),type:=9,pos := "check.go:73", after:=#[gd 5],guard:=none }) (v:=.string a.name) (fun W hW=>?_) hSw ?_
          · have b0:=hW.cell (by dsimp only;omega) b0
            first|(go_simp;done)|rfl
          try simp only [Act.put,q1,q2,q3]
          refine wpAnyH_ready (rs:=[7]) (by kernel_rfl) (by simp) ?_
          refine AllReadyH.cons (o:={ dst:=some 48,op:=Op.call { callee:=Callee.value (Operand.func 55),args:=#[Operand.tmp 45,Operand.tmp 47],argTypes:=#[104,9] },type:=4,pos := "check.go:73", after:=#[gd 4,gd 6],guard:=none }) rfl (fun K hK=>?_) AllReadyH.nil
          rw [if_pos (by rfl)]
          clear hSw
          go_simp
          refine (has_any _ mr a.name w5.drew HMR.out).mono ?_;rintro e' w' ⟨rfl,rfl⟩
          rw [HX1.out]
          refine hK.out _ _ (SameTo.drew _ _) (fun hSw=>?_)
          clear hK K
          try simp only [Act.put,q1,q2,q3]
          refine wt (i:=8) (oi:={ dst:=some 49,op:=Op.unOp UnOp.not 4 (Operand.tmp 48),type:=4,pos := "check.go:73", after:=#[gd 7],guard:=none }) (v:=.bool true) (fun W hW=>?_) hSw ?_
          · first|(go_simp;done)|rfl
          try simp only [Act.put,q1,q2,q3]
          refine wt (i:=9) (oi:={ dst:=some 50,op:=Op.move (Operand.tmp 49),type:=4,pos := "check.go:73", after:=#[gd 8,gc 7],guard:=none }) (v:=.bool true) (fun W hW=>?_) hSw ?_
          · first|(go_simp;done)|rfl
          try simp only [Act.put,q1,q2,q3]
          refine wt (i:=10) (oi:={ dst:=some 51,op:=Op.move (Operand.tmp 0),type:=73,pos := "check.go:73", after:=#[{ on:=9,ground:=Ground.guard }],guard:=some (9,true) }) (v:=.pointer (some ⟨c,0,none⟩)) (fun W hW=>?_) hSw ?_
          · first|(go_simp;done)|rfl
          try simp only [Act.put,q1,q2,q3]
          refine wt (i:=11) (oi:={ dst:=some 52,op:=Op.nilCheck (Operand.tmp 51),type:=0,pos := "check.go:73", after:=#[gd 10,{ on:=9,ground:=Ground.guard }],guard:=some (9,true) }) (v:=.pointer (some ⟨c,0,none⟩)) (fun W hW=>?_) hSw ?_
          · first|(go_simp;done)|rfl
          try simp only [Act.put,q1,q2,q3]
          refine wt (i:=12) (oi:={ dst:=some 53,op:=Op.fieldAddr 112 (Operand.tmp 52) 3,type:=0,pos := "check.go:73", after:=#[gd 11,{ on:=9,ground:=Ground.guard }],guard:=some (9,true) }) (v:=.pointer (some ⟨c,6,none⟩)) (fun W hW=>?_) hSw ?_
          · first|(go_simp;done)|rfl
          try simp only [Act.put,q1,q2,q3]
          refine wt (i:=13) (oi:={ dst:=some 54,op:=Op.load 104 (Operand.tmp 53),type:=104,pos := "check.go:73", after:=#[gd 12,{ on:=9,ground:=Ground.guard }],guard:=some (9,true) }) (v:=.map (some ms)) (fun W hW=>?_) hSw ?_
          · have q6:=hW.cell (by dsimp only;omega) q6
            first|(go_simp;done)|rfl
          try simp only [Act.put,q1,q2,q3]
          refine wt (i:=14) (oi:={ dst:=some 55,op:=Op.fieldAddr 57 (Operand.tmp 5) 0,type:=0,pos := "check.go:73", after:=#[{ on:=9,ground:=Ground.guard }],guard:=some (9,true) }) (v:=.pointer (some ⟨wr.heap.size,0,none⟩)) (fun W hW=>?_) hSw ?_
          · first|(go_simp;done)|rfl
          try simp only [Act.put,q1,q2,q3]
          refine wt (i:=15) (oi:={ dst:=some 56,op:=Op.load 9 (Operand.tmp 55),type:=9,pos := "check.go:73", after:=#[gd 14,{ on:=9,ground:=Ground.guard }],guard:=some (9,true) }) (v:=.string a.name) (fun W hW=>?_) hSw ?_
          · have b0:=hW.cell (by dsimp only;omega) b0
            first|(go_simp;done)|rfl
          try simp only [Act.put,q1,q2,q3]
          refine wt (i:=16) (oi:={ dst:=some 57,op:=Op.lookup 104 (Operand.tmp 54) (Operand.tmp 56) false,type:=3,pos := "check.go:73", after:=#[gd 13,gd 15,{ on:=9,ground:=Ground.guard }],guard:=some (9,true) }) (v:=.int .i64 (idxI a.name (fnames e.shared))) (fun W hW=>?_) hSw ?_
          · have hlk:=look_nm HMS.out a.name W (hW _ (by omega))
            first|(go_simp;done)|rfl
          try simp only [Act.put,q1,q2,q3]
          refine wt (i:=17) (oi:={ dst:=some 58,op:=Op.move (Operand.tmp 4),type:=3,pos := "check.go:73", after:=#[{ on:=9,ground:=Ground.guard }],guard:=some (9,true) }) (v:=.int .i64 (k:Int)) (fun W hW=>?_) hSw ?_
          · first|(go_simp;done)|rfl
          try simp only [Act.put,q1,q2,q3]
          refine wt (i:=18) (oi:={ dst:=some 59,op:=Op.binOp BinOp.eql 3 (Operand.tmp 57) (Operand.tmp 58) 3,type:=4,pos := "check.go:73", after:=#[gd 16,gd 17,{ on:=9,ground:=Ground.guard }],guard:=some (9,true) }) (v:=.bool true) (fun W hW=>?_) hSw ?_
          · first|(go_simp;done)|rfl
          try simp only [Act.put,q1,q2,q3]
          refine wt (i:=19) (oi:={ dst:=some 60,op:=Op.pick (Operand.tmp 50) (Operand.tmp 59) (Operand.const (Value.bool false)),type:=4,pos := "check.go:73", after:=#[gd 9,gd 18],guard:=none }) (v:=.bool true) (fun W hW=>?_) hSw ?_
          · first|(go_simp;done)|rfl
          try simp only [Act.put,q1,q2,q3]
          refine wpAnyH_ready (rs:=[20]) (by kernel_rfl) (by simp) ?_
          refine AllReadyH.cons (o:={ dst:=some 61,op:=Op.call { callee:=Callee.value (Operand.func 54),args:=#[Operand.tmp 41,Operand.tmp 60,Operand.const (Value.int IntKind.i64 8)],argTypes:=#[73,4,37] },type:=0,pos := "check.go:73", after:=#[gd 0,gd 19,gc 9],guard:=none }) rfl (fun K hK=>?_) AllReadyH.nil
          rw [if_pos (by rfl)]
          clear hSw
          go_simp
          refine (tmust_yes c 8 w5.drew).mono ?_;rintro e' w' ⟨rfl,rfl⟩
          refine hK.out _ _ (SameTo.drew _ _) (fun hSw=>?_)
          clear hK K
          try simp only [Act.put,q1,q2,q3]
          refine wpAnyH_done (by kernel_rfl) ?_ _
          clear q4 q6 hqe q8
          go_wp2_with fail
          refine (known_any c e tv _ res a.t w5.drew HT5.out.drew).mono ?_;rintro e' w6 ⟨he6,hb6⟩
          replace hb6:Below w5.heap.size w5 w6:=below_tape hb6
          by_cases hd0:knownE e a.t=0
          rotate_left
          · rw [askE_no hd0] at he6
            subst he6
            exact⟨rfl,PgE.no (HRX.out.trans (by rw [HXX.out,HSE.out,if_pos hd0,restT2_no])) (HOn5.out.more hb6)⟩
          rw [askE_0 hd0] at he6
          subst he6
          have HR6:=Lib.hid (show R=restT2 P (sharesT e (k+1) (e.shared.drop (k+1))) by rw [HRX.out,HXX.out,HSE.out,if_neg (fun q=>q hd0)])
          have HOn6:=Lib.hid (HOn5.out.more hb6)
          have HT6:=Lib.hid (show Tk c e tv ((N1:Int)+((k+1:Nat):Int) - 1) res w6 by rw [show (N1:Int)+((k+1:Nat):Int) - 1=(e.records.length:Int)+k by rw [← HN1.out];omega];exact HT5.out.kept hb6)
          clear hb6 hd0 b0 b1 b2 b3
          go_wp2_with fail
          go_roundw
          case rel=>exact⟨k+1,by omega,by go_num,HR6,HT6.out,HOn6.out⟩
          case measure=>simp [intOf];omega
        · have hk1:k=N2:=by omega
          obtain⟨K2,⟨-,-,q2,-,-,-,-,-,-,-,-,-⟩,-⟩:=hTk.cells
          rw [HEF.out,← HN3.out] at q2
          have HR3:=Lib.hid (show R=restT3 P (fnsT e 0 ((N1:Int)+N2 - 1) e.funcs) by rw [HF.out,List.drop_eq_nil_of_le (by rw [← HN2.out];omega),HN1.out,HN2.out,HP.out];rfl)
          have HT3:=Lib.hid (show Tk c e tv ((N1:Int)+N2 - 1) res wr by rw [← hk1];exact hTk)
          have HO3:=Lib.hid hOn
          have H270:=Lib.hid (show ((N1:Int)+N2 - 1)+(N3:Int)+(fnsN e.funcs:Int)+N4+(thsN P.threads:Int)≤1000000 by have:=HBND.out;omega)
          clear hTk hOn hSr HF hk1
          go_wp2_with fail
          clear q2
          go_loopw [73] (fun q wr=>∃ k:Nat,k≤N3∧q = .int .i64 k∧∃ (pp:Int) (rs:Ty),Hid (R=restT3 P (fnsT e k pp (e.funcs.drop k)))∧Tk c e tv pp rs wr∧Only c w wr ∧ -1≤pp∧Hid (pp+((N3 - k:Nat):Int)+(fnsN (e.funcs.drop k):Int)+N4+(thsN P.threads:Int)≤1000000)) (fun q _=>N3 - (intOf q).toNat)
          case atStart=>exact⟨0,by omega,rfl,(N1:Int)+N2 - 1,res,Lib.hid HR3.out,HT3.out,HO3.out,by omega,Lib.hid (by simpa using H270.out)⟩
          case round =>
            obtain⟨k,hkN,rfl,pp,rs,HF,hTk,hOn,hpp0,HPB⟩:=hrel
            have hsr:=hOn.size
            have hSr:=HS.out.only hOn hTk
            by_cases hlt2:k < N3
            · obtain⟨g,off,rfl,hg⟩:=HG3.out (by omega)
              obtain⟨a,haa⟩:∃ r,e.funcs[k]? = some r:=⟨_,List.getElem?_eq_getElem (by rw [← HN3.out];exact hlt2)⟩
              have hka:k < e.funcs.length:=by rw [← HN3.out];exact hlt2
              have hdr:=List.drop_eq_getElem_cons hka
              have hga:e.funcs[k] = a:=(List.getElem?_eq_some_iff.1 haa).2
              have hat:=((HFL.out.below (hOn.below hB hw)).at rfl k hka).2
              rw [hga] at hdr hat
              obtain⟨p0,p1,p2,p3,p4,p5⟩:=cells6 hat
              have hnin:=hSr.ein.funcs _ (List.mem_of_getElem? haa)
              obtain⟨po,pc,ep,-⟩:=hnin.lies.form
              obtain⟨bo,bc,eb,-⟩:=hnin.blies.form
              have hFa:=HFf.out a (List.mem_of_getElem? haa)
              have hPB:=HPB.out
              rw [hdr,show fnsN (a :: e.funcs.drop (k+1))=St.counts a.body+fnsN (e.funcs.drop (k+1)) from rfl] at hPB
              rw [ep] at p1
              rw [eb] at p5
              have hb4:=below_box wr (.cells #[.string a.name,.slice po a.params.length pc,.int .u8 a.res.k,.string a.res.n,.int .i64 a.res.z,.slice bo a.body.length bc] 33)
              have hS4:=hSr.kept hb4
              have HNX:=Lib.hid (next_any B c e tv pp rs _ hS4 hpp0 (by omega))
              have HS4:=Lib.hid hS4
              have HO4:=Lib.hid (MapKept.heap_alloc wr (.cells #[.string a.name,.slice po a.params.length pc,.int .u8 a.res.k,.string a.res.n,.int .i64 a.res.z,.slice bo a.body.length bc] 33)).1
              have HOn4:=Lib.hid (hOn.more hb4)
              have HXX:=Lib.hid (show R=restT3 P (match fnT e k (pp+1) a with
                  | .error k=>.error k
                  | .ok q=>fnsT e (k+1) q (e.funcs.drop (k+1))) by rw [HF.out,hdr,fnsT_cons])
              have HAA:=Lib.hid haa
              have HEP:=Lib.hid ep
              have HEB:=Lib.hid eb
              have HPB2:=Lib.hid hPB
              have hgs:g < wr.heap.size:=by omega
              have hcwr:c < wr.heap.size:=hTk.lt
              clear haa hka hdr hga hat hnin ep eb hb4 hS4 hTk hOn hSr HF hPB
              go_wp2_with fail
              refine HNX.out.mono ?_;rintro e' w5 ⟨rfl,hO5,hT5⟩
              have hs5:=hO5.size
              have hbx:=(hO5.block wr.heap.size (by simp) (by omega)).trans HO4.out
              obtain⟨b0,b1,b2,b3,b4,b5⟩:=own6 hbx
              have hFU:=function_any k a B c e tv (pp+1) rs w5 (HS4.out.only hO5 hT5) HAA.out hFa (by omega) (by have:=HPB2.out;omega)
              rw [HEP.out,HEB.out] at hFU
              have HFU:=Lib.hid hFU
              have HOn5:=Lib.hid (HOn4.out.trans hO5)
              clear hO5 hbx hT5 hFU hFa p0 p1 p2 p3 p4 p5
              go_wp2_with fail
              refine HFU.out.mono ?_;rintro e' w6 ⟨hO6,hy6,hn6⟩
              cases hq:fnT e k (pp+1) a with
              | error q =>
                obtain rfl:=hn6 q hq
                exact⟨rfl,PgE.no (by rw [HXX.out,hq];rfl) (HOn5.out.trans hO6)⟩
              | ok q =>
              obtain⟨rfl,hT6⟩:=hy6 q hq
              have hmo:=fnT_mono e k (pp+1) a q hq
              have HR6:=Lib.hid (show R=restT3 P (fnsT e (k+1) q (e.funcs.drop (k+1))) by rw [HXX.out,hq])
              have HOn6:=Lib.hid (HOn5.out.trans hO6)
              have HT6:=Lib.hid hT6
              have hq0:-1≤q:=by omega
              have HPB6:=Lib.hid (show q+((N3 - (k+1):Nat):Int)+(fnsN (e.funcs.drop (k+1)):Int)+N4+(thsN P.threads:Int)≤1000000 by have:=HPB2.out;omega)
              clear hO6 hy6 hn6 hT6 hq hmo b0 b1 b2 b3 b4 b5
              go_wp2_with fail
              go_roundw
              case rel=>exact⟨k+1,by omega,by go_num,q,a.res,HR6,HT6.out,HOn6.out,hq0,HPB6⟩
              case measure=>simp [intOf];omega
            · obtain⟨K2,⟨-,-,-,q3,-,-,-,-,-,-,-,-⟩,-⟩:=hTk.cells
              rw [HET.out,← HN4.out] at q3
              have HR4:=Lib.hid (show R=thsT e pp P.threads by rw [HF.out,List.drop_eq_nil_of_le (by rw [← HN3.out];omega),HP.out];rfl)
              have HT4:=Lib.hid hTk
              have HO4:=Lib.hid hOn
              have HTN0:=Lib.hid (show pp+(N4:Int)+(thsN P.threads:Int)≤1000000 by have:=HPB.out;omega)
              clear hTk hOn hSr HF
              go_wp2_with fail
              clear q3
              go_loopw [91] (fun q wr=>∃ k:Nat,k≤N4∧q = .int .i64 k∧∃ (pp:Int) (rs:Ty),Hid (R=thsT e pp (P.threads.drop k))∧Tk c e tv pp rs wr∧Only c w wr ∧ -1≤pp∧Hid (pp+((N4 - k:Nat):Int)+(thsN (P.threads.drop k):Int)≤1000000)) (fun q _=>N4 - (intOf q).toNat)
              case atStart=>exact⟨0,by omega,rfl,pp,rs,Lib.hid HR4.out,HT4.out,HO4.out,hpp0,Lib.hid (by simpa using HTN0.out)⟩
              case round =>
                obtain⟨k,hkN,rfl,pp,rs,HF,hTk,hOn,hpp0,HPB⟩:=hrel
                have hsr:=hOn.size
                have hSr:=HS.out.only hOn hTk
                by_cases hlt2:k < N4
                · obtain⟨g,off,rfl,hg⟩:=HG4.out (by omega)
                  obtain⟨a,haa⟩:∃ r,P.threads[k]? = some r:=⟨_,List.getElem?_eq_getElem (by rw [← HN4.out];exact hlt2)⟩
                  have hka:k < P.threads.length:=by rw [← HN4.out];exact hlt2
                  have hdr:=List.drop_eq_getElem_cons hka
                  have hga:P.threads[k] = a:=(List.getElem?_eq_some_iff.1 haa).2
                  have hat:=((HTL.out.below (hOn.below hB hw)).at rfl k hka).2
                  rw [hga] at hdr hat
                  have p0:wr.cell? ⟨g,off+k * 1,none⟩ = some a.v:=hat 0 _ rfl
                  have htin:=HTI.out a (List.mem_of_getElem? haa)
                  obtain⟨bo,bc,eb,-⟩:=htin.lies.form
                  have hFa:=HFt.out a (List.mem_of_getElem? haa)
                  have hPB:=HPB.out
                  rw [hdr,show thsN (a :: P.threads.drop (k+1))=St.counts a.list+thsN (P.threads.drop (k+1)) from rfl] at hPB
                  rw [eb,Nat.mul_one] at p0
                  have HNX:=Lib.hid (next_any B c e tv pp rs wr hSr hpp0 (by omega))
                  have HSr:=Lib.hid hSr
                  have HOn4:=Lib.hid hOn
                  have HXX:=Lib.hid (show R=match stsT e noT [] (pp+1) a.list with
                      | .error k=>.error k
                      | .ok q=>thsT e q (P.threads.drop (k+1)) by rw [HF.out,hdr,thsT_cons])
                  have HTN:=Lib.hid htin
                  have HEB:=Lib.hid eb
                  have HPB2:=Lib.hid hPB
                  have hgs:g < wr.heap.size:=by omega
                  have hcwr:c < wr.heap.size:=hTk.lt
                  clear haa hka hdr hga hat htin eb hTk hOn hSr HF hPB
                  go_wp2_with fail
                  refine HNX.out.mono ?_;rintro e' w5 ⟨rfl,hO5,hT5⟩
                  have hs5:=hO5.size
                  obtain⟨K7,⟨-,-,-,-,-,-,-,-,-,q9,q10,q11⟩,hfr,-⟩:=hT5.cells
                  have f9:=hfr 9
                  have f10:=hfr 10
                  have f11:=hfr 11
                  have hS5:=HSr.out.only hO5 hT5
                  obtain⟨W9,hW9⟩:∃ W9,W9=((w5.setCell ⟨c,9,none⟩ (.int .u8 0)).setCell ⟨c,10,none⟩ (.string ⟨#[]⟩)).setCell ⟨c,11,none⟩ (.int .i64 0):=⟨_,rfl⟩
                  have hO9:Only c w5 W9:=by rw [hW9];exact (((Only.refl c w5).cell 9 _).cell 10 _).cell 11 _
                  have hz9:w5.heap.size=W9.heap.size:=by rw [hW9];simp [World.setCell]
                  have hT9:Tk c e tv (pp+1) noT W9:=hT5.set (pp+1) noT hz9 (fun k hk=>by
                      rw [hW9]
                      exact ((Below.heap_setCell _ _ _ _ (by simpa using hk)).trans (Below.heap_setCell _ _ _ _ (by simpa using hk))).trans (Below.heap_setCell _ _ _ _ (by simpa using hk))) (fun K hK=>by rw [hW9];simp [World.setCell,Array.getElem?_modify,hK,Kc.cells,noT])
                    ((hS5.ein.keeps (hO9.below hB hS5.hw)).up (by have:=hS5.hw;omega))
                  have hS9:=hS5.only hO9 hT9
                  have hOa:=(HOn4.out.trans hO5).trans hO9
                  have hb9:=hOa.below hB hw
                  have hTL9:=tlist_all a.list B c e tv (pp+1) noT [] (.pointer none) a.v W9 hS9 (HTN.out.lies.below hb9) (fun x hx=>SIn.keeps hb9 _ (HTN.out.list x hx)) hFa rfl (by omega) (by have:=HPB2.out;omega)
                  rw [HEB.out] at hTL9
                  have HLS:=Lib.hid hTL9
                  have HO9:=Lib.hid hOa
                  have HW9:=Lib.hid hW9
                  clear hfr hW9 hO9 hT9 hS9 hOa hb9 hTL9 hS5 hT5 hO5 p0
                  go_wp2_with fail
                  rw [← HW9.out]
                  refine HLS.out.mono ?_;rintro e' w6 ⟨hO6,hy6,hn6⟩
                  cases hq:stsT e noT [] (pp+1) a.list with
                  | error q =>
                    obtain rfl:=hn6 q hq
                    exact⟨rfl,PgE.no (by rw [HXX.out,hq]) (HO9.out.trans hO6)⟩
                  | ok q =>
                  obtain⟨rfl,hT6⟩:=hy6 q hq
                  have hmo:=places_mono a.list e noT [] (pp+1) q hq
                  have HR6:=Lib.hid (show R=thsT e q (P.threads.drop (k+1)) by rw [HXX.out,hq])
                  have HOn6:=Lib.hid (HO9.out.trans hO6)
                  have HT6:=Lib.hid hT6
                  have hq0:-1≤q:=by omega
                  have HPB6:=Lib.hid (show q+((N4 - (k+1):Nat):Int)+(thsN (P.threads.drop (k+1)):Int)≤1000000 by have:=HPB2.out;omega)
                  clear hO6 hy6 hn6 hT6 hq hmo q9 q10 q11 f9 f10 f11
                  go_wp2_with fail
                  go_roundw
                  case rel=>exact⟨k+1,by omega,by go_num,q,noT,HR6,HT6.out,HOn6.out,hq0,HPB6⟩
                  case measure=>simp [intOf];omega
                · have HR6:=Lib.hid (show R = .ok pp by rw [HF.out,List.drop_eq_nil_of_le (by rw [← HN4.out];omega)];rfl)
                  have HOn6:=Lib.hid hOn
                  clear hTk hOn hSr HF
                  go_wp2_with fail
                  go_end0
                  exact PgE.ok HR6.out HOn6.out
end Go.Proofs.YtdhieihcmnpneaaGreatDoor
