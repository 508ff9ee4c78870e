/- How many places package types counts. -/
import Derived.Test.YtdhieihcmnpneaaGreatDoorRows
import Derived.Test.YtdhieihcmnpneaaGreatDoorTypWt
import Derived.Test.YtdhieihcmnpneaaGreatDoorGNew
namespace Go.Proofs.YtdhieihcmnpneaaGreatDoor
open Lib (hid)
set_option maxRecDepth 100000
set_option maxHeartbeats 4000000
open Go.RowKit
attribute [local go_sem ↓] Go.wp_at_zero Go.wp_at_succ
theorem wrap_small {x:Int} (h0:0≤x) (h1:x≤4000000):IntKind.i64.wrap x=x:=by
  simp only [IntKind.wrap]
  first|omega|(split <;> omega)|(simp [IntKind.bits,IntKind.signed];omega)|(unfold IntKind.bits;simp;omega)
def PL (l:List St):Prop:=∀ (B:Nat) (v:Value) (w:World),LiesG St.cells 21 w B v l→(∀ a ∈ l,SIn w B a)→B≤w.heap.size→St.counts l≤1000000 →
    Calls Tryz.prog 86 #[v] w fun e w'=>e = .returned (.int .i64 (St.counts l:Int))∧Below w.heap.size w w'
theorem count_parts (a:St):St.count a=1+St.counts a.body+St.counts a.els:=by cases a;rw [count_mk];rfl
theorem counts_take (l:List St) (k:Nat):St.counts (l.take k)≤St.counts l:=by
  conv=>rhs;rw [← List.take_append_drop k l,counts_append]
  omega
theorem counts_take_ge (l:List St):∀ k,k≤l.length→k≤St.counts (l.take k):=by
  induction l with
  | nil=>intro k hk;simp at hk;omega
  | cons a r ih =>
    intro k hk
    cases k with
    | zero=>omega
    | succ k =>
      have:=ih k (by simpa using hk)
      rw [List.take_succ_cons,counts_cons,count_parts]
      omega
theorem sin_lists {w:World} {B:Nat} {a:St} (h:SIn w B a):LiesG St.cells 21 w B a.bv a.body∧LiesG St.cells 21 w B a.ev a.els∧(∀ x ∈ a.body,SIn w B x)∧∀ x ∈ a.els,SIn w B x:=by
  cases h with
  | mk _ _ _ _ _ _ _ _ _ _ h4 h5 h6 h7=>exact⟨h4,h5,h6,h7⟩
theorem places_of (l:List St) (ih:∀ a ∈ l,PL a.body∧PL a.els):PL l:=by
  intro B v w hL hI hBw hC
  obtain⟨ao,cap,rfl,hlen,hgo⟩:=hL.form
  obtain⟨N,hN⟩:∃ N,N=l.length:=⟨_,rfl⟩
  rw [← hN] at hlen hgo ⊢
  have hNC:=counts_take_ge l l.length (Nat.le_refl _)
  rw [List.take_length,← hN] at hNC
  obtain⟨C,hCC⟩:∃ C,C=St.counts l:=⟨_,rfl⟩
  rw [← hCC] at hC hNC ⊢
  have HLI:=hid hL
  have HIN:=hid hI
  have HIH:=hid ih
  have HG:=hid hgo
  have HN:=hid hN
  have HC:=hid hCC
  clear hL hI ih hgo hN hCC
  go_enter Tryz.func86,Tryz.ntmps86
  go_wp2_with fail
  go_loopw [9,3] (fun q m wr=>∃ k:Nat,k≤N∧q = .int .i64 k∧∃ n:Nat,m = .int .i64 n∧Hid (n+k=N+St.counts (l.take k))∧Below w.heap.size w wr) (fun q _ _=>N - (intOf q).toNat)
  case atStart=>exact⟨0,by omega,rfl,N,rfl,hid (by simp [counts_nil]),Below.refl _ _⟩
  case round =>
    obtain⟨k,hkN,rfl,n,rfl,HK,hB⟩:=hrel
    have hsr:=hB.size
    by_cases hlt2:k < N
    · have hpx:k < l.length:=by rw [← HN.out];exact hlt2
      obtain⟨g,off,rfl,hg⟩:=HG.out (by omega)
      have hat:=((HLI.out.below (hB.mono hBw)).at rfl k hpx).2
      have hma:=List.getElem_mem hpx
      have hIa:=SIn.keeps (hB.mono hBw) _ (HIN.out _ hma)
      have hPa:=HIH.out _ hma
      have hT1:St.counts (l.take (k+1))=St.counts (l.take k)+(1+St.counts l[k].body+St.counts l[k].els):=by
        rw [List.take_succ_eq_append_getElem hpx,counts_append,counts_cons,counts_nil,count_parts];omega
      have hT2:=counts_take l (k+1)
      generalize l[k] = a at *
      have p19:=hat 19 a.bv (by cases a;rfl)
      have p20:=hat 20 a.ev (by cases a;rfl)
      obtain⟨hL1,hL2,hI1,hI2⟩:=sin_lists hIa
      have hsm:n+(St.counts a.body+St.counts a.els)≤2000000:=by have:=HK.out;have:=HC.out;omega
      have HNUM:=hid (show n+(St.counts a.body+St.counts a.els)≤2000000∧True from ⟨hsm,trivial⟩)
      have hbd:=hsm
      have HPB:=hid (hPa.1 B a.bv wr.drew (hL1.below (Below.refl _ _).drew) (fun x hx=>SIn.keeps (Below.refl _ _).drew _ (hI1 x hx)) (by show B≤wr.heap.size;omega) (by have:=HC.out;omega))
      have HPE:=hid (fun (w1:World) (hb1:Below wr.heap.size wr w1)=>hPa.2 B a.ev w1 (hL2.below (hb1.mono (by omega))) (fun x hx=>SIn.keeps (hb1.mono (by omega)) _ (hI2 x hx)) (by have:=hb1.size;omega) (by have:=HC.out;omega))
      have HT1:=hid hT1
      have HB:=hid hB
      have hgs:g < wr.heap.size:=by omega
      clear hat hma hIa hPa hT1 hT2 hL1 hL2 hI1 hI2 hB
      go_wp2_with fail
      refine wp_region_held_drew (S:=SameTo (wr.heap.size) wr) (by kernel_rfl) (SameTo.drew _ _) (fun hSw=>?_)
      refine wt (i:=0) (oi:={ dst:=some 12,op:=Op.move (Operand.tmp 3),type:=3,pos := "types.go:32", after:=#[],guard:=none }) (v:=.int .i64 (n:Int)) (fun W hW=>?_) hSw ?_
      · first|(go_simp;done)|rfl
      try simp only [Act.put,q1,q2,q3]
      refine wt (i:=1) (oi:={ dst:=some 13,op:=Op.move (Operand.tmp 0),type:=31,pos := "types.go:32", after:=#[],guard:=none }) (v:=.slice (some ⟨g,off,none⟩) N cap) (fun W hW=>?_) hSw ?_
      · first|(go_simp;done)|rfl
      try simp only [Act.put,q1,q2,q3]
      refine wt (i:=2) (oi:={ dst:=some 14,op:=Op.move (Operand.tmp 4),type:=3,pos := "types.go:32", after:=#[],guard:=none }) (v:=.int .i64 (k:Int)) (fun W hW=>?_) hSw ?_
      · first|(go_simp;done)|rfl
      try simp only [Act.put,q1,q2,q3]
      refine wt (i:=3) (oi:={ dst:=some 15,op:=Op.indexAddr 31 (Operand.tmp 13) (Operand.tmp 14),type:=0,pos := "types.go:32", after:=#[gd 1,gd 2],guard:=none }) (v:=.pointer (some ⟨g,off+k * 21,none⟩)) (fun W hW=>?_) hSw ?_
      · first|(go_simp;done)|rfl
      try simp only [Act.put,q1,q2,q3]
      refine wt (i:=4) (oi:={ dst:=some 16,op:=Op.fieldAddr 64 (Operand.tmp 15) 5,type:=0,pos := "types.go:32", after:=#[gd 3],guard:=none }) (v:=.pointer (some ⟨g,off+k * 21+19,none⟩)) (fun W hW=>?_) hSw ?_
      · first|(go_simp;done)|rfl
      try simp only [Act.put,q1,q2,q3]
      refine wt (i:=5) (oi:={ dst:=some 17,op:=Op.load 31 (Operand.tmp 16),type:=31,pos := "types.go:32", after:=#[gd 4],guard:=none }) (v:=a.bv) (fun W hW=>?_) hSw ?_
      · have p19:=hW.cell (by dsimp only;omega) p19
        first|(go_simp;done)|rfl
      try simp only [Act.put,q1,q2,q3]
      refine wt (i:=7) (oi:={ dst:=some 19,op:=Op.move (Operand.tmp 0),type:=31,pos := "types.go:32", after:=#[],guard:=none }) (v:=.slice (some ⟨g,off,none⟩) N cap) (fun W hW=>?_) hSw ?_
      · first|(go_simp;done)|rfl
      try simp only [Act.put,q1,q2,q3]
      refine wt (i:=8) (oi:={ dst:=some 20,op:=Op.move (Operand.tmp 4),type:=3,pos := "types.go:32", after:=#[],guard:=none }) (v:=.int .i64 (k:Int)) (fun W hW=>?_) hSw ?_
      · first|(go_simp;done)|rfl
      try simp only [Act.put,q1,q2,q3]
      refine wt (i:=9) (oi:={ dst:=some 21,op:=Op.indexAddr 31 (Operand.tmp 19) (Operand.tmp 20),type:=0,pos := "types.go:32", after:=#[gd 7,gd 8],guard:=none }) (v:=.pointer (some ⟨g,off+k * 21,none⟩)) (fun W hW=>?_) hSw ?_
      · first|(go_simp;done)|rfl
      try simp only [Act.put,q1,q2,q3]
      refine wt (i:=10) (oi:={ dst:=some 22,op:=Op.fieldAddr 64 (Operand.tmp 21) 6,type:=0,pos := "types.go:32", after:=#[gd 9],guard:=none }) (v:=.pointer (some ⟨g,off+k * 21+20,none⟩)) (fun W hW=>?_) hSw ?_
      · first|(go_simp;done)|rfl
      try simp only [Act.put,q1,q2,q3]
      refine wt (i:=11) (oi:={ dst:=some 23,op:=Op.load 31 (Operand.tmp 22),type:=31,pos := "types.go:32", after:=#[gd 10],guard:=none }) (v:=a.ev) (fun W hW=>?_) hSw ?_
      · have p20:=hW.cell (by dsimp only;omega) p20
        first|(go_simp;done)|rfl
      try simp only [Act.put,q1,q2,q3]
      refine wpAnyH_ready (rs:=[6]) (by kernel_rfl) (by simp) ?_
      refine AllReadyH.cons (o:={ dst:=some 18,op:=Op.call { callee:=Callee.value (Operand.func 86),args:=#[Operand.tmp 17],argTypes:=#[31] },type:=3,pos := "types.go:32", after:=#[gd 5],guard:=none }) rfl (fun K hK=>?_) AllReadyH.nil
      rw [if_pos (by rfl)]
      clear hSw
      go_simp
      refine HPB.out.mono ?_;rintro e1 w1 ⟨rfl,hb1⟩
      replace hb1:Below wr.heap.size wr w1:=(Below.refl _ _).drew.trans hb1
      have hz1:=hb1.size
      refine hK.out _ _ (SameTo.of hb1) (fun hSw=>?_)
      clear hK K
      try simp only [Act.put,q1,q2,q3]
      refine wpAnyH_ready (rs:=[12]) (by kernel_rfl) (by simp) ?_
      refine AllReadyH.cons (o:={ dst:=some 24,op:=Op.call { callee:=Callee.value (Operand.func 86),args:=#[Operand.tmp 23],argTypes:=#[31] },type:=3,pos := "types.go:32", after:=#[gd 11,gc 6],guard:=none }) rfl (fun K hK=>?_) AllReadyH.nil
      rw [if_pos (by rfl)]
      clear hSw
      go_simp
      refine (HPE.out w1 hb1).mono ?_;rintro e1 w2 ⟨rfl,hb2⟩
      have hb12:=hb1.trans (hb2.mono hz1)
      refine hK.out _ _ (SameTo.of hb12) (fun hSw=>?_)
      clear hK K
      try simp only [Act.put,q1,q2,q3]
      refine wt (i:=13) (oi:={ dst:=some 25,op:=Op.binOp BinOp.add 3 (Operand.tmp 18) (Operand.tmp 24) 3,type:=3,pos := "types.go:32", after:=#[gd 6,gd 12],guard:=none }) (v:=.int .i64 ((St.counts a.body:Int)+(St.counts a.els:Int))) (fun W hW=>?_) hSw ?_
      · (have hnum:=HNUM.out.1;go_simp;exact wrap_small (by omega) (by omega))
      try simp only [Act.put,q1,q2,q3]
      refine wt (i:=14) (oi:={ dst:=some 26,op:=Op.binOp BinOp.add 3 (Operand.tmp 12) (Operand.tmp 25) 3,type:=3,pos := "types.go:32", after:=#[gd 0,gd 13],guard:=none }) (v:=.int .i64 ((n:Int)+((St.counts a.body:Int)+(St.counts a.els:Int)))) (fun W hW=>?_) hSw ?_
      · (have hnum:=HNUM.out.1;go_simp;exact wrap_small (by omega) (by omega))
      try simp only [Act.put,q1,q2,q3]
      refine wt (i:=15) (oi:={ dst:=some 3,op:=Op.assign (Operand.tmp 26),type:=3,pos := "types.go:32", after:=#[gd 14,gc 12,gp 0,gp 1,gp 2,gp 3,gp 4,gp 5,gp 6,gp 7,gp 8,gp 9,gp 10,gp 11,gp 12,gp 13,gp 14],guard:=none }) (v:=.int .i64 ((n:Int)+((St.counts a.body:Int)+(St.counts a.els:Int)))) (fun W hW=>?_) hSw ?_
      · first|(go_simp;done)|rfl
      try simp only [Act.put,q1,q2,q3]
      refine wpAnyH_done (by kernel_rfl) ?_ _
      have HB9:=hid (HB.out.trans (hb12.mono hsr))
      clear p19 p20 hb1 hb2 hb12
      go_wp2_with fail
      go_roundw
      case rel=>exact⟨k+1,by omega,by go_num,n+(St.counts a.body+St.counts a.els),by push_cast;rfl,hid (by have:=HK.out;have:=HT1.out;omega),HB9.out⟩
      case measure=>simp [intOf];omega
    · have hn:n=C:=by
        have:=HK.out
        rw [List.take_of_length_le (by rw [← HN.out];omega),← HC.out] at this
        omega
      subst hn
      have HB9:=hid hB
      clear hB
      go_wp2_with fail
      go_ret
      exact⟨rfl,HB9.out⟩
theorem places_all:∀ a:St,PL a.body∧PL a.els:=by
  refine St.ind fun h x y bv ev b e ih1 ih2=>?_
  exact⟨places_of b ih1,places_of e ih2⟩
theorem places_list (l:List St):PL l:=places_of l fun a _=>places_all a
end Go.Proofs.YtdhieihcmnpneaaGreatDoor
/- How many places package types counts in a whole program. -/
namespace Go.Proofs.YtdhieihcmnpneaaGreatDoor
open Lib (hid)
set_option maxRecDepth 100000
set_option maxHeartbeats 4000000
open Go.RowKit
attribute [local go_sem ↓] Go.wp_at_zero Go.wp_at_succ
theorem fnsN_append:∀ a b:List Fn,fnsN (a ++ b)=fnsN a+fnsN b
  | [],b=>by simp [fnsN]
  | x :: r,b=>by rw [List.cons_append,fnsN,fnsN,fnsN_append r b];omega
theorem thsN_append:∀ a b:List Th,thsN (a ++ b)=thsN a+thsN b
  | [],b=>by simp [thsN]
  | x :: r,b=>by rw [List.cons_append,thsN,thsN,thsN_append r b];omega
theorem fnsN_take (l:List Fn) (k:Nat) (h:k < l.length):fnsN (l.take (k+1))=fnsN (l.take k)+St.counts l[k].body∧fnsN (l.take (k+1))≤fnsN l:=by
  constructor
  · rw [List.take_succ_eq_append_getElem h,fnsN_append,fnsN,fnsN];omega
  · conv=>rhs;rw [← List.take_append_drop (k+1) l,fnsN_append]
    omega
theorem thsN_take (l:List Th) (k:Nat) (h:k < l.length):thsN (l.take (k+1))=thsN (l.take k)+St.counts l[k].list∧thsN (l.take (k+1))≤thsN l:=by
  constructor
  · rw [List.take_succ_eq_append_getElem h,thsN_append,thsN,thsN];omega
  · conv=>rhs;rw [← List.take_append_drop (k+1) l,thsN_append]
    omega
theorem places_any (P:Pr) (B:Nat) (w:World) (hI:PIn w B P) (hBw:B≤w.heap.size) (hN:placesN P≤1000000) :
    Calls Tryz.prog 61 #[.agg #[P.e.rv,P.e.sv,P.e.fv,P.tv]] w fun e w'=>e = .returned (.int .i64 (placesN P:Int))∧Below w.heap.size w w':=by
  obtain⟨C,hC⟩:∃ C,C=placesN P:=⟨_,rfl⟩
  have hCC:=hC
  unfold placesN at hC
  rw [← hCC] at hN ⊢
  clear hCC
  obtain⟨ro,rc,er,hrl,-⟩:=hI.e.rlies.form
  obtain⟨so,sc,es,hsl,-⟩:=hI.e.slies.form
  obtain⟨fo,fc,ef,hfl,hfg⟩:=hI.e.flies.form
  obtain⟨to,tc,et,htl,htg⟩:=hI.tlies.form
  have HFL:=hid hI.e.flies
  have HFI:=hid hI.e.funcs
  have HTL:=hid hI.tlies
  have HTI:=hid hI.threads
  clear hI
  obtain⟨⟨rv,rs,sv,ss,fv,fs⟩,tv,ts⟩:=P
  simp only at *
  subst er es ef et
  obtain⟨N1,hN1⟩:∃ N,N=rs.length:=⟨_,rfl⟩
  obtain⟨N2,hN2⟩:∃ N,N=ss.length:=⟨_,rfl⟩
  obtain⟨N3,hN3⟩:∃ N,N=fs.length:=⟨_,rfl⟩
  obtain⟨N4,hN4⟩:∃ N,N=ts.length:=⟨_,rfl⟩
  rw [← hN1,← hN2,← hN3,← hN4] at hC
  rw [← hN1,← hN2,← hN3,← hN4]
  rw [← hN1] at hrl
  rw [← hN2] at hsl
  rw [← hN3] at hfl hfg HFL
  rw [← hN4] at htl htg HTL
  have hb:N1+N2+N3+N4≤1000000:=by omega
  obtain⟨W0,hW0⟩:∃ W0,W0=w.alloc (.cells #[.slice ro N1 rc,.slice so N2 sc,.slice fo N3 fc,.slice to N4 tc] 27):=⟨_,rfl⟩
  have hB0:Below w.heap.size w W0:=by rw [hW0];exact below_box w _
  have hlt0:w.heap.size+1=W0.heap.size:=by rw [hW0];simp
  have hO:W0.heap[w.heap.size]? = some (.cells #[.slice ro N1 rc,.slice so N2 sc,.slice fo N3 fc,.slice to N4 tc] 27 (0,0)):=by rw [hW0];exact (MapKept.heap_alloc _ _).1
  obtain⟨q0,q1,q2,q3⟩:=cells_prog _ _ _ _ hO
  rw [hW0] at q0 q1 q2 q3
  have HC:=hid hC
  have HN3:=hid hN3
  have HN4:=hid hN4
  have HG3:=hid hfg
  have HG4:=hid htg
  have HB0:=hid hB0
  have HZ0:=hid hlt0
  have HO:=hid hO
  have HW0:=hid hW0
  clear hC hN1 hN2 hN3 hN4 hfg htg hB0 hlt0 hO hW0
  go_enter Tryz.func61,Tryz.ntmps61
  go_wp2_with fail
  rw [← HW0.out]
  clear q0 q1 q2 q3
  go_loopw [26,3] (fun q m wr=>∃ k:Nat,k≤N3∧q = .int .i64 k∧∃ n:Nat,m = .int .i64 n∧Hid (n=N1+N2+N3+N4+fnsN (fs.take k))∧Below W0.heap.size W0 wr) (fun q _ _=>N3 - (intOf q).toNat)
  case atStart=>exact⟨0,by omega,rfl,N1+N2+N3+N4,by push_cast;rfl,hid (by simp [fnsN]),Below.refl _ _⟩
  case round =>
    obtain⟨k,hkN,rfl,n,rfl,HK,hB⟩:=hrel
    have hsr:=hB.size
    have hBw':Below w.heap.size w wr:=HB0.out.trans (hB.mono (by have:=HZ0.out;omega))
    by_cases hlt2:k < N3
    · obtain⟨g,off,rfl,hg⟩:=HG3.out (by omega)
      have hka:k < fs.length:=by rw [← HN3.out];exact hlt2
      obtain⟨a,haa⟩:∃ r,fs[k]? = some r:=⟨_,List.getElem?_eq_getElem hka⟩
      have hga:fs[k] = a:=(List.getElem?_eq_some_iff.1 haa).2
      have hat:=((HFL.out.below (hBw'.mono hBw)).at rfl k hka).2
      have ha:=HFI.out a (List.mem_of_getElem? haa)
      have hT:=fnsN_take fs k hka
      rw [hga] at hat hT
      obtain⟨p0,p1,p2,p3,p4,p5⟩:=cells6 hat
      obtain⟨po,pc,ep,-⟩:=ha.lies.form
      obtain⟨bo,bc,eb,-⟩:=ha.blies.form
      rw [ep] at p1
      rw [eb] at p5
      have hb5:=below_box wr (.cells #[.string a.name,.slice po a.params.length pc,.int .u8 a.res.k,.string a.res.n,.int .i64 a.res.z,.slice bo a.body.length bc] 33)
      obtain⟨W5,hW5⟩:∃ W5,W5=wr.alloc (.cells #[.string a.name,.slice po a.params.length pc,.int .u8 a.res.k,.string a.res.n,.int .i64 a.res.z,.slice bo a.body.length bc] 33):=⟨_,rfl⟩
      have hO5:W5.heap[wr.heap.size]? = some (.cells #[.string a.name,.slice po a.params.length pc,.int .u8 a.res.k,.string a.res.n,.int .i64 a.res.z,.slice bo a.body.length bc] 33 (0,0)):=by rw [hW5];exact (MapKept.heap_alloc _ _).1
      rw [← hW5] at hb5
      have b5:W5.cell? ⟨wr.heap.size,5,none⟩ = some (.slice bo a.body.length bc):=by rw [Lib.cell_of_heap hO5];rfl
      rw [hW5] at b5
      have hw5:=hBw'.trans (hb5.mono hBw'.size)
      have hPL:=places_list a.body B a.bv W5 (ha.blies.below (hw5.mono hBw)) (fun x hx=>SIn.keeps (hw5.mono hBw) _ (ha.body x hx)) (by have:=hw5.size;omega) (by have:=HC.out;omega)
      rw [eb] at hPL
      have HPL:=hid hPL
      have HT:=hid hT
      have HW5:=hid hW5
      have HB5:=hid (hB.trans (hb5.mono hsr))
      have hgs:g < wr.heap.size:=by have:=hBw'.size;omega
      have hsm:n+St.counts a.body≤1000000:=by have:=HC.out;have:=HK.out;omega
      have hs5:W0.heap.size≤W5.heap.size:=HB5.out.size
      clear haa hka hga hat ha hT ep eb hb5 hO5 hw5 hPL hW5 hB hBw'
      go_wp2_with fail
      rw [← HW5.out]
      refine HPL.out.mono ?_;rintro e' w6 ⟨rfl,hb6⟩
      have HB6:=hid (HB5.out.trans (hb6.mono hs5))
      clear hb6 p0 p1 p2 p3 p4 p5 b5
      go_wp2_with fail
      go_roundw
      case rel=>exact⟨k+1,by omega,by go_num,n+St.counts a.body,by go_num,hid (by have:=HK.out;have:=HT.out;omega),HB6.out⟩
      case measure=>simp [intOf];omega
    · have HK2:=hid (show n=N1+N2+N3+N4+fnsN fs by
        have:=HK.out
        rwa [List.take_of_length_le (by rw [← HN3.out];omega)] at this)
      have hOr:=(hB.block w.heap.size (by have:=HZ0.out;omega)).trans HO.out
      obtain⟨q0,q1,q2,q3⟩:=cells_prog _ _ _ _ hOr
      have HB2:=hid hB
      have hn2:n≤1000000:=by have:=HK2.out;have:=HC.out;omega
      clear hOr hB hBw'
      go_wp2_with fail
      clear q0 q1 q2 q3
      rename_i wq
      go_loopw [39,3] (fun q m wr=>∃ k:Nat,k≤N4∧q = .int .i64 k∧∃ n:Nat,m = .int .i64 n∧Hid (n=N1+N2+N3+N4+fnsN fs+thsN (ts.take k))∧Below W0.heap.size W0 wr) (fun q _ _=>N4 - (intOf q).toNat)
      case atStart=>exact⟨0,by omega,rfl,n,rfl,hid (by rw [HK2.out];simp [thsN]),HB2.out⟩
      case round =>
        obtain⟨k,hkN,rfl,n,rfl,HK,hB⟩:=hrel
        have hsr:=hB.size
        have hBw':Below w.heap.size w wr:=HB0.out.trans (hB.mono (by have:=HZ0.out;omega))
        by_cases hlt2:k < N4
        · obtain⟨g,off,rfl,hg⟩:=HG4.out (by omega)
          have hka:k < ts.length:=by rw [← HN4.out];exact hlt2
          obtain⟨a,haa⟩:∃ r,ts[k]? = some r:=⟨_,List.getElem?_eq_getElem hka⟩
          have hga:ts[k] = a:=(List.getElem?_eq_some_iff.1 haa).2
          have hat:=((HTL.out.below (hBw'.mono hBw)).at rfl k hka).2
          have ha:=HTI.out a (List.mem_of_getElem? haa)
          have hT:=thsN_take ts k hka
          rw [hga] at hat hT
          have p0:wr.cell? ⟨g,off+k * 1,none⟩ = some a.v:=hat 0 a.v rfl
          rw [Nat.mul_one] at p0
          obtain⟨bo,bc,eb,-⟩:=ha.lies.form
          rw [eb] at p0
          have hPL:=places_list a.list B a.v wr (ha.lies.below (hBw'.mono hBw)) (fun x hx=>SIn.keeps (hBw'.mono hBw) _ (ha.list x hx)) (by have:=hBw'.size;omega) (by have:=HC.out;omega)
          rw [eb] at hPL
          have HPL:=hid hPL
          have HT:=hid hT
          have HB5:=hid hB
          have hgs:g < wr.heap.size:=by have:=hBw'.size;omega
          have hsm:n+St.counts a.list≤1000000:=by have:=HC.out;have:=HK.out;omega
          clear haa hka hga hat ha hT eb hPL hB hBw'
          go_wp2_with fail
          refine HPL.out.mono ?_;rintro e' w6 ⟨rfl,hb6⟩
          have HB6:=hid (HB5.out.trans (hb6.mono hsr))
          clear hb6 p0
          go_wp2_with fail
          go_roundw
          case rel=>exact⟨k+1,by omega,by go_num,n+St.counts a.list,by go_num,hid (by have:=HK.out;have:=HT.out;omega),HB6.out⟩
          case measure=>simp [intOf];omega
        · have hn:n=C:=by
            have h1:=HK.out
            have h2:=HC.out
            rw [List.take_of_length_le (by rw [← HN4.out];omega)] at h1
            omega
          subst hn
          have HB9:=hid hBw'
          clear hB hBw'
          go_wp2_with fail
          go_ret
          exact⟨rfl,HB9.out⟩
end Go.Proofs.YtdhieihcmnpneaaGreatDoor
