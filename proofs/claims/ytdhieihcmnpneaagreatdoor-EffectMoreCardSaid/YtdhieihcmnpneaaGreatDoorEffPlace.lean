/- The place of a function, as package effect counts it; and the finder of the first place where something is wrong. -/
import Derived.Test.YtdhieihcmnpneaaGreatDoorRows
import Derived.Test.YtdhieihcmnpneaaGreatDoorTypWt
import Derived.Test.YtdhieihcmnpneaaGreatDoorEffFirst
import Derived.Test.YtdhieihcmnpneaaGreatDoorGPlaces
import Derived.Test.YtdhieihcmnpneaaGreatDoorGTw
namespace Go.Proofs.YtdhieihcmnpneaaGreatDoor
set_option maxHeartbeats 4000000
open Go.RowKit
set_option maxRecDepth 100000
attribute [local go_sem ↓] bld_eq
theorem liesE_take {α:Type} {cells:α→List Value} {k:Nat} {w:World} {B g off n c:Nat} {l:List α} (h:LiesG cells k w B (.slice (some ⟨g,off,none⟩) n c) l) (j c':Nat) (hj:j≤l.length):LiesG cells k w B (.slice (some ⟨g,off,none⟩) j c') (l.take j):=by
  obtain⟨ao,cap,e,hl,hc⟩:=h
  injection e with e1 e2 e3
  have hlen:(l.take j).length=j:=by rw [List.length_take];omega
  refine⟨some ⟨g,off,none⟩,c',by rw [hlen],by rw [hlen];omega, ?_⟩
  rcases hc with hc|⟨g2,off2,e4,hg,hc⟩
  · subst hc;left;simp
  · rw [← e1] at e4
    cases e4
    refine .inr ⟨g,off,rfl,hg,fun i x hx=>hc i x ?_⟩
    rw [List.getElem?_take] at hx
    split at hx
    · exact hx
    · cases hx
theorem fnsN_le (l:List Fn) (i:Nat):fnsN (l.take i)≤fnsN l:=by
  conv=>rhs;rw [← List.take_append_drop i l,fnsN_append]
  omega
def CapF (P:Pr):Prop:=∃ ao n c,P.e.fv = .slice ao n c∧n≤c∧c≤9223372036854775807
@[irreducible] noncomputable def sli (t:TypeId) (x:Value) (lo hi mx:Option Value):Sem Value:=Instr.slice t x lo hi mx
theorem sli_eq (t:TypeId) (x:Value) (lo hi mx:Option Value):Instr.slice t x lo hi mx=sli t x lo hi mx:=by unfold sli;rfl
attribute [local go_sem ↓] sli_eq
theorem slice_front (fo:Option Addr) (N c i:Nat) (hi:i≤c) (_hc:c≤9223372036854775807):∃ so2,(∀ W,(sli 24 (.slice fo N c) none (some (.int .i64 (i:Int))) none).run Tryz.prog W = .ok (.slice so2 i c) W)∧∀ g off,fo=some ⟨g,off,none⟩ → so2=some ⟨g,off,none⟩:=by
  have hb:∀ W,(Instr.sliceBounds true N c none (some (.int .i64 (i:Int))) none).run Tryz.prog W = .ok (0,i,c) W:=fun W=>by
    have h:=run_sliceBound (P:=Tryz.prog) W .i64 (i:Int) c .sliceAcap (by omega) (by omega)
    simp [Instr.sliceBounds,h,Result.andThen]
  have hs:∀ W,(sizeOf 33).run Tryz.prog W = .ok 6 W:=fun W=>by kernel_rfl
  refine⟨if c=0 then fo else fo.map (·.add (0 * 6)),fun W=>?_,fun g off h=>?_⟩
  · unfold sli
    simp only [Instr.slice,Sem.run_bind,run_underlying Tryz.underlying24,Result.andThen,hb W,hs W]
    simp
  · subst h
    split
    · rfl
    · simp [Addr.add]
theorem place_of (P:Pr) (i B:Nat) (w:World) (hBw:B≤w.heap.size) (hI:PIn w B P) (hi:i≤P.e.funcs.length) (hcap:CapF P) (hN:placesN P≤1000000) :
    Calls Tryz.prog 29 #[.agg #[P.e.rv,P.e.sv,P.e.fv,P.tv],.int .i64 (i:Int)] w fun x w'=>x = .returned (.int .i64 (placeF P i:Int))∧Below w.heap.size w w':=by
  obtain⟨fo,fc,ef,hfl,hfg⟩:=hI.e.flies.form
  have hflies:=hI.e.flies
  rw [ef] at hflies
  have hfc:P.e.funcs.length≤fc∧fc≤9223372036854775807:=by
    obtain⟨ao,n,c,e,h1,h2⟩:=hcap
    rw [ef] at e
    injection e with e1 e2 e3
    omega
  obtain⟨W1,hW1⟩:∃ W1,W1=w.alloc (.cells #[P.e.rv,P.e.sv,P.e.fv,P.tv] 27):=⟨_,rfl⟩
  have hb1:Below w.heap.size w W1:=by rw [hW1];exact below_box w _
  have hz1:W1.heap.size=w.heap.size+1:=by rw [hW1];simp
  have hO1:W1.heap[w.heap.size]? = some (.cells #[P.e.rv,P.e.sv,P.e.fv,P.tv] 27 (0,0)):=by rw [hW1];exact (MapKept.heap_alloc _ _).1
  obtain⟨so2,hsl,hso⟩:=slice_front fo P.e.funcs.length fc i (by omega) hfc.2
  obtain⟨n,hn⟩:∃ n,n=placeF P i:=⟨_,rfl⟩
  have hQ:PIn w B ⟨⟨P.e.rv,P.e.records,P.e.sv,P.e.shared,.slice so2 i fc,P.e.funcs.take i⟩,.slice none 0 0,[]⟩:=by
    refine⟨⟨hI.e.rlies,hI.e.records,hI.e.slies,hI.e.shared, ?_,fun f hf=>hI.e.funcs f (List.mem_of_mem_take hf)⟩,⟨none,0,rfl,by simp,.inl rfl⟩,fun t ht=>by cases ht⟩
    by_cases h0:i=0
    · subst h0
      exact⟨so2,fc,by simp,by simp,.inl (by simp)⟩
    · obtain⟨g,off,e,_⟩:=hfg (by omega)
      rw [hso g off e]
      rw [e] at hflies
      exact liesE_take hflies i fc hi
  have hpn:placesN ⟨⟨P.e.rv,P.e.records,P.e.sv,P.e.shared,.slice so2 i fc,P.e.funcs.take i⟩,.slice none 0 0,[]⟩ = n:=by
    rw [hn];unfold placesN placeF;simp [thsN]
  have hle:n≤1000000:=by
    rw [hn];unfold placeF
    unfold placesN at hN
    have h1:(P.e.funcs.take i).length≤P.e.funcs.length:=by rw [List.length_take];omega
    have h2:=fnsN_le P.e.funcs i
    omega
  have hpl:=fun (u:World) (hu:Below W1.heap.size W1 u)=>places_any _ B u ((hQ.keeps (hb1.mono hBw)).keeps (hu.mono (by omega))) (by have:=hu.size;omega) (by rw [hpn];exact hle)
  simp only [hpn] at hpl
  rw [← hn]
  obtain⟨ro,rc,hrv,-⟩:=hI.e.rlies.form
  obtain⟨so,sc,hsv,-⟩:=hI.e.slies.form
  obtain⟨N1,hN1⟩:∃ N,N=P.e.records.length:=⟨_,rfl⟩
  obtain⟨N2,hN2⟩:∃ N,N=P.e.shared.length:=⟨_,rfl⟩
  rw [← hN1] at hrv
  rw [← hN2] at hsv
  obtain⟨tv,htv⟩:∃ v,v=P.tv:=⟨_,rfl⟩
  rw [ef,hrv,hsv,← htv] at hW1 hO1 ⊢
  rw [hrv,hsv] at hpl
  obtain⟨N3,hN3⟩:∃ N,N=P.e.funcs.length:=⟨_,rfl⟩
  rw [← hN3] at hW1 hO1 hsl ⊢
  obtain⟨q0,q1,q2,q3⟩:=cells_prog _ _ _ _ hO1
  have hbld:=bld_of 27 #[(0,.slice ro N1 rc),(1,.slice so N2 sc),(2,.slice so2 i fc)] #[.slice ro N1 rc,.slice so N2 sc,.slice so2 i fc,.slice none 0 0] (by kernel_rfl)
  have HPL:=Lib.hid hpl
  have HB1:=Lib.hid hb1
  have HW1:=Lib.hid hW1
  clear hN1 hN2 hI hcap hN hfg hflies hfc hb1 hO1 hW1 hso hn hQ hpn hle hpl hrv hsv htv ef hN3 hfl hi
  go_enter Tryz.func29,Tryz.ntmps29
  go_wp2_with fail
  rw [← HW1.out]
  refine wp_region_held_drew (S:=SameTo (W1.heap.size) W1) (by kernel_rfl) (SameTo.drew _ _) (fun hSw=>?_)
  refine wt (i:=0) (oi:={ dst:=some 5,op:=Op.fieldAddr 27 (Operand.tmp 2) 0,type:=0,pos := "effect.go:38", after:=#[],guard:=none }) (v:=.pointer (some ⟨w.heap.size,0,none⟩)) (fun W hW=>?_) hSw ?_
  · first|(go_simp;done)|rfl
  try simp only [Act.put]
  refine wt (i:=1) (oi:={ dst:=some 6,op:=Op.load 22 (Operand.tmp 5),type:=22,pos := "effect.go:38", after:=#[gd 0],guard:=none }) (v:=.slice ro N1 rc) (fun W hW=>?_) hSw ?_
  · have q0:=hW.cell (by dsimp only;omega) q0
    first|(go_simp;done)|rfl
  try simp only [Act.put]
  refine wt (i:=2) (oi:={ dst:=some 7,op:=Op.fieldAddr 27 (Operand.tmp 2) 1,type:=0,pos := "effect.go:38", after:=#[],guard:=none }) (v:=.pointer (some ⟨w.heap.size,1,none⟩)) (fun W hW=>?_) hSw ?_
  · first|(go_simp;done)|rfl
  try simp only [Act.put]
  refine wt (i:=3) (oi:={ dst:=some 8,op:=Op.load 23 (Operand.tmp 7),type:=23,pos := "effect.go:38", after:=#[gd 2],guard:=none }) (v:=.slice so N2 sc) (fun W hW=>?_) hSw ?_
  · have q1:=hW.cell (by dsimp only;omega) q1
    first|(go_simp;done)|rfl
  try simp only [Act.put]
  refine wt (i:=4) (oi:={ dst:=some 9,op:=Op.fieldAddr 27 (Operand.tmp 2) 2,type:=0,pos := "effect.go:38", after:=#[],guard:=none }) (v:=.pointer (some ⟨w.heap.size,2,none⟩)) (fun W hW=>?_) hSw ?_
  · first|(go_simp;done)|rfl
  try simp only [Act.put]
  refine wt (i:=5) (oi:={ dst:=some 10,op:=Op.load 24 (Operand.tmp 9),type:=24,pos := "effect.go:38", after:=#[gd 4],guard:=none }) (v:=.slice fo N3 fc) (fun W hW=>?_) hSw ?_
  · have q2:=hW.cell (by dsimp only;omega) q2
    first|(go_simp;done)|rfl
  try simp only [Act.put]
  refine wt (i:=6) (oi:={ dst:=some 11,op:=Op.move (Operand.tmp 1),type:=3,pos := "effect.go:38", after:=#[],guard:=none }) (v:=.int .i64 (i:Int)) (fun W hW=>?_) hSw ?_
  · first|(go_simp;done)|rfl
  try simp only [Act.put]
  refine wt (i:=7) (oi:={ dst:=some 12,op:=Op.slice 24 (Operand.tmp 10) none (some (Operand.tmp 11)) none,type:=24,pos := "effect.go:38", after:=#[gd 5,gd 6],guard:=none }) (v:=.slice so2 i fc) (fun W hW=>?_) hSw ?_
  · (have hs:=hsl W;go_simp)
  try simp only [Act.put]
  refine wt (i:=8) (oi:={ dst:=some 13,op:=Op.build 27 #[(0,Operand.tmp 6),(1,Operand.tmp 8),(2,Operand.tmp 12)],type:=27,pos := "effect.go:38", after:=#[gd 1,gd 3,gd 7],guard:=none }) (v:=.agg #[.slice ro N1 rc,.slice so N2 sc,.slice so2 i fc,.slice none 0 0]) (fun W hW=>?_) hSw ?_
  · (have hb:=hbld W;go_simp)
  try simp only [Act.put]
  refine wpAnyH_ready (rs:=[9]) (by kernel_rfl) (by simp) ?_
  refine AllReadyH.cons (o:={ dst:=some 14,op:=Op.call { callee:=Callee.value (Operand.func 61),args:=#[Operand.tmp 13],argTypes:=#[27] },type:=3,pos := "effect.go:38", after:=#[gd 8],guard:=none }) rfl (fun K hK=>?_) AllReadyH.nil
  rw [if_pos (by rfl)]
  clear hSw
  go_simp
  refine (HPL.out W1.drew (Below.refl W1.heap.size W1).drew).mono ?_;rintro z w2 ⟨rfl,hb2⟩
  have HB2:=Lib.hid hb2
  clear hb2
  refine hK.out _ _ (SameTo.of (have q:=HB2.out;⟨q.os,q.tape,q.output,q.size,q.block⟩)) (fun hSw=>?_)
  clear hK K
  try simp only [Act.put,q1,q2,q3]
  refine wt (i:=10) (oi:={ dst:=some 4,op:=Op.assign (Operand.tmp 14),type:=3,pos := "effect.go:38", after:=#[gd 9,gc 9,gp 0,gp 1,gp 2,gp 3,gp 4,gp 5,gp 6,gp 7,gp 8,gp 9],guard:=none }) (v:=.int .i64 (n:Int)) (fun W hW=>?_) hSw ?_
  · first|(go_simp;done)|rfl
  try simp only [Act.put]
  refine wpAnyH_done (by kernel_rfl) ?_ _
  go_wp2_with fail
  go_ret
  exact⟨rfl,HB1.out.trans ((((Below.refl W1.heap.size W1).drew).trans (have q:=HB2.out;⟨q.os,q.tape,q.output,q.size,q.block⟩)).mono (by omega))⟩
end Go.Proofs.YtdhieihcmnpneaaGreatDoor
