/- What the types layer's deferred function literal does, and how it catches what its checker gives up with. -/
import Derived.Test.YtdhieihcmnpneaaGreatDoorRows
import Derived.Test.YtdhieihcmnpneaaGreatDoorTypWt
import Derived.Test.YtdhieihcmnpneaaGreatDoorTypCk
import Derived.Test.YtdhieihcmnpneaaGreatDoorTypProg
import Derived.Test.YtdhieihcmnpneaaGreatDoorGShow
namespace Go.Proofs.YtdhieihcmnpneaaGreatDoor
open Lib (hid)
set_option maxHeartbeats 2000000
set_option maxRecDepth 100000
open Go.RowKit
def Fc (n:Nat) (r k:Int) (W:World):Prop:=W.cell? ⟨n,0,none⟩ = some (.int .i64 r)∧W.cell? ⟨n,1,none⟩ = some (.int .i64 k)
theorem tcatch_panicking (a b:Nat) (r k x y:Int) (older:List PanicEntry) (w:World) (hab:a ≠ b) (hc:w.cell? ⟨a,0,none⟩ = some (.int .i64 x)) (hz:w.frozen? ⟨a,0,none⟩ = false) (hd:w.cell? ⟨b,0,none⟩ = some (.int .i64 y)) (hy:w.frozen? ⟨b,0,none⟩ = false) :
    CallsD Tryz.prog 46 #[.pointer (some ⟨a,0,none⟩),.pointer (some ⟨b,0,none⟩)] (.panicking ({ v:=.iface 101 (.agg #[.int .i64 r,.int .i64 k]),recovered:=false } :: older)) w fun e u' w' =>
      e = .returned (.tuple #[])∧u' = .panicking ({ v:=.iface 101 (.agg #[.int .i64 r,.int .i64 k]),recovered:=true } :: older)∧w'=((w.alloc (.cells #[.int .i64 r,.int .i64 k] 101)).drew.setCell ⟨a,0,none⟩ (.int .i64 r)).setCell ⟨b,0,none⟩ (.int .i64 k):=by
  have hta:∀ W:World,(Instr.typeAssert (.iface 101 (.agg #[.int .i64 r,.int .i64 k])) 20 101 true).run Tryz.prog W = .ok (.tuple #[.agg #[.int .i64 r,.int .i64 k],.bool true]) W:=fun _=>by kernel_rfl
  have hlt:a < w.heap.size:=World.block_lt_of_cell? w _ hc
  have hlt2:b < w.heap.size:=World.block_lt_of_cell? w _ hd
  obtain⟨W1,hW1⟩:∃ W1,W1=(w.alloc (.cells #[.int .i64 r,.int .i64 k] 101)):=⟨_,rfl⟩
  have hn:W1.heap[w.heap.size]? = some (.cells #[.int .i64 r,.int .i64 k] 101 (0,0)):=by rw [hW1];exact (MapKept.heap_alloc _ _).1
  have hc':W1.cell? ⟨a,0,none⟩ = some (.int .i64 x):=by rw [hW1];exact (World.cell?_alloc_lt _ _ _ hlt).trans hc
  have hz':W1.frozen? ⟨a,0,none⟩ = false:=by rw [World.frozen?_of_block (w:=w) (by rw [hW1];exact Below.heap_alloc _ _ _ hlt)];exact hz
  have hd':W1.cell? ⟨b,0,none⟩ = some (.int .i64 y):=by rw [hW1];exact (World.cell?_alloc_lt _ _ _ hlt2).trans hd
  have hy':W1.frozen? ⟨b,0,none⟩ = false:=by rw [World.frozen?_of_block (w:=w) (by rw [hW1];exact Below.heap_alloc _ _ _ hlt2)];exact hy
  have fcOf:∀ W:World,W.heap[w.heap.size]? = W1.heap[w.heap.size]? → Fc w.heap.size r k W:=fun W h=>⟨by rw [Lib.cell_of_heap (h.trans hn)];rfl,by rw [Lib.cell_of_heap (h.trans hn)];rfl⟩
  have hS0:Fc w.heap.size r k W1:=fcOf _ rfl
  have hS1:Fc w.heap.size r k (W1.drew.setCell ⟨a,0,none⟩ (.int .i64 r)):=fcOf _ (by rw [Below.heap_setCell _ _ _ _ (by show w.heap.size ≠ a;omega)];rfl)
  have hS2:Fc w.heap.size r k ((W1.drew.setCell ⟨a,0,none⟩ (.int .i64 r)).setCell ⟨b,0,none⟩ (.int .i64 k)):=fcOf _ (by rw [Below.heap_setCell _ _ _ _ (by show w.heap.size ≠ b;omega),Below.heap_setCell _ _ _ _ (by show w.heap.size ≠ a;omega)];rfl)
  have HW1:=hid hW1
  clear fcOf hn hW1
  refine callsD_of_wpS Tryz.func46 rfl fun c₀ cs hu=>?_
  have hfr:(#[Value.pointer (some ⟨a,0,none⟩),Value.pointer (some ⟨b,0,none⟩)] ++ Array.replicate (Tryz.f46.ntmps - #[Value.pointer (some ⟨a,0,none⟩),Value.pointer (some ⟨b,0,none⟩)].size) undef)=#[.pointer (some ⟨a,0,none⟩),.pointer (some ⟨b,0,none⟩),undef,undef,undef,undef,undef,undef,undef,undef,undef,undef,undef,undef,undef,undef,undef,undef,undef,undef]:=by rfl
  rw [hfr]
  clear hfr
  apply wpS_seq
  apply wpS_region
  simp [wpOpsS,go_sem,recoverD,hu,Exit.thenS]
  apply wpS_seq
  apply wpS_seq
  apply wpS_region
  simp [wpOpsS,go_sem,Exit.thenS]
  refine wpS_cond (t:=false) (by simp [Act.eval]) ?_
  simp only [Bool.false_eq_true,if_false]
  refine wpS_of_wp (wp_skip ?_)
  simp only [Exit.thenS]
  apply wpS_seq
  apply wpS_region
  simp [wpOpsS,go_sem,Exit.thenS,hta]
  rw [← HW1.out]
  apply wpS_seq
  apply wpS_seq
  apply wpS_region
  simp [wpOpsS,go_sem,Exit.thenS]
  refine wpS_cond (t:=false) (by simp [Act.eval]) ?_
  simp only [Bool.false_eq_true,if_false]
  refine wpS_of_wp (wp_skip ?_)
  simp only [Exit.thenS]
  refine wpS_of_wp ?_
  refine wp_region_held_drew (S:=Fc w.heap.size r k) (by kernel_rfl) hS0 (fun hSw=>?_)
  refine wt (i:=0) (oi:={ dst:=some 16,op:=Op.fieldAddr 101 (Operand.tmp 3) 0,type:=0,pos := "check.go:23", after:=#[],guard:=none }) (v:=.pointer (some ⟨w.heap.size,0,none⟩)) (fun W hW=>?_) hSw ?_
  · first|(go_simp;done)|rfl
  try simp only [Act.put,q1,q2,q3]
  refine wt (i:=1) (oi:={ dst:=some 17,op:=Op.load 3 (Operand.tmp 16),type:=3,pos := "check.go:23", after:=#[gd 0],guard:=none }) (v:=.int .i64 r) (fun W hW=>?_) hSw ?_
  · obtain⟨s0,s1⟩:=hW
    first|(go_simp;done)|rfl
  try simp only [Act.put,q1,q2,q3]
  refine wt (i:=2) (oi:={ dst:=some 18,op:=Op.fieldAddr 101 (Operand.tmp 3) 1,type:=0,pos := "check.go:23", after:=#[{ on:=4,ground:=Ground.gcOnly Departure.lateStores }],guard:=none }) (v:=.pointer (some ⟨w.heap.size,1,none⟩)) (fun W hW=>?_) hSw ?_
  · first|(go_simp;done)|rfl
  try simp only [Act.put,q1,q2,q3]
  refine wt (i:=3) (oi:={ dst:=some 19,op:=Op.load 37 (Operand.tmp 18),type:=37,pos := "check.go:23", after:=#[gd 2,{ on:=4,ground:=Ground.gcOnly Departure.lateStores }],guard:=none }) (v:=.int .i64 k) (fun W hW=>?_) hSw ?_
  · obtain⟨s0,s1⟩:=hW
    first|(go_simp;done)|rfl
  try simp only [Act.put,q1,q2,q3]
  refine wpAnyH_ready (rs:=[4]) (by kernel_rfl) (by simp) ?_
  refine AllReadyH.cons (o:={ dst:=none,op:=Op.store 3 (Operand.tmp 0) (Operand.tmp 17),type:=0,pos := "check.go:23", after:=#[gd 1,gp 0,gp 1,{ on:=2,ground:=Ground.textOnly Departure.lateStores },{ on:=3,ground:=Ground.textOnly Departure.lateStores }],guard:=none }) rfl (fun K hK=>?_) AllReadyH.nil
  rw [if_pos (by rfl)]
  clear hSw
  go_simp
  skip
  refine hK.out _ _ (hS1) (fun hSw=>?_)
  clear hK K
  try simp only [Act.put,q1,q2,q3]
  refine wpAnyH_ready (rs:=[5]) (by kernel_rfl) (by simp) ?_
  refine AllReadyH.cons (o:={ dst:=none,op:=Op.store 37 (Operand.tmp 1) (Operand.tmp 19),type:=0,pos := "check.go:23", after:=#[gd 3,gc 4,gp 0,gp 1,gp 2,gp 3,gp 4],guard:=none }) rfl (fun K hK=>?_) AllReadyH.nil
  rw [if_pos (by rfl)]
  clear hSw
  go_simp
  skip
  refine hK.out _ _ (hS2) (fun hSw=>?_)
  clear hK K
  try simp only [Act.put,q1,q2,q3]
  refine wpAnyH_done (by kernel_rfl) ?_ _
  cases c₀
  have hW1:=HW1.out
  clear HW1 hc' hz' hd' hy' hS0 hS1 hS2
  subst hW1
  simp_all [bodyPostS,results,Tryz.results46]
theorem tcatch_idle (p q:Addr) (w:World) :
    CallsD Tryz.prog 46 #[.pointer (some p),.pointer (some q)] .returning w fun e u' w'=>e = .returned (.tuple #[])∧u' = .returning∧w'=w:=by
  refine callsD_of_wpS Tryz.func46 rfl fun c₀ cs hu=>?_
  apply wpS_seq
  apply wpS_region
  simp [wpOpsS,go_sem,recoverD,hu,Tryz.ntmps46,Exit.thenS]
  apply wpS_seq
  apply wpS_seq
  apply wpS_region
  simp [wpOpsS,go_sem,Exit.thenS]
  refine wpS_cond (t:=true) (by simp [Act.eval,Array.replicate]) ?_
  simp only [if_true]
  refine wpS_of_wp (wp_ret ?_)
  cases c₀
  simp_all [bodyPostS,results,Tryz.results46,Exit.thenS]
end Go.Proofs.YtdhieihcmnpneaaGreatDoor
/- How the types layer catches what its checker gives up with. -/
namespace Go.Proofs.YtdhieihcmnpneaaGreatDoor
open Lib (hid)
set_option maxHeartbeats 2000000
open Go.RowKit
def EndsT (r:Except (Int × Int) Int) (w:World) (e:Ending) (w':World):Prop:=
  Below w.heap.size w w'∧(∀ q,r = .ok q→e = .returned (.tuple #[]))∧(∀ q,r = .error q→e = .panicked (ft q.1 q.2))
def tellT (r:Except (Int × Int) Int):Int × Int:=match r with
  | .error k=>k
  | .ok _=>(0,0)
theorem tcaught_any (p:Addr) (r:Except (Int × Int) Int) (w:World) (h:Calls Tryz.prog 25 #[.pointer (some p)] ((w.alloc (.cells #[.int .i64 0] 3)).alloc (.cells #[.int .i64 0] 37)) (EndsT r ((w.alloc (.cells #[.int .i64 0] 3)).alloc (.cells #[.int .i64 0] 37)))) :
    Calls Tryz.prog 24 #[.func (.func 25) #[] #[.pointer (some p)]] w fun e w'=>e = .returned (.tuple #[.int .i64 (tellT r).1,.int .i64 (tellT r).2])∧Below w.heap.size w w':=by
  have hmf:∀ (fn:Go.Fn) (first cap:Array Value) (w:World),(Instr.makeFunc fn first cap).run Tryz.prog w = .ok (.func fn first cap) w:=fun _ _ _ _=>rfl
  have H:=hid h
  have hB1:=below_box w (.cells #[.int .i64 0] 3)
  have hB2:=below_box (w.alloc (.cells #[.int .i64 0] 3)) (.cells #[.int .i64 0] 37)
  have HB0:=hid (hB1.trans (hB2.mono hB1.size))
  have HOa:=hid (show ((w.alloc (.cells #[.int .i64 0] 3)).alloc (.cells #[.int .i64 0] 37)).heap[w.heap.size]? = some (.cells #[.int .i64 0] 3 (0,0)) by
    rw [Below.heap_alloc _ _ _ (by simp)];exact (MapKept.heap_alloc _ _).1)
  have HOb:=hid (show ((w.alloc (.cells #[.int .i64 0] 3)).alloc (.cells #[.int .i64 0] 37)).heap[w.heap.size+1]? = some (.cells #[.int .i64 0] 37 (0,0)) by
    have:=(MapKept.heap_alloc (w.alloc (.cells #[.int .i64 0] 3)) (.cells #[.int .i64 0] 37)).1
    simpa using this)
  clear h hB1 hB2
  obtain⟨W2,hW2⟩:∃ W2,W2=(w.alloc (.cells #[.int .i64 0] 3)).alloc (.cells #[.int .i64 0] 37):=⟨_,rfl⟩
  have hsz:W2.heap.size=w.heap.size+2:=by rw [hW2];simp
  rw [← hW2] at H HB0 HOa HOb
  have HW2:=hid hW2
  cases r with
  | ok q =>
    show Calls _ _ _ _ fun e w'=>e = .returned (.tuple #[.int .i64 0,.int .i64 0])∧_
    clear hW2
    go_enter_defers Tryz.func24,Tryz.ntmps24
    go_wp2_with fail
    rw [← HW2.out]
    refine H.out.mono ?_;rintro e w2 ⟨hb2,hy,-⟩;obtain rfl:=hy q rfl
    have hOa:=(hb2.block _ (by omega)).trans HOa.out
    have hOb:=(hb2.block _ (by omega)).trans HOb.out
    have c0:w2.cell? ⟨w.heap.size,0,none⟩ = some (.int .i64 0):=by rw [Lib.cell_of_heap hOa];rfl
    have f0:w2.frozen? ⟨w.heap.size,0,none⟩ = false:=Lib.frozen_of_heap hOa 0
    have c1:w2.cell? ⟨w.heap.size+1,0,none⟩ = some (.int .i64 0):=by rw [Lib.cell_of_heap hOb];rfl
    have f1:w2.frozen? ⟨w.heap.size+1,0,none⟩ = false:=Lib.frozen_of_heap hOb 0
    have HB2:=hid (HB0.out.trans (hb2.mono (by omega)))
    clear hb2 hOa hOb hy
    go_wp2_with fail
    have d0:((w2.setCell ⟨w.heap.size,0,none⟩ (.int .i64 0)).setCell ⟨w.heap.size+1,0,none⟩ (.int .i64 0)).cell? ⟨w.heap.size,0,none⟩ = some (.int .i64 0):=by
      rw [World.cell?,Below.heap_setCell _ _ _ _ (by simp)];exact World.cell?_setCell_same _ _ _ c0
    have d1:((w2.setCell ⟨w.heap.size,0,none⟩ (.int .i64 0)).setCell ⟨w.heap.size+1,0,none⟩ (.int .i64 0)).cell? ⟨w.heap.size+1,0,none⟩ = some (.int .i64 0):=World.cell?_setCell_same _ _ _ (by rw [World.cell?,Below.heap_setCell _ _ _ _ (by simp)];exact c1)
    refine leaves_cons (f:=46) (args:=#[.pointer (some ⟨w.heap.size,0,none⟩),.pointer (some ⟨w.heap.size+1,0,none⟩)]) (by simp) (by simp [go_sem]) ?_
    refine (tcatch_idle ⟨w.heap.size,0,none⟩ ⟨w.heap.size+1,0,none⟩ _).mono ?_
    rintro e u' w'' ⟨rfl,rfl,rfl⟩
    simp [Leaves,settle,results,Tryz.results24,go_sem,d0,d1]
    exact (HB2.out.setCell (p:=⟨w.heap.size,0,none⟩) (Nat.le_refl _) _).setCell (p:=⟨w.heap.size+1,0,none⟩) (Nat.le_succ _) _
  | error q =>
    obtain⟨pl,k⟩:=q
    show Calls _ _ _ _ fun e w'=>e = .returned (.tuple #[.int .i64 pl,.int .i64 k])∧_
    clear hW2
    go_enter_defers Tryz.func24,Tryz.ntmps24
    go_wp2_with fail
    rw [← HW2.out]
    refine H.out.mono ?_;rintro e w2 ⟨hb2,-,hn⟩;obtain rfl:=hn _ rfl
    have hOa:=(hb2.block _ (by omega)).trans HOa.out
    have hOb:=(hb2.block _ (by omega)).trans HOb.out
    have c0:w2.cell? ⟨w.heap.size,0,none⟩ = some (.int .i64 0):=by rw [Lib.cell_of_heap hOa];rfl
    have f0:w2.frozen? ⟨w.heap.size,0,none⟩ = false:=Lib.frozen_of_heap hOa 0
    have c1:w2.cell? ⟨w.heap.size+1,0,none⟩ = some (.int .i64 0):=by rw [Lib.cell_of_heap hOb];rfl
    have f1:w2.frozen? ⟨w.heap.size+1,0,none⟩ = false:=Lib.frozen_of_heap hOb 0
    have HB2:=hid (HB0.out.trans (hb2.mono (by omega)))
    have hs2:=hb2.size
    rw [hsz] at hs2
    clear hb2 hOa hOb hn
    obtain⟨W5,hW5⟩:∃ W5,W5=((w2.alloc (.cells #[.int .i64 pl,.int .i64 k] 101)).drew.setCell ⟨w.heap.size,0,none⟩ (.int .i64 pl)).setCell ⟨w.heap.size+1,0,none⟩ (.int .i64 k):=⟨_,rfl⟩
    have d0:W5.cell? ⟨w.heap.size,0,none⟩ = some (.int .i64 pl):=by
      rw [hW5,World.cell?,Below.heap_setCell _ _ _ _ (by simp)]
      exact World.cell?_setCell_same _ _ _ ((World.cell?_alloc_lt _ _ _ (by show w.heap.size < _;omega)).trans c0)
    have d1:W5.cell? ⟨w.heap.size+1,0,none⟩ = some (.int .i64 k):=by
      rw [hW5]
      refine World.cell?_setCell_same (u:=.int .i64 0) _ _ _ ?_
      rw [World.cell?,Below.heap_setCell _ _ _ _ (by simp)]
      exact (World.cell?_alloc_lt _ _ _ (by show w.heap.size+1 < _;omega)).trans c1
    have HW5:=hid hW5
    clear hW5
    go_wp2_with fail
    refine leaves_cons (f:=46) (args:=#[.pointer (some ⟨w.heap.size,0,none⟩),.pointer (some ⟨w.heap.size+1,0,none⟩)]) (by simp) (by simp [go_sem]) ?_
    refine (tcatch_panicking w.heap.size (w.heap.size+1) pl k 0 0 [] _ (by omega) c0 f0 c1 f1).mono ?_
    rintro e u' w'' ⟨rfl,rfl,hw⟩
    rw [← HW5.out] at hw
    subst hw
    simp [Leaves,settle,results,Tryz.results24,go_sem,d0,d1]
    rw [HW5.out]
    exact ((HB2.out.alloc (by omega) _).drew.setCell (p:=⟨w.heap.size,0,none⟩) (Nat.le_refl _) _).setCell (p:=⟨w.heap.size+1,0,none⟩) (Nat.le_succ _) _
end Go.Proofs.YtdhieihcmnpneaaGreatDoor
/- What package types' Check answers, of any program: its first fault, or nothing (its checker's making is a hypothesis here). -/
namespace Go.Proofs.YtdhieihcmnpneaaGreatDoor
open Lib (hid)
set_option maxHeartbeats 2000000
open Go.RowKit
attribute [local go_sem ↓] Go.wp_at_zero Go.wp_at_succ
def NewCk (P:Pr):Prop:=∀ (B:Nat) (w:World),PIn w B P→B≤w.heap.size →
  Calls Tryz.prog 26 #[.agg #[P.e.rv,P.e.sv,P.e.fv,P.tv]] w fun e w'=>∃ c,e = .returned (.pointer (some ⟨c,0,none⟩))∧w.heap.size≤c∧Tk c P.e P.tv (-1) noT w'∧Below w.heap.size w w'
theorem EndsT.of {c:Nat} {R:Except (Int × Int) Int} {w w1 w':World} {e:Ending} (h:PgE c R w1 e w') (hc:w.heap.size≤c) (hb:Below w.heap.size w w1):EndsT R w e w':=
  ⟨hb.trans (h.1.below hc hb.size),h.2.1,h.2.2⟩
theorem tcheck1_any (P:Pr) (b B:Nat) (w:World) (hN:NewCk P) (h:w.heap[b]? = some (.cells #[P.e.rv,P.e.sv,P.e.fv,P.tv] 27 (0,0))) (hI:PIn w B P) (hBw:B≤w.heap.size)
    (hFf:∀ f ∈ P.e.funcs,∀ a ∈ f.body,FineS a) (hFt:∀ t ∈ P.threads,∀ a ∈ t.list,FineS a) (hNP:placesN P≤1000000) :
    Calls Tryz.prog 25 #[.pointer (some ⟨b,0,none⟩)] w (EndsT (progT P) w):=by
  have hbl:b < w.heap.size:=(Array.getElem?_eq_some_iff.1 h).1
  obtain⟨q0,q1,q2,q3⟩:=cells_prog _ _ _ _ h
  have HN:=hid (hN B w hI hBw)
  have HI:=hid hI
  have HFf:=hid hFf
  have HFt:=hid hFt
  clear hN hI h hFf hFt
  obtain⟨R,hR⟩:∃ R,R=progT P:=⟨_,rfl⟩
  have HR:=hid hR
  rw [← hR]
  clear hR
  go_enter Tryz.func25,Tryz.ntmps25
  go_wp2_with fail
  refine HN.out.mono ?_
  rintro e w1 ⟨c,rfl,hc,hT,hb⟩
  have HX:=hid (check_any P B c noT w1 ⟨hT,by omega,by have:=hb.size;omega,HI.out.e.keeps (hb.mono hBw)⟩ (HI.out.tlies.below (hb.mono hBw)) (fun t ht=>(HI.out.threads t ht).keeps (hb.mono hBw)) HFf.out HFt.out hNP)
  have HB1:=hid hb
  clear hT hb
  go_wp2_with fail
  refine HX.out.mono ?_
  rintro e w2 hq
  rw [← HR.out] at hq
  have hE:=EndsT.of hq hc HB1.out
  cases hr:R with
  | ok q =>
    rw [hr] at hE
    obtain rfl:=hE.2.1 q rfl
    have HE:=hid hE
    clear hq hE
    go_wp2_with fail
    go_end0
    first|exact HE.out|(rw [hr];exact HE.out)
  | error q =>
    rw [hr] at hE
    obtain rfl:=hE.2.2 q rfl
    exact⟨rfl,hE⟩
theorem tcheck_any (P:Pr) (B:Nat) (w:World) (hN:∀ c,chkP P = .ok c→NewCk P) (hBw:B≤w.heap.size) (hI:PIn w B P)
    (hok:∀ c,chkP P = .ok c→(∀ f ∈ P.e.funcs,∀ a ∈ f.body,FineS a)∧(∀ t ∈ P.threads,∀ a ∈ t.list,FineS a)∧placesN P≤1000000) :
    Calls Tryz.prog 11 #[.agg #[P.e.rv,P.e.sv,P.e.fv,P.tv]] w fun e w'=>e = .returned (.tuple #[.int .i64 (typesT P).1,.int .i64 (typesT P).2])∧Below w.heap.size w w':=by
  have hmf:∀ (fn:Go.Fn) (first cap:Array Value) (w:World),(Instr.makeFunc fn first cap).run Tryz.prog w = .ok (.func fn first cap) w:=fun _ _ _ _=>rfl
  have hB1:=below_box w (.cells #[P.e.rv,P.e.sv,P.e.fv,P.tv] 27)
  obtain⟨W1,hW1⟩:∃ W1,W1=w.alloc (.cells #[P.e.rv,P.e.sv,P.e.fv,P.tv] 27):=⟨_,rfl⟩
  have hO:W1.heap[w.heap.size]? = some (.cells #[P.e.rv,P.e.sv,P.e.fv,P.tv] 27 (0,0)):=by rw [hW1];exact (MapKept.heap_alloc _ _).1
  rw [← hW1] at hB1
  have hI1:PIn W1 B P:=hI.keeps (hB1.mono hBw)
  have hs1:=hB1.size
  have hlt1:w.heap.size < W1.heap.size:=by rw [hW1];simp
  have hS:=showcheck_any P B W1 (by omega) hI1
  cases hck:chkP P with
  | error k =>
    have hT:typesT P=(0,1):=by unfold typesT;rw [hck]
    have hk:¬ k=0:=by rcases chkP_cases P k hck with rfl|rfl <;> decide
    rw [hck] at hS
    rw [hT]
    have HS:=hid hS
    have HB:=hid hB1
    have HW:=hid hW1
    obtain⟨q0,q1,q2,q3⟩:=cells_prog _ _ _ _ hO
    clear hS hB1 hI1 hI hT hck hok hO hW1
    go_enter Tryz.func11,Tryz.ntmps11
    go_wp2_with fail
    rw [← HW.out]
    refine HS.out.mono ?_;rintro e w2 ⟨rfl,hb2⟩
    have HB2:=hid (HB.out.trans (hb2.mono hs1))
    have hRn:¬ Rn (.error k)=0:=hk
    clear hb2
    go_wp2_with fail
    exact bodyPost_ret (v:=.tuple #[.int .i64 0,.int .i64 1]) (by simp [results,Tryz.results11,go_sem]) rfl ⟨rfl,HB2.out⟩
  | ok n =>
    have hT:typesT P=tellT (progT P):=by unfold typesT tellT;rw [hck];cases progT P <;> rfl
    rw [hck] at hS
    rw [hT]
    obtain⟨hFf,hFt,hNP⟩:=hok n hck
    have hNn:=hN n hck
    clear hN
    have HS:=hid hS
    have HB:=hid hB1
    have HW:=hid hW1
    have HO:=hid hO
    have HI:=hid hI1
    have HF:=hid hFf
    have HG:=hid hFt
    obtain⟨q0,q1,q2,q3⟩:=cells_prog _ _ _ _ hO
    clear hS hB1 hI1 hI hT hck hok hO hW1 hFf hFt
    go_enter Tryz.func11,Tryz.ntmps11
    go_wp2_with fail
    rw [← HW.out]
    refine HS.out.mono ?_;rintro e w2 ⟨rfl,hb2⟩
    have hs2:=hb2.size
    have hB3:=below_box w2 (.cells #[.int .i64 0] 3)
    have hB4:=below_box (w2.alloc (.cells #[.int .i64 0] 3)) (.cells #[.int .i64 0] 37)
    have hB5:=hb2.trans ((hB3.trans (hB4.mono hB3.size)).mono hs2)
    have hT1:=tcheck1_any P w.heap.size B _ hNn ((hB5.block _ (by omega)).trans HO.out) (HI.out.keeps (hB5.mono (by omega))) (by have:=hB5.size;omega) HF.out HG.out hNP
    have HC:=hid (tcaught_any ⟨w.heap.size,0,none⟩ (progT P) w2 hT1)
    have HB2:=hid (HB.out.trans (hb2.mono hs1))
    have hRn:Rn (.ok n)=0:=rfl
    clear hb2 hB3 hB4 hB5 hT1 q0 q1 q2 q3
    go_wp2_with fail
    refine HC.out.mono ?_;rintro e w3 ⟨rfl,hb3⟩
    have HB3:=hid (HB2.out.trans (hb3.mono (by omega)))
    clear hb3
    go_wp2_with fail
    exact bodyPost_ret (v:=.tuple #[.int .i64 (tellT (progT P)).1,.int .i64 (tellT (progT P)).2]) (by simp [results,Tryz.results11,go_sem]) rfl ⟨rfl,HB3.out⟩
end Go.Proofs.YtdhieihcmnpneaaGreatDoor
