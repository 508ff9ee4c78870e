import Derived.Test.YtlboinokdhmacaaGreatDoorRunLaw
import Derived.Carry
import Derived.JoinedAt
import Derived.JoinedOf
import Derived.LaidMore
import Derived.Lay
import Derived.Lib.LaidTab
import Derived.SevenTiedAt
import Derived.Stop.Joined
import Derived.Stop.LaidErr
import Derived.Test.YtlboinokdhmacaaGreatDoorCards
import Derived.Test.YtlboinokdhmacaaGreatDoorTie
namespace Go.Proofs.YtlboinokdhmacaaGreatDoor
set_option maxHeartbeats 64000000
set_option maxRecDepth 1000000
open Lib(hid)
section
open Go.RowKit
attribute [local go_sem ↓] zL zJ
def qI:List In:=[⟨13,0,0,0,0,0⟩,⟨6,0,0,0,0,1⟩,⟨8,0,1,0,-1,0⟩,⟨12,0,0,1,0,0⟩,⟨1,0,1,0,0,7⟩,⟨9,0,1,0,-1,0⟩,⟨14,0,0,0,0,0⟩]
theorem jM (t e:TypeId) (k n:Nat) (parts:Array (Nat × Value)) (cells:Array Value) (hs:(Tryz.prog.info? e).isSome=true) (hz:((Tryz.prog.info? e).get hs).zero.isSome=true) (hn:((Tryz.prog.info? e).get hs).size=n) (hk:0<k∧k≤9) (hn0:0<n∧n≤100) (hu:Tryz.prog.underlying t=some (.slice e))
 (hf:Instr.fill (fun i=>some (i*n,n)) ((Array.range (k*n)).map ((((Tryz.prog.info? e).get hs).zero.get hz).cells[· % (((Tryz.prog.info? e).get hs).zero.get hz).cells.size]!)) parts.toList=some cells) (w:World) :
 (bls t k parts).run Tryz.prog w = .ok (.slice (some ⟨w.heap.size,0,none⟩) k k) (w.alloc (.cells cells e)):=by
 unfold bls
 have h1:¬ k*n > 2 ^ 24:=by
  have:k*n≤9*100:=Nat.mul_le_mul hk.2 hn0.2;omega
 have h2:¬ k*n=0:=by
  have:1*1≤k*n:=Nat.mul_le_mul hk.1 hn0.1;omega
 exact run_buildSlice w t e k parts cells ((Tryz.prog.info? e).get hs) (((Tryz.prog.info? e).get hs).zero.get hz) hu (Option.some_get hs).symm (Option.some_get hz).symm (by rw[hn];exact h1) (by rw[hn];exact h2) (by rw[hn];exact hf)
theorem KH (rq iq:Option Addr) (rl rc il ic:Nat) (si:Int) (w:World):Calls Tryz.prog 174 #[.slice rq rl rc,.int .i64 si,.slice iq il ic] w fun e w'=>∃ b,e = .returned (.agg #[.slice rq rl rc,.int .i64 si,.slice (some ⟨b,0,none⟩) 1 1])∧Below w.heap.size w w'∧w'.heap[b]? = some (.cells #[.slice iq il ic,.int .u8 3,.int .i64 0,.int .i64 0,.int .i64 0] 118 (0,0)):=by
 have e1:=zH 118 #[(0,.slice iq il ic),(1,.int .u8 3)] #[.slice iq il ic,.int .u8 3,.int .i64 0,.int .i64 0,.int .i64 0] (by kernel_rfl);have e2:=fun w=>jM 73 118 1 5 #[(0,.agg #[.slice iq il ic,.int .u8 3,.int .i64 0,.int .i64 0,.int .i64 0])] #[.slice iq il ic,.int .u8 3,.int .i64 0,.int .i64 0,.int .i64 0] (by kernel_rfl) (by kernel_rfl) (by kernel_rfl) (by omega) (by omega) (by kernel_rfl) (by kernel_rfl) w
 have e3:=fun (q:Option Addr)=>zH 75 #[(0,.slice rq rl rc),(1,.int .i64 si),(2,.slice q 1 1)] #[.slice rq rl rc,.int .i64 si,.slice q 1 1] (by kernel_rfl)
 go_enter Tryz.func174,Tryz.ntmps174;go_wp2_with fail;refine bodyPost_ret (v:=.agg #[.slice rq rl rc,.int .i64 si,.slice (some ⟨w.heap.size+1,0,none⟩) 1 1]) (results_cell_row rfl _ _ w.heap.size 75 _ (0,0) _ rfl ((Below.heap_alloc _ _ _ (by simp)).trans (MapKept.heap_alloc w _).1) Tryz.underlying75 rfl (by kernel_rfl)) rfl ?_;refine⟨_,rfl,(ze w _).alloc (by simp) _, ?_⟩;have h:=(MapKept.heap_alloc (w.alloc (.cells #[.slice rq rl rc,.int .i64 si,.slice (some ⟨w.heap.size+1,0,none⟩) 1 1] 75)) (.cells #[.slice iq il ic,.int .u8 3,.int .i64 0,.int .i64 0,.int .i64 0] 118)).1;have hz:(w.alloc (.cells #[.slice rq rl rc,.int .i64 si,.slice (some ⟨w.heap.size+1,0,none⟩) 1 1] 75)).heap.size=w.heap.size+1:=by simp
 rw[hz]at h;exact h
def Xa (g:Gr):Prop:=g.bare=([true,false],0,[(qI,3,0,0,0)])
theorem z0i (w:World):Calls Tryz.prog 113 #[] w fun e w'=>∃ g:Gr,e = .returned (.agg #[g.rv,.int .i64 g.sites,g.bv])∧Below w.heap.size w w'∧GIn w' w'.heap.size g∧Xa g:=by
 have e1:=fun w=>jM 72 4 2 1 #[(0,.bool true),(1,.bool false)] #[.bool true,.bool false] (by kernel_rfl) (by kernel_rfl) (by kernel_rfl) (by omega) (by omega) (by kernel_rfl) (by kernel_rfl) w
 have f0:=zH 159 #[(0,.int .u8 13)] #[.int .u8 13,.int .u8 0,.int .i64 0,.int .i64 0,.int .i64 0,.int .i64 0] (by kernel_rfl);have f1:=zH 159 #[(0,.int .u8 6),(2,.int .i64 0),(5,.int .i64 1)] #[.int .u8 6,.int .u8 0,.int .i64 0,.int .i64 0,.int .i64 0,.int .i64 1] (by kernel_rfl);have f2:=zH 159 #[(0,.int .u8 8),(2,.int .i64 1),(3,.int .i64 0),(4,.int .i64 (-1))] #[.int .u8 8,.int .u8 0,.int .i64 1,.int .i64 0,.int .i64 (-1),.int .i64 0] (by kernel_rfl);have f3:=zH 159 #[(0,.int .u8 12),(3,.int .i64 1)] #[.int .u8 12,.int .u8 0,.int .i64 0,.int .i64 1,.int .i64 0,.int .i64 0] (by kernel_rfl);have f4:=zH 159 #[(0,.int .u8 1),(2,.int .i64 1),(5,.int .i64 7)] #[.int .u8 1,.int .u8 0,.int .i64 1,.int .i64 0,.int .i64 0,.int .i64 7] (by kernel_rfl);have f5:=zH 159 #[(0,.int .u8 9),(2,.int .i64 1),(3,.int .i64 0),(4,.int .i64 (-1))] #[.int .u8 9,.int .u8 0,.int .i64 1,.int .i64 0,.int .i64 (-1),.int .i64 0] (by kernel_rfl);have f6:=zH 159 #[(0,.int .u8 14)] #[.int .u8 14,.int .u8 0,.int .i64 0,.int .i64 0,.int .i64 0,.int .i64 0] (by kernel_rfl);have e2:=fun w=>jM 115 159 7 6 #[(0,.agg #[.int .u8 13,.int .u8 0,.int .i64 0,.int .i64 0,.int .i64 0,.int .i64 0]),(1,.agg #[.int .u8 6,.int .u8 0,.int .i64 0,.int .i64 0,.int .i64 0,.int .i64 1]),(2,.agg #[.int .u8 8,.int .u8 0,.int .i64 1,.int .i64 0,.int .i64 (-1),.int .i64 0]),(3,.agg #[.int .u8 12,.int .u8 0,.int .i64 0,.int .i64 1,.int .i64 0,.int .i64 0]),(4,.agg #[.int .u8 1,.int .u8 0,.int .i64 1,.int .i64 0,.int .i64 0,.int .i64 7]),(5,.agg #[.int .u8 9,.int .u8 0,.int .i64 1,.int .i64 0,.int .i64 (-1),.int .i64 0]),(6,.agg #[.int .u8 14,.int .u8 0,.int .i64 0,.int .i64 0,.int .i64 0,.int .i64 0])] #[.int .u8 13,.int .u8 0,.int .i64 0,.int .i64 0,.int .i64 0,.int .i64 0,.int .u8 6,.int .u8 0,.int .i64 0,.int .i64 0,.int .i64 0,.int .i64 1,.int .u8 8,.int .u8 0,.int .i64 1,.int .i64 0,.int .i64 (-1),.int .i64 0,.int .u8 12,.int .u8 0,.int .i64 0,.int .i64 1,.int .i64 0,.int .i64 0,.int .u8 1,.int .u8 0,.int .i64 1,.int .i64 0,.int .i64 0,.int .i64 7,.int .u8 9,.int .u8 0,.int .i64 1,.int .i64 0,.int .i64 (-1),.int .i64 0,.int .u8 14,.int .u8 0,.int .i64 0,.int .i64 0,.int .i64 0,.int .i64 0] (by kernel_rfl) (by kernel_rfl) (by kernel_rfl) (by omega) (by omega) (by kernel_rfl) (by kernel_rfl) w
 have HH:=hid KH;go_enter Tryz.func113,Tryz.ntmps113;go_wp2_with fail;obtain⟨U,hU⟩:∃ U,U=((w.alloc (.cells #[.slice none 0 0,.int .i64 0,.slice none 0 0] 75)).alloc (.cells #[.bool true,.bool false] 4)).alloc (.cells #[.int .u8 13,.int .u8 0,.int .i64 0,.int .i64 0,.int .i64 0,.int .i64 0,.int .u8 6,.int .u8 0,.int .i64 0,.int .i64 0,.int .i64 0,.int .i64 1,.int .u8 8,.int .u8 0,.int .i64 1,.int .i64 0,.int .i64 (-1),.int .i64 0,.int .u8 12,.int .u8 0,.int .i64 0,.int .i64 1,.int .i64 0,.int .i64 0,.int .u8 1,.int .u8 0,.int .i64 1,.int .i64 0,.int .i64 0,.int .i64 7,.int .u8 9,.int .u8 0,.int .i64 1,.int .i64 0,.int .i64 (-1),.int .i64 0,.int .u8 14,.int .u8 0,.int .i64 0,.int .i64 0,.int .i64 0,.int .i64 0] 159):=⟨_,rfl⟩
 have z1:(w.alloc (.cells #[.slice none 0 0,.int .i64 0,.slice none 0 0] 75)).heap.size=w.heap.size+1:=by simp
 have z2:((w.alloc (.cells #[.slice none 0 0,.int .i64 0,.slice none 0 0] 75)).alloc (.cells #[.bool true,.bool false] 4)).heap.size=w.heap.size+2:=by simp
 have hUb:Below w.heap.size w U:=by rw[hU];exact ((ze w _).alloc (by simp) _).alloc (by simp <;> omega) _
 have hU0:U.heap[w.heap.size]? = some (.cells #[.slice none 0 0,.int .i64 0,.slice none 0 0] 75 (0,0)):=by rw[hU,Below.heap_alloc _ _ _ (by omega),Below.heap_alloc _ _ _ (by omega)];exact (MapKept.heap_alloc w _).1
 have hU1:U.heap[w.heap.size+1]? = some (.cells #[.bool true,.bool false] 4 (0,0)):=by rw[hU,Below.heap_alloc _ _ _ (by omega),←z1];exact (MapKept.heap_alloc _ _).1
 have hU2:U.heap[w.heap.size+2]? = some (.cells #[.int .u8 13,.int .u8 0,.int .i64 0,.int .i64 0,.int .i64 0,.int .i64 0,.int .u8 6,.int .u8 0,.int .i64 0,.int .i64 0,.int .i64 0,.int .i64 1,.int .u8 8,.int .u8 0,.int .i64 1,.int .i64 0,.int .i64 (-1),.int .i64 0,.int .u8 12,.int .u8 0,.int .i64 0,.int .i64 1,.int .i64 0,.int .i64 0,.int .u8 1,.int .u8 0,.int .i64 1,.int .i64 0,.int .i64 0,.int .i64 7,.int .u8 9,.int .u8 0,.int .i64 1,.int .i64 0,.int .i64 (-1),.int .i64 0,.int .u8 14,.int .u8 0,.int .i64 0,.int .i64 0,.int .i64 0,.int .i64 0] 159 (0,0)):=by rw[hU,←z2];exact (MapKept.heap_alloc _ _).1
 have hUs:U.heap.size=w.heap.size+3:=by rw[hU];simp
 have HU:=hid hU;rw[←HU.out];refine (HH.out _ _ _ _ _ _ _ _).mono ?_;rintro e w5 ⟨b,rfl,hb5,hx5⟩;have hr0:=(hb5.block w.heap.size (by omega)).trans hU0;have hr1:=(hb5.block (w.heap.size+1) (by omega)).trans hU1;have hr2:=(hb5.block (w.heap.size+2) (by omega)).trans hU2;obtain⟨s0,s1,s2⟩:=xU hr0;have g0:=Lib.frozen_of_heap hr0 0;have g1:=Lib.frozen_of_heap hr0 1;have g2:=Lib.frozen_of_heap hr0 2;have hlr:=z8 hr0;have HR:=hid (And.intro hr0 (And.intro hr1 (And.intro hr2 hx5)));have HB5:=hid (hUb.trans (hb5.mono (by omega)));have hbne:b≠w.heap.size:=fun q=>by rw[q,hr0]at hx5;injection hx5 with h1;injection h1 with _ h2;exact absurd h2 (by decide)
 have HBN:=hid hbne;clear hU z1 z2 hUb hU0 hU1 hU2 hUs hb5 hr0 hr1 hr2 hx5 hbne;go_wp2_with fail;refine bodyPost_ret (v:=.agg #[.slice (some ⟨w.heap.size+1,0,none⟩) 2 2,.int .i64 0,.slice (some ⟨b,0,none⟩) 1 1]) (results_cell_row rfl _ _ w.heap.size 75 _ (0,0) _ rfl (vI HR.out.1 _ _ _) Tryz.underlying75 rfl (by kernel_rfl)) rfl ?_;obtain⟨W,hW⟩:∃ W,W=((w5.setCell ⟨w.heap.size,0,none⟩ (.slice (some ⟨w.heap.size+1,0,none⟩) 2 2)).setCell ⟨w.heap.size,1,none⟩ (.int .i64 0)).setCell ⟨w.heap.size,2,none⟩ (.slice (some ⟨b,0,none⟩) 1 1):=⟨_,rfl⟩
 have hk:∀ k,k≠w.heap.size→W.heap[k]? = w5.heap[k]?:=fun k hk=>by rw[hW];exact (Below.heap_setCell _ _ _ _ hk).trans ((Below.heap_setCell _ _ _ _ hk).trans (Below.heap_setCell _ _ _ _ hk))
 have hWb:Below w.heap.size w W:=by rw[hW];exact ((HB5.out.setCell (by show w.heap.size≤w.heap.size;omega) _).setCell (by show w.heap.size≤w.heap.size;omega) _).setCell (by show w.heap.size≤w.heap.size;omega) _
 have x1:=(hk (w.heap.size+1) (by omega)).trans HR.out.2.1;have x2:=(hk (w.heap.size+2) (by omega)).trans HR.out.2.2.1;have x3:=(hk b HBN.out).trans HR.out.2.2.2;rw[←hW];refine⟨⟨.slice (some ⟨w.heap.size+1,0,none⟩) 2 2,[true,false],0,.slice (some ⟨b,0,none⟩) 1 1,[⟨.slice (some ⟨w.heap.size+2,0,none⟩) 7 7,qI,3,0,0,0⟩]⟩,rfl,hWb,⟨wI (l:=[true,false]) (t:=[]) vL x1 rfl (z8 x1) (by simp),by simp,wI (l:=[⟨.slice (some ⟨w.heap.size+2,0,none⟩) 7 7,qI,3,0,0,0⟩]) (t:=[]) xQ x3 rfl (z8 x3) (by simp),fun y hy=>?_⟩,rfl⟩;simp only[List.mem_singleton]at hy;subst hy;refine⟨wI (l:=qI) (t:=[]) xz x2 rfl (z8 x2) (by decide),⟨by simp,by simp,by simp,by simp⟩,fun i hi=>?_⟩;simp only[qI,List.mem_cons,List.not_mem_nil,or_false]at hi;rcases hi with rfl|rfl|rfl|rfl|rfl|rfl|rfl <;> exact⟨by decide,by decide,by decide,by decide,by decide,by decide⟩
theorem Zt {w:World} {g:Nat} {x:Int} (h:w.heap[g]? = some (.cells #[.int .i64 x] 2 (0,0))):Rd w (.slice (some ⟨g,0,none⟩) 1 1) [x]:=
 ⟨_,1,rfl,by simp,.inr ⟨g,0,rfl,z8 h,by simp,by simp,fun i y hy=>by
  cases i with
  | zero=>simp at hy;subst hy;exact zh h 0 _ rfl
  | succ i=>simp at hy⟩⟩
def qm:Cd:=⟨2,.slice none 0 0,[⟨.slice none 0 0,[true,false],0,.slice none 0 0,[⟨.slice none 0 0,qI,3,0,0,0⟩]⟩,⟨.slice none 0 0,[true,false],0,.slice none 0 0,[⟨.slice none 0 0,qI,3,0,0,0⟩]⟩]⟩
theorem YL:(x8 qm [0,0,1,1] 100).map TS.told=[[0],[7]]:=by kernel_rfl
theorem z14:vw qm [0,0,1,1] 100=false:=by kernel_rfl
theorem z13:vv qm [0,0,1,1] 100=false:=by kernel_rfl
theorem z15:zV qm.words qm.threads [(0:Int),0,1,1].length 100=0:=by kernel_rfl
theorem Jg (w:World):Calls Tryz.prog 15 #[] w fun e w'=>e = .returned (.bool true)∧Below w.heap.size w w':=by
 have HC:=hid z0i;have e1:=fun (a0 a2 b0 b2:Value) (a1 b1:Int) w=>jM 22 75 2 3 #[(0,.agg #[a0,.int .i64 a1,a2]),(1,.agg #[b0,.int .i64 b1,b2])] #[a0,.int .i64 a1,a2,b0,.int .i64 b1,b2] (by kernel_rfl) (by kernel_rfl) (by kernel_rfl) (by omega) (by omega) (by kernel_rfl) (by kernel_rfl) w
 have e2:=fun (q:Option Addr)=>zH 24 #[(0,.int .i64 2),(1,.slice q 2 2)] #[.int .i64 2,.slice q 2 2] (by kernel_rfl)
 have e3:=fun w=>jM 25 3 4 1 #[(0,.int .i64 0),(1,.int .i64 0),(2,.int .i64 1),(3,.int .i64 1)] #[.int .i64 0,.int .i64 0,.int .i64 1,.int .i64 1] (by kernel_rfl) (by kernel_rfl) (by kernel_rfl) (by omega) (by omega) (by kernel_rfl) (by kernel_rfl) w
 have e4:=jA;go_enter Tryz.func15,Tryz.ntmps15;go_wp2_with fail;refine (HC.out _).mono ?_;rintro e w1 ⟨g1,rfl,hb1,hI1,hc1⟩;go_wp2_with fail;refine (HC.out _).mono ?_;rintro e w2 ⟨g2,rfl,hb2,hI2,hc2⟩;obtain⟨w3,hw3⟩:∃ W,W=w2.alloc (.cells #[g1.rv,.int .i64 g1.sites,g1.bv,g2.rv,.int .i64 g2.sites,g2.bv] 75):=⟨_,rfl⟩
 obtain⟨w4,hw4⟩:∃ W,W=w3.alloc (.cells #[.int .i64 0,.int .i64 0,.int .i64 1,.int .i64 1] 3):=⟨_,rfl⟩
 have hb3:Below w2.heap.size w2 w3:=by rw[hw3];exact ze w2 _
 have hb4:Below w3.heap.size w3 w4:=by rw[hw4];exact ze w3 _
 have hz3:w3.heap.size=w2.heap.size+1:=by rw[hw3];simp
 have hz4:w4.heap.size=w3.heap.size+1:=by rw[hw4];simp
 have x3:w3.heap[w2.heap.size]? = some (.cells #[g1.rv,.int .i64 g1.sites,g1.bv,g2.rv,.int .i64 g2.sites,g2.bv] 75 (0,0)):=by rw[hw3];exact (MapKept.heap_alloc _ _).1
 have x4:=(hb4.block w2.heap.size (by omega)).trans x3;have y4:w4.heap[w3.heap.size]? = some (.cells #[.int .i64 0,.int .i64 0,.int .i64 1,.int .i64 1] 3 (0,0)):=by rw[hw4];exact (MapKept.heap_alloc _ _).1
 have hs1:=hb1.size;have hs2:=hb2.size;have hb24:Below w2.heap.size w2 w4:=hb3.trans (hb4.mono (by omega))
 have hCI:CIn w4 w4.heap.size ⟨2,.slice (some ⟨w2.heap.size,0,none⟩) 2 2,[g1,g2]⟩:=by
  refine⟨by simp,wI (l:=[g1,g2]) (t:=[]) wJ x4 rfl (z8 x4) (by simp),fun g hg=>?_⟩;simp only[List.mem_cons,List.not_mem_nil,or_false]at hg;rcases hg with rfl|rfl
  · exact (hI1.keeps (hb2.trans (hb24.mono hs2))).up (by omega)
  · exact (hI2.keeps hb24).up (by omega)
 have hPI:zB xh 1 w4 w4.heap.size (.slice (some ⟨w3.heap.size,0,none⟩) 4 4) [0,0,1,1]:=wI (cells:=xh) (kc:=1) (l:=[(0:Int),0,1,1]) (t:=[]) (fun _=>rfl) y4 rfl (z8 y4) (by simp)
 have hbar:Gr.bares [g1,g2]=Gr.bares qm.threads:=by
  show [g1.bare,g2.bare]=_
  unfold Xa at hc1 hc2;rw[hc1,hc2]
  rfl
 have hS:=Z5 (c:=qm) (d:=⟨2,.slice (some ⟨w2.heap.size,0,none⟩) 2 2,[g1,g2]⟩) rfl hbar [0,0,1,1] 100;have hR:=Zl w4.heap.size ⟨2,.slice (some ⟨w2.heap.size,0,none⟩) 2 2,[g1,g2]⟩ w4 (.slice (some ⟨w3.heap.size,0,none⟩) 4 4) [0,0,1,1] 100 hCI (Nat.le_refl _) hPI (by omega) (by intro x hx;simp at hx;rcases hx with rfl|rfl <;> omega)
 have hR2:=hR.mono (fun e u' h=>show Below w4.heap.size w4 u'∧∃ q cap Ts,e = .returned (.tuple #[.agg #[.slice q 2 cap,.bool false,.bool false],.int .i64 0])∧xB u' (.slice q 2 cap) Ts∧Ts.map TS.told=[[0],[7]]from by
  unfold kJ at h;rw[hS.1,hS.2.1,hS.2.2.1,hS.2.2.2,z14,z13,z15]at h;obtain⟨h1,q,cap,h2,h3,-⟩:=h;have hl:(x8 qm [0,0,1,1] 100).length=2:=by have:=congrArg List.length YL;simpa using this
  rw[hl]at h2 h3;exact⟨h1,q,cap,_,h2,h3,YL⟩)
 rw[hz3]at hR2;have HR:=hid hR2;have HB4:=hid (hb1.trans ((hb2.trans (hb24.mono hs2)).mono hs1));have HW3:=hid hw3;have HW4:=hid hw4;clear hS hR hR2 hbar hPI hCI hb24 x3 x4 y4 hb3 hb4 hz3 hz4 hw3 hw4 hb1 hb2 hI1 hI2 hc1 hc2;go_wp2_with fail;rw[←HW3.out,←HW4.out];refine HR.out.mono ?_;rintro e w5 ⟨hb5,q,cap,Ts,rfl,hsa,htold⟩;have hlen:Ts.length=2:=by have:=congrArg List.length htold;simpa using this
 obtain⟨q',cap',e',hg⟩:=xB.read (show xB w5 (.slice q 2 cap) Ts from hsa);rw[hlen]at e' hg;cases e';obtain⟨g,rfl,hgl,hat⟩:=hg (by omega);obtain⟨T0,hT0⟩:∃ T,Ts[0]? = some T:=⟨_,List.getElem?_eq_getElem (by omega)⟩
 obtain⟨T1,hT1⟩:∃ T,Ts[1]? = some T:=⟨_,List.getElem?_eq_getElem (by omega)⟩
 have ht0:T0.told=[0]:=by have h:=congrArg (fun l=>l[0]?) htold;simpa[hT0]using h
 have ht1:T1.told=[7]:=by have h:=congrArg (fun l=>l[1]?) htold;simpa[hT1]using h
 obtain⟨p0,c0,a0,-,r0⟩:=hat 0 T0 hT0;obtain⟨p1,c1,a1,-,r1⟩:=hat 1 T1 hT1;rw[ht0]at a0 r0;rw[ht1]at a1 r1;obtain⟨V,hV⟩:∃ V,V=w5.alloc (.cells #[.slice (some ⟨g,0,none⟩) 2 cap,.bool false,.bool false] 32):=⟨_,rfl⟩
 have hbV:Below w5.heap.size w5 V:=by rw[hV];exact ze w5 _
 have hXV:V.heap[w5.heap.size]? = some (.cells #[.slice (some ⟨g,0,none⟩) 2 cap,.bool false,.bool false] 32 (0,0)):=by rw[hV];exact (MapKept.heap_alloc _ _).1
 have HV:=hid hV;have HBV:=hid (HB4.out.trans ((hb5.trans (hbV.mono hb5.size)).mono HB4.out.size));have HX:=hid hXV;have HG:=hid (And.intro hgl (And.intro a0 (And.intro a1 (And.intro r0 r1))));have HBW:=hid hbV;obtain⟨v0,v1,v2⟩:=xU hXV;have d0:=(hbV.cell (p:=⟨g,0*2,none⟩) hgl).trans a0;have hlV:=z8 hXV;have hlg:=Nat.lt_of_lt_of_le hgl hbV.size;simp only[Nat.zero_mul,List.length_singleton]at d0;obtain⟨Y,hY⟩:∃ Y,Y=V.alloc (.cells #[.int .i64 0] 2):=⟨_,rfl⟩
 have hzV:V.heap.size=w5.heap.size+1:=by rw[hV];simp
 have hbY:Below V.heap.size V Y:=by rw[hY];exact ze V _
 have hYr:Y.heap[w5.heap.size+1]? = some (.cells #[.int .i64 0] 2 (0,0)):=by rw[hY,←hzV];exact (MapKept.heap_alloc _ _).1
 have hb5Y:Below w5.heap.size w5 Y:=hbV.trans (hbY.mono hbV.size);have HS:=hid (kU [0] _ _ Y (r0.below hb5Y) (Zt hYr));have hYx:=(hbY.block _ hlV).trans hXV;have HYX:=hid hYx;have HYA:=hid ((hb5Y.cell (p:=⟨g,1*2,none⟩) hgl).trans a1);have HYG:=hid (Nat.lt_of_lt_of_le hgl hb5Y.size);have HR1:=hid (r1.below hb5Y);have HBY:=hid (HBV.out.trans (hbY.mono HBV.out.size));have hYE:Y=(w5.alloc (.cells #[.slice (some ⟨g,0,none⟩) 2 cap,.bool false,.bool false] 32)).alloc (.cells #[.int .i64 0] 2):=by rw[hY,hV]
 have HYE:=hid hYE;simp only[List.length_singleton]at HS;rw[hV]at v0 v1 v2 d0 hlV hlg;clear hV hbV hXV a0 a1 r0 r1 hat hsa htold hT0 hT1 hb5 hgl hY hzV hbY hYr hb5Y hYx hYE HG;go_wp2_with fail;rw[←HYE.out];refine HS.out.mono ?_;rintro e w6 ⟨rfl,hb6⟩;have hx6:=(hb6.block _ (z8 HYX.out)).trans HYX.out;obtain⟨u0,u1,u2⟩:=xU hx6;have d1:=(hb6.cell (p:=⟨g,1*2,none⟩) HYG.out).trans HYA.out;simp only[Nat.one_mul,List.length_singleton]at d1;have hl6:=z8 hx6;have hg6:=Nat.lt_of_lt_of_le HYG.out hb6.size;obtain⟨Z,hZ⟩:∃ Z,Z=w6.alloc (.cells #[.int .i64 7] 2):=⟨_,rfl⟩
 have hbZ:Below w6.heap.size w6 Z:=by rw[hZ];exact ze w6 _
 have hZr:Z.heap[w6.heap.size]? = some (.cells #[.int .i64 7] 2 (0,0)):=by rw[hZ];exact (MapKept.heap_alloc _ _).1
 have HS2:=hid (kU [7] _ _ Z ((HR1.out.below hb6).below hbZ) (Zt hZr));simp only[List.length_singleton]at HS2;have HZ:=hid hZ;have HBZ:=hid (HBY.out.trans ((hb6.trans (hbZ.mono hb6.size)).mono HBY.out.size));clear hb6 hx6 hZ hbZ hZr v0 v1 v2 d0 hlV hlg;go_wp2_with fail;rw[←HZ.out];refine HS2.out.mono ?_;rintro e w7 ⟨rfl,hb7⟩;have HB7:=hid (HBZ.out.trans (hb7.mono HBZ.out.size));clear hb7 u0 u1 u2 d1;go_wp2_with fail;go_ret;exact⟨rfl,HB7.out⟩
end
open Go.ChangeAt Go.ChangeShapes Go.Joins Go.RowKit Go.WideElems Go.WideMaps Go.WideShapes
theorem own:ownKnob Tryz.prog.godebug=none:=by kernel_rfl
theorem K4 (os:Os) (args:Array Value):laidMetH Tryz.prog Rows.walkRunsRow.laid ((World.laidAll Tryz.prog os Rows.walkRunsRow.laid).forCall (fun _ _=>0) ⟨#[],args,[]⟩).memory:=by
 rw[MakeChecks.laidMetH_plain _ _ _ (by kernel_rfl)];exact laidMet_laidAll _ (by kernel_rfl) (by kernel_rfl)
theorem Xr (os:Os) (started:os.Started) (H:Type) (enc:TypeId × Value→H) :
 ReturnsInHanded {} Tryz.checked os 3 .any (fun w args=>(Rows.walkRunsSpec.pre enc Tryz.prog Tryz.f3 [] false w args∧laidMetH Tryz.prog Rows.walkRunsRow.laid w)∧sizedMet enc Tryz.prog Tryz.f3 (OpenSpec.ofChange Rows.walkRunsSpec) false w args)
  (Rows.walkRunsSpec.post enc Tryz.prog Tryz.f3 false true false false):=by
 refine returnsInHanded_of_change_and (C:=Tryz.checked) (X:=fun w _=>laidMetH Tryz.prog Rows.walkRunsRow.laid w) (fun _ _ _ hh h=>h.of_heap hh) own started (by kernel_rfl) Tryz.func3
  (ChangeSpec.witness_shaped (enc:=enc) (C:=Tryz.checked) (os:=os) (X:=fun w _=>laidMetH Tryz.prog Rows.walkRunsRow.laid w) false (World.laidAll Tryz.prog os Rows.walkRunsRow.laid) #[.agg #[.int .i64 0,.slice none 0 0],.slice none 0 0,.int .i64 0] 8 (World.laidAll_os _ _ _) (World.shaped_of_ZipB (by kernel_rfl) (by kernel_rfl)) (by kernel_rfl) (by kernel_rfl) (by kernel_rfl) (K4 os _)) ?_
 intro W base args ds gs before hval0 hW _ hz0 hL _;have hval:∀ (j:Nat) t v,Tryz.f3.params[j]? = some t→args[j]? = some v→Value.okWide Tryz.prog W .any base t v:=hval0
 have hW':=hW;obtain⟨p,q,hA0,hV,rfl,_,_⟩:=hW;have hA:DataW.TrodAll enc Tryz.prog W 0 (fun _=>true) true Tryz.f3.params.toList args.toList ds p:=hA0;rw[Tryz.params3]at hA hval;obtain⟨v0,v1,v3,d0,d1,d3,p0,p1,p3,rfl,rfl,rfl,h0,h1,h3⟩:=trodAll_three hA;obtain⟨rfl,rfl⟩:=trodVars_none hV;have hlt:∀ {t v d ps},DataW.Trod enc Tryz.prog W 0 (fun _=>true) true t v d ps→∀ x ∈ ps,x.block<W.heap.size:=fun ⟨fuel,hf⟩=>DataW.trod_lt _ _ _ _ hf
 have hkeep:∀ {t v d ps},Tryz.prog.readableRec t=true→t<Tryz.prog.types.size→DataW.Trod enc Tryz.prog W 0 (fun _=>true) true t v d ps→∀ W',Below W.heap.size W W'→DataW.Trod enc Tryz.prog W' 0 (fun b=>decide (b<W.heap.size)) true t v d ps:=
  fun hr ht h W' hb=>Below.trod (by kernel_rfl) hr ht h hb (hlt h)
 have hw0:Wt 24 d0:=fun n hn=>by have:=List.all_eq_true.1 hz0 n (DataW.weights_mem_each (j:=0) (t:=24) rfl rfl n hn);simpa using this
 have hw1:Wt 25 d1:=fun n hn=>by have:=List.all_eq_true.1 hz0 n (DataW.weights_mem_each (j:=1) (t:=25) rfl rfl n hn);simpa using this
 obtain⟨cs0,rfl,-⟩:=okWide_struct Tryz.underlying24 (hval 0 24 v0 rfl rfl)
 obtain⟨c,rfl,hIC⟩:∃ c:Cd,cs0=#[.int .i64 c.words,c.tv]∧CIn W W.heap.size c:=by
  obtain⟨fuel,hf⟩:=h0;obtain⟨c,hc,hi,hp⟩:=VK fuel _ _ hf hw0;refine⟨c, ?_,hi⟩;have hc2:cs0.toList=c.cells:=by simpa[Value.cells]using hc
  apply Array.toList_inj.1;rw[hc2]
  rfl
 have one:∀ {v:Value} {d:DataW H} {ps:List MemPlace},Value.okWide Tryz.prog W .any base 25 v→DataW.Trod enc Tryz.prog W 0 (fun _=>true) true 25 v d ps→Wt 25 d→∃ l:List Int,jh W W.heap.size v l:=by
  rintro v d ps ho ⟨fuel,hf⟩ hwt
  have hc:v.cells=#[v]:=by
   obtain⟨a,n,c,rfl⟩:=okWide_slice Tryz.underlying25 ho
   rfl
  exact VH fuel v _ (by simpa[hc]using hf) hwt
 obtain⟨picks,hP⟩:=one (hval 1 25 v1 rfl rfl) h1 hw1;obtain⟨k,rfl,rfl,rfl,wk⟩:=open_int Tryz.underlying3 (hval 2 3 v3 rfl rfl) h3;clear hA0 hval0 hz0 hL;simp only[List.append_nil]at hW';refine (WM Jg c W v1 picks k hIC hP (wf_i64 wk)).mono fun e W' ⟨he,hnx⟩=>?_
 subst he;have hps:p0++(p1++[])=p0++p1:=by simp
 refine⟨_,rfl,_,_,_,[],_,[],hW', ?_,hps ▸ trodAll_mk3 (hkeep (by kernel_rfl) (of_decide_eq_true (by kernel_rfl)) h0 W' hnx) (hkeep (by kernel_rfl) (of_decide_eq_true (by kernel_rfl)) h1 W' hnx) (shut_int Tryz.underlying3 wk),rfl,hnx.frame _,fun h=>by cases h⟩;exact trodAll_mk1 (shut_bool Tryz.underlying4 _)
