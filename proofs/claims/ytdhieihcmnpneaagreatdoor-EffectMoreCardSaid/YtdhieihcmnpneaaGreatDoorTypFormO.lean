/- What a statement's own form may be, in the order in which it is asked; small facts for the walks through it. -/
import Derived.Test.YtdhieihcmnpneaaGreatDoorRows
import Derived.Test.YtdhieihcmnpneaaGreatDoorGForm
import Derived.Test.YtdhieihcmnpneaaGreatDoorGPlain
namespace Go.Proofs.YtdhieihcmnpneaaGreatDoor
open Lib (hid)
set_option maxHeartbeats 1000000
open Go.RowKit
theorem own21 {w:World} {b:Nat} {T:TypeId} {fr:Nat × Nat} {a0 a1 a2 a3 a4 a5 a6 a7 a8 a9 a10 a11 a12 a13 a14 a15 a16 a17 a18 a19 a20:Value} (h:w.heap[b]? = some (.cells #[a0,a1,a2,a3,a4,a5,a6,a7,a8,a9,a10,a11,a12,a13,a14,a15,a16,a17,a18,a19,a20] T fr)) :
    w.cell? ⟨b,0,none⟩ = some a0∧w.cell? ⟨b,1,none⟩ = some a1∧w.cell? ⟨b,2,none⟩ = some a2∧w.cell? ⟨b,3,none⟩ = some a3∧w.cell? ⟨b,4,none⟩ = some a4∧w.cell? ⟨b,5,none⟩ = some a5∧w.cell? ⟨b,6,none⟩ = some a6∧w.cell? ⟨b,7,none⟩ = some a7∧w.cell? ⟨b,8,none⟩ = some a8∧w.cell? ⟨b,9,none⟩ = some a9∧w.cell? ⟨b,10,none⟩ = some a10∧w.cell? ⟨b,11,none⟩ = some a11∧w.cell? ⟨b,12,none⟩ = some a12∧w.cell? ⟨b,13,none⟩ = some a13∧w.cell? ⟨b,14,none⟩ = some a14∧w.cell? ⟨b,15,none⟩ = some a15∧w.cell? ⟨b,16,none⟩ = some a16∧w.cell? ⟨b,17,none⟩ = some a17∧w.cell? ⟨b,18,none⟩ = some a18∧w.cell? ⟨b,19,none⟩ = some a19∧w.cell? ⟨b,20,none⟩ = some a20:=
  ⟨by rw [Lib.cell_of_heap h];rfl,by rw [Lib.cell_of_heap h];rfl,by rw [Lib.cell_of_heap h];rfl,by rw [Lib.cell_of_heap h];rfl,by rw [Lib.cell_of_heap h];rfl,by rw [Lib.cell_of_heap h];rfl,by rw [Lib.cell_of_heap h];rfl,by rw [Lib.cell_of_heap h];rfl,by rw [Lib.cell_of_heap h];rfl,by rw [Lib.cell_of_heap h];rfl,by rw [Lib.cell_of_heap h];rfl,by rw [Lib.cell_of_heap h];rfl,by rw [Lib.cell_of_heap h];rfl,by rw [Lib.cell_of_heap h];rfl,by rw [Lib.cell_of_heap h];rfl,by rw [Lib.cell_of_heap h];rfl,by rw [Lib.cell_of_heap h];rfl,by rw [Lib.cell_of_heap h];rfl,by rw [Lib.cell_of_heap h];rfl,by rw [Lib.cell_of_heap h];rfl,by rw [Lib.cell_of_heap h];rfl⟩
theorem own5 {w:World} {b:Nat} {T:TypeId} {fr:Nat × Nat} {a0 a1 a2 a3 a4:Value} (h:w.heap[b]? = some (.cells #[a0,a1,a2,a3,a4] T fr)) :
    w.cell? ⟨b,0,none⟩ = some a0∧w.cell? ⟨b,1,none⟩ = some a1∧w.cell? ⟨b,2,none⟩ = some a2∧w.cell? ⟨b,3,none⟩ = some a3∧w.cell? ⟨b,4,none⟩ = some a4:=
  ⟨by rw [Lib.cell_of_heap h];rfl,by rw [Lib.cell_of_heap h];rfl,by rw [Lib.cell_of_heap h];rfl,by rw [Lib.cell_of_heap h];rfl,by rw [Lib.cell_of_heap h];rfl⟩
theorem set5 {w:World} {b:Nat} {T:TypeId} {fr:Nat × Nat} {a0 a1 a2 a3 a4:Value} (h:w.heap[b]? = some (.cells #[a0,a1,a2,a3,a4] T fr)) (b0 b1 b2 b3 b4:Value) :
    (((((w.setCell ⟨b,0,none⟩ b0).setCell ⟨b,1,none⟩ b1).setCell ⟨b,2,none⟩ b2).setCell ⟨b,3,none⟩ b3).setCell ⟨b,4,none⟩ b4).heap[b]? = some (.cells #[b0,b1,b2,b3,b4] T fr):=by
  simp [World.setCell,Array.getElem?_modify,h]
theorem below_set5 {B:Nat} {a w:World} (h:Below B a w) {b:Nat} (hb:B≤b) (b0 b1 b2 b3 b4:Value) :
    Below B a (((((w.setCell ⟨b,0,none⟩ b0).setCell ⟨b,1,none⟩ b1).setCell ⟨b,2,none⟩ b2).setCell ⟨b,3,none⟩ b3).setCell ⟨b,4,none⟩ b4):=
  ((((h.setCell (p:=⟨b,0,none⟩) hb b0).setCell (p:=⟨b,1,none⟩) hb b1).setCell (p:=⟨b,2,none⟩) hb b2).setCell (p:=⟨b,3,none⟩) hb b3).setCell (p:=⟨b,4,none⟩) hb b4
theorem look_s {W:World} {m:Nat} (hm:IsMap W m kvs) {k:Int} {v:Value} (hx:lookI k kvs=some v) (V:World) (hV:V.heap[m]? = W.heap[m]?) :
    (Instr.lookup 138 (.map (some m)) (.int .u8 k) true).run Tryz.prog V = .ok (.tuple #[v,.bool true]) V:=
  run_look uMapS uKindS (hm.of hV) true k v hx
theorem look_s0 {W:World} {m:Nat} (hm:IsMap W m kvs) {k:Int} (hx:lookI k kvs=none) (V:World) (hV:V.heap[m]? = W.heap[m]?) :
    (Instr.lookup 138 (.map (some m)) (.int .u8 k) true).run Tryz.prog V = .ok (.tuple #[.agg #[.bool false,.int .u8 0,.bool false,.bool false,.bool false],.bool false]) V:=
  run_look_none uMapS uKindS (hm.of hV) true k _ (by kernel_rfl) hx
def sfR (rx ry rb ro:Bool) (f:Int):Int:=if rx=false then 1 else if ry=false then 1 else if rb=false then 1 else if ro=false then 1 else f
theorem sfR_rx {r f:Int} {ry rb ro:Bool} (h:r=sfR false ry rb ro f):r=1:=h
theorem sfR_ry {r f:Int} {rb ro:Bool} (h:r=sfR true false rb ro f):r=1:=h
theorem sfR_rb {r f:Int} {ro:Bool} (h:r=sfR true true false ro f):r=1:=h
theorem sfR_ro {r f:Int} (h:r=sfR true true true false f):r=1:=h
theorem sfR_rn {r f:Int} (h:r=sfR true true true true (if false=true then f else 1)):r=1:=h
theorem sfR_f {r f:Int} (h:r=sfR true true true true (if true=true then f else 1)):r=f:=h
theorem sfR_yesN {r:Int} (h:r=sfR true true true true (if true=true then 0 else 1)):r=0:=h
theorem sfR_rt {r:Int} {p:Prop} [Decidable p] (h:r=sfR true true true true (if p∧false=true then 0 else 1)):r=1:=by rw [h];simp [sfR]
theorem sfR_nm {r:Int} {p:Prop} [Decidable p] {rt:Bool} (h:r=sfR true true true true (if p∧rt=true then 0 else 1)) (hp:¬ p):r=1:=by rw [h];simp [sfR,hp]
def frmE (r:Int) (v:Value):Ending:=if r=0 then .returned v else .panicked (fl r)
theorem frmE_0 {r:Int} {v:Value} (h:r=0):frmE r v = .returned v:=if_pos h
theorem frmE_no {r:Int} {v:Value} (h:¬ r=0):frmE r v = .panicked (fl r):=if_neg h
theorem bad_of {r:Int} {v:Value} (h:r=1):Ending.panicked (fl 1)=frmE r v:=by subst h;rfl
theorem bad3_of {r:Int} {v:Value} (h:r=3):Ending.panicked (fl 3)=frmE r v:=by subst h;rfl
theorem good_of {r:Int} {v:Value} (h:r=0):Ending.returned v=frmE r v:=by subst h;rfl
theorem len_eq (n:Nat):((n:Int) == 0)=decide (n=0):=by
  by_cases h:n=0
  · subst h;rfl
  · rw [decide_eq_false h];exact beq_eq_false_iff_ne.2 (by omega)
section
theorem right_0 (h:Hd) (ao:Option Addr) (m cap:Nat) (w:World):Calls Tryz.prog 118 #[.agg #[.int .u8 h.k,.int .i64 h.n,.string h.name,.int .u8 h.tk,.string h.tn,.int .i64 h.tz,.slice ao m cap],.int .u8 0] w fun e w'=>e = .returned (.bool (noneH h m))∧Below w.heap.size w w':=by
  have HB:=hid (below_box w (.cells #[.int .u8 h.k,.int .i64 h.n,.string h.name,.int .u8 h.tk,.string h.tn,.int .i64 h.tz,.slice ao m cap] 62))
  go_enter Tryz.func118,Tryz.ntmps118
  go_wp2_with (go_at_call 108;refine (none_any h ao m cap _).mono ?_;rintro e w' ⟨rfl,hb⟩)
  go_ret
  exact⟨rfl,HB.out.trans (hb.mono (by simp))⟩
theorem right_1 (k n tk tz:Int) (nm tn:ByteArray) (ao:Option Addr) (m cap:Nat) (w:World):Calls Tryz.prog 118 #[.agg #[.int .u8 k,.int .i64 n,.string nm,.int .u8 tk,.string tn,.int .i64 tz,.slice ao m cap],.int .u8 1] w fun e w'=>e = .returned (.bool true)∧Below w.heap.size w w':=by
  have HB:=hid (below_box w (.cells #[.int .u8 k,.int .i64 n,.string nm,.int .u8 tk,.string tn,.int .i64 tz,.slice ao m cap] 62))
  go_enter Tryz.func118,Tryz.ntmps118
  go_wp2_with fail
  go_ret
  exact⟨rfl,HB.out⟩
theorem right_2 (k n tk tz:Int) (nm tn:ByteArray) (ao:Option Addr) (m cap:Nat) (w:World):Calls Tryz.prog 118 #[.agg #[.int .u8 k,.int .i64 n,.string nm,.int .u8 tk,.string tn,.int .i64 tz,.slice ao m cap],.int .u8 2] w fun e w'=>e = .returned (.bool true)∧Below w.heap.size w w':=by
  have HB:=hid (below_box w (.cells #[.int .u8 k,.int .i64 n,.string nm,.int .u8 tk,.string tn,.int .i64 tz,.slice ao m cap] 62))
  go_enter Tryz.func118,Tryz.ntmps118
  go_wp2_with fail
  go_ret
  exact⟨rfl,HB.out⟩
theorem right_3 (k n tk tz:Int) (nm tn:ByteArray) (ao:Option Addr) (m cap:Nat) (w:World):Calls Tryz.prog 118 #[.agg #[.int .u8 k,.int .i64 n,.string nm,.int .u8 tk,.string tn,.int .i64 tz,.slice ao m cap],.int .u8 3] w fun e w'=>e = .returned (.bool (decide (k=3 ∨ k=4 ∨ k=5)))∧Below w.heap.size w w':=by
  have HB:=hid (below_box w (.cells #[.int .u8 k,.int .i64 n,.string nm,.int .u8 tk,.string tn,.int .i64 tz,.slice ao m cap] 62))
  by_cases h3:k=3
  · subst h3
    go_enter Tryz.func118,Tryz.ntmps118
    go_wp2_with fail
    go_ret
    exact⟨rfl,HB.out⟩
  by_cases h4:k=4
  · subst h4
    go_enter Tryz.func118,Tryz.ntmps118
    go_wp2_with fail
    go_ret
    exact⟨rfl,HB.out⟩
  have HF:=hid (show decide (k=3 ∨ k=4 ∨ k=5)=(k == 5) by simp [h3,h4];rfl)
  have q3:(k == 3)=false:=beq_eq_false_iff_ne.2 h3
  have q4:(k == 4)=false:=beq_eq_false_iff_ne.2 h4
  clear h3 h4
  go_enter Tryz.func118,Tryz.ntmps118
  go_wp2_with fail
  go_ret
  exact⟨by rw [HF.out];rfl,HB.out⟩
theorem right_4 (k n tk tz:Int) (nm tn:ByteArray) (ao:Option Addr) (m cap:Nat) (w:World):Calls Tryz.prog 118 #[.agg #[.int .u8 k,.int .i64 n,.string nm,.int .u8 tk,.string tn,.int .i64 tz,.slice ao m cap],.int .u8 4] w fun e w'=>e = .returned (.bool (decide (k=7)))∧Below w.heap.size w w':=by
  have HB:=hid (below_box w (.cells #[.int .u8 k,.int .i64 n,.string nm,.int .u8 tk,.string tn,.int .i64 tz,.slice ao m cap] 62))
  go_enter Tryz.func118,Tryz.ntmps118
  go_wp2_with fail
  go_ret
  exact⟨rfl,HB.out⟩
end
end Go.Proofs.YtdhieihcmnpneaaGreatDoor
namespace Go.Proofs.YtdhieihcmnpneaaGreatDoor
open Lib (hid)
set_option maxHeartbeats 40000000
open Go.RowKit
set_option maxRecDepth 100000
structure FrmW (w:World) (s v:Array Value) (W:World):Prop where
  below:Below w.heap.size w W
  s:W.heap[w.heap.size]? = some (.cells s 64)
  z:W.heap[w.heap.size+1]? = some (.cells #[.bool false,.int .u8 0,.bool false,.bool false,.bool false] 160)
  c:W.heap[w.heap.size+1+1]? = some (.cells v 160)
theorem FrmW.step {w W W':World} {s v:Array Value} (h:FrmW w s v W) (hb:Below W.heap.size W W'):FrmW w s v W':=
  have hs:=(Array.getElem?_eq_some_iff.1 h.c).1
  ⟨h.below.trans (hb.mono (by omega)),(hb.block _ (by omega)).trans h.s,(hb.block _ (by omega)).trans h.z,(hb.block _ (by omega)).trans h.c⟩
theorem FrmW.mk3 (w:World) (s v:Array Value):FrmW w s v (((w.alloc (.cells s 64)).alloc (.cells #[.bool false,.int .u8 0,.bool false,.bool false,.bool false] 160)).alloc (.cells v 160)).drew:=by
  refine⟨(((below_box w _).alloc (by simp) _).alloc (by simp;omega) _).drew, ?_, ?_, ?_⟩
  · show (((w.alloc _).alloc _).alloc _).heap[w.heap.size]? = _
    rw [Below.heap_alloc _ _ _ (by simp;omega),Below.heap_alloc _ _ _ (by simp)]
    exact (MapKept.heap_alloc _ _).1
  · show (((w.alloc _).alloc _).alloc _).heap[w.heap.size+1]? = _
    rw [Below.heap_alloc _ _ _ (by simp),show w.heap.size+1=(w.alloc (.cells s 64)).heap.size by simp]
    exact (MapKept.heap_alloc _ _).1
  · show (((w.alloc _).alloc _).alloc _).heap[w.heap.size+1+1]? = _
    rw [show w.heap.size+1+1=((w.alloc (.cells s 64)).alloc (.cells #[.bool false,.int .u8 0,.bool false,.bool false,.bool false] 160)).heap.size by simp]
    exact (MapKept.heap_alloc _ _).1
theorem sfrm_v (B c i:Nat) (rx:Bool) (r:Int) (k tk tz xk xn xtk xtz yk yn ytk ytz:Int) (nm tn xm xtn ym ytn:ByteArray) (xo yo bo eo:Option Addr) (xl xc yl yc bl bc el ec:Nat) (w:World) (h:Ck B c i w) (hnm:nm.size≤9223372036854775807) (htn:tn.size≤9223372036854775807)
    (hlk:lookI k kvs=some (.agg #[.bool true,.int .u8 1,.bool false,.bool false,.bool false])) (HRX:∀ w,Calls Tryz.prog 118 #[.agg #[.int .u8 xk,.int .i64 xn,.string xm,.int .u8 xtk,.string xtn,.int .i64 xtz,.slice xo xl xc],.int .u8 1] w fun e w'=>e = .returned (.bool rx)∧Below w.heap.size w w')
    (hr:r=sfR rx (noneH ⟨yk,yn,ym,ytk,ytn,ytz⟩ yl) (decide (bl=0)) (decide (el=0)) (if isName nm.data.toList=true then tyForm tk tn.data.toList tz else 1)) :
    Calls Tryz.prog 107 #[.pointer (some ⟨c,0,none⟩),.agg #[.int .u8 k,.string nm,.int .u8 tk,.string tn,.int .i64 tz,.int .u8 xk,.int .i64 xn,.string xm,.int .u8 xtk,.string xtn,.int .i64 xtz,.slice xo xl xc,.int .u8 yk,.int .i64 yn,.string ym,.int .u8 ytk,.string ytn,.int .i64 ytz,.slice yo yl yc,.slice bo bl bc,.slice eo el ec]] w fun e w'=>e=frmE r (.agg #[.bool true,.int .u8 1,.bool false,.bool false,.bool false])∧Below w.heap.size w w':=by
  have hc:=h.lt
  obtain⟨-,-,m1,m2,-,c1,-,hM⟩:=h.reads
  have hml:=hM.lt
  obtain⟨S,hS⟩:∃ S:Array Value,S=#[.int .u8 k,.string nm,.int .u8 tk,.string tn,.int .i64 tz,.int .u8 xk,.int .i64 xn,.string xm,.int .u8 xtk,.string xtn,.int .i64 xtz,.slice xo xl xc,.int .u8 yk,.int .i64 yn,.string ym,.int .u8 ytk,.string ytn,.int .i64 ytz,.slice yo yl yc,.slice bo bl bc,.slice eo el ec]:=⟨_,rfl⟩
  obtain⟨w1,hw1⟩:∃ u,u=(w.alloc (.cells S 64)).alloc (.cells #[.bool false,.int .u8 0,.bool false,.bool false,.bool false] 160):=⟨_,rfl⟩
  have hb1:Below w.heap.size w w1:=by rw [hw1];exact (below_box w _).alloc (by simp) _
  have hz1:w1.heap.size=w.heap.size+2:=by rw [hw1];simp
  have hl1:=look_s hM hlk w1.drew (hb1.block _ hml)
  have hl2:=look_s hM hlk (w1.alloc (.cells #[.bool false,.int .u8 0,.bool false,.bool false,.bool false] 160)).drew ((Below.heap_alloc _ _ _ (by omega)).trans (hb1.block _ hml))
  have c1a:w1.cell? ⟨c,1,none⟩ = some (.map (some m2)):=by rw [hb1.cell hc];exact c1
  have c1b:(w1.alloc (.cells #[.bool false,.int .u8 0,.bool false,.bool false,.bool false] 160)).cell? ⟨c,1,none⟩ = some (.map (some m2)):=by rw [World.cell?_alloc_lt _ _ _ (by show c < w1.heap.size;omega)];exact c1a
  have H3:=hid (FrmW.mk3 w S #[.bool true,.int .u8 1,.bool false,.bool false,.bool false])
  obtain⟨W3,hW3⟩:∃ W3,W3=(w1.alloc (.cells #[.bool true,.int .u8 1,.bool false,.bool false,.bool false] 160)).drew:=⟨_,rfl⟩
  rw [← hw1,← hW3] at H3
  rw [hw1] at hl1 hl2 c1a c1b hW3
  rw [hS] at hl1 hl2 c1a c1b hW3 H3
  have HW:=hid hW3
  obtain⟨ry,hry⟩:∃ b,b=noneH ⟨yk,yn,ym,ytk,ytn,ytz⟩ yl:=⟨_,rfl⟩
  have HNY:=hid (fun w=>none_any ⟨yk,yn,ym,ytk,ytn,ytz⟩ yo yl yc w)
  rw [← hry] at hr HNY
  have hlb:=len_eq bl
  have hle:=len_eq el
  obtain⟨rb,hrb⟩:∃ b,b=decide (bl=0):=⟨_,rfl⟩
  obtain⟨ro,hro⟩:∃ b,b=decide (el=0):=⟨_,rfl⟩
  rw [← hrb] at hr hlb
  rw [← hro] at hr hle
  have HNM:=hid (name_any nm hnm)
  have HCT:=hid (ctype_any tk tz tn htn)
  obtain⟨f,hf⟩:∃ f,f=tyForm tk tn.data.toList tz:=⟨_,rfl⟩
  have hfc:=tyForm_cases tk tn.data.toList tz
  obtain⟨rn,hrn⟩:∃ b,b=isName nm.data.toList:=⟨_,rfl⟩
  rw [← hf] at hfc HCT hr
  rw [← hrn] at hr HNM
  clear hf hrn
  have HR:=hid hr
  have HRX:=hid HRX
  have hzz:w.heap.size+1+1 < W3.heap.size:=(Array.getElem?_eq_some_iff.1 H3.out.c).1
  clear hry hrb hro h hM hW3 hr hlk hw1 hb1 hz1 hS
  go_enter Tryz.func107,Tryz.ntmps107
  go_wp2_with fail
  go_region
  all_goals
    rw [← HW.out]
    clear c1 c1a c1b hl1 hl2
    obtain⟨s0,s1,s2,s3,s4,s5,s6,s7,s8,s9,s10,s11,s12,s13,s14,s15,s16,s17,s18,s19,s20⟩:=own21 H3.out.s
    obtain⟨z0,z1,z2,z3,z4⟩:=own5 H3.out.z
    obtain⟨c0,c1,c2,c3,c4⟩:=own5 H3.out.c
    go_wp2_with fail
    refine (must_yes _).mono ?_;rintro e w' ⟨rfl,rfl⟩
    go_wp2_with fail
    refine (HRX.out _).mono ?_;rintro e w4 ⟨rfl,hb4⟩
    have H4:=hid (H3.out.step hb4)
    clear hb4 s0 s1 s2 s3 s4 s5 s6 s7 s8 s9 s10 s11 s12 s13 s14 s15 s16 s17 s18 s19 s20 z0 z1 z2 z3 z4 c0 c1 c2 c3 c4
    obtain⟨s0,s1,s2,s3,s4,s5,s6,s7,s8,s9,s10,s11,s12,s13,s14,s15,s16,s17,s18,s19,s20⟩:=own21 H4.out.s
    obtain⟨z0,z1,z2,z3,z4⟩:=own5 H4.out.z
    obtain⟨c0,c1,c2,c3,c4⟩:=own5 H4.out.c
    go_wp2_with fail
    cases rx
    · refine (must_no _).mono ?_;rintro e w' ⟨rfl,rfl⟩
      exact⟨rfl,bad_of (sfR_rx HR.out),H4.out.below⟩
    refine (must_yes _).mono ?_;rintro e w' ⟨rfl,rfl⟩
    go_wp2_with fail
    refine (HNY.out _).mono ?_;rintro e w5 ⟨rfl,hb5⟩
    have H5:=hid (H4.out.step hb5)
    clear hb5 s0 s1 s2 s3 s4 s5 s6 s7 s8 s9 s10 s11 s12 s13 s14 s15 s16 s17 s18 s19 s20 z0 z1 z2 z3 z4 c0 c1 c2 c3 c4
    obtain⟨s0,s1,s2,s3,s4,s5,s6,s7,s8,s9,s10,s11,s12,s13,s14,s15,s16,s17,s18,s19,s20⟩:=own21 H5.out.s
    obtain⟨z0,z1,z2,z3,z4⟩:=own5 H5.out.z
    obtain⟨c0,c1,c2,c3,c4⟩:=own5 H5.out.c
    go_wp2_with fail
    cases ry
    · refine (must_no _).mono ?_;rintro e w' ⟨rfl,rfl⟩
      exact⟨rfl,bad_of (sfR_ry HR.out),H5.out.below⟩
    refine (must_yes _).mono ?_;rintro e w' ⟨rfl,rfl⟩
    go_wp2_with fail
    cases rb
    · refine (must_no _).mono ?_;rintro e w' ⟨rfl,rfl⟩
      exact⟨rfl,bad_of (sfR_rb HR.out),H5.out.below⟩
    refine (must_yes _).mono ?_;rintro e w' ⟨rfl,rfl⟩
    go_wp2_with fail
    cases ro
    · refine (must_no _).mono ?_;rintro e w' ⟨rfl,rfl⟩
      exact⟨rfl,bad_of (sfR_ro HR.out),H5.out.below⟩
    refine (must_yes _).mono ?_;rintro e w' ⟨rfl,rfl⟩
    go_wp2_with fail
    refine (HNM.out _).mono ?_;rintro e w' ⟨rfl,rfl⟩
    go_wp2_with fail
    cases rn
    · refine (must_no _).mono ?_;rintro e w' ⟨rfl,rfl⟩
      exact⟨rfl,bad_of (sfR_rn HR.out),H5.out.below⟩
    refine (must_yes _).mono ?_;rintro e w' ⟨rfl,rfl⟩
    go_wp2_with fail
    refine (HCT.out _).mono ?_;rintro e w6 hct
    obtain⟨he1,hb6⟩:=hct
    have H6:=hid (H5.out.step hb6)
    clear hb6 s0 s1 s2 s3 s4 s5 s6 s7 s8 s9 s10 s11 s12 s13 s14 s15 s16 s17 s18 s19 s20 z0 z1 z2 z3 z4 c0 c1 c2 c3 c4
    obtain⟨s0,s1,s2,s3,s4,s5,s6,s7,s8,s9,s10,s11,s12,s13,s14,s15,s16,s17,s18,s19,s20⟩:=own21 H6.out.s
    obtain⟨z0,z1,z2,z3,z4⟩:=own5 H6.out.z
    obtain⟨c0,c1,c2,c3,c4⟩:=own5 H6.out.c
    rcases hfc with rfl|rfl|rfl
    rotate_left
    · subst he1
      exact⟨rfl,bad_of (sfR_f HR.out),H6.out.below⟩
    · subst he1
      exact⟨rfl,bad3_of (sfR_f HR.out),H6.out.below⟩
    rw [ended_ok rfl] at he1
    subst he1
    have f0:w6.frozen? ⟨w.heap.size+1,0,none⟩ = false:=Lib.frozen_of_heap H6.out.z 0
    have f1:w6.frozen? ⟨w.heap.size+1,1,none⟩ = false:=Lib.frozen_of_heap H6.out.z 1
    have f2:w6.frozen? ⟨w.heap.size+1,2,none⟩ = false:=Lib.frozen_of_heap H6.out.z 2
    have f3:w6.frozen? ⟨w.heap.size+1,3,none⟩ = false:=Lib.frozen_of_heap H6.out.z 3
    have f4:w6.frozen? ⟨w.heap.size+1,4,none⟩ = false:=Lib.frozen_of_heap H6.out.z 4
    go_wp2_with fail
    have G:=fun (s:Array Value) (a0 a1 a2 a3 a4:Value) (_:FrmW w s #[a0,a1,a2,a3,a4] w6)=>own5 (set5 H6.out.z a0 a1 a2 a3 a4)
    obtain⟨g0,g1,g2,g3,g4⟩:=G _ _ _ _ _ _ H6.out
    exact bodyPost_ret (by simp [results,Tryz.results107,go_sem,g0,g1,g2,g3,g4]) rfl ⟨good_of (sfR_yesN HR.out),below_set5 H6.out.below (by omega) _ _ _ _ _⟩
end Go.Proofs.YtdhieihcmnpneaaGreatDoor
namespace Go.Proofs.YtdhieihcmnpneaaGreatDoor
open Lib (hid)
set_option maxHeartbeats 40000000
open Go.RowKit
set_option maxRecDepth 100000
theorem sfrm_o (B c i:Nat) (x:Int) (y b o:Bool) (rx:Bool) (r:Int) (k tk tz xk xn xtk xtz yk yn ytk ytz:Int) (nm tn xm xtn ym ytn:ByteArray) (xo yo bo eo:Option Addr) (xl xc yl yc bl bc el ec:Nat) (w:World) (h:Ck B c i w)
    (hlk:lookI k kvs=some (.agg #[.bool false,.int .u8 x,.bool y,.bool b,.bool o])) (HRX:∀ w,Calls Tryz.prog 118 #[.agg #[.int .u8 xk,.int .i64 xn,.string xm,.int .u8 xtk,.string xtn,.int .i64 xtz,.slice xo xl xc],.int .u8 x] w fun e w'=>e = .returned (.bool rx)∧Below w.heap.size w w')
    (hr:r=sfR rx (y || noneH ⟨yk,yn,ym,ytk,ytn,ytz⟩ yl) (b || decide (bl=0)) (o || decide (el=0)) (if nm.data.toList = [] ∧ noTy tk tn tz=true then 0 else 1)) :
    Calls Tryz.prog 107 #[.pointer (some ⟨c,0,none⟩),.agg #[.int .u8 k,.string nm,.int .u8 tk,.string tn,.int .i64 tz,.int .u8 xk,.int .i64 xn,.string xm,.int .u8 xtk,.string xtn,.int .i64 xtz,.slice xo xl xc,.int .u8 yk,.int .i64 yn,.string ym,.int .u8 ytk,.string ytn,.int .i64 ytz,.slice yo yl yc,.slice bo bl bc,.slice eo el ec]] w fun e w'=>e=frmE r (.agg #[.bool false,.int .u8 x,.bool y,.bool b,.bool o])∧Below w.heap.size w w':=by
  have hc:=h.lt
  obtain⟨-,-,m1,m2,-,c1,-,hM⟩:=h.reads
  have hml:=hM.lt
  obtain⟨S,hS⟩:∃ S:Array Value,S=#[.int .u8 k,.string nm,.int .u8 tk,.string tn,.int .i64 tz,.int .u8 xk,.int .i64 xn,.string xm,.int .u8 xtk,.string xtn,.int .i64 xtz,.slice xo xl xc,.int .u8 yk,.int .i64 yn,.string ym,.int .u8 ytk,.string ytn,.int .i64 ytz,.slice yo yl yc,.slice bo bl bc,.slice eo el ec]:=⟨_,rfl⟩
  obtain⟨w1,hw1⟩:∃ u,u=(w.alloc (.cells S 64)).alloc (.cells #[.bool false,.int .u8 0,.bool false,.bool false,.bool false] 160):=⟨_,rfl⟩
  have hb1:Below w.heap.size w w1:=by rw [hw1];exact (below_box w _).alloc (by simp) _
  have hz1:w1.heap.size=w.heap.size+2:=by rw [hw1];simp
  have hl1:=look_s hM hlk w1.drew (hb1.block _ hml)
  have hl2:=look_s hM hlk (w1.alloc (.cells #[.bool false,.int .u8 0,.bool false,.bool false,.bool false] 160)).drew ((Below.heap_alloc _ _ _ (by omega)).trans (hb1.block _ hml))
  have c1a:w1.cell? ⟨c,1,none⟩ = some (.map (some m2)):=by rw [hb1.cell hc];exact c1
  have c1b:(w1.alloc (.cells #[.bool false,.int .u8 0,.bool false,.bool false,.bool false] 160)).cell? ⟨c,1,none⟩ = some (.map (some m2)):=by rw [World.cell?_alloc_lt _ _ _ (by show c < w1.heap.size;omega)];exact c1a
  have H3:=hid (FrmW.mk3 w S #[.bool false,.int .u8 x,.bool y,.bool b,.bool o])
  obtain⟨W3,hW3⟩:∃ W3,W3=(w1.alloc (.cells #[.bool false,.int .u8 x,.bool y,.bool b,.bool o] 160)).drew:=⟨_,rfl⟩
  rw [← hw1,← hW3] at H3
  rw [hw1] at hl1 hl2 c1a c1b hW3
  rw [hS] at hl1 hl2 c1a c1b hW3 H3
  have HW:=hid hW3
  obtain⟨ry,hry⟩:∃ b,b=noneH ⟨yk,yn,ym,ytk,ytn,ytz⟩ yl:=⟨_,rfl⟩
  have HNY:=hid (fun w=>none_any ⟨yk,yn,ym,ytk,ytn,ytz⟩ yo yl yc w)
  rw [← hry] at hr HNY
  have hlb:=len_eq bl
  have hle:=len_eq el
  obtain⟨rb,hrb⟩:∃ b,b=decide (bl=0):=⟨_,rfl⟩
  obtain⟨ro,hro⟩:∃ b,b=decide (el=0):=⟨_,rfl⟩
  rw [← hrb] at hr hlb
  rw [← hro] at hr hle
  obtain⟨rt,hrt⟩:∃ b,b=noTy tk tn tz:=⟨_,rfl⟩
  have hq:=noty_is hrt.symm
  rw [← hrt] at hr
  clear hrt
  have HR:=hid hr
  have HRX:=hid HRX
  have hzz:w.heap.size+1+1 < W3.heap.size:=(Array.getElem?_eq_some_iff.1 H3.out.c).1
  clear hry hrb hro h hM hW3 hr hlk hw1 hb1 hz1 hS
  go_enter Tryz.func107,Tryz.ntmps107
  go_wp2_with fail
  go_region
  all_goals
    rw [← HW.out]
    clear c1 c1a c1b hl1 hl2
    obtain⟨s0,s1,s2,s3,s4,s5,s6,s7,s8,s9,s10,s11,s12,s13,s14,s15,s16,s17,s18,s19,s20⟩:=own21 H3.out.s
    obtain⟨z0,z1,z2,z3,z4⟩:=own5 H3.out.z
    obtain⟨c0,c1,c2,c3,c4⟩:=own5 H3.out.c
    go_wp2_with fail
    refine (must_yes _).mono ?_;rintro e w' ⟨rfl,rfl⟩
    go_wp2_with fail
    refine (HRX.out _).mono ?_;rintro e w4 ⟨rfl,hb4⟩
    have H4:=hid (H3.out.step hb4)
    clear hb4 s0 s1 s2 s3 s4 s5 s6 s7 s8 s9 s10 s11 s12 s13 s14 s15 s16 s17 s18 s19 s20 z0 z1 z2 z3 z4 c0 c1 c2 c3 c4
    obtain⟨s0,s1,s2,s3,s4,s5,s6,s7,s8,s9,s10,s11,s12,s13,s14,s15,s16,s17,s18,s19,s20⟩:=own21 H4.out.s
    obtain⟨z0,z1,z2,z3,z4⟩:=own5 H4.out.z
    obtain⟨c0,c1,c2,c3,c4⟩:=own5 H4.out.c
    go_wp2_with fail
    cases rx
    · refine (must_no _).mono ?_;rintro e w' ⟨rfl,rfl⟩
      exact⟨rfl,bad_of (sfR_rx HR.out),H4.out.below⟩
    refine (must_yes _).mono ?_;rintro e w' ⟨rfl,rfl⟩
    cases y
    case' false =>
      go_wp2_with fail
      refine (HNY.out _).mono ?_;rintro e w5 ⟨rfl,hb5⟩
      have H5:=hid (H4.out.step hb5)
      clear hb5 s0 s1 s2 s3 s4 s5 s6 s7 s8 s9 s10 s11 s12 s13 s14 s15 s16 s17 s18 s19 s20 z0 z1 z2 z3 z4 c0 c1 c2 c3 c4
      obtain⟨s0,s1,s2,s3,s4,s5,s6,s7,s8,s9,s10,s11,s12,s13,s14,s15,s16,s17,s18,s19,s20⟩:=own21 H5.out.s
      obtain⟨z0,z1,z2,z3,z4⟩:=own5 H5.out.z
      obtain⟨c0,c1,c2,c3,c4⟩:=own5 H5.out.c
      go_wp2_with fail
      cases ry
      · refine (must_no _).mono ?_;rintro e w' ⟨rfl,rfl⟩
        exact⟨rfl,bad_of (sfR_ry HR.out),H5.out.below⟩
      refine (must_yes _).mono ?_;rintro e w' ⟨rfl,rfl⟩
    case' true =>
      obtain⟨w5,hw5⟩:∃ u,u=w4:=⟨_,rfl⟩
      subst hw5
      have H5:=H4
      go_wp2_with fail
      refine (must_yes _).mono ?_;rintro e w' ⟨rfl,rfl⟩
    all_goals
      cases b
      case' false =>
        go_wp2_with fail
        cases rb
        · refine (must_no _).mono ?_;rintro e w' ⟨rfl,rfl⟩
          exact⟨rfl,bad_of (sfR_rb HR.out),H5.out.below⟩
        refine (must_yes _).mono ?_;rintro e w' ⟨rfl,rfl⟩
      case' true =>
        go_wp2_with fail
        refine (must_yes _).mono ?_;rintro e w' ⟨rfl,rfl⟩
      all_goals
        cases o
        case' false =>
          go_wp2_with fail
          cases ro
          · refine (must_no _).mono ?_;rintro e w' ⟨rfl,rfl⟩
            exact⟨rfl,bad_of (sfR_ro HR.out),H5.out.below⟩
          refine (must_yes _).mono ?_;rintro e w' ⟨rfl,rfl⟩
        case' true =>
          go_wp2_with fail
          refine (must_yes _).mono ?_;rintro e w' ⟨rfl,rfl⟩
        all_goals
          by_cases he:nm.data.toList = []
          · have t1:=emp_yes he
            have t2:=nil_yes he
            have HE:=hid he
            clear he
            go_wp2_with fail
            cases rt
            · refine (must_no _).mono ?_;rintro e w' ⟨rfl,rfl⟩
              exact⟨rfl,bad_of (sfR_rt HR.out),H5.out.below⟩
            refine (must_yes _).mono ?_;rintro e w' ⟨rfl,rfl⟩
            have f0:w5.frozen? ⟨w.heap.size+1,0,none⟩ = false:=Lib.frozen_of_heap H5.out.z 0
            have f1:w5.frozen? ⟨w.heap.size+1,1,none⟩ = false:=Lib.frozen_of_heap H5.out.z 1
            have f2:w5.frozen? ⟨w.heap.size+1,2,none⟩ = false:=Lib.frozen_of_heap H5.out.z 2
            have f3:w5.frozen? ⟨w.heap.size+1,3,none⟩ = false:=Lib.frozen_of_heap H5.out.z 3
            have f4:w5.frozen? ⟨w.heap.size+1,4,none⟩ = false:=Lib.frozen_of_heap H5.out.z 4
            go_wp2_with fail
            have G:=fun (s:Array Value) (a0 a1 a2 a3 a4:Value) (_:FrmW w s #[a0,a1,a2,a3,a4] w5)=>own5 (set5 H5.out.z a0 a1 a2 a3 a4)
            obtain⟨g0,g1,g2,g3,g4⟩:=G _ _ _ _ _ _ H5.out
            exact bodyPost_ret (by simp [results,Tryz.results107,go_sem,g0,g1,g2,g3,g4]) rfl ⟨good_of (by rw [HR.out];simp [sfR,HE.out]),below_set5 H5.out.below (by omega) _ _ _ _ _⟩
          · have t1:=emp_no he
            have HE:=hid he
            clear he
            go_wp2_with fail
            refine (must_no _).mono ?_;rintro e w' ⟨rfl,rfl⟩
            exact⟨rfl,bad_of (sfR_nm HR.out HE.out),H5.out.below⟩
end Go.Proofs.YtdhieihcmnpneaaGreatDoor
