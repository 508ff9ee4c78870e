/- What a statement's own form may be, in the order in which it is asked; small facts for the walks through it. -/
import Derived.Test.YtcibiiddigpnfaaRows
import Derived.Test.YtcibiiddigpnfaaGForm
import Derived.Test.YtcibiiddigpnfaaGPlain
namespace Go.Proofs.Ytcibiiddigpnfaa
open Lib (hid)
set_option maxHeartbeats 1000000
open Go.RowKit
theorem own21 {w:World} {b:Nat} {T:TypeId} {fr:Nat × Nat} {a0 a1 a2 a3 a4 a5 a6 a7 a8 a9 a10 a11 a12 a13 a14 a15 a16 a17 a18 a19 a20:Value} (h:w.heap[b]? = some (.cells #[a0,a1,a2,a3,a4,a5,a6,a7,a8,a9,a10,a11,a12,a13,a14,a15,a16,a17,a18,a19,a20] T fr)) :
    w.cell? ⟨b,0,none⟩ = some a0∧w.cell? ⟨b,1,none⟩ = some a1∧w.cell? ⟨b,2,none⟩ = some a2∧w.cell? ⟨b,3,none⟩ = some a3∧w.cell? ⟨b,4,none⟩ = some a4∧w.cell? ⟨b,5,none⟩ = some a5∧w.cell? ⟨b,6,none⟩ = some a6∧w.cell? ⟨b,7,none⟩ = some a7∧w.cell? ⟨b,8,none⟩ = some a8∧w.cell? ⟨b,9,none⟩ = some a9∧w.cell? ⟨b,10,none⟩ = some a10∧w.cell? ⟨b,11,none⟩ = some a11∧w.cell? ⟨b,12,none⟩ = some a12∧w.cell? ⟨b,13,none⟩ = some a13∧w.cell? ⟨b,14,none⟩ = some a14∧w.cell? ⟨b,15,none⟩ = some a15∧w.cell? ⟨b,16,none⟩ = some a16∧w.cell? ⟨b,17,none⟩ = some a17∧w.cell? ⟨b,18,none⟩ = some a18∧w.cell? ⟨b,19,none⟩ = some a19∧w.cell? ⟨b,20,none⟩ = some a20:=
  ⟨by rw [Lib.cell_of_heap h];rfl,by rw [Lib.cell_of_heap h];rfl,by rw [Lib.cell_of_heap h];rfl,by rw [Lib.cell_of_heap h];rfl,by rw [Lib.cell_of_heap h];rfl,by rw [Lib.cell_of_heap h];rfl,by rw [Lib.cell_of_heap h];rfl,by rw [Lib.cell_of_heap h];rfl,by rw [Lib.cell_of_heap h];rfl,by rw [Lib.cell_of_heap h];rfl,by rw [Lib.cell_of_heap h];rfl,by rw [Lib.cell_of_heap h];rfl,by rw [Lib.cell_of_heap h];rfl,by rw [Lib.cell_of_heap h];rfl,by rw [Lib.cell_of_heap h];rfl,by rw [Lib.cell_of_heap h];rfl,by rw [Lib.cell_of_heap h];rfl,by rw [Lib.cell_of_heap h];rfl,by rw [Lib.cell_of_heap h];rfl,by rw [Lib.cell_of_heap h];rfl,by rw [Lib.cell_of_heap h];rfl⟩
theorem own5 {w:World} {b:Nat} {T:TypeId} {fr:Nat × Nat} {a0 a1 a2 a3 a4:Value} (h:w.heap[b]? = some (.cells #[a0,a1,a2,a3,a4] T fr)) :
    w.cell? ⟨b,0,none⟩ = some a0∧w.cell? ⟨b,1,none⟩ = some a1∧w.cell? ⟨b,2,none⟩ = some a2∧w.cell? ⟨b,3,none⟩ = some a3∧w.cell? ⟨b,4,none⟩ = some a4:=
  ⟨by rw [Lib.cell_of_heap h];rfl,by rw [Lib.cell_of_heap h];rfl,by rw [Lib.cell_of_heap h];rfl,by rw [Lib.cell_of_heap h];rfl,by rw [Lib.cell_of_heap h];rfl⟩
theorem set5 {w:World} {b:Nat} {T:TypeId} {fr:Nat × Nat} {a0 a1 a2 a3 a4:Value} (h:w.heap[b]? = some (.cells #[a0,a1,a2,a3,a4] T fr)) (b0 b1 b2 b3 b4:Value) :
    (((((w.setCell ⟨b,0,none⟩ b0).setCell ⟨b,1,none⟩ b1).setCell ⟨b,2,none⟩ b2).setCell ⟨b,3,none⟩ b3).setCell ⟨b,4,none⟩ b4).heap[b]? = some (.cells #[b0,b1,b2,b3,b4] T fr):=by
  simp [World.setCell,Array.getElem?_modify,h]
theorem below_set5 {B:Nat} {a w:World} (h:Below B a w) {b:Nat} (hb:B≤b) (b0 b1 b2 b3 b4:Value) :
    Below B a (((((w.setCell ⟨b,0,none⟩ b0).setCell ⟨b,1,none⟩ b1).setCell ⟨b,2,none⟩ b2).setCell ⟨b,3,none⟩ b3).setCell ⟨b,4,none⟩ b4):=
  ((((h.setCell (p:=⟨b,0,none⟩) hb b0).setCell (p:=⟨b,1,none⟩) hb b1).setCell (p:=⟨b,2,none⟩) hb b2).setCell (p:=⟨b,3,none⟩) hb b3).setCell (p:=⟨b,4,none⟩) hb b4
theorem look_s {W:World} {m:Nat} (hm:IsMap W m kvs) {k:Int} {v:Value} (hx:lookI k kvs=some v) (V:World) (hV:V.heap[m]? = W.heap[m]?) :
    (Instr.lookup 124 (.map (some m)) (.int .u8 k) true).run Try.prog V = .ok (.tuple #[v,.bool true]) V:=
  run_look uMapS uKindS (hm.of hV) true k v hx
theorem look_s0 {W:World} {m:Nat} (hm:IsMap W m kvs) {k:Int} (hx:lookI k kvs=none) (V:World) (hV:V.heap[m]? = W.heap[m]?) :
    (Instr.lookup 124 (.map (some m)) (.int .u8 k) true).run Try.prog V = .ok (.tuple #[.agg #[.bool false,.int .u8 0,.bool false,.bool false,.bool false],.bool false]) V:=
  run_look_none uMapS uKindS (hm.of hV) true k _ (by kernel_rfl) hx
def sfR (rx ry rb ro:Bool) (f:Int):Int:=if rx=false then 1 else if ry=false then 1 else if rb=false then 1 else if ro=false then 1 else f
theorem sfR_rx {r f:Int} {ry rb ro:Bool} (h:r=sfR false ry rb ro f):r=1:=h
theorem sfR_ry {r f:Int} {rb ro:Bool} (h:r=sfR true false rb ro f):r=1:=h
theorem sfR_rb {r f:Int} {ro:Bool} (h:r=sfR true true false ro f):r=1:=h
theorem sfR_ro {r f:Int} (h:r=sfR true true true false f):r=1:=h
theorem sfR_rn {r f:Int} (h:r=sfR true true true true (if false=true then f else 1)):r=1:=h
theorem sfR_f {r f:Int} (h:r=sfR true true true true (if true=true then f else 1)):r=f:=h
theorem sfR_yesN {r:Int} (h:r=sfR true true true true (if true=true then 0 else 1)):r=0:=h
theorem sfR_rt {r:Int} {p:Prop} [Decidable p] (h:r=sfR true true true true (if p∧false=true then 0 else 1)):r=1:=by rw [h];simp [sfR]
theorem sfR_nm {r:Int} {p:Prop} [Decidable p] {rt:Bool} (h:r=sfR true true true true (if p∧rt=true then 0 else 1)) (hp:¬ p):r=1:=by rw [h];simp [sfR,hp]
theorem sfR_yesZ {r:Int} {p:Prop} [Decidable p] (h:r=sfR true true true true (if p∧true=true then 0 else 1)) (hp:p):r=0:=by rw [h];simp [sfR,hp]
def frmE (r:Int) (v:Value):Ending:=if r=0 then .returned v else .panicked (fl r)
theorem frmE_0 {r:Int} {v:Value} (h:r=0):frmE r v = .returned v:=if_pos h
theorem frmE_no {r:Int} {v:Value} (h:¬ r=0):frmE r v = .panicked (fl r):=if_neg h
theorem bad_of {r:Int} {v:Value} (h:r=1):Ending.panicked (fl 1)=frmE r v:=by subst h;rfl
theorem bad3_of {r:Int} {v:Value} (h:r=3):Ending.panicked (fl 3)=frmE r v:=by subst h;rfl
theorem good_of {r:Int} {v:Value} (h:r=0):Ending.returned v=frmE r v:=by subst h;rfl
theorem len_eq (n:Nat):((n:Int) == 0)=decide (n=0):=by
  by_cases h:n=0
  · subst h;rfl
  · rw [decide_eq_false h];exact beq_eq_false_iff_ne.2 (by omega)
section
theorem right_0 (h:Hd) (ao:Option Addr) (m cap:Nat) (w:World):Calls Try.prog 96 #[.agg #[.int .u8 h.k,.int .i64 h.n,.string h.name,.int .u8 h.tk,.string h.tn,.int .i64 h.tz,.slice ao m cap],.int .u8 0] w fun e w'=>e = .returned (.bool (noneH h m))∧Below w.heap.size w w':=by
  have HB:=hid (below_box w (.cells #[.int .u8 h.k,.int .i64 h.n,.string h.name,.int .u8 h.tk,.string h.tn,.int .i64 h.tz,.slice ao m cap] 62))
  go_enter Try.func96,Try.ntmps96
  go_wp2_with (go_at_call 87;refine (none_any h ao m cap _).mono ?_;rintro e w' ⟨rfl,hb⟩)
  go_ret
  exact⟨rfl,HB.out.trans (hb.mono (by simp))⟩
theorem right_1 (k n tk tz:Int) (nm tn:ByteArray) (ao:Option Addr) (m cap:Nat) (w:World):Calls Try.prog 96 #[.agg #[.int .u8 k,.int .i64 n,.string nm,.int .u8 tk,.string tn,.int .i64 tz,.slice ao m cap],.int .u8 1] w fun e w'=>e = .returned (.bool true)∧Below w.heap.size w w':=by
  have HB:=hid (below_box w (.cells #[.int .u8 k,.int .i64 n,.string nm,.int .u8 tk,.string tn,.int .i64 tz,.slice ao m cap] 62))
  go_enter Try.func96,Try.ntmps96
  go_wp2_with fail
  go_ret
  exact⟨rfl,HB.out⟩
theorem right_2 (k n tk tz:Int) (nm tn:ByteArray) (ao:Option Addr) (m cap:Nat) (w:World):Calls Try.prog 96 #[.agg #[.int .u8 k,.int .i64 n,.string nm,.int .u8 tk,.string tn,.int .i64 tz,.slice ao m cap],.int .u8 2] w fun e w'=>e = .returned (.bool true)∧Below w.heap.size w w':=by
  have HB:=hid (below_box w (.cells #[.int .u8 k,.int .i64 n,.string nm,.int .u8 tk,.string tn,.int .i64 tz,.slice ao m cap] 62))
  go_enter Try.func96,Try.ntmps96
  go_wp2_with fail
  go_ret
  exact⟨rfl,HB.out⟩
theorem right_3 (k n tk tz:Int) (nm tn:ByteArray) (ao:Option Addr) (m cap:Nat) (w:World):Calls Try.prog 96 #[.agg #[.int .u8 k,.int .i64 n,.string nm,.int .u8 tk,.string tn,.int .i64 tz,.slice ao m cap],.int .u8 3] w fun e w'=>e = .returned (.bool (decide (k=3 ∨ k=4 ∨ k=5)))∧Below w.heap.size w w':=by
  have HB:=hid (below_box w (.cells #[.int .u8 k,.int .i64 n,.string nm,.int .u8 tk,.string tn,.int .i64 tz,.slice ao m cap] 62))
  by_cases h3:k=3
  · subst h3
    go_enter Try.func96,Try.ntmps96
    go_wp2_with fail
    go_ret
    exact⟨rfl,HB.out⟩
  by_cases h4:k=4
  · subst h4
    go_enter Try.func96,Try.ntmps96
    go_wp2_with fail
    go_ret
    exact⟨rfl,HB.out⟩
  have HF:=hid (show decide (k=3 ∨ k=4 ∨ k=5)=(k == 5) by simp [h3,h4];rfl)
  have q3:(k == 3)=false:=beq_eq_false_iff_ne.2 h3
  have q4:(k == 4)=false:=beq_eq_false_iff_ne.2 h4
  clear h3 h4
  go_enter Try.func96,Try.ntmps96
  go_wp2_with fail
  go_ret
  exact⟨by rw [HF.out];rfl,HB.out⟩
theorem right_4 (k n tk tz:Int) (nm tn:ByteArray) (ao:Option Addr) (m cap:Nat) (w:World):Calls Try.prog 96 #[.agg #[.int .u8 k,.int .i64 n,.string nm,.int .u8 tk,.string tn,.int .i64 tz,.slice ao m cap],.int .u8 4] w fun e w'=>e = .returned (.bool (decide (k=7)))∧Below w.heap.size w w':=by
  have HB:=hid (below_box w (.cells #[.int .u8 k,.int .i64 n,.string nm,.int .u8 tk,.string tn,.int .i64 tz,.slice ao m cap] 62))
  go_enter Try.func96,Try.ntmps96
  go_wp2_with fail
  go_ret
  exact⟨rfl,HB.out⟩
end
end Go.Proofs.Ytcibiiddigpnfaa
