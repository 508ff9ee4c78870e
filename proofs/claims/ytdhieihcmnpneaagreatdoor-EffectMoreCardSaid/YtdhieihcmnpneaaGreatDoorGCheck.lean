/- The show layer's checker: a new one, one item more, whether an expression is none. -/
import Derived.Test.YtdhieihcmnpneaaGreatDoorRows
import Derived.Test.YtdhieihcmnpneaaGreatDoorGMem
import Derived.Laws.StructEq
import Derived.RegionTactic
import Derived.ChangeAlike
namespace Go.Proofs.YtdhieihcmnpneaaGreatDoor
open Lib (hid)
set_option maxRecDepth 100000
set_option maxHeartbeats 1000000
open Go.RowKit
structure Only (c:Nat) (w w':World):Prop where
  os:w'.os=w.os
  tape:w'.tape=w.tape
  output:w'.output=w.output
  size:w.heap.size≤w'.heap.size
  block:∀ k,k < w.heap.size→k ≠ c→w'.heap[k]? = w.heap[k]?
theorem Only.refl (c:Nat) (w:World):Only c w w:=⟨rfl,rfl,rfl,Nat.le_refl _,fun _ _ _=>rfl⟩
theorem Only.trans {c:Nat} {a b w:World} (h:Only c a b) (k:Only c b w):Only c a w:=
  ⟨k.os.trans h.os,k.tape.trans h.tape,k.output.trans h.output,Nat.le_trans h.size k.size,fun i hi hc=>(k.block i (Nat.lt_of_lt_of_le hi h.size) hc).trans (h.block i hi hc)⟩
theorem Only.of {c:Nat} {w w':World} (h:Below w.heap.size w w'):Only c w w':=⟨h.os,h.tape,h.output,h.size,fun k hk _=>h.block k hk⟩
theorem Only.more {c:Nat} {a w w':World} (h:Only c a w) (k:Below w.heap.size w w'):Only c a w':=h.trans (.of k)
theorem Only.alloc {c:Nat} {a w:World} (h:Only c a w) (o:Obj):Only c a (w.alloc o):=h.more (below_box w o)
theorem Only.cell {c:Nat} {a w:World} (h:Only c a w) (j:Nat) (v:Value):Only c a (w.setCell ⟨c,j,none⟩ v):=
  h.trans ⟨rfl,rfl,rfl,by simp [World.setCell],fun _ _ hk=>Below.heap_setCell _ _ _ _ (by simpa using hk)⟩
theorem Only.below {B c:Nat} {w w':World} (h:Only c w w') (hB:B≤c) (hs:B≤w.heap.size):Below B w w':=⟨h.os,h.tape,h.output,h.size,fun k hk=>h.block k (by omega) (by omega)⟩
theorem Only.own {c:Nat} {w w':World} {o:Obj} (h:Only c (w.alloc o) w') (hc:c < w.heap.size):w'.heap[w.heap.size]? = some o:=by
  rw [h.block _ (by simp) (by omega)]
  exact (MapKept.heap_alloc w _).1
def Ck (B c n:Nat) (w:World):Prop:=
  B≤c∧∃ m1 m2,w.heap[c]? = some (.cells #[.map (some m1),.map (some m2),.int .i64 n] 141 (0,0))∧IsMap w m1 kvx∧IsMap w m2 kvs
theorem Ck.lt {B c n:Nat} {w:World} (h:Ck B c n w):c < w.heap.size:=by
  obtain⟨_,m1,m2,hb,_⟩:=h
  exact (Array.getElem?_eq_some_iff.1 hb).1
theorem Ck.kept {B c n:Nat} {w w':World} (h:Ck B c n w) (hb:Below w.heap.size w w'):Ck B c n w':=by
  have hlt:=h.lt
  obtain⟨hB,m1,m2,hc,h1,h2⟩:=h
  exact⟨hB,m1,m2,(hb.block c hlt).trans hc,h1.of (hb.block _ h1.lt),h2.of (hb.block _ h2.lt)⟩
theorem Ck.alloc {B c n:Nat} {w:World} (h:Ck B c n w) (o:Obj):Ck B c n (w.alloc o):=h.kept (below_box w o)
theorem Ck.next {B c n:Nat} {w:World} (h:Ck B c n w):Ck B c (n+1) (w.setCell ⟨c,2,none⟩ (.int .i64 ((n:Int)+1))):=by
  obtain⟨hB,m1,m2,hc,h1,h2⟩:=h
  refine⟨hB,m1,m2, ?_,h1.of (Below.heap_setCell _ _ _ _ (map_ne h1 hc)),h2.of (Below.heap_setCell _ _ _ _ (map_ne h2 hc))⟩
  simp [World.setCell,Array.getElem?_modify,hc]
theorem Ck.reads {B c n:Nat} {w:World} (h:Ck B c n w):w.cell? ⟨c,2,none⟩ = some (.int .i64 n)∧w.frozen? ⟨c,2,none⟩ = false∧∃ m1 m2,w.cell? ⟨c,0,none⟩ = some (.map (some m1))∧w.cell? ⟨c,1,none⟩ = some (.map (some m2))∧IsMap w m1 kvx∧IsMap w m2 kvs:=by
  obtain⟨hB,m1,m2,hc,h1,h2⟩:=h
  exact⟨by rw [Lib.cell_of_heap hc];rfl,Lib.frozen_of_heap hc 2,m1,m2,by rw [Lib.cell_of_heap hc];rfl,by rw [Lib.cell_of_heap hc];rfl,h1,h2⟩
def Went (B c:Nat) (r:Except Int Nat) (w:World) (e:Ending) (w':World):Prop:=
  Only c w w'∧(∀ n,r = .ok n→e = .returned (.tuple #[])∧Ck B c n w')∧(∀ k,r = .error k→e = .panicked (fl k))
theorem Went.ok {B c n:Nat} {r:Except Int Nat} {w w':World} (hr:r = .ok n) (h:Only c w w') (hc:Ck B c n w'):Went B c r w (.returned (.tuple #[])) w':=
  ⟨h,(fun m e=>by rw [hr] at e;cases e;exact⟨rfl,hc⟩),(fun k e=>by rw [hr] at e;cases e)⟩
theorem Went.no {B c:Nat} {k:Int} {r:Except Int Nat} {w w':World} (hr:r = .error k) (h:Only c w w'):Went B c r w (.panicked (fl k)) w':=
  ⟨h,(fun m e=>by rw [hr] at e;cases e),(fun j e=>by rw [hr] at e;cases e;rfl)⟩
theorem Went.yes {B c n:Nat} {r:Except Int Nat} {w w':World} {e:Ending} (h:Went B c r w e w') (hr:r = .ok n):e = .returned (.tuple #[])∧Ck B c n w'∧Only c w w':=⟨(h.2.1 n hr).1,(h.2.1 n hr).2,h.1⟩
theorem Went.not {B c:Nat} {k:Int} {r:Except Int Nat} {w w':World} {e:Ending} (h:Went B c r w e w') (hr:r = .error k):e = .panicked (fl k)∧Only c w w':=⟨h.2.2 k hr,h.1⟩
theorem newck_any (w:World):Calls Tryz.prog 44 #[] w fun e w'=>∃ c,e = .returned (.pointer (some ⟨c,0,none⟩))∧Ck w.heap.size c 0 w'∧Below w.heap.size w w':=by
  have HX:=hid (xkinds_any w)
  have HS:=hid (fun w=>skinds_any w)
  go_enter Tryz.func44,Tryz.ntmps44
  go_wp2_with fail
  refine HX.out.mono ?_;rintro e w1 ⟨m1,rfl,hm1,hM1,hb1⟩
  have hs1:=hb1.size
  go_wp2_with fail
  refine (HS.out w1).mono ?_;rintro e w2 ⟨m2,rfl,hm2,hM2,hb2⟩
  have hs2:=hb2.size
  have HB:=hid (hb1.trans (hb2.mono hs1))
  have HM1:=hid (hM1.of (hb2.block _ hM1.lt))
  have HM2:=hid hM2
  clear hM1 hM2 hb1 hb2
  go_wp2_with fail
  go_ret
  refine⟨w2.heap.size,rfl,⟨by omega,m1,m2,(MapKept.heap_alloc w2 _).1, ?_, ?_⟩,HB.out.alloc (by omega) _⟩
  · exact HM1.out.of (Below.heap_alloc _ _ _ HM1.out.lt)
  · exact HM2.out.of (Below.heap_alloc _ _ _ HM2.out.lt)
def itemR (d n:Nat):Except Int Nat:=if 16 < d ∨ 1024 < n+1 then .error 3 else .ok (n+1)
theorem item_any (B c n d:Nat) (w:World) (h:Ck B c n w) (hn:n≤1000000) (hd:d≤1000000) :
    Calls Tryz.prog 106 #[.pointer (some ⟨c,0,none⟩),.int .i64 (d:Int)] w (Went B c (itemR d n) w):=by
  by_cases h1:16 < d
  · have HF:=hid (show itemR d n = .error 3 from if_pos (.inl h1))
    have hi:(16:Int) < (d:Int):=by omega
    clear h
    go_enter Tryz.func106,Tryz.ntmps106
    go_wp2_with (go_at_call 74;refine (most_no _ _ (by omega) _).mono ?_;rintro e w' ⟨rfl,rfl⟩)
    exact⟨rfl,Went.no HF.out (Only.refl _ _)⟩
  · obtain⟨q2,f2,-⟩:=h.reads
    have HN:=hid h.next
    have HC:=hid ((Only.refl c w).cell 2 (.int .i64 ((n:Int)+1)))
    have hi:(d:Int)≤(16:Int):=by omega
    by_cases h2:1024 < n+1
    · have HF:=hid (show itemR d n = .error 3 from if_pos (.inr h2))
      have hj:(1024:Int) < (n:Int)+1:=by omega
      clear h h1 h2
      go_enter Tryz.func106,Tryz.ntmps106
      go_wp2_with fail
      refine (most_yes _ _ (by omega) _).mono ?_;rintro e w' ⟨rfl,rfl⟩
      go_wp2_with fail
      refine (most_no _ _ (by omega) _).mono ?_;rintro e w' ⟨rfl,rfl⟩
      go_wp2_with fail
      exact⟨rfl,Went.no HF.out HC.out⟩
    · have HF:=hid (show itemR d n = .ok (n+1) from if_neg (by omega))
      have hj:(n:Int)+1≤(1024:Int):=by omega
      clear h h1 h2
      go_enter Tryz.func106,Tryz.ntmps106
      go_wp2_with fail
      refine (most_yes _ _ (by omega) _).mono ?_;rintro e w' ⟨rfl,rfl⟩
      go_wp2_with fail
      refine (most_yes _ _ (by omega) _).mono ?_;rintro e w' ⟨rfl,rfl⟩
      go_wp2_with fail
      go_end0
      exact Went.ok HF.out HC.out HN.out
end Go.Proofs.YtdhieihcmnpneaaGreatDoor
/- Whether an expression is none, by the show layer's own function. -/
namespace Go.Proofs.YtdhieihcmnpneaaGreatDoor
open Lib (hid)
set_option maxRecDepth 100000
set_option maxHeartbeats 1000000
open Go.RowKit
def noTy (tk:Int) (tn:ByteArray) (tz:Int):Bool:=decide (tk=0∧tn.data.toList = [] ∧ tz=0)
theorem run_noty (tk tz:Int) (tn:ByteArray) (w:World):(binOp .eql 30 (.agg #[.int .u8 tk,.string tn,.int .i64 tz]) (.agg #[.int .u8 0,.string ⟨#[]⟩,.int .i64 0])).run Tryz.prog w = .ok (.bool (noTy tk tn tz)) w:=by
  simp [go_sem]
  rw [bytes_list]
  unfold noTy
  by_cases h1:tk=0 <;> by_cases h2:tn.data.toList = [] <;> by_cases h3:tz=0 <;> simp [h1,h2,h3]
theorem noty_is {tk tz:Int} {tn:ByteArray} {b:Bool} (h:noTy tk tn tz=b) (w:World):(binOp .eql 30 (.agg #[.int .u8 tk,.string tn,.int .i64 tz]) (.agg #[.int .u8 0,.string ⟨#[]⟩,.int .i64 0])).run Tryz.prog w = .ok (.bool b) w:=by
  rw [← h];exact run_noty tk tz tn w
theorem none_kind (k n tk tz:Int) (nm tn:ByteArray) (ao:Option Addr) (m cap:Nat) (h:¬ k=0) (w:World):Calls Tryz.prog 108 #[.agg #[.int .u8 k,.int .i64 n,.string nm,.int .u8 tk,.string tn,.int .i64 tz,.slice ao m cap]] w fun e w'=>e = .returned (.bool false)∧Below w.heap.size w w':=by
  have HB:=hid (below_box w (.cells #[.int .u8 k,.int .i64 n,.string nm,.int .u8 tk,.string tn,.int .i64 tz,.slice ao m cap] 62))
  have q0:(k == 0)=false:=beq_eq_false_iff_ne.2 h
  clear h
  go_enter Tryz.func108,Tryz.ntmps108
  go_wp2_with fail
  go_ret
  exact⟨rfl,HB.out⟩
theorem none_n (k n tk tz:Int) (nm tn:ByteArray) (ao:Option Addr) (m cap:Nat) (hk:k=0) (h:¬ n=0) (w:World):Calls Tryz.prog 108 #[.agg #[.int .u8 k,.int .i64 n,.string nm,.int .u8 tk,.string tn,.int .i64 tz,.slice ao m cap]] w fun e w'=>e = .returned (.bool false)∧Below w.heap.size w w':=by
  have HB:=hid (below_box w (.cells #[.int .u8 k,.int .i64 n,.string nm,.int .u8 tk,.string tn,.int .i64 tz,.slice ao m cap] 62))
  subst hk
  have q0:(n == 0)=false:=beq_eq_false_iff_ne.2 h
  clear h
  go_enter Tryz.func108,Tryz.ntmps108
  go_wp2_with fail
  go_ret
  exact⟨rfl,HB.out⟩
theorem none_name (k n tk tz:Int) (nm tn:ByteArray) (ao:Option Addr) (m cap:Nat) (hk:k=0) (hn:n=0) (h:¬ nm.data.toList = []) (w:World):Calls Tryz.prog 108 #[.agg #[.int .u8 k,.int .i64 n,.string nm,.int .u8 tk,.string tn,.int .i64 tz,.slice ao m cap]] w fun e w'=>e = .returned (.bool false)∧Below w.heap.size w w':=by
  have HB:=hid (below_box w (.cells #[.int .u8 k,.int .i64 n,.string nm,.int .u8 tk,.string tn,.int .i64 tz,.slice ao m cap] 62))
  subst hk
  subst hn
  have t1:=emp_no h
  clear h
  go_enter Tryz.func108,Tryz.ntmps108
  go_wp2_with fail
  go_ret
  exact⟨rfl,HB.out⟩
theorem none_type (k n tk tz:Int) (nm tn:ByteArray) (ao:Option Addr) (m cap:Nat) (hk:k=0) (hn:n=0) (he:nm.data.toList = []) (ht:noTy tk tn tz=false) (w:World):Calls Tryz.prog 108 #[.agg #[.int .u8 k,.int .i64 n,.string nm,.int .u8 tk,.string tn,.int .i64 tz,.slice ao m cap]] w fun e w'=>e = .returned (.bool false)∧Below w.heap.size w w':=by
  have HB:=hid (below_box w (.cells #[.int .u8 k,.int .i64 n,.string nm,.int .u8 tk,.string tn,.int .i64 tz,.slice ao m cap] 62))
  subst hk
  subst hn
  have t1:=emp_yes he
  have t2:=nil_yes he
  clear he
  have hq:=noty_is ht
  clear ht
  go_enter Tryz.func108,Tryz.ntmps108
  go_wp2_with fail
  go_ret
  exact⟨rfl,HB.out⟩
theorem none_args (k n tk tz:Int) (nm tn:ByteArray) (ao:Option Addr) (m cap:Nat) (hk:k=0) (hn:n=0) (he:nm.data.toList = []) (ht:noTy tk tn tz=true) (hm:¬ m=0) (w:World):Calls Tryz.prog 108 #[.agg #[.int .u8 k,.int .i64 n,.string nm,.int .u8 tk,.string tn,.int .i64 tz,.slice ao m cap]] w fun e w'=>e = .returned (.bool false)∧Below w.heap.size w w':=by
  have HB:=hid (below_box w (.cells #[.int .u8 k,.int .i64 n,.string nm,.int .u8 tk,.string tn,.int .i64 tz,.slice ao m cap] 62))
  subst hk
  subst hn
  have t1:=emp_yes he
  have t2:=nil_yes he
  clear he
  have hq:=noty_is ht
  clear ht
  have q0:((m:Int) == 0)=false:=beq_eq_false_iff_ne.2 (by omega)
  clear hm
  go_enter Tryz.func108,Tryz.ntmps108
  go_wp2_with fail
  go_ret
  exact⟨rfl,HB.out⟩
theorem none_yes (k n tk tz:Int) (nm tn:ByteArray) (ao:Option Addr) (m cap:Nat) (hk:k=0) (hn:n=0) (he:nm.data.toList = []) (ht:noTy tk tn tz=true) (hm:m=0) (w:World):Calls Tryz.prog 108 #[.agg #[.int .u8 k,.int .i64 n,.string nm,.int .u8 tk,.string tn,.int .i64 tz,.slice ao m cap]] w fun e w'=>e = .returned (.bool true)∧Below w.heap.size w w':=by
  have HB:=hid (below_box w (.cells #[.int .u8 k,.int .i64 n,.string nm,.int .u8 tk,.string tn,.int .i64 tz,.slice ao m cap] 62))
  subst hk
  subst hn
  have t1:=emp_yes he
  have t2:=nil_yes he
  clear he
  have hq:=noty_is ht
  clear ht
  subst hm
  go_enter Tryz.func108,Tryz.ntmps108
  go_wp2_with fail
  go_ret
  exact⟨rfl,HB.out⟩
def noneH (h:Hd) (len:Nat):Bool:=decide (h.k=0∧h.n=0∧h.name.data.toList = []) && noTy h.tk h.tn h.tz && decide (len=0)
theorem none_any (h:Hd) (ao:Option Addr) (m cap:Nat) (w:World):Calls Tryz.prog 108 #[.agg #[.int .u8 h.k,.int .i64 h.n,.string h.name,.int .u8 h.tk,.string h.tn,.int .i64 h.tz,.slice ao m cap]] w fun e w'=>e = .returned (.bool (noneH h m))∧Below w.heap.size w w':=by
  by_cases hk:h.k=0
  · by_cases hn:h.n=0
    · by_cases he:h.name.data.toList = []
      · cases ht:noTy h.tk h.tn h.tz with
        | false=>rw [show noneH h m=false by simp [noneH,ht]];exact none_type _ _ _ _ _ _ ao m cap hk hn he ht w
        | true =>
          by_cases hm:m=0
          · rw [show noneH h m=true by simp [noneH,hk,hn,he,ht,hm]];exact none_yes _ _ _ _ _ _ ao m cap hk hn he ht hm w
          · rw [show noneH h m=false by simp [noneH,hm]];exact none_args _ _ _ _ _ _ ao m cap hk hn he ht hm w
      · rw [show noneH h m=false by simp [noneH,he]];exact none_name _ _ _ _ _ _ ao m cap hk hn he w
    · rw [show noneH h m=false by simp [noneH,hn]];exact none_n _ _ _ _ _ _ ao m cap hk hn w
  · rw [show noneH h m=false by simp [noneH,hk]];exact none_kind _ _ _ _ _ _ ao m cap hk w
end Go.Proofs.YtdhieihcmnpneaaGreatDoor
/- What the show layer's checker finds in its map, and what a walk of it may begin with. -/
namespace Go.Proofs.YtdhieihcmnpneaaGreatDoor
open Lib (hid)
set_option maxRecDepth 100000
set_option maxHeartbeats 1000000
open Go.RowKit
theorem look_x2 {W:World} {m:Nat} (hm:IsMap W m kvx) {k:Int} {x:Wx} (hx:wants k=some x) (V:World) (hV:V.heap[m]? = W.heap[m]?) :
    (Instr.lookup 136 (.map (some m)) (.int .u8 k) true).run Tryz.prog V = .ok (.tuple #[.agg #[.int .i64 x.args,.bool x.number,.bool x.name,.bool x.made,.string x.sign],.bool true]) V:=
  run_look uMapX uKindX (hm.of hV) true k x.val (by rw [look_kvx,hx];rfl)
theorem zeroWx (w:World):(zeroValue 157).run Tryz.prog w = .ok (.agg #[.int .i64 0,.bool false,.bool false,.bool false,.string ⟨#[]⟩]) w:=by kernel_rfl
theorem look_x0 {W:World} {m:Nat} (hm:IsMap W m kvx) {k:Int} (hx:wants k=none) (V:World) (hV:V.heap[m]? = W.heap[m]?) :
    (Instr.lookup 136 (.map (some m)) (.int .u8 k) true).run Tryz.prog V = .ok (.tuple #[.agg #[.int .i64 0,.bool false,.bool false,.bool false,.string ⟨#[]⟩],.bool false]) V:=
  run_look_none uMapX uKindX (hm.of hV) true k _ (zeroWx V) (by rw [look_kvx,hx];rfl)
theorem below_two (w:World) (o p:Obj):Below w.heap.size w ((w.alloc o).alloc p).drew:=((below_box w o).alloc (by simp) p).drew
theorem two_heap {w:World} {m:Nat} (h:m < w.heap.size) (o p:Obj):((w.alloc o).alloc p).drew.heap[m]? = w.heap[m]?:=by
  show ((w.alloc o).alloc p).heap[m]? = _
  rw [Below.heap_alloc _ _ _ (by simp;omega)]
  exact Below.heap_alloc _ _ _ h
theorem Ends.to0 {r:Int} {w w':World} {e:Ending} (h:Ends r w e w') (hr:r=0):e = .returned (.tuple #[])∧Below w.heap.size w w':=⟨h.1.trans (ended_ok hr),h.2⟩
theorem Ends.to1 {r:Int} {w w':World} {e:Ending} (h:Ends r w e w') (hr:r=1):e = .panicked (fl 1)∧Below w.heap.size w w':=by subst hr;exact⟨h.1,h.2⟩
theorem Ends.to3 {r:Int} {w w':World} {e:Ending} (h:Ends r w e w') (hr:r=3):e = .panicked (fl 3)∧Below w.heap.size w w':=by subst hr;exact⟨h.1,h.2⟩
theorem tyForm_cases (tk:Int) (tn:List UInt8) (tz:Int):tyForm tk tn tz=0 ∨ tyForm tk tn tz=1 ∨ tyForm tk tn tz=3:=by
  unfold tyForm
  repeat' split
  all_goals simp
theorem form_none (B c i:Nat) (k n tk tz:Int) (nm tn:ByteArray) (ao:Option Addr) (m cap:Nat) (w:World) (h:Ck B c i w) (hx:wants k=none) :
    Calls Tryz.prog 119 #[.pointer (some ⟨c,0,none⟩),.agg #[.int .u8 k,.int .i64 n,.string nm,.int .u8 tk,.string tn,.int .i64 tz,.slice ao m cap]] w (Ends 1 w):=by
  have HB:=hid (below_two w (.cells #[.int .u8 k,.int .i64 n,.string nm,.int .u8 tk,.string tn,.int .i64 tz,.slice ao m cap] 62) (.cells #[.int .i64 0,.bool false,.bool false,.bool false,.string ⟨#[]⟩] 157))
  have hc:=h.lt
  obtain⟨-,-,m1,m2,c0,-,hM,-⟩:=h.reads
  have hml:=hM.lt
  have hl1:=look_x0 hM hx (w.alloc (.cells #[.int .u8 k,.int .i64 n,.string nm,.int .u8 tk,.string tn,.int .i64 tz,.slice ao m cap] 62)).drew (Below.heap_alloc _ _ _ hml)
  have hl2:=look_x0 hM hx ((w.alloc (.cells #[.int .u8 k,.int .i64 n,.string nm,.int .u8 tk,.string tn,.int .i64 tz,.slice ao m cap] 62)).alloc (.cells #[.int .i64 0,.bool false,.bool false,.bool false,.string ⟨#[]⟩] 157)).drew (two_heap hml _ _)
  clear h hM hx
  go_enter Tryz.func119,Tryz.ntmps119
  go_wp2_with fail
  go_region
  all_goals
    go_wp2_with fail
    refine (must_no _).mono ?_;rintro e w' ⟨rfl,rfl⟩
    exact⟨rfl,Ends.arg rfl HB.out⟩
end Go.Proofs.YtdhieihcmnpneaaGreatDoor
