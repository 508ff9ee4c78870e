/- Whether two sizes are too much; whether two lists of effects are alike. -/
import Derived.Test.YtdhieihcmnpneaaGreatDoorRows
import Derived.Test.YtdhieihcmnpneaaGreatDoorGTw
import Derived.Test.YtdhieihcmnpneaaGreatDoorGSize
import Derived.Test.YtdhieihcmnpneaaGreatDoorEffOwn
import Derived.Test.YtdhieihcmnpneaaGreatDoorTypWt
import Derived.Test.YtdhieihcmnpneaaGreatDoorGNew
import Derived.Deep.Upon
namespace Go.Proofs.YtdhieihcmnpneaaGreatDoor
set_option maxHeartbeats 4000000
open Go.RowKit
set_option maxRecDepth 100000
theorem beyond2_any (b:Nat) (m n:Int) (T:TypeId) (fr:Nat × Nat) (w:World) (m0:0≤m) (m1:m≤262145) (n0:0≤n) (n1:n≤262145) (h:w.heap[b]? = some (.cells #[.int .i64 m,.int .i64 n] T fr)) :
    Calls Tryz.prog 4 #[.slice (some ⟨b,0,none⟩) 2 2] w fun e w'=>e = .returned (.bool (decide (262144 < m+n)))∧w=w':=by
  have c0:w.cell? ⟨b,0,none⟩ = some (.int .i64 m):=by rw [Lib.cell_of_heap h];rfl
  have c1:w.cell? ⟨b,1,none⟩ = some (.int .i64 n):=by rw [Lib.cell_of_heap h];rfl
  clear h
  by_cases hm:262144 < m
  · have HD:=Lib.hid (decide_eq_true (show 262144 < m+n by omega))
    go_enter Tryz.func4,Tryz.ntmps4
    go_wp2_with fail
    refine wp_loop_rounds 3 ?_
    rw [rounds_succ]
    go_wp2_with fail
    go_ret
    exact⟨by rw [HD.out];rfl,rfl⟩
  · by_cases hn:262144 < n
    · have HD:=Lib.hid (decide_eq_true (show 262144 < m+n by omega))
      go_enter Tryz.func4,Tryz.ntmps4
      go_wp2_with fail
      refine wp_loop_rounds 3 ?_
      rw [rounds_succ]
      go_wp2_with fail
      rw [rounds_succ]
      go_wp2_with fail
      go_ret
      exact⟨by rw [HD.out];rfl,rfl⟩
    · by_cases hs:262144 < m+n
      · have HD:=Lib.hid (decide_eq_true (show 262144 < m+n by omega))
        go_enter Tryz.func4,Tryz.ntmps4
        go_wp2_with fail
        refine wp_loop_rounds 3 ?_
        rw [rounds_succ]
        go_wp2_with fail
        rw [rounds_succ]
        go_wp2_with fail
        go_ret
        exact⟨by rw [HD.out];rfl,rfl⟩
      · have HD:=Lib.hid (decide_eq_false (show ¬ 262144 < m+n by omega))
        go_enter Tryz.func4,Tryz.ntmps4
        go_wp2_with fail
        refine wp_loop_rounds 3 ?_
        rw [rounds_succ]
        go_wp2_with fail
        rw [rounds_succ]
        go_wp2_with fail
        rw [rounds_succ]
        go_wp2_with fail
        go_ret
        exact⟨by rw [HD.out];rfl,rfl⟩
def Reads (w:World) (ao:Option Addr) (n:Nat) (x:List Int):Prop:=x.length=n∧(0 < n→∃ g,ao=some ⟨g,0,none⟩ ∧ g < w.heap.size∧∀ i v,x[i]? = some v→w.cell? ⟨g,i,none⟩ = some (.int .u8 v))
theorem Reads.below {w w':World} {ao:Option Addr} {n:Nat} {x:List Int} (h:Reads w ao n x) (hb:Below w.heap.size w w'):Reads w' ao n x:=
  ⟨h.1,fun hn=>by
    obtain⟨g,e,hg,hx⟩:=h.2 hn
    exact⟨g,e,Nat.lt_of_lt_of_le hg hb.size,fun i v hv=>(hb.cell (p:=⟨g,i,none⟩) hg).trans (hx i v hv)⟩⟩
theorem Reads.less {w:World} {ao:Option Addr} {n m:Nat} {x:List Int} (h:Reads w ao n x) (hm:m≤n):Reads w ao m (x.take m):=
  ⟨by rw [List.length_take,h.1];omega,fun h0=>by
    obtain⟨g,e,hg,hx⟩:=h.2 (by omega)
    refine⟨g,e,hg,fun i v hv=>hx i v ?_⟩
    rw [List.getElem?_take] at hv
    split at hv
    · exact hv
    · cases hv⟩
end Go.Proofs.YtdhieihcmnpneaaGreatDoor
namespace Go.Proofs.YtdhieihcmnpneaaGreatDoor
set_option maxHeartbeats 4000000
open Go.RowKit
set_option maxRecDepth 100000
theorem same_eff (ao bo:Option Addr) (n ca cb:Nat) (x:List Int) (w:World) (hn:n≤1000000) (ha:Reads w ao n x) (hb:Reads w bo n x) :
    Calls Tryz.prog 9 #[.slice ao n ca,.slice bo n cb] w fun e w'=>e = .returned (.bool true)∧Below w.heap.size w w':=by
  go_enter Tryz.func9,Tryz.ntmps9
  go_wp2_with fail
  go_loopw [5] (fun i wr=>∃ k:Nat,k≤n∧i = .int .i64 k∧Below w.heap.size w wr) (fun i _=>n - (intOf i).toNat)
  case atStart=>exact⟨0,by omega,rfl,Below.refl _ _⟩
  case round =>
    obtain⟨k,hkN,rfl,hbk⟩:=hrel
    by_cases hk:k < n
    · obtain⟨g,rfl,hg,hga⟩:=ha.2 (by omega)
      obtain⟨g2,rfl,hg2,hgb⟩:=hb.2 (by omega)
      obtain⟨v,hv⟩:∃ v,x[k]? = some v:=⟨_,List.getElem?_eq_getElem (by rw [ha.1];exact hk)⟩
      have r0:=(hbk.cell (p:=⟨g,k,none⟩) hg).trans (hga k v hv)
      have r1:=(hbk.cell (p:=⟨g2,k,none⟩) hg2).trans (hgb k v hv)
      have hs:=hbk.size
      have hne:(v != v)=false:=by simp
      clear hga hgb hv ha hb
      go_wp2_with fail
      refine wp_mono (Q:=fun e a' w'=>e = .normal∧a'={ tmps:=#[.slice (some ⟨g,0,none⟩) n ca,.slice (some ⟨g2,0,none⟩) n cb,undef,undef,u4,.int .i64 (k:Int),.slice (some ⟨g,0,none⟩) n ca,.int .i64 (n:Int),.slice (some ⟨g2,0,none⟩) n cb,.int .i64 (n:Int),.bool false,.int .i64 (k:Int),.slice (some ⟨g,0,none⟩) n ca,.int .i64 (n:Int),.bool true,u15,u16,.slice (some ⟨g,0,none⟩) n ca,.int .i64 (k:Int),.pointer (some ⟨g,k,none⟩),.int .u8 v,.slice (some ⟨g2,0,none⟩) n cb,.int .i64 (k:Int),.pointer (some ⟨g2,k,none⟩),.int .u8 v,.bool false],defers:=[] }∧w'=wr.drew) ?_ ?_
      · refine wp_region_late (S:=fun W=>W.cell? ⟨g,k,none⟩ = some (.int .u8 v)∧W.cell? ⟨g2,k,none⟩ = some (.int .u8 v)) (fun j=>decide (9≤j)) (by kernel_rfl) ⟨r0,r1⟩ (fun hSw=>?_)
        refine wpAnyL_take (i:=0) (oi:={ dst:=some 17,op:=Op.move (Operand.tmp 0),type:=36,pos := "law.go:31", after:=#[],guard:=none }) (v:=.slice (some ⟨g,0,none⟩) n ca) rfl (by kernel_rfl) (by kernel_rfl) (by kernel_rfl) rfl (by kernel_rfl) (fun _ _ _ h=>by cases h.1) (Or.inl ⟨by rfl,fun W hW=>?_⟩) hSw ?_
        · first|(go_simp;done)|rfl
        try simp only [Act.put,q1,q2,q3]
        refine wpAnyL_take (i:=1) (oi:={ dst:=some 18,op:=Op.move (Operand.tmp 5),type:=3,pos := "law.go:31", after:=#[],guard:=none }) (v:=.int .i64 (k:Int)) rfl (by kernel_rfl) (by kernel_rfl) (by kernel_rfl) rfl (by kernel_rfl) (fun _ _ _ h=>by cases h.1) (Or.inl ⟨by rfl,fun W hW=>?_⟩) hSw ?_
        · first|(go_simp;done)|rfl
        try simp only [Act.put,q1,q2,q3]
        refine wpAnyL_take (i:=2) (oi:={ dst:=some 19,op:=Op.indexAddr 36 (Operand.tmp 17) (Operand.tmp 18),type:=0,pos := "law.go:31", after:=#[gd 0,gd 1],guard:=none }) (v:=.pointer (some ⟨g,k,none⟩)) rfl (by kernel_rfl) (by kernel_rfl) (by kernel_rfl) rfl (by kernel_rfl) (fun _ _ _ h=>by cases h.1) (Or.inl ⟨by rfl,fun W hW=>?_⟩) hSw ?_
        · (go_simp;first|done|(rw [if_neg (by omega)]))
        try simp only [Act.put,q1,q2,q3]
        refine wpAnyL_take (i:=3) (oi:={ dst:=some 20,op:=Op.load 54 (Operand.tmp 19),type:=54,pos := "law.go:31", after:=#[gd 2],guard:=none }) (v:=.int .u8 v) rfl (by kernel_rfl) (by kernel_rfl) (by kernel_rfl) rfl (by kernel_rfl) (fun _ _ _ h=>by cases h.1) (Or.inl ⟨by rfl,fun W hW=>?_⟩) hSw ?_
        · (obtain⟨s0,s1⟩:=hW;first|(go_simp;done)|rfl)
        try simp only [Act.put,q1,q2,q3]
        refine wpAnyL_take (i:=4) (oi:={ dst:=some 21,op:=Op.move (Operand.tmp 1),type:=36,pos := "law.go:31", after:=#[],guard:=none }) (v:=.slice (some ⟨g2,0,none⟩) n cb) rfl (by kernel_rfl) (by kernel_rfl) (by kernel_rfl) rfl (by kernel_rfl) (fun _ _ _ h=>by cases h.1) (Or.inl ⟨by rfl,fun W hW=>?_⟩) hSw ?_
        · first|(go_simp;done)|rfl
        try simp only [Act.put,q1,q2,q3]
        refine wpAnyL_take (i:=5) (oi:={ dst:=some 22,op:=Op.move (Operand.tmp 5),type:=3,pos := "law.go:31", after:=#[],guard:=none }) (v:=.int .i64 (k:Int)) rfl (by kernel_rfl) (by kernel_rfl) (by kernel_rfl) rfl (by kernel_rfl) (fun _ _ _ h=>by cases h.1) (Or.inl ⟨by rfl,fun W hW=>?_⟩) hSw ?_
        · first|(go_simp;done)|rfl
        try simp only [Act.put,q1,q2,q3]
        refine wpAnyL_take (i:=6) (oi:={ dst:=some 23,op:=Op.indexAddr 36 (Operand.tmp 21) (Operand.tmp 22),type:=0,pos := "law.go:31", after:=#[gd 4,gd 5],guard:=none }) (v:=.pointer (some ⟨g2,k,none⟩)) rfl (by kernel_rfl) (by kernel_rfl) (by kernel_rfl) rfl (by kernel_rfl) (fun _ _ _ h=>by cases h.1) (Or.inl ⟨by rfl,fun W hW=>?_⟩) hSw ?_
        · (go_simp;first|done|(rw [if_neg (by omega)]))
        try simp only [Act.put,q1,q2,q3]
        refine wpAnyL_take (i:=7) (oi:={ dst:=some 24,op:=Op.load 54 (Operand.tmp 23),type:=54,pos := "law.go:31", after:=#[gd 6],guard:=none }) (v:=.int .u8 v) rfl (by kernel_rfl) (by kernel_rfl) (by kernel_rfl) rfl (by kernel_rfl) (fun _ _ _ h=>by cases h.1) (Or.inl ⟨by rfl,fun W hW=>?_⟩) hSw ?_
        · (obtain⟨s0,s1⟩:=hW;first|(go_simp;done)|rfl)
        try simp only [Act.put,q1,q2,q3]
        refine wpAnyL_take (i:=8) (oi:={ dst:=some 25,op:=Op.binOp BinOp.neq 54 (Operand.tmp 20) (Operand.tmp 24) 54,type:=4,pos := "law.go:31", after:=#[gd 3,gd 7],guard:=none }) (v:=.bool false) rfl (by kernel_rfl) (by kernel_rfl) (by kernel_rfl) rfl (by kernel_rfl) (fun _ _ _ h=>by cases h.1) (Or.inl ⟨by rfl,fun W hW=>?_⟩) hSw ?_
        · (go_simp;done)
        try simp only [Act.put,q1,q2,q3]
        exact⟨by kernel_rfl,rfl,rfl,rfl⟩
      rintro e a' w' ⟨rfl,rfl,rfl⟩
      go_wp2_with fail
      go_roundw
      case rel=>exact⟨k+1,by omega,by go_num,hbk.drew⟩
      case measure=>simp [intOf];omega
    · go_wp2_with fail
      go_ret
      exact⟨rfl,hbk⟩
end Go.Proofs.YtdhieihcmnpneaaGreatDoor
