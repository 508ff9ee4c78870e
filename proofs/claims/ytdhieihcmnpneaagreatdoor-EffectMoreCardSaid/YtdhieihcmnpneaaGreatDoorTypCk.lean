/- What the types layer's checker is in memory, and its small askers. -/
import Derived.Test.YtdhieihcmnpneaaGreatDoorRows
import Derived.Test.YtdhieihcmnpneaaGreatDoorTypNames
import Derived.Test.YtdhieihcmnpneaaGreatDoorGMem
import Derived.Deep.LoopGhost
namespace Go.Proofs.YtdhieihcmnpneaaGreatDoor
open Lib (hid)
set_option maxHeartbeats 2000000
set_option maxRecDepth 100000
open Go.RowKit
attribute [local go_sem ↓] Go.wp_at_zero Go.wp_at_succ
def ft (p k:Int):List PanicEntry:=[{ v:=.iface 101 (.agg #[.int .i64 p,.int .i64 k]),recovered:=false }]
def Ty.val (t:Ty):Value:=.agg #[.int .u8 t.k,.string t.n,.int .i64 t.z]
def TyE (p:Int) (r:Except Int Ty) (w:World) (e:Ending) (w':World):Prop:=
  Below w.heap.size w w'∧(∀ t,r = .ok t→e = .returned t.val)∧(∀ k,r = .error k→e = .panicked (ft p k))
theorem TyE.ok {p:Int} {r:Except Int Ty} {t:Ty} {w w':World} (hr:r = .ok t) (hb:Below w.heap.size w w'):TyE p r w (.returned t.val) w':=
  ⟨hb,(fun u e=>by rw [hr] at e;cases e;rfl),(fun k e=>by rw [hr] at e;cases e)⟩
theorem TyE.no {p:Int} {r:Except Int Ty} {k:Int} {w w':World} (hr:r = .error k) (hb:Below w.heap.size w w'):TyE p r w (.panicked (ft p k)) w':=
  ⟨hb,(fun u e=>by rw [hr] at e;cases e),(fun k e=>by rw [hr] at e;cases e;rfl)⟩
theorem TyE.yes {p:Int} {r:Except Int Ty} {t:Ty} {w w':World} {e:Ending} (h:TyE p r w e w') (hr:r = .ok t):e = .returned t.val∧Below w.heap.size w w':=⟨h.2.1 t hr,h.1⟩
theorem TyE.not {p:Int} {r:Except Int Ty} {k:Int} {w w':World} {e:Ending} (h:TyE p r w e w') (hr:r = .error k):e = .panicked (ft p k)∧Below w.heap.size w w':=⟨h.2.2 k hr,h.1⟩
def askE (p k:Int):Ending:=if k=0 then .returned (.tuple #[]) else .panicked (ft p k)
theorem askE_0 {p k:Int} (h:k=0):askE p k = .returned (.tuple #[]):=if_pos h
theorem askE_no {p k:Int} (h:¬ k=0):askE p k = .panicked (ft p k):=if_neg h
theorem ask_yes {p k:Int} (h:k=0):Ending.returned (.tuple #[])=askE p k:=(if_pos h).symm
theorem ask_no {p k j:Int} (h:k=j) (hj:j ≠ 0):Ending.panicked (ft p j)=askE p k:=by subst h;exact (if_neg hj).symm
structure Kc where
  g:Nat
  n:Nat
  cap:Nat
  ao:Option Addr
  mr:Nat
  ms:Nat
  mf:Nat
def Kc.cells (K:Kc) (e:En) (tv:Value) (p:Int) (res:Ty):Array Value:=#[e.rv,e.sv,e.fv,tv,.map (some K.mr),.slice K.ao K.n K.cap,.map (some K.ms),.map (some K.mf),.int .i64 p,.int .u8 res.k,.string res.n,.int .i64 res.z]
structure Tk (c:Nat) (e:En) (tv:Value) (p:Int) (res:Ty) (w:World):Prop where
  ein:EIn w w.heap.size e
  it:∃ K:Kc,w.heap[c]? = some (.cells (K.cells e tv p res) 112 (0,0))∧IsNm w K.mr (rnames e.records)∧IsNm w K.ms (fnames e.shared)∧IsNm w K.mf (nnames e.funcs) ∧
    K.n=e.records.length∧K.n≤9223372036854775807∧(0 < K.n→K.ao=some ⟨K.g,0,none⟩ ∧ K.g < w.heap.size∧K.g ≠ c)∧∀ i r,e.records[i]? = some r→∃ m,w.cell? ⟨K.g,i,none⟩ = some (.map (some m))∧IsNm w m (fnames r.fields)∧m ≠ c
theorem Tk.lt {c:Nat} {e:En} {tv:Value} {p:Int} {res:Ty} {w:World} (h:Tk c e tv p res w):c < w.heap.size:=by
  obtain⟨_,K,hb,_⟩:=h
  exact (Array.getElem?_eq_some_iff.1 hb).1
theorem Tk.kept {c:Nat} {e:En} {tv:Value} {p:Int} {res:Ty} {w w':World} (h:Tk c e tv p res w) (hb:Below w.heap.size w w'):Tk c e tv p res w':=by
  have hlt:=h.lt
  obtain⟨he,K,h1,h2,h3,h4,h5,h6,h7,h8⟩:=h
  refine⟨(he.keeps hb).up hb.size,K,(hb.block c hlt).trans h1,h2.of (hb.block _ h2.lt),h3.of (hb.block _ h3.lt),h4.of (hb.block _ h4.lt),h5,h6,fun h0=>⟨(h7 h0).1,Nat.lt_of_lt_of_le (h7 h0).2.1 hb.size,(h7 h0).2.2⟩,fun i r hr=>?_⟩
  obtain⟨m,g1,g2,g3⟩:=h8 i r hr
  have h0:0 < K.n:=by rw [h5];exact Nat.lt_of_le_of_lt (Nat.zero_le _) (List.getElem?_eq_some_iff.1 hr).1
  exact⟨m,by rw [hb.cell (p:=⟨K.g,i,none⟩) (h7 h0).2.1];exact g1,g2.of (hb.block _ g2.lt),g3⟩
theorem Tk.alloc {c:Nat} {e:En} {tv:Value} {p:Int} {res:Ty} {w:World} (h:Tk c e tv p res w) (o:Obj):Tk c e tv p res (w.alloc o):=h.kept (below_box w o)
theorem Tk.cells {c:Nat} {e:En} {tv:Value} {p:Int} {res:Ty} {w:World} (h:Tk c e tv p res w):∃ K:Kc,(w.cell? ⟨c,0,none⟩ = some e.rv∧w.cell? ⟨c,1,none⟩ = some e.sv∧w.cell? ⟨c,2,none⟩ = some e.fv∧w.cell? ⟨c,3,none⟩ = some tv∧w.cell? ⟨c,4,none⟩ = some (.map (some K.mr))∧w.cell? ⟨c,5,none⟩ = some (.slice K.ao K.n K.cap) ∧
    w.cell? ⟨c,6,none⟩ = some (.map (some K.ms))∧w.cell? ⟨c,7,none⟩ = some (.map (some K.mf))∧w.cell? ⟨c,8,none⟩ = some (.int .i64 p)∧w.cell? ⟨c,9,none⟩ = some (.int .u8 res.k)∧w.cell? ⟨c,10,none⟩ = some (.string res.n)∧w.cell? ⟨c,11,none⟩ = some (.int .i64 res.z)) ∧
    (∀ j,w.frozen? ⟨c,j,none⟩ = false)∧IsNm w K.mr (rnames e.records)∧IsNm w K.ms (fnames e.shared)∧IsNm w K.mf (nnames e.funcs) ∧
    K.n=e.records.length∧K.n≤9223372036854775807∧(0 < K.n→K.ao=some ⟨K.g,0,none⟩ ∧ K.g < w.heap.size∧K.g ≠ c)∧∀ i r,e.records[i]? = some r→∃ m,w.cell? ⟨K.g,i,none⟩ = some (.map (some m))∧IsNm w m (fnames r.fields)∧m ≠ c:=by
  obtain⟨he,K,h1,h2,h3,h4,h5,h6,h7,h8⟩:=h
  exact⟨K,⟨by rw [Lib.cell_of_heap h1];rfl,by rw [Lib.cell_of_heap h1];rfl,by rw [Lib.cell_of_heap h1];rfl,by rw [Lib.cell_of_heap h1];rfl,by rw [Lib.cell_of_heap h1];rfl,by rw [Lib.cell_of_heap h1];rfl,by rw [Lib.cell_of_heap h1];rfl,by rw [Lib.cell_of_heap h1];rfl,by rw [Lib.cell_of_heap h1];rfl,by rw [Lib.cell_of_heap h1];rfl,by rw [Lib.cell_of_heap h1];rfl,by rw [Lib.cell_of_heap h1];rfl⟩,fun j=>Lib.frozen_of_heap h1 j,h2,h3,h4,h5,h6,h7,h8⟩
theorem Tk.set {c:Nat} {e:En} {tv:Value} {p:Int} {res:Ty} {w w':World} (h:Tk c e tv p res w) (p':Int) (res':Ty) (hs:w.heap.size=w'.heap.size) (hr:∀ k,k ≠ c→w'.heap[k]? = w.heap[k]?)
    (hc:∀ K:Kc,w.heap[c]? = some (.cells (K.cells e tv p res) 112 (0,0))→w'.heap[c]? = some (.cells (K.cells e tv p' res') 112 (0,0)))
    (hein:EIn w' w'.heap.size e):Tk c e tv p' res' w':=by
  obtain⟨he,K,h1,h2,h3,h4,h5,h6,h7,h8⟩:=h
  refine⟨hein,K,hc K h1,h2.of (hr _ (h2.ne h1)),h3.of (hr _ (h3.ne h1)),h4.of (hr _ (h4.ne h1)),h5,h6,fun h0=>⟨(h7 h0).1,by rw [← hs];exact (h7 h0).2.1,(h7 h0).2.2⟩,fun i r hri=>?_⟩
  obtain⟨m,g1,g2,g3⟩:=h8 i r hri
  have h0:0 < K.n:=by rw [h5];exact Nat.lt_of_le_of_lt (Nat.zero_le _) (List.getElem?_eq_some_iff.1 hri).1
  exact⟨m,by simp only [World.cell?,hr _ (h7 h0).2.2];exact g1,g2.of (hr _ (g2.ne h1)),g3⟩
def Lc (w:World):Value→List Fd→Prop
  | v,[]=>v = .pointer none
  | v,f :: r=>∃ g v',v = .pointer (some ⟨g,0,none⟩)∧w.heap[g]? = some (.cells #[.string f.name,.int .u8 f.t.k,.string f.t.n,.int .i64 f.t.z,v'] 166 (0,0))∧Lc w v' r
theorem Lc.kept {w w':World} (hb:∀ (k:Nat) (o:Array Value),w.heap[k]? = some (Obj.cells o 166 (0,0))→w'.heap[k]? = w.heap[k]?):∀ {l:List Fd} {v:Value},Lc w v l→Lc w' v l
  | [],_,h=>h
  | _ :: _,_,⟨g,v',h1,h2,h3⟩=>⟨g,v',h1,(hb g _ h2).trans h2,Lc.kept hb h3⟩
theorem Lc.below {w w':World} {l:List Fd} {v:Value} (h:Lc w v l) (hb:Below w.heap.size w w'):Lc w' v l:=h.kept fun k _ hk=>hb.block k (Array.getElem?_eq_some_iff.1 hk).1
section
theorem tmust_yes (c:Nat) (k:Int) (w:World):Calls Tryz.prog 54 #[.pointer (some ⟨c,0,none⟩),.bool true,.int .i64 k] w fun e w'=>e = .returned (.tuple #[])∧w=w':=by
  go_enter Tryz.func54,Tryz.ntmps54
  go_wp2_with fail
  go_end0
  exact⟨rfl,rfl⟩
theorem tmust_no (c:Nat) (p k:Int) (w:World) (hp:w.cell? ⟨c,8,none⟩ = some (.int .i64 p)):Calls Tryz.prog 54 #[.pointer (some ⟨c,0,none⟩),.bool false,.int .i64 k] w fun e w'=>e = .panicked (ft p k)∧w=w':=by
  go_enter Tryz.func54,Tryz.ntmps54
  go_wp2_with fail
  exact⟨rfl,rfl,rfl⟩
theorem tmust_any (c:Nat) (p k:Int) (b:Bool) (w:World) (hp:w.cell? ⟨c,8,none⟩ = some (.int .i64 p)) (hk:k ≠ 0):Calls Tryz.prog 54 #[.pointer (some ⟨c,0,none⟩),.bool b,.int .i64 k] w fun e w'=>e=askE p (if b=true then 0 else k)∧w=w':=by
  cases b with
  | true=>exact (tmust_yes c k w).mono fun e w' h=>⟨h.1,h.2⟩
  | false=>exact (tmust_no c p k w hp).mono fun e w' h=>⟨by rw [h.1];exact ask_no rfl hk,h.2⟩
theorem inttype_any (w:World):Calls Tryz.prog 111 #[] w fun e w'=>e = .returned (.agg #[.int .u8 1,.string ⟨#[]⟩,.int .i64 0])∧Below w.heap.size w w':=by
  have HB:=hid (below_box w (.cells #[.int .u8 1,.string ⟨#[]⟩,.int .i64 0] 30))
  go_enter Tryz.func111,Tryz.ntmps111
  go_wp2_with fail
  exact bodyPost_ret (v:=.agg #[.int .u8 1,.string ⟨#[]⟩,.int .i64 0]) (by simp [results,Tryz.results111,go_sem]) rfl ⟨rfl,HB.out⟩
theorem niltype_any (w:World):Calls Tryz.prog 112 #[] w fun e w'=>e = .returned (.agg #[.int .u8 4,.string ⟨#[]⟩,.int .i64 0])∧Below w.heap.size w w':=by
  have HB:=hid (below_box w (.cells #[.int .u8 4,.string ⟨#[]⟩,.int .i64 0] 30))
  go_enter Tryz.func112,Tryz.ntmps112
  go_wp2_with fail
  exact bodyPost_ret (v:=.agg #[.int .u8 4,.string ⟨#[]⟩,.int .i64 0]) (by simp [results,Tryz.results112,go_sem]) rfl ⟨rfl,HB.out⟩
end
theorem tl_eq (a b:ByteArray):a.toList=b.toList ↔ a=b:=by
  rw [bytes_list,bytes_list]
  constructor
  · intro e
    obtain⟨a⟩:=a
    obtain⟨b⟩:=b
    simp at e
    rw [e]
  · rintro rfl;rfl
theorem str_eq (a b:ByteArray):(a.toList == b.toList)=decide (a=b):=by
  by_cases h:a=b
  · subst h;simp
  · rw [decide_eq_false h]
    exact beq_eq_false_iff_ne.2 (fun e=>h ((tl_eq a b).1 e))
theorem run_tyeq (t u:Ty) (w:World):(binOp .eql 30 (.agg #[.int .u8 t.k,.string t.n,.int .i64 t.z]) (.agg #[.int .u8 u.k,.string u.n,.int .i64 u.z])).run Tryz.prog w = .ok (.bool (decide (t=u))) w:=by
  obtain⟨k,n,z⟩:=t
  obtain⟨k',n',z'⟩:=u
  simp [go_sem]
  by_cases h1:k=k' <;> by_cases h2:n=n' <;> by_cases h3:z=z' <;> simp [tl_eq,h1,h2,h3]
theorem findL_cons (s:ByteArray) (f:Fd) (r:List Fd):findL s (f :: r)=if f.name=s then some f else findL s r:=rfl
def FindE (s:ByteArray) (l:List Fd) (w:World) (e:Ending):Prop:=
  (findL s l=none→e = .returned (.pointer none))∧∀ f,findL s l=some f→∃ g v',e = .returned (.pointer (some ⟨g,0,none⟩))∧w.heap[g]? = some (.cells #[.string f.name,.int .u8 f.t.k,.string f.t.n,.int .i64 f.t.z,v'] 166 (0,0))
theorem own5b {w:World} {b:Nat} {T:TypeId} {fr:Nat × Nat} {a0 a1 a2 a3 a4:Value} (h:w.heap[b]? = some (.cells #[a0,a1,a2,a3,a4] T fr)) :
    w.cell? ⟨b,0,none⟩ = some a0∧w.cell? ⟨b,1,none⟩ = some a1∧w.cell? ⟨b,2,none⟩ = some a2∧w.cell? ⟨b,3,none⟩ = some a3∧w.cell? ⟨b,4,none⟩ = some a4:=
  ⟨by rw [Lib.cell_of_heap h];rfl,by rw [Lib.cell_of_heap h];rfl,by rw [Lib.cell_of_heap h];rfl,by rw [Lib.cell_of_heap h];rfl,by rw [Lib.cell_of_heap h];rfl⟩
theorem find_any (s:ByteArray) (l:List Fd) (v:Value) (w:World) (h:Lc w v l):Calls Tryz.prog 96 #[v,.string s] w fun e w'=>FindE s l w e∧w=w':=by
  obtain⟨R,hR⟩:∃ R:Ending→Prop,R=FindE s l w:=⟨_,rfl⟩
  rw [← hR]
  have HR:=hid hR
  have HL:=hid h
  clear h hR
  obtain⟨ao,rfl⟩:∃ ao,v = .pointer ao:=by
    cases l with
    | nil=>exact⟨none,HL.out⟩
    | cons f r=>obtain⟨g,v',h1,_⟩:=HL.out;exact⟨_,h1⟩
  go_enter Tryz.func96,Tryz.ntmps96
  go_wp2_with fail
  go_loopg [0] l.length (fun g q wr=>∃ r:List Fd,r.length=g∧wr=w∧Lc w q r∧Hid (findL s l=findL s r))
  case atStart=>exact⟨l,rfl,rfl,HL.out,hid rfl⟩
  case round =>
    obtain⟨r,hlen,rfl,hL,hF⟩:=hrel
    cases r with
    | nil =>
      obtain rfl:_=_:=hL
      have HX:=hid (show R (.returned (.pointer none)) by rw [HR.out];exact⟨(fun _=>rfl),(fun f hf=>by rw [hF.out] at hf;cases hf)⟩)
      clear hF hlen
      go_wp2_with fail
      go_ret
      exact⟨HX.out,rfl⟩
    | cons f r =>
      obtain⟨g,v',rfl,hb,hL2⟩:=hL
      obtain⟨o0,o1,o2,o3,o4⟩:=own5b hb
      have HB:=hid hb
      have HL2:=hid hL2
      by_cases hs:f.name=s
      · have hq:(f.name.toList == s.toList)=true:=by rw [str_eq];exact decide_eq_true hs
        have hfl:findL s l=some f:=by rw [hF.out,findL_cons,if_pos hs]
        have HX:=hid (show R (.returned (.pointer (some ⟨g,0,none⟩))) by
          rw [HR.out]
          exact⟨(fun hn=>by rw [hfl] at hn;cases hn),(fun f' hf=>by rw [hfl] at hf;cases hf;exact⟨g,v',rfl,HB.out⟩)⟩)
        clear hfl
        clear hs hF hb hL2 hlen
        go_wp2_with fail
        go_ret
        exact⟨HX.out,rfl⟩
      · have hq:(f.name.toList == s.toList)=false:=by rw [str_eq];exact decide_eq_false hs
        have HF2:=hid (show findL s l=findL s r by rw [hF.out,findL_cons,if_neg hs])
        obtain⟨g',rfl⟩:∃ g',gk=g'+1:=⟨gk - 1,by simp at hlen;omega⟩
        have hl2:r.length=g':=by simpa using hlen
        clear hs hF hb hL2 hlen
        go_wp2_with fail
        go_roundg g'
        case rel=>exact⟨r,hl2,rfl,HL2.out,HF2⟩
        case measure=>omega
end Go.Proofs.YtdhieihcmnpneaaGreatDoor
