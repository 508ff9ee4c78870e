/- Whatever reads as a program is a tree that lies in the world. -/
import Derived.Test.YtdhieihcmnpneaaGreatDoorRows
import Derived.Test.YtdhieihcmnpneaaGreatDoorGMem
import Derived.SizedLaws
import Derived.Lib.SmallJoins
import Derived.Deep.Slices
import Derived.ProofKit
import Derived.OpenShut
namespace Go.Proofs.YtdhieihcmnpneaaGreatDoor
open Go.RowKit
theorem wf_u8 {i:Int} (h:(Lit.int .u8 i).wf=true):0≤i∧i≤255:=by
  have e1:IntKind.u8.min=0:=rfl
  have e2:IntKind.u8.max=255:=rfl
  simp [Lit.wf,e1,e2] at h
  omega
theorem wf_i64 {i:Int} (h:(Lit.int .i64 i).wf=true):-9223372036854775808≤i∧i≤9223372036854775807:=by
  have e1:IntKind.i64.min = -9223372036854775808:=rfl
  have e2:IntKind.i64.max=9223372036854775807:=rfl
  simp [Lit.wf,e1,e2] at h
  omega
theorem cell_lt {w:World} {g off:Nat} {v:Value} (h:w.cell? ⟨g,off,none⟩ = some v):g < w.heap.size:=by
  by_cases hg:g < w.heap.size
  · exact hg
  · have hn:w.heap[g]? = none:=Array.getElem?_eq_none (by omega)
    simp [World.cell?,hn] at h
theorem len_mid {n:Nat} (h:n≤maxLen):n≤9223372036854775807:=by unfold maxLen at h;omega
section
variable {H:Type} {enc:TypeId × Value→H} {w:World}
theorem cell_int {t:TypeId} {k:IntKind} {n:Nat} {v:Value} {y:DataW H × List MemPlace} (ht:Tryz.prog.underlying t=some (.int k)) (h:DataW.trod enc Tryz.prog w 0 (fun _=>true) true n t [v] = some y):∃ i,v = .int k i∧(Lit.int k i).wf=true:=by
  cases n with
  | zero=>cases h
  | succ n =>
    unfold DataW.trod at h
    rw [ht] at h
    cases v <;> simp at h
    rename_i k' i
    obtain⟨⟨rfl,hw⟩,-⟩:=h
    exact⟨i,rfl,hw⟩
theorem cell_str {t:TypeId} {n:Nat} {v:Value} {y:DataW H × List MemPlace} (ht:Tryz.prog.underlying t=some .string) (h:DataW.trod enc Tryz.prog w 0 (fun _=>true) true n t [v] = some y):∃ s:ByteArray,v = .string s∧s.size≤maxLen:=by
  cases n with
  | zero=>cases h
  | succ n =>
    unfold DataW.trod at h
    rw [ht] at h
    cases v <;> simp at h
    rename_i s
    exact⟨s,rfl,h.1⟩
def Wt (t:TypeId) (d:DataW H):Prop:=∀ n ∈ d.weights Tryz.prog t,n≤reachBytes
theorem wt_all {e:TypeId} {n:Nat}:∀ {ds:List (DataW H)} {d:DataW H},d ∈ ds→n ∈ d.weights Tryz.prog e→n ∈ DataW.weightsAll Tryz.prog e ds
  | a :: r,d,hd,hn=>by
    simp only [DataW.weightsAll,List.mem_append]
    rcases List.mem_cons.1 hd with rfl|hd
    · exact .inl hn
    · exact .inr (wt_all hd hn)
theorem wt_slice {t e:TypeId} {elems spare:List (DataW H)} (hu:Tryz.prog.underlying t=some (.slice e)) (h:Wt t (.slice elems spare)):(elems.length+spare.length) * Tryz.prog.bytesOf e≤reachBytes∧∀ d ∈ elems,Wt e d:=by
  unfold Wt at h
  simp only [DataW.weights,hu,List.mem_cons,List.mem_append] at h
  exact⟨h _ (.inl rfl),fun d hd n hn=>h n (.inr (.inl (wt_all hd hn)))⟩
theorem wt_part {t:TypeId} {fs:Array Field} {parts:List (DataW H)} (hu:Tryz.prog.underlying t=some (.struct fs)) (h:Wt t (.agg parts)) {i:Nat} {f:Field} {d:DataW H} (hf:fs[i]? = some f) (hd:parts[i]? = some d):Wt f.type d:=by
  intro n hn
  refine h n ?_
  simp only [DataW.weights,hu]
  exact DataW.weights_mem_each (j:=i) (by rw [List.getElem?_map,Array.getElem?_toList,hf];rfl) hd n hn
theorem open_list {α:Type} {cells:α→List Value} {kc:Nat} {t e:TypeId} {Q:α→Prop} (inh0:α) (ht:Tryz.prog.underlying t=some (.slice e)) (hce:Tryz.prog.cellsOf e=kc) (hbe:1≤Tryz.prog.bytesOf e) (hk:1≤kc) (hlen:∀ a,(cells a).length=kc) {n:Nat} {v:Value} {y:DataW H × List MemPlace}
    (h:DataW.trod enc Tryz.prog w 0 (fun _=>true) true n t [v] = some y) (hw:Wt t y.1)
    (ih:∀ k,k < n→∀ cs y,DataW.trod enc Tryz.prog w 0 (fun _=>true) true k e cs=some y→Wt e y.1→∃ x:α,cs=cells x∧Q x) :
    ∃ l:List α,LiesG cells kc w w.heap.size v l∧∀ a ∈ l,Q a:=by
  rcases DataW.trod_slice ht h with ⟨hv,-⟩|⟨a,len,cap,elems,rest,n2,hn2,hv,hy,-,hlc,hcm,hel0,hel,-,-⟩
  · simp only [List.cons.injEq,and_true] at hv
    subst hv
    exact⟨[],⟨none,0,rfl,by simp,.inl rfl⟩,fun a ha=>by cases ha⟩
  · simp only [List.cons.injEq,and_true] at hv
    subst hv
    rw [hy] at hw
    obtain⟨hw1,hw2⟩:=wt_slice ht hw
    have hroom:len≤140737488351232:=by
      rw [List.length_map,List.length_map,hel0] at hw1
      have h1:len * 1≤(len+rest.length) * Tryz.prog.bytesOf e:=Nat.mul_le_mul (by omega) hbe
      have h2:reachBytes≤140737488351232:=by decide
      omega
    have each:∀ i,i < len→∃ x:α,(∀ j u,(cells x)[j]? = some u→w.cell? ((a.add (i * kc)).add j)=some u)∧Q x:=by
      intro i hi
      have h1:=hel i hi
      rw [hce,List.getElem?_eq_getElem (by rw [hel0];exact hi)] at h1
      obtain⟨cs',hc,htr⟩:=Option.bind_eq_some_iff.1 h1
      obtain⟨-,hl7,hcell⟩:=World.cells?_some hc
      obtain⟨x,rfl,hx⟩:=ih n2 (by omega) cs' _ htr (hw2 _ (List.mem_map.2 ⟨_,List.getElem_mem _,rfl⟩))
      refine⟨x,fun j u hu=>?_,hx⟩
      have hj:j < kc:=by
        rw [← hl7]
        exact (List.getElem?_eq_some_iff.1 hu).1
      rw [hcell j hj]
      exact hu
    have inh:Inhabited α:=⟨inh0⟩
    obtain⟨f,hf⟩:=Deep.choose_lt each
    refine⟨(List.range len).map f,⟨some a,cap,by simp,by simpa using hroom, ?_⟩,fun x hx=>?_⟩
    · by_cases h0:len=0
      · left
        subst h0
        rfl
      · right
        obtain⟨b,o,sp⟩:=a
        obtain⟨u0,hu0⟩:∃ u,(cells (f 0))[0]? = some u:=⟨_,List.getElem?_eq_getElem (by rw [hlen];omega)⟩
        have h1:=(hf 0 (by omega)).1 0 _ hu0
        have hsp:sp=none:=by
          have:=World.cell?_spot h1
          simpa [Addr.add] using this
        subst hsp
        refine⟨b,o,rfl, ?_,fun i x hx j u hu=>?_⟩
        · rw [Addr.add_mid,Addr.add_mid] at h1
          exact cell_lt h1
        · rw [List.getElem?_map] at hx
          obtain⟨i',hi',rfl⟩:=Option.map_eq_some_iff.1 hx
          obtain⟨hlt,he⟩:=List.getElem?_eq_some_iff.1 hi'
          have hil:i < len:=by simpa using hlt
          have hii:i'=i:=by simpa using he.symm
          subst hii
          have h2:=(hf i' hil).1 j u hu
          rw [Addr.add_mid,Addr.add_mid,Nat.add_assoc] at h2
          exact h2
    · obtain⟨i,hi,rfl⟩:=List.mem_map.1 hx
      exact (hf i (List.mem_range.1 hi)).2
theorem g3 {α:Type} {l:List α} (h:l.length=3):∃ a b c,l = [a,b,c]:=by
  match l,h with
  | [a,b,c],_=>exact⟨a,b,c,rfl⟩
theorem g2 {α:Type} {l:List α} (h:l.length=2):∃ a b,l = [a,b]:=by
  match l,h with
  | [a,b],_=>exact⟨a,b,rfl⟩
theorem g4 {α:Type} {l:List α} (h:l.length=4):∃ a b c d,l = [a,b,c,d]:=by
  match l,h with
  | [a,b,c,d],_=>exact⟨a,b,c,d,rfl⟩
theorem g5 {α:Type} {l:List α} (h:l.length=5):∃ a b c d e,l = [a,b,c,d,e]:=by
  match l,h with
  | [a,b,c,d,e],_=>exact⟨a,b,c,d,e,rfl⟩
theorem g6 {α:Type} {l:List α} (h:l.length=6):∃ a b c d e f,l = [a,b,c,d,e,f]:=by
  match l,h with
  | [a,b,c,d,e,f],_=>exact⟨a,b,c,d,e,f,rfl⟩
theorem g7 {α:Type} {l:List α} (h:l.length=7):∃ a b c d e f g,l = [a,b,c,d,e,f,g]:=by
  match l,h with
  | [a,b,c,d,e,f,g],_=>exact⟨a,b,c,d,e,f,g,rfl⟩
theorem g21 {α:Type} {l:List α} (h:l.length=21):∃ a0 a1 a2 a3 a4 a5 a6 a7 a8 a9 a10 a11 a12 a13 a14 a15 a16 a17 a18 a19 a20,l = [a0,a1,a2,a3,a4,a5,a6,a7,a8,a9,a10,a11,a12,a13,a14,a15,a16,a17,a18,a19,a20]:=by
  match l,h with
  | [a0,a1,a2,a3,a4,a5,a6,a7,a8,a9,a10,a11,a12,a13,a14,a15,a16,a17,a18,a19,a20],_=>exact⟨a0,a1,a2,a3,a4,a5,a6,a7,a8,a9,a10,a11,a12,a13,a14,a15,a16,a17,a18,a19,a20,rfl⟩
theorem sX:Tryz.prog.cellsOf 62=7:=by kernel_rfl
theorem sK:Tryz.prog.cellsOf 59=1:=by kernel_rfl
theorem sSK:Tryz.prog.cellsOf 58=1:=by kernel_rfl
theorem sI:Tryz.prog.cellsOf 2=1:=by kernel_rfl
theorem sS:Tryz.prog.cellsOf 9=1:=by kernel_rfl
theorem sTy:Tryz.prog.cellsOf 30=3:=by kernel_rfl
theorem sTk:Tryz.prog.cellsOf 28=1:=by kernel_rfl
theorem sN:Tryz.prog.cellsOf 3=1:=by kernel_rfl
theorem sLX:Tryz.prog.cellsOf 60=1:=by kernel_rfl
theorem sLS:Tryz.prog.cellsOf 31=1:=by kernel_rfl
theorem sLF:Tryz.prog.cellsOf 23=1:=by kernel_rfl
theorem sLR:Tryz.prog.cellsOf 22=1:=by kernel_rfl
theorem sLN:Tryz.prog.cellsOf 24=1:=by kernel_rfl
theorem sLT:Tryz.prog.cellsOf 25=1:=by kernel_rfl
theorem sSt:Tryz.prog.cellsOf 64=21:=by kernel_rfl
theorem sFd:Tryz.prog.cellsOf 57=4:=by kernel_rfl
theorem sRc:Tryz.prog.cellsOf 49=2:=by kernel_rfl
theorem sFn:Tryz.prog.cellsOf 33=6:=by kernel_rfl
theorem sPr:Tryz.prog.cellsOf 27=4:=by kernel_rfl
theorem open_ty {n:Nat} {c0 c1 c2:Value} {y:DataW H × List MemPlace} (h:DataW.trod enc Tryz.prog w 0 (fun _=>true) true n 30 [c0,c1,c2] = some y):∃ t:Ty,c0 = .int .u8 t.k∧c1 = .string t.n∧c2 = .int .i64 t.z∧TyOk t:=by
  obtain⟨ts,n2,-,-,-,hlen2,hf2⟩:=DataW.trod_struct Tryz.underlying30 h
  obtain⟨z0,z1,z2,rfl⟩:=g3 hlen2
  have t0:DataW.trod enc Tryz.prog w 0 (fun _=>true) true n2 28 [c0] = some z0:=by simpa [sTk] using hf2 0 _ rfl
  have t1:DataW.trod enc Tryz.prog w 0 (fun _=>true) true n2 9 [c1] = some z1:=by simpa [sS] using hf2 1 _ rfl
  have t2:DataW.trod enc Tryz.prog w 0 (fun _=>true) true n2 3 [c2] = some z2:=by simpa [sN] using hf2 2 _ rfl
  obtain⟨tk,rfl,wk⟩:=cell_int (k:=.u8) (by kernel_rfl) t0
  obtain⟨tn,rfl,wt⟩:=cell_str (by kernel_rfl) t1
  obtain⟨tz,rfl,wz⟩:=cell_int (k:=.i64) (by kernel_rfl) t2
  exact⟨⟨tk,tn,tz⟩,rfl,rfl,rfl,wf_u8 wk,len_mid wt,wf_i64 wz⟩
noncomputable def inX:X:=.mk ⟨0,0,⟨#[]⟩,0,⟨#[]⟩,0⟩ (.slice none 0 0) []
noncomputable def inS:St:=.mk ⟨0,⟨#[]⟩,noT⟩ inX inX (.slice none 0 0) (.slice none 0 0) [] []
theorem open_x:∀ (n:Nat) (cs:List Value) (y:DataW H × List MemPlace),DataW.trod enc Tryz.prog w 0 (fun _=>true) true n 62 cs=some y→Wt 62 y.1→∃ x:X,cs=x.cells∧InW w w.heap.size x:=by
  intro n
  induction n using Nat.strongRecOn with
  | _ n ih =>
    intro cs y h hw
    obtain⟨xs,n1,hn1,hy,hl,hlen,hf⟩:=DataW.trod_struct Tryz.underlying62 h
    obtain⟨c0,c1,c2,c3,c4,c5,c6,rfl⟩:=g7 (hl.trans sX)
    obtain⟨y0,y1,y2,y3,y4,rfl⟩:=g5 hlen
    rw [hy] at hw
    have k0:DataW.trod enc Tryz.prog w 0 (fun _=>true) true n1 59 [c0] = some y0:=by simpa [sK] using hf 0 _ rfl
    have k1:DataW.trod enc Tryz.prog w 0 (fun _=>true) true n1 2 [c1] = some y1:=by simpa [sI] using hf 1 _ rfl
    have k2:DataW.trod enc Tryz.prog w 0 (fun _=>true) true n1 9 [c2] = some y2:=by simpa [sS] using hf 2 _ rfl
    have k3:DataW.trod enc Tryz.prog w 0 (fun _=>true) true n1 30 [c3,c4,c5] = some y3:=by simpa [sTy] using hf 3 _ rfl
    have k4:DataW.trod enc Tryz.prog w 0 (fun _=>true) true n1 60 [c6] = some y4:=by simpa [sLX] using hf 4 _ rfl
    have w4:Wt 60 y4.1:=wt_part Tryz.underlying62 hw (i:=4) rfl rfl
    obtain⟨k,rfl,wk⟩:=cell_int (k:=.u8) (by kernel_rfl) k0
    obtain⟨i,rfl,wi⟩:=cell_int (k:=.i64) (by kernel_rfl) k1
    obtain⟨nm,rfl,wn⟩:=cell_str (by kernel_rfl) k2
    obtain⟨t,rfl,rfl,rfl,ht⟩:=open_ty k3
    obtain⟨l,hL,hIn⟩:=open_list (cells:=X.cells) (Q:=InW w w.heap.size) inX Tryz.underlying60 sX (of_decide_eq_true (by kernel_rfl)) (by omega) (fun _=>rfl) k4 w4 (fun k hk cs y h hw=>ih k (by omega) cs y h hw)
    exact⟨.mk ⟨k,i,nm,t.k,t.n,t.z⟩ c6 l,rfl,.mk _ _ _ ⟨wf_u8 wk,wf_i64 wi,len_mid wn,ht.n,ht.z⟩ hL hIn⟩
theorem open_fd (n:Nat) (cs:List Value) (y:DataW H × List MemPlace) (h:DataW.trod enc Tryz.prog w 0 (fun _=>true) true n 57 cs=some y):∃ x:Fd,cs=x.cells∧FdOk x:=by
  obtain⟨xs,n1,hn1,hy,hl,hlen,hf⟩:=DataW.trod_struct Tryz.underlying57 h
  obtain⟨c0,c1,c2,c3,rfl⟩:=g4 (hl.trans sFd)
  obtain⟨y0,y1,rfl⟩:=g2 hlen
  have k0:DataW.trod enc Tryz.prog w 0 (fun _=>true) true n1 9 [c0] = some y0:=by simpa [sS] using hf 0 _ rfl
  have k1:DataW.trod enc Tryz.prog w 0 (fun _=>true) true n1 30 [c1,c2,c3] = some y1:=by simpa [sTy] using hf 1 _ rfl
  obtain⟨nm,rfl,wn⟩:=cell_str (by kernel_rfl) k0
  obtain⟨t,rfl,rfl,rfl,ht⟩:=open_ty k1
  exact⟨⟨nm,t⟩,rfl,len_mid wn,ht⟩
theorem open_st:∀ (n:Nat) (cs:List Value) (y:DataW H × List MemPlace),DataW.trod enc Tryz.prog w 0 (fun _=>true) true n 64 cs=some y→Wt 64 y.1→∃ x:St,cs=x.cells∧SIn w w.heap.size x:=by
  intro n
  induction n using Nat.strongRecOn with
  | _ n ih =>
    intro cs y h hw
    obtain⟨xs,n1,hn1,hy,hl,hlen,hf⟩:=DataW.trod_struct Tryz.underlying64 h
    obtain⟨c0,c1,c2,c3,c4,c5,c6,c7,c8,c9,c10,c11,c12,c13,c14,c15,c16,c17,c18,c19,c20,rfl⟩:=g21 (hl.trans sSt)
    obtain⟨y0,y1,y2,y3,y4,y5,y6,rfl⟩:=g7 hlen
    rw [hy] at hw
    have k0:DataW.trod enc Tryz.prog w 0 (fun _=>true) true n1 58 [c0] = some y0:=by simpa [sSK] using hf 0 _ rfl
    have k1:DataW.trod enc Tryz.prog w 0 (fun _=>true) true n1 9 [c1] = some y1:=by simpa [sS] using hf 1 _ rfl
    have k2:DataW.trod enc Tryz.prog w 0 (fun _=>true) true n1 30 [c2,c3,c4] = some y2:=by simpa [sTy] using hf 2 _ rfl
    have k3:DataW.trod enc Tryz.prog w 0 (fun _=>true) true n1 62 [c5,c6,c7,c8,c9,c10,c11] = some y3:=by simpa [sX] using hf 3 _ rfl
    have k4:DataW.trod enc Tryz.prog w 0 (fun _=>true) true n1 62 [c12,c13,c14,c15,c16,c17,c18] = some y4:=by simpa [sX] using hf 4 _ rfl
    have k5:DataW.trod enc Tryz.prog w 0 (fun _=>true) true n1 31 [c19] = some y5:=by simpa [sLS] using hf 5 _ rfl
    have k6:DataW.trod enc Tryz.prog w 0 (fun _=>true) true n1 31 [c20] = some y6:=by simpa [sLS] using hf 6 _ rfl
    have w3:Wt 62 y3.1:=wt_part Tryz.underlying64 hw (i:=3) rfl rfl
    have w4:Wt 62 y4.1:=wt_part Tryz.underlying64 hw (i:=4) rfl rfl
    have w5:Wt 31 y5.1:=wt_part Tryz.underlying64 hw (i:=5) rfl rfl
    have w6:Wt 31 y6.1:=wt_part Tryz.underlying64 hw (i:=6) rfl rfl
    obtain⟨k,rfl,wk⟩:=cell_int (k:=.u8) (by kernel_rfl) k0
    obtain⟨nm,rfl,wn⟩:=cell_str (by kernel_rfl) k1
    obtain⟨t,rfl,rfl,rfl,ht⟩:=open_ty k2
    obtain⟨x,hx,hxI⟩:=open_x n1 _ _ k3 w3
    obtain⟨z,hz,hzI⟩:=open_x n1 _ _ k4 w4
    obtain⟨b,hbL,hbI⟩:=open_list (cells:=St.cells) (Q:=SIn w w.heap.size) inS Tryz.underlying31 sSt (of_decide_eq_true (by kernel_rfl)) (by omega) (fun _=>rfl) k5 w5 (fun k hk cs y h hw=>ih k (by omega) cs y h hw)
    obtain⟨e,heL,heI⟩:=open_list (cells:=St.cells) (Q:=SIn w w.heap.size) inS Tryz.underlying31 sSt (of_decide_eq_true (by kernel_rfl)) (by omega) (fun _=>rfl) k6 w6 (fun k hk cs y h hw=>ih k (by omega) cs y h hw)
    refine⟨.mk ⟨k,nm,t⟩ x z c19 c20 b e, ?_,.mk _ _ _ _ _ _ _ ⟨wf_u8 wk,len_mid wn,ht⟩ hxI hzI hbL heL hbI heI⟩
    simp only [X.cells,List.cons.injEq,and_true] at hx hz
    obtain⟨rfl,rfl,rfl,rfl,rfl,rfl,rfl⟩:=hx
    obtain⟨rfl,rfl,rfl,rfl,rfl,rfl,rfl⟩:=hz
    rfl
noncomputable def inFd:Fd:=⟨⟨#[]⟩,noT⟩
theorem open_rc (n:Nat) (cs:List Value) (y:DataW H × List MemPlace) (h:DataW.trod enc Tryz.prog w 0 (fun _=>true) true n 49 cs=some y) (hw:Wt 49 y.1):∃ x:Rc,cs=x.cells∧RIn w w.heap.size x:=by
  obtain⟨xs,n1,hn1,hy,hl,hlen,hf⟩:=DataW.trod_struct Tryz.underlying49 h
  obtain⟨c0,c1,rfl⟩:=g2 (hl.trans sRc)
  obtain⟨y0,y1,rfl⟩:=g2 hlen
  rw [hy] at hw
  have k0:DataW.trod enc Tryz.prog w 0 (fun _=>true) true n1 9 [c0] = some y0:=by simpa [sS] using hf 0 _ rfl
  have k1:DataW.trod enc Tryz.prog w 0 (fun _=>true) true n1 23 [c1] = some y1:=by simpa [sLF] using hf 1 _ rfl
  have w1:Wt 23 y1.1:=wt_part Tryz.underlying49 hw (i:=1) rfl rfl
  obtain⟨nm,rfl,wn⟩:=cell_str (by kernel_rfl) k0
  obtain⟨l,hL,hI⟩:=open_list (cells:=Fd.cells) (Q:=FdOk) inFd Tryz.underlying23 sFd (of_decide_eq_true (by kernel_rfl)) (by omega) (fun _=>rfl) k1 w1 (fun k _ cs y h _=>open_fd k cs y h)
  exact⟨⟨nm,c1,l⟩,rfl,len_mid wn,hL,hI⟩
theorem open_fn (n:Nat) (cs:List Value) (y:DataW H × List MemPlace) (h:DataW.trod enc Tryz.prog w 0 (fun _=>true) true n 33 cs=some y) (hw:Wt 33 y.1):∃ x:Fn,cs=x.cells∧NIn w w.heap.size x:=by
  obtain⟨xs,n1,hn1,hy,hl,hlen,hf⟩:=DataW.trod_struct Tryz.underlying33 h
  obtain⟨c0,c1,c2,c3,c4,c5,rfl⟩:=g6 (hl.trans sFn)
  obtain⟨y0,y1,y2,y3,rfl⟩:=g4 hlen
  rw [hy] at hw
  have k0:DataW.trod enc Tryz.prog w 0 (fun _=>true) true n1 9 [c0] = some y0:=by simpa [sS] using hf 0 _ rfl
  have k1:DataW.trod enc Tryz.prog w 0 (fun _=>true) true n1 23 [c1] = some y1:=by simpa [sLF] using hf 1 _ rfl
  have k2:DataW.trod enc Tryz.prog w 0 (fun _=>true) true n1 30 [c2,c3,c4] = some y2:=by simpa [sTy] using hf 2 _ rfl
  have k3:DataW.trod enc Tryz.prog w 0 (fun _=>true) true n1 31 [c5] = some y3:=by simpa [sLS] using hf 3 _ rfl
  have w1:Wt 23 y1.1:=wt_part Tryz.underlying33 hw (i:=1) rfl rfl
  have w3:Wt 31 y3.1:=wt_part Tryz.underlying33 hw (i:=3) rfl rfl
  obtain⟨nm,rfl,wn⟩:=cell_str (by kernel_rfl) k0
  obtain⟨l,hL,hI⟩:=open_list (cells:=Fd.cells) (Q:=FdOk) inFd Tryz.underlying23 sFd (of_decide_eq_true (by kernel_rfl)) (by omega) (fun _=>rfl) k1 w1 (fun k _ cs y h _=>open_fd k cs y h)
  obtain⟨t,rfl,rfl,rfl,ht⟩:=open_ty k2
  obtain⟨b,hbL,hbI⟩:=open_list (cells:=St.cells) (Q:=SIn w w.heap.size) inS Tryz.underlying31 sSt (of_decide_eq_true (by kernel_rfl)) (by omega) (fun _=>rfl) k3 w3 (fun k _ cs y h hw=>open_st k cs y h hw)
  exact⟨⟨nm,c1,l,t,c5,b⟩,rfl,len_mid wn,hL,hI,ht,hbL,hbI⟩
noncomputable def inRc:Rc:=⟨⟨#[]⟩,.slice none 0 0,[]⟩
noncomputable def inFn:Fn:=⟨⟨#[]⟩,.slice none 0 0,[],noT,.slice none 0 0,[]⟩
noncomputable def inTh:Th:=⟨.slice none 0 0,[]⟩
theorem open_th (n:Nat) (cs:List Value) (y:DataW H × List MemPlace) (h:DataW.trod enc Tryz.prog w 0 (fun _=>true) true n 31 cs=some y) (hw:Wt 31 y.1):∃ x:Th,cs=x.cells∧TIn w w.heap.size x:=by
  have hv:∃ v,cs = [v]:=by
    rcases DataW.trod_slice Tryz.underlying31 h with ⟨hv,-⟩|⟨a,len,cap,elems,rest,n2,-,hv,-⟩
    · exact⟨_,hv⟩
    · exact⟨_,hv⟩
  obtain⟨v,rfl⟩:=hv
  obtain⟨b,hbL,hbI⟩:=open_list (cells:=St.cells) (Q:=SIn w w.heap.size) inS Tryz.underlying31 sSt (of_decide_eq_true (by kernel_rfl)) (by omega) (fun _=>rfl) h hw (fun k _ cs y h hw=>open_st k cs y h hw)
  exact⟨⟨v,b⟩,rfl,hbL,hbI⟩
theorem open_prog (n:Nat) (cs:List Value) (y:DataW H × List MemPlace) (h:DataW.trod enc Tryz.prog w 0 (fun _=>true) true n 27 cs=some y) (hw:Wt 27 y.1):∃ P:Pr,cs=P.cells∧PIn w w.heap.size P:=by
  obtain⟨xs,n1,hn1,hy,hl,hlen,hf⟩:=DataW.trod_struct Tryz.underlying27 h
  obtain⟨c0,c1,c2,c3,rfl⟩:=g4 (hl.trans sPr)
  obtain⟨y0,y1,y2,y3,rfl⟩:=g4 hlen
  rw [hy] at hw
  have k0:DataW.trod enc Tryz.prog w 0 (fun _=>true) true n1 22 [c0] = some y0:=by simpa [sLR] using hf 0 _ rfl
  have k1:DataW.trod enc Tryz.prog w 0 (fun _=>true) true n1 23 [c1] = some y1:=by simpa [sLF] using hf 1 _ rfl
  have k2:DataW.trod enc Tryz.prog w 0 (fun _=>true) true n1 24 [c2] = some y2:=by simpa [sLN] using hf 2 _ rfl
  have k3:DataW.trod enc Tryz.prog w 0 (fun _=>true) true n1 25 [c3] = some y3:=by simpa [sLT] using hf 3 _ rfl
  have w0:Wt 22 y0.1:=wt_part Tryz.underlying27 hw (i:=0) rfl rfl
  have w1:Wt 23 y1.1:=wt_part Tryz.underlying27 hw (i:=1) rfl rfl
  have w2:Wt 24 y2.1:=wt_part Tryz.underlying27 hw (i:=2) rfl rfl
  have w3:Wt 25 y3.1:=wt_part Tryz.underlying27 hw (i:=3) rfl rfl
  obtain⟨rs,h1,h2⟩:=open_list (cells:=Rc.cells) (Q:=RIn w w.heap.size) inRc Tryz.underlying22 sRc (of_decide_eq_true (by kernel_rfl)) (by omega) (fun _=>rfl) k0 w0 (fun k _ cs y h hw=>open_rc k cs y h hw)
  obtain⟨ss,h3,h4⟩:=open_list (cells:=Fd.cells) (Q:=FdOk) inFd Tryz.underlying23 sFd (of_decide_eq_true (by kernel_rfl)) (by omega) (fun _=>rfl) k1 w1 (fun k _ cs y h _=>open_fd k cs y h)
  obtain⟨fs,h5,h6⟩:=open_list (cells:=Fn.cells) (Q:=NIn w w.heap.size) inFn Tryz.underlying24 sFn (of_decide_eq_true (by kernel_rfl)) (by omega) (fun _=>rfl) k2 w2 (fun k _ cs y h hw=>open_fn k cs y h hw)
  obtain⟨ts,h7,h8⟩:=open_list (cells:=Th.cells) (Q:=TIn w w.heap.size) inTh Tryz.underlying25 sLS (of_decide_eq_true (by kernel_rfl)) (by omega) (fun _=>rfl) k3 w3 (fun k _ cs y h hw=>open_th k cs y h hw)
  exact⟨⟨⟨c0,rs,c1,ss,c2,fs⟩,c3,ts⟩,rfl,⟨h1,h2,h3,h4,h5,h6⟩,h7,h8⟩
end
end Go.Proofs.YtdhieihcmnpneaaGreatDoor
