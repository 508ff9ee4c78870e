/- What is so of whoever says what functions do at all: the statements' own two small programs. -/
import Derived.Test.YtdhieihcmnpneaaGreatDoorRows
import Derived.Test.YtdhieihcmnpneaaGreatDoorEffOf
import Derived.Test.YtdhieihcmnpneaaGreatDoorGTw
namespace Go.Proofs.YtdhieihcmnpneaaGreatDoor
open Lib (hid)
set_option maxHeartbeats 8000000
open Go.RowKit
set_option maxRecDepth 100000
attribute [local go_sem ↓] bld_eq bls_eq
theorem nilE_lies {α:Type} {cells:α→List Value} {k:Nat} {w:World} {B:Nat}:LiesG cells k w B (.slice none 0 0) ([]:List α):=⟨none,0,rfl,by simp,.inl rfl⟩
theorem rowE_lies {α:Type} {cells:α→List Value} {k:Nat} {w:World} {B b:Nat} {R:Array Value} {T:TypeId} {l:List α} (hb:b < B) (hr:w.heap[b]? = some (.cells R T (0,0))) (hl:l.length≤100) (n:Nat) (hn:n=l.length)
    (h:∀ i x,l[i]? = some x→∀ j u,(cells x)[j]? = some u→R[i * k+j]? = some u):LiesG cells k w B (.slice (some ⟨b,0,none⟩) n n) l:=by
  subst hn
  refine⟨some ⟨b,0,none⟩,l.length,rfl,by omega,.inr ⟨b,0,rfl,hb,fun i y hy j u hu=>?_⟩⟩
  rw [Lib.cell_of_heap hr,Nat.zero_add]
  exact h i y hy j u hu
def tI:Ty:=⟨1,⟨#[]⟩,0⟩
def nF:Fd:=⟨⟨#[110]⟩,tI⟩
def zX:X:=.mk ⟨0,0,⟨#[]⟩,0,⟨#[]⟩,0⟩ (.slice none 0 0) []
def setS:St:=.mk ⟨2,⟨#[]⟩,noT⟩ (.mk ⟨3,0,⟨#[110]⟩,0,⟨#[]⟩,0⟩ (.slice none 0 0) []) (.mk ⟨1,1,⟨#[]⟩,0,⟨#[]⟩,0⟩ (.slice none 0 0) []) (.slice none 0 0) (.slice none 0 0) [] []
def atomS:St:=.mk ⟨5,⟨#[]⟩,noT⟩ zX zX (.slice none 0 0) (.slice none 0 0) [] []
def P1 (a b:Nat):Pr:=⟨⟨.slice none 0 0,[],.slice (some ⟨a,0,none⟩) 1 1,[nF],.slice none 0 0,[]⟩,.slice (some ⟨b+1,0,none⟩) 1 1,[⟨.slice (some ⟨b,0,none⟩) 1 1,[setS]⟩]⟩
def fF (c:Nat):Fn:=⟨⟨#[102]⟩,.slice none 0 0,[],noT,.slice (some ⟨c,0,none⟩) 1 1,[setS]⟩
def gF (c:Nat):Fn:=⟨⟨#[103]⟩,.slice none 0 0,[],noT,.slice (some ⟨c+1,0,none⟩) 1 1,[atomS]⟩
def P2 (a c:Nat):Pr:=⟨⟨.slice none 0 0,[],.slice (some ⟨a,0,none⟩) 1 1,[nF],.slice (some ⟨c+2,0,none⟩) 2 2,[fF c,gF c]⟩,.slice none 0 0,[]⟩
theorem P1_eff (a b:Nat):effectT (P1 a b)=(2,11):=by kernel_rfl
theorem P2_eff (a c:Nat):effectT (P2 a c)=(0,0):=by kernel_rfl
theorem P2_effs (a c:Nat):(P2 a c).e.funcs.map (effV (P2 a c)) = [.int .u8 1,.int .u8 6]:=by kernel_rfl
theorem noT_ok:TyOk noT:=⟨by decide,Nat.zero_le _,by decide⟩
theorem zX_in (w:World) (B:Nat):InW w B zX:=.mk _ _ _ ⟨by decide,by decide,Nat.zero_le _,Nat.zero_le _,⟨by show (_:Int)≤0;decide,by show (0:Int)≤_;decide⟩⟩ ⟨none,0,rfl,by simp,.inl rfl⟩ (fun a ha=>by cases ha)
theorem setS_in (w:World) (B:Nat):SIn w B setS:=by
  refine .mk _ _ _ _ _ _ _ ⟨by decide,Nat.zero_le _,noT_ok⟩ (.mk _ _ _ ⟨by decide,by decide,by show (1:Nat)≤_;omega,Nat.zero_le _,⟨by show (_:Int)≤0;decide,by show (0:Int)≤_;decide⟩⟩ ⟨none,0,rfl,by simp,.inl rfl⟩ (fun a ha=>by cases ha)) (.mk _ _ _ ⟨by decide,by decide,Nat.zero_le _,Nat.zero_le _,⟨by show (_:Int)≤0;decide,by show (0:Int)≤_;decide⟩⟩ ⟨none,0,rfl,by simp,.inl rfl⟩ (fun a ha=>by cases ha)) nilE_lies nilE_lies (fun a ha=>by cases ha) (fun a ha=>by cases ha)
theorem atomS_in (w:World) (B:Nat):SIn w B atomS:=.mk _ _ _ _ _ _ _ ⟨by decide,Nat.zero_le _,noT_ok⟩ (zX_in w B) (zX_in w B) nilE_lies nilE_lies (fun a ha=>by cases ha) (fun a ha=>by cases ha)
theorem one_cells {α:Type} {cells:α→List Value} {k:Nat} {R:Array Value} {x:α} (hR:R.toList=cells x):∀ i y,([x]:List α)[i]? = some y→∀ j u,(cells y)[j]? = some u→R[i * k+j]? = some u:=by
  intro i y hy j u hu
  have hi:i=0:=by have:=(List.getElem?_eq_some_iff.1 hy).1;simpa using this
  subst hi
  obtain rfl:x=y:=by simpa using hy
  rw [Nat.zero_mul,Nat.zero_add,← Array.getElem?_toList,hR];exact hu
theorem nF_ok:FdOk nF:=⟨by show (1:Nat)≤_;omega,⟨by decide,Nat.zero_le _,by decide⟩⟩
theorem P1_in {w:World} {a b:Nat} (h1:w.heap[a]? = some (.cells #[.string ⟨#[110]⟩,.int .u8 1,.string ⟨#[]⟩,.int .i64 0] 57 (0,0))) (h2:w.heap[b]? = some (.cells setS.arr 64 (0,0))) (h3:w.heap[b+1]? = some (.cells #[.slice (some ⟨b,0,none⟩) 1 1] 31 (0,0))):PIn w w.heap.size (P1 a b):=by
  have l1:=(Array.getElem?_eq_some_iff.1 h1).1
  have l2:=(Array.getElem?_eq_some_iff.1 h2).1
  have l3:=(Array.getElem?_eq_some_iff.1 h3).1
  refine⟨⟨nilE_lies,(fun a ha=>by cases ha),rowE_lies (l:=[nF]) l1 h1 (by simp) 1 rfl (one_cells rfl),fun f hf=>?_,nilE_lies,(fun a ha=>by cases ha)⟩,rowE_lies (cells:=Th.cells) (k:=1) (l:=[(⟨.slice (some ⟨b,0,none⟩) 1 1,[setS]⟩:Th)]) l3 h3 (by simp) 1 rfl (one_cells rfl),fun t ht=>?_⟩
  · obtain rfl:f=nF:=by simpa [P1] using hf
    exact nF_ok
  · obtain rfl:t=⟨.slice (some ⟨b,0,none⟩) 1 1,[setS]⟩:=by simpa [P1] using ht
    refine⟨rowE_lies (cells:=St.cells) (k:=21) (l:=[setS]) l2 h2 (by simp) 1 rfl (one_cells (by unfold St.arr;rfl)),fun s hs=>?_⟩
    obtain rfl:s=setS:=by simpa using hs
    exact setS_in _ _
theorem P2_in {w:World} {a c:Nat} (h1:w.heap[a]? = some (.cells #[.string ⟨#[110]⟩,.int .u8 1,.string ⟨#[]⟩,.int .i64 0] 57 (0,0))) (h2:w.heap[c]? = some (.cells setS.arr 64 (0,0))) (h3:w.heap[c+1]? = some (.cells atomS.arr 64 (0,0)))
    (h4:w.heap[c+2]? = some (.cells #[.string ⟨#[102]⟩,.slice none 0 0,.int .u8 0,.string ⟨#[]⟩,.int .i64 0,.slice (some ⟨c,0,none⟩) 1 1,.string ⟨#[103]⟩,.slice none 0 0,.int .u8 0,.string ⟨#[]⟩,.int .i64 0,.slice (some ⟨c+1,0,none⟩) 1 1] 33 (0,0))):PIn w w.heap.size (P2 a c):=by
  have l1:=(Array.getElem?_eq_some_iff.1 h1).1
  have l2:=(Array.getElem?_eq_some_iff.1 h2).1
  have l3:=(Array.getElem?_eq_some_iff.1 h3).1
  have l4:=(Array.getElem?_eq_some_iff.1 h4).1
  refine⟨⟨nilE_lies,(fun a ha=>by cases ha),rowE_lies (l:=[nF]) l1 h1 (by simp) 1 rfl (one_cells rfl),fun f hf=>?_,rowE_lies (cells:=Fn.cells) (k:=6) (l:=[fF c,gF c]) l4 h4 (by simp) 2 rfl (fun i x hx j u hu=>?_),fun f hf=>?_⟩,nilE_lies,(fun a ha=>by cases ha)⟩
  · obtain rfl:f=nF:=by simpa [P2] using hf
    exact nF_ok
  · have hj:j < 6:=by have:=(List.getElem?_eq_some_iff.1 hu).1;exact this
    have hi:i=0 ∨ i=1:=by have:=(List.getElem?_eq_some_iff.1 hx).1;simp at this;omega
    rcases hi with rfl|rfl
    · obtain rfl:fF c=x:=by simpa using hx
      rw [← hu]
      rcases (by omega:j=0 ∨ j=1 ∨ j=2 ∨ j=3 ∨ j=4 ∨ j=5) with rfl|rfl|rfl|rfl|rfl|rfl <;> rfl
    · obtain rfl:gF c=x:=by simpa using hx
      rw [← hu]
      rcases (by omega:j=0 ∨ j=1 ∨ j=2 ∨ j=3 ∨ j=4 ∨ j=5) with rfl|rfl|rfl|rfl|rfl|rfl <;> rfl
  · have hf2:f=fF c ∨ f=gF c:=by simpa [P2] using hf
    rcases hf2 with rfl|rfl
    · refine⟨by show (1:Nat)≤_;omega,nilE_lies,(fun a ha=>by cases ha),noT_ok,rowE_lies (cells:=St.cells) (k:=21) (l:=[setS]) l2 h2 (by simp) 1 rfl (one_cells (by unfold St.arr;rfl)),fun s hs=>?_⟩
      obtain rfl:s=setS:=by simpa [fF] using hs
      exact setS_in _ _
    · refine⟨by show (1:Nat)≤_;omega,nilE_lies,(fun a ha=>by cases ha),noT_ok,rowE_lies (cells:=St.cells) (k:=21) (l:=[atomS]) l3 h3 (by simp) 1 rfl (one_cells (by unfold St.arr;rfl)),fun s hs=>?_⟩
      obtain rfl:s=atomS:=by simpa [gF] using hs
      exact atomS_in _ _
theorem setA:setS.arr=#[.int .u8 2,.string ⟨#[]⟩,.int .u8 0,.string ⟨#[]⟩,.int .i64 0,.int .u8 3,.int .i64 0,.string ⟨#[110]⟩,.int .u8 0,.string ⟨#[]⟩,.int .i64 0,.slice none 0 0,.int .u8 1,.int .i64 1,.string ⟨#[]⟩,.int .u8 0,.string ⟨#[]⟩,.int .i64 0,.slice none 0 0,.slice none 0 0,.slice none 0 0]:=by rw [arr_eq];rfl
theorem atomA:atomS.arr=#[.int .u8 5,.string ⟨#[]⟩,.int .u8 0,.string ⟨#[]⟩,.int .i64 0,.int .u8 0,.int .i64 0,.string ⟨#[]⟩,.int .u8 0,.string ⟨#[]⟩,.int .i64 0,.slice none 0 0,.int .u8 0,.int .i64 0,.string ⟨#[]⟩,.int .u8 0,.string ⟨#[]⟩,.int .i64 0,.slice none 0 0,.slice none 0 0,.slice none 0 0]:=by rw [arr_eq];rfl
attribute [local go_sem ↓] storeS_eq
theorem set_any (w:World):Calls Tryz.prog 17 #[] w fun e w'=>e = .returned (.agg setS.arr)∧Below w.heap.size w w':=by
  rw [setA]
  have e1:=bld_of 62 #[(0,.int .u8 3),(2,.string ⟨#[110]⟩)] #[.int .u8 3,.int .i64 0,.string ⟨#[110]⟩,.int .u8 0,.string ⟨#[]⟩,.int .i64 0,.slice none 0 0] (by kernel_rfl)
  have e2:=bld_of 62 #[(0,.int .u8 1),(1,.int .i64 1)] #[.int .u8 1,.int .i64 1,.string ⟨#[]⟩,.int .u8 0,.string ⟨#[]⟩,.int .i64 0,.slice none 0 0] (by kernel_rfl)
  have s1:=bld_of 64 #[(0,.int .u8 2),(3,.agg #[.int .u8 3,.int .i64 0,.string ⟨#[110]⟩,.int .u8 0,.string ⟨#[]⟩,.int .i64 0,.slice none 0 0]),(4,.agg #[.int .u8 1,.int .i64 1,.string ⟨#[]⟩,.int .u8 0,.string ⟨#[]⟩,.int .i64 0,.slice none 0 0])] #[.int .u8 2,.string ⟨#[]⟩,.int .u8 0,.string ⟨#[]⟩,.int .i64 0,.int .u8 3,.int .i64 0,.string ⟨#[110]⟩,.int .u8 0,.string ⟨#[]⟩,.int .i64 0,.slice none 0 0,.int .u8 1,.int .i64 1,.string ⟨#[]⟩,.int .u8 0,.string ⟨#[]⟩,.int .i64 0,.slice none 0 0,.slice none 0 0,.slice none 0 0] (by kernel_rfl)
  have hST:=storeS_last w #[.int .u8 2,.string ⟨#[]⟩,.int .u8 0,.string ⟨#[]⟩,.int .i64 0,.int .u8 3,.int .i64 0,.string ⟨#[110]⟩,.int .u8 0,.string ⟨#[]⟩,.int .i64 0,.slice none 0 0,.int .u8 1,.int .i64 1,.string ⟨#[]⟩,.int .u8 0,.string ⟨#[]⟩,.int .i64 0,.slice none 0 0,.slice none 0 0,.slice none 0 0] rfl (by kernel_rfl)
  have HB:=hid (below_box w (.cells #[.int .u8 2,.string ⟨#[]⟩,.int .u8 0,.string ⟨#[]⟩,.int .i64 0,.int .u8 3,.int .i64 0,.string ⟨#[110]⟩,.int .u8 0,.string ⟨#[]⟩,.int .i64 0,.slice none 0 0,.int .u8 1,.int .i64 1,.string ⟨#[]⟩,.int .u8 0,.string ⟨#[]⟩,.int .i64 0,.slice none 0 0,.slice none 0 0,.slice none 0 0] 64))
  have HH:=hid (MapKept.heap_alloc w (.cells #[.int .u8 2,.string ⟨#[]⟩,.int .u8 0,.string ⟨#[]⟩,.int .i64 0,.int .u8 3,.int .i64 0,.string ⟨#[110]⟩,.int .u8 0,.string ⟨#[]⟩,.int .i64 0,.slice none 0 0,.int .u8 1,.int .i64 1,.string ⟨#[]⟩,.int .u8 0,.string ⟨#[]⟩,.int .i64 0,.slice none 0 0,.slice none 0 0,.slice none 0 0] 64)).1
  go_enter Tryz.func17,Tryz.ntmps17
  go_wp2_with fail
  exact bodyPost_ret (v:=.agg #[.int .u8 2,.string ⟨#[]⟩,.int .u8 0,.string ⟨#[]⟩,.int .i64 0,.int .u8 3,.int .i64 0,.string ⟨#[110]⟩,.int .u8 0,.string ⟨#[]⟩,.int .i64 0,.slice none 0 0,.int .u8 1,.int .i64 1,.string ⟨#[]⟩,.int .u8 0,.string ⟨#[]⟩,.int .i64 0,.slice none 0 0,.slice none 0 0,.slice none 0 0]) (results_cell_row rfl _ _ w.heap.size 64 _ (0,0) _ rfl HH.out Tryz.underlying64 rfl (by kernel_rfl)) rfl ⟨rfl,HB.out⟩
theorem row_read2 {w:World} {L n:Nat} {e:TypeId} {v:Value} {xs:List Value} (h:w.ownsRow L e 1 v n xs) (hn:0 < n):∃ g cap,v = .slice (some ⟨g,0,none⟩) n cap∧n≤9223372036854775807∧g < w.heap.size∧∀ j x,xs[j]? = some x→w.cell? ⟨g,j,none⟩ = some x:=by
  rcases h.2 with ⟨_,h0⟩|⟨g,cap,cur,hv,_,hg,hn2,hc,hs,ht⟩
  · omega
  · refine⟨g,cap,hv,by unfold maxLen at hc;omega,(Array.getElem?_eq_some_iff.1 hg).1,fun j x hj=>?_⟩
    have hjl:j < n:=by have:=(List.getElem?_eq_some_iff.1 hj).1;rw [h.1] at this;omega
    rw [Lib.cell_of_heap hg]
    rw [← ht,List.getElem?_take,if_pos (by omega)] at hj
    rw [← Array.getElem?_toList];exact hj
theorem effalive_any (w:World):Calls Tryz.prog 7 #[] w fun e w'=>e = .returned (.bool true)∧Below w.heap.size w w':=by
  have t0:=bld_of 30 #[(0,.int .u8 1)] #[.int .u8 1,.string ⟨#[]⟩,.int .i64 0] (by kernel_rfl)
  have t1:=bld_of 57 #[(0,.string ⟨#[110]⟩),(1,.agg #[.int .u8 1,.string ⟨#[]⟩,.int .i64 0])] #[.string ⟨#[110]⟩,.int .u8 1,.string ⟨#[]⟩,.int .i64 0] (by kernel_rfl)
  have m0:=bls_of 23 57 1 4 #[(0,.agg #[.string ⟨#[110]⟩,.int .u8 1,.string ⟨#[]⟩,.int .i64 0])] #[.string ⟨#[110]⟩,.int .u8 1,.string ⟨#[]⟩,.int .i64 0] (by kernel_rfl) (by kernel_rfl) (by kernel_rfl) (by omega) (by omega) (by kernel_rfl) (by kernel_rfl)
  have m1:=bls_of 31 64 1 21 #[(0,.agg setS.arr)] setS.arr (by kernel_rfl) (by kernel_rfl) (by kernel_rfl) (by omega) (by omega) (by kernel_rfl) (by rw [setA];kernel_rfl)
  have m2:=fun (b:Nat)=>bls_of 25 31 1 1 #[(0,.slice (some ⟨b,0,none⟩) 1 1)] #[.slice (some ⟨b,0,none⟩) 1 1] (by kernel_rfl) (by kernel_rfl) (by kernel_rfl) (by omega) (by omega) (by kernel_rfl) (by kernel_rfl)
  have p1:=fun (a b:Nat)=>bld_of 27 #[(1,.slice (some ⟨a,0,none⟩) 1 1),(3,.slice (some ⟨b,0,none⟩) 1 1)] #[.slice none 0 0,.slice (some ⟨a,0,none⟩) 1 1,.slice none 0 0,.slice (some ⟨b,0,none⟩) 1 1] (by kernel_rfl)
  have g1:=fun (c:Nat)=>bld_of 33 #[(0,.string ⟨#[102]⟩),(3,.slice (some ⟨c,0,none⟩) 1 1)] #[.string ⟨#[102]⟩,.slice none 0 0,.int .u8 0,.string ⟨#[]⟩,.int .i64 0,.slice (some ⟨c,0,none⟩) 1 1] (by kernel_rfl)
  have g2:=fun (c:Nat)=>bld_of 33 #[(0,.string ⟨#[103]⟩),(3,.slice (some ⟨c,0,none⟩) 1 1)] #[.string ⟨#[103]⟩,.slice none 0 0,.int .u8 0,.string ⟨#[]⟩,.int .i64 0,.slice (some ⟨c,0,none⟩) 1 1] (by kernel_rfl)
  have s5:=bld_of 64 #[(0,.int .u8 5)] atomS.arr (by rw [atomA];kernel_rfl)
  have m3:=bls_of 31 64 1 21 #[(0,.agg atomS.arr)] atomS.arr (by kernel_rfl) (by kernel_rfl) (by kernel_rfl) (by omega) (by omega) (by kernel_rfl) (by rw [atomA];kernel_rfl)
  have m4:=fun (c e:Nat)=>bls_of 24 33 2 6 #[(0,.agg #[.string ⟨#[102]⟩,.slice none 0 0,.int .u8 0,.string ⟨#[]⟩,.int .i64 0,.slice (some ⟨c,0,none⟩) 1 1]),(1,.agg #[.string ⟨#[103]⟩,.slice none 0 0,.int .u8 0,.string ⟨#[]⟩,.int .i64 0,.slice (some ⟨e,0,none⟩) 1 1])] #[.string ⟨#[102]⟩,.slice none 0 0,.int .u8 0,.string ⟨#[]⟩,.int .i64 0,.slice (some ⟨c,0,none⟩) 1 1,.string ⟨#[103]⟩,.slice none 0 0,.int .u8 0,.string ⟨#[]⟩,.int .i64 0,.slice (some ⟨e,0,none⟩) 1 1] (by kernel_rfl) (by kernel_rfl) (by kernel_rfl) (by omega) (by omega) (by kernel_rfl) (by kernel_rfl)
  have p2:=fun (a b:Nat)=>bld_of 27 #[(1,.slice (some ⟨a,0,none⟩) 1 1),(2,.slice (some ⟨b,0,none⟩) 2 2)] #[.slice none 0 0,.slice (some ⟨a,0,none⟩) 1 1,.slice (some ⟨b,0,none⟩) 2 2,.slice none 0 0] (by kernel_rfl)
  obtain⟨W1,hW1⟩:∃ W1,W1=w.alloc (.cells #[.string ⟨#[110]⟩,.int .u8 1,.string ⟨#[]⟩,.int .i64 0] 57):=⟨_,rfl⟩
  have hb1:Below w.heap.size w W1:=by rw [hW1];exact below_box w _
  have hz1:W1.heap.size=w.heap.size+1:=by rw [hW1];simp
  have hN1:W1.heap[w.heap.size]? = some (.cells #[.string ⟨#[110]⟩,.int .u8 1,.string ⟨#[]⟩,.int .i64 0] 57 (0,0)):=by rw [hW1];exact (MapKept.heap_alloc _ _).1
  have HW1:=hid hW1
  have HB1:=hid hb1
  have HN1:=hid hN1
  have HSET:=hid set_any
  clear hW1 hb1 hN1
  go_enter Tryz.func7,Tryz.ntmps7
  go_wp2_with fail
  rw [← HW1.out]
  refine (HSET.out _).mono ?_;rintro z w2 ⟨rfl,hb2⟩
  have hs2:=hb2.size
  obtain⟨W4,hW4⟩:∃ W4,W4=(w2.alloc (.cells setS.arr 64)).alloc (.cells #[.slice (some ⟨w2.heap.size,0,none⟩) 1 1] 31):=⟨_,rfl⟩
  have hb4:Below w2.heap.size w2 W4:=by rw [hW4];exact ((below_box w2 _).alloc (by simp) _)
  have hS4:W4.heap[w2.heap.size]? = some (.cells setS.arr 64 (0,0)):=by rw [hW4,Below.heap_alloc _ _ _ (by simp)];exact (MapKept.heap_alloc w2 _).1
  have hT4:W4.heap[w2.heap.size+1]? = some (.cells #[.slice (some ⟨w2.heap.size,0,none⟩) 1 1] 31 (0,0)):=by rw [hW4];have:=(MapKept.heap_alloc (w2.alloc (.cells setS.arr 64)) (.cells #[.slice (some ⟨w2.heap.size,0,none⟩) 1 1] 31)).1;simpa using this
  have hb14:Below W1.heap.size W1 W4:=hb2.trans (hb4.mono hs2)
  have hck:=eff_check (P1 w.heap.size w2.heap.size) W4.heap.size W4 (Nat.le_refl _) (P1_in ((hb14.block _ (by omega)).trans HN1.out) hS4 hT4) ⟨none,0,0,rfl,by omega,by omega⟩
  rw [P1_eff] at hck
  have HCK:=hid (show Calls Tryz.prog 12 #[.agg #[.slice none 0 0,.slice (some ⟨w.heap.size,0,none⟩) 1 1,.slice none 0 0,.slice (some ⟨w2.heap.size+1,0,none⟩) 1 1]] W4 fun x w'=>x = .returned (.tuple #[.int .i64 2,.int .i64 11])∧Below W4.heap.size W4 w' from hck)
  have HB14:=hid hb14
  have HW4:=hid hW4
  clear hb2 hb4 hS4 hT4 hb14 hck hW4
  go_wp2_with fail
  rw [← HW4.out]
  refine HCK.out.mono ?_;rintro z w5 ⟨rfl,hb5⟩
  have hs5:=hb5.size
  have HB15:=hid (HB14.out.trans (hb5.mono HB14.out.size))
  clear hb5
  go_wp2_with fail
  refine (HSET.out _).mono ?_;rintro z w6 ⟨rfl,hb6⟩
  have hs6:=hb6.size
  have HB16:=hid (HB15.out.trans (hb6.mono HB15.out.size))
  obtain⟨W9,hW9⟩:∃ W9,W9=((w6.alloc (.cells setS.arr 64)).alloc (.cells atomS.arr 64)).alloc (.cells #[.string ⟨#[102]⟩,.slice none 0 0,.int .u8 0,.string ⟨#[]⟩,.int .i64 0,.slice (some ⟨w6.heap.size,0,none⟩) 1 1,.string ⟨#[103]⟩,.slice none 0 0,.int .u8 0,.string ⟨#[]⟩,.int .i64 0,.slice (some ⟨w6.heap.size+1,0,none⟩) 1 1] 33):=⟨_,rfl⟩
  have hb9:Below w6.heap.size w6 W9:=by rw [hW9];exact (((below_box w6 _).alloc (by simp) _).alloc (by simp <;> omega) _)
  have hS9:W9.heap[w6.heap.size]? = some (.cells setS.arr 64 (0,0)):=by rw [hW9,Below.heap_alloc _ _ _ (by simp <;> omega),Below.heap_alloc _ _ _ (by simp)];exact (MapKept.heap_alloc w6 _).1
  have hA9:W9.heap[w6.heap.size+1]? = some (.cells atomS.arr 64 (0,0)):=by rw [hW9,Below.heap_alloc _ _ _ (by simp)];have:=(MapKept.heap_alloc (w6.alloc (.cells setS.arr 64)) (.cells atomS.arr 64)).1;simpa using this
  have hF9:W9.heap[w6.heap.size+1+1]? = some (.cells #[.string ⟨#[102]⟩,.slice none 0 0,.int .u8 0,.string ⟨#[]⟩,.int .i64 0,.slice (some ⟨w6.heap.size,0,none⟩) 1 1,.string ⟨#[103]⟩,.slice none 0 0,.int .u8 0,.string ⟨#[]⟩,.int .i64 0,.slice (some ⟨w6.heap.size+1,0,none⟩) 1 1] 33 (0,0)):=by
    rw [hW9];have:=(MapKept.heap_alloc ((w6.alloc (.cells setS.arr 64)).alloc (.cells atomS.arr 64)) (.cells #[.string ⟨#[102]⟩,.slice none 0 0,.int .u8 0,.string ⟨#[]⟩,.int .i64 0,.slice (some ⟨w6.heap.size,0,none⟩) 1 1,.string ⟨#[103]⟩,.slice none 0 0,.int .u8 0,.string ⟨#[]⟩,.int .i64 0,.slice (some ⟨w6.heap.size+1,0,none⟩) 1 1] 33)).1;simpa using this
  have hb19:Below W1.heap.size W1 W9:=HB16.out.trans (hb9.mono HB16.out.size)
  have hof:=eff_of (P2 w.heap.size w6.heap.size) W9.heap.size W9 (Nat.le_refl _) (P2_in ((hb19.block _ (by omega)).trans HN1.out) hS9 hA9 hF9) ⟨_,2,2,rfl,by omega,by omega⟩
  have HOF:=hid (show Calls Tryz.prog 6 #[.agg #[.slice none 0 0,.slice (some ⟨w.heap.size,0,none⟩) 1 1,.slice (some ⟨w6.heap.size+1+1,0,none⟩) 2 2,.slice none 0 0]] W9 (OfE (P2 w.heap.size w6.heap.size) W9) from hof)
  have HB19:=hid hb19
  have HW9:=hid hW9
  clear hb6 hb9 hS9 hA9 hF9 hb19 hof hW9
  go_wp2_with fail
  rw [← HW9.out]
  refine HOF.out.mono ?_;rintro z w10 ⟨hb10,hq⟩
  rw [P2_eff,P2_effs] at hq
  rcases hq with ⟨h0,_⟩|⟨_,v,rfl,hown⟩
  · exact absurd rfl h0
  obtain⟨g,cap,rfl,-,hg,hrd⟩:=row_read2 hown (show 0 < 2 by omega)
  have r0:=hrd 0 _ rfl
  have r1:=hrd 1 _ rfl
  have HB:=hid (HB1.out.trans ((HB19.out.trans (hb10.mono HB19.out.size)).mono (by omega)))
  clear hb10 hown hrd
  show _
  go_wp2_with fail
  go_ret
  exact⟨rfl,HB.out⟩
end Go.Proofs.YtdhieihcmnpneaaGreatDoor
