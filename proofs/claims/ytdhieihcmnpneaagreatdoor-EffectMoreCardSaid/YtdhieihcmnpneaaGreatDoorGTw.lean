/- What a text builds: structs, and slices of a few elements, as walks meet them. -/
import Derived.Test.YtdhieihcmnpneaaGreatDoorRows
import Derived.Test.YtdhieihcmnpneaaGreatDoorProg
import Derived.Great.BuildSlice
import Derived.Laws.Tables
import Derived.Test.YtdhieihcmnpneaaGreatDoorGFits
import Derived.Test.YtdhieihcmnpneaaGreatDoorGPlain
import Derived.Test.YtdhieihcmnpneaaGreatDoorGMem
import Derived.Test.YtdhieihcmnpneaaGreatDoorShelf
import Derived.Shelf.Strconv.Itoa3
import Derived.Lib.ItoaMem
import Derived.Lib.ItoaLen
namespace Go.Proofs.YtdhieihcmnpneaaGreatDoor
open Lib (hid)
set_option maxRecDepth 100000
set_option maxHeartbeats 1000000
open Go.RowKit
@[irreducible] noncomputable def bld (t:TypeId) (parts:Array (Nat × Value)):Sem Value:=Instr.build t parts
theorem bld_eq (t:TypeId) (parts:Array (Nat × Value)):Instr.build t parts=bld t parts:=by unfold bld;rfl
@[irreducible] noncomputable def bls (t:TypeId) (n:Nat) (parts:Array (Nat × Value)):Sem Value:=Instr.buildSlice t n parts
theorem bls_eq (t:TypeId) (n:Nat) (parts:Array (Nat × Value)):Instr.buildSlice t n parts=bls t n parts:=by unfold bls;rfl
theorem bld_of (t:TypeId) (parts:Array (Nat × Value)) (cells:Array Value) (h:Tryz.prog.built t parts.toList=some cells) (w:World):(bld t parts).run Tryz.prog w = .ok (.agg cells) w:=by
  unfold bld
  exact run_build w t parts cells h
theorem bls_of (t e:TypeId) (k n:Nat) (parts:Array (Nat × Value)) (cells:Array Value) (hs:(Tryz.prog.info? e).isSome=true) (hz:((Tryz.prog.info? e).get hs).zero.isSome=true) (hn:((Tryz.prog.info? e).get hs).size=n) (hk:0 < k∧k≤2) (hn0:0 < n∧n≤100) (hu:Tryz.prog.underlying t=some (.slice e))
    (hf:Instr.fill (fun i=>some (i * n,n)) ((Array.range (k * n)).map ((((Tryz.prog.info? e).get hs).zero.get hz).cells[· % (((Tryz.prog.info? e).get hs).zero.get hz).cells.size]!)) parts.toList=some cells) (w:World) :
    (bls t k parts).run Tryz.prog w = .ok (.slice (some ⟨w.heap.size,0,none⟩) k k) (w.alloc (.cells cells e)):=by
  unfold bls
  have h1:¬ k * n > 2 ^ 24:=by
    have:k * n≤2 * 100:=Nat.mul_le_mul hk.2 hn0.2
    omega
  have h2:¬ k * n=0:=by
    have:1 * 1≤k * n:=Nat.mul_le_mul hk.1 hn0.1
    omega
  exact run_buildSlice w t e k parts cells ((Tryz.prog.info? e).get hs) (((Tryz.prog.info? e).get hs).zero.get hz) hu (Option.some_get hs).symm (Option.some_get hz).symm (by rw [hn];exact h1) (by rw [hn];exact h2) (by rw [hn];exact hf)
end Go.Proofs.YtdhieihcmnpneaaGreatDoor
/- Copies of lists in memory of their own: what is known of them while they are made, and behind that. Nothing here is a walk. -/
namespace Go.Proofs.YtdhieihcmnpneaaGreatDoor
open Lib (hid)
set_option maxRecDepth 100000
set_option maxHeartbeats 1000000
open Go.RowKit
def NewW (lo:Nat) (w:World) (Q:World→Prop):Prop:=∀ v:World,(∀ g,lo≤g→g < w.heap.size→v.heap[g]? = w.heap[g]?)→Q v
theorem NewW.here {lo:Nat} {w:World} {Q:World→Prop} (h:NewW lo w Q):Q w:=h w fun _ _ _=>rfl
theorem NewW.mono {lo:Nat} {w:World} {Q R:World→Prop} (h:NewW lo w Q) (k:∀ v,Q v→R v):NewW lo w R:=fun v hv=>k v (h v hv)
theorem NewW.step {lo lo':Nat} {w w':World} {Q:World→Prop} (h:NewW lo w Q) (hlo:lo'≤lo) (hs:w.heap.size≤w'.heap.size) (hk:∀ g,lo≤g→g < w.heap.size→w'.heap[g]? = w.heap[g]?):NewW lo' w' Q:=
  fun v hv=>h v fun g h1 h2=>(hv g (by omega) (by omega)).trans (hk g h1 h2)
def Kept (lo:Nat) (w w':World):Prop:=w.heap.size≤w'.heap.size∧∀ g,lo≤g→g < w.heap.size→w'.heap[g]? = w.heap[g]?
theorem Kept.refl (lo:Nat) (w:World):Kept lo w w:=⟨Nat.le_refl _,fun _ _ _=>rfl⟩
theorem Kept.trans {lo:Nat} {a b c:World} (h:Kept lo a b) (k:Kept lo b c):Kept lo a c:=⟨Nat.le_trans h.1 k.1,fun g h1 h2=>(k.2 g h1 (Nat.lt_of_lt_of_le h2 h.1)).trans (h.2 g h1 h2)⟩
theorem Kept.of_below {lo:Nat} {w w':World} (h:Below w.heap.size w w'):Kept lo w w':=⟨h.size,fun g _ h2=>h.block g h2⟩
theorem Kept.of_put {lo b:Nat} {o:Obj} {w w':World} (h:Put b o w w') (hb:b < lo):Kept lo w w':=⟨by rw [h.size];exact Nat.le_refl _,fun g h1 _=>h.rest g (by omega)⟩
theorem Kept.of_set {lo b o:Nat} {v:Value} {w:World} (hb:b < lo):Kept lo w (w.setCell ⟨b,o,none⟩ v):=⟨by simp [World.setCell],fun g h1 _=>Below.heap_setCell _ _ _ _ (by show g ≠ b;omega)⟩
theorem NewW.kept {lo:Nat} {w w':World} {Q:World→Prop} (h:NewW lo w Q) (k:Kept lo w w'):NewW lo w' Q:=h.step (Nat.le_refl _) k.1 k.2
theorem put_cell {w:World} {b o:Nat} {v:Value} {T:TypeId} {old:Array Value} (h:w.heap[b]? = some (.cells old T (0,0))):Put b (.cells (old.setIfInBounds o v) T (0,0)) w (w.setCell ⟨b,o,none⟩ v):=
  ⟨rfl,rfl,rfl,by simp [World.setCell],by simp [World.setCell,Array.getElem?_modify,h],fun k hk=>Below.heap_setCell _ _ _ _ (by simpa using hk)⟩
structure TwS {α:Type} (cells:α→List Value) (E:TypeId) (kc:Nat) (In:World→Nat→α→Prop) (b N k:Nat) (w wr:World) (l':List α) (R:Array Value) (rest:List Value):Prop where
  len:l'.length=k
  below:Below b w wr
  lt:b < wr.heap.size
  row:wr.heap[b]? = some (.cells R E (0,0))
  list:R.toList=l'.flatMap cells ++ rest
  rest:rest.length=(N+2 - k) * kc
  new:∀ a ∈ l',NewW (b+1) wr fun v=>In v wr.heap.size a
theorem flat_len {α:Type} {cells:α→List Value} {kc:Nat} (hc:∀ a,(cells a).length=kc):∀ l:List α,(l.flatMap cells).length=l.length * kc
  | []=>by simp
  | a :: r=>by rw [List.flatMap_cons,List.length_append,hc,flat_len hc r,List.length_cons,Nat.succ_mul];omega
theorem row_over (A:Array Value) (P M:List Value) (c:Array Value) (kc:Nat) (h:A.toList=P ++ M) (hc:c.size=kc) (hM:kc≤M.length) :
    (A.extract 0 P.length ++ c ++ A.extract (P.length+c.size) A.size).toList=P ++ c.toList ++ M.drop kc:=by
  rw [Array.toList_append,Array.toList_append,Array.toList_extract,Array.toList_extract]
  have e1:A.toList.extract 0 P.length=P:=by
    rw [h];simp [List.extract]
  have e2:A.toList.extract (P.length+c.size) A.size=M.drop kc:=by
    rw [h,hc]
    have:A.size=P.length+M.length:=by rw [← Array.length_toList,h,List.length_append]
    rw [this]
    simp only [List.extract]
    rw [List.drop_append]
    simp only [show P.length+kc - P.length=kc by omega,List.drop_eq_nil_of_le (show P.length≤P.length+kc by omega),List.nil_append]
    rw [List.take_of_length_le (by rw [List.length_drop];omega)]
  rw [e1,e2]
section
variable {α:Type} {cells:α→List Value} {E:TypeId} {kc:Nat} {In:World→Nat→α→Prop} {b N k:Nat} {w wr:World} {l':List α} {R:Array Value} {rest:List Value}
theorem TwS.rsize (h:TwS cells E kc In b N k w wr l' R rest) (hc:∀ a,(cells a).length=kc) (hk:k≤N+2):R.size=(N+2) * kc:=by
  rw [← Array.length_toList,h.list,List.length_append,flat_len hc,h.len,h.rest,← Nat.add_mul]
  congr 1;omega
theorem TwS.step (h:TwS cells E kc In b N k w wr l' R rest) (hc:∀ a,(cells a).length=kc) (hup:∀ v B B' a,B≤B'→In v B a→In v B' a) (hk:k < N) {w1 w2:World} {a:α} {new:Array Value}
    (hb1:Below wr.heap.size wr w1) (ha:NewW wr.heap.size w1 fun v=>In v w1.heap.size a)
    (hnew:new=R.extract 0 (k * kc) ++ (cells a).toArray ++ R.extract (k * kc+(cells a).toArray.size) R.size) (hp:Put b (.cells new E (0,0)) w1 w2) :
    ∃ rest',TwS cells E kc In b N (k+1) w w2 (l' ++ [a]) new rest':=by
  have hs1:=hb1.size
  have hlt:=h.lt
  refine⟨rest.drop kc,⟨by rw [List.length_append,h.len];rfl,hp.below (h.below.trans (hb1.mono (by omega))) (Nat.le_refl _),by rw [hp.size];omega,hp.at_b, ?_, ?_,fun x hx=>?_⟩⟩
  · have e:k * kc=(l'.flatMap cells).length:=by rw [flat_len hc,h.len]
    rw [hnew,e,row_over R (l'.flatMap cells) rest (cells a).toArray kc h.list (by simp [hc]) (by rw [h.rest];exact Nat.le_trans (by omega) (Nat.mul_le_mul_right kc (show 1≤N+2 - k by omega)))]
    simp
  · rw [List.length_drop,h.rest,show N+2 - k=(N+2 - (k+1))+1 by omega,Nat.succ_mul];omega
  · rcases List.mem_append.1 hx with hx|hx
    · have hn:=h.new x hx
      refine (hn.mono fun v hv=>hup v wr.heap.size w2.heap.size x (by rw [hp.size];omega) hv).step (Nat.le_refl _) (by rw [hp.size];omega) fun g h1 h2=>?_
      rw [hp.rest g (by omega),hb1.block g h2]
    · obtain rfl:x=a:=by simpa using hx
      refine (ha.mono fun v hv=>hup v w1.heap.size w2.heap.size x (by rw [hp.size];omega) hv).step (by omega) (by rw [hp.size];omega) fun g h1 h2=>?_
      rw [hp.rest g (by omega)]
structure TwM {α:Type} (cells:α→List Value) (E:TypeId) (kc:Nat) (In:World→Nat→α→Prop) (b N:Nat) (w wr:World) (l':List α) (R:Array Value) (marks rest:List Value) (m:Nat):Prop where
  len:l'.length=N
  below:Below b w wr
  lt:b < wr.heap.size
  row:wr.heap[b]? = some (.cells R E (0,0))
  list:R.toList=l'.flatMap cells ++ marks ++ rest
  mlen:marks.length=m * kc
  rest:rest.length=(2 - m) * kc
  new:∀ a ∈ l',NewW (b+1) wr fun v=>In v wr.heap.size a
theorem TwS.marks (h:TwS cells E kc In b N N w wr l' R rest):TwM cells E kc In b N w wr l' R [] rest 0:=
  ⟨h.len,h.below,h.lt,h.row,by rw [h.list];simp,by simp,by rw [h.rest];congr 1;omega,h.new⟩
theorem TwM.rsize {marks:List Value} {m:Nat} (h:TwM cells E kc In b N w wr l' R marks rest m) (hc:∀ a,(cells a).length=kc) (hm:m≤2):R.size=(N+2) * kc:=by
  rw [← Array.length_toList,h.list,List.length_append,List.length_append,flat_len hc,h.len,h.mlen,h.rest,← Nat.add_mul,← Nat.add_mul]
  congr 1;omega
theorem TwM.step {marks:List Value} {m:Nat} (h:TwM cells E kc In b N w wr l' R marks rest m) (hc:∀ a,(cells a).length=kc) (hup:∀ v B B' a,B≤B'→In v B a→In v B' a) (hm:m < 2) {w1 w2:World} {mk:List Value} {new:Array Value} (hmk:mk.length=kc)
    (hb1:Below wr.heap.size wr w1)
    (hnew:new=R.extract 0 ((N+m) * kc) ++ mk.toArray ++ R.extract ((N+m) * kc+mk.toArray.size) R.size) (hp:Put b (.cells new E (0,0)) w1 w2) :
    TwM cells E kc In b N w w2 l' new (marks ++ mk) (rest.drop kc) (m+1):=by
  have hs1:=hb1.size
  have hlt:=h.lt
  refine⟨h.len,hp.below (h.below.trans (hb1.mono (by omega))) (Nat.le_refl _),by rw [hp.size];omega,hp.at_b, ?_, ?_, ?_,fun x hx=>?_⟩
  · have e:(N+m) * kc=(l'.flatMap cells ++ marks).length:=by rw [List.length_append,flat_len hc,h.len,h.mlen,Nat.add_mul]
    rw [hnew,e,row_over R (l'.flatMap cells ++ marks) rest mk.toArray kc h.list (by simp [hmk]) (by rw [h.rest];exact Nat.le_trans (by omega) (Nat.mul_le_mul_right kc (show 1≤2 - m by omega)))]
    simp
  · rw [List.length_append,h.mlen,hmk,Nat.succ_mul]
  · rw [List.length_drop,h.rest,show 2 - m=(2 - (m+1))+1 by omega,Nat.succ_mul];omega
  · refine ((h.new x hx).mono fun v hv=>hup v wr.heap.size w2.heap.size x (by rw [hp.size];omega) hv).step (Nat.le_refl _) (by rw [hp.size];omega) fun g h1 h2=>?_
    rw [hp.rest g (by omega),hb1.block g h2]
end
structure TwL {α:Type} (cells:α→List Value) (E:TypeId) (kc:Nat) (In:World→Nat→α→Prop) (N:Nat) (mk:Nat→List Value→Prop) (w w':World) (v:Value) (l':List α) (R:Array Value) (t1 t2:List Value):Prop where
  val:v = .slice (some ⟨w.heap.size,0,none⟩) N (N+2)
  len:l'.length=N
  below:Below w.heap.size w w'
  lt:w.heap.size < w'.heap.size
  row:w'.heap[w.heap.size]? = some (.cells R E (0,0))
  list:R.toList=l'.flatMap cells ++ (t1 ++ t2)
  l1:t1.length=kc
  l2:t2.length=kc
  m1:mk N t1
  m2:mk (N+1) t2
  new:∀ a ∈ l',NewW (w.heap.size+1) w' fun v=>In v w'.heap.size a
def TwE {α:Type} (cells:α→List Value) (E:TypeId) (kc:Nat) (In:World→Nat→α→Prop) (N:Nat) (mk:Nat→List Value→Prop) (P:List α→Prop) (w:World) (e:Ending) (w':World):Prop:=
  ∃ v l' R t1 t2,e = .returned v∧P l'∧TwL cells E kc In N mk w w' v l' R t1 t2
theorem TwM.done {α:Type} {cells:α→List Value} {E:TypeId} {kc:Nat} {In:World→Nat→α→Prop} {N:Nat} {mk:Nat→List Value→Prop} {w wr:World} {l':List α} {R:Array Value} {t1 t2 rest:List Value}
    (h:TwM cells E kc In w.heap.size N w wr l' R ([] ++ t1 ++ t2) rest 2) (h1:t1.length=kc) (h2:t2.length=kc) (m1:mk N t1) (m2:mk (N+1) t2):TwL cells E kc In N mk w wr (.slice (some ⟨w.heap.size,0,none⟩) N (N+2)) l' R t1 t2:=
  ⟨rfl,h.len,h.below,h.lt,h.row,by
    have hr:rest = []:=List.eq_nil_of_length_eq_zero (by rw [h.rest];omega)
    rw [h.list,hr];simp,h1,h2,m1,m2,h.new⟩
section
variable {α:Type} {cells:α→List Value} {E:TypeId} {kc:Nat} {In:World→Nat→α→Prop} {N:Nat} {mk:Nat→List Value→Prop} {w w':World} {v:Value} {l':List α} {R:Array Value} {t1 t2:List Value}
theorem flat_at (hc:∀ a,(cells a).length=kc):∀ (l:List α) (T:List Value) (i:Nat) (x:α),l[i]? = some x→∀ j u,(cells x)[j]? = some u→(l.flatMap cells ++ T)[i * kc+j]? = some u
  | [],_,i,x,h,_,_,_=>by cases h
  | a :: r,T,i,x,h,j,u,hu=>by
    rw [List.flatMap_cons,List.append_assoc]
    have hj:j < kc:=by rw [← hc x];exact (List.getElem?_eq_some_iff.1 hu).1
    cases i with
    | zero =>
      obtain rfl:a=x:=by simpa using h
      rw [Nat.zero_mul,Nat.zero_add,List.getElem?_append_left (by rw [hc];exact hj)]
      exact hu
    | succ i =>
      rw [List.getElem?_append_right (by rw [hc,Nat.succ_mul];omega),hc,show (i+1) * kc+j - kc=i * kc+j by rw [Nat.succ_mul];omega]
      exact flat_at hc r T i x (by simpa using h) j u hu
theorem TwL.lies (h:TwL cells E kc In N mk w w' v l' R t1 t2) (hc:∀ a,(cells a).length=kc) (hN:N≤140737488351232):NewW w.heap.size w' fun u=>LiesG cells kc u w'.heap.size v l':=by
  intro u hu
  refine⟨some ⟨w.heap.size,0,none⟩,N+2,by rw [h.val,h.len],by rw [h.len];exact hN,.inr ⟨w.heap.size,0,rfl,h.lt,fun i x hx j q hq=>?_⟩⟩
  have hr:u.heap[w.heap.size]? = some (.cells R E (0,0)):=(hu _ (Nat.le_refl _) h.lt).trans h.row
  rw [Lib.cell_of_heap hr,Nat.zero_add]
  rw [← Array.getElem?_toList,h.list]
  exact flat_at hc l' (t1 ++ t2) i x hx j q hq
theorem TwL.all (h:TwL cells E kc In N mk w w' v l' R t1 t2):∀ a ∈ l',NewW w.heap.size w' fun u=>In u w'.heap.size a:=
  fun a ha=>(h.new a ha).step (by omega) (Nat.le_refl _) fun _ _ _=>rfl
end
end Go.Proofs.YtdhieihcmnpneaaGreatDoor
/- The marks that the statements' own functions put behind lists. -/
namespace Go.Proofs.YtdhieihcmnpneaaGreatDoor
open Lib (hid)
set_option maxRecDepth 100000
set_option maxHeartbeats 1000000
open Go.RowKit
theorem tvar_keeps {P:Program} {n:String} {cs:Array Value} {w w':World} (hb:Below w.heap.size w w') (h:w.var? P n=some cs):w'.var? P n=some cs:=by
  unfold World.var? at *
  cases hg:P.globalNamed n with
  | none=>simp [hg] at h
  | some g =>
    simp only [hg,Option.bind_some] at h ⊢
    have hlt:g < w.heap.size:=by
      rcases Nat.lt_or_ge g w.heap.size with h'|h'
      · exact h'
      · rw [Array.getElem?_eq_none h'] at h;simp at h
    rw [hb.block g hlt]
    exact h
theorem tbelow_more (w:World) (k:Nat) (os:Array Obj):Below w.heap.size w (Sort.grow (w.drewN k) os):=
  ⟨rfl,rfl,rfl,by show w.heap.size≤(w.heap ++ os).size;rw [Array.size_append];omega,fun j hj=>by
    show (w.heap ++ os)[j]? = w.heap[j]?
    rw [Array.getElem?_append,if_pos hj]⟩
structure Tab (w:World):Prop where
  tab:Lib.TabIs Tryz.prog w "internal/strconv.uint64pow10" .u64 Lib.pow10Tab
theorem Tab.keeps {w w':World} (h:Tab w) (hb:Below w.heap.size w w'):Tab w':=⟨tvar_keeps hb h.tab⟩
def wordB (n:Nat):ByteArray:=⟨#[35]⟩ ++ ⟨(Lib.itoa (n:Int)).toArray⟩
theorem markWord_any (n:Nat) (h1:n≤1000000) (w:World) (hG:Tab w) :
    Calls Tryz.prog 69 #[.int .i64 (n:Int)] w fun e w'=>e = .returned (.string (wordB n))∧Below w.heap.size w w':=by
  have hc:Calls Tryz.prog 88 #[.int .i64 (n:Int)] w fun e w'=>e = .returned (.string ⟨(Lib.itoa (n:Int)).toArray⟩)∧∃ k os,w'=Sort.grow (w.drewN k) os:=Any.strconv_Itoa Tryz.laysM171 (n:Int) (by omega) (by omega) w hG.tab
  have Hc:=hid hc
  have HW:=hid (show wordB n=⟨#[35]⟩ ++ ⟨(Lib.itoa (n:Int)).toArray⟩ from rfl)
  have hsz:(⟨(Lib.itoa (n:Int)).toArray⟩:ByteArray).size≤21:=by
    show (Lib.itoa (n:Int)).toArray.size≤21
    rw [List.size_toArray]
    exact Lib.itoa_length_le _ (by omega) (by omega)
  clear hc hG
  generalize wordB n=S at *
  generalize (⟨(Lib.itoa (n:Int)).toArray⟩:ByteArray)=T at *
  go_enter Tryz.func69,Tryz.ntmps69
  go_wp2_with fail
  refine Hc.out.mono ?_;rintro e w' ⟨rfl,k,os,rfl⟩
  go_wp2_with fail
  go_ret
  exact⟨by rw [HW.out];rfl,tbelow_more _ _ _⟩
def markRecord (n:Nat):List Value:=[.string (wordB n),.slice none 0 0]
theorem markRecord_len (n:Nat):(markRecord n).length=2:=rfl
theorem markRecord_one (n:Nat):(markRecord n).toArray.all (·.oneCell')=true:=by simp [markRecord,Value.oneCell']
theorem markRecord_made (S:ByteArray) (w:World):(bld 49 #[(0,.string S)]).run Tryz.prog w = .ok (.agg #[.string S,.slice none 0 0]) w:=bld_of 49 #[(0,.string S)] #[.string S,.slice none 0 0] (by kernel_rfl) w
section
attribute [local go_sem ↓] bld_eq
theorem markRecord_any (n:Nat) (h1:n≤1000000) (w:World) (hG:Tab w) :
    Calls Tryz.prog 36 #[.int .i64 (n:Int)] w fun e w'=>e = .returned (.agg (markRecord n).toArray)∧Below w.heap.size w w':=by
  obtain⟨S,hS⟩:∃ S,S=wordB n:=⟨_,rfl⟩
  have hR:(Value.agg (markRecord n).toArray) = .agg #[.string S,.slice none 0 0]:=by rw [hS];rfl
  rw [hR]
  have hW:=markWord_any n h1 (w.alloc (.cells #[.string ⟨#[]⟩,.slice none 0 0] 49)) (hG.keeps (below_box w _))
  rw [← hS] at hW
  have HW:=hid hW
  have HB:=hid (below_box w (.cells #[.string ⟨#[]⟩,.slice none 0 0] 49))
  have HO:=hid (show (w.alloc (.cells #[.string ⟨#[]⟩,.slice none 0 0] 49)).heap[w.heap.size]? = some (.cells #[.string ⟨#[]⟩,.slice none 0 0] 49 (0,0)) from (MapKept.heap_alloc _ _).1)
  have hmd:=markRecord_made S
  clear hW hG hR hS
  go_enter Tryz.func36,Tryz.ntmps36
  go_wp2_with fail
  refine HW.out.mono ?_;rintro e w3 ⟨rfl,hb3⟩
  have hz3:w.heap.size+1≤w3.heap.size:=by have:=hb3.size;simpa using this
  have HO3:=hid ((hb3.block _ (by simp)).trans HO.out)
  have HB3:=hid (HB.out.trans (hb3.mono HB.out.size))
  clear hb3
  go_wp2_with (refine wpList_put rfl 49 (Operand.tmp 2) (Operand.tmp 5) rfl w.heap.size 49 _ #[.string S,.slice none 0 0] rfl rfl HO3.out rfl (by kernel_rfl) (by simp [Value.oneCell']) ?_)
  intro w6 hp6
  have HP:=hid hp6
  clear hp6
  go_wp2_with fail
  refine bodyPost_ret (v:=.agg #[.string S,.slice none 0 0]) (results_cell_row rfl _ _ w.heap.size 49 _ (0,0) _ rfl HP.out.at_b Tryz.underlying49 rfl (by kernel_rfl)) rfl ?_
  exact⟨rfl,HP.out.below HB3.out (Nat.le_refl _)⟩
end
def markField (n:Nat):List Value:=[.string (wordB n),.int .u8 0,.string ⟨#[]⟩,.int .i64 0]
theorem markField_len (n:Nat):(markField n).length=4:=rfl
theorem markField_one (n:Nat):(markField n).toArray.all (·.oneCell')=true:=by simp [markField,Value.oneCell']
theorem markField_made (S:ByteArray) (w:World):(bld 57 #[(0,.string S)]).run Tryz.prog w = .ok (.agg #[.string S,.int .u8 0,.string ⟨#[]⟩,.int .i64 0]) w:=bld_of 57 #[(0,.string S)] #[.string S,.int .u8 0,.string ⟨#[]⟩,.int .i64 0] (by kernel_rfl) w
section
attribute [local go_sem ↓] bld_eq
theorem markField_any (n:Nat) (h1:n≤1000000) (w:World) (hG:Tab w) :
    Calls Tryz.prog 37 #[.int .i64 (n:Int)] w fun e w'=>e = .returned (.agg (markField n).toArray)∧Below w.heap.size w w':=by
  obtain⟨S,hS⟩:∃ S,S=wordB n:=⟨_,rfl⟩
  have hR:(Value.agg (markField n).toArray) = .agg #[.string S,.int .u8 0,.string ⟨#[]⟩,.int .i64 0]:=by rw [hS];rfl
  rw [hR]
  have hW:=markWord_any n h1 (w.alloc (.cells #[.string ⟨#[]⟩,.int .u8 0,.string ⟨#[]⟩,.int .i64 0] 57)) (hG.keeps (below_box w _))
  rw [← hS] at hW
  have HW:=hid hW
  have HB:=hid (below_box w (.cells #[.string ⟨#[]⟩,.int .u8 0,.string ⟨#[]⟩,.int .i64 0] 57))
  have HO:=hid (show (w.alloc (.cells #[.string ⟨#[]⟩,.int .u8 0,.string ⟨#[]⟩,.int .i64 0] 57)).heap[w.heap.size]? = some (.cells #[.string ⟨#[]⟩,.int .u8 0,.string ⟨#[]⟩,.int .i64 0] 57 (0,0)) from (MapKept.heap_alloc _ _).1)
  have hmd:=markField_made S
  clear hW hG hR hS
  go_enter Tryz.func37,Tryz.ntmps37
  go_wp2_with fail
  refine HW.out.mono ?_;rintro e w3 ⟨rfl,hb3⟩
  have hz3:w.heap.size+1≤w3.heap.size:=by have:=hb3.size;simpa using this
  have HO3:=hid ((hb3.block _ (by simp)).trans HO.out)
  have HB3:=hid (HB.out.trans (hb3.mono HB.out.size))
  clear hb3
  go_wp2_with (refine wpList_put rfl 57 (Operand.tmp 2) (Operand.tmp 5) rfl w.heap.size 57 _ #[.string S,.int .u8 0,.string ⟨#[]⟩,.int .i64 0] rfl rfl HO3.out rfl (by kernel_rfl) (by simp [Value.oneCell']) ?_)
  intro w6 hp6
  have HP:=hid hp6
  clear hp6
  go_wp2_with fail
  refine bodyPost_ret (v:=.agg #[.string S,.int .u8 0,.string ⟨#[]⟩,.int .i64 0]) (results_cell_row rfl _ _ w.heap.size 57 _ (0,0) _ rfl HP.out.at_b Tryz.underlying57 rfl (by kernel_rfl)) rfl ?_
  exact⟨rfl,HP.out.below HB3.out (Nat.le_refl _)⟩
end
def markFunc (n:Nat):List Value:=[.string (wordB n),.slice none 0 0,.int .u8 0,.string ⟨#[]⟩,.int .i64 0,.slice none 0 0]
theorem markFunc_len (n:Nat):(markFunc n).length=6:=rfl
theorem markFunc_one (n:Nat):(markFunc n).toArray.all (·.oneCell')=true:=by simp [markFunc,Value.oneCell']
theorem markFunc_made (S:ByteArray) (w:World):(bld 33 #[(0,.string S)]).run Tryz.prog w = .ok (.agg #[.string S,.slice none 0 0,.int .u8 0,.string ⟨#[]⟩,.int .i64 0,.slice none 0 0]) w:=bld_of 33 #[(0,.string S)] #[.string S,.slice none 0 0,.int .u8 0,.string ⟨#[]⟩,.int .i64 0,.slice none 0 0] (by kernel_rfl) w
section
attribute [local go_sem ↓] bld_eq
theorem markFunc_any (n:Nat) (h1:n≤1000000) (w:World) (hG:Tab w) :
    Calls Tryz.prog 38 #[.int .i64 (n:Int)] w fun e w'=>e = .returned (.agg (markFunc n).toArray)∧Below w.heap.size w w':=by
  obtain⟨S,hS⟩:∃ S,S=wordB n:=⟨_,rfl⟩
  have hR:(Value.agg (markFunc n).toArray) = .agg #[.string S,.slice none 0 0,.int .u8 0,.string ⟨#[]⟩,.int .i64 0,.slice none 0 0]:=by rw [hS];rfl
  rw [hR]
  have hW:=markWord_any n h1 (w.alloc (.cells #[.string ⟨#[]⟩,.slice none 0 0,.int .u8 0,.string ⟨#[]⟩,.int .i64 0,.slice none 0 0] 33)) (hG.keeps (below_box w _))
  rw [← hS] at hW
  have HW:=hid hW
  have HB:=hid (below_box w (.cells #[.string ⟨#[]⟩,.slice none 0 0,.int .u8 0,.string ⟨#[]⟩,.int .i64 0,.slice none 0 0] 33))
  have HO:=hid (show (w.alloc (.cells #[.string ⟨#[]⟩,.slice none 0 0,.int .u8 0,.string ⟨#[]⟩,.int .i64 0,.slice none 0 0] 33)).heap[w.heap.size]? = some (.cells #[.string ⟨#[]⟩,.slice none 0 0,.int .u8 0,.string ⟨#[]⟩,.int .i64 0,.slice none 0 0] 33 (0,0)) from (MapKept.heap_alloc _ _).1)
  have hmd:=markFunc_made S
  clear hW hG hR hS
  go_enter Tryz.func38,Tryz.ntmps38
  go_wp2_with fail
  refine HW.out.mono ?_;rintro e w3 ⟨rfl,hb3⟩
  have hz3:w.heap.size+1≤w3.heap.size:=by have:=hb3.size;simpa using this
  have HO3:=hid ((hb3.block _ (by simp)).trans HO.out)
  have HB3:=hid (HB.out.trans (hb3.mono HB.out.size))
  clear hb3
  go_wp2_with (refine wpList_put rfl 33 (Operand.tmp 2) (Operand.tmp 5) rfl w.heap.size 33 _ #[.string S,.slice none 0 0,.int .u8 0,.string ⟨#[]⟩,.int .i64 0,.slice none 0 0] rfl rfl HO3.out rfl (by kernel_rfl) (by simp [Value.oneCell']) ?_)
  intro w6 hp6
  have HP:=hid hp6
  clear hp6
  go_wp2_with fail
  refine bodyPost_ret (v:=.agg #[.string S,.slice none 0 0,.int .u8 0,.string ⟨#[]⟩,.int .i64 0,.slice none 0 0]) (results_cell_row rfl _ _ w.heap.size 33 _ (0,0) _ rfl HP.out.at_b Tryz.underlying33 rfl (by kernel_rfl)) rfl ?_
  exact⟨rfl,HP.out.below HB3.out (Nat.le_refl _)⟩
end
def markStmt (n:Nat):List Value:=[.int .u8 0,.string (wordB n),.int .u8 0,.string ⟨#[]⟩,.int .i64 0,.int .u8 0,.int .i64 0,.string ⟨#[]⟩,.int .u8 0,.string ⟨#[]⟩,.int .i64 0,.slice none 0 0,.int .u8 0,.int .i64 0,.string ⟨#[]⟩,.int .u8 0,.string ⟨#[]⟩,.int .i64 0,.slice none 0 0,.slice none 0 0,.slice none 0 0]
theorem markStmt_len (n:Nat):(markStmt n).length=21:=rfl
theorem markStmt_one (n:Nat):(markStmt n).toArray.all (·.oneCell')=true:=by simp [markStmt,Value.oneCell']
theorem markStmt_made (S:ByteArray) (w:World):(bld 64 #[(1,.string S)]).run Tryz.prog w = .ok (.agg #[.int .u8 0,.string S,.int .u8 0,.string ⟨#[]⟩,.int .i64 0,.int .u8 0,.int .i64 0,.string ⟨#[]⟩,.int .u8 0,.string ⟨#[]⟩,.int .i64 0,.slice none 0 0,.int .u8 0,.int .i64 0,.string ⟨#[]⟩,.int .u8 0,.string ⟨#[]⟩,.int .i64 0,.slice none 0 0,.slice none 0 0,.slice none 0 0]) w:=bld_of 64 #[(1,.string S)] #[.int .u8 0,.string S,.int .u8 0,.string ⟨#[]⟩,.int .i64 0,.int .u8 0,.int .i64 0,.string ⟨#[]⟩,.int .u8 0,.string ⟨#[]⟩,.int .i64 0,.slice none 0 0,.int .u8 0,.int .i64 0,.string ⟨#[]⟩,.int .u8 0,.string ⟨#[]⟩,.int .i64 0,.slice none 0 0,.slice none 0 0,.slice none 0 0] (by kernel_rfl) w
section
attribute [local go_sem ↓] bld_eq
theorem markStmt_any (n:Nat) (h1:n≤1000000) (w:World) (hG:Tab w) :
    Calls Tryz.prog 41 #[.int .i64 (n:Int)] w fun e w'=>e = .returned (.agg (markStmt n).toArray)∧Below w.heap.size w w':=by
  obtain⟨S,hS⟩:∃ S,S=wordB n:=⟨_,rfl⟩
  have hR:(Value.agg (markStmt n).toArray) = .agg #[.int .u8 0,.string S,.int .u8 0,.string ⟨#[]⟩,.int .i64 0,.int .u8 0,.int .i64 0,.string ⟨#[]⟩,.int .u8 0,.string ⟨#[]⟩,.int .i64 0,.slice none 0 0,.int .u8 0,.int .i64 0,.string ⟨#[]⟩,.int .u8 0,.string ⟨#[]⟩,.int .i64 0,.slice none 0 0,.slice none 0 0,.slice none 0 0]:=by rw [hS];rfl
  rw [hR]
  have hW:=markWord_any n h1 (w.alloc (.cells #[.int .u8 0,.string ⟨#[]⟩,.int .u8 0,.string ⟨#[]⟩,.int .i64 0,.int .u8 0,.int .i64 0,.string ⟨#[]⟩,.int .u8 0,.string ⟨#[]⟩,.int .i64 0,.slice none 0 0,.int .u8 0,.int .i64 0,.string ⟨#[]⟩,.int .u8 0,.string ⟨#[]⟩,.int .i64 0,.slice none 0 0,.slice none 0 0,.slice none 0 0] 64)) (hG.keeps (below_box w _))
  rw [← hS] at hW
  have HW:=hid hW
  have HB:=hid (below_box w (.cells #[.int .u8 0,.string ⟨#[]⟩,.int .u8 0,.string ⟨#[]⟩,.int .i64 0,.int .u8 0,.int .i64 0,.string ⟨#[]⟩,.int .u8 0,.string ⟨#[]⟩,.int .i64 0,.slice none 0 0,.int .u8 0,.int .i64 0,.string ⟨#[]⟩,.int .u8 0,.string ⟨#[]⟩,.int .i64 0,.slice none 0 0,.slice none 0 0,.slice none 0 0] 64))
  have HO:=hid (show (w.alloc (.cells #[.int .u8 0,.string ⟨#[]⟩,.int .u8 0,.string ⟨#[]⟩,.int .i64 0,.int .u8 0,.int .i64 0,.string ⟨#[]⟩,.int .u8 0,.string ⟨#[]⟩,.int .i64 0,.slice none 0 0,.int .u8 0,.int .i64 0,.string ⟨#[]⟩,.int .u8 0,.string ⟨#[]⟩,.int .i64 0,.slice none 0 0,.slice none 0 0,.slice none 0 0] 64)).heap[w.heap.size]? = some (.cells #[.int .u8 0,.string ⟨#[]⟩,.int .u8 0,.string ⟨#[]⟩,.int .i64 0,.int .u8 0,.int .i64 0,.string ⟨#[]⟩,.int .u8 0,.string ⟨#[]⟩,.int .i64 0,.slice none 0 0,.int .u8 0,.int .i64 0,.string ⟨#[]⟩,.int .u8 0,.string ⟨#[]⟩,.int .i64 0,.slice none 0 0,.slice none 0 0,.slice none 0 0] 64 (0,0)) from (MapKept.heap_alloc _ _).1)
  have hmd:=markStmt_made S
  clear hW hG hR hS
  go_enter Tryz.func41,Tryz.ntmps41
  go_wp2_with fail
  refine HW.out.mono ?_;rintro e w3 ⟨rfl,hb3⟩
  have hz3:w.heap.size+1≤w3.heap.size:=by have:=hb3.size;simpa using this
  have HO3:=hid ((hb3.block _ (by simp)).trans HO.out)
  have HB3:=hid (HB.out.trans (hb3.mono HB.out.size))
  clear hb3
  go_wp2_with (refine wpList_put rfl 64 (Operand.tmp 2) (Operand.tmp 5) rfl w.heap.size 64 _ #[.int .u8 0,.string S,.int .u8 0,.string ⟨#[]⟩,.int .i64 0,.int .u8 0,.int .i64 0,.string ⟨#[]⟩,.int .u8 0,.string ⟨#[]⟩,.int .i64 0,.slice none 0 0,.int .u8 0,.int .i64 0,.string ⟨#[]⟩,.int .u8 0,.string ⟨#[]⟩,.int .i64 0,.slice none 0 0,.slice none 0 0,.slice none 0 0] rfl rfl HO3.out rfl (by kernel_rfl) (by simp [Value.oneCell']) ?_)
  intro w6 hp6
  have HP:=hid hp6
  clear hp6
  go_wp2_with fail
  refine bodyPost_ret (v:=.agg #[.int .u8 0,.string S,.int .u8 0,.string ⟨#[]⟩,.int .i64 0,.int .u8 0,.int .i64 0,.string ⟨#[]⟩,.int .u8 0,.string ⟨#[]⟩,.int .i64 0,.slice none 0 0,.int .u8 0,.int .i64 0,.string ⟨#[]⟩,.int .u8 0,.string ⟨#[]⟩,.int .i64 0,.slice none 0 0,.slice none 0 0,.slice none 0 0]) (results_cell_row rfl _ _ w.heap.size 64 _ (0,0) _ rfl HP.out.at_b Tryz.underlying64 rfl (by kernel_rfl)) rfl ?_
  exact⟨rfl,HP.out.below HB3.out (Nat.le_refl _)⟩
end
def markExpr (n:Nat):List Value:=[.int .u8 0,.int .i64 (-1000 - (n:Int)),.string ⟨#[]⟩,.int .u8 0,.string ⟨#[]⟩,.int .i64 0,.slice none 0 0]
theorem markExpr_len (n:Nat):(markExpr n).length=7:=rfl
theorem markExpr_one (n:Nat):(markExpr n).toArray.all (·.oneCell')=true:=by simp [markExpr,Value.oneCell']
section
attribute [local go_sem ↓] bld_eq
theorem markExpr_any (n:Nat) (h1:n≤1000000) (w:World) :
    Calls Tryz.prog 104 #[.int .i64 (n:Int)] w fun e w'=>e = .returned (.agg (markExpr n).toArray)∧Below w.heap.size w w':=by
  have hR:(Value.agg (markExpr n).toArray) = .agg #[.int .u8 0,.int .i64 (-1000 - (n:Int)),.string ⟨#[]⟩,.int .u8 0,.string ⟨#[]⟩,.int .i64 0,.slice none 0 0]:=rfl
  rw [hR]
  have HB:=hid (below_box w (.cells #[.int .u8 0,.int .i64 0,.string ⟨#[]⟩,.int .u8 0,.string ⟨#[]⟩,.int .i64 0,.slice none 0 0] 62))
  have HO:=hid (show (w.alloc (.cells #[.int .u8 0,.int .i64 0,.string ⟨#[]⟩,.int .u8 0,.string ⟨#[]⟩,.int .i64 0,.slice none 0 0] 62)).heap[w.heap.size]? = some (.cells #[.int .u8 0,.int .i64 0,.string ⟨#[]⟩,.int .u8 0,.string ⟨#[]⟩,.int .i64 0,.slice none 0 0] 62 (0,0)) from (MapKept.heap_alloc _ _).1)
  have hmd:∀ w:World,(bld 62 #[(1,.int .i64 (-1000 - (n:Int)))]).run Tryz.prog w = .ok (.agg #[.int .u8 0,.int .i64 (-1000 - (n:Int)),.string ⟨#[]⟩,.int .u8 0,.string ⟨#[]⟩,.int .i64 0,.slice none 0 0]) w:=fun w=>bld_of 62 #[(1,.int .i64 (-1000 - (n:Int)))] #[.int .u8 0,.int .i64 (-1000 - (n:Int)),.string ⟨#[]⟩,.int .u8 0,.string ⟨#[]⟩,.int .i64 0,.slice none 0 0] (by kernel_rfl) w
  clear hR
  go_enter Tryz.func104,Tryz.ntmps104
  go_wp2_with (refine wpList_put rfl 62 (Operand.tmp 2) (Operand.tmp 5) rfl w.heap.size 62 _ #[.int .u8 0,.int .i64 (-1000 - (n:Int)),.string ⟨#[]⟩,.int .u8 0,.string ⟨#[]⟩,.int .i64 0,.slice none 0 0] rfl rfl HO.out rfl (by kernel_rfl) (by simp [Value.oneCell']) ?_)
  intro w6 hp6
  have HP:=hid hp6
  clear hp6
  go_wp2_with fail
  refine bodyPost_ret (v:=.agg #[.int .u8 0,.int .i64 (-1000 - (n:Int)),.string ⟨#[]⟩,.int .u8 0,.string ⟨#[]⟩,.int .i64 0,.slice none 0 0]) (results_cell_row rfl _ _ w.heap.size 62 _ (0,0) _ rfl HP.out.at_b Tryz.underlying62 rfl (by kernel_rfl)) rfl ?_
  exact⟨rfl,HP.out.below HB.out (Nat.le_refl _)⟩
end
end Go.Proofs.YtdhieihcmnpneaaGreatDoor
