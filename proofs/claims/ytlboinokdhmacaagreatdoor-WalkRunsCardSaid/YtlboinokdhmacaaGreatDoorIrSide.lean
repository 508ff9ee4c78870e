import Derived.Test.YtlboinokdhmacaaGreatDoorRefDo
import Derived.Test.YtlboinokdhmacaaGreatDoorProg
import Derived.Great.BuildSlice
import Derived.Laws.Tables
namespace Go.Proofs.YtlboinokdhmacaaGreatDoor
set_option maxHeartbeats 64000000
set_option maxRecDepth 1000000
open Lib(hid)
section
open Go.RowKit
@[irreducible] noncomputable def bld (t:TypeId) (parts:Array (Nat × Value)):Sem Value:=Instr.build t parts
theorem zL (t:TypeId) (parts:Array (Nat × Value)):Instr.build t parts=bld t parts:=by unfold bld;rfl
@[irreducible] noncomputable def bls (t:TypeId) (n:Nat) (parts:Array (Nat × Value)):Sem Value:=Instr.buildSlice t n parts
theorem zJ (t:TypeId) (n:Nat) (parts:Array (Nat × Value)):Instr.buildSlice t n parts=bls t n parts:=by unfold bls;rfl
theorem zH (t:TypeId) (parts:Array (Nat × Value)) (cells:Array Value) (h:Tryz.prog.built t parts.toList=some cells) (w:World):(bld t parts).run Tryz.prog w = .ok (.agg cells) w:=by
 unfold bld;exact run_build w t parts cells h
theorem wP (t e:TypeId) (k n:Nat) (parts:Array (Nat × Value)) (cells:Array Value) (hs:(Tryz.prog.info? e).isSome=true) (hz:((Tryz.prog.info? e).get hs).zero.isSome=true) (hn:((Tryz.prog.info? e).get hs).size=n) (hk:0<k∧k≤2) (hn0:0<n∧n≤100) (hu:Tryz.prog.underlying t=some (.slice e))
 (hf:Instr.fill (fun i=>some (i*n,n)) ((Array.range (k*n)).map ((((Tryz.prog.info? e).get hs).zero.get hz).cells[· % (((Tryz.prog.info? e).get hs).zero.get hz).cells.size]!)) parts.toList=some cells) (w:World) :
 (bls t k parts).run Tryz.prog w = .ok (.slice (some ⟨w.heap.size,0,none⟩) k k) (w.alloc (.cells cells e)):=by
 unfold bls
 have h1:¬ k*n > 2 ^ 24:=by
  have:k*n≤2*100:=Nat.mul_le_mul hk.2 hn0.2;omega
 have h2:¬ k*n=0:=by
  have:1*1≤k*n:=Nat.mul_le_mul hk.1 hn0.1;omega
 exact run_buildSlice w t e k parts cells ((Tryz.prog.info? e).get hs) (((Tryz.prog.info? e).get hs).zero.get hz) hu (Option.some_get hs).symm (Option.some_get hz).symm (by rw[hn];exact h1) (by rw[hn];exact h2) (by rw[hn];exact hf)
end
section
open Go.RowKit
attribute [local go_sem ↓] zL zJ
theorem ze (w:World) (o:Obj):Below w.heap.size w (w.alloc o):=(Below.refl _ _).alloc (Nat.le_refl _) o
theorem qE (n a b:Int) (w:World):Calls Tryz.prog 262 #[.int .i64 n,.int .i64 a,.int .i64 b] w fun e w'=>e = .returned (.bool (inB n a b))∧w=w':=by
 by_cases h1:a≤n <;> by_cases h2:n≤b
 all_goals
  have hr:inB n a b=(decide (a≤n) && decide (n≤b)):=rfl
  first|rw[decide_eq_true h1]at hr|rw[decide_eq_false h1]at hr
  first|rw[decide_eq_true h2]at hr|rw[decide_eq_false h2]at hr
  have HR:=hid hr;clear hr;go_enter Tryz.func262,Tryz.ntmps262;go_wp2_with fail;go_ret;exact⟨by rw[HR.out];rfl,rfl⟩
theorem Kj (k:Int) (w:World):Calls Tryz.prog 250 #[.int .u8 k] w fun e w'=>e = .returned (.tuple #[.string (jE k),.string (yY k)])∧w=w':=by
 have hk:k=1∨k=2∨k=3∨k=4∨k=5∨k=6∨k=7∨k=8∨k=9∨k=10∨k=11∨k=12∨k=13∨k=14∨((k==1)=false∧(k==2)=false∧(k==3)=false∧(k==4)=false∧(k==5)=false∧(k==6)=false∧(k==7)=false∧(k==8)=false∧(k==9)=false∧(k==10)=false∧(k==11)=false∧(k==12)=false∧(k==13)=false∧(k==14)=false):=by
  by_cases h:k=1∨k=2∨k=3∨k=4∨k=5∨k=6∨k=7∨k=8∨k=9∨k=10∨k=11∨k=12∨k=13∨k=14
  · rcases h with rfl|rfl|rfl|rfl|rfl|rfl|rfl|rfl|rfl|rfl|rfl|rfl|rfl|rfl <;> simp
  · simp only[not_or]at h;simp only[beq_eq_false_iff_ne,ne_eq];simp[h]
 rcases hk with rfl|rfl|rfl|rfl|rfl|rfl|rfl|rfl|rfl|rfl|rfl|rfl|rfl|rfl|⟨h1,h2,h3,h4,h5,h6,h7,h8,h9,h10,h11,h12,h13,h14⟩
 all_goals
  go_enter Tryz.func250,Tryz.ntmps250;go_wp2_with fail
  go_ret2
  first|exact⟨rfl,rfl⟩|(refine⟨?_,rfl⟩;simp only[beq_eq_false_iff_ne,ne_eq]at *;simp[jE,yY, *])
theorem JX (k:Int) (w:World):Calls Tryz.prog 253 #[.int .u8 k] w fun e w'=>e = .returned (.tuple #[.string (jD k),.string (wO k)])∧w=w':=by
 have hk:k=1∨k=2∨k=3∨((k==1)=false∧(k==2)=false∧(k==3)=false):=by
  by_cases h:k=1∨k=2∨k=3
  · rcases h with rfl|rfl|rfl <;> simp
  · simp only[not_or]at h;simp only[beq_eq_false_iff_ne,ne_eq];simp[h]
 rcases hk with rfl|rfl|rfl|⟨h1,h2,h3⟩
 all_goals
  go_enter Tryz.func253,Tryz.ntmps253;go_wp2_with fail
  go_ret2
  first|exact⟨rfl,rfl⟩|(refine⟨?_,rfl⟩;simp only[beq_eq_false_iff_ne,ne_eq]at *;simp[jD,wO, *])
theorem z1m (k:Int) (w:World):Calls Tryz.prog 269 #[.int .u8 k] w fun e w'=>e = .returned (.string (jL k))∧w=w':=by
 have hk:k=1∨k=2∨k=3∨k=4∨k=5∨k=6∨k=7∨k=8∨k=9∨k=10∨k=11∨k=12∨k=13∨k=14∨((k==1)=false∧(k==2)=false∧(k==3)=false∧(k==4)=false∧(k==5)=false∧(k==6)=false∧(k==7)=false∧(k==8)=false∧(k==9)=false∧(k==10)=false∧(k==11)=false∧(k==12)=false∧(k==13)=false∧(k==14)=false):=by
  by_cases h:k=1∨k=2∨k=3∨k=4∨k=5∨k=6∨k=7∨k=8∨k=9∨k=10∨k=11∨k=12∨k=13∨k=14
  · rcases h with rfl|rfl|rfl|rfl|rfl|rfl|rfl|rfl|rfl|rfl|rfl|rfl|rfl|rfl <;> simp
  · simp only[not_or]at h;simp only[beq_eq_false_iff_ne,ne_eq];simp[h]
 rcases hk with rfl|rfl|rfl|rfl|rfl|rfl|rfl|rfl|rfl|rfl|rfl|rfl|rfl|rfl|⟨h1,h2,h3,h4,h5,h6,h7,h8,h9,h10,h11,h12,h13,h14⟩
 all_goals
  go_enter Tryz.func269,Tryz.ntmps269;go_wp2_with fail;go_ret
  first|exact⟨rfl,rfl⟩|(refine⟨?_,rfl⟩;simp only[beq_eq_false_iff_ne,ne_eq]at *;simp[jL, *])
end
section
open Go Go.Lib Go.RowKit
def wds (l:List Int):List Value:=l.map (Value.int .i64)
theorem xR (l:List Int):(wds l).length=l.length:=by simp[wds]
noncomputable def fnV (f:FuncId):Value:=.func (.func f) #[] #[]
noncomputable def ql:List Value:=[.nilFunc,fnV 178,fnV 179,fnV 180,fnV 181,fnV 182,fnV 178,fnV 183,fnV 184,fnV 185,fnV 186,fnV 187,fnV 188,fnV 189,fnV 190]
noncomputable def wK (v:Value) (n:Nat) (s:Bool):Array Value:=(v :: .int .i64 (n:Int) :: .bool s :: ql).toArray
def wL (b:Nat) (g:Gr) (rs:Value) (T:TS) (us ts ws:Value):Array Value:=
 #[.pointer (some ⟨b,0,none⟩),g.rv,.int .i64 g.sites,g.bv,rs,.int .i64 (T.bi:Int),.int .i64 (T.ii:Int),.bool T.inside,.int .i64 (T.since:Int),us,ts,ws,.int .u8 T.fin]
def Mine (j l:Nat):Prop:=l=1∨l=2∨(10+8*j≤l∧l<18+8*j)
structure Kp (ow:Nat→Nat) (j:Nat) (w w':World):Prop where
 os:w'.os=w.os
 tape:w'.tape=w.tape
 output:w'.output=w.output
 size:w.heap.size≤w'.heap.size
 block:∀ k,k<w.heap.size → ¬ Mine j (ow k)→w'.heap[k]? = w.heap[k]?
def Ext (ow ow':Nat→Nat) (w:World):Prop:=∀ k,k<w.heap.size→ow' k=ow k
theorem Kp.refl (ow:Nat→Nat) (j:Nat) (w:World):Kp ow j w w:=⟨rfl,rfl,rfl,Nat.le_refl _,fun _ _ _=>rfl⟩
theorem Kp.of {ow:Nat→Nat} {j:Nat} {w w':World} (h:Below w.heap.size w w'):Kp ow j w w':=⟨h.os,h.tape,h.output,h.size,fun k hk _=>h.block k hk⟩
theorem Kp.trans {ow ow':Nat→Nat} {j:Nat} {a b c:World} (h:Kp ow j a b) (he:Ext ow ow' a) (k:Kp ow' j b c):Kp ow j a c:=
 ⟨k.os.trans h.os,k.tape.trans h.tape,k.output.trans h.output,Nat.le_trans h.size k.size,fun i hi hm=>(k.block i (Nat.lt_of_lt_of_le hi h.size) (by rw[he i hi];exact hm)).trans (h.block i hi hm)⟩
theorem Kp.drew {ow:Nat→Nat} {j:Nat} {a b:World} (h:Kp ow j a b):Kp ow j a b.drew:=⟨h.os,h.tape,h.output,h.size,h.block⟩
theorem Ext.refl (ow:Nat→Nat) (w:World):Ext ow ow w:=fun _ _=>rfl
theorem Ext.trans {ow ow' ow'':Nat→Nat} {a b:World} (h:Ext ow ow' a) (k:Ext ow' ow'' b) (hs:a.heap.size≤b.heap.size):Ext ow ow'' a:=fun i hi=>(k i (by omega)).trans (h i hi)
structure WAt (ow:Nat→Nat) (w:World) (b:Nat) (W:WS) (n:Nat) (v:Value):Prop where
 box:w.heap[b]? = some (.cells (wK v n W.strange) 90 (0,0))
 row:w.ownsRow 0 2 1 v W.words.length (wds W.words)
 lab:ow b=1
 labr:∀ k,v.ownBlock=some k→ow k=2
 big:n≤1048576
 many:W.words.length≤65537
def qx (ow:Nat→Nat) (w:World) (j p:Nat):Un→Value→Prop
 | .put a x,f=>∃ c7 c2 c5,f = .func (.func 212) #[] #[.pointer (some ⟨c7,0,none⟩),.pointer (some ⟨c2,0,none⟩),.pointer (some ⟨c5,0,none⟩)]∧a<65537 ∧
  w.heap[c7]? = some (.cells #[.int .i64 x] 2 (0,0))∧w.heap[c2]? = some (.cells #[.pointer (some ⟨p,0,none⟩)] 83 (0,0))∧w.heap[c5]? = some (.cells #[.int .i64 (a:Int)] 2 (0,0))∧ow c7=15+8*j∧ow c2=15+8*j∧ow c5=15+8*j
 | .cut,f=>∃ c2,f = .func (.func 214) #[] #[.pointer (some ⟨c2,0,none⟩)]∧w.heap[c2]? = some (.cells #[.pointer (some ⟨p,0,none⟩)] 83 (0,0))∧ow c2=15+8*j
def vE (ow:Nat→Nat) (w:World) (j p:Nat):List Un→List Value→Prop
 | [],l=>l=[]
 | u :: r,l=>∃ f l',qx ow w j p u f∧vE ow w j p r l'∧l=l'++[f]
def zI (ow:Nat→Nat) (w:World) (lab:Nat) (v:Value) (l:List Int):Prop:=
 (v = .slice none 0 0∧l=[])∨∃ g off cap cur,v = .slice (some ⟨g,off,none⟩) l.length cap∧w.heap[g]? = some (.cells cur 2 (0,0))∧ow g=lab∧l.length≤cap∧cap≤maxLen∧off+cap≤cur.size∧∀ (i:Nat) x,l[i]? = some x→cur[off+i]? = some (.int .i64 x)
structure TAt (ow:Nat→Nat) (w:World) (b j p:Nat) (g:Gr) (T:TS) (rs us ts ws:Value):Prop where
 box:w.heap[p]? = some (.cells (wL b g rs T us ts ws) 124 (0,0))
 lab:ow p=10+8*j
 regs:∃ rg,rs = .slice (some ⟨rg,0,none⟩) T.regs.length T.regs.length∧w.heap[rg]? = some (.cells (wds T.regs).toArray 2 (0,0))∧ow rg=11+8*j
 undo:∃ ul,w.ownsRow 0 1 1 us T.undo.length ul∧vE ow w j p T.undo ul∧∀ k,us.ownBlock=some k→ow k=12+8*j
 told:zI ow w (13+8*j) ts T.told
 waiting:zI ow w (14+8*j) ws T.waiting
structure But (ow:Nat→Nat) (ls:List Nat) (w w':World):Prop where
 os:w'.os=w.os
 tape:w'.tape=w.tape
 output:w'.output=w.output
 size:w.heap.size≤w'.heap.size
 block:∀ k,k<w.heap.size→ow k ∉ ls→w'.heap[k]? = w.heap[k]?
theorem But.of {ow:Nat→Nat} {ls:List Nat} {w w':World} (h:Below w.heap.size w w'):But ow ls w w':=⟨h.os,h.tape,h.output,h.size,fun k hk _=>h.block k hk⟩
theorem But.kp {ow:Nat→Nat} {ls:List Nat} {j:Nat} {w w':World} (h:But ow ls w w') (hl:∀ l ∈ ls,Mine j l):Kp ow j w w':=⟨h.os,h.tape,h.output,h.size,fun k hk hm=>h.block k hk (fun q=>hm (hl _ q))⟩
theorem But.drew {ow:Nat→Nat} {ls:List Nat} {a b:World} (h:But ow ls a b):But ow ls a b.drew:=⟨h.os,h.tape,h.output,h.size,h.block⟩
theorem But.set {ow:Nat→Nat} {ls:List Nat} {a b:World} (h:But ow ls a b) {p:Addr} (hp:ow p.block ∈ ls) (v:Value):But ow ls a (b.setCell p v):=
 ⟨h.os,h.tape,h.output,by have:=h.size;simpa[World.setCell]using this,fun k hk hm=>(Below.heap_setCell _ _ _ _ (by rintro rfl;exact hm hp)).trans (h.block k hk hm)⟩
theorem zM {ow:Nat→Nat} {ls:List Nat} {w w':World} {e:TypeId} {size:Nat} {v:Value} {n:Nat} {xs:List Value} {l:Nat} (h:w.ownsRow 0 e size v n xs) (hb:But ow ls w w') (hl:∀ k,v.ownBlock=some k→ow k=l) (hn:l ∉ ls):w'.ownsRow 0 e size v n xs:=by
 refine⟨h.1, ?_⟩;rcases h.2 with hn'|⟨g,cap,cur,rfl,hb',hgg,rest⟩
 · exact .inl hn'
 · refine .inr ⟨g,cap,cur,rfl,hb', ?_,rest⟩
   rw[hb.block g (Array.getElem?_eq_some_iff.1 hgg).1 (by rw[hl g rfl];exact hn)];exact hgg
theorem yA {ow ow':Nat→Nat} {w:World} {e:TypeId} {size:Nat} {v:Value} {n:Nat} {xs:List Value} {l:Nat} (h:w.ownsRow 0 e size v n xs) (he:Ext ow ow' w) (hl:∀ k,v.ownBlock=some k→ow k=l):∀ k,v.ownBlock=some k→ow' k=l:=fun k hk=>by
 rw[he k (h.lt k hk).2];exact hl k hk
theorem z8 {w:World} {k:Nat} {o:Obj} (h:w.heap[k]? = some o):k<w.heap.size:=(Array.getElem?_eq_some_iff.1 h).1
theorem WAt.keeps {ow ow':Nat→Nat} {ls:List Nat} {w w':World} {b:Nat} {W:WS} {n:Nat} {v:Value} (h:WAt ow w b W n v) (hb:But ow ls w w') (he:Ext ow ow' w) (h1:1 ∉ ls) (h2:2 ∉ ls):WAt ow' w' b W n v:=
 ⟨(hb.block b (z8 h.box) (by rw[h.lab];exact h1)).trans h.box,zM h.row hb h.labr h2,by rw[he b (z8 h.box)];exact h.lab,yA h.row he h.labr,h.big,h.many⟩
theorem qx.keeps {ow ow':Nat→Nat} {ls:List Nat} {w w':World} {j p:Nat} {u:Un} {f:Value} (h:qx ow w j p u f) (hb:But ow ls w w') (he:Ext ow ow' w) (h5:15+8*j ∉ ls):qx ow' w' j p u f:=by
 have key:∀ {c:Nat} {o:Obj},w.heap[c]? = some o→ow c=15+8*j→w'.heap[c]? = some o∧ow' c=15+8*j:=fun {c o} hc hl=>⟨(hb.block c (z8 hc) (by rw[hl];exact h5)).trans hc,by rw[he c (z8 hc)];exact hl⟩
 cases u with
 | put a x =>
  obtain⟨c7,c2,c5,e,ha,h7,h2,hc5,l7,l2,l5⟩:=h;obtain⟨a1,b1⟩:=key h7 l7;obtain⟨a2,b2⟩:=key h2 l2;obtain⟨a3,b3⟩:=key hc5 l5;exact⟨c7,c2,c5,e,ha,a1,a2,a3,b1,b2,b3⟩
 | cut =>
  obtain⟨c2,e,h2,l2⟩:=h;obtain⟨a2,b2⟩:=key h2 l2;exact⟨c2,e,a2,b2⟩
theorem vE.keeps {ow ow':Nat→Nat} {ls:List Nat} {w w':World} {j p:Nat} (hb:But ow ls w w') (he:Ext ow ow' w) (h5:15+8*j ∉ ls):∀ {us:List Un} {l:List Value},vE ow w j p us l→vE ow' w' j p us l:=by
 intro us;induction us with
 | nil=>intro l h;exact h
 | cons u r ih=>rintro l ⟨f,l',h1,h2,rfl⟩;exact⟨f,l',h1.keeps hb he h5,ih h2,rfl⟩
theorem zI.keeps {ow ow':Nat→Nat} {ls:List Nat} {w w':World} {lab:Nat} {v:Value} {l:List Int} (h:zI ow w lab v l) (hb:But ow ls w w') (he:Ext ow ow' w) (hn:lab ∉ ls):zI ow' w' lab v l:=by
 rcases h with h|⟨g,off,cap,cur,e,hg,hl,r⟩
 · exact .inl h
 · exact .inr ⟨g,off,cap,cur,e,(hb.block g (z8 hg) (by rw[hl];exact hn)).trans hg,by rw[he g (z8 hg)];exact hl,r⟩
theorem qh {ow ow':Nat→Nat} {ls:List Nat} {w w':World} {j:Nat} {rs:Value} {l:List Int} (h:∃ rg,rs = .slice (some ⟨rg,0,none⟩) l.length l.length∧w.heap[rg]? = some (.cells (wds l).toArray 2 (0,0))∧ow rg=11+8*j) (hb:But ow ls w w') (he:Ext ow ow' w) (hn:11+8*j ∉ ls) :
 ∃ rg,rs = .slice (some ⟨rg,0,none⟩) l.length l.length∧w'.heap[rg]? = some (.cells (wds l).toArray 2 (0,0))∧ow' rg=11+8*j:=by
 obtain⟨rg,r1,r2,r3⟩:=h;exact⟨rg,r1,(hb.block rg (z8 r2) (by rw[r3];exact hn)).trans r2,by rw[he rg (z8 r2)];exact r3⟩
def X4 (ow:Nat→Nat) (w:World) (j p:Nat) (us:Value) (l:List Un):Prop:=∃ ul,w.ownsRow 0 1 1 us l.length ul∧vE ow w j p l ul∧∀ k,us.ownBlock=some k→ow k=12+8*j
theorem qF {ow ow':Nat→Nat} {ls:List Nat} {w w':World} {j p:Nat} {us:Value} {l:List Un} (h:X4 ow w j p us l) (hb:But ow ls w w') (he:Ext ow ow' w) (hn:12+8*j ∉ ls) (h5:15+8*j ∉ ls):X4 ow' w' j p us l:=by
 obtain⟨ul,u1,u2,u3⟩:=h;exact⟨ul,zM u1 hb u3 hn,u2.keeps hb he h5,yA u1 he u3⟩
theorem TAt.keeps {ow ow':Nat→Nat} {ls:List Nat} {w w':World} {b j p:Nat} {g:Gr} {T:TS} {rs us ts ws:Value} (h:TAt ow w b j p g T rs us ts ws) (hb:But ow ls w w') (he:Ext ow ow' w) (hn:∀ l ∈ ls,l<10+8*j∨18+8*j≤l):TAt ow' w' b j p g T rs us ts ws:=by
 have hno:∀ x,x<8→10+x+8*j ∉ ls:=fun x hx q=>by have:=hn _ q;omega
 exact⟨(hb.block p (z8 h.box) (by rw[h.lab];exact hno 0 (by omega))).trans h.box,by rw[he p (z8 h.box)];exact h.lab,qh h.regs hb he (hno 1 (by omega)),
  qF h.undo hb he (hno 2 (by omega)) (hno 5 (by omega)),h.told.keeps hb he (hno 3 (by omega)),h.waiting.keeps hb he (hno 4 (by omega))⟩
end
open Go.RowKit
attribute [local go_sem ↓] zL zJ
structure Aside (m:Nat) (w w':World):Prop where
 os:w'.os=w.os
 tape:w'.tape=w.tape
 output:w'.output=w.output
 size:w.heap.size≤w'.heap.size
 block:∀ k,k<w.heap.size→k≠m→w'.heap[k]? = w.heap[k]?
theorem Aside.refl (m:Nat) (w:World):Aside m w w:=⟨rfl,rfl,rfl,Nat.le_refl _,fun _ _ _=>rfl⟩
theorem Aside.trans {m:Nat} {a b c:World} (h:Aside m a b) (k:Aside m b c):Aside m a c:=
 ⟨k.os.trans h.os,k.tape.trans h.tape,k.output.trans h.output,Nat.le_trans h.size k.size,fun i hi hm=>(k.block i (by have:=h.size;omega) hm).trans (h.block i hi hm)⟩
theorem Aside.of {m:Nat} {a b:World} (h:Below a.heap.size a b):Aside m a b:=⟨h.os,h.tape,h.output,h.size,fun k hk _=>h.block k hk⟩
theorem Aside.alloc {m:Nat} {a b:World} (h:Aside m a b) (o:Obj):Aside m a (b.alloc o):=h.trans (Aside.of (ze b o))
theorem Aside.drewN {m:Nat} {a b:World} (h:Aside m a b) (n:Nat):Aside m a (b.drewN n):=⟨h.os,h.tape,h.output,h.size,h.block⟩
theorem Aside.drew {m:Nat} {a b:World} (h:Aside m a b):Aside m a b.drew:=⟨h.os,h.tape,h.output,h.size,h.block⟩
theorem Aside.below {m B:Nat} {a b:World} (h:Aside m a b) (hB:B≤a.heap.size) (hm:B≤m):Below B a b:=⟨h.os,h.tape,h.output,h.size,fun k hk=>h.block k (by omega) (by omega)⟩
theorem Aside.set {m:Nat} {a b:World} (h:Aside m a b) (k:Nat) (v:Value):Aside m a (b.setCell ⟨m,k,none⟩ v):=
 h.trans ⟨rfl,rfl,rfl,by simp[World.setCell],fun j _ hm=>Below.heap_setCell _ _ _ _ hm⟩
theorem below_drewN {B:Nat} {a w:World} (h:Below B a w) (n:Nat):Below B a (w.drewN n):=⟨h.os,h.tape,h.output,h.size,h.block⟩
structure zP (w:World) (B c m:Nat) (g:Gr) (W:Int) (M:List Bool):Prop where
 box:w.heap[c]? = some (.cells #[g.rv,.int .i64 g.sites,g.bv,.int .i64 W,.slice (some ⟨m,0,none⟩) M.length M.length] 360 (0,0))
 made:w.heap[m]? = some (.cells (M.map Value.bool).toArray 4 (0,0))
 here:GIn w B g
 base:B≤c∧B≤m∧c≠m∧B≤w.heap.size
 words:-9223372036854775808≤W∧W≤9223372036854775807
 many:M.length≤8192
theorem zP.lt {w:World} {B c m:Nat} {g:Gr} {W:Int} {M:List Bool} (h:zP w B c m g W M):c<w.heap.size∧m<w.heap.size:=⟨(Array.getElem?_eq_some_iff.1 h.box).1,(Array.getElem?_eq_some_iff.1 h.made).1⟩
theorem zP.keeps {w w':World} {B c m:Nat} {g:Gr} {W:Int} {M:List Bool} (h:zP w B c m g W M) (hb:Below w.heap.size w w'):zP w' B c m g W M:=
 ⟨(hb.block _ h.lt.1).trans h.box,(hb.block _ h.lt.2).trans h.made,h.here.keeps (hb.mono h.base.2.2.2),⟨h.base.1,h.base.2.1,h.base.2.2.1,Nat.le_trans h.base.2.2.2 hb.size⟩,h.words,h.many⟩
theorem wR {w:World} {B:Nat} {g:Gr} (h:GIn w B g) {r:Int} (hr:zg g.refs r=true):∃ b off cap,g.rv = .slice (some ⟨b,off,none⟩) g.refs.length cap∧b<B:=by
 unfold zg at hr;simp only[Bool.and_eq_true,decide_eq_true_eq]at hr;obtain⟨ao,cap,e,-,hg⟩:=h.rlies.form;obtain⟨b,off,rfl,hb⟩:=hg (by omega);exact⟨b,off,cap,e,hb⟩
theorem yC {R:List Bool} {r:Int} (h:zg R r=true):∃ n:Nat,r=(n:Int)∧n<R.length:=by
 unfold zg at h;simp only[Bool.and_eq_true,decide_eq_true_eq]at h;exact⟨r.toNat,by omega,by omega⟩
def Has (R:List Bool) (i:In):Prop:=
 (i.k=1→zg R i.a=true)∧(i.k=2→zg R i.a=true∧zg R i.b=true)∧(i.k=3→zg R i.a=true∧zg R i.b=true∧zg R i.c=true)∧(i.k=4∨i.k=5∨i.k=12→zg R i.b=true)∧(i.k=6∨i.k=7→zg R i.a=true) ∧
 (i.k=8∨i.k=9∨i.k=10∨i.k=11→zg R i.a=true∧zg R i.b=true∧(i.c = -1∨zg R i.c=true))
theorem Uu (B c m:Nat) (g:Gr) (W:Int) (M:List Bool) (i:In) (w:World) (h:zP w B c m g W M) (hk:i.k=1) (ha:zg g.refs i.a=true) :
 Calls Tryz.prog 252 #[.pointer (some ⟨c,0,none⟩),.agg #[.int .u8 i.k,.int .u8 i.o,.int .i64 i.a,.int .i64 i.b,.int .i64 i.c,.int .i64 i.n]] w fun e w'=>e = .returned (.bool (zu g.refs W M i))∧Below w.heap.size w w':=by
 obtain⟨b0,off,cap,er,hb0⟩:=wR h.here ha;obtain⟨na,ea,la⟩:=yC ha;have ta:=h.here.rlies.bit er na la;have hr:zu g.refs W M i=zu g.refs W M i:=rfl
 conv at hr=>rhs;unfold zu
 simp only[hk,Int.reduceEq,if_true,if_false,reduceIte,true_or,or_true,or_false,false_or]at hr;have hq:=h.box;rw[er]at hq;obtain⟨q0,q1,q2,q3,q4⟩:=zx hq;have hlc:=h.lt.1;have hlb:b0<w.heap.size:=by have:=h.base.2.2.2;omega
 have hW:=h.words;obtain⟨k,op,a,b,cc,n⟩:=i;simp only at *;subst hk;subst ea;obtain⟨NR,hNR⟩:∃ N,N=g.refs.length:=⟨_,rfl⟩
 rw[←hNR]at q0 la;have hroom:NR≤140737488351232:=by rw[hNR];exact h.here.rlies.room
 generalize hxa:zm g.refs (na:Int)=xa at ta hr;have HR:=hid hr;clear h hr hq er hNR ha hxa
 by_cases hn:n=0
 all_goals
  first|rw[decide_eq_true hn]at HR|rw[decide_eq_false hn]at HR
  have hq:(n==0)=decide (n=0):=rfl
  first|rw[decide_eq_true hn]at hq|rw[decide_eq_false hn]at hq
  clear hn;cases xa
  all_goals
   go_enter Tryz.func252,Tryz.ntmps252;go_wp2_with fail
   go_quiet (fail)
   go_wp2_with fail;go_ret;exact⟨by rw[HR.out];rfl,below_drewN (ze w _) _⟩
theorem fits2 (B c m:Nat) (g:Gr) (W:Int) (M:List Bool) (i:In) (w:World) (h:zP w B c m g W M) (hk:i.k=2) (ha:zg g.refs i.a=true) (hb:zg g.refs i.b=true) :
 Calls Tryz.prog 252 #[.pointer (some ⟨c,0,none⟩),.agg #[.int .u8 i.k,.int .u8 i.o,.int .i64 i.a,.int .i64 i.b,.int .i64 i.c,.int .i64 i.n]] w fun e w'=>e = .returned (.bool (zu g.refs W M i))∧Below w.heap.size w w':=by
 obtain⟨b0,off,cap,er,hb0⟩:=wR h.here ha;obtain⟨na,ea,la⟩:=yC ha;obtain⟨nb,eb,lb⟩:=yC hb;have ta:=h.here.rlies.bit er na la;have tb:=h.here.rlies.bit er nb lb;have hr:zu g.refs W M i=zu g.refs W M i:=rfl
 conv at hr=>rhs;unfold zu
 simp only[hk,Int.reduceEq,if_true,if_false,reduceIte,true_or,or_true,or_false,false_or]at hr;have hq:=h.box;rw[er]at hq;obtain⟨q0,q1,q2,q3,q4⟩:=zx hq;have hlc:=h.lt.1;have hlb:b0<w.heap.size:=by have:=h.base.2.2.2;omega
 have hW:=h.words;obtain⟨k,op,a,b,cc,n⟩:=i;simp only at *;subst hk;subst ea;subst eb;obtain⟨NR,hNR⟩:∃ N,N=g.refs.length:=⟨_,rfl⟩
 rw[←hNR]at q0 la lb;have hroom:NR≤140737488351232:=by rw[hNR];exact h.here.rlies.room
 generalize hxa:zm g.refs (na:Int)=xa at ta hr;generalize hxb:zm g.refs (nb:Int)=xb at tb hr;have HR:=hid hr;clear h hr hq er hNR ha hb hxa hxb;cases xa <;> cases xb
 all_goals
  go_enter Tryz.func252,Tryz.ntmps252;go_wp2_with fail
  go_quiet (fail)
  go_wp2_with fail;go_ret;exact⟨by rw[HR.out];rfl,below_drewN (ze w _) _⟩
theorem fits4 (B c m:Nat) (g:Gr) (W:Int) (M:List Bool) (i:In) (w:World) (h:zP w B c m g W M) (hk:i.k=4) (hb:zg g.refs i.b=true) :
 Calls Tryz.prog 252 #[.pointer (some ⟨c,0,none⟩),.agg #[.int .u8 i.k,.int .u8 i.o,.int .i64 i.a,.int .i64 i.b,.int .i64 i.c,.int .i64 i.n]] w fun e w'=>e = .returned (.bool (zu g.refs W M i))∧Below w.heap.size w w':=by
 obtain⟨b0,off,cap,er,hb0⟩:=wR h.here hb;obtain⟨nb,eb,lb⟩:=yC hb;have tb:=h.here.rlies.bit er nb lb;have hr:zu g.refs W M i=zu g.refs W M i:=rfl
 conv at hr=>rhs;unfold zu
 simp only[hk,Int.reduceEq,if_true,if_false,reduceIte,true_or,or_true,or_false,false_or]at hr;have hq:=h.box;rw[er]at hq;obtain⟨q0,q1,q2,q3,q4⟩:=zx hq;have hlc:=h.lt.1;have hlb:b0<w.heap.size:=by have:=h.base.2.2.2;omega
 have hW:=h.words;obtain⟨k,op,a,b,cc,n⟩:=i;simp only at *;subst hk;subst eb;obtain⟨NR,hNR⟩:∃ N,N=g.refs.length:=⟨_,rfl⟩
 rw[←hNR]at q0 lb;have hroom:NR≤140737488351232:=by rw[hNR];exact h.here.rlies.room
 generalize hxb:zm g.refs (nb:Int)=xb at tb hr;have HR:=hid hr;clear h hr hq er hNR hb hxb;cases xb
 all_goals
  go_enter Tryz.func252,Tryz.ntmps252;go_wp2_with fail
  go_quiet (fail)
  go_wp2_with fail;go_ret;exact⟨by rw[HR.out];rfl,below_drewN (ze w _) _⟩
theorem Uw (B c m:Nat) (g:Gr) (W:Int) (M:List Bool) (i:In) (w:World) (h:zP w B c m g W M) (hk:i.k=12) (hb:zg g.refs i.b=true) :
 Calls Tryz.prog 252 #[.pointer (some ⟨c,0,none⟩),.agg #[.int .u8 i.k,.int .u8 i.o,.int .i64 i.a,.int .i64 i.b,.int .i64 i.c,.int .i64 i.n]] w fun e w'=>e = .returned (.bool (zu g.refs W M i))∧Below w.heap.size w w':=by
 obtain⟨b0,off,cap,er,hb0⟩:=wR h.here hb;obtain⟨nb,eb,lb⟩:=yC hb;have tb:=h.here.rlies.bit er nb lb;have hr:zu g.refs W M i=zu g.refs W M i:=rfl
 conv at hr=>rhs;unfold zu
 simp only[hk,Int.reduceEq,if_true,if_false,reduceIte,true_or,or_true,or_false,false_or]at hr;have hq:=h.box;rw[er]at hq;obtain⟨q0,q1,q2,q3,q4⟩:=zx hq;have hlc:=h.lt.1;have hlb:b0<w.heap.size:=by have:=h.base.2.2.2;omega
 have hW:=h.words;obtain⟨k,op,a,b,cc,n⟩:=i;simp only at *;subst hk;subst eb;obtain⟨NR,hNR⟩:∃ N,N=g.refs.length:=⟨_,rfl⟩
 rw[←hNR]at q0 lb;have hroom:NR≤140737488351232:=by rw[hNR];exact h.here.rlies.room
 generalize hxb:zm g.refs (nb:Int)=xb at tb hr;have HR:=hid hr;clear h hr hq er hNR hb hxb;cases xb
 all_goals
  go_enter Tryz.func252,Tryz.ntmps252;go_wp2_with fail
  go_quiet (fail)
  go_wp2_with fail;go_ret;exact⟨by rw[HR.out];rfl,below_drewN (ze w _) _⟩
theorem fits5 (B c m:Nat) (g:Gr) (W:Int) (M:List Bool) (i:In) (w:World) (h:zP w B c m g W M) (hk:i.k=5) (hb:zg g.refs i.b=true) :
 Calls Tryz.prog 252 #[.pointer (some ⟨c,0,none⟩),.agg #[.int .u8 i.k,.int .u8 i.o,.int .i64 i.a,.int .i64 i.b,.int .i64 i.c,.int .i64 i.n]] w fun e w'=>e = .returned (.bool (zu g.refs W M i))∧Below w.heap.size w w':=by
 obtain⟨b0,off,cap,er,hb0⟩:=wR h.here hb;obtain⟨nb,eb,lb⟩:=yC hb;have tb:=h.here.rlies.bit er nb lb;have hr:zu g.refs W M i=zu g.refs W M i:=rfl
 conv at hr=>rhs;unfold zu
 simp only[hk,Int.reduceEq,if_true,if_false,reduceIte,true_or,or_true,or_false,false_or]at hr;have hq:=h.box;rw[er]at hq;obtain⟨q0,q1,q2,q3,q4⟩:=zx hq;have hlc:=h.lt.1;have hlb:b0<w.heap.size:=by have:=h.base.2.2.2;omega
 have hW:=h.words;obtain⟨k,op,a,b,cc,n⟩:=i;simp only at *;subst hk;subst eb;obtain⟨NR,hNR⟩:∃ N,N=g.refs.length:=⟨_,rfl⟩
 rw[←hNR]at q0 lb;have hroom:NR≤140737488351232:=by rw[hNR];exact h.here.rlies.room
 generalize hxb:zm g.refs (nb:Int)=xb at tb hr;have HR:=hid hr;clear h hr hq er hNR hb hxb;generalize hy:inB n 1 64=y at HR;have HY:=hid hy;clear hy;cases xb <;> cases y
 all_goals
  have HWI:=hid (fun w=>qE n 1 64 w);rw[HY.out]at HWI;go_enter Tryz.func252,Tryz.ntmps252;go_wp2_with fail
  go_quiet ((go_at_call 262;exact Calls.quiet_of_same ((HWI.out _).mono fun e w1 hh=>⟨hh.1,hh.2.symm⟩)))
  go_wp2_with fail;go_ret;exact⟨by rw[HR.out];rfl,below_drewN (ze w _) _⟩
theorem fits6 (B c m:Nat) (g:Gr) (W:Int) (M:List Bool) (i:In) (w:World) (h:zP w B c m g W M) (hk:i.k=6) (ha:zg g.refs i.a=true) :
 Calls Tryz.prog 252 #[.pointer (some ⟨c,0,none⟩),.agg #[.int .u8 i.k,.int .u8 i.o,.int .i64 i.a,.int .i64 i.b,.int .i64 i.c,.int .i64 i.n]] w fun e w'=>e = .returned (.bool (zu g.refs W M i))∧Below w.heap.size w w':=by
 obtain⟨b0,off,cap,er,hb0⟩:=wR h.here ha;obtain⟨na,ea,la⟩:=yC ha;have ta:=h.here.rlies.bit er na la;have hr:zu g.refs W M i=zu g.refs W M i:=rfl
 conv at hr=>rhs;unfold zu
 simp only[hk,Int.reduceEq,if_true,if_false,reduceIte,true_or,or_true,or_false,false_or]at hr;have hq:=h.box;rw[er]at hq;obtain⟨q0,q1,q2,q3,q4⟩:=zx hq;have hlc:=h.lt.1;have hlb:b0<w.heap.size:=by have:=h.base.2.2.2;omega
 have hW:=h.words;obtain⟨k,op,a,b,cc,n⟩:=i;simp only at *;subst hk;subst ea;obtain⟨NR,hNR⟩:∃ N,N=g.refs.length:=⟨_,rfl⟩
 rw[←hNR]at q0 la;have hroom:NR≤140737488351232:=by rw[hNR];exact h.here.rlies.room
 generalize hxa:zm g.refs (na:Int)=xa at ta hr;have HR:=hid hr;clear h hr hq er hNR ha hxa;generalize hy:inB n 1 W=y at HR;have HY:=hid hy;clear hy;cases xa <;> cases y
 all_goals
  have HWI:=hid (fun w=>qE n 1 W w);rw[HY.out]at HWI;go_enter Tryz.func252,Tryz.ntmps252;go_wp2_with fail
  go_quiet ((go_at_call 262;exact Calls.quiet_of_same ((HWI.out _).mono fun e w1 hh=>⟨hh.1,hh.2.symm⟩)))
  go_wp2_with fail;go_ret;exact⟨by rw[HR.out];rfl,below_drewN (ze w _) _⟩
theorem fits8 (B c m:Nat) (g:Gr) (W:Int) (M:List Bool) (i:In) (w:World) (h:zP w B c m g W M) (hk:i.k=8) (ha:zg g.refs i.a=true) (hb:zg g.refs i.b=true) (hc:i.c = -1∨zg g.refs i.c=true) :
 Calls Tryz.prog 252 #[.pointer (some ⟨c,0,none⟩),.agg #[.int .u8 i.k,.int .u8 i.o,.int .i64 i.a,.int .i64 i.b,.int .i64 i.c,.int .i64 i.n]] w fun e w'=>e = .returned (.bool (zu g.refs W M i))∧Below w.heap.size w w':=by
 obtain⟨b0,off,cap,er,hb0⟩:=wR h.here ha;obtain⟨na,ea,la⟩:=yC ha;obtain⟨nb,eb,lb⟩:=yC hb;have ta:=h.here.rlies.bit er na la;have tb:=h.here.rlies.bit er nb lb;have tc:=fun (r:Nat) (hr:r<g.refs.length)=>h.here.rlies.bit er r hr
 have hr:zu g.refs W M i=zu g.refs W M i:=rfl
 conv at hr=>rhs;unfold zu
 simp only[hk,Int.reduceEq,if_true,if_false,reduceIte,true_or,or_true,or_false,false_or]at hr;have hq:=h.box;rw[er]at hq;obtain⟨q0,q1,q2,q3,q4⟩:=zx hq;have hlc:=h.lt.1;have hlb:b0<w.heap.size:=by have:=h.base.2.2.2;omega
 have hW:=h.words;obtain⟨k,op,a,b,cc,n⟩:=i;simp only at *;subst hk;subst ea;subst eb;obtain⟨NR,hNR⟩:∃ N,N=g.refs.length:=⟨_,rfl⟩
 rw[←hNR]at q0 la lb;have hroom:NR≤140737488351232:=by rw[hNR];exact h.here.rlies.room
 generalize hxa:zm g.refs (na:Int)=xa at ta hr;generalize hxb:zm g.refs (nb:Int)=xb at tb hr;have HR:=hid hr;have HN:=hid hNR;have HN:=hid hNR;have HN:=hid hNR;have HN:=hid hNR;clear h hr hq er hNR ha hb hxa hxb;generalize hy:inB n 0 64=y at HR;have HY:=hid hy;clear hy
 have hcc:(cc = -1∧decide (cc = -1)=true∧(cc == -1)=true)∨(∃ nc:Nat,cc=(nc:Int)∧nc<NR∧decide (cc = -1)=false∧(cc == -1)=false):=by
  rcases hc with hc|hc
  · subst hc;exact .inl ⟨rfl,rfl,rfl⟩
  · obtain⟨nc,e,l⟩:=yC hc
    refine .inr ⟨nc,e,by rw[HN.out];exact l, ?_, ?_⟩
    · simp;omega
    · simp;omega
 have HTC:=hid tc;clear hc tc;have HWI:=hid (fun w=>qE n 0 64 w);rcases hcc with ⟨rfl,d1,d2⟩|⟨nc,rfl,lc,d1,d2⟩
 · rw[d1]at HR
   clear d1;cases xb <;> cases y
   all_goals
    rw[HY.out]at HWI;go_enter Tryz.func252,Tryz.ntmps252;go_wp2_with fail
    go_quiet ((go_at_call 262;exact Calls.quiet_of_same ((HWI.out _).mono fun e w1 hh=>⟨hh.1,hh.2.symm⟩)))
    go_wp2_with fail;go_ret;exact⟨by rw[HR.out];rfl,below_drewN (ze w _) _⟩
 · rw[d1]at HR
   have tc:=HTC.out nc (by rw[←HN.out];exact lc);generalize hx:zm g.refs (nc:Int)=xc at tc HR;clear d1 hx;cases xb <;> cases xc <;> cases y
   all_goals
    rw[HY.out]at HWI;go_enter Tryz.func252,Tryz.ntmps252;go_wp2_with fail
    go_quiet ((go_at_call 262;exact Calls.quiet_of_same ((HWI.out _).mono fun e w1 hh=>⟨hh.1,hh.2.symm⟩)))
    go_wp2_with fail;go_ret;exact⟨by rw[HR.out];rfl,below_drewN (ze w _) _⟩
theorem fits9 (B c m:Nat) (g:Gr) (W:Int) (M:List Bool) (i:In) (w:World) (h:zP w B c m g W M) (hk:i.k=9) (ha:zg g.refs i.a=true) (hb:zg g.refs i.b=true) (hc:i.c = -1∨zg g.refs i.c=true) :
 Calls Tryz.prog 252 #[.pointer (some ⟨c,0,none⟩),.agg #[.int .u8 i.k,.int .u8 i.o,.int .i64 i.a,.int .i64 i.b,.int .i64 i.c,.int .i64 i.n]] w fun e w'=>e = .returned (.bool (zu g.refs W M i))∧Below w.heap.size w w':=by
 obtain⟨b0,off,cap,er,hb0⟩:=wR h.here ha;obtain⟨na,ea,la⟩:=yC ha;obtain⟨nb,eb,lb⟩:=yC hb;have ta:=h.here.rlies.bit er na la;have tb:=h.here.rlies.bit er nb lb;have tc:=fun (r:Nat) (hr:r<g.refs.length)=>h.here.rlies.bit er r hr
 have hr:zu g.refs W M i=zu g.refs W M i:=rfl
 conv at hr=>rhs;unfold zu
 simp only[hk,Int.reduceEq,if_true,if_false,reduceIte,true_or,or_true,or_false,false_or]at hr;have hq:=h.box;rw[er]at hq;obtain⟨q0,q1,q2,q3,q4⟩:=zx hq;have hlc:=h.lt.1;have hlb:b0<w.heap.size:=by have:=h.base.2.2.2;omega
 have hW:=h.words;obtain⟨k,op,a,b,cc,n⟩:=i;simp only at *;subst hk;subst ea;subst eb;obtain⟨NR,hNR⟩:∃ N,N=g.refs.length:=⟨_,rfl⟩
 rw[←hNR]at q0 la lb;have hroom:NR≤140737488351232:=by rw[hNR];exact h.here.rlies.room
 generalize hxa:zm g.refs (na:Int)=xa at ta hr;generalize hxb:zm g.refs (nb:Int)=xb at tb hr;have HR:=hid hr;have HN:=hid hNR;have HN:=hid hNR;have HN:=hid hNR;clear h hr hq er hNR ha hb hxa hxb;generalize hy:inB n 0 64=y at HR;have HY:=hid hy;clear hy
 have hcc:(cc = -1∧decide (cc = -1)=true∧(cc == -1)=true)∨(∃ nc:Nat,cc=(nc:Int)∧nc<NR∧decide (cc = -1)=false∧(cc == -1)=false):=by
  rcases hc with hc|hc
  · subst hc;exact .inl ⟨rfl,rfl,rfl⟩
  · obtain⟨nc,e,l⟩:=yC hc
    refine .inr ⟨nc,e,by rw[HN.out];exact l, ?_, ?_⟩
    · simp;omega
    · simp;omega
 have HTC:=hid tc;clear hc tc;have HWI:=hid (fun w=>qE n 0 64 w);rcases hcc with ⟨rfl,d1,d2⟩|⟨nc,rfl,lc,d1,d2⟩
 · rw[d1]at HR
   clear d1;cases xb <;> cases y
   all_goals
    rw[HY.out]at HWI;go_enter Tryz.func252,Tryz.ntmps252;go_wp2_with fail
    go_quiet ((go_at_call 262;exact Calls.quiet_of_same ((HWI.out _).mono fun e w1 hh=>⟨hh.1,hh.2.symm⟩)))
    go_wp2_with fail;go_ret;exact⟨by rw[HR.out];rfl,below_drewN (ze w _) _⟩
 · rw[d1]at HR
   have tc:=HTC.out nc (by rw[←HN.out];exact lc);generalize hx:zm g.refs (nc:Int)=xc at tc HR;clear d1 hx;cases xb <;> cases xc <;> cases y
   all_goals
    rw[HY.out]at HWI;go_enter Tryz.func252,Tryz.ntmps252;go_wp2_with fail
    go_quiet ((go_at_call 262;exact Calls.quiet_of_same ((HWI.out _).mono fun e w1 hh=>⟨hh.1,hh.2.symm⟩)))
    go_wp2_with fail;go_ret;exact⟨by rw[HR.out];rfl,below_drewN (ze w _) _⟩
theorem Uy (B c m:Nat) (g:Gr) (W:Int) (M:List Bool) (i:In) (w:World) (h:zP w B c m g W M) (hk:i.k=10) (ha:zg g.refs i.a=true) (hb:zg g.refs i.b=true) (hc:i.c = -1∨zg g.refs i.c=true) :
 Calls Tryz.prog 252 #[.pointer (some ⟨c,0,none⟩),.agg #[.int .u8 i.k,.int .u8 i.o,.int .i64 i.a,.int .i64 i.b,.int .i64 i.c,.int .i64 i.n]] w fun e w'=>e = .returned (.bool (zu g.refs W M i))∧Below w.heap.size w w':=by
 obtain⟨b0,off,cap,er,hb0⟩:=wR h.here ha;obtain⟨na,ea,la⟩:=yC ha;obtain⟨nb,eb,lb⟩:=yC hb;have ta:=h.here.rlies.bit er na la;have tb:=h.here.rlies.bit er nb lb;have tc:=fun (r:Nat) (hr:r<g.refs.length)=>h.here.rlies.bit er r hr
 have hr:zu g.refs W M i=zu g.refs W M i:=rfl
 conv at hr=>rhs;unfold zu
 simp only[hk,Int.reduceEq,if_true,if_false,reduceIte,true_or,or_true,or_false,false_or]at hr;have hq:=h.box;rw[er]at hq;obtain⟨q0,q1,q2,q3,q4⟩:=zx hq;have hlc:=h.lt.1;have hlb:b0<w.heap.size:=by have:=h.base.2.2.2;omega
 have hW:=h.words;obtain⟨k,op,a,b,cc,n⟩:=i;simp only at *;subst hk;subst ea;subst eb;obtain⟨NR,hNR⟩:∃ N,N=g.refs.length:=⟨_,rfl⟩
 rw[←hNR]at q0 la lb;have hroom:NR≤140737488351232:=by rw[hNR];exact h.here.rlies.room
 generalize hxa:zm g.refs (na:Int)=xa at ta hr;generalize hxb:zm g.refs (nb:Int)=xb at tb hr;have HR:=hid hr;have HN:=hid hNR;have HN:=hid hNR;clear h hr hq er hNR ha hb hxa hxb;generalize hy:inB n 0 64=y at HR;have HY:=hid hy;clear hy
 have hcc:(cc = -1∧decide (cc = -1)=true∧(cc == -1)=true)∨(∃ nc:Nat,cc=(nc:Int)∧nc<NR∧decide (cc = -1)=false∧(cc == -1)=false):=by
  rcases hc with hc|hc
  · subst hc;exact .inl ⟨rfl,rfl,rfl⟩
  · obtain⟨nc,e,l⟩:=yC hc
    refine .inr ⟨nc,e,by rw[HN.out];exact l, ?_, ?_⟩
    · simp;omega
    · simp;omega
 have HTC:=hid tc;clear hc tc;have HWI:=hid (fun w=>qE n 0 64 w);rcases hcc with ⟨rfl,d1,d2⟩|⟨nc,rfl,lc,d1,d2⟩
 · rw[d1]at HR
   clear d1;cases xb <;> cases y
   all_goals
    rw[HY.out]at HWI;go_enter Tryz.func252,Tryz.ntmps252;go_wp2_with fail
    go_quiet ((go_at_call 262;exact Calls.quiet_of_same ((HWI.out _).mono fun e w1 hh=>⟨hh.1,hh.2.symm⟩)))
    go_wp2_with fail;go_ret;exact⟨by rw[HR.out];rfl,below_drewN (ze w _) _⟩
 · rw[d1]at HR
   have tc:=HTC.out nc (by rw[←HN.out];exact lc);generalize hx:zm g.refs (nc:Int)=xc at tc HR;clear d1 hx;cases xb <;> cases xc <;> cases y
   all_goals
    rw[HY.out]at HWI;go_enter Tryz.func252,Tryz.ntmps252;go_wp2_with fail
    go_quiet ((go_at_call 262;exact Calls.quiet_of_same ((HWI.out _).mono fun e w1 hh=>⟨hh.1,hh.2.symm⟩)))
    go_wp2_with fail;go_ret;exact⟨by rw[HR.out];rfl,below_drewN (ze w _) _⟩
theorem Ux (B c m:Nat) (g:Gr) (W:Int) (M:List Bool) (i:In) (w:World) (h:zP w B c m g W M) (hk:i.k=11) (ha:zg g.refs i.a=true) (hb:zg g.refs i.b=true) (hc:i.c = -1∨zg g.refs i.c=true) :
 Calls Tryz.prog 252 #[.pointer (some ⟨c,0,none⟩),.agg #[.int .u8 i.k,.int .u8 i.o,.int .i64 i.a,.int .i64 i.b,.int .i64 i.c,.int .i64 i.n]] w fun e w'=>e = .returned (.bool (zu g.refs W M i))∧Below w.heap.size w w':=by
 obtain⟨b0,off,cap,er,hb0⟩:=wR h.here ha;obtain⟨na,ea,la⟩:=yC ha;obtain⟨nb,eb,lb⟩:=yC hb;have ta:=h.here.rlies.bit er na la;have tb:=h.here.rlies.bit er nb lb;have tc:=fun (r:Nat) (hr:r<g.refs.length)=>h.here.rlies.bit er r hr
 have hr:zu g.refs W M i=zu g.refs W M i:=rfl
 conv at hr=>rhs;unfold zu
 simp only[hk,Int.reduceEq,if_true,if_false,reduceIte,true_or,or_true,or_false,false_or]at hr;have hq:=h.box;rw[er]at hq;obtain⟨q0,q1,q2,q3,q4⟩:=zx hq;have hlc:=h.lt.1;have hlb:b0<w.heap.size:=by have:=h.base.2.2.2;omega
 have hW:=h.words;obtain⟨k,op,a,b,cc,n⟩:=i;simp only at *;subst hk;subst ea;subst eb;obtain⟨NR,hNR⟩:∃ N,N=g.refs.length:=⟨_,rfl⟩
 rw[←hNR]at q0 la lb;have hroom:NR≤140737488351232:=by rw[hNR];exact h.here.rlies.room
 generalize hxa:zm g.refs (na:Int)=xa at ta hr;generalize hxb:zm g.refs (nb:Int)=xb at tb hr;have HR:=hid hr;have HN:=hid hNR;clear h hr hq er hNR ha hb hxa hxb;generalize hy:inB n 0 64=y at HR;have HY:=hid hy;clear hy
 have hcc:(cc = -1∧decide (cc = -1)=true∧(cc == -1)=true)∨(∃ nc:Nat,cc=(nc:Int)∧nc<NR∧decide (cc = -1)=false∧(cc == -1)=false):=by
  rcases hc with hc|hc
  · subst hc;exact .inl ⟨rfl,rfl,rfl⟩
  · obtain⟨nc,e,l⟩:=yC hc
    refine .inr ⟨nc,e,by rw[HN.out];exact l, ?_, ?_⟩
    · simp;omega
    · simp;omega
 have HTC:=hid tc;clear hc tc;have HWI:=hid (fun w=>qE n 0 64 w);rcases hcc with ⟨rfl,d1,d2⟩|⟨nc,rfl,lc,d1,d2⟩
 · rw[d1]at HR
   clear d1;cases xb <;> cases y
   all_goals
    rw[HY.out]at HWI;go_enter Tryz.func252,Tryz.ntmps252;go_wp2_with fail
    go_quiet ((go_at_call 262;exact Calls.quiet_of_same ((HWI.out _).mono fun e w1 hh=>⟨hh.1,hh.2.symm⟩)))
    go_wp2_with fail;go_ret;exact⟨by rw[HR.out];rfl,below_drewN (ze w _) _⟩
 · rw[d1]at HR
   have tc:=HTC.out nc (by rw[←HN.out];exact lc);generalize hx:zm g.refs (nc:Int)=xc at tc HR;clear d1 hx;cases xb <;> cases xc <;> cases y
   all_goals
    rw[HY.out]at HWI;go_enter Tryz.func252,Tryz.ntmps252;go_wp2_with fail
    go_quiet ((go_at_call 262;exact Calls.quiet_of_same ((HWI.out _).mono fun e w1 hh=>⟨hh.1,hh.2.symm⟩)))
    go_wp2_with fail;go_ret;exact⟨by rw[HR.out];rfl,below_drewN (ze w _) _⟩
theorem Yy (B c m:Nat) (g:Gr) (W:Int) (M:List Bool) (i:In) (w:World) (hk:i.k=13∨i.k=14) :
 Calls Tryz.prog 252 #[.pointer (some ⟨c,0,none⟩),.agg #[.int .u8 i.k,.int .u8 i.o,.int .i64 i.a,.int .i64 i.b,.int .i64 i.c,.int .i64 i.n]] w fun e w'=>e = .returned (.bool (zu g.refs W M i))∧Below w.heap.size w w':=by
 obtain⟨k,op,a,b,cc,n⟩:=i;simp only at *;rcases hk with rfl|rfl
 all_goals
  go_enter Tryz.func252,Tryz.ntmps252;go_wp2_with fail;go_ret;exact⟨rfl,ze w _⟩
theorem YV (i:In) (on:Nat) (w:World):Calls Tryz.prog 229 #[i.val,.int .u8 (on:Int)] w fun e w'=>e = .returned (.int .u8 (yD i.k on:Nat))∧Below w.heap.size w w':=by
 obtain⟨k,o,a,b,c,n⟩:=i;show Calls _ _ #[.agg #[.int .u8 k,.int .u8 o,.int .i64 a,.int .i64 b,.int .i64 c,.int .i64 n],.int .u8 (on:Int)] _ _
 obtain⟨p0,p1,p2,p3,p4,p5⟩:=zl (MapKept.heap_alloc w (.cells #[.int .u8 k,.int .u8 o,.int .i64 a,.int .i64 b,.int .i64 c,.int .i64 n] 159)).1;have hb:=hid (ze w (.cells #[.int .u8 k,.int .u8 o,.int .i64 a,.int .i64 b,.int .i64 c,.int .i64 n] 159))
 have hk:k=13∨k=14∨((k==13)=false∧(k==14)=false):=by
  by_cases h:k=13∨k=14
  · rcases h with rfl|rfl <;> simp
  · simp only[not_or]at h;simp only[beq_eq_false_iff_ne,ne_eq];simp[h]
 rcases hk with rfl|rfl|⟨h1,h2⟩
 all_goals
  go_enter Tryz.func229,Tryz.ntmps229;go_wp2_with fail;go_ret;refine⟨?_,hb.out⟩
  first|rfl|(simp only[beq_eq_false_iff_ne,ne_eq]at *;simp[yD, *])
theorem Kc (k:Int) (w:World):Calls Tryz.prog 231 #[.int .u8 k] w fun e w'=>e = .returned (.int .u8 (yL k:Nat))∧w=w':=by
 have hk:k=7∨k=8∨k=9∨k=10∨k=11∨k=14∨k=13∨((k==7)=false∧(k==8)=false∧(k==9)=false∧(k==10)=false∧(k==11)=false∧(k==14)=false∧(k==13)=false):=by
  by_cases h:k=7∨k=8∨k=9∨k=10∨k=11∨k=14∨k=13
  · rcases h with rfl|rfl|rfl|rfl|rfl|rfl|rfl <;> simp
  · simp only[not_or]at h;simp only[beq_eq_false_iff_ne,ne_eq];simp[h]
 rcases hk with rfl|rfl|rfl|rfl|rfl|rfl|rfl|⟨h1,h2,h3,h4,h5,h6,h7⟩
 all_goals
  go_enter Tryz.func231,Tryz.ntmps231;go_wp2_with fail;go_ret
  first|exact⟨rfl,rfl⟩|(refine⟨?_,rfl⟩;simp only[beq_eq_false_iff_ne,ne_eq]at *;simp[yL, *])
def Ints (w:World) (H:Nat) (s:Value) (l:List Int):Prop:=∃ ao cap,s = .slice ao l.length cap∧(l=[]∨∃ g,ao=some ⟨g,0,none⟩ ∧ H≤g∧g<w.heap.size∧∀ (j:Nat) y,l[j]? = some y→w.cell? ⟨g,j,none⟩ = some (.int .i64 y))
theorem kw {w W1:World} (h:Below w.heap.size w W1) (us:List Value) (l:List Int) (hu:us=l.map fun y=>.int .i64 y) (_:l ≠ []) (hl:l.length=us.length) (g n:Nat) (hg:g=W1.heap.size) (hn:n=us.length) :
 Ints (W1.alloc (.cells us.toArray 3)) w.heap.size (.slice (some ⟨g,0,none⟩) n n) l∧Below w.heap.size w (W1.alloc (.cells us.toArray 3)):=by
 subst hg hn;refine⟨⟨_,us.length,by rw[←hl],.inr ⟨_,rfl,h.size,by simp,fun j y hy=>?_⟩⟩,h.alloc h.size _⟩;rw[Lib.cell_of_heap (MapKept.heap_alloc W1 (.cells us.toArray 3)).1];subst hu;simp[hy]
def X6 (b:Bk) (w:World) (e:Ending) (w':World):Prop:=∃ s,e = .returned s∧Ints w' w.heap.size s (zC b)∧Below w.heap.size w w'
theorem VQ (b:Bk) (w:World) (hv:∃ ao n cap,b.iv = .slice ao n cap):Calls Tryz.prog 230 #[.agg #[b.iv,.int .u8 b.last,.int .i64 b.reg,.int .i64 b.yes,.int .i64 b.no]] w (X6 b w):=by
 obtain⟨ao,n,cap,eiv⟩:=hv;obtain⟨iv,ins,last,reg,yes,no⟩:=b;simp only at *;subst eiv;obtain⟨p0,p1,p2,p3,p4⟩:=zx (MapKept.heap_alloc w (.cells #[.slice ao n cap,.int .u8 last,.int .i64 reg,.int .i64 yes,.int .i64 no] 118)).1;have hb:=hid (ze w (.cells #[.slice ao n cap,.int .u8 last,.int .i64 reg,.int .i64 yes,.int .i64 no] 118));have e1:=wP 25 3 1 1 #[(0,.int .i64 yes)] #[.int .i64 yes] (by kernel_rfl) (by kernel_rfl) (by kernel_rfl) (by decide) (by decide) (by kernel_rfl) (by kernel_rfl) (w.alloc (.cells #[.slice ao n cap,.int .u8 last,.int .i64 reg,.int .i64 yes,.int .i64 no] 118));have e2:=wP 25 3 2 1 #[(0,.int .i64 yes),(1,.int .i64 no)] #[.int .i64 yes,.int .i64 no] (by kernel_rfl) (by kernel_rfl) (by kernel_rfl) (by decide) (by decide) (by kernel_rfl) (by kernel_rfl) (w.alloc (.cells #[.slice ao n cap,.int .u8 last,.int .i64 reg,.int .i64 yes,.int .i64 no] 118));have q1:=hid (kw hb.out (.int .i64 yes :: []) [yes] (by simp) (by simp) rfl (w.heap.size+1) 1 (by simp) rfl);have q2:=hid (kw hb.out (.int .i64 yes :: .int .i64 no :: []) [yes,no] (by simp) (by simp) rfl (w.heap.size+1) 2 (by simp) rfl)
 have hk:last=1∨last=2∨((last==1)=false∧(last==2)=false):=by
  by_cases h:last=1∨last=2
  · rcases h with rfl|rfl <;> simp
  · simp only[not_or]at h;simp only[beq_eq_false_iff_ne,ne_eq];simp[h]
 rcases hk with rfl|rfl|⟨h1,h2⟩
 · clear e2 q2
   go_enter Tryz.func230,Tryz.ntmps230;go_wp2_with fail;go_ret;exact⟨_,rfl,q1.out⟩
 · clear e1 q1
   go_enter Tryz.func230,Tryz.ntmps230;go_wp2_with fail;go_ret;exact⟨_,rfl,q2.out⟩
 · clear e1 q1 e2 q2
   go_enter Tryz.func230,Tryz.ntmps230;go_wp2_with fail;go_ret;refine⟨_,rfl,⟨none,0, ?_,.inl ?_⟩,hb.out⟩ <;> (simp only[beq_eq_false_iff_ne,ne_eq]at *;simp[zC, *])
