import Derived.Test.YtlboinokdhmacaaGreatDoorIrGrow
import Derived.Laws.Bits64
namespace Go.Proofs.YtlboinokdhmacaaGreatDoor
set_option maxHeartbeats 64000000
set_option maxRecDepth 1000000
section
open Go.RowKit
def doE (c b:Int):Int:=if 1≤c∧c≤14 then (if (c=4∨c=5)∧b=0 then 4 else 0) else 1
def moves (b:Int):Nat:=min (IntKind.u64.wrap (bits BinOp.and IntKind.i64 b 63)).toNat 64
def doN (c a b:Int):Int:=
 if c=1 then wrap64 (a+b) else
 if c=2 then wrap64 (a - b) else
 if c=3 then wrap64 (a*b) else
 if c=4 then (if b=0 then 0 else wrap64 (a.tdiv b)) else
 if c=5 then (if b=0 then 0 else a.tmod b) else
 if c=6 then bits BinOp.and IntKind.i64 a b else
 if c=7 then bits BinOp.or IntKind.i64 a b else
 if c=8 then bits BinOp.xor IntKind.i64 a b else
 if c=9 then wrap64 (IntKind.u64.wrap (IntKind.u64.wrap a*2 ^ moves b)) else
 if c=10 then wrap64 (IntKind.u64.wrap a / 2 ^ moves b) else
 if c=11 then (if a=b then 1 else 0) else
 if c=12 then (if a=b then 0 else 1) else
 if c=13 then (if a<b then 1 else 0) else
 if c=14 then (if a≤b then 1 else 0) else 0
theorem jR (x y:Int) (h:x % 18446744073709551616=y % 18446744073709551616):wrap64 x=wrap64 y:=by
 unfold wrap64;omega
theorem uW (x:Int):wrap64 x % 18446744073709551616=x % 18446744073709551616:=by
 unfold wrap64;omega
theorem vO (x:Int):IntKind.u64.wrap x % 18446744073709551616=x % 18446744073709551616:=by
 rw[IntKind.wrap_u64];omega
theorem X3 (a b c d:Int) (h:a % 18446744073709551616=c % 18446744073709551616) (g:b % 18446744073709551616=d % 18446744073709551616):(a+b) % 18446744073709551616=(c+d) % 18446744073709551616:=by
 rw[Int.add_emod,h,g,←Int.add_emod]
theorem XZ (a b c d:Int) (h:a % 18446744073709551616=c % 18446744073709551616) (g:b % 18446744073709551616=d % 18446744073709551616):(a - b) % 18446744073709551616=(c - d) % 18446744073709551616:=by
 rw[Int.sub_emod,h,g,←Int.sub_emod]
theorem ZQ (a b c d:Int) (h:a % 18446744073709551616=c % 18446744073709551616) (g:b % 18446744073709551616=d % 18446744073709551616):(a*b) % 18446744073709551616=(c*d) % 18446744073709551616:=by
 rw[Int.mul_emod,h,g,←Int.mul_emod]
theorem XG (a b:Int):wrap64 (IntKind.u64.wrap (IntKind.u64.wrap a+IntKind.u64.wrap b))=wrap64 (a+b):=
 jR _ _ (by rw[vO];exact X3 _ _ _ _ (vO a) (vO b))
theorem XE (a b:Int):wrap64 (IntKind.u64.wrap (IntKind.u64.wrap a - IntKind.u64.wrap b))=wrap64 (a - b):=
 jR _ _ (by rw[vO];exact XZ _ _ _ _ (vO a) (vO b))
theorem XF (a b:Int):wrap64 (IntKind.u64.wrap (IntKind.u64.wrap a*IntKind.u64.wrap b))=wrap64 (a*b):=
 jR _ _ (by rw[vO];exact ZQ _ _ _ _ (vO a) (vO b))
theorem doN_1 (a b:Int):doN 1 a b=wrap64 (a+b):=by simp[doN]
theorem doN_3 (a b:Int):doN 3 a b=wrap64 (a*b):=by simp[doN]
theorem YH (a b:Int) (h:¬ b=0):doN 4 a b=wrap64 (a.tdiv b):=by simp[doN,h]
theorem doN_5 (a b:Int) (h:¬ b=0):doN 5 a b=a.tmod b:=by simp[doN,h]
theorem YG (c a b:Int) (h:c<1∨14<c):doN c a b=0:=by
 unfold doN;rw[if_neg (by omega),if_neg (by omega),if_neg (by omega),if_neg (by omega),if_neg (by omega),if_neg (by omega),if_neg (by omega),if_neg (by omega),if_neg (by omega),if_neg (by omega),if_neg (by omega),if_neg (by omega),if_neg (by omega),if_neg (by omega)]
theorem YI (c b:Int) (h:c<1∨14<c):doE c b=1:=by
 unfold doE;rw[if_neg (by omega)]
theorem JJ:doN 4 (-9223372036854775808) (-1) = -9223372036854775808:=by
 rw[YH _ _ (by decide)];unfold wrap64;decide
theorem again (a b:Int) (hb:¬ b=0) (h0:-9223372036854775808≤a) (h1:a≤9223372036854775807):doN 1 (doN 3 b (doN 4 a b)) (doN 5 a b)=a:=by
 rw[doN_1,doN_3,YH a b hb,doN_5 a b hb]
 have e:wrap64 (wrap64 (b*wrap64 (a.tdiv b))+a.tmod b)=wrap64 a:=by
  refine jR _ _ ?_;rw[X3 _ _ _ _ ((uW _).trans (ZQ _ _ _ _ rfl (uW _))) rfl,Int.mul_tdiv_add_tmod]
 rw[e];unfold wrap64;omega
end
section
open Go Go.Lib Go.RowKit
inductive Un where
 | put (at':Nat) (was:Int)
 | cut
structure TS where
 regs:List Int
 bi:Nat
 ii:Nat
 inside:Bool
 since:Nat
 undo:List Un
 told:List Int
 waiting:List Int
 fin:Int
structure WS where
 words:List Int
 strange:Bool
def TS.reg (T:TS) (r:Int):Int:=(T.regs[r.toNat]?).getD 0
def TS.setR (T:TS) (a n:Int):TS:={ T with regs:=T.regs.set a.toNat n }
def yf (T:TS) (i:In):Int:=if 0≤i.c then wrap64 (wrap64 (T.reg i.b+i.n)+T.reg i.c) else wrap64 (T.reg i.b+i.n)
def yM (W:WS) (a:Int):Bool:=decide (0<a) && decide (a<(W.words.length:Int))
def zW:List Un→WS→TS→WS × TS
 | [],W,T=>(W,T)
 | .put a x :: l,W,T=>zW l { W with words:=W.words.set a x } T
 | .cut :: l,W,T=>zW l { W with words:=W.words.take T.since } { T with waiting:=[] }
def yN (W:WS) (T:TS) (e:Int):WS × TS × Bool:=((zW T.undo W T).1,{ (zW T.undo W T).2 with fin:=e },true)
def yQ (W:WS) (T:TS) (i:In):WS:=if yM W (yf T i)=true∧yf T i<(T.since:Int) then { W with strange:=true } else W
def loadT (W:WS) (T:TS) (i:In):WS × TS × Bool:=if yM W (yf T i)=true then (W,T.setR i.a ((W.words[(yf T i).toNat]?).getD 0),false) else yN W T 8
def storeT (W:WS) (T:TS) (i:In):WS × TS × Bool:=if yM W (yf T i)=true then
 ({ W with words:=W.words.set (yf T i).toNat (T.reg i.a) },{ T with undo:=.put (yf T i).toNat ((W.words[(yf T i).toNat]?).getD 0) :: T.undo },false) else yN W T 8
def yB (W:WS) (T:TS) (i:In):WS × TS × Bool:=
 if i.k=1∨i.k=6 then (W,T.setR i.a i.n,false)
 else if i.k=2 then (W,T.setR i.a (T.reg i.b),false)
 else if i.k=3 then (if doE i.o (T.reg i.c)=0 then (W,T.setR i.a (doN i.o (T.reg i.b) (T.reg i.c)),false) else yN W T 2)
 else if i.k=4 then (if T.reg i.b=0 then yN W T 3 else (W,T,false))
 else if i.k=5 then (if T.reg i.b<0∨i.n≤T.reg i.b then yN W T 4 else (W,T,false))
 else if i.k=7 then (if 65536<(W.words.length:Int) - 1+i.n then yN W T 5 else ({ W with words:=W.words++List.replicate i.n.toNat 0 },T.setR i.a (W.words.length:Int),false))
 else if i.k=8 then loadT W T i
 else if i.k=9 then storeT W T i
 else if i.k=10 then loadT (yQ W T i) T i
 else if i.k=11 then storeT (yQ W T i) T i
 else if i.k=12 then (if T.inside=true then (W,{ T with waiting:=T.waiting++[T.reg i.b] },false) else (W,{ T with told:=T.told++[T.reg i.b] },true))
 else if i.k=13 then (W,{ T with inside:=true,since:=W.words.length,undo:=.cut :: T.undo },false)
 else (W,{ T with inside:=false,undo:=[] },true)
def lastT (T:TS) (b:Bk):TS × Bool:=
 if b.last=3 then ({ T with fin:=1 },true)
 else if b.last=2∧T.reg b.reg=0 then ({ T with bi:=b.no.toNat,ii:=0 },false)
 else ({ T with bi:=b.yes.toNat,ii:=0 },false)
def ww (g:Gr) (W:WS) (T:TS):WS × TS × Bool:=match g.blocks[T.bi]? with
 | none=>(W,T,true)
 | some b=>match b.ins[T.ii]? with
  | none=>(W,(lastT T b).1,(lastT T b).2)
  | some i=>yB W { T with ii:=T.ii+1 } i
def goT (g:Gr):Nat→WS→TS→Nat × WS × TS × Bool
 | 0,W,T=>(0,W,T,false)
 | n+1,W,T=>match ww g W T with
  | (W',T',true)=>(n,W',T',true)
  | (W',T',false)=>goT g n W' T'
def zA (g:Gr) (n:Nat) (W:WS) (T:TS):Nat × WS × TS × Bool:=match T.waiting with
 | x :: r=>(n,W,{ T with told:=T.told++[x],waiting:=r },true)
 | []=>if T.fin≠0 then (n,W,T,true) else goT g n W T
structure RS where
 n:Nat
 W:WS
 T:List TS
def zz (gs:List Gr):List Int→RS→RS × Bool
 | [],s=>(s,false)
 | p :: ps,s=>if p<0∨(gs.length:Int)≤p then zz gs ps s else match gs[p.toNat]?,s.T[p.toNat]? with
  | some g,some T=>if (zA g s.n s.W T).2.2.2=true then zz gs ps ⟨(zA g s.n s.W T).1,(zA g s.n s.W T).2.1,s.T.set p.toNat (zA g s.n s.W T).2.2.1⟩
   else (⟨(zA g s.n s.W T).1,(zA g s.n s.W T).2.1,s.T.set p.toNat (zA g s.n s.W T).2.2.1⟩,true)
  | _,_=>zz gs ps s
theorem Zn (gs:List Gr):∀ (ps qs:List Int) (s:RS),zz gs (ps++qs) s=if (zz gs ps s).2=true then zz gs ps s else zz gs qs (zz gs ps s).1:=by
 intro ps;induction ps with
 | nil=>intro qs s;rfl
 | cons p ps ih =>
  intro qs s;rw[List.cons_append,zz,zz];split
  · exact ih qs s
  · split
    · split
      · exact ih qs _
      · rw[if_pos rfl]
    · exact ih qs s
structure TS.Le (T T':TS):Prop where
 told:∃ l,T'.told=T.told++l
 fin:T.fin≠0→T'.fin=T.fin
theorem TS.Le.refl (T:TS):T.Le T:=⟨⟨[],by simp⟩,fun _=>rfl⟩
theorem TS.Le.trans {a b c:TS} (h:a.Le b) (k:b.Le c):a.Le c:=by
 obtain⟨l,hl⟩:=h.told;obtain⟨m,hm⟩:=k.told;refine⟨⟨l++m,by rw[hm,hl,List.append_assoc]⟩,fun hf=>?_⟩;have h1:=h.fin hf;rw[k.fin (by rw[h1];exact hf),h1]
def WS.Le (W W':WS):Prop:=W.strange=true→W'.strange=true
structure vZ (W:WS) (T:TS) (r:WS × TS × Bool):Prop where
 told:∃ l,r.2.1.told=T.told++l
 str:W.Le r.1
theorem vZ.same {W W':WS} {T T':TS} {b:Bool} (h1:T'.told=T.told) (h2:W'.strange=W.strange):vZ W T (W',T',b):=⟨⟨[],by simp[h1]⟩,fun h=>by rw[h2];exact h⟩
theorem VB (W:WS) (T:TS) (i:In):W.Le (yQ W T i):=by
 unfold yQ;split
 · exact fun _=>rfl
 · exact id
theorem vZ.own {W:WS} {T:TS} {i:In} {r:WS × TS × Bool} (h:vZ (yQ W T i) T r):vZ W T r:=⟨h.told,fun q=>h.str (VB W T i q)⟩
theorem vZ.ite {W:WS} {T:TS} {c:Prop} [Decidable c] {a b:WS × TS × Bool} (h1:vZ W T a) (h2:vZ W T b):vZ W T (if c then a else b):=by
 by_cases h:c
 · rw[if_pos h];exact h1
 · rw[if_neg h];exact h2
structure RS.Le (s s':RS):Prop where
 str:s.W.Le s'.W
 len:s'.T.length=s.T.length
 each:∀ (i:Nat) T T',s.T[i]? = some T→s'.T[i]? = some T'→T.Le T'
theorem RS.Le.refl (s:RS):s.Le s:=⟨id,rfl,fun i T T' h h'=>by rw[h]at h';cases h';exact .refl _⟩
theorem RS.Le.trans {a b c:RS} (h:a.Le b) (k:b.Le c):a.Le c:=by
 refine⟨fun q=>k.str (h.str q),k.len.trans h.len,fun i T T' h1 h2=>?_⟩;have hi:i<b.T.length:=by rw[h.len];exact (List.getElem?_eq_some_iff.1 h1).1
 exact (h.each i T _ h1 (List.getElem?_eq_getElem hi)).trans (k.each i _ T' (List.getElem?_eq_getElem hi) h2)
end
open Go.RowKit
theorem z11 (a b:Int) (w:World) :
 Calls Tryz.prog 208 #[.int .u8 1,.int .i64 a,.int .i64 b] w fun e w'=>e = .returned (.tuple #[.int .i64 (doN 1 a b),.int .i64 (doE 1 b)])∧w=w':=by
 go_enter Tryz.func208,Tryz.ntmps208
 go_wp2
 go_ret2
 exact⟨by simp[doN,doE],rfl⟩
theorem z0v (a b:Int) (w:World) :
 Calls Tryz.prog 208 #[.int .u8 2,.int .i64 a,.int .i64 b] w fun e w'=>e = .returned (.tuple #[.int .i64 (doN 2 a b),.int .i64 (doE 2 b)])∧w=w':=by
 go_enter Tryz.func208,Tryz.ntmps208
 go_wp2
 go_ret2
 exact⟨by simp[doN,doE],rfl⟩
theorem z0u (a b:Int) (w:World) :
 Calls Tryz.prog 208 #[.int .u8 3,.int .i64 a,.int .i64 b] w fun e w'=>e = .returned (.tuple #[.int .i64 (doN 3 a b),.int .i64 (doE 3 b)])∧w=w':=by
 go_enter Tryz.func208,Tryz.ntmps208
 go_wp2
 go_ret2
 exact⟨by simp[doN,doE],rfl⟩
theorem z0s (a:Int) (w:World) :
 Calls Tryz.prog 208 #[.int .u8 4,.int .i64 a,.int .i64 0] w fun e w'=>e = .returned (.tuple #[.int .i64 (doN 4 a 0),.int .i64 (doE 4 0)])∧w=w':=by
 go_enter Tryz.func208,Tryz.ntmps208
 go_wp2
 go_ret2
 exact⟨by simp[doN,doE],rfl⟩
theorem z0t (a b:Int) (hb:¬ b=0) (w:World) :
 Calls Tryz.prog 208 #[.int .u8 4,.int .i64 a,.int .i64 b] w fun e w'=>e = .returned (.tuple #[.int .i64 (doN 4 a b),.int .i64 (doE 4 b)])∧w=w':=by
 go_enter Tryz.func208,Tryz.ntmps208
 go_wp2
 go_ret2
 exact⟨by simp[doN,doE,hb],rfl⟩
theorem z0q (a:Int) (w:World) :
 Calls Tryz.prog 208 #[.int .u8 5,.int .i64 a,.int .i64 0] w fun e w'=>e = .returned (.tuple #[.int .i64 (doN 5 a 0),.int .i64 (doE 5 0)])∧w=w':=by
 go_enter Tryz.func208,Tryz.ntmps208
 go_wp2
 go_ret2
 exact⟨by simp[doN,doE],rfl⟩
theorem z0r (a b:Int) (hb:¬ b=0) (w:World) :
 Calls Tryz.prog 208 #[.int .u8 5,.int .i64 a,.int .i64 b] w fun e w'=>e = .returned (.tuple #[.int .i64 (doN 5 a b),.int .i64 (doE 5 b)])∧w=w':=by
 go_enter Tryz.func208,Tryz.ntmps208
 go_wp2
 go_ret2
 exact⟨by simp[doN,doE,hb],rfl⟩
theorem z0p (a b:Int) (w:World) :
 Calls Tryz.prog 208 #[.int .u8 6,.int .i64 a,.int .i64 b] w fun e w'=>e = .returned (.tuple #[.int .i64 (doN 6 a b),.int .i64 (doE 6 b)])∧w=w':=by
 go_enter Tryz.func208,Tryz.ntmps208
 go_wp2
 go_ret2
 exact⟨by simp[doN,doE],rfl⟩
theorem z0o (a b:Int) (w:World) :
 Calls Tryz.prog 208 #[.int .u8 7,.int .i64 a,.int .i64 b] w fun e w'=>e = .returned (.tuple #[.int .i64 (doN 7 a b),.int .i64 (doE 7 b)])∧w=w':=by
 go_enter Tryz.func208,Tryz.ntmps208
 go_wp2
 go_ret2
 exact⟨by simp[doN,doE],rfl⟩
theorem z0n (a b:Int) (w:World) :
 Calls Tryz.prog 208 #[.int .u8 8,.int .i64 a,.int .i64 b] w fun e w'=>e = .returned (.tuple #[.int .i64 (doN 8 a b),.int .i64 (doE 8 b)])∧w=w':=by
 go_enter Tryz.func208,Tryz.ntmps208
 go_wp2
 go_ret2
 exact⟨by simp[doN,doE],rfl⟩
theorem z0m (a b:Int) (w:World) :
 Calls Tryz.prog 208 #[.int .u8 9,.int .i64 a,.int .i64 b] w fun e w'=>e = .returned (.tuple #[.int .i64 (doN 9 a b),.int .i64 (doE 9 b)])∧w=w':=by
 go_enter Tryz.func208,Tryz.ntmps208
 go_wp2
 go_ret2
 exact⟨by simp[doN,doE,moves],rfl⟩
theorem z10 (a b:Int) (w:World) :
 Calls Tryz.prog 208 #[.int .u8 10,.int .i64 a,.int .i64 b] w fun e w'=>e = .returned (.tuple #[.int .i64 (doN 10 a b),.int .i64 (doE 10 b)])∧w=w':=by
 go_enter Tryz.func208,Tryz.ntmps208
 go_wp2
 go_ret2
 exact⟨by simp[doN,doE,moves],rfl⟩
theorem z0z (a b:Int) (w:World) :
 Calls Tryz.prog 208 #[.int .u8 11,.int .i64 a,.int .i64 b] w fun e w'=>e = .returned (.tuple #[.int .i64 (doN 11 a b),.int .i64 (doE 11 b)])∧w=w':=by
 by_cases h:a=b
 all_goals
  go_enter Tryz.func208,Tryz.ntmps208
  go_wp2
  go_ret2
  exact⟨by simp[doN,doE,h],rfl⟩
theorem z0y (a b:Int) (w:World) :
 Calls Tryz.prog 208 #[.int .u8 12,.int .i64 a,.int .i64 b] w fun e w'=>e = .returned (.tuple #[.int .i64 (doN 12 a b),.int .i64 (doE 12 b)])∧w=w':=by
 by_cases h:a=b
 all_goals
  go_enter Tryz.func208,Tryz.ntmps208
  go_wp2
  go_ret2
  exact⟨by simp[doN,doE,h],rfl⟩
theorem z0x (a b:Int) (w:World) :
 Calls Tryz.prog 208 #[.int .u8 13,.int .i64 a,.int .i64 b] w fun e w'=>e = .returned (.tuple #[.int .i64 (doN 13 a b),.int .i64 (doE 13 b)])∧w=w':=by
 by_cases h:a<b
 all_goals
  go_enter Tryz.func208,Tryz.ntmps208
  go_wp2
  go_ret2
  exact⟨by simp[doN,doE,h],rfl⟩
theorem z0w (a b:Int) (w:World) :
 Calls Tryz.prog 208 #[.int .u8 14,.int .i64 a,.int .i64 b] w fun e w'=>e = .returned (.tuple #[.int .i64 (doN 14 a b),.int .i64 (doE 14 b)])∧w=w':=by
 by_cases h:a≤b
 all_goals
  go_enter Tryz.func208,Tryz.ntmps208
  go_wp2
  go_ret2
  exact⟨by simp[doN,doE,h],rfl⟩
theorem z0k (c a b:Int) (h:c<1∨14<c) (w:World) :
 Calls Tryz.prog 208 #[.int .u8 c,.int .i64 a,.int .i64 b] w fun e w'=>e = .returned (.tuple #[.int .i64 (doN c a b),.int .i64 (doE c b)])∧w=w':=by
 rw[YG c a b h,YI c b h];have h1:(c==1)=false:=by simp;omega
 have h2:(c==2)=false:=by simp;omega
 have h3:(c==3)=false:=by simp;omega
 have h4:(c==4)=false:=by simp;omega
 have h5:(c==5)=false:=by simp;omega
 have h6:(c==6)=false:=by simp;omega
 have h7:(c==7)=false:=by simp;omega
 have h8:(c==8)=false:=by simp;omega
 have h9:(c==9)=false:=by simp;omega
 have h10:(c==10)=false:=by simp;omega
 have h11:(c==11)=false:=by simp;omega
 have h12:(c==12)=false:=by simp;omega
 have h13:(c==13)=false:=by simp;omega
 have h14:(c==14)=false:=by simp;omega
 clear h;go_enter Tryz.func208,Tryz.ntmps208
 go_wp2
 go_ret2
 exact⟨rfl,rfl⟩
theorem z0l (c a b:Int) (w:World) :
 Calls Tryz.prog 208 #[.int .u8 c,.int .i64 a,.int .i64 b] w fun e w'=>e = .returned (.tuple #[.int .i64 (doN c a b),.int .i64 (doE c b)])∧w=w':=by
 by_cases h:c<1∨14<c
 · exact z0k c a b h w
 have hc:c=1∨c=2∨c=3∨c=4∨c=5∨c=6∨c=7∨c=8∨c=9∨c=10∨c=11∨c=12∨c=13∨c=14:=by omega
 clear h;rcases hc with rfl|rfl|rfl|rfl|rfl|rfl|rfl|rfl|rfl|rfl|rfl|rfl|rfl|rfl
 · exact z11 a b w
 · exact z0v a b w
 · exact z0u a b w
 · by_cases hb:b=0
   · subst hb;exact z0s a w
   · exact z0t a b hb w
 · by_cases hb:b=0
   · subst hb;exact z0q a w
   · exact z0r a b hb w
 · exact z0p a b w
 · exact z0o a b w
 · exact z0n a b w
 · exact z0m a b w
 · exact z10 a b w
 · exact z0z a b w
 · exact z0y a b w
 · exact z0x a b w
 · exact z0w a b w
theorem z3k (a b:Int) (w:World) :
 Calls Tryz.prog 220 #[.int .u8 1,.int .i64 a,.int .i64 b] w fun e w'=>e = .returned (.tuple #[.int .i64 (doN 1 a b),.int .i64 (doE 1 b)])∧w=w':=by
 go_enter Tryz.func220,Tryz.ntmps220
 go_wp2
 go_ret2
 exact⟨by simp[doN,doE,XG],rfl⟩
theorem z3e (a b:Int) (w:World) :
 Calls Tryz.prog 220 #[.int .u8 2,.int .i64 a,.int .i64 b] w fun e w'=>e = .returned (.tuple #[.int .i64 (doN 2 a b),.int .i64 (doE 2 b)])∧w=w':=by
 go_enter Tryz.func220,Tryz.ntmps220
 go_wp2
 go_ret2
 exact⟨by simp[doN,doE,XE],rfl⟩
theorem z3d (a b:Int) (w:World) :
 Calls Tryz.prog 220 #[.int .u8 3,.int .i64 a,.int .i64 b] w fun e w'=>e = .returned (.tuple #[.int .i64 (doN 3 a b),.int .i64 (doE 3 b)])∧w=w':=by
 go_enter Tryz.func220,Tryz.ntmps220
 go_wp2
 go_ret2
 exact⟨by simp[doN,doE,XF],rfl⟩
theorem z2z (a:Int) (w:World) :
 Calls Tryz.prog 220 #[.int .u8 4,.int .i64 a,.int .i64 0] w fun e w'=>e = .returned (.tuple #[.int .i64 (doN 4 a 0),.int .i64 (doE 4 0)])∧w=w':=by
 go_enter Tryz.func220,Tryz.ntmps220
 go_wp2
 go_ret2
 exact⟨by simp[doN,doE],rfl⟩
theorem z3c (a b:Int) (ha:a = -9223372036854775808) (hm:b = -1) (hb:¬ b=0) (w:World) :
 Calls Tryz.prog 220 #[.int .u8 4,.int .i64 a,.int .i64 b] w fun e w'=>e = .returned (.tuple #[.int .i64 (doN 4 a b),.int .i64 (doE 4 b)])∧w=w':=by
 subst ha;subst hm;go_enter Tryz.func220,Tryz.ntmps220
 go_wp2
 go_ret2
 exact⟨by rw[JJ];rfl,rfl⟩
theorem z3a (a b:Int) (ha:¬ a = -9223372036854775808) (hb:¬ b=0) (w:World) :
 Calls Tryz.prog 220 #[.int .u8 4,.int .i64 a,.int .i64 b] w fun e w'=>e = .returned (.tuple #[.int .i64 (doN 4 a b),.int .i64 (doE 4 b)])∧w=w':=by
 go_enter Tryz.func220,Tryz.ntmps220
 go_wp2
 go_ret2
 exact⟨by simp[doN,doE,hb],rfl⟩
theorem z3b (a b:Int) (ha:a = -9223372036854775808) (hm:¬ b = -1) (hb:¬ b=0) (w:World) :
 Calls Tryz.prog 220 #[.int .u8 4,.int .i64 a,.int .i64 b] w fun e w'=>e = .returned (.tuple #[.int .i64 (doN 4 a b),.int .i64 (doE 4 b)])∧w=w':=by
 subst ha;go_enter Tryz.func220,Tryz.ntmps220
 go_wp2
 go_ret2
 exact⟨by simp[doN,doE,hb],rfl⟩
theorem z2v (a:Int) (w:World) :
 Calls Tryz.prog 220 #[.int .u8 5,.int .i64 a,.int .i64 0] w fun e w'=>e = .returned (.tuple #[.int .i64 (doN 5 a 0),.int .i64 (doE 5 0)])∧w=w':=by
 go_enter Tryz.func220,Tryz.ntmps220
 go_wp2
 go_ret2
 exact⟨by simp[doN,doE],rfl⟩
theorem z2y (a b:Int) (ha:a = -9223372036854775808) (hm:b = -1) (hb:¬ b=0) (w:World) :
 Calls Tryz.prog 220 #[.int .u8 5,.int .i64 a,.int .i64 b] w fun e w'=>e = .returned (.tuple #[.int .i64 (doN 5 a b),.int .i64 (doE 5 b)])∧w=w':=by
 subst ha;subst hm;go_enter Tryz.func220,Tryz.ntmps220
 go_wp2
 go_ret2
 exact⟨by rfl,rfl⟩
theorem z2w (a b:Int) (ha:¬ a = -9223372036854775808) (hb:¬ b=0) (w:World) :
 Calls Tryz.prog 220 #[.int .u8 5,.int .i64 a,.int .i64 b] w fun e w'=>e = .returned (.tuple #[.int .i64 (doN 5 a b),.int .i64 (doE 5 b)])∧w=w':=by
 go_enter Tryz.func220,Tryz.ntmps220
 go_wp2
 go_ret2
 exact⟨by simp[doN,doE,hb],rfl⟩
theorem z2x (a b:Int) (ha:a = -9223372036854775808) (hm:¬ b = -1) (hb:¬ b=0) (w:World) :
 Calls Tryz.prog 220 #[.int .u8 5,.int .i64 a,.int .i64 b] w fun e w'=>e = .returned (.tuple #[.int .i64 (doN 5 a b),.int .i64 (doE 5 b)])∧w=w':=by
 subst ha;go_enter Tryz.func220,Tryz.ntmps220
 go_wp2
 go_ret2
 exact⟨by simp[doN,doE,hb,Int.tmod_eq_emod_of_nonneg],rfl⟩
theorem z2u (a b:Int) (w:World) :
 Calls Tryz.prog 220 #[.int .u8 6,.int .i64 a,.int .i64 b] w fun e w'=>e = .returned (.tuple #[.int .i64 (doN 6 a b),.int .i64 (doE 6 b)])∧w=w':=by
 go_enter Tryz.func220,Tryz.ntmps220
 go_wp2
 go_ret2
 exact⟨by simp[doN,doE],rfl⟩
theorem z2t (a b:Int) (w:World) :
 Calls Tryz.prog 220 #[.int .u8 7,.int .i64 a,.int .i64 b] w fun e w'=>e = .returned (.tuple #[.int .i64 (doN 7 a b),.int .i64 (doE 7 b)])∧w=w':=by
 go_enter Tryz.func220,Tryz.ntmps220
 go_wp2
 go_ret2
 exact⟨by simp[doN,doE],rfl⟩
theorem z2s (a b:Int) (w:World) :
 Calls Tryz.prog 220 #[.int .u8 8,.int .i64 a,.int .i64 b] w fun e w'=>e = .returned (.tuple #[.int .i64 (doN 8 a b),.int .i64 (doE 8 b)])∧w=w':=by
 go_enter Tryz.func220,Tryz.ntmps220
 go_wp2
 go_ret2
 exact⟨by simp[doN,doE],rfl⟩
theorem z2r (a b:Int) (w:World) :
 Calls Tryz.prog 220 #[.int .u8 9,.int .i64 a,.int .i64 b] w fun e w'=>e = .returned (.tuple #[.int .i64 (doN 9 a b),.int .i64 (doE 9 b)])∧w=w':=by
 go_enter Tryz.func220,Tryz.ntmps220
 go_wp2
 go_ret2
 exact⟨by simp[doN,doE,moves],rfl⟩
theorem z3j (a b:Int) (w:World) :
 Calls Tryz.prog 220 #[.int .u8 10,.int .i64 a,.int .i64 b] w fun e w'=>e = .returned (.tuple #[.int .i64 (doN 10 a b),.int .i64 (doE 10 b)])∧w=w':=by
 go_enter Tryz.func220,Tryz.ntmps220
 go_wp2
 go_ret2
 exact⟨by simp[doN,doE,moves],rfl⟩
theorem z3i (a b:Int) (w:World) :
 Calls Tryz.prog 220 #[.int .u8 11,.int .i64 a,.int .i64 b] w fun e w'=>e = .returned (.tuple #[.int .i64 (doN 11 a b),.int .i64 (doE 11 b)])∧w=w':=by
 by_cases h:a=b
 all_goals
  go_enter Tryz.func220,Tryz.ntmps220
  go_wp2
  go_ret2
  exact⟨by simp[doN,doE,h],rfl⟩
theorem z3h (a b:Int) (w:World) :
 Calls Tryz.prog 220 #[.int .u8 12,.int .i64 a,.int .i64 b] w fun e w'=>e = .returned (.tuple #[.int .i64 (doN 12 a b),.int .i64 (doE 12 b)])∧w=w':=by
 by_cases h:a=b
 all_goals
  go_enter Tryz.func220,Tryz.ntmps220
  go_wp2
  go_ret2
  exact⟨by simp[doN,doE,h],rfl⟩
theorem z3g (a b:Int) (w:World) :
 Calls Tryz.prog 220 #[.int .u8 13,.int .i64 a,.int .i64 b] w fun e w'=>e = .returned (.tuple #[.int .i64 (doN 13 a b),.int .i64 (doE 13 b)])∧w=w':=by
 by_cases h:a<b
 all_goals
  go_enter Tryz.func220,Tryz.ntmps220
  go_wp2
  go_ret2
  exact⟨by simp[doN,doE,h],rfl⟩
theorem z3f (a b:Int) (w:World) :
 Calls Tryz.prog 220 #[.int .u8 14,.int .i64 a,.int .i64 b] w fun e w'=>e = .returned (.tuple #[.int .i64 (doN 14 a b),.int .i64 (doE 14 b)])∧w=w':=by
 by_cases h:a≤b
 all_goals
  go_enter Tryz.func220,Tryz.ntmps220
  go_wp2
  go_ret2
  exact⟨by simp[doN,doE,h],rfl⟩
theorem z2p (c a b:Int) (h:c<1∨14<c) (w:World) :
 Calls Tryz.prog 220 #[.int .u8 c,.int .i64 a,.int .i64 b] w fun e w'=>e = .returned (.tuple #[.int .i64 (doN c a b),.int .i64 (doE c b)])∧w=w':=by
 rw[YG c a b h,YI c b h];have h1:(c==1)=false:=by simp;omega
 have h2:(c==2)=false:=by simp;omega
 have h3:(c==3)=false:=by simp;omega
 have h4:(c==4)=false:=by simp;omega
 have h5:(c==5)=false:=by simp;omega
 have h6:(c==6)=false:=by simp;omega
 have h7:(c==7)=false:=by simp;omega
 have h8:(c==8)=false:=by simp;omega
 have h9:(c==9)=false:=by simp;omega
 have h10:(c==10)=false:=by simp;omega
 have h11:(c==11)=false:=by simp;omega
 have h12:(c==12)=false:=by simp;omega
 have h13:(c==13)=false:=by simp;omega
 have h14:(c==14)=false:=by simp;omega
 clear h;go_enter Tryz.func220,Tryz.ntmps220
 go_wp2
 go_ret2
 exact⟨rfl,rfl⟩
theorem z2q (c a b:Int) (w:World) :
 Calls Tryz.prog 220 #[.int .u8 c,.int .i64 a,.int .i64 b] w fun e w'=>e = .returned (.tuple #[.int .i64 (doN c a b),.int .i64 (doE c b)])∧w=w':=by
 by_cases h:c<1∨14<c
 · exact z2p c a b h w
 have hc:c=1∨c=2∨c=3∨c=4∨c=5∨c=6∨c=7∨c=8∨c=9∨c=10∨c=11∨c=12∨c=13∨c=14:=by omega
 clear h;rcases hc with rfl|rfl|rfl|rfl|rfl|rfl|rfl|rfl|rfl|rfl|rfl|rfl|rfl|rfl
 · exact z3k a b w
 · exact z3e a b w
 · exact z3d a b w
 · by_cases hb:b=0
   · subst hb;exact z2z a w
   · by_cases ha:a = -9223372036854775808
     · by_cases hm:b = -1
       · exact z3c a b ha hm hb w
       · exact z3b a b ha hm hb w
     · exact z3a a b ha hb w
 · by_cases hb:b=0
   · subst hb;exact z2v a w
   · by_cases ha:a = -9223372036854775808
     · by_cases hm:b = -1
       · exact z2y a b ha hm hb w
       · exact z2x a b ha hm hb w
     · exact z2w a b ha hb w
 · exact z2u a b w
 · exact z2t a b w
 · exact z2s a b w
 · exact z2r a b w
 · exact z3j a b w
 · exact z3i a b w
 · exact z3h a b w
 · exact z3g a b w
 · exact z3f a b w
