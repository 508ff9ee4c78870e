/- Plain facts about texts as tokens: what a text's tokens are, that a line feed between two texts parts their tokens, and that the tokens' own texts have the same tokens. Nothing here speaks of the program. -/
import Derived.Tactics
import Derived.Lib.Hide
import Derived.Below
namespace Go.Proofs.YtdhieihcmnpneaaGreatDoor
open Go Go.Lib
def isLetter (c:UInt8):Bool:=decide (97≤c.toNat∧c.toNat≤122)
def isDigit (c:UInt8):Bool:=decide (48≤c.toNat∧c.toNat≤57)
def isIn (c:UInt8):Bool:=isLetter c || isDigit c || decide (c.toNat=95)
def wordsL:List (List UInt8):=
  [[114,101,99,111,114,100],[115,104,97,114,101,100],[102,117,110,99],[116,104,114,101,97,100],[118,97,114],[105,102],[101,108,115,101],[119,104,105,108,101],[97,116,111,109,105,99],
   [112,114,105,110,116],[114,101,116,117,114,110],[110,101,119],[110,105,108],[105,110,116]]
def isWord (l:List UInt8):Bool:=wordsL.contains l
def isName (l:List UInt8):Bool:=decide (1≤l.length∧l.length≤16) && (l.head?.all isLetter && l.all isIn) && !isWord l
end Go.Proofs.YtdhieihcmnpneaaGreatDoor
/- Trees of expressions with where their parts lie, which of them may be, how many items they have, and their texts. Nothing here speaks of the program. -/
namespace Go.Proofs.YtdhieihcmnpneaaGreatDoor
open Go Go.Lib
structure Hd where
  k:Int
  n:Int
  name:ByteArray
  tk:Int
  tn:ByteArray
  tz:Int
inductive X where
  | mk (h:Hd) (s:Value) (args:List X)
def X.hd:X→Hd | .mk h _ _=>h
def X.s:X→Value | .mk _ s _=>s
def X.args:X→List X | .mk _ _ l=>l
def X.cells (x:X):List Value:=[.int .u8 x.hd.k,.int .i64 x.hd.n,.string x.hd.name,.int .u8 x.hd.tk,.string x.hd.tn,.int .i64 x.hd.tz,x.s]
abbrev X.val (x:X):Value:=.agg #[.int .u8 x.hd.k,.int .i64 x.hd.n,.string x.hd.name,.int .u8 x.hd.tk,.string x.hd.tn,.int .i64 x.hd.tz,x.s]
theorem X.ind {P:X→Prop} (h:∀ hd s l,(∀ a ∈ l,P a)→P (.mk hd s l)):∀ x,P x:=
  X.rec (motive_1:=P) (motive_2:=fun l=>∀ a ∈ l,P a) (fun hd s l ih=>h hd s l ih) (fun a ha=>by cases ha) (fun a l ha hl b hb=>by
    rcases List.mem_cons.1 hb with rfl|hb
    · exact ha
    · exact hl b hb)
mutual
def X.size:X→Nat
  | .mk _ _ l=>1+X.sizes l
def X.sizes:List X→Nat
  | []=>0
  | a :: r=>X.size a+X.sizes r
end
def tyForm (tk:Int) (tn:List UInt8) (tz:Int):Int:=
  if tk=1 then (if tn = [] ∧ tz=0 then 0 else 1)
  else if tk=2 then (if isName tn=true∧tz=0 then 0 else 1)
  else if tk=3 then (if (tn = [] ∨ isName tn=true)∧0 < tz then (if 64 < tz then 3 else 0) else 1)
  else 1
structure Wx where
  args:Int
  number:Bool
  name:Bool
  made:Bool
  sign:ByteArray
def Wx.val (x:Wx):Value:=.agg #[.int .i64 x.args,.bool x.number,.bool x.name,.bool x.made,.string x.sign]
def wxs:List Wx:=[⟨0,true,false,false,⟨#[]⟩⟩,⟨0,false,false,false,⟨#[]⟩⟩,⟨0,false,true,false,⟨#[]⟩⟩,⟨1,false,true,false,⟨#[]⟩⟩,⟨2,false,false,false,⟨#[]⟩⟩,
  ⟨0,false,false,true,⟨#[]⟩⟩,⟨-1,false,true,false,⟨#[]⟩⟩,⟨1,false,false,false,⟨#[]⟩⟩,⟨1,false,false,false,⟨#[]⟩⟩,⟨2,false,false,false,⟨#[43]⟩⟩,⟨2,false,false,false,⟨#[45]⟩⟩,
  ⟨2,false,false,false,⟨#[42]⟩⟩,⟨2,false,false,false,⟨#[47]⟩⟩,⟨2,false,false,false,⟨#[37]⟩⟩,⟨2,false,false,false,⟨#[61,61]⟩⟩,⟨2,false,false,false,⟨#[33,61]⟩⟩,
  ⟨2,false,false,false,⟨#[60]⟩⟩,⟨2,false,false,false,⟨#[60,61]⟩⟩,⟨2,false,false,false,⟨#[62]⟩⟩,⟨2,false,false,false,⟨#[62,61]⟩⟩,⟨2,false,false,false,⟨#[38,38]⟩⟩,⟨2,false,false,false,⟨#[124,124]⟩⟩]
def wants (k:Int):Option Wx:=if 1≤k then wxs[(k - 1).toNat]? else none
def form (h:Hd) (len:Nat):Int:=
  match wants h.k with
  | none=>1
  | some w =>
    if ¬ (w.args = -1 ∨ (len:Int)=w.args) then 1
    else if ¬ (w.number=true ∨ h.n=0) then 1
    else if (w.name=true∧isName h.name.data.toList=false) ∨ (w.name=false∧h.name.data.toList ≠ []) then 1
    else if w.made=true then (if h.tk=2 ∨ h.tk=3 then tyForm h.tk h.tn.data.toList h.tz else 1)
    else if h.tk=0∧h.tn.data.toList = [] ∧ h.tz=0 then 0 else 1
mutual
def chk (d c:Nat):X→Except Int Nat
  | .mk h _ l=>if 16 < d ∨ 1024 < c+1 then .error 3 else if form h l.length=0 then chks (d+1) (c+1) l else .error (form h l.length)
def chks (d c:Nat):List X→Except Int Nat
  | []=>.ok c
  | a :: r=>match chk d c a with
    | .error e=>.error e
    | .ok c'=>chks d c' r
end
inductive Fine:X→Prop where
  | mk (h:Hd) (s:Value) (l:List X):form h l.length=0→(∀ a ∈ l,Fine a)→Fine (.mk h s l)
theorem chk_mk (d c:Nat) (h:Hd) (s:Value) (l:List X):chk d c (.mk h s l)=if 16 < d ∨ 1024 < c+1 then .error 3 else if form h l.length=0 then chks (d+1) (c+1) l else .error (form h l.length):=by
  rw [chk]
theorem chks_nil (d c:Nat):chks d c [] = .ok c:=by rw [chks]
theorem chks_cons (d c:Nat) (a:X) (r:List X):chks d c (a :: r)=match chk d c a with | .error e=>.error e | .ok c'=>chks d c' r:=by rw [chks]
theorem size_mk (h:Hd) (s:Value) (l:List X):X.size (.mk h s l)=1+X.sizes l:=by rw [X.size]
theorem sizes_nil:X.sizes [] = 0:=by rw [X.sizes]
theorem sizes_cons (a:X) (r:List X):X.sizes (a :: r)=X.size a+X.sizes r:=by rw [X.sizes]
theorem chk_ok:∀ x,∀ d c m,chk d c x = .ok m→m=c+X.size x∧Fine x∧m≤1024:=by
  refine X.ind fun h s l ih d c m e=>?_
  rw [chk_mk] at e
  split at e
  · cases e
  rename_i hdc
  split at e
  · rename_i hf
    have key:∀ (l:List X),(∀ a ∈ l,∀ d c m,chk d c a = .ok m→m=c+X.size a∧Fine a∧m≤1024)→∀ d c m,c≤1024→chks d c l = .ok m→m=c+X.sizes l∧(∀ a ∈ l,Fine a)∧m≤1024:=by
      intro l
      induction l with
      | nil=>intro _ d c m hc e;rw [chks_nil] at e;cases e;exact⟨by rw [sizes_nil];rfl,(fun a ha=>by cases ha),hc⟩
      | cons a r ihr =>
        intro hl d c m _ e
        rw [chks_cons] at e
        split at e
        · cases e
        rename_i c' he
        obtain⟨h1,h2,h3⟩:=hl a (by simp) d c c' he
        obtain⟨g1,g2,g3⟩:=ihr (fun b hb=>hl b (by simp [hb])) d c' m h3 e
        refine⟨by rw [sizes_cons];omega,fun b hb=>?_,g3⟩
        rcases List.mem_cons.1 hb with rfl|hb
        · exact h2
        · exact g2 b hb
    obtain⟨k1,k2,k3⟩:=key l ih (d+1) (c+1) m (by omega) e
    exact⟨by rw [size_mk];omega,.mk h s l hf k2,k3⟩
  · cases e
theorem size_pos (x:X):1≤X.size x:=by cases x;rw [size_mk];omega
end Go.Proofs.YtdhieihcmnpneaaGreatDoor
/- Programs as trees: which of them may be, and whether their names and types fit. Nothing here speaks of the program. -/
namespace Go.Proofs.YtdhieihcmnpneaaGreatDoor
open Go Go.Lib
structure Ty where
  k:Int
  n:ByteArray
  z:Int
deriving DecidableEq
def noT:Ty:=⟨0,⟨#[]⟩,0⟩
def intT:Ty:=⟨1,⟨#[]⟩,0⟩
def nilT:Ty:=⟨4,⟨#[]⟩,0⟩
def Ty.cells (t:Ty):List Value:=[.int .u8 t.k,.string t.n,.int .i64 t.z]
def Ty.form (t:Ty):Int:=tyForm t.k t.n.data.toList t.z
structure Fd where
  name:ByteArray
  t:Ty
def Fd.cells (f:Fd):List Value:=.string f.name :: f.t.cells
structure Sh where
  k:Int
  name:ByteArray
  t:Ty
inductive St where
  | mk (h:Sh) (x y:X) (bv ev:Value) (body els:List St)
def St.h:St→Sh | .mk h _ _ _ _ _ _=>h
def St.x:St→X | .mk _ x _ _ _ _ _=>x
def St.y:St→X | .mk _ _ y _ _ _ _=>y
def St.bv:St→Value | .mk _ _ _ v _ _ _=>v
def St.ev:St→Value | .mk _ _ _ _ v _ _=>v
def St.body:St→List St | .mk _ _ _ _ _ b _=>b
def St.els:St→List St | .mk _ _ _ _ _ _ e=>e
def St.cells (s:St):List Value:=.int .u8 s.h.k :: .string s.h.name :: (s.h.t.cells ++ (s.x.cells ++ (s.y.cells ++ [s.bv,s.ev])))
theorem St.ind {P:St→Prop} (h:∀ hd x y bv ev b e,(∀ a ∈ b,P a)→(∀ a ∈ e,P a)→P (.mk hd x y bv ev b e)):∀ x,P x:=
  St.rec (motive_1:=P) (motive_2:=fun l=>∀ a ∈ l,P a) (fun hd x y bv ev b e ih1 ih2=>h hd x y bv ev b e ih1 ih2) (fun a ha=>by cases ha) (fun a l ha hl b hb=>by
    rcases List.mem_cons.1 hb with rfl|hb
    · exact ha
    · exact hl b hb)
structure Rc where
  name:ByteArray
  v:Value
  fields:List Fd
def Rc.cells (r:Rc):List Value:=[.string r.name,r.v]
structure Fn where
  name:ByteArray
  pv:Value
  params:List Fd
  res:Ty
  bv:Value
  body:List St
def Fn.cells (f:Fn):List Value:=[.string f.name,f.pv,.int .u8 f.res.k,.string f.res.n,.int .i64 f.res.z,f.bv]
structure Th where
  v:Value
  list:List St
def Th.cells (t:Th):List Value:=[t.v]
structure En where
  rv:Value
  records:List Rc
  sv:Value
  shared:List Fd
  fv:Value
  funcs:List Fn
structure Pr where
  e:En
  tv:Value
  threads:List Th
def Pr.cells (p:Pr):List Value:=[p.e.rv,p.e.sv,p.e.fv,p.tv]
mutual
def St.count:St→Nat
  | .mk _ _ _ _ _ b e=>1+St.counts b+St.counts e
def St.counts:List St→Nat
  | []=>0
  | a :: r=>St.count a+St.counts r
end
theorem count_mk (h:Sh) (x y:X) (bv ev:Value) (b e:List St):St.count (.mk h x y bv ev b e)=1+St.counts b+St.counts e:=by rw [St.count]
theorem counts_nil:St.counts [] = 0:=by rw [St.counts]
theorem counts_cons (a:St) (r:List St):St.counts (a :: r)=St.count a+St.counts r:=by rw [St.counts]
theorem counts_append:∀ a b:List St,St.counts (a ++ b)=St.counts a+St.counts b
  | [],b=>by rw [counts_nil];simp
  | x :: r,b=>by rw [List.cons_append,counts_cons,counts_cons,counts_append r b];omega
/-! ### Which programs may be -/
def noX (x:X):Bool:=decide (x.hd.k=0∧x.hd.n=0∧x.hd.name.data.toList = [] ∧ (x.hd.tk=0∧x.hd.tn.data.toList = [] ∧ x.hd.tz=0)∧x.args.length=0)
structure Ws where
  v:Bool
  x:Int
  y:Bool
  b:Bool
  o:Bool
def wss:List Ws:=[⟨true,1,false,false,false⟩,⟨false,3,true,false,false⟩,⟨false,2,false,true,true⟩,⟨false,2,false,true,false⟩,⟨false,0,false,true,false⟩,⟨false,2,false,false,false⟩,⟨false,1,false,false,false⟩,⟨false,4,false,false,false⟩]
def swants (k:Int):Option Ws:=if 1≤k then wss[(k - 1).toNat]? else none
def rightX (x:X) (q:Int):Bool:=if q=0 then noX x else if q=3 then decide (x.hd.k=3 ∨ x.hd.k=4 ∨ x.hd.k=5) else if q=4 then decide (x.hd.k=7) else true
def sform (h:Sh) (x y:X) (bl el:Nat):Int:=
  match swants h.k with
  | none=>1
  | some w =>
    if rightX x w.x=false then 1
    else if w.y=false∧noX y=false then 1
    else if w.b=false∧bl ≠ 0 then 1
    else if w.o=false∧el ≠ 0 then 1
    else if w.v=true then (if isName h.name.data.toList=true then h.t.form else 1)
    else if h.name.data.toList = [] ∧ h.t.k=0∧h.t.n.data.toList = [] ∧ h.t.z=0 then 0 else 1
def goesX (h:Sh) (x:X):Bool:=!noX x || (match swants h.k with|some w=>decide (w.x=2)|none=>false)
def goesY (h:Sh):Bool:=match swants h.k with|some w=>w.y|none=>false
mutual
def chkS (d c:Nat):St→Except Int Nat
  | .mk h x y _ _ b e =>
    if 16 < d ∨ 1024 < c+1 then .error 3 else if sform h x y b.length e.length=0 then
      match (if goesX h x=true then chk 1 (c+1) x else .ok (c+1)) with
      | .error k=>.error k
      | .ok c1=>match (if goesY h=true then chk 1 c1 y else .ok c1) with
        | .error k=>.error k
        | .ok c2=>match chkSs (d+1) c2 b with
          | .error k=>.error k
          | .ok c3=>chkSs (d+1) c3 e
    else .error (sform h x y b.length e.length)
def chkSs (d c:Nat):List St→Except Int Nat
  | []=>.ok c
  | a :: r=>match chkS d c a with
    | .error k=>.error k
    | .ok c'=>chkSs d c' r
end
theorem chkS_mk (d c:Nat) (h:Sh) (x y:X) (bv ev:Value) (b e:List St):chkS d c (.mk h x y bv ev b e) =
    if 16 < d ∨ 1024 < c+1 then .error 3 else if sform h x y b.length e.length=0 then
      match (if goesX h x=true then chk 1 (c+1) x else .ok (c+1)) with
      | .error k=>.error k
      | .ok c1=>match (if goesY h=true then chk 1 c1 y else .ok c1) with
        | .error k=>.error k
        | .ok c2=>match chkSs (d+1) c2 b with
          | .error k=>.error k
          | .ok c3=>chkSs (d+1) c3 e
    else .error (sform h x y b.length e.length):=by rw [chkS]
theorem chkSs_nil (d c:Nat):chkSs d c [] = .ok c:=by rw [chkSs]
theorem chkSs_cons (d c:Nat) (a:St) (r:List St):chkSs d c (a :: r)=match chkS d c a with | .error k=>.error k | .ok c'=>chkSs d c' r:=by rw [chkSs]
def chkF (most:Nat):Nat→List Fd→Int
  | _,[]=>0
  | i,f :: r=>if most < i+1 then 3 else if isName f.name.data.toList=false then 1 else if f.t.form ≠ 0 then f.t.form else chkF most (i+1) r
def chkR:Nat→List Rc→Int
  | _,[]=>0
  | i,r :: l=>if 16 < i+1 then 3 else if isName r.name.data.toList=false ∨ r.fields = [] then 1 else if chkF 16 0 r.fields ≠ 0 then chkF 16 0 r.fields else chkR (i+1) l
def chkFn (c:Nat) (f:Fn):Except Int Nat:=
  if isName f.name.data.toList=false then .error 1 else if chkF 16 0 f.params ≠ 0 then .error (chkF 16 0 f.params)
  else if ¬ (f.res.k=0∧f.res.n.data.toList = [] ∧ f.res.z=0)∧f.res.form ≠ 0 then .error f.res.form
  else chkSs 1 c f.body
def chkFs:Nat→Nat→List Fn→Except Int Nat
  | _,c,[]=>.ok c
  | i,c,f :: r=>if 32 < i+1 then .error 3 else match chkFn c f with
    | .error k=>.error k
    | .ok c'=>chkFs (i+1) c' r
def chkT:Nat→Nat→List Th→Except Int Nat
  | _,c,[]=>.ok c
  | i,c,t :: r=>if 4 < i+1 then .error 3 else match chkSs 1 c t.list with
    | .error k=>.error k
    | .ok c'=>chkT (i+1) c' r
def chkE (e:En):Except Int Nat:=
  if chkR 0 e.records ≠ 0 then .error (chkR 0 e.records) else if chkF 1024 0 e.shared ≠ 0 then .error (chkF 1024 0 e.shared) else chkFs 0 0 e.funcs
def chkP (p:Pr):Except Int Nat:=match chkE p.e with
  | .error k=>.error k
  | .ok c=>chkT 0 c p.threads
/-! ### Do names and types fit? -/
def idx (s:ByteArray):List ByteArray→Option Nat
  | []=>none
  | a :: r=>if a=s then some 0 else (idx s r).map (· + 1)
def rnames (l:List Rc):List ByteArray:=l.map (·.name)
def fnames (l:List Fd):List ByteArray:=l.map (·.name)
def nnames (l:List Fn):List ByteArray:=l.map (·.name)
def findL (s:ByteArray):List Fd→Option Fd
  | []=>none
  | f :: r=>if f.name=s then some f else findL s r
def fitsT (t as : Ty):Bool:=decide (t=as) || (decide (t=nilT) && (decide (as.k=2) || decide (as.k=3)))
def knownT (e:En) (t:Ty):Bool:=decide (t.n.data.toList = []) || (idx t.n (rnames e.records)).isSome
def namedT (e:En) (loc:List Fd) (s:ByteArray):Except Int Ty:=
  match findL s loc with
  | some f=>.ok f.t
  | none=>match idx s (fnames e.shared) with
    | none=>.error 9
    | some i=>.ok ((e.shared[i]?.map (·.t)).getD noT)
def fieldT (e:En) (t:Ty) (s:ByteArray):Except Int Ty:=
  if t.k ≠ 2 then .error 10 else match idx t.n (rnames e.records) with
    | none=>.error 9
    | some i=>match idx s (fnames ((e.records[i]?.map (·.fields)).getD [])) with
      | none=>.error 9
      | some j=>.ok ((((e.records[i]?.map (·.fields)).getD [])[j]?.map (·.t)).getD noT)
def elemT (t u:Ty):Except Int Ty:=
  if t.k ≠ 3 then .error 10 else if u ≠ intT then .error 10 else .ok (if t.n.data.toList = [] then intT else ⟨2,t.n,0⟩)
def fitAll:List Ty→List Fd→Bool
  | [],_=>true
  | _ :: _,[]=>false
  | t :: r,f :: l=>fitsT t f.t && fitAll r l
def callT (e:En) (s:ByteArray) (ts:List Ty):Except Int Ty:=
  match idx s (nnames e.funcs) with
  | none=>.error 9
  | some i=>match e.funcs[i]? with
    | none=>.error 9
    | some f=>if ts.length ≠ f.params.length then .error 10 else if fitAll ts f.params=true then .ok f.res else .error 10
def allInt:List Ty→Bool
  | []=>true
  | t :: r=>decide (t=intT) && allInt r
def tyAt (ts:List Ty) (i:Nat):Ty:=ts[i]?.getD noT
def ownT (e:En) (loc:List Fd) (h:Hd) (ts:List Ty):Except Int Ty:=
  if h.k=2 then .ok nilT
  else if h.k=3 then namedT e loc h.name
  else if h.k=4 then fieldT e (tyAt ts 0) h.name
  else if h.k=5 then elemT (tyAt ts 0) (tyAt ts 1)
  else if h.k=6 then (if knownT e ⟨h.tk,h.tn,h.tz⟩ = true then .ok ⟨h.tk,h.tn,h.tz⟩ else .error 9)
  else if h.k=7 then callT e h.name ts
  else if h.k=15 ∨ h.k=16 then (if fitsT (tyAt ts 0) (tyAt ts 1) || fitsT (tyAt ts 1) (tyAt ts 0) then .ok intT else .error 10)
  else if allInt ts=true then .ok intT else .error 10
def valT:Except Int Ty→Except Int Ty
  | .error k=>.error k
  | .ok t=>if t.k=0 then .error 10 else .ok t
mutual
def exprT (e:En) (loc:List Fd):X→Except Int Ty
  | .mk h _ l=>match argsT e loc l with
    | .error k=>.error k
    | .ok ts=>ownT e loc h ts
def argsT (e:En) (loc:List Fd):List X→Except Int (List Ty)
  | []=>.ok []
  | a :: r=>match valT (exprT e loc a) with
    | .error k=>.error k
    | .ok t=>match argsT e loc r with
      | .error k=>.error k
      | .ok ts=>.ok (t :: ts)
end
theorem exprT_mk (e:En) (loc:List Fd) (h:Hd) (s:Value) (l:List X):exprT e loc (.mk h s l)=match argsT e loc l with | .error k=>.error k | .ok ts=>ownT e loc h ts:=by rw [exprT]
theorem argsT_nil (e:En) (loc:List Fd):argsT e loc [] = .ok []:=by rw [argsT]
theorem argsT_cons (e:En) (loc:List Fd) (a:X) (r:List X):argsT e loc (a :: r)=match valT (exprT e loc a) with
    | .error k=>.error k
    | .ok t=>match argsT e loc r with
      | .error k=>.error k
      | .ok ts=>.ok (t :: ts):=by rw [argsT]
def valueT (e:En) (loc:List Fd) (x:X):Except Int Ty:=valT (exprT e loc x)
def declE (e:En) (loc:List Fd) (f:Fd):Int:=
  if (findL f.name loc).isSome || (idx f.name (fnames e.shared)).isSome then 8 else if knownT e f.t=true then 0 else 9
def plainT (e:En) (res:Ty) (loc:List Fd) (h:Sh) (x y:X):Except Int (List Fd):=
  if h.k=1 then
    (if declE e loc ⟨h.name,h.t⟩ ≠ 0 then .error (declE e loc ⟨h.name,h.t⟩)
     else if x.hd.k=0 then .ok (⟨h.name,h.t⟩ :: loc)
     else match valueT e loc x with
       | .error k=>.error k
       | .ok t=>if fitsT t h.t=true then .ok (⟨h.name,h.t⟩ :: loc) else .error 10)
  else if h.k=2 then
    (match valueT e loc x with
     | .error k=>.error k
     | .ok t=>match valueT e loc y with
       | .error k=>.error k
       | .ok u=>if fitsT u t=true then .ok loc else .error 10)
  else if h.k=3 ∨ h.k=4 ∨ h.k=6 then
    (match valueT e loc x with
     | .error k=>.error k
     | .ok t=>if t=intT then .ok loc else .error 10)
  else if h.k=7 then
    (if x.hd.k=0 then (if res.k=0 then .ok loc else .error 10)
     else match valueT e loc x with
       | .error k=>.error k
       | .ok t=>if fitsT t res=true then .ok loc else .error 10)
  else if h.k=8 then
    (match exprT e loc x with
     | .error k=>.error k
     | .ok _=>.ok loc)
  else .ok loc
mutual
def stT (e:En) (res:Ty) (loc:List Fd) (p:Int):St→Except (Int × Int) (Int × List Fd)
  | .mk h x y _ _ b l=>match plainT e res loc h x y with
    | .error k=>.error (p,k)
    | .ok loc'=>if h.k=1 then .ok (p,loc') else
      match stsT e res loc p b with
      | .error k=>.error k
      | .ok p1=>match stsT e res loc p1 l with
        | .error k=>.error k
        | .ok p2=>.ok (p2,loc)
def stsT (e:En) (res:Ty) (loc:List Fd) (p:Int):List St→Except (Int × Int) Int
  | []=>.ok p
  | s :: r=>match stT e res loc (p+1) s with
    | .error k=>.error k
    | .ok q=>stsT e res q.2 q.1 r
end
theorem stT_mk (e:En) (res:Ty) (loc:List Fd) (p:Int) (h:Sh) (x y:X) (bv ev:Value) (b l:List St):stT e res loc p (.mk h x y bv ev b l)=match plainT e res loc h x y with
    | .error k=>.error (p,k)
    | .ok loc'=>if h.k=1 then .ok (p,loc') else
      match stsT e res loc p b with
      | .error k=>.error k
      | .ok p1=>match stsT e res loc p1 l with
        | .error k=>.error k
        | .ok p2=>.ok (p2,loc):=by rw [stT]
theorem stsT_nil (e:En) (res:Ty) (loc:List Fd) (p:Int):stsT e res loc p [] = .ok p:=by rw [stsT]
theorem stsT_cons (e:En) (res:Ty) (loc:List Fd) (p:Int) (s:St) (r:List St):stsT e res loc p (s :: r)=match stT e res loc (p+1) s with
    | .error k=>.error k
    | .ok q=>stsT e res q.2 q.1 r:=by rw [stsT]
def fieldsE (e:En) (all:List ByteArray):Nat→List Fd→Int
  | _,[]=>0
  | j,f :: r=>if idx f.name all ≠ some j then 8 else if knownT e f.t=true then fieldsE e all (j+1) r else 9
def recE (e:En) (i:Nat) (r:Rc):Int:=if idx r.name (rnames e.records) ≠ some i then 8 else fieldsE e (fnames r.fields) 0 r.fields
def recsT (e:En):Nat→List Rc→Except (Int × Int) Unit
  | _,[]=>.ok ()
  | i,r :: l=>if recE e i r ≠ 0 then .error (i,recE e i r) else recsT e (i+1) l
def shareE (e:En) (i:Nat) (f:Fd):Int:=
  if (idx f.name (rnames e.records)).isSome ∨ idx f.name (fnames e.shared) ≠ some i then 8 else if knownT e f.t=true then 0 else 9
def sharesT (e:En):Nat→List Fd→Except (Int × Int) Unit
  | _,[]=>.ok ()
  | i,f :: l=>if shareE e i f ≠ 0 then .error ((e.records.length:Int)+i,shareE e i f) else sharesT e (i+1) l
def parsT (e:En):List Fd→List Fd→Except Int (List Fd)
  | loc,[]=>.ok loc
  | loc,f :: r=>if declE e loc f ≠ 0 then .error (declE e loc f) else parsT e (f :: loc) r
def fnT (e:En) (i:Nat) (p:Int) (f:Fn):Except (Int × Int) Int:=
  if (idx f.name (rnames e.records)).isSome ∨ (idx f.name (fnames e.shared)).isSome ∨ idx f.name (nnames e.funcs) ≠ some i then .error (p,8)
  else match parsT e [] f.params with
    | .error k=>.error (p,k)
    | .ok loc=>if knownT e f.res=true then stsT e f.res loc p f.body else .error (p,9)
def fnsT (e:En):Nat→Int→List Fn→Except (Int × Int) Int
  | _,p,[]=>.ok p
  | i,p,f :: r=>match fnT e i (p+1) f with
    | .error k=>.error k
    | .ok q=>fnsT e (i+1) q r
def thsT (e:En):Int→List Th→Except (Int × Int) Int
  | p,[]=>.ok p
  | p,t :: r=>match stsT e noT [] (p+1) t.list with
    | .error k=>.error k
    | .ok q=>thsT e q r
def headT (e:En):Except (Int × Int) Int:=
  match recsT e 0 e.records with
  | .error k=>.error k
  | .ok _=>match sharesT e 0 e.shared with
    | .error k=>.error k
    | .ok _=>fnsT e 0 ((e.records.length:Int)+e.shared.length - 1) e.funcs
def progT (p:Pr):Except (Int × Int) Int:=match headT p.e with
  | .error k=>.error k
  | .ok q=>thsT p.e q p.threads
def typesT (p:Pr):Int × Int:=match chkP p with
  | .error _=>(0,1)
  | .ok _=>match progT p with
    | .error k=>k
    | .ok _=>(0,0)
/-! ### How many places there are -/
def fnsN:List Fn→Nat
  | []=>0
  | f :: r=>St.counts f.body+fnsN r
def thsN:List Th→Nat
  | []=>0
  | t :: r=>St.counts t.list+thsN r
def placesN (p:Pr):Nat:=p.e.records.length+p.e.shared.length+p.e.funcs.length+p.threads.length+fnsN p.e.funcs+thsN p.threads
end Go.Proofs.YtdhieihcmnpneaaGreatDoor
/- Programs without the values of their lists: whether they may be, and what fits, hangs on nothing else. Nothing here speaks of the program. -/
namespace Go.Proofs.YtdhieihcmnpneaaGreatDoor
open Go Go.Lib
def noV:Value:=.slice none 0 0
mutual
def X.bare:X→X
  | .mk h _ l=>.mk h noV (X.bares l)
def X.bares:List X→List X
  | []=>[]
  | a :: r=>X.bare a :: X.bares r
end
theorem xbare_mk (h:Hd) (s:Value) (l:List X):X.bare (.mk h s l) = .mk h noV (X.bares l):=by rw [X.bare]
theorem xbares_nil:X.bares [] = []:=by rw [X.bares]
theorem xbares_cons (a:X) (r:List X):X.bares (a :: r)=X.bare a :: X.bares r:=by rw [X.bares]
theorem xbares_map:∀ l:List X,X.bares l=l.map X.bare
  | []=>by rw [xbares_nil];rfl
  | a :: r=>by rw [xbares_cons,xbares_map r];rfl
theorem xbares_len (l:List X):(X.bares l).length=l.length:=by rw [xbares_map];simp
theorem xbare_hd (x:X):x.bare.hd=x.hd:=by cases x;rw [xbare_mk];rfl
theorem xbare_args (x:X):x.bare.args=X.bares x.args:=by cases x;rw [xbare_mk];rfl
theorem noX_bare (x:X):noX x.bare=noX x:=by unfold noX;rw [xbare_hd,xbare_args,xbares_len]
mutual
def St.bare:St→St
  | .mk h x y _ _ b e=>.mk h x.bare y.bare noV noV (St.bares b) (St.bares e)
def St.bares:List St→List St
  | []=>[]
  | a :: r=>St.bare a :: St.bares r
end
theorem sbare_mk (h:Sh) (x y:X) (bv ev:Value) (b e:List St):St.bare (.mk h x y bv ev b e) = .mk h x.bare y.bare noV noV (St.bares b) (St.bares e):=by rw [St.bare]
theorem sbares_nil:St.bares [] = []:=by rw [St.bares]
theorem sbares_cons (a:St) (r:List St):St.bares (a :: r)=St.bare a :: St.bares r:=by rw [St.bares]
theorem sbares_map:∀ l:List St,St.bares l=l.map St.bare
  | []=>by rw [sbares_nil];rfl
  | a :: r=>by rw [sbares_cons,sbares_map r];rfl
theorem sbares_len (l:List St):(St.bares l).length=l.length:=by rw [sbares_map];simp
def Rc.bare (r:Rc):Rc:=⟨r.name,noV,r.fields⟩
def Fn.bare (f:Fn):Fn:=⟨f.name,noV,f.params,f.res,noV,St.bares f.body⟩
def Th.bare (t:Th):Th:=⟨noV,St.bares t.list⟩
def En.bare (e:En):En:=⟨noV,e.records.map Rc.bare,noV,e.shared,noV,e.funcs.map Fn.bare⟩
def Pr.bare (p:Pr):Pr:=⟨p.e.bare,noV,p.threads.map Th.bare⟩
/-! ### Whether it may be -/
theorem chks_bares (l:List X) (hl:∀ a ∈ l,∀ d c,chk d c a.bare=chk d c a):∀ d c,chks d c (X.bares l)=chks d c l:=by
  induction l with
  | nil=>intro d c;rw [xbares_nil]
  | cons a r ih =>
    intro d c
    rw [xbares_cons,chks_cons,chks_cons,hl a (by simp)]
    cases chk d c a with
    | error k=>rfl
    | ok m=>exact ih (fun b hb=>hl b (by simp [hb])) d m
theorem chk_bare:∀ x,∀ d c,chk d c (X.bare x)=chk d c x:=by
  refine X.ind fun h s l ih d c=>?_
  rw [xbare_mk,chk_mk,chk_mk,xbares_len,chks_bares l ih]
theorem rightX_bare (x:X) (q:Int):rightX x.bare q=rightX x q:=by unfold rightX;rw [noX_bare,xbare_hd]
theorem sform_bare (h:Sh) (x y:X) (b e:Nat):sform h x.bare y.bare b e=sform h x y b e:=by
  unfold sform
  simp only [rightX_bare,noX_bare]
theorem goesX_bare (h:Sh) (x:X):goesX h x.bare=goesX h x:=by unfold goesX;rw [noX_bare]
theorem chkSs_bares (l:List St) (hl:∀ a ∈ l,∀ d c,chkS d c a.bare=chkS d c a):∀ d c,chkSs d c (St.bares l)=chkSs d c l:=by
  induction l with
  | nil=>intro d c;rw [sbares_nil]
  | cons a r ih =>
    intro d c
    rw [sbares_cons,chkSs_cons,chkSs_cons,hl a (by simp)]
    cases chkS d c a with
    | error k=>rfl
    | ok m=>exact ih (fun b hb=>hl b (by simp [hb])) d m
theorem chkS_bare:∀ s,∀ d c,chkS d c (St.bare s)=chkS d c s:=by
  refine St.ind fun h x y bv ev b e ih1 ih2 d c=>?_
  rw [sbare_mk,chkS_mk,chkS_mk,sbares_len,sbares_len,sform_bare,goesX_bare]
  simp only [chk_bare,chkSs_bares b ih1,chkSs_bares e ih2]
theorem chkSs_bare (l:List St) (d c:Nat):chkSs d c (St.bares l)=chkSs d c l:=chkSs_bares l (fun a _=>chkS_bare a) d c
theorem chkR_bare:∀ (l:List Rc) (i:Nat),chkR i (l.map Rc.bare)=chkR i l
  | [],_=>rfl
  | a :: r,i=>by
    rw [List.map_cons,chkR,chkR,chkR_bare r (i+1)]
    rfl
theorem chkFn_bare (c:Nat) (f:Fn):chkFn c f.bare=chkFn c f:=by
  unfold chkFn
  show (if isName f.name.data.toList=false then _ else if chkF 16 0 f.params ≠ 0 then _ else if _ then _ else chkSs 1 c (St.bares f.body))=_
  rw [chkSs_bare]
  rfl
theorem chkFs_bare:∀ (l:List Fn) (i c:Nat),chkFs i c (l.map Fn.bare)=chkFs i c l
  | [],_,_=>rfl
  | a :: r,i,c=>by
    rw [List.map_cons,chkFs,chkFs,chkFn_bare]
    split
    · rfl
    cases chkFn c a with
    | error k=>rfl
    | ok m=>exact chkFs_bare r (i+1) m
theorem chkT_bare:∀ (l:List Th) (i c:Nat),chkT i c (l.map Th.bare)=chkT i c l
  | [],_,_=>rfl
  | a :: r,i,c=>by
    rw [List.map_cons,chkT,chkT,show (Th.bare a).list=St.bares a.list from rfl,chkSs_bare]
    split
    · rfl
    cases chkSs 1 c a.list with
    | error k=>rfl
    | ok m=>exact chkT_bare r (i+1) m
theorem chkE_bare (e:En):chkE e.bare=chkE e:=by
  unfold chkE
  show (if chkR 0 (e.records.map Rc.bare) ≠ 0 then _ else if chkF 1024 0 e.shared ≠ 0 then _ else chkFs 0 0 (e.funcs.map Fn.bare))=_
  rw [chkFs_bare]
  show (if chkR 0 (e.records.map Rc.bare) ≠ 0 then Except.error (chkR 0 (e.records.map Rc.bare)) else _)=_
  rw [chkR_bare]
  rfl
theorem chkP_bare (p:Pr):chkP p.bare=chkP p:=by
  unfold chkP
  rw [show p.bare.e=p.e.bare from rfl,chkE_bare,show p.bare.threads=p.threads.map Th.bare from rfl]
  cases chkE p.e with
  | error k=>rfl
  | ok c=>exact chkT_bare _ _ _
/-! ### What fits -/
theorem rnames_bare (l:List Rc):rnames (l.map Rc.bare)=rnames l:=by unfold rnames;rw [List.map_map];rfl
theorem nnames_bare (l:List Fn):nnames (l.map Fn.bare)=nnames l:=by unfold nnames;rw [List.map_map];rfl
theorem knownT_bare (e:En) (t:Ty):knownT e.bare t=knownT e t:=by
  unfold knownT
  rw [show e.bare.records=e.records.map Rc.bare from rfl,rnames_bare]
theorem namedT_bare (e:En) (loc:List Fd) (s:ByteArray):namedT e.bare loc s=namedT e loc s:=rfl
theorem fieldT_bare (e:En) (t:Ty) (s:ByteArray):fieldT e.bare t s=fieldT e t s:=by
  unfold fieldT
  rw [show e.bare.records=e.records.map Rc.bare from rfl,rnames_bare]
  split
  · rfl
  cases idx t.n (rnames e.records) with
  | none=>rfl
  | some i =>
    simp only
    have h:(List.map Rc.bare e.records)[i]?.map (·.fields)=e.records[i]?.map (·.fields):=by
      rw [List.getElem?_map,Option.map_map];rfl
    rw [h]
theorem callT_bare (e:En) (s:ByteArray) (ts:List Ty):callT e.bare s ts=callT e s ts:=by
  unfold callT
  rw [show e.bare.funcs=e.funcs.map Fn.bare from rfl,nnames_bare]
  cases idx s (nnames e.funcs) with
  | none=>rfl
  | some i =>
    simp only
    rw [List.getElem?_map]
    cases e.funcs[i]? with
    | none=>rfl
    | some f=>rfl
theorem ownT_bare (e:En) (loc:List Fd) (h:Hd) (ts:List Ty):ownT e.bare loc h ts=ownT e loc h ts:=by
  unfold ownT
  simp only [namedT_bare,fieldT_bare,knownT_bare,callT_bare]
theorem argsT_bares (e:En) (loc:List Fd) (l:List X) (hl:∀ a ∈ l,exprT e.bare loc a.bare=exprT e loc a):argsT e.bare loc (X.bares l)=argsT e loc l:=by
  induction l with
  | nil=>rw [xbares_nil,argsT_nil,argsT_nil]
  | cons a r ih =>
    rw [xbares_cons,argsT_cons,argsT_cons,hl a (by simp),ih (fun b hb=>hl b (by simp [hb]))]
theorem exprT_bare (e:En) (loc:List Fd):∀ x,exprT e.bare loc (X.bare x)=exprT e loc x:=by
  refine X.ind fun h s l ih=>?_
  rw [xbare_mk,exprT_mk,exprT_mk,argsT_bares e loc l ih]
  simp only [ownT_bare]
theorem valueT_bare (e:En) (loc:List Fd) (x:X):valueT e.bare loc x.bare=valueT e loc x:=by unfold valueT;rw [exprT_bare]
theorem declE_bare (e:En) (loc:List Fd) (f:Fd):declE e.bare loc f=declE e loc f:=by
  unfold declE
  rw [knownT_bare]
  rfl
theorem plainT_bare (e:En) (res:Ty) (loc:List Fd) (h:Sh) (x y:X):plainT e.bare res loc h x.bare y.bare=plainT e res loc h x y:=by
  unfold plainT
  simp only [declE_bare,valueT_bare,exprT_bare,xbare_hd]
theorem stsT_bares (e:En) (res:Ty) (l:List St) (hl:∀ a ∈ l,∀ loc p,stT e.bare res loc p a.bare=stT e res loc p a):∀ loc p,stsT e.bare res loc p (St.bares l)=stsT e res loc p l:=by
  induction l with
  | nil=>intro loc p;rw [sbares_nil,stsT_nil,stsT_nil]
  | cons a r ih =>
    intro loc p
    rw [sbares_cons,stsT_cons,stsT_cons,hl a (by simp)]
    cases stT e res loc (p+1) a with
    | error k=>rfl
    | ok q=>exact ih (fun b hb=>hl b (by simp [hb])) q.2 q.1
theorem stT_bare (e:En) (res:Ty):∀ s,∀ loc p,stT e.bare res loc p (St.bare s)=stT e res loc p s:=by
  refine St.ind fun h x y bv ev b l ih1 ih2 loc p=>?_
  rw [sbare_mk,stT_mk,stT_mk,plainT_bare]
  simp only [stsT_bares e res b ih1,stsT_bares e res l ih2]
theorem stsT_bare (e:En) (res:Ty) (l:List St) (loc:List Fd) (p:Int):stsT e.bare res loc p (St.bares l)=stsT e res loc p l:=stsT_bares e res l (fun a _=>stT_bare e res a) loc p
theorem fieldsE_bare (e:En) (all:List ByteArray):∀ (l:List Fd) (j:Nat),fieldsE e.bare all j l=fieldsE e all j l
  | [],_=>rfl
  | f :: r,j=>by rw [fieldsE,fieldsE,knownT_bare,fieldsE_bare e all r (j+1)]
theorem recE_bare (e:En) (i:Nat) (r:Rc):recE e.bare i r.bare=recE e i r:=by
  unfold recE
  rw [show e.bare.records=e.records.map Rc.bare from rfl,rnames_bare,fieldsE_bare]
  rfl
theorem recsT_bare (e:En):∀ (l:List Rc) (i:Nat),recsT e.bare i (l.map Rc.bare)=recsT e i l
  | [],_=>rfl
  | a :: r,i=>by rw [List.map_cons,recsT,recsT,recE_bare,recsT_bare e r (i+1)]
theorem shareE_bare (e:En) (i:Nat) (f:Fd):shareE e.bare i f=shareE e i f:=by
  unfold shareE
  rw [show e.bare.records=e.records.map Rc.bare from rfl,rnames_bare,knownT_bare]
  rfl
theorem sharesT_bare (e:En):∀ (l:List Fd) (i:Nat),sharesT e.bare i l=sharesT e i l
  | [],_=>rfl
  | a :: r,i=>by
    rw [sharesT,sharesT,shareE_bare,sharesT_bare e r (i+1),show e.bare.records=e.records.map Rc.bare from rfl,List.length_map]
theorem parsT_bare (e:En):∀ (l loc:List Fd),parsT e.bare loc l=parsT e loc l
  | [],_=>rfl
  | a :: r,loc=>by rw [parsT,parsT,declE_bare,parsT_bare e r]
theorem fnT_bare (e:En) (i:Nat) (p:Int) (f:Fn):fnT e.bare i p f.bare=fnT e i p f:=by
  unfold fnT
  rw [show e.bare.records=e.records.map Rc.bare from rfl,show e.bare.funcs=e.funcs.map Fn.bare from rfl,rnames_bare,nnames_bare,parsT_bare,knownT_bare,show f.bare.body=St.bares f.body from rfl,show f.bare.name=f.name from rfl,show f.bare.params=f.params from rfl,show f.bare.res=f.res from rfl]
  simp only [stsT_bare]
  rfl
theorem fnsT_bare (e:En):∀ (l:List Fn) (i:Nat) (p:Int),fnsT e.bare i p (l.map Fn.bare)=fnsT e i p l
  | [],_,_=>rfl
  | a :: r,i,p=>by
    rw [List.map_cons,fnsT,fnsT,fnT_bare]
    cases fnT e i (p+1) a with
    | error k=>rfl
    | ok q=>exact fnsT_bare e r (i+1) q
theorem thsT_bare (e:En):∀ (l:List Th) (p:Int),thsT e.bare p (l.map Th.bare)=thsT e p l
  | [],_=>rfl
  | a :: r,p=>by
    rw [List.map_cons,thsT,thsT,show (Th.bare a).list=St.bares a.list from rfl,stsT_bare]
    cases stsT e noT [] (p+1) a.list with
    | error k=>rfl
    | ok q=>exact thsT_bare e r q
theorem headT_bare (e:En):headT e.bare=headT e:=by
  unfold headT
  rw [show e.bare.records=e.records.map Rc.bare from rfl,show e.bare.funcs=e.funcs.map Fn.bare from rfl,show e.bare.shared=e.shared from rfl,recsT_bare,sharesT_bare,List.length_map]
  simp only [fnsT_bare]
theorem progT_bare (p:Pr):progT p.bare=progT p:=by
  unfold progT
  rw [show p.bare.e=p.e.bare from rfl,show p.bare.threads=p.threads.map Th.bare from rfl,headT_bare]
  cases headT p.e with
  | error k=>rfl
  | ok q=>exact thsT_bare _ _ _
theorem typesT_bare (p:Pr):typesT p.bare=typesT p:=by
  unfold typesT
  rw [chkP_bare,progT_bare]
theorem typesT_alike {p q:Pr} (h:p.bare=q.bare):typesT p=typesT q:=by rw [← typesT_bare p,h,typesT_bare]
/-! ### How much there is -/
end Go.Proofs.YtdhieihcmnpneaaGreatDoor
