/- Where names and types fit, calls stay among the functions, and each function is the first one of its name. Nothing here speaks of the program. -/
import Derived.Test.YtdhieihcmnpneaaGreatDoorGEff
import Derived.Test.YtdhieihcmnpneaaGreatDoorGNew
import Derived.Test.YtdhieihcmnpneaaGreatDoorGLess
namespace Go.Proofs.YtdhieihcmnpneaaGreatDoor
open Go Go.Lib
def CallsOk (e:En) (l:List X):Prop:=∀ a ∈ l,a.hd.k=7→a.hd.name ∈ nnames e.funcs
theorem idx_mem {s:ByteArray}:∀ {l:List ByteArray} {i:Nat},idx s l=some i→s ∈ l
  | [],_,h=>by cases h
  | a :: r,i,h=>by
    rw [idx] at h
    split at h
    · rename_i ha;rw [ha];simp
    · obtain⟨j,hj,_⟩:=Option.map_eq_some_iff.1 h
      exact List.mem_cons_of_mem _ (idx_mem hj)
theorem callT_mem {e:En} {s:ByteArray} {ts:List Ty} {t:Ty} (h:callT e s ts = .ok t):s ∈ nnames e.funcs:=by
  unfold callT at h
  cases hi:idx s (nnames e.funcs) with
  | none=>rw [hi] at h;cases h
  | some i=>exact idx_mem hi
theorem ownT_calls {e:En} {loc:List Fd} {h:Hd} {ts:List Ty} {t:Ty} (hk:h.k=7) (ho:ownT e loc h ts = .ok t):h.name ∈ nnames e.funcs:=by
  unfold ownT at ho
  rw [if_neg (by omega),if_neg (by omega),if_neg (by omega),if_neg (by omega),if_neg (by omega),if_pos hk] at ho
  exact callT_mem ho
theorem valT_has {r:Except Int Ty} {t:Ty} (h:valT r = .ok t):∃ u,r = .ok u:=by
  unfold valT at h
  cases r with
  | error k=>cases h
  | ok u=>exact⟨u,rfl⟩
theorem args_calls (e:En) (loc:List Fd) (l:List X) (ih:∀ a ∈ l,∀ t,exprT e loc a = .ok t→CallsOk e a.flat):∀ ts,argsT e loc l = .ok ts→CallsOk e (X.flats l):=by
  induction l with
  | nil=>intro ts _;rw [xflats_nil];intro a ha;cases ha
  | cons x r ihr =>
    intro ts h
    rw [argsT_cons] at h
    cases hv:valT (exprT e loc x) with
    | error k=>rw [hv] at h;cases h
    | ok t =>
      rw [hv] at h
      simp only at h
      cases hr:argsT e loc r with
      | error k=>rw [hr] at h;cases h
      | ok us =>
        obtain⟨u,hu⟩:=valT_has hv
        have h1:=ih x (by simp) u hu
        have h2:=ihr (fun a ha=>ih a (by simp [ha])) us hr
        rw [xflats_cons]
        intro a ha
        rcases List.mem_append.1 ha with ha|ha
        · exact h1 a ha
        · exact h2 a ha
theorem expr_calls (e:En) (loc:List Fd):∀ x,∀ t,exprT e loc x = .ok t→CallsOk e (X.flat x):=by
  refine X.ind fun h s l ih t he=>?_
  rw [exprT_mk] at he
  cases ha:argsT e loc l with
  | error k=>rw [ha] at he;cases he
  | ok ts =>
    rw [ha] at he
    rw [xflat_mk]
    intro a hm hk
    rcases List.mem_cons.1 hm with rfl|hm
    · exact ownT_calls hk he
    · exact args_calls e loc l ih ts ha a hm hk
theorem noX_flat {x:X} (h:noX x=true):x.hd.k=0∧x.args = []:=by
  unfold noX at h
  have:=of_decide_eq_true h
  exact⟨this.1,List.length_eq_zero_iff.1 this.2.2.2.2⟩
theorem noX_calls (e:En) {x:X} (h:noX x=true):CallsOk e (X.flat x):=by
  obtain⟨h1,h2⟩:=noX_flat h
  obtain⟨hd,s,l⟩:=x
  simp only [X.args] at h2
  subst h2
  rw [xflat_mk,xflats_nil]
  intro a ha hk
  have:a = .mk hd s []:=by simpa using ha
  subst this
  have h1':hd.k=0:=h1
  have hk':hd.k=7:=hk
  omega
theorem none_is {hh:Sh} {x:X} {c m:Nat} (h:(if goesX hh x=true then chk 1 c x else Except.ok c) = .ok m) (h0:x.hd.k=0):noX x=true:=by
  cases hn:noX x with
  | true=>rfl
  | false =>
    have hg:goesX hh x=true:=by unfold goesX;rw [hn];rfl
    rw [if_pos hg] at h
    have:=(chk_ok x 1 c m h).2.1
    cases this with
    | mk hd s l hf _ =>
      have hk:hd.k=0:=h0
      unfold form wants at hf
      rw [hk] at hf
      simp at hf
theorem plain_calls {e:En} {res:Ty} {loc loc':List Fd} {h:Sh} {x y:X} {bl el c c1:Nat} (hf:sform h x y bl el=0) (hx:(if goesX h x=true then chk 1 c x else Except.ok c) = .ok c1)
    (hp:plainT e res loc h x y = .ok loc'):CallsOk e (X.flats [x,y]):=by
  have two:CallsOk e x.flat→CallsOk e y.flat→CallsOk e (X.flats [x,y]):=by
    intro h1 h2
    rw [xflats_cons,xflats_cons,xflats_nil,List.append_nil]
    intro a ha
    rcases List.mem_append.1 ha with ha|ha
    · exact h1 a ha
    · exact h2 a ha
  have val:∀ z t,valueT e loc z = .ok t→CallsOk e z.flat:=fun z t hz=>by
    obtain⟨u,hu⟩:=valT_has hz
    exact expr_calls e loc z u hu
  cases hw:swants h.k with
  | none=>unfold sform at hf;rw [hw] at hf;cases hf
  | some w =>
    have hk:1≤h.k∧h.k≤8:=by
      unfold swants at hw
      split at hw
      · rename_i h1
        have:=(List.getElem?_eq_some_iff.1 hw).1
        simp [wss] at this
        omega
      · cases hw
    have hy:w.y=false→CallsOk e y.flat:=by
      intro hwy
      unfold sform at hf
      rw [hw] at hf
      simp only at hf
      split at hf
      · cases hf
      split at hf
      · cases hf
      rename_i h2
      have:noX y=true:=by
        cases hn:noX y with
        | true=>rfl
        | false=>exact absurd ⟨hwy,hn⟩ h2
      exact noX_calls e this
    obtain⟨hk1,hk8⟩:=hk
    have hcase:h.k=1 ∨ h.k=2 ∨ h.k=3 ∨ h.k=4 ∨ h.k=5 ∨ h.k=6 ∨ h.k=7 ∨ h.k=8:=by omega
    unfold plainT at hp
    rcases hcase with hk|hk|hk|hk|hk|hk|hk|hk
    · have hwy:w.y=false:=by rw [hk] at hw;cases hw;rfl
      refine two ?_ (hy hwy)
      rw [if_pos hk] at hp
      split at hp
      · cases hp
      split at hp
      · rename_i h0;exact noX_calls e (none_is hx h0)
      · cases hv:valueT e loc x with
        | error k=>rw [hv] at hp;cases hp
        | ok t=>exact val x t hv
    · rw [if_neg (by omega),if_pos hk] at hp
      cases hv:valueT e loc x with
      | error k=>rw [hv] at hp;cases hp
      | ok t =>
        rw [hv] at hp
        simp only at hp
        cases hv2:valueT e loc y with
        | error k=>rw [hv2] at hp;cases hp
        | ok t2=>exact two (val x t hv) (val y t2 hv2)
    · have hwy:w.y=false:=by rw [hk] at hw;cases hw;rfl
      refine two ?_ (hy hwy)
      rw [if_neg (by omega),if_neg (by omega),if_pos (by omega)] at hp
      cases hv:valueT e loc x with
      | error k=>rw [hv] at hp;cases hp
      | ok t=>exact val x t hv
    · have hwy:w.y=false:=by rw [hk] at hw;cases hw;rfl
      refine two ?_ (hy hwy)
      rw [if_neg (by omega),if_neg (by omega),if_pos (by omega)] at hp
      cases hv:valueT e loc x with
      | error k=>rw [hv] at hp;cases hp
      | ok t=>exact val x t hv
    · have hwy:w.y=false:=by rw [hk] at hw;cases hw;rfl
      have hwx:w.x=0:=by rw [hk] at hw;cases hw;rfl
      refine two ?_ (hy hwy)
      unfold sform at hf
      rw [hw] at hf
      simp only at hf
      split at hf
      · cases hf
      rename_i h1
      have:noX x=true:=by
        cases hn:noX x with
        | true=>rfl
        | false=>exact absurd (show rightX x w.x=false by rw [hwx];unfold rightX;rw [if_pos rfl,hn]) h1
      exact noX_calls e this
    · have hwy:w.y=false:=by rw [hk] at hw;cases hw;rfl
      refine two ?_ (hy hwy)
      rw [if_neg (by omega),if_neg (by omega),if_pos (by omega)] at hp
      cases hv:valueT e loc x with
      | error k=>rw [hv] at hp;cases hp
      | ok t=>exact val x t hv
    · have hwy:w.y=false:=by rw [hk] at hw;cases hw;rfl
      refine two ?_ (hy hwy)
      rw [if_neg (by omega),if_neg (by omega),if_neg (by omega),if_pos hk] at hp
      split at hp
      · rename_i h0;exact noX_calls e (none_is hx h0)
      · cases hv:valueT e loc x with
        | error k=>rw [hv] at hp;cases hp
        | ok t=>exact val x t hv
    · have hwy:w.y=false:=by rw [hk] at hw;cases hw;rfl
      refine two ?_ (hy hwy)
      rw [if_neg (by omega),if_neg (by omega),if_neg (by omega),if_neg (by omega),if_pos hk] at hp
      cases hv:exprT e loc x with
      | error k=>rw [hv] at hp;cases hp
      | ok t=>exact expr_calls e loc x t hv
def StsOk (e:En) (l:List (St × Bool)):Prop:=∀ q ∈ l,CallsOk e q.1.exprs
theorem sts_calls_of (e:En) (res:Ty) (l:List St) (ih:∀ a ∈ l,∀ d c m,chkS d c a = .ok m→∀ loc p q,stT e res loc p a = .ok q→∀ i,StsOk e (St.flat i a)) :
    ∀ d c m,chkSs d c l = .ok m→∀ loc p q,stsT e res loc p l = .ok q→∀ i,StsOk e (St.flats i l):=by
  induction l with
  | nil=>intro d c m _ loc p q _ i;rw [sflats_nil];intro a ha;cases ha
  | cons a r ihr =>
    intro d c m hc loc p q hs i
    rw [chkSs_cons] at hc
    cases h1:chkS d c a with
    | error k=>rw [h1] at hc;cases hc
    | ok c' =>
      rw [h1] at hc
      rw [stsT_cons] at hs
      cases h2:stT e res loc (p+1) a with
      | error k=>rw [h2] at hs;cases hs
      | ok u =>
        rw [h2] at hs
        have g1:=ih a (by simp) d c c' h1 loc (p+1) u h2 i
        have g2:=ihr (fun b hb=>ih b (by simp [hb])) d c' m hc u.2 u.1 q hs i
        rw [sflats_cons]
        intro z hz
        rcases List.mem_append.1 hz with hz|hz
        · exact g1 z hz
        · exact g2 z hz
theorem st_calls (e:En) (res:Ty):∀ s,∀ d c m,chkS d c s = .ok m→∀ loc p q,stT e res loc p s = .ok q→∀ i,StsOk e (St.flat i s):=by
  refine St.ind fun h x y bv ev b l ih1 ih2 d c m hc loc p q hs i=>?_
  rw [chkS_mk] at hc
  split at hc
  · cases hc
  split at hc
  case isFalse=>cases hc
  rename_i hf
  cases hx:(if goesX h x=true then chk 1 (c+1) x else Except.ok (c+1)) with
  | error k=>rw [hx] at hc;cases hc
  | ok c1 =>
  rw [hx] at hc
  simp only at hc
  cases hy:(if goesY h=true then chk 1 c1 y else Except.ok c1) with
  | error k=>rw [hy] at hc;cases hc
  | ok c2 =>
  rw [hy] at hc
  simp only at hc
  cases hb:chkSs (d+1) c2 b with
  | error k=>rw [hb] at hc;cases hc
  | ok c3 =>
  rw [hb] at hc
  simp only at hc
  rw [stT_mk] at hs
  cases hp:plainT e res loc h x y with
  | error k=>rw [hp] at hs;cases hs
  | ok loc' =>
  rw [hp] at hs
  simp only at hs
  have hown:CallsOk e (X.flats [x,y]):=plain_calls hf hx hp
  rw [sflat_mk]
  intro z hz
  rcases List.mem_cons.1 hz with rfl|hz
  · exact hown
  · by_cases h1:h.k=1
    · obtain⟨rfl,rfl⟩:=novar_of hf h1
      rw [sflats_nil,sflats_nil] at hz
      cases hz
    · rw [if_neg h1] at hs
      cases hs1:stsT e res loc p b with
      | error k=>rw [hs1] at hs;cases hs
      | ok p1 =>
        rw [hs1] at hs
        simp only at hs
        cases hs2:stsT e res loc p1 l with
        | error k=>rw [hs2] at hs;cases hs
        | ok p2 =>
          rcases List.mem_append.1 hz with hz|hz
          · exact sts_calls_of e res b ih1 (d+1) c2 c3 hb loc p p1 hs1 _ z hz
          · exact sts_calls_of e res l ih2 (d+1) c3 m hc loc p1 p2 hs2 _ z hz
theorem sts_calls (e:En) (res:Ty) (l:List St) (d c m:Nat) (hc:chkSs d c l = .ok m) (loc:List Fd) (p q:Int) (hs:stsT e res loc p l = .ok q) (i:Bool):StsOk e (St.flats i l):=
  sts_calls_of e res l (fun a _=>st_calls e res a) d c m hc loc p q hs i
theorem fns_calls (e:En):∀ (l:List Fn) (j c m i:Nat) (p q:Int),chkFs j c l = .ok m→fnsT e i p l = .ok q→(∀ f ∈ l,StsOk e (St.flats false f.body))∧∀ (k:Nat) (f:Fn),l[k]? = some f→idx f.name (nnames e.funcs)=some (i+k)
  | [],_,_,_,_,_,_,_,_=>⟨(fun f hf=>by cases hf),fun k f h=>by cases h⟩
  | f :: r,j,c,m,i,p,q,hc,ht=>by
    rw [chkFs] at hc
    split at hc
    · cases hc
    cases h1:chkFn c f with
    | error k=>rw [h1] at hc;cases hc
    | ok c' =>
      rw [h1] at hc
      rw [fnsT] at ht
      cases h2:fnT e i (p+1) f with
      | error k=>rw [h2] at ht;cases ht
      | ok u =>
        rw [h2] at ht
        obtain⟨g1,g2⟩:=fns_calls e r (j+1) c' m (i+1) u q hc ht
        unfold fnT at h2
        split at h2
        · cases h2
        rename_i hn
        have hidx:idx f.name (nnames e.funcs)=some i:=by
          by_cases h:idx f.name (nnames e.funcs)=some i
          · exact h
          · exact absurd (.inr (.inr h)) hn
        cases hpar:parsT e [] f.params with
        | error k=>rw [hpar] at h2;cases h2
        | ok loc =>
          rw [hpar] at h2
          simp only at h2
          split at h2
          case isFalse=>cases h2
          unfold chkFn at h1
          split at h1
          · cases h1
          split at h1
          · cases h1
          split at h1
          · cases h1
          have g0:=sts_calls e f.res f.body 1 c c' h1 loc (p+1) u h2 false
          refine⟨fun a ha=>?_,fun k a hk=>?_⟩
          · rcases List.mem_cons.1 ha with rfl|ha
            · exact g0
            · exact g1 a ha
          · cases k with
            | zero =>
              obtain rfl:f=a:=by simpa using hk
              exact hidx
            | succ k =>
              have:=g2 k a (by simpa using hk)
              rw [this];congr 1;omega
theorem find_idx:∀ (fs:List Fn) (k:Nat) (f:Fn),fs[k]? = some f→idx f.name (nnames fs)=some k→fnN fs f.name=some f
  | [],k,f,h,_=>by cases h
  | a :: r,k,f,h,hi=>by
    unfold fnN
    rw [List.find?_cons]
    have hn:nnames (a :: r)=a.name :: nnames r:=rfl
    rw [hn,idx] at hi
    by_cases ha:a.name=f.name
    · rw [if_pos ha] at hi
      cases hi
      obtain rfl:a=f:=by simpa using h
      simp
    · rw [if_neg ha] at hi
      obtain⟨j,hj,rfl⟩:=Option.map_eq_some_iff.1 hi
      simp only [ha,decide_false]
      exact find_idx r j f (by simpa using h) hj
theorem ths_calls (e:En):∀ (l:List Th) (j c m:Nat) (p q:Int),chkT j c l = .ok m→thsT e p l = .ok q→∀ t ∈ l,StsOk e (St.flats false t.list)
  | [],_,_,_,_,_,_,_,t,ht=>by cases ht
  | a :: r,j,c,m,p,q,hc,hp,t,ht=>by
    rw [chkT] at hc
    split at hc
    · cases hc
    cases h1:chkSs 1 c a.list with
    | error k=>rw [h1] at hc;cases hc
    | ok c' =>
      rw [h1] at hc
      rw [thsT] at hp
      cases h2:stsT e noT [] (p+1) a.list with
      | error k=>rw [h2] at hp;cases hp
      | ok u =>
        rw [h2] at hp
        rcases List.mem_cons.1 ht with rfl|ht
        · exact sts_calls e noT t.list 1 c c' h1 [] (p+1) u h2 false
        · exact ths_calls e r (j+1) c' m u q hc hp t ht
theorem flat_size:∀ x:X,(X.flat x).length=X.size x:=X.ind fun h s l ih=>by
  have hl:(X.flats l).length=X.sizes l:=by
    clear s h
    induction l with
    | nil=>rw [xflats_nil,X.sizes];rfl
    | cons a r ihr=>rw [xflats_cons,List.length_append,ih a (by simp),ihr (fun b hb=>ih b (by simp [hb])),sizes_cons]
  rw [xflat_mk,List.length_cons,hl,X.size];omega
theorem noX_size {x:X} (h:noX x=true):X.size x=1:=by
  have h2:=(noX_flat h).2
  obtain⟨hd,s,l⟩:=x
  have h3:l = []:=h2
  subst h3
  rw [X.size,X.sizes]
def callsS (l:List (St × Bool)):List ByteArray:=l.flatMap fun q=>callsX q.1.exprs
theorem callsS_append (a b:List (St × Bool)):callsS (a ++ b)=callsS a ++ callsS b:=by unfold callsS;rw [List.flatMap_append]
theorem few_of (l:List St) (ih:∀ a ∈ l,∀ d c m,chkS d c a = .ok m→∀ i,(callsS (St.flat i a)).length≤2048 * St.count a):∀ d c m,chkSs d c l = .ok m→∀ i,(callsS (St.flats i l)).length≤2048 * St.counts l:=by
  induction l with
  | nil=>intro d c m _ i;rw [sflats_nil];exact Nat.zero_le _
  | cons a r ihr =>
    intro d c m h i
    rw [chkSs_cons] at h
    cases ha:chkS d c a with
    | error k=>rw [ha] at h;cases h
    | ok c' =>
      rw [ha] at h
      have h1:=ih a (by simp) d c c' ha i
      have h2:=ihr (fun b hb=>ih b (by simp [hb])) d c' m h i
      rw [sflats_cons,callsS_append,List.length_append,counts_cons]
      omega
theorem few_st:∀ s,∀ d c m,chkS d c s = .ok m→∀ i,(callsS (St.flat i s)).length≤2048 * St.count s:=by
  refine St.ind fun h x y bv ev b l ih1 ih2 d c m e i=>?_
  rw [chkS_mk] at e
  split at e
  · cases e
  split at e
  case isFalse=>cases e
  rename_i hf
  cases hx:(if goesX h x=true then chk 1 (c+1) x else Except.ok (c+1)) with
  | error k=>rw [hx] at e;cases e
  | ok c1 =>
  rw [hx] at e
  simp only at e
  cases hy:(if goesY h=true then chk 1 c1 y else Except.ok c1) with
  | error k=>rw [hy] at e;cases e
  | ok c2 =>
  rw [hy] at e
  simp only at e
  have kx:X.size x≤1024:=by
    by_cases g:goesX h x=true
    · rw [if_pos g] at hx
      obtain⟨h1,_,h3⟩:=chk_ok x 1 (c+1) c1 hx
      omega
    · have:noX x=true:=by
        cases hn:noX x with
        | true=>rfl
        | false=>exact absurd (by unfold goesX;rw [hn];rfl) g
      rw [noX_size this];omega
  have ky:X.size y≤1024:=by
    by_cases g:goesY h=true
    · rw [if_pos g] at hy
      obtain⟨h1,_,h3⟩:=chk_ok y 1 c1 c2 hy
      omega
    · have:noX y=true:=by
        cases hn:noX y with
        | true=>rfl
        | false =>
          unfold sform at hf
          unfold goesY at g
          cases hw:swants h.k with
          | none=>rw [hw] at hf;cases hf
          | some w =>
            rw [hw] at hf g
            simp only at hf g
            split at hf
            · cases hf
            rw [if_pos ⟨by simpa using g,hn⟩] at hf
            cases hf
      rw [noX_size this];omega
  cases hb:chkSs (d+1) c2 b with
  | error k=>rw [hb] at e;cases e
  | ok c3 =>
  rw [hb] at e
  simp only at e
  have g1:=few_of b ih1 (d+1) c2 c3 hb (i || decide (h.k=5))
  have g2:=few_of l ih2 (d+1) c3 m e i
  have g0:(callsX (St.exprs (.mk h x y bv ev b l))).length≤2048:=by
    unfold callsX
    rw [List.length_map]
    refine Nat.le_trans (List.length_filter_le _ _) ?_
    unfold St.exprs
    rw [xflats_cons,xflats_cons,xflats_nil,List.append_nil,List.length_append,flat_size,flat_size]
    show X.size x+X.size y≤2048
    omega
  rw [sflat_mk,count_mk]
  have hc:callsS ((St.mk h x y bv ev b l,i) :: (St.flats (i || decide (h.k=5)) b ++ St.flats i l))=callsX (St.exprs (.mk h x y bv ev b l)) ++ (callsS (St.flats (i || decide (h.k=5)) b) ++ callsS (St.flats i l)):=by rw [← callsS_append];rfl
  rw [hc,List.length_append,List.length_append]
  omega
theorem few_fns:∀ (l:List Fn) (j c m:Nat),c≤1024→chkFs j c l = .ok m→∀ f ∈ l,(callsF f).length≤10000000
  | [],_,_,_,_,_,f,hf=>by cases hf
  | a :: r,j,c,m,hc0,hc,f,hf=>by
    rw [chkFs] at hc
    split at hc
    · cases hc
    cases h1:chkFn c a with
    | error k=>rw [h1] at hc;cases hc
    | ok c' =>
      rw [h1] at hc
      unfold chkFn at h1
      split at h1
      · cases h1
      split at h1
      · cases h1
      split at h1
      · cases h1
      obtain⟨_,g2,g3⟩:=fchkSs a.body 1 c c' hc0 h1
      rcases List.mem_cons.1 hf with rfl|hf
      · have:=few_of f.body (fun a _=>few_st a) 1 c c' h1 false
        show (callsS (St.flats false f.body)).length≤10000000
        omega
      · exact few_fns r (j+1) c' m g3 hc f hf
structure Fits (P:Pr):Prop where
  own:Own P.e.funcs
  first:∀ f ∈ P.e.funcs,fnN P.e.funcs f.name=some f
  calls:∀ f ∈ P.e.funcs,StsOk P.e (St.flats false f.body)
  threads:∀ t ∈ P.threads,StsOk P.e (St.flats false t.list)
  at_:∀ k f,P.e.funcs[k]? = some f→idx f.name (nnames P.e.funcs)=some k
  few:∀ f ∈ P.e.funcs,(callsF f).length≤10000000
theorem fnN_name {fs:List Fn} {s:ByteArray} {f:Fn} (h:fnN fs s=some f):f.name=s∧f ∈ fs:=by
  unfold fnN at h
  exact⟨by have h2:=List.find?_some h;simpa using h2,List.mem_of_find?_eq_some h⟩
theorem fits_of (P:Pr) (h:(typesT P).2=0):Fits P:=by
  obtain⟨m,q,hc,hp⟩:=typesT_ok P h
  unfold chkP at hc
  cases he:chkE P.e with
  | error k=>rw [he] at hc;cases hc
  | ok c =>
  have he0:=he
  unfold chkE at he
  split at he
  · cases he
  split at he
  · cases he
  unfold progT at hp
  rw [he0] at hc
  cases hh:headT P.e with
  | error k=>rw [hh] at hp;cases hp
  | ok u =>
  rw [hh] at hp
  have hth:=ths_calls P.e P.threads 0 c m u q hc hp
  unfold headT at hh
  cases h1:recsT P.e 0 P.e.records with
  | error k=>rw [h1] at hh;cases hh
  | ok u1 =>
  rw [h1] at hh
  simp only at hh
  cases h2:sharesT P.e 0 P.e.shared with
  | error k=>rw [h2] at hh;cases hh
  | ok u2 =>
  rw [h2] at hh
  simp only at hh
  obtain⟨g1,g2⟩:=fns_calls P.e P.e.funcs 0 0 c 0 _ u he hh
  have hfirst:∀ f ∈ P.e.funcs,fnN P.e.funcs f.name=some f:=by
    intro f hf
    obtain⟨k,hk⟩:=List.getElem?_of_mem hf
    have:=g2 k f hk
    rw [Nat.zero_add] at this
    exact find_idx P.e.funcs k f hk this
  refine⟨fun n hn c hcn=>?_,hfirst,g1,hth,fun k f hk=>by have:=g2 k f hk;rwa [Nat.zero_add] at this,few_fns P.e.funcs 0 0 c (by omega) he⟩
  unfold callsN at hcn
  split at hcn
  · cases hcn
  · rename_i f hf
    obtain⟨_,hfm⟩:=fnN_name hf
    unfold callsF at hcn
    obtain⟨z,hz,hcz⟩:=List.mem_flatMap.1 hcn
    unfold callsX at hcz
    obtain⟨a,ha,rfl⟩:=List.mem_map.1 hcz
    obtain⟨ha1,ha2⟩:=List.mem_filter.1 ha
    exact g1 f hfm z hz a ha1 (of_decide_eq_true ha2)
end Go.Proofs.YtdhieihcmnpneaaGreatDoor
