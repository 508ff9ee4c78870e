/- What functions do hangs on the trees alone, and not on threads, nor on a function that stands behind them. Nothing here speaks of the program. -/
import Derived.Test.YtdhieihcmnpneaaGreatDoorEffOwn
import Derived.Test.YtdhieihcmnpneaaGreatDoorGPlain
namespace Go.Proofs.YtdhieihcmnpneaaGreatDoor
open Go Go.Lib
/-! ### Trees without what slices they have -/
theorem xflats_bare (l:List X) (ih:∀ a ∈ l,X.flat a.bare=(X.flat a).map X.bare):X.flats (X.bares l)=(X.flats l).map X.bare:=by
  induction l with
  | nil=>rw [xbares_nil,xflats_nil];rfl
  | cons a r ihr=>rw [xbares_cons,xflats_cons,xflats_cons,List.map_append,ih a (by simp),ihr fun b hb=>ih b (by simp [hb])]
theorem xflat_bare:∀ x:X,X.flat (X.bare x)=(X.flat x).map X.bare:=X.ind fun h s l ih=>by
  rw [xbare_mk,xflat_mk,xflat_mk,List.map_cons,xflats_bare l ih,xbare_mk]
def bareQ (q:St × Bool):St × Bool:=(q.1.bare,q.2)
theorem sflats_bare_of (l:List St) (ih:∀ a ∈ l,∀ i,St.flat i a.bare=(St.flat i a).map bareQ):∀ i,St.flats i (St.bares l)=(St.flats i l).map bareQ:=by
  intro i
  induction l with
  | nil=>rw [sbares_nil,sflats_nil];rfl
  | cons a r ihr=>rw [sbares_cons,sflats_cons,sflats_cons,List.map_append,ih a (by simp),ihr fun b hb=>ih b (by simp [hb])]
theorem sflat_bare:∀ s:St,∀ i,St.flat i (St.bare s)=(St.flat i s).map bareQ:=St.ind fun h x y bv ev b e ih1 ih2 i=>by
  rw [sbare_mk,sflat_mk,sflat_mk,List.map_cons,List.map_append,sflats_bare_of b ih1,sflats_bare_of e ih2]
  rw [show bareQ (St.mk h x y bv ev b e,i)=(St.bare (.mk h x y bv ev b e),i) from rfl,sbare_mk]
theorem sflats_bare (i:Bool) (l:List St):St.flats i (St.bares l)=(St.flats i l).map bareQ:=sflats_bare_of l (fun a _=>sflat_bare a) i
theorem sexprs_bare (s:St):s.bare.exprs=s.exprs.map X.bare:=by
  obtain⟨h,x,y,bv,ev,b,e⟩:=s
  rw [sbare_mk]
  show X.flats [x.bare,y.bare] = (X.flats [x,y]).map X.bare
  have:=xflats_bare [x,y] fun a _=>xflat_bare a
  rwa [xbares_cons,xbares_cons,xbares_nil] at this
theorem sbare_h (s:St):s.bare.h=s.h:=by
  obtain⟨h,x,y,bv,ev,b,e⟩:=s
  rw [sbare_mk];rfl
theorem callsX_bare:∀ l:List X,callsX (l.map X.bare)=callsX l
  | []=>rfl
  | a :: r=>by
    have h:=callsX_bare r
    unfold callsX at h ⊢
    rw [List.map_cons,List.filter_cons,List.filter_cons,xbare_hd]
    split
    · rw [List.map_cons,List.map_cons,h,xbare_hd]
    · exact h
theorem callsF_bare (f:Fn):callsF f.bare=callsF f:=by
  unfold callsF
  show (St.flats false (St.bares f.body)).flatMap _=_
  rw [sflats_bare,List.flatMap_map]
  congr 1
  funext q
  show callsX q.1.bare.exprs=_
  rw [sexprs_bare,callsX_bare]
theorem fnN_bare (s:ByteArray):∀ fs:List Fn,fnN (fs.map Fn.bare) s=(fnN fs s).map Fn.bare
  | []=>rfl
  | a :: r=>by
    have h:=fnN_bare s r
    unfold fnN at h ⊢
    rw [List.map_cons,List.find?_cons,List.find?_cons]
    show (match decide (a.name=s) with|true=>_|false=>_)=_
    cases decide (a.name=s) with
    | true=>rfl
    | false=>exact h
theorem callsN_bare (fs:List Fn) (s:ByteArray):callsN (fs.map Fn.bare) s=callsN fs s:=by
  unfold callsN
  rw [fnN_bare]
  cases fnN fs s with
  | none=>rfl
  | some f=>exact callsF_bare f
theorem bodyN_bare (fs:List Fn) (s:ByteArray):bodyN (fs.map Fn.bare) s=St.bares (bodyN fs s):=by
  unfold bodyN
  rw [fnN_bare]
  cases fnN fs s with
  | none=>show [] = St.bares [];rw [sbares_nil]
  | some f=>rfl
/-! ### What is done, what comes back, what may not stand there -/
theorem effXs_bare (sh:List ByteArray) (E:ByteArray→Ef):∀ (l:List X) (a:Ef),effXs sh E a (l.map X.bare)=effXs sh E a l
  | [],_=>rfl
  | x :: r,a=>by
    rw [List.map_cons,effXs,effXs,effXs_bare sh E r]
    unfold effX
    rw [xbare_hd]
theorem effS_bare (sh:List ByteArray) (E:ByteArray→Ef) (s:St):effS sh E s.bare=effS sh E s:=by
  unfold effS
  rw [sexprs_bare,effXs_bare,sbare_h]
theorem effSs_bare (sh:List ByteArray) (E:ByteArray→Ef):∀ (l:List (St × Bool)) (a:Ef),effSs sh E a (l.map bareQ)=effSs sh E a l
  | [],_=>rfl
  | q :: r,a=>by
    rw [List.map_cons,effSs,effSs,effSs_bare sh E r]
    show effSs sh E (a.or ((effS sh E q.1.bare).lessIf q.2)) r=_
    rw [effS_bare]
theorem effN_bare (sh:List ByteArray) (fs:List Fn):∀ (k:Nat) (s:ByteArray),effN sh (fs.map Fn.bare) k s=effN sh fs k s
  | 0,_=>rfl
  | k+1,s=>by
    have h:effN sh (fs.map Fn.bare) k=effN sh fs k:=funext (effN_bare sh fs k)
    rw [effN,effN,bodyN_bare,sflats_bare,effSs_bare,h]
theorem effF_bare (e:En) (s:ByteArray):effF e.bare s=effF e s:=by
  unfold effF
  show effN (fnames e.shared) (e.funcs.map Fn.bare) ((e.funcs.map Fn.bare).length+1) s=_
  rw [effN_bare,List.length_map]
theorem leadsN_bare (fs:List Fn) (to:ByteArray):∀ (k:Nat) (s:ByteArray) (met:List ByteArray),leadsN (fs.map Fn.bare) to k s met=leadsN fs to k s met
  | 0,_,_=>rfl
  | k+1,s,met=>by
    have h:leadsN (fs.map Fn.bare) to k=leadsN fs to k:=funext fun s=>funext fun m=>leadsN_bare fs to k s m
    rw [leadsN,leadsN,callsN_bare,h]
theorem ringN_bare (fs:List Fn):∀ (l:List Fn) (i:Nat),ringN (fs.map Fn.bare) (l.map Fn.bare) i=ringN fs l i
  | [],_=>rfl
  | f :: r,i=>by
    have h:ringAt (fs.map Fn.bare) f.bare.name=ringAt fs f.name:=by
      unfold ringAt
      rw [List.length_map,leadsN_bare];rfl
    rw [List.map_cons,ringN,ringN,h,ringN_bare fs r]
theorem effOne_bare (e:En) (s:St):effOne e.bare s.bare=effOne e s:=by
  unfold effOne
  rw [effS_bare]
  have h:effF e.bare=effF e:=funext (effF_bare e)
  rw [h];rfl
theorem bads_bare (p:Pr):bads p.bare=bads p:=by
  unfold bads
  show (p.e.funcs.map Fn.bare).flatMap (badsF p.e.bare) ++ (p.threads.map Th.bare).flatMap (badsT p.e.bare)=_
  rw [List.flatMap_map,List.flatMap_map]
  congr 1
  · congr 1
    funext f
    unfold badsF
    show (decide (f.res.k ≠ 0) && (effF p.e.bare f.name).l) :: (St.flats false (St.bares f.body)).map (badF p.e.bare f.bare)=_
    rw [effF_bare,sflats_bare,List.map_map]
    congr 2
    funext q
    show (((effOne p.e.bare q.1.bare).o && (q.2 || (effF p.e.bare f.name).t)) || (q.2 && decide (q.1.bare.h.k=7)))=badF p.e f q
    rw [effOne_bare,effF_bare,sbare_h];rfl
  · congr 1
    funext t
    unfold badsT
    show false :: (St.flats false (St.bares t.list)).map (badT p.e.bare)=_
    rw [sflats_bare,List.map_map]
    congr 2
    funext q
    show ((if q.2=true then (effOne p.e.bare q.1.bare).o else (effOne p.e.bare q.1.bare).t) || decide (q.1.bare.h.k=7))=badT p.e q
    rw [effOne_bare,sbare_h];rfl
/-! ### Where nothing is wrong -/
structure EffOk (p:Pr):Prop where
  fits:(typesT p).2=0
  ring:ringN p.e.funcs p.e.funcs 0=none
  bad:firstT (bads p)=none
theorem effOk_of {p:Pr} (h:(effectT p).2=0):EffOk p:=by
  unfold effectT at h
  split at h
  · cases h
  rename_i h0
  cases hr:ringN p.e.funcs p.e.funcs 0 with
  | some i=>rw [hr] at h;cases h
  | none =>
    rw [hr] at h
    simp only at h
    cases hb:firstT (bads p) with
    | some j=>rw [hb] at h;cases h
    | none=>exact⟨Classical.not_not.1 h0,hr,hb⟩
theorem EffOk.eq {p:Pr} (h:EffOk p):effectT p=(0,0):=by
  unfold effectT
  rw [if_neg (by rw [h.fits];decide),h.ring]
  simp only
  rw [h.bad]
theorem EffOk.alike {p q:Pr} (h:EffOk p) (hb:q.bare=p.bare):EffOk q:=by
  have hf:q.e.funcs.map Fn.bare=p.e.funcs.map Fn.bare:=congrArg (fun z=>z.e.funcs) hb
  refine⟨by rw [typesT_alike hb];exact h.fits, ?_, ?_⟩
  · rw [← ringN_bare,hf,ringN_bare];exact h.ring
  · rw [← bads_bare,hb,bads_bare];exact h.bad
theorem effF_alike {p q:Pr} (hb:q.bare=p.bare) (s:ByteArray):effF q.e s=effF p.e s:=by
  rw [← effF_bare q.e,← effF_bare p.e]
  have:q.e.bare=p.e.bare:=congrArg (fun z=>z.e) hb
  rw [this]
theorem firstT_left:∀ {a b:List Bool},firstT (a ++ b)=none→firstT a=none
  | [],_,_=>rfl
  | x :: r,b,h=>by
    rw [List.cons_append,firstT] at h
    rw [firstT]
    split at h
    · cases h
    rename_i hx
    rw [if_neg hx,firstT_left (Option.map_eq_none_iff.1 h)];rfl
theorem EffOk.bareThreads {p:Pr} (h:EffOk p) (v:Value):EffOk ⟨p.e,v,[]⟩:=by
  refine⟨?_,h.ring, ?_⟩
  · obtain⟨m,q,hc,hp⟩:=typesT_ok p h.fits
    unfold chkP at hc
    unfold progT at hp
    cases he:chkE p.e with
    | error k=>rw [he] at hc;cases hc
    | ok c =>
    cases hh:headT p.e with
    | error k=>rw [hh] at hp;cases hp
    | ok z =>
    unfold typesT chkP progT
    simp only [he,hh]
    rw [chkT,thsT]
  · have:=h.bad
    unfold bads at this ⊢
    rw [List.flatMap_nil,List.append_nil]
    exact firstT_left this
def moreE (e:En) (v:Value) (g:Fn):En:=⟨e.rv,e.records,e.sv,e.shared,v,e.funcs ++ [g]⟩
theorem mem_fnN:∀ {fs:List Fn} {s:ByteArray},s ∈ nnames fs→∃ f,fnN fs s=some f
  | [],_,h=>by cases h
  | a :: r,s,h=>by
    unfold fnN
    rw [List.find?_cons]
    by_cases ha:a.name=s
    · rw [decide_eq_true ha];exact⟨a,rfl⟩
    · rw [decide_eq_false ha]
      rcases List.mem_cons.1 h with h|h
      · exact absurd h.symm ha
      · exact mem_fnN h
theorem fnN_more {fs:List Fn} {g:Fn} {s:ByteArray} (h:s ∈ nnames fs):fnN (fs ++ [g]) s=fnN fs s:=by
  obtain⟨f,hf⟩:=mem_fnN h
  rw [hf]
  unfold fnN at hf ⊢
  rw [List.find?_append,hf];rfl
theorem effN_more (sh:List ByteArray) (fs:List Fn) (g:Fn) (hO:Own fs):∀ (k:Nat) (s:ByteArray),s ∈ nnames fs→effN sh (fs ++ [g]) k s=effN sh fs k s
  | 0,_,_=>rfl
  | k+1,s,hs=>by
    have hb:bodyN (fs ++ [g]) s=bodyN fs s:=by unfold bodyN;rw [fnN_more hs]
    rw [effN,effN,hb]
    refine effSs_same _ _ fun q hq c hc=>?_
    exact effN_more sh fs g hO k c (hO s hs c (calls_in hq hc))
theorem effF_more {p:Pr} (h:EffOk p) (v:Value) (g:Fn) {s:ByteArray} (hs:s ∈ nnames p.e.funcs):effF (moreE p.e v g) s=effF p.e s:=by
  have hO:=(fits_of p h.fits).own
  have hN:=noRing_of p.e.funcs hO h.ring
  unfold effF
  show effN (fnames p.e.shared) (p.e.funcs ++ [g]) ((p.e.funcs ++ [g]).length+1) s=_
  rw [effN_more _ _ _ hO _ _ hs]
  have hr:=rank_le p.e.funcs s
  exact effN_stable _ _ hO hN _ s hs (Nat.le_refl _) _ _ (by rw [List.length_append];show _ < p.e.funcs.length+1+1;omega) (by omega)
end Go.Proofs.YtdhieihcmnpneaaGreatDoor
