/- What functions do stays as it was without threads, and with a function more, at every program and every function. The listed variables of the library are tied to the text of the program (the pruned copy that the translation holds); no other condition. -/
import Derived.Test.YtdhieihcmnpneaaGreatDoorRows
import Derived.Test.YtdhieihcmnpneaaGreatDoorCards
import Derived.Test.YtdhieihcmnpneaaGreatDoorTie
import Derived.Test.YtdhieihcmnpneaaGreatDoorGTw
import Derived.Stop.LaidErr
import Derived.Lib.LaidTab
import Derived.Test.YtdhieihcmnpneaaGreatDoorTypGrow
import Derived.Test.YtdhieihcmnpneaaGreatDoorEffMoreL
import Derived.LaidMore
import Derived.Stop.Joined
import Derived.SevenTiedAt
namespace Go.Proofs.YtdhieihcmnpneaaGreatDoor
set_option maxRecDepth 100000
open Go.ChangeShapes Go.WideShapes Go.ChangeAt Go.WideMaps Go.WideElems Go.RowKit
open Go.Joins
theorem own:ownKnob Tryz.prog.godebug=none:=by kernel_rfl
theorem gTab:Tryz.prog.globalNamed "internal/strconv.uint64pow10" = some 0:=by kernel_rfl
theorem tTab:(Tryz.prog.globals[0]?).map (·.type)=some 194:=by kernel_rfl
theorem cellsU:Tryz.prog.cellsOf 186=1:=by kernel_rfl
theorem cellsA:Tryz.prog.cellsOf 194=20:=by kernel_rfl
theorem door_met (os:Os) (args:Array Value):laidMetH Tryz.prog Rows.effectMoreRow.laid ((World.doorLaid Tryz.prog 400 os).forCall (fun _ _=>0) ⟨#[],args,[]⟩).memory:=
  laidMetH_of_parts3 (fuel:=8) (laidMet_of_run' 8 (by kernel_rfl) (by kernel_rfl)) (by kernel_rfl) (by kernel_rfl)
theorem tabData_same:(Rows.laid_internal_strconv_uint64pow10:DataW Unit)=Lib.tabData .u64 Lib.pow10Tab:=by rfl
theorem tab_of_laid {W:World} (h:laidMetH Tryz.prog Rows.effectMoreRow.laid W):Tab W:=by
  rw [MakeChecks.laidMetH_plain _ _ _ (by kernel_rfl)] at h
  have h3:=laidMet.tail (laidMet.tail h)
  rw [tabData_same] at h3
  exact⟨Lib.tabIs_of_head gTab tTab Tryz.underlying194 Tryz.underlying186 cellsU cellsA h3⟩
theorem open_cap {H:Type} {enc:TypeId × Value→H} {w:World} (n:Nat) (P:Pr) (y:DataW H × List MemPlace) (h:DataW.trod enc Tryz.prog w 0 (fun _=>true) true n 27 P.cells=some y):CapF P:=by
  obtain⟨xs,n1,hn1,hy,hl,hlen,hf⟩:=DataW.trod_struct Tryz.underlying27 h
  obtain⟨y0,y1,y2,y3,rfl⟩:=g4 hlen
  have k2:DataW.trod enc Tryz.prog w 0 (fun _=>true) true n1 24 [P.e.fv] = some y2:=by simpa [sLR,sLF,sLN,Pr.cells] using hf 2 _ rfl
  rcases DataW.trod_slice Tryz.underlying24 k2 with ⟨e,-⟩|⟨a,len,cap,els,rest,m,-,e,-,-,hlc,hcm,-⟩
  · exact⟨none,0,0,List.singleton_inj.1 e,Nat.le_refl _,by omega⟩
  · exact⟨some a,len,cap,List.singleton_inj.1 e,hlc,by unfold maxLen at hcm;omega⟩
theorem effectMore_lifted (os:Os) (started:os.Started) (H:Type) (enc:TypeId × Value→H) :
    ReturnsInHanded {} Tryz.checked os 3 .any (fun w args=>(Rows.effectMoreSpec.pre enc Tryz.prog Tryz.f3 [] false w args∧laidMetH Tryz.prog Rows.effectMoreRow.laid w)∧sizedMet enc Tryz.prog Tryz.f3 (OpenSpec.ofChange Rows.effectMoreSpec) false w args)
      (Rows.effectMoreSpec.post enc Tryz.prog Tryz.f3 false true false false):=by
  refine returnsInHanded_of_change_and (C:=Tryz.checked) (X:=fun w _=>laidMetH Tryz.prog Rows.effectMoreRow.laid w) (fun _ _ _ hh h=>h.of_heap hh) own started (by kernel_rfl) Tryz.func3
    (ChangeSpec.witness_shaped (enc:=enc) (C:=Tryz.checked) (os:=os) (X:=fun w _=>laidMetH Tryz.prog Rows.effectMoreRow.laid w) false (World.doorLaid Tryz.prog 400 os) #[.agg #[.slice none 0 0,.slice none 0 0,.slice none 0 0,.slice none 0 0],.agg #[.string ⟨#[]⟩,.slice none 0 0,.int .u8 0,.string ⟨#[]⟩,.int .i64 0,.slice none 0 0]] 8 rfl (World.shaped_of_RefB (by kernel_rfl) (by kernel_rfl)) (by kernel_rfl) (by kernel_rfl) (by kernel_rfl) (door_met os _)) ?_
  intro W base args ds gs before hval0 hW _ hz0 hL _
  have hG:=tab_of_laid hL
  have hval:∀ (j:Nat) t v,Tryz.f3.params[j]? = some t→args[j]? = some v→Value.okWide Tryz.prog W .any base t v:=hval0
  have hW':=hW
  obtain⟨p,q,hA0,hV,rfl,_,_⟩:=hW
  have hA:DataW.TrodAll enc Tryz.prog W 0 (fun _=>true) true Tryz.f3.params.toList args.toList ds p:=hA0
  rw [Tryz.params3] at hA hval
  obtain⟨v0,v1,d0,d1,p0,p1,rfl,rfl,rfl,h0,h1⟩:=trodAll_two hA
  obtain⟨rfl,rfl⟩:=trodVars_none hV
  have hlt0:∀ x ∈ p0,x.block < W.heap.size:=by
    obtain⟨fuel,hf⟩:=h0
    exact DataW.trod_lt _ _ _ _ hf
  have hkeep0:∀ W',Below W.heap.size W W'→DataW.Trod enc Tryz.prog W' 0 (fun b=>decide (b < W.heap.size)) true 27 v0 d0 p0:=
    fun W' hb=>Below.trod (by kernel_rfl) (by kernel_rfl) (of_decide_eq_true (by kernel_rfl)) h0 hb hlt0
  have hlt1:∀ x ∈ p1,x.block < W.heap.size:=by
    obtain⟨fuel,hf⟩:=h1
    exact DataW.trod_lt _ _ _ _ hf
  have hkeep1:∀ W',Below W.heap.size W W'→DataW.Trod enc Tryz.prog W' 0 (fun b=>decide (b < W.heap.size)) true 33 v1 d1 p1:=
    fun W' hb=>Below.trod (by kernel_rfl) (by kernel_rfl) (of_decide_eq_true (by kernel_rfl)) h1 hb hlt1
  have hw0:Wt 27 d0:=fun n hn=>by have:=List.all_eq_true.1 hz0 n (DataW.weights_mem_each (j:=0) (t:=27) rfl rfl n hn);simpa using this
  have hw1:Wt 33 d1:=fun n hn=>by have:=List.all_eq_true.1 hz0 n (DataW.weights_mem_each (j:=1) (t:=33) rfl rfl n hn);simpa using this
  obtain⟨cs0,rfl,-⟩:=okWide_struct Tryz.underlying27 (hval 0 27 v0 rfl rfl)
  obtain⟨cs1,rfl,-⟩:=okWide_struct Tryz.underlying33 (hval 1 33 v1 rfl rfl)
  obtain⟨P,rfl,hIP,hcap⟩:∃ P:Pr,cs0=#[P.e.rv,P.e.sv,P.e.fv,P.tv] ∧ PIn W W.heap.size P∧CapF P:=by
    obtain⟨fuel,hf⟩:=h0
    obtain⟨P,hc,hi⟩:=open_prog fuel _ _ hf hw0
    have hc2:cs0.toList=P.cells:=by simpa [Value.cells] using hc
    refine⟨P, ?_,hi,open_cap fuel P (d0,p0) (by rw [← hc];exact hf)⟩
    apply Array.toList_inj.1
    rw [hc2]
    rfl
  obtain⟨F,rfl,hIF⟩:∃ F:Fn,cs1=#[.string F.name,F.pv,.int .u8 F.res.k,.string F.res.n,.int .i64 F.res.z,F.bv] ∧ NIn W W.heap.size F:=by
    obtain⟨fuel,hf⟩:=h1
    obtain⟨F,hc,hi⟩:=open_fn fuel _ _ hf hw1
    have hc2:cs1.toList=F.cells:=by simpa [Value.cells] using hc
    refine⟨F, ?_,hi⟩
    apply Array.toList_inj.1
    rw [hc2]
    rfl
  clear hA0 hval0 hL hz0
  simp only [List.append_nil] at hW'
  refine (more_law P F W hIP hIF hcap hG).mono fun e W' ⟨he,hnx⟩=>?_
  subst he
  refine⟨_,rfl,_,_,_,[],_,[],hW', ?_,trodAll_mk2 (hkeep0 W' hnx) (hkeep1 W' hnx),rfl,hnx.frame _,fun h=>by cases h⟩
  exact trodAll_mk1 (shut_bool Tryz.underlying4 _)
theorem effectMore_row:Rows.EffectMoreSaid:=
  OpenClaim.holds_of_wide 3 Tryz.f3 rfl rfl rfl rfl rfl rfl rfl ⟨rfl,rfl,rfl,rfl,rfl⟩ rfl rfl rfl rfl rfl (by kernel_rfl) Tryz.func3 (by kernel_rfl)
    (of_decide_eq_true (by kernel_rfl)) (by unfold Func.isWrapper;first|(rw [if_pos (by decide +kernel)];kernel_rfl)|(rw [if_neg (by decide +kernel)];exact⟨rfl,rfl⟩))
    (fun os started H enc _=>effectMore_lifted os started H enc)
theorem effectMore_holds:Rows.EffectMoreCardSaid:=
  Claim7.holds_tied_plain_at .later [] [.data,.data,.data] true Rows.effectMoreCard.stood.harness true
    effectMore_row (fun _ h=>by cases h) (by kernel_rfl) (fun _ h=>by cases h) effectMore_row_tie rfl ⟨rfl,rfl⟩ (by kernel_rfl) rfl
    (fun f fn hf hfn=>by
      obtain rfl:f=3:=Option.some.inj ((show Tryz.prog.funcNamed Rows.effectMoreRow.func=some 3 by kernel_rfl).symm.trans hf) |>.symm
      obtain rfl:fn=Tryz.f3:=(Option.some.inj (Tryz.func3.symm.trans hfn)).symm
      exact⟨by kernel_rfl,fun j t ht=>by
        rw [Tryz.params3] at ht
        have hm:t ∈ [27,33]:=by simpa using Array.mem_of_getElem? ht
        have hall:([27,33].all fun u=>!Tryz.prog.wantsStandIn u)=true:=by kernel_rfl
        exact (show Tryz.prog.wantsStandIn t=false by simpa using List.all_eq_true.1 hall t hm)⟩)
    (by kernel_rfl)
end Go.Proofs.YtdhieihcmnpneaaGreatDoor
