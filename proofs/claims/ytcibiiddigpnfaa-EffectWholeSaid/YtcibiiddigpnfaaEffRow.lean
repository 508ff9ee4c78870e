/- What stands within blocks, and the effects that functions carry: at every input. No condition on anything. -/
import Derived.Test.YtcibiiddigpnfaaRows
import Derived.Test.YtcibiiddigpnfaaEffAlive
import Derived.Test.YtcibiiddigpnfaaEffWhole
import Derived.Test.YtcibiiddigpnfaaTypBeyond
import Derived.Test.YtcibiiddigpnfaaTypGrow
import Derived.LaidMore
import Derived.JoinedOf
import Derived.JoinedAt
namespace Go.Proofs.Ytcibiiddigpnfaa
open Lib (hid)
set_option maxRecDepth 100000
set_option maxHeartbeats 16000000
open Go.RowKit
attribute [local go_sem ↓] bls_eq bld_eq
theorem boxE4 {w:World} (a b c d:Value):(w.alloc (.cells #[a,b,c,d] 27)).heap[w.heap.size]? = some (.cells #[a,b,c,d] 27 (0,0)):=(MapKept.heap_alloc _ _).1
structure KeepE (w:World) (c:Array Value) (W:World):Prop where
  below:Below w.heap.size w W
  own:W.heap[w.heap.size]? = some (.cells c 27 (0,0))
theorem KeepE.lt {w W:World} {c:Array Value} (h:KeepE w c W):w.heap.size < W.heap.size:=(Array.getElem?_eq_some_iff.1 h.own).1
theorem KeepE.step {w W W':World} {c:Array Value} (h:KeepE w c W) (hb:Below W.heap.size W W'):KeepE w c W':=
  ⟨h.below.trans (hb.mono h.below.size),(hb.block _ h.lt).trans h.own⟩
theorem KeepE.alloc {w W:World} {c:Array Value} (h:KeepE w c W) (o:Obj):KeepE w c (W.alloc o):=h.step (below_box W o)
theorem good_bits (a:Ef) (k:Int) (hb:¬ (a.t=true∧a.o=true)) (ho:a.o=true→a.l=true) (hr:k ≠ 0→a.o=false∧a.l=false) :
    (bits BinOp.and .u8 a.val 3 == 3)=false∧((bits BinOp.and .u8 a.val 2 != 0)=false ∨ ((bits BinOp.and .u8 a.val 2 != 0)=true∧(bits BinOp.and .u8 a.val 4 == 0)=false))∧(k=0 ∨ ((k != 0)=true∧(bits BinOp.and .u8 a.val 6 != 0)=false)) ∧ ¬ (7 < a.val):=by
  obtain⟨t,o,l⟩:=a
  have h3:∀ t o l:Bool,¬ (t=true∧o=true)→(bits BinOp.and .u8 (Ef.val ⟨t,o,l⟩) 3 == 3)=false:=by
    intro t o l h
    cases t <;> cases o <;> cases l <;> first|rfl|exact absurd ⟨rfl,rfl⟩ h
  have h2:∀ t o l:Bool,(o=true→l=true)→((bits BinOp.and .u8 (Ef.val ⟨t,o,l⟩) 2 != 0)=false ∨ ((bits BinOp.and .u8 (Ef.val ⟨t,o,l⟩) 2 != 0)=true∧(bits BinOp.and .u8 (Ef.val ⟨t,o,l⟩) 4 == 0)=false)):=by
    intro t o l h
    cases o with
    | false=>left;cases t <;> cases l <;> rfl
    | true=>right;obtain rfl:=h rfl;cases t <;> exact⟨rfl,rfl⟩
  have h6:∀ t o l:Bool,o=false→l=false→(bits BinOp.and .u8 (Ef.val ⟨t,o,l⟩) 6 != 0)=false:=by
    intro t o l h1 h2
    subst h1 h2
    cases t <;> rfl
  have h7:∀ t o l:Bool,¬ (7 < Ef.val ⟨t,o,l⟩):=by
    intro t o l
    cases t <;> cases o <;> cases l <;> decide
  refine⟨h3 t o l hb,h2 t o l ho, ?_,h7 t o l⟩
  by_cases hk:k=0
  · exact .inl hk
  · exact .inr ⟨bne_iff_ne.2 hk,h6 t o l (hr hk).1 (hr hk).2⟩
theorem effect_law (P:Pr) (w:World) (hI:PIn w w.heap.size P) (hcap:CapF P) :
    Calls Try.prog 3 #[.agg #[P.e.rv,P.e.sv,P.e.fv,P.tv]] w fun e w'=>e = .returned (.bool true)∧Below w.heap.size w w':=by
  obtain⟨fo,fc,ef,hfl,hfg⟩:=hI.e.flies.form
  have HI:=hid hI
  have hPS:=fun (u:World) (hu:Below w.heap.size w u)=>psize_any P w.heap.size u (hI.keeps hu) hu.size
  have hCK:=fun (u:World) (hu:Below w.heap.size w u)=>eff_check P w.heap.size u hu.size (hI.keeps hu) hcap
  have hOF:=fun (u:World) (hu:Below w.heap.size w u)=>eff_of P w.heap.size u hu.size (hI.keeps hu) hcap
  obtain⟨rv,hrv⟩:∃ v,v=P.e.rv:=⟨_,rfl⟩
  obtain⟨sv,hsv⟩:∃ v,v=P.e.sv:=⟨_,rfl⟩
  obtain⟨tv,htv⟩:∃ v,v=P.tv:=⟨_,rfl⟩
  obtain⟨N3,hN3⟩:∃ N,N=P.e.funcs.length:=⟨_,rfl⟩
  simp only [ef,← hrv,← hsv,← htv,← hN3] at hPS hCK hOF ⊢
  rw [← hN3] at hfl hfg ef
  obtain⟨W0,hW0⟩:∃ W0,W0=w.alloc (.cells #[rv,sv,.slice fo N3 fc,tv] 27):=⟨_,rfl⟩
  have hK0:KeepE w #[rv,sv,.slice fo N3 fc,tv] W0:=⟨by rw [hW0];exact below_box w _,by rw [hW0];exact boxE4 _ _ _ _⟩
  obtain⟨q0,q1,q2,q3⟩:=cells_prog _ _ _ _ hK0.own
  rw [hW0] at q0 q1 q2 q3
  have HPS:=hid (hPS W0 hK0.below)
  have HCK:=hid hCK
  have HOF:=hid hOF
  have HK0:=hid hK0
  have HW0:=hid hW0
  have HAL:=hid (fun w=>effalive_any w)
  have HN3:=hid hN3
  have HFV:=hid ef
  have HGF:=hid hfg
  have hm:=made_int
  clear hPS hCK hOF hK0 hW0 hI hcap ef hrv hsv htv hN3 hfg
  go_enter Try.func3,Try.ntmps3
  go_wp2_with fail
  rw [← HW0.out]
  refine HPS.out.mono ?_;rintro e w1 ⟨⟨n,rfl,hn0,hn1,hns⟩,hb1⟩
  have HK1:=hid (HK0.out.step hb1)
  have HBY:=hid (beyond_any w1.heap.size n 3 (0,0) (w1.alloc (.cells #[.int .i64 n] 3)) hn0 hn1 (MapKept.heap_alloc _ _).1)
  clear hb1 hns q0 q1 q2 q3
  go_wp2_with fail
  refine HBY.out.mono ?_;rintro e w2 ⟨rfl,rfl⟩
  have HK2:=hid (HK1.out.alloc (.cells #[.int .i64 n] 3))
  by_cases hbig:262144 < n
  · rw [decide_eq_true hbig]
    go_wp2_with fail
    go_ret
    exact⟨rfl,HK2.out.below⟩
  rw [decide_eq_false hbig]
  obtain⟨q0,q1,q2,q3⟩:=cells_prog _ _ _ _ HK2.out.own
  have HC:=hid (HCK.out _ HK2.out.below)
  clear hn0 hn1
  go_wp2_with fail
  refine HC.out.mono ?_;rintro e w3 ⟨rfl,hb3⟩
  have HK3:=hid (HK2.out.step hb3)
  clear hb3 q0 q1 q2 q3
  obtain⟨q0,q1,q2,q3⟩:=cells_prog _ _ _ _ HK3.out.own
  have HO3:=hid (HOF.out w3 HK3.out.below)
  go_wp2_with fail
  refine HO3.out.mono ?_;rintro e w4 ⟨hb4,hq⟩
  have HK4:=hid (HK3.out.step hb4)
  clear hb4 q0 q1 q2 q3
  obtain⟨r,hr⟩:∃ r,r=effectT P:=⟨_,rfl⟩
  obtain⟨at',ee⟩:=r
  rw [← hr] at hq ⊢
  rcases hq with ⟨he0,rfl⟩|⟨he0,v,rfl,hown⟩
  · have he1:ee ≠ 0:=he0
    have hq1:(ee != 0)=true:=bne_iff_ne.2 he1
    clear hr he0 he1
    go_wp2_with fail
    refine (HAL.out _).mono ?_;rintro e w5 ⟨rfl,hb5⟩
    have HK5:=hid (HK4.out.step hb5)
    clear hb5
    go_wp2_with fail
    go_ret
    exact⟨rfl,HK5.out.below⟩
  · have he1:ee=0:=he0
    subst he1
    have hE0:effectT P=(0,0):=by
      have h2:(effectT P).2=0:=by rw [← hr]
      have h1:=effectT_ok h2
      rw [effect_is] at h2 ⊢
      rw [if_neg (by rw [h1.1];decide),h1.2] at h2 ⊢
      simp only at h2 ⊢
      cases hf:firstT (bads P) with
      | none=>rfl
      | some j=>rw [hf] at h2;cases h2
    have HGD:=hid (effect_whole P hE0).2.2
    obtain⟨ao,cap,rfl⟩:∃ ao cap,v = .slice ao N3 cap:=by
      rw [← HN3.out] at hown
      rcases hown.2 with ⟨hv,hn⟩|⟨g,cap,cur,hv,_⟩
      · exact⟨none,0,by rw [hn];exact hv⟩
      · exact⟨_,cap,hv⟩
    have HOWN:=hid hown
    obtain⟨q0,q1,q2,q3⟩:=cells_prog _ _ _ _ HK4.out.own
    clear hr he0 hE0 hown
    go_wp2_with fail
    clear q0 q1 q2 q3
    go_loopw [7] (fun i wr=>∃ k:Nat,k≤N3∧i = .int .i64 k∧wr=w4) (fun i _=>N3 - (intOf i).toNat)
    case atStart=>exact⟨0,by omega,rfl,rfl⟩
    case round =>
      obtain⟨k,hkN,rfl,rfl⟩:=hrel
      by_cases hk:k < N3
      · obtain⟨g,off,rfl,hg⟩:=HGF.out (by omega)
        have hkx:k < P.e.funcs.length:=by rw [← HN3.out];exact hk
        have hat:=((HI.out.keeps HK4.out.below).e.flies.at HFV.out k hkx).2
        have hgd:=HGD.out _ (List.getElem_mem hkx)
        obtain⟨g2,cap2,hv2,-,hg2,hrd⟩:=row_read2 HOWN.out (by omega)
        have r0:=hrd k (effV P P.e.funcs[k]) (by rw [List.getElem?_map,List.getElem?_eq_getElem hkx];rfl)
        injection hv2 with ha _ _
        subst ha
        unfold effV at r0
        generalize P.e.funcs[k] = a at hat hgd r0
        obtain⟨-,-,p2,-,-,-⟩:=cells6F hat
        obtain⟨z3,z2,z6,z7⟩:=good_bits (effF P.e a.name) a.res.k hgd.both hgd.opens hgd.res
        generalize effF P.e a.name=x at r0 z3 z2 z6 z7
        obtain⟨q0,q1,q2,q3⟩:=cells_prog _ _ _ _ HK4.out.own
        have hlt4:=HK4.out.lt
        clear hat hgd hrd
        rcases z2 with z2|⟨z2,z4⟩
        all_goals
          rcases z6 with z6|⟨z6,z6b⟩
          all_goals
            first|rw [z6] at p2|skip
            go_wp2_with fail
            go_roundw
            case rel=>exact⟨k+1,by omega,by go_num,trivial⟩
            case measure=>simp [intOf];omega
      · go_wp2_with fail
        refine (HAL.out _).mono ?_;rintro e w5 ⟨rfl,hb5⟩
        have HK5:=hid (HK4.out.step hb5)
        clear hb5
        go_wp2_with fail
        go_ret
        exact⟨rfl,HK5.out.below⟩
end Go.Proofs.Ytcibiiddigpnfaa
namespace Go.Proofs.Ytcibiiddigpnfaa
open Lib (hid)
set_option maxRecDepth 100000
set_option maxHeartbeats 16000000
open Go.ChangeShapes Go.WideShapes Go.ChangeAt Go.WideMaps Go.WideElems Go.RowKit
theorem own:ownKnob Try.prog.godebug=none:=by kernel_rfl
theorem open_cap {H:Type} {enc:TypeId × Value→H} {w:World} (n:Nat) (P:Pr) (y:DataW H × List MemPlace) (h:DataW.trod enc Try.prog w 0 (fun _=>true) true n 27 P.cells=some y):CapF P:=by
  obtain⟨xs,n1,hn1,hy,hl,hlen,hf⟩:=DataW.trod_struct Try.underlying27 h
  obtain⟨y0,y1,y2,y3,rfl⟩:=g4 hlen
  have k2:DataW.trod enc Try.prog w 0 (fun _=>true) true n1 24 [P.e.fv] = some y2:=by simpa [sLR,sLF,sLN,Pr.cells] using hf 2 _ rfl
  rcases DataW.trod_slice Try.underlying24 k2 with ⟨e,-⟩|⟨a,len,cap,els,rest,m,-,e,-,-,hlc,hcm,-⟩
  · exact⟨none,0,0,List.singleton_inj.1 e,Nat.le_refl _,by omega⟩
  · exact⟨some a,len,cap,List.singleton_inj.1 e,hlc,by unfold maxLen at hcm;omega⟩
theorem effectWhole_lifted (os:Os) (started:os.Started) (H:Type) (enc:TypeId × Value→H) :
    ReturnsInHanded {} Try.checked os 3 .any (Rows.effectWholeSpec.pre6 enc Try.prog Try.f3 [] false)
      (Rows.effectWholeSpec.post enc Try.prog Try.f3 false true false false):=by
  refine returnsInHanded_of_change_sized (C:=Try.checked) own started (by kernel_rfl) Try.func3
    (ChangeSpec.witness6 (enc:=enc) (C:=Try.checked) false ⟨#[],#[.agg #[.slice none 0 0,.slice none 0 0,.slice none 0 0,.slice none 0 0]],[]⟩ 8 (by kernel_rfl) (by kernel_rfl) (by kernel_rfl) (by kernel_rfl)) ?_
  intro W base args ds gs before hval0 hW _ hz0 _
  have hval:∀ (j:Nat) t v,Try.f3.params[j]? = some t→args[j]? = some v→Value.okWide Try.prog W .any base t v:=hval0
  have hW':=hW
  obtain⟨p,q,hA0,hV,rfl,_,_⟩:=hW
  have hA:DataW.TrodAll enc Try.prog W 0 (fun _=>true) true Try.f3.params.toList args.toList ds p:=hA0
  rw [Try.params3] at hA hval
  obtain⟨v0,d0,rfl,rfl,h0⟩:=trodAll_one hA
  obtain⟨rfl,rfl⟩:=trodVars_none hV
  have hlt0:∀ x ∈ p,x.block < W.heap.size:=by
    obtain⟨fuel,hf⟩:=h0
    exact DataW.trod_lt _ _ _ _ hf
  have hkeep0:∀ W',Below W.heap.size W W'→DataW.Trod enc Try.prog W' 0 (fun b=>decide (b < W.heap.size)) true 27 v0 d0 p:=
    fun W' hb=>Below.trod (by kernel_rfl) (by kernel_rfl) (of_decide_eq_true (by kernel_rfl)) h0 hb hlt0
  have hw0:Wt 27 d0:=fun n hn=>by have:=List.all_eq_true.1 hz0 n (DataW.weights_mem_each (j:=0) (t:=27) rfl rfl n hn);simpa using this
  obtain⟨cs0,rfl,-⟩:=okWide_struct Try.underlying27 (hval 0 27 v0 rfl rfl)
  obtain⟨P,rfl,hIP,hcap⟩:∃ P:Pr,cs0=#[P.e.rv,P.e.sv,P.e.fv,P.tv] ∧ PIn W W.heap.size P∧CapF P:=by
    obtain⟨fuel,hf⟩:=h0
    obtain⟨P,hc,hi⟩:=open_prog fuel _ _ hf hw0
    have hc2:cs0.toList=P.cells:=by simpa [Value.cells] using hc
    refine⟨P, ?_,hi,open_cap fuel P (d0,p) (by rw [← hc];exact hf)⟩
    apply Array.toList_inj.1
    rw [hc2]
    rfl
  clear hA0 hval0 hz0
  simp only [List.append_nil] at hW'
  refine (effect_law P W hIP hcap).mono fun e W' ⟨he,hnx⟩=>?_
  subst he
  refine⟨_,rfl,_,_,_,[],_,[],hW', ?_,trodAll_mk1 (hkeep0 W' hnx),rfl,hnx.frame _,fun h=>by cases h⟩
  exact trodAll_mk1 (shut_bool Try.underlying4 _)
theorem effectWhole_holds:Rows.EffectWholeSaid:=
  OpenClaim.holds_of_wide 3 Try.f3 rfl rfl rfl rfl rfl rfl rfl ⟨rfl,rfl,rfl,rfl,rfl⟩ rfl rfl rfl rfl rfl (by kernel_rfl) Try.func3 (by kernel_rfl)
    (of_decide_eq_true (by kernel_rfl)) (by unfold Func.isWrapper;first|(rw [if_pos (by decide +kernel)];kernel_rfl)|(rw [if_neg (by decide +kernel)];exact⟨rfl,rfl⟩))
    (fun os started H enc _=>effectWhole_lifted os started H enc)
end Go.Proofs.Ytcibiiddigpnfaa
