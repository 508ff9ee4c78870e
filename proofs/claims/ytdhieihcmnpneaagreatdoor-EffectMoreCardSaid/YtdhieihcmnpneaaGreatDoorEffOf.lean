/- What package effect's Of answers, of any program that lies in memory. -/
import Derived.Test.YtdhieihcmnpneaaGreatDoorRows
import Derived.Test.YtdhieihcmnpneaaGreatDoorEffTop
namespace Go.Proofs.YtdhieihcmnpneaaGreatDoor
open Lib (hid)
set_option maxHeartbeats 8000000
open Go.RowKit
set_option maxRecDepth 100000
attribute [local go_sem ↓] bls_eq
theorem infoEf:(Tryz.prog.info? 54).map (fun i=>(i.zero,i.size,i.bytes))=some (some (.int .u8 0),1,1):=by kernel_rfl
def effV (P:Pr) (f:Fn):Value:=.int .u8 (effF P.e f.name).val
def OfE (P:Pr) (w:World) (x:Ending) (w':World):Prop:=Below w.heap.size w w' ∧
  (((effectT P).2 ≠ 0∧x = .returned (.tuple #[.slice none 0 0,.int .i64 (effectT P).2])) ∨
   ((effectT P).2=0∧∃ v,x = .returned (.tuple #[v,.int .i64 0])∧w'.ownsRow w.heap.size 54 1 v P.e.funcs.length (P.e.funcs.map (effV P))))
theorem effectT_ok {P:Pr} (h:(effectT P).2=0):(typesT P).2=0∧ringN P.e.funcs P.e.funcs 0=none:=by
  rw [effect_is] at h
  split at h
  · cases h
  rename_i h0
  refine⟨Classical.not_not.1 h0, ?_⟩
  cases hr:ringN P.e.funcs P.e.funcs 0 with
  | none=>rfl
  | some i=>rw [hr] at h;cases h
theorem eff_of (P:Pr) (B:Nat) (w:World) (hBw:B≤w.heap.size) (hI:PIn w B P) (hcap:CapF P) :
    Calls Tryz.prog 6 #[.agg #[P.e.rv,P.e.sv,P.e.fv,P.tv]] w (OfE P w):=by
  obtain⟨fo,fc,ef,hfl,hfg⟩:=hI.e.flies.form
  have hroom:=hI.e.flies.room
  obtain⟨W1,hW1⟩:∃ W1,W1=w.alloc (.cells #[P.e.rv,P.e.sv,P.e.fv,P.tv] 27):=⟨_,rfl⟩
  have hb1:Below w.heap.size w W1:=by rw [hW1];exact below_box w _
  have hz1:W1.heap.size=w.heap.size+1:=by rw [hW1];simp
  have hO1:W1.heap[w.heap.size]? = some (.cells #[P.e.rv,P.e.sv,P.e.fv,P.tv] 27 (0,0)):=by rw [hW1];exact (MapKept.heap_alloc _ _).1
  have hI1:=hI.keeps (hb1.mono hBw)
  have hck:=eff_check P B W1 (by omega) hI1 hcap
  have hne:=fun (u:World) (hu:Below W1.heap.size W1 u) (h0:(effectT P).2=0)=>new_effects P B u (by have:=hu.size;omega) (hI1.keeps (hu.mono (by omega))) (fits_of P (effectT_ok h0).1)
  obtain⟨rv,hrv⟩:∃ v,v=P.e.rv:=⟨_,rfl⟩
  obtain⟨sv,hsv⟩:∃ v,v=P.e.sv:=⟨_,rfl⟩
  obtain⟨tv,htv⟩:∃ v,v=P.tv:=⟨_,rfl⟩
  have HFL:=hid hI.e.flies
  have HFI:=hid hI.e.funcs
  rw [ef,← hrv,← hsv,← htv] at hW1 hO1 hck ⊢
  simp only [ef,← hrv,← hsv,← htv] at hne
  rw [ef] at HFL
  obtain⟨N3,hN3⟩:∃ N,N=P.e.funcs.length:=⟨_,rfl⟩
  rw [← hN3] at hfl hfg HFL hW1 hO1 hck hroom ⊢
  simp only [← hN3] at hne
  obtain⟨q0,q1,q2,q3⟩:=cells_prog _ _ _ _ hO1
  rw [hW1] at q0 q1 q2 q3
  have HCK:=hid hck
  have HNE:=hid hne
  have HB1:=hid hb1
  have HO1:=hid hO1
  have HW1:=hid hW1
  have HN3:=hid hN3
  have HGF:=hid hfg
  have HBOD:=hid (fun (u:World) (hu:Below B w u)=>BodiesIn.keeps (w:=w) (fun f hf=>⟨(hI.e.funcs f hf).blies,(hI.e.funcs f hf).body⟩) hu)
  obtain⟨i0,hi0,hi1,hi2,hi3⟩:∃ i,Tryz.prog.info? 54=some i∧i.zero=some (.int .u8 0)∧i.size=1∧i.bytes=1:=by
    have:=infoEf
    cases hq:Tryz.prog.info? 54 with
    | none=>rw [hq] at this;cases this
    | some i=>rw [hq] at this;simp only [Option.map_some,Option.some.injEq,Prod.mk.injEq] at this;exact⟨i,rfl,this.1,this.2.1,this.2.2⟩
  have HINF:=hid (And.intro hi0 (And.intro hi1 (And.intro hi2 hi3)))
  clear hI hcap hb1 hO1 hW1 hI1 hck hne hrv hsv htv hN3 hfg ef hi0 hi1 hi2 hi3
  go_enter Tryz.func6,Tryz.ntmps6
  go_wp2_with fail
  rw [← HW1.out]
  refine HCK.out.mono ?_;rintro z w2 ⟨rfl,hb2⟩
  have hs2:=hb2.size
  have HB2:=hid hb2
  have HO2:=hid ((hb2.block w.heap.size (by omega)).trans HO1.out)
  clear hb2 q0 q1 q2 q3
  obtain⟨r,hr⟩:∃ r,r=effectT P:=⟨_,rfl⟩
  obtain⟨at',ee⟩:=r
  rw [← hr]
  have hr2:(effectT P).2=ee:=by rw [← hr]
  by_cases he0:ee=0
  rotate_left
  · have HE:=hid hr2
    have HE0:=hid he0
    have hq0:(ee != 0)=true:=bne_iff_ne.2 he0
    clear hr he0 hr2
    go_wp2_with fail
    go_ret2
    exact⟨HB1.out.trans (HB2.out.mono (by omega)),.inl ⟨by rw [HE.out];exact HE0.out,by rw [HE.out];rfl⟩⟩
  subst he0
  have HE0:=hid hr2
  have HFT:=hid (fits_of P (effectT_ok hr2).1)
  have HNR:=hid (noRing_of P.e.funcs (fits_of P (effectT_ok hr2).1).own (effectT_ok hr2).2)
  have HNE2:=hid (HNE.out w2 HB2.out hr2)
  obtain⟨q0,q1,q2,q3⟩:=cells_prog _ _ _ _ HO2.out
  clear hr hr2
  go_wp2_with fail
  refine HNE2.out.mono ?_;rintro z w3 ⟨d,ms,mb,mm,rfl,hD3,hd3,hm3,hb3⟩
  have hs3:=hb3.size
  have HD3:=hid hD3
  have HB3:=hid (HB2.out.trans (hb3.mono hs2))
  obtain⟨q0,q1,q2,q3⟩:=cells_prog _ _ _ _ ((HB3.out.block w.heap.size (by omega)).trans HO1.out)
  obtain⟨w4,hmk,hown4,hg4⟩:=run_make_own (P:=Tryz.prog) w3 W1.heap.size 36 54 i0 _ 1 Tryz.underlying36 HINF.out.1 HINF.out.2.1 HINF.out.2.2.1 .i64 .i64 N3 (by rw [HINF.out.2.2.2];omega) (by unfold maxLen;omega) (by omega)
  have hb4:Below w3.heap.size w3 w4:=⟨hg4.os,hg4.tape,hg4.output,hg4.size,fun k hk=>hg4.block k hk (by simp)⟩
  have HOWN4:=hid hown4
  have HD4:=hid (HD3.out.keeps hb4)
  have HB4:=hid (HB3.out.trans (hb4.mono HB3.out.size))
  obtain⟨p0,p1,p2,p3⟩:=cells_prog _ _ _ _ ((HB4.out.block w.heap.size (by omega)).trans HO1.out)
  have hnb:(Value.slice (some ⟨w3.heap.size,0,none⟩) 0 N3).ownBlock=some w3.heap.size:=rfl
  have hmml:mm < w3.heap.size:=hD3.lt.2.2.2
  have hDl:=hD3.lt
  have hs34:w3.heap.size≤w4.heap.size:=hb4.size
  clear hD3 hb3 hown4 hg4 hb4
  go_wp2_with fail
  clear q0 q1 q2 q3 p0 p1 p2 p3
  go_loopw [27,7] (fun q v wr=>∃ k:Nat,k≤N3∧q = .int .i64 k∧(∃ ao cap,v = .slice ao k cap∧Hid (wr.ownsRow W1.heap.size 54 1 (.slice ao k cap) k ((P.e.funcs.take k).map (effV P)))∧Hid (∀ g,(Value.slice ao k cap).ownBlock=some g→w3.heap.size≤g))∧Hid (Ds P.e B d ms mb mm wr)∧Hid (Below W1.heap.size W1 wr)∧w3.heap.size≤wr.heap.size) (fun q _ _=>N3 - (intOf q).toNat)
  case atStart=>exact⟨0,by omega,rfl,⟨_,_,rfl,by rw [List.take_zero];exact HOWN4,hid (fun g hg=>by rw [hnb] at hg;cases hg;exact Nat.le_refl _)⟩,HD4,HB4,hs34⟩
  case round =>
    obtain⟨k,hkN,rfl,⟨ao,cap,rfl,HOW,HGE⟩,HD,HBr,hs3r⟩:=hrel
    have hsr:=HBr.out.size
    by_cases hk:k < N3
    · obtain⟨g,off,rfl,hg⟩:=HGF.out (by omega)
      have hkx:k < P.e.funcs.length:=by rw [← HN3.out];exact hk
      have hbB:Below B w wr:=(HB1.out.mono hBw).trans (HBr.out.mono (by omega))
      have hat:=((HFL.out.below hbB).at rfl k hkx).2
      have hma:=(HFI.out _ (List.getElem_mem hkx)).keeps hbB
      have hmem:=List.getElem_mem hkx
      have htk:(P.e.funcs.take (k+1)).map (effV P)=(P.e.funcs.take k).map (effV P) ++ [effV P P.e.funcs[k]]:=by rw [List.take_succ_eq_append_getElem hkx,List.map_append];rfl
      generalize P.e.funcs[k] = a at hat hma hmem htk
      obtain⟨p0,p1,p2,p3,p4,p5⟩:=cells6F hat
      obtain⟨po,pc,ep,-⟩:=hma.lies.form
      obtain⟨bo,bc,eb,-⟩:=hma.blies.form
      obtain⟨pn,hpn⟩:∃ n,n=a.params.length:=⟨_,rfl⟩
      obtain⟨bn,hbn⟩:∃ n,n=a.body.length:=⟨_,rfl⟩
      rw [ep,← hpn] at p1
      rw [eb,← hbn] at p5
      obtain⟨W7,hW7⟩:∃ W7,W7=wr.alloc (.cells #[.string a.name,.slice po pn pc,.int .u8 a.res.k,.string a.res.n,.int .i64 a.res.z,.slice bo bn bc] 33):=⟨_,rfl⟩
      have hb7:Below wr.heap.size wr W7:=by rw [hW7];exact below_box wr _
      have hz7:W7.heap.size=wr.heap.size+1:=by rw [hW7];simp
      have k7:=(own6F (show W7.heap[wr.heap.size]? = some (.cells #[.string a.name,.slice po pn pc,.int .u8 a.res.k,.string a.res.n,.int .i64 a.res.z,.slice bo bn bc] 33 (0,0)) by rw [hW7];exact (MapKept.heap_alloc _ _).1)).1
      have hfc:=fn_all P.e HFT.out.own HNR.out (rank P.e.funcs a.name) a.name (List.mem_map.2 ⟨a,hmem,rfl⟩) (Nat.le_refl _) B d ms mb mm W7 (HD.out.keeps hb7) (by omega) (HBOD.out W7 (hbB.trans (hb7.mono (by omega))))
      have how7:=HOW.out.kept (row:=none) ⟨hb7.os,hb7.tape,hb7.output,hb7.size,fun k hk _=>hb7.block k hk⟩ (by cases hh:(Value.slice ao k cap).ownBlock <;> simp)
      have HFC:=hid hfc
      have HOW7:=hid how7
      have HW7:=hid hW7
      have HB7:=hid (HBr.out.trans (hb7.mono HBr.out.size))
      have HTK:=hid htk
      have hgs:g < wr.heap.size:=by omega
      rw [hW7] at k7
      clear hat hma hmem htk ep eb hpn hbn hW7 hb7 hfc how7 hbB
      go_wp2_with fail
      rw [← HW7.out]
      refine HFC.out.mono ?_;rintro z w8 ⟨rfl,hD8,hw8⟩
      have how8:=HOW7.out.kept (row:=some mm) ⟨hw8.os,hw8.tape,hw8.output,hw8.size,fun k hk hne=>hw8.block k hk (fun e=>hne (by rw [e]))⟩ (.inr (fun e=>by have:=HGE.out mm e;omega))
      have hs83:w3.heap.size≤w8.heap.size:=Nat.le_trans (by omega) hw8.size
      have hb8:Below W1.heap.size W7 w8:=hw8.below (fun g hg=>by omega) (by omega)
      obtain⟨W9,hW9⟩:∃ W9,W9=w8.alloc (.cells #[effV P a] 54):=⟨_,rfl⟩
      have hb9:Below w8.heap.size w8 W9:=by rw [hW9];exact below_box w8 _
      have hO9:W9.heap[w8.heap.size]? = some (.cells #[effV P a] 54 (0,0)):=by rw [hW9];exact (MapKept.heap_alloc _ _).1
      have how9:=how8.kept (row:=none) ⟨hb9.os,hb9.tape,hb9.output,hb9.size,fun k hk _=>hb9.block k hk⟩ (by cases hh:(Value.slice ao k cap).ownBlock <;> simp)
      have hms:=bls_of 36 54 1 1 #[(0,.int .u8 (effF P.e a.name).val)] #[.int .u8 (effF P.e a.name).val] (by kernel_rfl) (by kernel_rfl) (by kernel_rfl) (by omega) (by omega) (by kernel_rfl) (by kernel_rfl)
      have HOW9:=hid how9
      have HD9:=hid (hD8.keeps hb9)
      have HB9:=hid (HB7.out.trans (hb8.trans (hb9.mono (by have:=hb8.size;omega))))
      have HO9:=hid hO9
      have HW9:=hid hW9
      clear hD8 hw8 how8 hb8 hb9 hO9 how9 hW9 k7 p0 p1 p2 p3 p4 p5
      have hx:=HOW9.out
      have hy:=HO9.out
      rw [HW9.out] at hx hy
      have HSZ:=hid (show w3.heap.size≤w8.heap.size by have h1:=HB7.out.size;have h2:=hs83;omega)
      have hz9:W1.heap.size≤(w8.alloc (.cells #[effV P a] 54)).heap.size:=by rw [← HW9.out];exact HB9.out.size
      have HX:=hid hx
      have HY:=hid hy
      have HZ:=hid hz9
      clear hx hy hz9
      go_wp2_with (first
        | (refine wpList_append_lies _ rfl (Operand.tmp 31) (Operand.tmp 36) 36 rfl W1.heap.size 54 i0 _ 1 1 Tryz.underlying36 HINF.out.1 HINF.out.2.1 HINF.out.2.2.1 HINF.out.2.2.2 rfl (by decide) (.slice ao k cap) k ((P.e.funcs.take k).map (effV P)) rfl HX.out ⟨w8.heap.size,0,none⟩ 1 1 [effV P a] rfl rfl (World.news_of_block HY.out) (by simp [Value.oneCell',effV]) (by decide) (by unfold maxLen;omega) (by omega) HZ.out _ rfl ?_))
      intro g2 cap2 w10 hown hgr hgo hgl
      have hd:=HD9.out
      have hb:=HB9.out
      rw [HW9.out] at hd hb
      have hw10:Wr (fun g=>(Value.slice ao k cap).ownBlock=some g) (w8.alloc (.cells #[effV P a] 54)) w10:=⟨hgr.os,hgr.tape,hgr.output,hgr.size,fun g hg hn=>hgr.block g hg (fun e=>hn e.symm)⟩
      have hsz9:w3.heap.size≤(w8.alloc (.cells #[effV P a] 54)).heap.size:=by have:=hd.lt.2.2.2;have:=HSZ.out;simp;omega
      have HD10:=hid (hd.after hw10 (fun g hg=>by have:=HGE.out g hg;omega) (hd.met.of (hw10.block mm hd.lt.2.2.2 (fun e=>by have:=HGE.out mm e;omega))))
      have HB10:=hid (hb.trans (hw10.below (B:=W1.heap.size) (fun g hg=>by have:=HGE.out g hg;omega) hb.size))
      have hs310:w3.heap.size≤w10.heap.size:=Nat.le_trans hsz9 hw10.size
      have HOW10:=hid (show w10.ownsRow W1.heap.size 54 1 (.slice (some ⟨g2,0,none⟩) (k+1) cap2) (k+1) ((P.e.funcs.take (k+1)).map (effV P)) by rw [HTK.out,hz1,List.map_take];exact hown)
      have HGE10:=hid (show ∀ g,(Value.slice (some ⟨g2,0,none⟩) (k+1) cap2).ownBlock=some g→w3.heap.size≤g from fun g hg=>by
        have hg2:g2=g:=by simpa [Value.ownBlock] using hg
        subst hg2
        rcases hgo with h|h
        · exact HGE.out g2 h
        · omega)
      clear hown hgr hgo hd hb hw10 hms
      go_wp2_with fail
      go_roundw
      case rel=>exact⟨k+1,by omega,by go_num,⟨_,_,rfl,HOW10,HGE10⟩,HD10,HB10,hs310⟩
      case measure=>simp [intOf];omega
    · have hkk:P.e.funcs.take k=P.e.funcs:=List.take_of_length_le (by rw [← HN3.out];omega)
      have hkN2:k=N3:=by omega
      have how:=HOW.out
      rw [hkk] at how
      have HOWE:=hid how
      clear hkk how
      go_wp2_with fail
      go_ret2
      subst hkN2
      exact⟨HB1.out.trans (HBr.out.mono (by omega)),.inr ⟨HE0.out,_,rfl,by rw [← HN3.out];exact⟨HOWE.out.1,by
        rcases HOWE.out.2 with h|⟨g,c,cur,h1,h2,h3⟩
        · exact .inl h
        · exact .inr ⟨g,c,cur,h1,by omega,h3⟩⟩⟩⟩
end Go.Proofs.YtdhieihcmnpneaaGreatDoor
