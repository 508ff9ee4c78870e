/- The first place where something stands that may not stand there, as package effect finds it. -/
import Derived.Test.YtdhieihcmnpneaaGreatDoorRows
import Derived.Test.YtdhieihcmnpneaaGreatDoorTypWt
import Derived.Test.YtdhieihcmnpneaaGreatDoorEffWrong
import Derived.Test.YtdhieihcmnpneaaGreatDoorGTw
namespace Go.Proofs.YtdhieihcmnpneaaGreatDoor
open Lib (hid)
set_option maxHeartbeats 16000000
open Go.RowKit
set_option maxRecDepth 100000
attribute [local go_sem ↓] bld_eq
theorem sflats_len (l:List St) (hl:∀ a ∈ l,∀ i,(St.flat i a).length=St.count a):∀ i,(St.flats i l).length=St.counts l:=by
  induction l with
  | nil=>intro i;rw [sflats_nil,counts_nil];rfl
  | cons a r ih=>intro i;rw [sflats_cons,counts_cons,List.length_append,hl a (by simp),ih (fun b hb=>hl b (by simp [hb]))]
theorem sflat_len:∀ s,∀ i,(St.flat i s).length=St.count s:=by
  refine St.ind fun h x y bv ev b e ih1 ih2 i=>?_
  rw [sflat_mk,count_mk,List.length_cons,List.length_append,sflats_len b ih1,sflats_len e ih2]
  omega
theorem flats_len (l:List St) (i:Bool):(St.flats i l).length=St.counts l:=sflats_len l (fun a _=>sflat_len a) i
theorem badsF_len (e:En) (f:Fn):(badsF e f).length=1+St.counts f.body:=by unfold badsF;rw [List.length_cons,List.length_map,flats_len];omega
theorem badsT_len (e:En) (t:Th):(badsT e t).length=1+St.counts t.list:=by unfold badsT;rw [List.length_cons,List.length_map,flats_len];omega
theorem fnb_len (e:En):∀ l:List Fn,(l.flatMap (badsF e)).length=l.length+fnsN l
  | []=>by simp [fnsN]
  | f :: r=>by rw [List.flatMap_cons,List.length_append,badsF_len,fnb_len e r,fnsN,List.length_cons];omega
theorem thb_len (e:En):∀ l:List Th,(l.flatMap (badsT e)).length=l.length+thsN l
  | []=>by simp [thsN]
  | f :: r=>by rw [List.flatMap_cons,List.length_append,badsT_len,thb_len e r,thsN,List.length_cons];omega
theorem bads_len (P:Pr):(bads P).length+placeF P 0≤placesN P:=by
  unfold bads placeF placesN
  rw [List.length_append,fnb_len,thb_len]
  simp [fnsN]
  omega
theorem take_flat {α:Type} (g:α→List Bool) (l:List α) (k:Nat) (h:k < l.length):(l.take (k+1)).flatMap g=(l.take k).flatMap g ++ g l[k] ∧ ((l.take (k+1)).flatMap g).length≤(l.flatMap g).length:=by
  constructor
  · rw [List.take_succ_eq_append_getElem h,List.flatMap_append];simp
  · conv=>rhs;rw [← List.take_append_drop (k+1) l,List.flatMap_append,List.length_append]
    omega
theorem fit_len {α:Type} (p0:Nat) (bs:List Bool) (b:Bool) (fl:List α) (h:p0+bs.length+1+fl.length≤1000000000):p0+(bs ++ [b]).length+([] ++ fl).length≤1000000000:=by
  rw [List.length_append,List.nil_append,List.length_singleton];omega
theorem WI.calls {e:En} {B d ms mb mm fd p0 db fb:Nat} {bs:List Bool} {O:Nat→Prop} {w w2:World} (h:WI e B d ms mb mm fd p0 db fb bs O w) (hBw:B≤w.heap.size) (hD:Ds e B d ms mb mm w2) (hw:Wr (fun g=>g=mm) w w2):WI e B d ms mb mm fd p0 db fb bs O w2:=by
  obtain⟨n1,n2,n3,n4,n5,n6,n7,n8,n9⟩:=h.ne
  exact⟨h.own,hD,(hw.block fd (Array.getElem?_eq_some_iff.1 h.fin).1 (by omega)).trans h.fin,(hw.block db (Array.getElem?_eq_some_iff.1 h.dbox).1 (by omega)).trans h.dbox,(hw.block fb (Array.getElem?_eq_some_iff.1 h.fbox).1 (by omega)).trans h.fbox,h.bodies.keeps (hw.below (fun g hg=>by rw [hg];exact h.ds.far) hBw),h.ne⟩
def w1V (e:En) (B d ms mb mm fd p0 db fb tb:Nat) (f:Fn) (bs:List Bool):VisS:=⟨63,#[.pointer (some ⟨db,0,none⟩),.pointer (some ⟨fb,0,none⟩),.pointer (some ⟨tb,0,none⟩)],B,
  fun acc O w=>WI e B d ms mb mm fd p0 db fb (bs ++ acc.map (badF e f)) O w∧w.heap[tb]? = some (.cells #[.bool (effF e f.name).t] 4 (0,0)),fun acc=>(∀ q ∈ acc,MayS e q.1)∧p0+bs.length+acc.length≤1000000000⟩
theorem w1V_ok (e:En) (B d ms mb mm fd p0 db fb tb:Nat) (f:Fn) (bs:List Bool) (h1:tb ≠ mm) (h2:tb ≠ fd):(w1V e B d ms mb mm fd p0 db fb tb f bs).Ok where
  pre:=fun a b h=>⟨fun q hq=>h.1 q (List.mem_append_left _ hq),by have:=h.2;rw [List.length_append] at this;omega⟩
  enters:=fun _ _ _=>rfl
  far:=fun acc O w h=>h.1.far
  keep:=fun acc O w w' h hb=>⟨h.1.keeps hb,(hb.block tb (Array.getElem?_eq_some_iff.1 h.2).1).trans h.2⟩
  step:=fun acc O s i w h hI hm hBw=>by
    have hlen:p0+(bs ++ acc.map (badF e f)).length≤1000000000:=by
      have:=hm.2
      rw [List.length_append] at this
      rw [List.length_append,List.length_map]
      omega
    have hs:=wrong1_step e B d ms mb mm fd p0 db fb tb (effF e f.name).t (bs ++ acc.map (badF e f)) O s i w h.1 h.2 h1 hI (hm.1 (s,i) (by simp)) hlen hBw
    refine hs.mono fun x w' ⟨hx,hw,hr⟩=>⟨hx,O,⟨?_, ?_⟩,hr⟩
    · rw [List.map_append,← List.append_assoc];exact hw
    · exact (hr.wr.block tb (Array.getElem?_eq_some_iff.1 h.2).1 (fun hO=>by rw [h.1.own] at hO;rcases hO with hO|hO;exact h1 hO;exact h2 hO)).trans h.2
def w2V (e:En) (B d ms mb mm fd p0 db fb:Nat) (bs:List Bool):VisS:=⟨64,#[.pointer (some ⟨fb,0,none⟩),.pointer (some ⟨db,0,none⟩)],B,
  fun acc O w=>WI e B d ms mb mm fd p0 db fb (bs ++ acc.map (badT e)) O w,fun acc=>(∀ q ∈ acc,MayS e q.1)∧p0+bs.length+acc.length≤1000000000⟩
theorem w2V_ok (e:En) (B d ms mb mm fd p0 db fb:Nat) (bs:List Bool):(w2V e B d ms mb mm fd p0 db fb bs).Ok where
  pre:=fun a b h=>⟨fun q hq=>h.1 q (List.mem_append_left _ hq),by have:=h.2;rw [List.length_append] at this;omega⟩
  enters:=fun _ _ _=>rfl
  far:=fun acc O w h=>h.far
  keep:=fun acc O w w' h hb=>h.keeps hb
  step:=fun acc O s i w h hI hm hBw=>by
    have hlen:p0+(bs ++ acc.map (badT e)).length≤1000000000:=by
      have:=hm.2
      rw [List.length_append] at this
      rw [List.length_append,List.length_map]
      omega
    have hs:=wrong2_step e B d ms mb mm fd p0 db fb (bs ++ acc.map (badT e)) O s i w h hI (hm.1 (s,i) (by simp)) hlen hBw
    refine hs.mono fun x w' ⟨hx,hw,hr⟩=>⟨hx,O, ?_,hr⟩
    show WI e B d ms mb mm fd p0 db fb (bs ++ (acc ++ [(s,i)]).map (badT e)) O w'
    rw [List.map_append,← List.append_assoc];exact hw
theorem mayS_of (P:Pr) (hF:Fits P) (hN:NoRing P.e.funcs) {q:St × Bool} (h:CallsOk P.e q.1.exprs):MayS P.e q.1:=fun x hx hk=>fn_all P.e hF.own hN (rank P.e.funcs x.hd.name) x.hd.name (h x hx hk) (Nat.le_refl _)
theorem first_wrong (P:Pr) (B:Nat) (w:World) (hBw:B≤w.heap.size) (hI:PIn w B P) (hF:Fits P) (hNR:NoRing P.e.funcs) (hcap:CapF P) (hN:placesN P≤1000000) :
    Calls Tryz.prog 30 #[.agg #[P.e.rv,P.e.sv,P.e.fv,P.tv]] w fun x w'=>x = .returned (.tuple #[.int .i64 (firstV (placeF P 0) (bads P)),.bool (firstT (bads P)).isSome])∧Below w.heap.size w w':=by
  have hmf:∀ (fn:Go.Fn) (first cap:Array Value) (w:World),(Instr.makeFunc fn first cap).run Tryz.prog w = .ok (.func fn first cap) w:=fun _ _ _ _=>rfl
  obtain⟨fo,fc,ef,hfl,hfg⟩:=hI.e.flies.form
  obtain⟨to,tc,et,htl,htg⟩:=hI.tlies.form
  have HFL:=hid hI.e.flies
  have HFI:=hid hI.e.funcs
  have HTL:=hid hI.tlies
  have HTI:=hid hI.threads
  obtain⟨W1,hW1⟩:∃ W1,W1=w.alloc (.cells #[P.e.rv,P.e.sv,P.e.fv,P.tv] 27):=⟨_,rfl⟩
  have hb1:Below w.heap.size w W1:=by rw [hW1];exact below_box w _
  have hz1:W1.heap.size=w.heap.size+1:=by rw [hW1];simp
  have hO1:W1.heap[w.heap.size]? = some (.cells #[P.e.rv,P.e.sv,P.e.fv,P.tv] 27 (0,0)):=by rw [hW1];exact (MapKept.heap_alloc _ _).1
  have hI1:=hI.keeps (hb1.mono hBw)
  have hne:=new_effects P B W1 (by omega) hI1 hF
  have hpl:=fun (u:World) (hu:Below W1.heap.size W1 u)=>place_of P 0 B u (by have:=hu.size;omega) (hI1.keeps (hu.mono (by omega))) (Nat.zero_le _) hcap hN
  have hbl:=bads_len P
  obtain⟨p0,hp0⟩:∃ p,p=placeF P 0:=⟨_,rfl⟩
  rw [← hp0] at hpl hbl ⊢
  have hmF:∀ f ∈ P.e.funcs,∀ q ∈ St.flats false f.body,MayS P.e q.1:=fun f hf q hq=>mayS_of P hF hNR (hF.calls f hf q hq)
  have hmT:∀ t ∈ P.threads,∀ q ∈ St.flats false t.list,MayS P.e q.1:=fun t ht q hq=>mayS_of P hF hNR (hF.threads t ht q hq)
  have hfn:∀ f ∈ P.e.funcs,FnOk P.e f.name:=fun f hf=>fn_all P.e hF.own hNR (rank P.e.funcs f.name) f.name (List.mem_map.2 ⟨f,hf,rfl⟩) (Nat.le_refl _)
  have hbod:∀ u,Below B w u→BodiesIn u B P.e:=fun u hu=>BodiesIn.keeps (w:=w) (fun f hf=>⟨(hI.e.funcs f hf).blies,(hI.e.funcs f hf).body⟩) hu
  obtain⟨rv,hrv⟩:∃ v,v=P.e.rv:=⟨_,rfl⟩
  obtain⟨sv,hsv⟩:∃ v,v=P.e.sv:=⟨_,rfl⟩
  rw [ef,et,← hrv,← hsv] at hW1 hO1 hne hpl ⊢
  rw [ef] at HFL
  rw [et] at HTL
  obtain⟨N3,hN3⟩:∃ N,N=P.e.funcs.length:=⟨_,rfl⟩
  obtain⟨N4,hN4⟩:∃ N,N=P.threads.length:=⟨_,rfl⟩
  rw [← hN3] at hfl hfg HFL hW1 hO1 hne hpl ⊢
  rw [← hN4] at htl htg HTL hW1 hO1 hne hpl ⊢
  obtain⟨q0,q1,q2,q3⟩:=cells_prog _ _ _ _ hO1
  rw [hW1] at q0 q1 q2 q3
  have HNE:=hid hne
  have HPL:=hid hpl
  have HB1:=hid hb1
  have HO1:=hid hO1
  have HW1:=hid hW1
  have HN3:=hid hN3
  have HN4:=hid hN4
  have HGF:=hid hfg
  have HGT:=hid htg
  have HMF:=hid hmF
  have HMT:=hid hmT
  have HFN:=hid hfn
  have HBOD:=hid hbod
  have HBL:=hid (And.intro hbl hN)
  clear hI hF hNR hcap hN hb1 hO1 hW1 hI1 hne hpl hbl hp0 hmF hmT hfn hbod hrv hsv hN3 hN4 hfg htg ef et
  go_enter Tryz.func30,Tryz.ntmps30
  go_wp2_with fail
  rw [← HW1.out]
  refine HNE.out.mono ?_;rintro z w2 ⟨d,ms,mb,mm,rfl,hD2,hd2,hm2,hb2⟩
  have hs2:=hb2.size
  have hdl2:=hD2.lt
  obtain⟨W3,hW3⟩:∃ W3,W3=w2.alloc (.cells #[.pointer (some ⟨d,0,none⟩)] 52):=⟨_,rfl⟩
  have hb3:Below w2.heap.size w2 W3:=by rw [hW3];exact below_box w2 _
  have hz3:W3.heap.size=w2.heap.size+1:=by rw [hW3];simp
  have hDB:W3.heap[w2.heap.size]? = some (.cells #[.pointer (some ⟨d,0,none⟩)] 52 (0,0)):=by rw [hW3];exact (MapKept.heap_alloc _ _).1
  have hb13:Below W1.heap.size W1 W3:=hb2.trans (hb3.mono hs2)
  have hO3:=(hb13.block w.heap.size (by omega)).trans HO1.out
  obtain⟨q0,q1,q2,q3⟩:=cells_prog _ _ _ _ hO3
  have HPL3:=hid (HPL.out W3 hb13)
  have HD3:=hid (hD2.keeps hb3)
  have HDB:=hid hDB
  have HB13:=hid hb13
  have HW3:=hid hW3
  rw [hW3] at q0 q1 q2 q3
  clear hD2 hb2 hb3 hDB hb13 hO3 hW3
  go_wp2_with fail
  rw [← HW3.out]
  refine HPL3.out.mono ?_;rintro z w4 ⟨rfl,hb4⟩
  have hs4:=hb4.size
  obtain⟨W6,hW6⟩:∃ W6,W6=(w4.alloc (.cells #[.int .i64 (p0:Int),.int .i64 0,.bool false] 125)).alloc (.cells #[.pointer (some ⟨w4.heap.size,0,none⟩)] 123):=⟨_,rfl⟩
  have hb6:Below w4.heap.size w4 W6:=by rw [hW6];exact ((below_box w4 _).alloc (by simp) _)
  have hz6:W6.heap.size=w4.heap.size+2:=by rw [hW6];simp
  have hF6:W6.heap[w4.heap.size]? = some (.cells #[.int .i64 (p0:Int),.int .i64 0,.bool false] 125 (0,0)):=by rw [hW6,Below.heap_alloc _ _ _ (by simp)];exact (MapKept.heap_alloc w4 _).1
  have hFB:W6.heap[w4.heap.size+1]? = some (.cells #[.pointer (some ⟨w4.heap.size,0,none⟩)] 123 (0,0)):=by rw [hW6];have:=(MapKept.heap_alloc (w4.alloc (.cells #[.int .i64 (p0:Int),.int .i64 0,.bool false] 125)) (.cells #[.pointer (some ⟨w4.heap.size,0,none⟩)] 123)).1;simpa using this
  have hb36:Below W3.heap.size W3 W6:=hb4.trans (hb6.mono hs4)
  have hb16:Below W1.heap.size W1 W6:=HB13.out.trans (hb36.mono (by omega))
  have hO6:=(hb16.block w.heap.size (by omega)).trans HO1.out
  have hbld:=bld_of 125 #[(0,.int .i64 (p0:Int))] #[.int .i64 (p0:Int),.int .i64 0,.bool false] (by kernel_rfl)
  obtain⟨fd,hfd⟩:∃ fd,fd=w4.heap.size:=⟨_,rfl⟩
  obtain⟨db,hdb⟩:∃ db,db=w2.heap.size:=⟨_,rfl⟩
  have hWI:WI P.e B d ms mb mm fd p0 db (fd+1) [] (fun g=>g=mm ∨ g=fd) W6:=by
    have hd6:=HD3.out.keeps hb36
    refine⟨rfl,hd6,by rw [hfd];exact hF6,by rw [hdb];exact (hb36.block _ (by omega)).trans HDB.out,by rw [hfd];exact hFB,HBOD.out W6 ((HB1.out.mono hBw).trans (hb16.mono (by omega))), ?_⟩
    omega
  obtain⟨q0,q1,q2,q3⟩:=cells_prog _ _ _ _ hO6
  have HWI:=hid hWI
  have HB16:=hid hb16
  have HW6:=hid hW6
  rw [hW6] at q0 q1 q2 q3
  have hfdw:W1.heap.size≤fd:=by omega
  have HFD:=hid hfd
  have HDBE:=hid hdb
  clear hWI hb6 hF6 hFB hb36 hb16 hO6 hW6 hb4 hfd hdb
  go_wp2_with fail
  rw [← HW6.out,← HFD.out,← HDBE.out]
  clear q0 q1 q2 q3
  go_loopw [21] (fun q wr=>∃ k:Nat,k≤N3∧q = .int .i64 k∧Hid (WI P.e B d ms mb mm fd p0 db (fd+1) ((P.e.funcs.take k).flatMap (badsF P.e)) (fun g=>g=mm ∨ g=fd) wr)∧Hid (Below W1.heap.size W1 wr)) (fun q _=>N3 - (intOf q).toNat)
  case atStart=>exact⟨0,by omega,rfl,HWI,HB16⟩
  case round =>
    obtain⟨k,hkN,rfl,HWr,HBr⟩:=hrel
    have hsr:=HBr.out.size
    by_cases hk:k < N3
    · obtain⟨g,off,rfl,hg⟩:=HGF.out (by omega)
      have hkx:k < P.e.funcs.length:=by rw [← HN3.out];exact hk
      have hbB:Below B w wr:=(HB1.out.mono hBw).trans (HBr.out.mono (by omega))
      have hat:=((HFL.out.below hbB).at rfl k hkx).2
      have hma:=(HFI.out _ (List.getElem_mem hkx)).keeps hbB
      have hmem:=List.getElem_mem hkx
      obtain⟨htk,hle⟩:=take_flat (badsF P.e) P.e.funcs k hkx
      have hle:((P.e.funcs.take k).flatMap (badsF P.e)).length+(badsF P.e P.e.funcs[k]).length≤(bads P).length:=by
        rw [htk,List.length_append] at hle
        unfold bads
        rw [List.length_append];omega
      have hwi:=HWr.out
      generalize P.e.funcs[k] = a at hat hma htk hle hmem
      obtain⟨p0',p1,p2,p3,p4,p5⟩:=cells6F hat
      obtain⟨po,pc,ep,-⟩:=hma.lies.form
      obtain⟨bo,bc,eb,-⟩:=hma.blies.form
      obtain⟨pn,hpn⟩:∃ n,n=a.params.length:=⟨_,rfl⟩
      obtain⟨bn,hbn⟩:∃ n,n=a.body.length:=⟨_,rfl⟩
      rw [← hbn] at eb
      rw [ep,← hpn] at p1
      rw [eb] at p5
      obtain⟨W7,hW7⟩:∃ W7,W7=wr.alloc (.cells #[.string a.name,.slice po pn pc,.int .u8 a.res.k,.string a.res.n,.int .i64 a.res.z,.slice bo bn bc] 33):=⟨_,rfl⟩
      have hb7:Below wr.heap.size wr W7:=by rw [hW7];exact below_box wr _
      have hz7:W7.heap.size=wr.heap.size+1:=by rw [hW7];simp
      have hO7:W7.heap[wr.heap.size]? = some (.cells #[.string a.name,.slice po pn pc,.int .u8 a.res.k,.string a.res.n,.int .i64 a.res.z,.slice bo bn bc] 33 (0,0)):=by rw [hW7];exact (MapKept.heap_alloc _ _).1
      have hmlr:=hwi.ds.lt.2.2.2
      have hfdr:fd < wr.heap.size:=(Array.getElem?_eq_some_iff.1 hwi.fin).1
      have hwi7:=hwi.keeps hb7
      have hfc:=HFN.out a hmem B d ms mb mm W7 hwi7.ds (by omega) hwi7.bodies
      have k7:=(own6F hO7).1
      have d7:=cell1 hwi7.dbox
      have HFC:=hid hfc
      have HWI7:=hid hwi7
      have HO7:=hid hO7
      have HW7:=hid hW7
      have HBr7:=hid (HBr.out.trans (hb7.mono HBr.out.size))
      have HTK:=hid htk
      have HLEN:=hid hle
      have HMEM:=hid hmem
      have HBLA:=hid (And.intro (hma.blies.below (hb7.mono (by omega))) (fun q hq=>SIn.keeps (hb7.mono (by omega)) _ (hma.body q hq)))
      have HEB:=hid eb
      have hgs:g < wr.heap.size:=by omega
      have hand:=and_l (effF P.e a.name)
      have hant:=and_t (effF P.e a.name)
      rw [hW7] at k7 d7
      clear hat hma htk hle ep eb hpn hbn hW7 hb7 hO7 hwi hwi7 hfc hmem
      by_cases hrk:a.res.k=0
      · have HB0:=hid (show (decide (a.res.k ≠ 0) && (effF P.e a.name).l)=false by simp [hrk])
        have HRK:=hid hrk
        clear hrk
        go_wp2_with fail
        rw [← HW7.out]
        refine HFC.out.mono ?_;rintro z w8 ⟨rfl,hD8,hw8⟩
        have hwi8:=HWI7.out.calls (by omega) hD8 hw8
        have hO8:=(hw8.block wr.heap.size (by omega) (by omega)).trans HO7.out
        obtain⟨k80,k82,k85⟩:=own6F hO8
        have f8:=cell1 hwi8.fbox
        rw [HRK.out] at k82
        have hnx:=fun b=>fnext_any fd p0 ((P.e.funcs.take k).flatMap (badsF P.e)) b w8 hwi8.fin (by have h1:=HLEN.out;have h2:=HBL.out;rw [badsF_len] at h1;omega)
        have HNX:=hid hnx
        have HD8:=hid hD8
        have HW8:=hid hw8
        have HO8:=hid hO8
        clear hD8 hw8 hwi8 hO8 hnx k7 d7
        go_wp2_with fail
        refine (HNX.out _).mono ?_;rintro z w9 ⟨rfl,hp9⟩
        obtain⟨hwi9,hwr9⟩:=HWI7.out.step (by omega) HD8.out HW8.out hp9
        have hO9:=(hp9.rest wr.heap.size (by omega)).trans HO8.out
        obtain⟨W10,hW10⟩:∃ W10,W10=w9.alloc (.cells #[.bool (effF P.e a.name).t] 4):=⟨_,rfl⟩
        have hb10:Below w9.heap.size w9 W10:=by rw [hW10];exact below_box w9 _
        have hT10:W10.heap[w9.heap.size]? = some (.cells #[.bool (effF P.e a.name).t] 4 (0,0)):=by rw [hW10];exact (MapKept.heap_alloc _ _).1
        have hl9:=hwi9.ds.lt
        have hfl9:fd < w9.heap.size:=(Array.getElem?_eq_some_iff.1 hwi9.fin).1
        have hO10:=(hb10.block wr.heap.size (Array.getElem?_eq_some_iff.1 hO9).1).trans hO9
        have k10:=(own6F hO10).2.2
        have hs79:=hwr9.wr.size
        have hb7w:Below B W7 w9:=hwr9.wr.below (fun g hg=>HWI7.out.far g hg |>.1) (by omega)
        have hall:=eachStmt_any (w1V P.e B d ms mb mm fd p0 db (fd+1) w9.heap.size a ((P.e.funcs.take k).flatMap (badsF P.e) ++ [decide (a.res.k ≠ 0) && (effF P.e a.name).l])) (w1V_ok _ _ _ _ _ _ _ _ _ _ _ _ _ (by omega) (by omega)) [] (fun g=>g=mm ∨ g=fd) a.body a.bv W10
          ((HBLA.out.1.below hb7w).below (hb10.mono (show B≤w9.heap.size by omega))) (fun q hq=>SIn.keeps (hb10.mono (show B≤w9.heap.size by omega)) _ (SIn.keeps hb7w _ (HBLA.out.2 q hq)))
          ⟨fun q hq=>HMF.out a HMEM.out q (by simpa using hq),by have h1:=HLEN.out;have h2:=HBL.out;rw [badsF_len] at h1;rw [List.length_append,List.nil_append,flats_len,List.length_singleton];omega⟩ (show B≤W10.heap.size by have:=hb10.size;omega)
          ⟨by rw [List.map_nil,List.append_nil,HB0.out];exact hwi9.keeps hb10,hT10⟩
        rw [HEB.out] at hall
        have HALL:=hid hall
        have HW10:=hid hW10
        have hd10:=cell1 (hwi9.keeps hb10).dbox
        have hf10:=cell1 (hwi9.keeps hb10).fbox
        have HBr10:=hid ((HBr7.out.trans (hwr9.wr.below (B:=W1.heap.size) (fun g hg=>by rcases hg with h|h <;> omega) (by have:=HBr7.out.size;omega))).trans (hb10.mono (by have:=HBr7.out.size;omega)))
        rw [hW10] at k10 hd10 hf10
        clear hp9 hwi9 hwr9 hO9 hb10 hT10 hO10 hall hW10 k80 k82 k85 f8
        go_wp2_with fail
        rw [← HW10.out]
        refine HALL.out.mono ?_;rintro z w11 ⟨rfl,O2,hX,hw11⟩
        have hX1:=hX.1
        rw [List.nil_append,List.append_assoc] at hX1
        have hX2:WI P.e B d ms mb mm fd p0 db (fd+1) ((P.e.funcs.take (k+1)).flatMap (badsF P.e)) (fun g=>g=mm ∨ g=fd) w11:=by
          have ho:=hX1.own
          rw [HTK.out]
          rw [ho] at hX1
          exact hX1
        have HX2:=hid hX2
        have HB11:=hid (HBr10.out.trans (hw11.wr.below (B:=W1.heap.size) (fun g hg=>by rcases hg with h|h <;> omega) HBr10.out.size))
        clear hX hX1 hX2 hw11 k10 hd10 hf10 p0' p1 p2 p3 p4 p5
        go_wp2_with fail
        go_roundw
        case rel=>exact⟨k+1,by omega,by go_num,HX2,HB11⟩
        case measure=>simp [intOf];omega
      · have HB0:=hid (show (decide (a.res.k ≠ 0) && (effF P.e a.name).l)=(effF P.e a.name).l by simp [hrk])
        have HRK:=hid (bne_iff_ne.2 hrk)
        clear hrk
        go_wp2_with fail
        rw [← HW7.out]
        refine HFC.out.mono ?_;rintro z w8 ⟨rfl,hD8,hw8⟩
        have hwi8:=HWI7.out.calls (by omega) hD8 hw8
        have hO8:=(hw8.block wr.heap.size (by omega) (by omega)).trans HO7.out
        obtain⟨k80,k82,k85⟩:=own6F hO8
        have f8:=cell1 hwi8.fbox
        have hrk2:=HRK.out
        have hnx:=fun b=>fnext_any fd p0 ((P.e.funcs.take k).flatMap (badsF P.e)) b w8 hwi8.fin (by have h1:=HLEN.out;have h2:=HBL.out;rw [badsF_len] at h1;omega)
        have HNX:=hid hnx
        have HD8:=hid hD8
        have HW8:=hid hw8
        have HO8:=hid hO8
        clear hD8 hw8 hwi8 hO8 hnx k7 d7
        go_wp2_with fail
        refine (HNX.out _).mono ?_;rintro z w9 ⟨rfl,hp9⟩
        obtain⟨hwi9,hwr9⟩:=HWI7.out.step (by omega) HD8.out HW8.out hp9
        have hO9:=(hp9.rest wr.heap.size (by omega)).trans HO8.out
        obtain⟨W10,hW10⟩:∃ W10,W10=w9.alloc (.cells #[.bool (effF P.e a.name).t] 4):=⟨_,rfl⟩
        have hb10:Below w9.heap.size w9 W10:=by rw [hW10];exact below_box w9 _
        have hT10:W10.heap[w9.heap.size]? = some (.cells #[.bool (effF P.e a.name).t] 4 (0,0)):=by rw [hW10];exact (MapKept.heap_alloc _ _).1
        have hl9:=hwi9.ds.lt
        have hfl9:fd < w9.heap.size:=(Array.getElem?_eq_some_iff.1 hwi9.fin).1
        have hO10:=(hb10.block wr.heap.size (Array.getElem?_eq_some_iff.1 hO9).1).trans hO9
        have k10:=(own6F hO10).2.2
        have hs79:=hwr9.wr.size
        have hb7w:Below B W7 w9:=hwr9.wr.below (fun g hg=>HWI7.out.far g hg |>.1) (by omega)
        have hall:=eachStmt_any (w1V P.e B d ms mb mm fd p0 db (fd+1) w9.heap.size a ((P.e.funcs.take k).flatMap (badsF P.e) ++ [decide (a.res.k ≠ 0) && (effF P.e a.name).l])) (w1V_ok _ _ _ _ _ _ _ _ _ _ _ _ _ (by omega) (by omega)) [] (fun g=>g=mm ∨ g=fd) a.body a.bv W10
          ((HBLA.out.1.below hb7w).below (hb10.mono (show B≤w9.heap.size by omega))) (fun q hq=>SIn.keeps (hb10.mono (show B≤w9.heap.size by omega)) _ (SIn.keeps hb7w _ (HBLA.out.2 q hq)))
          ⟨fun q hq=>HMF.out a HMEM.out q (by simpa using hq),by have h1:=HLEN.out;have h2:=HBL.out;rw [badsF_len] at h1;rw [List.length_append,List.nil_append,flats_len,List.length_singleton];omega⟩ (show B≤W10.heap.size by have:=hb10.size;omega)
          ⟨by rw [List.map_nil,List.append_nil,HB0.out];exact hwi9.keeps hb10,hT10⟩
        rw [HEB.out] at hall
        have HALL:=hid hall
        have HW10:=hid hW10
        have hd10:=cell1 (hwi9.keeps hb10).dbox
        have hf10:=cell1 (hwi9.keeps hb10).fbox
        have HBr10:=hid ((HBr7.out.trans (hwr9.wr.below (B:=W1.heap.size) (fun g hg=>by rcases hg with h|h <;> omega) (by have:=HBr7.out.size;omega))).trans (hb10.mono (by have:=HBr7.out.size;omega)))
        rw [hW10] at k10 hd10 hf10
        clear hp9 hwi9 hwr9 hO9 hb10 hT10 hO10 hall hW10 k80 k82 k85 f8
        go_wp2_with fail
        rw [← HW10.out]
        refine HALL.out.mono ?_;rintro z w11 ⟨rfl,O2,hX,hw11⟩
        have hX1:=hX.1
        rw [List.nil_append,List.append_assoc] at hX1
        have hX2:WI P.e B d ms mb mm fd p0 db (fd+1) ((P.e.funcs.take (k+1)).flatMap (badsF P.e)) (fun g=>g=mm ∨ g=fd) w11:=by
          have ho:=hX1.own
          rw [HTK.out]
          rw [ho] at hX1
          exact hX1
        have HX2:=hid hX2
        have HB11:=hid (HBr10.out.trans (hw11.wr.below (B:=W1.heap.size) (fun g hg=>by rcases hg with h|h <;> omega) HBr10.out.size))
        clear hX hX1 hX2 hw11 k10 hd10 hf10 p0' p1 p2 p3 p4 p5
        go_wp2_with fail
        go_roundw
        case rel=>exact⟨k+1,by omega,by go_num,HX2,HB11⟩
        case measure=>simp [intOf];omega
    · have hkk:P.e.funcs.take k=P.e.funcs:=List.take_of_length_le (by rw [← HN3.out];omega)
      have hwi:=HWr.out
      rw [hkk] at hwi
      have HWI2:=hid hwi
      have hO9:=(HBr.out.block w.heap.size (by omega)).trans HO1.out
      obtain⟨q0,q1,q2,q3⟩:=cells_prog _ _ _ _ hO9
      clear hwi hkk hO9
      go_wp2_with fail
      clear q0 q1 q2 q3
      go_loopw [51] (fun q wr=>∃ k:Nat,k≤N4∧q = .int .i64 k∧Hid (WI P.e B d ms mb mm fd p0 db (fd+1) (P.e.funcs.flatMap (badsF P.e) ++ (P.threads.take k).flatMap (badsT P.e)) (fun g=>g=mm ∨ g=fd) wr)∧Hid (Below W1.heap.size W1 wr)) (fun q _=>N4 - (intOf q).toNat)
      case atStart=>exact⟨0,by omega,rfl,hid (by rw [List.take_zero,List.flatMap_nil,List.append_nil];exact HWI2.out),HBr⟩
      case round =>
        obtain⟨j,hjN,rfl,HWr,HBr⟩:=hrel
        have hsr:=HBr.out.size
        by_cases hj:j < N4
        · obtain⟨g,off,rfl,hg⟩:=HGT.out (by omega)
          have hjx:j < P.threads.length:=by rw [← HN4.out];exact hj
          have hbB:Below B w wr:=(HB1.out.mono hBw).trans (HBr.out.mono (by omega))
          have hat:=((HTL.out.below hbB).at rfl j hjx).2
          have hma:=(HTI.out _ (List.getElem_mem hjx)).keeps hbB
          have hmem:=List.getElem_mem hjx
          obtain⟨htk,hle⟩:=take_flat (badsT P.e) P.threads j hjx
          have hle:(P.e.funcs.flatMap (badsF P.e) ++ (P.threads.take j).flatMap (badsT P.e)).length+(badsT P.e P.threads[j]).length≤(bads P).length:=by
            rw [htk,List.length_append] at hle
            unfold bads
            rw [List.length_append,List.length_append];omega
          have hwi:=HWr.out
          generalize P.threads[j] = a at hat hma htk hle hmem
          have p0':wr.cell? ⟨g,off+j * 1,none⟩ = some a.v:=hat 0 _ rfl
          obtain⟨bo,bc,eb,-⟩:=hma.lies.form
          obtain⟨bn,hbn⟩:∃ n,n=a.list.length:=⟨_,rfl⟩
          rw [← hbn] at eb
          rw [eb,Nat.mul_one] at p0'
          have f7:=cell1 hwi.fbox
          have hnx:=fnext_any fd p0 (P.e.funcs.flatMap (badsF P.e) ++ (P.threads.take j).flatMap (badsT P.e)) false wr hwi.fin (by have:=HBL.out;rw [badsT_len] at hle;omega)
          have HNX:=hid hnx
          have HWI7:=hid hwi
          have HTK:=hid htk
          have HLEN:=hid hle
          have HMEM:=hid hmem
          have HBLA:=hid (And.intro hma.lies hma.list)
          have HEB:=hid eb
          have hgs:g < wr.heap.size:=by omega
          clear hat hma htk hle eb hbn hwi hmem hnx
          go_wp2_with fail
          refine HNX.out.mono ?_;rintro z w9 ⟨rfl,hp9⟩
          obtain⟨hwi9,hwr9⟩:=HWI7.out.step (by omega) HWI7.out.ds (Wr.refl _ _) hp9
          have hs79:=hwr9.wr.size
          have hb7w:Below B wr w9:=hwr9.wr.below (fun g hg=>HWI7.out.far g hg |>.1) (by omega)
          have hall:=eachStmt_any (w2V P.e B d ms mb mm fd p0 db (fd+1) ((P.e.funcs.flatMap (badsF P.e) ++ (P.threads.take j).flatMap (badsT P.e)) ++ [false])) (w2V_ok _ _ _ _ _ _ _ _ _ _ _) [] (fun g=>g=mm ∨ g=fd) a.list a.v w9
            (HBLA.out.1.below hb7w) (fun q hq=>SIn.keeps hb7w _ (HBLA.out.2 q hq))
            ⟨fun q hq=>HMT.out a HMEM.out q (by simpa using hq),fit_len p0 _ false _ (by have h1:=HLEN.out;have h2:=HBL.out;rw [badsT_len] at h1;rw [flats_len];omega)⟩ (show B≤w9.heap.size by omega)
            (show WI _ _ _ _ _ _ _ _ _ _ _ _ _ by rw [List.map_nil,List.append_nil];exact hwi9)
          rw [HEB.out] at hall
          have HALL:=hid hall
          have HBr10:=hid (HBr.out.trans (hwr9.wr.below (B:=W1.heap.size) (fun g hg=>by rcases hg with h|h <;> omega) HBr.out.size))
          clear hp9 hwi9 hwr9 hall f7 p0'
          go_wp2_with fail
          refine HALL.out.mono ?_;rintro z w11 ⟨rfl,O2,hX,hw11⟩
          have hX1:WI P.e B d ms mb mm fd p0 db (fd+1) (((P.e.funcs.flatMap (badsF P.e) ++ (P.threads.take j).flatMap (badsT P.e)) ++ [false]) ++ ([] ++ St.flats false a.list).map (badT P.e)) O2 w11:=hX
          rw [List.nil_append,List.append_assoc] at hX1
          have hX2:WI P.e B d ms mb mm fd p0 db (fd+1) (P.e.funcs.flatMap (badsF P.e) ++ (P.threads.take (j+1)).flatMap (badsT P.e)) (fun g=>g=mm ∨ g=fd) w11:=by
            have ho:=hX1.own
            rw [HTK.out,← List.append_assoc]
            rw [ho] at hX1
            exact hX1
          have HX2:=hid hX2
          have HB11:=hid (HBr10.out.trans (hw11.wr.below (B:=W1.heap.size) (fun g hg=>by rcases hg with h|h <;> omega) HBr10.out.size))
          clear hX hX1 hX2 hw11
          go_wp2_with fail
          go_roundw
          case rel=>exact⟨j+1,by omega,by go_num,HX2,HB11⟩
          case measure=>simp [intOf];omega
        · have hkk:P.threads.take j=P.threads:=List.take_of_length_le (by rw [← HN4.out];omega)
          have hwi:=HWr.out
          rw [hkk] at hwi
          have hfin:wr.heap[fd]? = some (.cells (fdV p0 (bads P)) 125 (0,0)):=hwi.fin
          unfold fdV at hfin
          obtain⟨v1,hv1⟩:∃ v,v=firstV p0 (bads P):=⟨_,rfl⟩
          obtain⟨v2,hv2⟩:∃ v,v=(firstT (bads P)).isSome:=⟨_,rfl⟩
          rw [← hv1,← hv2] at hfin
          obtain⟨g0,g1,g2⟩:=own3E hfin
          have fb0:=cell1 hwi.fbox
          have hfdl:fd < wr.heap.size:=(Array.getElem?_eq_some_iff.1 hfin).1
          have hfbl:fd+1 < wr.heap.size:=(Array.getElem?_eq_some_iff.1 hwi.fbox).1
          have HV:=hid (And.intro hv1 hv2)
          clear hwi hkk hfin hv1 hv2
          iterate 8 (try clear q0 q1 q2 q3)
          go_wp2_with fail
          refine wp_region_held_drew (S:=SameTo (wr.heap.size) wr) (by kernel_rfl) (SameTo.drew _ _) (fun hSw=>?_)
          refine wt (i:=0) (oi:={ dst:=some 61,op:=Op.load 123 (Operand.tmp 5),type:=123,pos := "wrong.go:43", after:=#[],guard:=none }) (v:=.pointer (some ⟨fd,0,none⟩)) (fun W hW=>?_) hSw ?_
          · have fb0:=hW.cell (by dsimp only;omega) fb0
            first|(go_simp;done)|rfl
          try simp only [Act.put,q1,q2,q3]
          refine wt (i:=1) (oi:={ dst:=some 62,op:=Op.nilCheck (Operand.tmp 61),type:=0,pos := "wrong.go:43", after:=#[gd 0],guard:=none }) (v:=.pointer (some ⟨fd,0,none⟩)) (fun W hW=>?_) hSw ?_
          · first|(go_simp;done)|rfl
          try simp only [Act.put,q1,q2,q3]
          refine wt (i:=2) (oi:={ dst:=some 63,op:=Op.fieldAddr 125 (Operand.tmp 62) 1,type:=0,pos := "wrong.go:43", after:=#[gd 1],guard:=none }) (v:=.pointer (some ⟨fd,1,none⟩)) (fun W hW=>?_) hSw ?_
          · first|(go_simp;done)|rfl
          try simp only [Act.put,q1,q2,q3]
          refine wt (i:=3) (oi:={ dst:=some 64,op:=Op.load 3 (Operand.tmp 63),type:=3,pos := "wrong.go:43", after:=#[gd 2],guard:=none }) (v:=.int .i64 v1) (fun W hW=>?_) hSw ?_
          · have g1:=hW.cell (by dsimp only;omega) g1
            first|(go_simp;done)|rfl
          try simp only [Act.put,q1,q2,q3]
          refine wt (i:=4) (oi:={ dst:=some 65,op:=Op.load 123 (Operand.tmp 5),type:=123,pos := "wrong.go:43", after:=#[{ on:=8,ground:=Ground.gcOnly Departure.lateStores }],guard:=none }) (v:=.pointer (some ⟨fd,0,none⟩)) (fun W hW=>?_) hSw ?_
          · have fb0:=hW.cell (by dsimp only;omega) fb0
            first|(go_simp;done)|rfl
          try simp only [Act.put,q1,q2,q3]
          refine wt (i:=5) (oi:={ dst:=some 66,op:=Op.nilCheck (Operand.tmp 65),type:=0,pos := "wrong.go:43", after:=#[gd 4,{ on:=8,ground:=Ground.gcOnly Departure.lateStores }],guard:=none }) (v:=.pointer (some ⟨fd,0,none⟩)) (fun W hW=>?_) hSw ?_
          · first|(go_simp;done)|rfl
          try simp only [Act.put,q1,q2,q3]
          refine wt (i:=6) (oi:={ dst:=some 67,op:=Op.fieldAddr 125 (Operand.tmp 66) 2,type:=0,pos := "wrong.go:43", after:=#[gd 5,{ on:=8,ground:=Ground.gcOnly Departure.lateStores }],guard:=none }) (v:=.pointer (some ⟨fd,2,none⟩)) (fun W hW=>?_) hSw ?_
          · first|(go_simp;done)|rfl
          try simp only [Act.put,q1,q2,q3]
          refine wt (i:=7) (oi:={ dst:=some 68,op:=Op.load 4 (Operand.tmp 67),type:=4,pos := "wrong.go:43", after:=#[gd 6,{ on:=8,ground:=Ground.gcOnly Departure.lateStores }],guard:=none }) (v:=.bool v2) (fun W hW=>?_) hSw ?_
          · have g2:=hW.cell (by dsimp only;omega) g2
            first|(go_simp;done)|rfl
          try simp only [Act.put,q1,q2,q3]
          refine wt (i:=8) (oi:={ dst:=some 2,op:=Op.assign (Operand.tmp 64),type:=3,pos := "wrong.go:43", after:=#[gd 3,gp 0,gp 1,gp 2,gp 3,{ on:=4,ground:=Ground.textOnly Departure.lateStores },{ on:=5,ground:=Ground.textOnly Departure.lateStores },{ on:=6,ground:=Ground.textOnly Departure.lateStores },{ on:=7,ground:=Ground.textOnly Departure.lateStores }],guard:=none }) (v:=.int .i64 v1) (fun W hW=>?_) hSw ?_
          · first|(go_simp;done)|rfl
          try simp only [Act.put,q1,q2,q3]
          refine wt (i:=9) (oi:={ dst:=some 3,op:=Op.assign (Operand.tmp 68),type:=4,pos := "wrong.go:43", after:=#[gd 7,gc 8,gp 0,gp 1,gp 2,gp 3,gp 4,gp 5,gp 6,gp 7,gp 8],guard:=none }) (v:=.bool v2) (fun W hW=>?_) hSw ?_
          · first|(go_simp;done)|rfl
          try simp only [Act.put,q1,q2,q3]
          refine wpAnyH_done (by kernel_rfl) ?_ _
          go_wp2_with fail
          go_ret2
          have he:=HV.out
          exact⟨by rw [← he.1,← he.2];rfl,HB1.out.trans ((HBr.out.drew).mono (by omega))⟩
end Go.Proofs.YtdhieihcmnpneaaGreatDoor
