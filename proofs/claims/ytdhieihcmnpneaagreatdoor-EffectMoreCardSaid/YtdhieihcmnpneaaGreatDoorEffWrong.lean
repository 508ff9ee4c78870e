/- The first place where something stands that may not stand there, as package effect finds it: the finder and its two visitors. -/
import Derived.Test.YtdhieihcmnpneaaGreatDoorRows
import Derived.Test.YtdhieihcmnpneaaGreatDoorTypWt
import Derived.Test.YtdhieihcmnpneaaGreatDoorEffPlace
import Derived.Test.YtdhieihcmnpneaaGreatDoorEffOwn
namespace Go.Proofs.YtdhieihcmnpneaaGreatDoor
open Lib (hid)
set_option maxHeartbeats 16000000
open Go.RowKit
set_option maxRecDepth 100000
theorem firstT_snoc (b:Bool):∀ bs:List Bool,firstT (bs ++ [b])=match firstT bs with|some j=>some j|none=>if b=true then some bs.length else none
  | []=>by cases b <;> rfl
  | a :: r=>by
    rw [List.cons_append,firstT,firstT]
    cases a with
    | true=>rfl
    | false =>
      simp only [Bool.false_eq_true,if_false]
      rw [firstT_snoc b r]
      cases firstT r with
      | some j=>rfl
      | none=>cases b <;> simp
def firstV (p0:Nat) (bs:List Bool):Int:=match firstT bs with
  | none=>0
  | some j=>((p0+j:Nat):Int)
def fdV (p0:Nat) (bs:List Bool):Array Value:=#[.int .i64 ((p0+bs.length:Nat):Int),.int .i64 (firstV p0 bs),.bool (firstT bs).isSome]
theorem Put.then {b:Nat} {o o':Obj} {a w w':World} (h:Put b o a w) (k:Put b o' w w'):Put b o' a w':=
  ⟨k.os.trans h.os,k.tape.trans h.tape,k.output.trans h.output,k.size.trans h.size,k.at_b,fun i hi=>(k.rest i hi).trans (h.rest i hi)⟩
theorem fnext_any (fd p0:Nat) (bs:List Bool) (b:Bool) (w:World) (h:w.heap[fd]? = some (.cells (fdV p0 bs) 125 (0,0))) (hb:p0+bs.length≤1000000000) :
    Calls Tryz.prog 62 #[.pointer (some ⟨fd,0,none⟩),.bool b] w fun e w'=>e = .returned (.tuple #[])∧Put fd (.cells (fdV p0 (bs ++ [b])) 125 (0,0)) w w':=by
  unfold fdV at h
  obtain⟨c0,c1,c2⟩:=own3E h
  have f0:=Lib.frozen_of_heap (w:=w) h 0
  have f1:=Lib.frozen_of_heap (w:=w) h 1
  have f2:=Lib.frozen_of_heap (w:=w) h 2
  obtain⟨n,hn⟩:∃ n,n=p0+bs.length:=⟨_,rfl⟩
  rw [← hn] at h c0 hb
  have hn1:((p0+(bs ++ [b]).length:Nat):Int)=(n:Int)+1:=by rw [List.length_append];simp;omega
  have hfs:=firstT_snoc b bs
  have hv:firstV p0 (bs ++ [b])=match firstT (bs ++ [b]) with|none=>0|some j=>((p0+j:Nat):Int):=rfl
  have hv0:firstV p0 bs=match firstT bs with|none=>0|some j=>((p0+j:Nat):Int):=rfl
  have hnx:((n:Int)+1).toNat≤9223372036854775807:=by omega
  cases hf:firstT bs with
  | some j =>
    rw [hf] at hfs c2 h hv0
    simp only at hfs hv0
    rw [hfs] at hv
    simp only at hv
    have HR:fdV p0 (bs ++ [b])=#[.int .i64 ((n:Int)+1),.int .i64 (firstV p0 bs),.bool true]:=by unfold fdV;rw [hn1,hv,hfs,hv0];rfl
    have HQ:=hid HR
    have HH:=hid h
    clear HR hfs hv hv0 hf hn hn1
    cases b
    all_goals
      go_enter Tryz.func62,Tryz.ntmps62
      go_wp2_with fail
      go_end0
      refine⟨rfl, ?_⟩
      rw [HQ.out]
      exact put_cellE (o:=0) (v:=.int .i64 ((n:Int)+1)) HH.out
  | none =>
    rw [hf] at hfs c2 h hv0
    simp only at hfs hv0
    rw [hv0] at h c1
    cases b with
    | false =>
      rw [hfs] at hv
      simp only [Bool.false_eq_true,if_false] at hv hfs
      have HR:fdV p0 (bs ++ [false])=#[.int .i64 ((n:Int)+1),.int .i64 0,.bool false]:=by unfold fdV;rw [hn1,hv,hfs];rfl
      have HQ:=hid HR
      have HH:=hid h
      clear HR hfs hv hv0 hf hn hn1
      go_enter Tryz.func62,Tryz.ntmps62
      go_wp2_with fail
      go_end0
      refine⟨rfl, ?_⟩
      rw [HQ.out]
      exact put_cellE (o:=0) (v:=.int .i64 ((n:Int)+1)) HH.out
    | true =>
      rw [hfs] at hv
      simp only [if_true] at hv hfs
      have HR:fdV p0 (bs ++ [true])=#[.int .i64 ((n:Int)+1),.int .i64 (n:Int),.bool true]:=by unfold fdV;rw [hn1,hv,hfs,hn];rfl
      have HQ:=hid HR
      have HH:=hid h
      have hp1:=put_cellE (o:=1) (v:=.int .i64 (n:Int)) h
      have hp2:=put_cellE (o:=2) (v:=.bool true) hp1.at_b
      have hp3:=put_cellE (o:=0) (v:=.int .i64 ((n:Int)+1)) hp2.at_b
      have HP:=hid ((hp1.then hp2).then hp3)
      clear HR hfs hv hv0 hf hn hn1 hp1 hp2 hp3
      go_enter Tryz.func62,Tryz.ntmps62
      go_wp2_with fail
      go_end0
      refine⟨rfl, ?_⟩
      rw [HQ.out]
      exact HP.out
theorem and_t (a:Ef):(bits BinOp.and .u8 a.val 1 != 0)=a.t:=by
  obtain⟨a1,a2,a3⟩:=a
  cases a1 <;> cases a2 <;> cases a3 <;> rfl
theorem and_o (a:Ef):(bits BinOp.and .u8 a.val 2 != 0)=a.o:=by
  obtain⟨a1,a2,a3⟩:=a
  cases a1 <;> cases a2 <;> cases a3 <;> rfl
theorem and_l (a:Ef):(bits BinOp.and .u8 a.val 4 != 0)=a.l:=by
  obtain⟨a1,a2,a3⟩:=a
  cases a1 <;> cases a2 <;> cases a3 <;> rfl
structure WI (e:En) (B d ms mb mm fd p0 db fb:Nat) (bs:List Bool) (O:Nat→Prop) (w:World):Prop where
  own:O=fun g=>g=mm ∨ g=fd
  ds:Ds e B d ms mb mm w
  fin:w.heap[fd]? = some (.cells (fdV p0 bs) 125 (0,0))
  dbox:w.heap[db]? = some (.cells #[.pointer (some ⟨d,0,none⟩)] 52 (0,0))
  fbox:w.heap[fb]? = some (.cells #[.pointer (some ⟨fd,0,none⟩)] 123 (0,0))
  bodies:BodiesIn w B e
  ne:fd ≠ d∧fd ≠ ms∧fd ≠ mb∧fd ≠ mm∧fd ≠ db∧fd ≠ fb∧db ≠ mm∧fb ≠ mm∧B≤fd
theorem WI.keeps {e:En} {B d ms mb mm fd p0 db fb:Nat} {bs:List Bool} {O:Nat→Prop} {w w':World} (h:WI e B d ms mb mm fd p0 db fb bs O w) (hb:Below w.heap.size w w'):WI e B d ms mb mm fd p0 db fb bs O w':=
  ⟨h.own,h.ds.keeps hb,(hb.block fd (Array.getElem?_eq_some_iff.1 h.fin).1).trans h.fin,(hb.block db (Array.getElem?_eq_some_iff.1 h.dbox).1).trans h.dbox,(hb.block fb (Array.getElem?_eq_some_iff.1 h.fbox).1).trans h.fbox,h.bodies.keeps (hb.mono (by have:=h.ds.far;have:=h.ds.lt;omega)),h.ne⟩
theorem WI.far {e:En} {B d ms mb mm fd p0 db fb:Nat} {bs:List Bool} {O:Nat→Prop} {w:World} (h:WI e B d ms mb mm fd p0 db fb bs O w):∀ b,O b→B≤b∧b < w.heap.size:=by
  intro g hg
  rw [h.own] at hg
  rcases hg with rfl|rfl
  · exact⟨h.ds.far,h.ds.lt.2.2.2⟩
  · exact⟨h.ne.2.2.2.2.2.2.2.2,(Array.getElem?_eq_some_iff.1 h.fin).1⟩
theorem WI.step {e:En} {B d ms mb mm fd p0 db fb:Nat} {bs:List Bool} {b:Bool} {O:Nat→Prop} {w w2 w3:World} (h:WI e B d ms mb mm fd p0 db fb bs O w) (hBw:B≤w.heap.size) (hD:Ds e B d ms mb mm w2) (hw:Wr (fun g=>g=mm) w w2) (hp:Put fd (.cells (fdV p0 (bs ++ [b])) 125 (0,0)) w2 w3) :
    WI e B d ms mb mm fd p0 db fb (bs ++ [b]) O w3∧WrO O w w3 O:=by
  obtain⟨n1,n2,n3,n4,n5,n6,n7,n8,n9⟩:=h.ne
  have hall:=(hw.mono (S':=fun g=>g=mm ∨ g=fd) (fun g hg=>.inl hg)).trans (Wr.of_put hp (.inr rfl))
  have hdl:db < w.heap.size:=(Array.getElem?_eq_some_iff.1 h.dbox).1
  have hfl:fb < w.heap.size:=(Array.getElem?_eq_some_iff.1 h.fbox).1
  refine⟨⟨h.own,hD.after (S:=fun g=>g=fd) (Wr.of_put hp rfl) (fun g hg=>by subst hg;omega) (hD.met.of (hp.rest mm (by omega))),hp.at_b,((hp.rest db (by omega)).trans (hw.block db hdl (by omega))).trans h.dbox,((hp.rest fb (by omega)).trans (hw.block fb hfl (by omega))).trans h.fbox,h.bodies.keeps (hall.below (fun g hg=>?_) hBw),h.ne⟩,by rw [h.own];exact hall,fun g hg=>.inl hg⟩
  rcases hg with rfl|rfl
  · exact h.ds.far
  · exact n9
attribute [local go_sem ↓] loadS_eq
theorem wrong1_step (e:En) (B d ms mb mm fd p0 db fb tb:Nat) (T:Bool) (bs:List Bool) (O:Nat→Prop) (s:St) (i:Bool) (w:World) (h:WI e B d ms mb mm fd p0 db fb bs O w) (hT:w.heap[tb]? = some (.cells #[.bool T] 4 (0,0))) (htn:tb ≠ mm) (hI:SIn w B s) (hm:MayS e s) (hlen:p0+bs.length≤1000000000) (hBw:B≤w.heap.size) :
    Calls Tryz.prog 63 #[.agg s.arr,.bool i,.pointer (some ⟨db,0,none⟩),.pointer (some ⟨fb,0,none⟩),.pointer (some ⟨tb,0,none⟩)] w fun x w'=>x = .returned (.tuple #[])∧WI e B d ms mb mm fd p0 db fb (bs ++ [((effOne e s).o && (i || T)) || (i && decide (s.h.k=7))]) O w'∧WrO O w w' O:=by
  obtain⟨W1,hW1⟩:∃ W1,W1=w.alloc (.cells s.arr 64):=⟨_,rfl⟩
  have hb1:Below w.heap.size w W1:=by rw [hW1];exact below_box w _
  have hz1:W1.heap.size=w.heap.size+1:=by rw [hW1];simp
  have hO1:W1.heap[w.heap.size]? = some (.cells s.arr 64 (0,0)):=by rw [hW1];exact (MapKept.heap_alloc _ _).1
  have h1:=h.keeps hb1
  have hx1:=eff_stmt e B d ms mb mm s W1 h1.ds (by omega) (SIn.keeps (hb1.mono hBw) _ hI) h1.bodies hm
  obtain⟨a,ha⟩:∃ a,a=effOne e s:=⟨_,rfl⟩
  rw [← ha] at hx1 ⊢
  have db0:=cell1 h1.dbox
  have hL1:=loadS_row (arr_size s) hO1
  have hone:=hI.one
  have htl:tb < w.heap.size:=(Array.getElem?_eq_some_iff.1 hT).1
  have hT1:=(hb1.block tb htl).trans hT
  have HX:=hid hx1
  have H1:=hid h1
  have HT1:=hid hT1
  have HO1:=hid hO1
  have HW1:=hid hW1
  have HB1:=hid hb1
  have hBw1:B≤W1.heap.size:=by omega
  have hand:=and_o a
  rw [hW1] at db0 hL1
  have HLD:=hid (show db < W1.heap.size∧fb < W1.heap.size∧tb < W1.heap.size∧w.heap.size < W1.heap.size∧mm < w.heap.size∧fd < W1.heap.size by
    have:=(Array.getElem?_eq_some_iff.1 h1.dbox).1;have:=(Array.getElem?_eq_some_iff.1 h1.fbox).1;have:=h.ds.lt;have:=(Array.getElem?_eq_some_iff.1 h1.fin).1;omega)
  obtain⟨n1,n2,n3,n4,n5,n6,n7,n8,n9⟩:=h.ne
  obtain⟨b,hb⟩:∃ b,b=((a.o && (i || T)) || (i && decide (s.h.k=7))):=⟨_,rfl⟩
  rw [← hb]
  clear h hT hI hm hb1 hO1 h1 hx1 hW1 ha hT1
  obtain⟨ao,hao⟩:∃ x,x=a.o:=⟨_,rfl⟩
  rw [← hao] at hand hb
  clear hao
  have main:∀ (kk:Bool),kk=decide (s.h.k=7)→(Calls Tryz.prog 63 #[.agg s.arr,.bool i,.pointer (some ⟨db,0,none⟩),.pointer (some ⟨fb,0,none⟩),.pointer (some ⟨tb,0,none⟩)] w fun x w'=>x = .returned (.tuple #[])∧WI e B d ms mb mm fd p0 db fb (bs ++ [b]) O w'∧WrO O w w' O):=by
    intro kk hkk
    have hk7:(s.h.k == 7)=kk:=by rw [hkk];by_cases h:s.h.k=7 <;> simp [h]
    rw [← hkk] at hb
    clear hkk
    cases ao
    all_goals
      cases i
      all_goals
        cases T
        all_goals
          cases kk
          all_goals
            go_enter Tryz.func63,Tryz.ntmps63
            go_wp2_with fail
            rw [← HW1.out]
            refine HX.out.mono ?_;rintro z w2 ⟨rfl,hD2,hw2⟩
            have fb2:=cell1 ((hw2.block fb HLD.out.2.1 (by omega)).trans H1.out.fbox)
            have tb2:=cell1 ((hw2.block tb HLD.out.2.2.1 (by omega)).trans HT1.out)
            obtain⟨k2,-⟩:=st_h ((hw2.block w.heap.size HLD.out.2.2.2.1 (by have:=HLD.out;omega)).trans HO1.out)
            have hfd2:=(hw2.block fd HLD.out.2.2.2.2.2 (by omega)).trans H1.out.fin
            have HNX:=hid (fnext_any fd p0 bs b w2 hfd2 hlen)
            rw [hb] at HNX
            have HD2:=hid hD2
            have HW2:=hid hw2
            clear hD2 hw2 hfd2 db0 hL1
            go_wp2_with fail
            refine HNX.out.mono ?_;rintro z w3 ⟨rfl,hp3⟩
            have HP3:=hid hp3
            clear hp3
            go_wp2_with fail
            go_end0
            have hst:=H1.out.step hBw1 HD2.out HW2.out HP3.out
            rw [hb]
            exact⟨rfl,hst.1,(WrO.of_below HB1.out).trans hst.2⟩
  exact main _ rfl
def SameB2 (m f:Nat) (w W:World):Prop:=∀ k,k < w.heap.size→k ≠ m→k ≠ f→W.heap[k]? = w.heap[k]?
theorem SameB2.cell {m f:Nat} {w W:World} (h:SameB2 m f w W) {p:Addr} {u:Value} (hp:p.block < w.heap.size∧p.block ≠ m∧p.block ≠ f) (hc:w.cell? p=some u):W.cell? p=some u:=by
  rw [← hc];simp only [World.cell?,h _ hp.1 hp.2.1 hp.2.2]
theorem wrong2_step (e:En) (B d ms mb mm fd p0 db fb:Nat) (bs:List Bool) (O:Nat→Prop) (s:St) (i:Bool) (w:World) (h:WI e B d ms mb mm fd p0 db fb bs O w) (hI:SIn w B s) (hm:MayS e s) (hlen:p0+bs.length≤1000000000) (hBw:B≤w.heap.size) :
    Calls Tryz.prog 64 #[.agg s.arr,.bool i,.pointer (some ⟨fb,0,none⟩),.pointer (some ⟨db,0,none⟩)] w fun x w'=>x = .returned (.tuple #[])∧WI e B d ms mb mm fd p0 db fb (bs ++ [(if i=true then (effOne e s).o else (effOne e s).t) || decide (s.h.k=7)]) O w'∧WrO O w w' O:=by
  obtain⟨W1,hW1⟩:∃ W1,W1=w.alloc (.cells s.arr 64):=⟨_,rfl⟩
  have hb1:Below w.heap.size w W1:=by rw [hW1];exact below_box w _
  have hz1:W1.heap.size=w.heap.size+1:=by rw [hW1];simp
  have hO1:W1.heap[w.heap.size]? = some (.cells s.arr 64 (0,0)):=by rw [hW1];exact (MapKept.heap_alloc _ _).1
  have h1:=h.keeps hb1
  have hx1:=eff_stmt e B d ms mb mm s W1.drew (h1.ds.keeps (Below.refl _ _).drew) (show B≤W1.heap.size by omega) (SIn.keeps ((hb1.mono hBw).drew) _ hI) (h1.bodies.keeps (Below.refl _ _).drew) hm
  obtain⟨a,ha⟩:∃ a,a=effOne e s:=⟨_,rfl⟩
  rw [← ha] at hx1 ⊢
  have db0:=cell1 h1.dbox
  have fb0:=cell1 h1.fbox
  obtain⟨k0,-⟩:=st_h hO1
  have hone:=hI.one
  have hml:=h.ds.lt.2.2.2
  have hfdl:fd < W1.heap.size:=(Array.getElem?_eq_some_iff.1 h1.fin).1
  have hdbl:db < w.heap.size:=(Array.getElem?_eq_some_iff.1 h.dbox).1
  have hfbl:fb < w.heap.size:=(Array.getElem?_eq_some_iff.1 h.fbox).1
  have hfd0:fd < w.heap.size:=(Array.getElem?_eq_some_iff.1 h.fin).1
  have hLd:∀ W,SameB2 mm fd W1 W→(loadS ⟨w.heap.size,0,none⟩).run Tryz.prog W = .ok (.agg s.arr) W:=fun W hW=>loadS_row (arr_size s) ((hW w.heap.size (by omega) (by omega) (by omega)).trans hO1)
  have HX:=hid hx1
  have H1:=hid h1
  have HO1:=hid hO1
  have HW1:=hid hW1
  have HB1:=hid hb1
  have HFD:=hid h1.fin
  have HLF:=hid hfdl
  have HNE:=hid h.ne
  have hBw1:B≤W1.heap.size:=by omega
  have ht:=and_t a
  have ho:=and_o a
  obtain⟨n1,n2,n3,n4,n5,n6,n7,n8,n9⟩:=h.ne
  clear h hI hm hb1 hO1 h1 hx1 hW1 ha
  cases i
  · cases hx:a.t
    · have HA:=hid hx
      have hand:=ht
      rw [hx] at hand
      clear ht ho hx
      by_cases hk:s.h.k=7
      · have H7:=hid hk
        rw [hk] at k0
        clear hk
        go_enter Tryz.func64,Tryz.ntmps64
        go_wp2_with fail
        rw [← HW1.out]
        refine wp_region_held_drew (S:=SameB2 mm fd W1) (by kernel_rfl) (fun _ _ _ _=>rfl) (fun hSw=>?_)
        refine wt (i:=0) (oi:={ dst:=some 8,op:=Op.load 123 (Operand.tmp 2),type:=123,pos := "wrong.go:40", after:=#[],guard:=none }) (v:=.pointer (some ⟨fd,0,none⟩)) (fun W hW=>?_) hSw ?_
        · have fb0:=hW.cell (by dsimp only;omega) fb0
          first|(go_simp;done)|rfl
        try simp only [Act.put,q1,q2,q3]
        refine wt (i:=1) (oi:={ dst:=some 9,op:=Op.load 52 (Operand.tmp 3),type:=52,pos := "wrong.go:40", after:=#[],guard:=none }) (v:=.pointer (some ⟨d,0,none⟩)) (fun W hW=>?_) hSw ?_
        · have db0:=hW.cell (by dsimp only;omega) db0
          first|(go_simp;done)|rfl
        try simp only [Act.put,q1,q2,q3]
        refine wt (i:=2) (oi:={ dst:=some 10,op:=Op.load 64 (Operand.tmp 4),type:=64,pos := "wrong.go:40", after:=#[],guard:=none }) (v:=.agg s.arr) (fun W hW=>?_) hSw ?_
        · (have hl:=hLd W hW;go_simp)
        try simp only [Act.put,q1,q2,q3]
        refine wt (i:=4) (oi:={ dst:=some 12,op:=Op.move (Operand.tmp 6),type:=54,pos := "wrong.go:40", after:=#[],guard:=none }) (v:=.int .u8 1) (fun W hW=>?_) hSw ?_
        · first|(go_simp;done)|rfl
        try simp only [Act.put,q1,q2,q3]
        refine wpAnyH_ready (rs:=[3]) (by kernel_rfl) (by simp) ?_
        refine AllReadyH.cons (o:={ dst:=some 11,op:=Op.call { callee:=Callee.value (Operand.func 34),args:=#[Operand.tmp 9,Operand.tmp 10],argTypes:=#[52,64] },type:=54,pos := "wrong.go:40", after:=#[gd 1,gd 2],guard:=none }) rfl (fun K hK=>?_) AllReadyH.nil
        rw [if_pos (by rfl)]
        clear hSw
        go_simp
        refine HX.out.mono ?_;rintro z w2 ⟨rfl,hD2,hw2⟩
        have HD2:=hid hD2
        have HW2:=hid hw2
        clear hD2 hw2
        refine hK.out _ _ ((fun k hk hz _=>HW2.out.block k hk hz)) (fun hSw=>?_)
        clear hK K
        try simp only [Act.put,q1,q2,q3]
        refine wt (i:=5) (oi:={ dst:=some 13,op:=Op.binOp BinOp.and 54 (Operand.tmp 11) (Operand.tmp 12) 54,type:=54,pos := "wrong.go:40", after:=#[gd 3,gd 4],guard:=none }) (v:=.int .u8 (bits BinOp.and .u8 a.val 1)) (fun W hW=>?_) hSw ?_
        · first|(go_simp;done)|rfl
        try simp only [Act.put,q1,q2,q3]
        refine wt (i:=6) (oi:={ dst:=some 14,op:=Op.binOp BinOp.neq 54 (Operand.tmp 13) (Operand.const (Value.int IntKind.u8 0)) 54,type:=4,pos := "wrong.go:40", after:=#[gd 5],guard:=none }) (v:=.bool false) (fun W hW=>?_) hSw ?_
        · (have ha:=hand;go_simp)
        try simp only [Act.put,q1,q2,q3]
        refine wt (i:=7) (oi:={ dst:=some 15,op:=Op.move (Operand.tmp 14),type:=4,pos := "wrong.go:40", after:=#[gd 6,gc 3],guard:=none }) (v:=.bool false) (fun W hW=>?_) hSw ?_
        · first|(go_simp;done)|rfl
        try simp only [Act.put,q1,q2,q3]
        refine wt (i:=8) (oi:={ dst:=some 16,op:=Op.fieldAddr 64 (Operand.tmp 4) 0,type:=0,pos := "wrong.go:40", after:=#[{ on:=7,ground:=Ground.guard }],guard:=some (7,false) }) (v:=.pointer (some ⟨w.heap.size,0,none⟩)) (fun W hW=>?_) hSw ?_
        · first|(go_simp;done)|rfl
        try simp only [Act.put,q1,q2,q3]
        refine wt (i:=9) (oi:={ dst:=some 17,op:=Op.load 58 (Operand.tmp 16),type:=58,pos := "wrong.go:40", after:=#[gd 8,{ on:=7,ground:=Ground.guard }],guard:=some (7,false) }) (v:=.int .u8 7) (fun W hW=>?_) hSw ?_
        · have k0:=hW.cell (by dsimp only;omega) k0
          first|(go_simp;done)|rfl
        try simp only [Act.put,q1,q2,q3]
        refine wt (i:=10) (oi:={ dst:=some 18,op:=Op.binOp BinOp.eql 58 (Operand.tmp 17) (Operand.const (Value.int IntKind.u8 7)) 58,type:=4,pos := "wrong.go:40", after:=#[gd 9,{ on:=7,ground:=Ground.guard }],guard:=some (7,false) }) (v:=.bool true) (fun W hW=>?_) hSw ?_
        · (go_simp)
        try simp only [Act.put,q1,q2,q3]
        refine wt (i:=11) (oi:={ dst:=some 19,op:=Op.pick (Operand.tmp 15) (Operand.const (Value.bool true)) (Operand.tmp 18),type:=4,pos := "wrong.go:40", after:=#[gd 7,gd 10],guard:=none }) (v:=.bool true) (fun W hW=>?_) hSw ?_
        · first|(go_simp;done)|rfl
        try simp only [Act.put,q1,q2,q3]
        refine wpAnyH_ready (rs:=[12]) (by kernel_rfl) (by simp) ?_
        refine AllReadyH.cons (o:={ dst:=some 20,op:=Op.call { callee:=Callee.value (Operand.func 62),args:=#[Operand.tmp 8,Operand.tmp 19],argTypes:=#[123,4] },type:=0,pos := "wrong.go:40", after:=#[gd 0,gd 11,gc 7],guard:=none }) rfl (fun K hK=>?_) AllReadyH.nil
        rw [if_pos (by rfl)]
        clear hSw
        go_simp
        refine (fnext_any fd p0 bs true w2 ((HW2.out.block fd HLF.out (by have:=HNE.out;omega)).trans HFD.out) hlen).mono ?_;rintro z w3 ⟨rfl,hp3⟩
        have HP3:=hid hp3
        clear hp3
        refine hK.out _ _ ((fun k hk hz hf=>(HP3.out.rest k hf).trans (HW2.out.block k hk hz))) (fun hSw=>?_)
        clear hK K
        try simp only [Act.put,q1,q2,q3]
        refine wpAnyH_done (by kernel_rfl) ?_ _
        go_wp2_with fail
        go_end0
        have hst:=H1.out.step (b:=true) hBw1 HD2.out ((Wr.of_below (Below.refl W1.heap.size W1).drew).trans HW2.out) HP3.out
        first
          | exact⟨rfl,hst.1,(WrO.of_below HB1.out).trans hst.2⟩
          | have hb2:decide (s.h.k=7)=true:=by simp [H7.out]
            rw [hb2]
            exact⟨rfl,hst.1,(WrO.of_below HB1.out).trans hst.2⟩
      · have H7:=hid hk
        have h7:(s.h.k == 7)=false:=by simpa using hk
        clear hk
        go_enter Tryz.func64,Tryz.ntmps64
        go_wp2_with fail
        rw [← HW1.out]
        refine wp_region_held_drew (S:=SameB2 mm fd W1) (by kernel_rfl) (fun _ _ _ _=>rfl) (fun hSw=>?_)
        refine wt (i:=0) (oi:={ dst:=some 8,op:=Op.load 123 (Operand.tmp 2),type:=123,pos := "wrong.go:40", after:=#[],guard:=none }) (v:=.pointer (some ⟨fd,0,none⟩)) (fun W hW=>?_) hSw ?_
        · have fb0:=hW.cell (by dsimp only;omega) fb0
          first|(go_simp;done)|rfl
        try simp only [Act.put,q1,q2,q3]
        refine wt (i:=1) (oi:={ dst:=some 9,op:=Op.load 52 (Operand.tmp 3),type:=52,pos := "wrong.go:40", after:=#[],guard:=none }) (v:=.pointer (some ⟨d,0,none⟩)) (fun W hW=>?_) hSw ?_
        · have db0:=hW.cell (by dsimp only;omega) db0
          first|(go_simp;done)|rfl
        try simp only [Act.put,q1,q2,q3]
        refine wt (i:=2) (oi:={ dst:=some 10,op:=Op.load 64 (Operand.tmp 4),type:=64,pos := "wrong.go:40", after:=#[],guard:=none }) (v:=.agg s.arr) (fun W hW=>?_) hSw ?_
        · (have hl:=hLd W hW;go_simp)
        try simp only [Act.put,q1,q2,q3]
        refine wt (i:=4) (oi:={ dst:=some 12,op:=Op.move (Operand.tmp 6),type:=54,pos := "wrong.go:40", after:=#[],guard:=none }) (v:=.int .u8 1) (fun W hW=>?_) hSw ?_
        · first|(go_simp;done)|rfl
        try simp only [Act.put,q1,q2,q3]
        refine wpAnyH_ready (rs:=[3]) (by kernel_rfl) (by simp) ?_
        refine AllReadyH.cons (o:={ dst:=some 11,op:=Op.call { callee:=Callee.value (Operand.func 34),args:=#[Operand.tmp 9,Operand.tmp 10],argTypes:=#[52,64] },type:=54,pos := "wrong.go:40", after:=#[gd 1,gd 2],guard:=none }) rfl (fun K hK=>?_) AllReadyH.nil
        rw [if_pos (by rfl)]
        clear hSw
        go_simp
        refine HX.out.mono ?_;rintro z w2 ⟨rfl,hD2,hw2⟩
        have HD2:=hid hD2
        have HW2:=hid hw2
        clear hD2 hw2
        refine hK.out _ _ ((fun k hk hz _=>HW2.out.block k hk hz)) (fun hSw=>?_)
        clear hK K
        try simp only [Act.put,q1,q2,q3]
        refine wt (i:=5) (oi:={ dst:=some 13,op:=Op.binOp BinOp.and 54 (Operand.tmp 11) (Operand.tmp 12) 54,type:=54,pos := "wrong.go:40", after:=#[gd 3,gd 4],guard:=none }) (v:=.int .u8 (bits BinOp.and .u8 a.val 1)) (fun W hW=>?_) hSw ?_
        · first|(go_simp;done)|rfl
        try simp only [Act.put,q1,q2,q3]
        refine wt (i:=6) (oi:={ dst:=some 14,op:=Op.binOp BinOp.neq 54 (Operand.tmp 13) (Operand.const (Value.int IntKind.u8 0)) 54,type:=4,pos := "wrong.go:40", after:=#[gd 5],guard:=none }) (v:=.bool false) (fun W hW=>?_) hSw ?_
        · (have ha:=hand;go_simp)
        try simp only [Act.put,q1,q2,q3]
        refine wt (i:=7) (oi:={ dst:=some 15,op:=Op.move (Operand.tmp 14),type:=4,pos := "wrong.go:40", after:=#[gd 6,gc 3],guard:=none }) (v:=.bool false) (fun W hW=>?_) hSw ?_
        · first|(go_simp;done)|rfl
        try simp only [Act.put,q1,q2,q3]
        refine wt (i:=8) (oi:={ dst:=some 16,op:=Op.fieldAddr 64 (Operand.tmp 4) 0,type:=0,pos := "wrong.go:40", after:=#[{ on:=7,ground:=Ground.guard }],guard:=some (7,false) }) (v:=.pointer (some ⟨w.heap.size,0,none⟩)) (fun W hW=>?_) hSw ?_
        · first|(go_simp;done)|rfl
        try simp only [Act.put,q1,q2,q3]
        refine wt (i:=9) (oi:={ dst:=some 17,op:=Op.load 58 (Operand.tmp 16),type:=58,pos := "wrong.go:40", after:=#[gd 8,{ on:=7,ground:=Ground.guard }],guard:=some (7,false) }) (v:=.int .u8 s.h.k) (fun W hW=>?_) hSw ?_
        · have k0:=hW.cell (by dsimp only;omega) k0
          first|(go_simp;done)|rfl
        try simp only [Act.put,q1,q2,q3]
        refine wt (i:=10) (oi:={ dst:=some 18,op:=Op.binOp BinOp.eql 58 (Operand.tmp 17) (Operand.const (Value.int IntKind.u8 7)) 58,type:=4,pos := "wrong.go:40", after:=#[gd 9,{ on:=7,ground:=Ground.guard }],guard:=some (7,false) }) (v:=.bool false) (fun W hW=>?_) hSw ?_
        · (have h7:=h7;go_simp)
        try simp only [Act.put,q1,q2,q3]
        refine wt (i:=11) (oi:={ dst:=some 19,op:=Op.pick (Operand.tmp 15) (Operand.const (Value.bool true)) (Operand.tmp 18),type:=4,pos := "wrong.go:40", after:=#[gd 7,gd 10],guard:=none }) (v:=.bool false) (fun W hW=>?_) hSw ?_
        · first|(go_simp;done)|rfl
        try simp only [Act.put,q1,q2,q3]
        refine wpAnyH_ready (rs:=[12]) (by kernel_rfl) (by simp) ?_
        refine AllReadyH.cons (o:={ dst:=some 20,op:=Op.call { callee:=Callee.value (Operand.func 62),args:=#[Operand.tmp 8,Operand.tmp 19],argTypes:=#[123,4] },type:=0,pos := "wrong.go:40", after:=#[gd 0,gd 11,gc 7],guard:=none }) rfl (fun K hK=>?_) AllReadyH.nil
        rw [if_pos (by rfl)]
        clear hSw
        go_simp
        refine (fnext_any fd p0 bs false w2 ((HW2.out.block fd HLF.out (by have:=HNE.out;omega)).trans HFD.out) hlen).mono ?_;rintro z w3 ⟨rfl,hp3⟩
        have HP3:=hid hp3
        clear hp3
        refine hK.out _ _ ((fun k hk hz hf=>(HP3.out.rest k hf).trans (HW2.out.block k hk hz))) (fun hSw=>?_)
        clear hK K
        try simp only [Act.put,q1,q2,q3]
        refine wpAnyH_done (by kernel_rfl) ?_ _
        go_wp2_with fail
        go_end0
        have hst:=H1.out.step (b:=false) hBw1 HD2.out ((Wr.of_below (Below.refl W1.heap.size W1).drew).trans HW2.out) HP3.out
        first
          | exact⟨rfl,hst.1,(WrO.of_below HB1.out).trans hst.2⟩
          | have hb2:decide (s.h.k=7)=false:=by simp [H7.out]
            rw [hb2]
            exact⟨rfl,hst.1,(WrO.of_below HB1.out).trans hst.2⟩
    · have HA:=hid hx
      have hand:=ht
      rw [hx] at hand
      clear ht ho hx
      have H7:=hid (True.intro)
      go_enter Tryz.func64,Tryz.ntmps64
      go_wp2_with fail
      rw [← HW1.out]
      refine wp_region_held_drew (S:=SameB2 mm fd W1) (by kernel_rfl) (fun _ _ _ _=>rfl) (fun hSw=>?_)
      refine wt (i:=0) (oi:={ dst:=some 8,op:=Op.load 123 (Operand.tmp 2),type:=123,pos := "wrong.go:40", after:=#[],guard:=none }) (v:=.pointer (some ⟨fd,0,none⟩)) (fun W hW=>?_) hSw ?_
      · have fb0:=hW.cell (by dsimp only;omega) fb0
        first|(go_simp;done)|rfl
      try simp only [Act.put,q1,q2,q3]
      refine wt (i:=1) (oi:={ dst:=some 9,op:=Op.load 52 (Operand.tmp 3),type:=52,pos := "wrong.go:40", after:=#[],guard:=none }) (v:=.pointer (some ⟨d,0,none⟩)) (fun W hW=>?_) hSw ?_
      · have db0:=hW.cell (by dsimp only;omega) db0
        first|(go_simp;done)|rfl
      try simp only [Act.put,q1,q2,q3]
      refine wt (i:=2) (oi:={ dst:=some 10,op:=Op.load 64 (Operand.tmp 4),type:=64,pos := "wrong.go:40", after:=#[],guard:=none }) (v:=.agg s.arr) (fun W hW=>?_) hSw ?_
      · (have hl:=hLd W hW;go_simp)
      try simp only [Act.put,q1,q2,q3]
      refine wt (i:=4) (oi:={ dst:=some 12,op:=Op.move (Operand.tmp 6),type:=54,pos := "wrong.go:40", after:=#[],guard:=none }) (v:=.int .u8 1) (fun W hW=>?_) hSw ?_
      · first|(go_simp;done)|rfl
      try simp only [Act.put,q1,q2,q3]
      refine wpAnyH_ready (rs:=[3]) (by kernel_rfl) (by simp) ?_
      refine AllReadyH.cons (o:={ dst:=some 11,op:=Op.call { callee:=Callee.value (Operand.func 34),args:=#[Operand.tmp 9,Operand.tmp 10],argTypes:=#[52,64] },type:=54,pos := "wrong.go:40", after:=#[gd 1,gd 2],guard:=none }) rfl (fun K hK=>?_) AllReadyH.nil
      rw [if_pos (by rfl)]
      clear hSw
      go_simp
      refine HX.out.mono ?_;rintro z w2 ⟨rfl,hD2,hw2⟩
      have HD2:=hid hD2
      have HW2:=hid hw2
      clear hD2 hw2
      refine hK.out _ _ ((fun k hk hz _=>HW2.out.block k hk hz)) (fun hSw=>?_)
      clear hK K
      try simp only [Act.put,q1,q2,q3]
      refine wt (i:=5) (oi:={ dst:=some 13,op:=Op.binOp BinOp.and 54 (Operand.tmp 11) (Operand.tmp 12) 54,type:=54,pos := "wrong.go:40", after:=#[gd 3,gd 4],guard:=none }) (v:=.int .u8 (bits BinOp.and .u8 a.val 1)) (fun W hW=>?_) hSw ?_
      · first|(go_simp;done)|rfl
      try simp only [Act.put,q1,q2,q3]
      refine wt (i:=6) (oi:={ dst:=some 14,op:=Op.binOp BinOp.neq 54 (Operand.tmp 13) (Operand.const (Value.int IntKind.u8 0)) 54,type:=4,pos := "wrong.go:40", after:=#[gd 5],guard:=none }) (v:=.bool true) (fun W hW=>?_) hSw ?_
      · (have ha:=hand;go_simp)
      try simp only [Act.put,q1,q2,q3]
      refine wt (i:=7) (oi:={ dst:=some 15,op:=Op.move (Operand.tmp 14),type:=4,pos := "wrong.go:40", after:=#[gd 6,gc 3],guard:=none }) (v:=.bool true) (fun W hW=>?_) hSw ?_
      · first|(go_simp;done)|rfl
      try simp only [Act.put,q1,q2,q3]
      refine wpAnyH_take (i:=8) (oi:={ dst:=some 16,op:=Op.fieldAddr 64 (Operand.tmp 4) 0,type:=0,pos := "wrong.go:40", after:=#[{ on:=7,ground:=Ground.guard }],guard:=some (7,false) }) (v:=undef) rfl (by kernel_rfl) (by kernel_rfl) (by kernel_rfl) (fun _ _ _ h=>h) (Or.inr ⟨by rfl,rfl⟩) hSw ?_
      try simp only [Act.put,q1,q2,q3]
      refine wpAnyH_take (i:=9) (oi:={ dst:=some 17,op:=Op.load 58 (Operand.tmp 16),type:=58,pos := "wrong.go:40", after:=#[gd 8,{ on:=7,ground:=Ground.guard }],guard:=some (7,false) }) (v:=undef) rfl (by kernel_rfl) (by kernel_rfl) (by kernel_rfl) (fun _ _ _ h=>h) (Or.inr ⟨by rfl,rfl⟩) hSw ?_
      try simp only [Act.put,q1,q2,q3]
      refine wpAnyH_take (i:=10) (oi:={ dst:=some 18,op:=Op.binOp BinOp.eql 58 (Operand.tmp 17) (Operand.const (Value.int IntKind.u8 7)) 58,type:=4,pos := "wrong.go:40", after:=#[gd 9,{ on:=7,ground:=Ground.guard }],guard:=some (7,false) }) (v:=undef) rfl (by kernel_rfl) (by kernel_rfl) (by kernel_rfl) (fun _ _ _ h=>h) (Or.inr ⟨by rfl,rfl⟩) hSw ?_
      try simp only [Act.put,q1,q2,q3]
      refine wt (i:=11) (oi:={ dst:=some 19,op:=Op.pick (Operand.tmp 15) (Operand.const (Value.bool true)) (Operand.tmp 18),type:=4,pos := "wrong.go:40", after:=#[gd 7,gd 10],guard:=none }) (v:=.bool true) (fun W hW=>?_) hSw ?_
      · first|(go_simp;done)|rfl
      try simp only [Act.put,q1,q2,q3]
      refine wpAnyH_ready (rs:=[12]) (by kernel_rfl) (by simp) ?_
      refine AllReadyH.cons (o:={ dst:=some 20,op:=Op.call { callee:=Callee.value (Operand.func 62),args:=#[Operand.tmp 8,Operand.tmp 19],argTypes:=#[123,4] },type:=0,pos := "wrong.go:40", after:=#[gd 0,gd 11,gc 7],guard:=none }) rfl (fun K hK=>?_) AllReadyH.nil
      rw [if_pos (by rfl)]
      clear hSw
      go_simp
      refine (fnext_any fd p0 bs true w2 ((HW2.out.block fd HLF.out (by have:=HNE.out;omega)).trans HFD.out) hlen).mono ?_;rintro z w3 ⟨rfl,hp3⟩
      have HP3:=hid hp3
      clear hp3
      refine hK.out _ _ ((fun k hk hz hf=>(HP3.out.rest k hf).trans (HW2.out.block k hk hz))) (fun hSw=>?_)
      clear hK K
      try simp only [Act.put,q1,q2,q3]
      refine wpAnyH_done (by kernel_rfl) ?_ _
      go_wp2_with fail
      go_end0
      have hst:=H1.out.step (b:=true) hBw1 HD2.out ((Wr.of_below (Below.refl W1.heap.size W1).drew).trans HW2.out) HP3.out
      first
        | exact⟨rfl,hst.1,(WrO.of_below HB1.out).trans hst.2⟩
        | have hb2:decide (s.h.k=7)=true:=by simp [H7.out]
          rw [hb2]
          exact⟨rfl,hst.1,(WrO.of_below HB1.out).trans hst.2⟩
  · cases hx:a.o
    · have HA:=hid hx
      have hand:=ho
      rw [hx] at hand
      clear ht ho hx
      by_cases hk:s.h.k=7
      · have H7:=hid hk
        rw [hk] at k0
        clear hk
        go_enter Tryz.func64,Tryz.ntmps64
        go_wp2_with fail
        rw [← HW1.out]
        refine wp_region_held_drew (S:=SameB2 mm fd W1) (by kernel_rfl) (fun _ _ _ _=>rfl) (fun hSw=>?_)
        refine wt (i:=0) (oi:={ dst:=some 8,op:=Op.load 123 (Operand.tmp 2),type:=123,pos := "wrong.go:40", after:=#[],guard:=none }) (v:=.pointer (some ⟨fd,0,none⟩)) (fun W hW=>?_) hSw ?_
        · have fb0:=hW.cell (by dsimp only;omega) fb0
          first|(go_simp;done)|rfl
        try simp only [Act.put,q1,q2,q3]
        refine wt (i:=1) (oi:={ dst:=some 9,op:=Op.load 52 (Operand.tmp 3),type:=52,pos := "wrong.go:40", after:=#[],guard:=none }) (v:=.pointer (some ⟨d,0,none⟩)) (fun W hW=>?_) hSw ?_
        · have db0:=hW.cell (by dsimp only;omega) db0
          first|(go_simp;done)|rfl
        try simp only [Act.put,q1,q2,q3]
        refine wt (i:=2) (oi:={ dst:=some 10,op:=Op.load 64 (Operand.tmp 4),type:=64,pos := "wrong.go:40", after:=#[],guard:=none }) (v:=.agg s.arr) (fun W hW=>?_) hSw ?_
        · (have hl:=hLd W hW;go_simp)
        try simp only [Act.put,q1,q2,q3]
        refine wt (i:=4) (oi:={ dst:=some 12,op:=Op.move (Operand.tmp 6),type:=54,pos := "wrong.go:40", after:=#[],guard:=none }) (v:=.int .u8 2) (fun W hW=>?_) hSw ?_
        · first|(go_simp;done)|rfl
        try simp only [Act.put,q1,q2,q3]
        refine wpAnyH_ready (rs:=[3]) (by kernel_rfl) (by simp) ?_
        refine AllReadyH.cons (o:={ dst:=some 11,op:=Op.call { callee:=Callee.value (Operand.func 34),args:=#[Operand.tmp 9,Operand.tmp 10],argTypes:=#[52,64] },type:=54,pos := "wrong.go:40", after:=#[gd 1,gd 2],guard:=none }) rfl (fun K hK=>?_) AllReadyH.nil
        rw [if_pos (by rfl)]
        clear hSw
        go_simp
        refine HX.out.mono ?_;rintro z w2 ⟨rfl,hD2,hw2⟩
        have HD2:=hid hD2
        have HW2:=hid hw2
        clear hD2 hw2
        refine hK.out _ _ ((fun k hk hz _=>HW2.out.block k hk hz)) (fun hSw=>?_)
        clear hK K
        try simp only [Act.put,q1,q2,q3]
        refine wt (i:=5) (oi:={ dst:=some 13,op:=Op.binOp BinOp.and 54 (Operand.tmp 11) (Operand.tmp 12) 54,type:=54,pos := "wrong.go:40", after:=#[gd 3,gd 4],guard:=none }) (v:=.int .u8 (bits BinOp.and .u8 a.val 2)) (fun W hW=>?_) hSw ?_
        · first|(go_simp;done)|rfl
        try simp only [Act.put,q1,q2,q3]
        refine wt (i:=6) (oi:={ dst:=some 14,op:=Op.binOp BinOp.neq 54 (Operand.tmp 13) (Operand.const (Value.int IntKind.u8 0)) 54,type:=4,pos := "wrong.go:40", after:=#[gd 5],guard:=none }) (v:=.bool false) (fun W hW=>?_) hSw ?_
        · (have ha:=hand;go_simp)
        try simp only [Act.put,q1,q2,q3]
        refine wt (i:=7) (oi:={ dst:=some 15,op:=Op.move (Operand.tmp 14),type:=4,pos := "wrong.go:40", after:=#[gd 6,gc 3],guard:=none }) (v:=.bool false) (fun W hW=>?_) hSw ?_
        · first|(go_simp;done)|rfl
        try simp only [Act.put,q1,q2,q3]
        refine wt (i:=8) (oi:={ dst:=some 16,op:=Op.fieldAddr 64 (Operand.tmp 4) 0,type:=0,pos := "wrong.go:40", after:=#[{ on:=7,ground:=Ground.guard }],guard:=some (7,false) }) (v:=.pointer (some ⟨w.heap.size,0,none⟩)) (fun W hW=>?_) hSw ?_
        · first|(go_simp;done)|rfl
        try simp only [Act.put,q1,q2,q3]
        refine wt (i:=9) (oi:={ dst:=some 17,op:=Op.load 58 (Operand.tmp 16),type:=58,pos := "wrong.go:40", after:=#[gd 8,{ on:=7,ground:=Ground.guard }],guard:=some (7,false) }) (v:=.int .u8 7) (fun W hW=>?_) hSw ?_
        · have k0:=hW.cell (by dsimp only;omega) k0
          first|(go_simp;done)|rfl
        try simp only [Act.put,q1,q2,q3]
        refine wt (i:=10) (oi:={ dst:=some 18,op:=Op.binOp BinOp.eql 58 (Operand.tmp 17) (Operand.const (Value.int IntKind.u8 7)) 58,type:=4,pos := "wrong.go:40", after:=#[gd 9,{ on:=7,ground:=Ground.guard }],guard:=some (7,false) }) (v:=.bool true) (fun W hW=>?_) hSw ?_
        · (go_simp)
        try simp only [Act.put,q1,q2,q3]
        refine wt (i:=11) (oi:={ dst:=some 19,op:=Op.pick (Operand.tmp 15) (Operand.const (Value.bool true)) (Operand.tmp 18),type:=4,pos := "wrong.go:40", after:=#[gd 7,gd 10],guard:=none }) (v:=.bool true) (fun W hW=>?_) hSw ?_
        · first|(go_simp;done)|rfl
        try simp only [Act.put,q1,q2,q3]
        refine wpAnyH_ready (rs:=[12]) (by kernel_rfl) (by simp) ?_
        refine AllReadyH.cons (o:={ dst:=some 20,op:=Op.call { callee:=Callee.value (Operand.func 62),args:=#[Operand.tmp 8,Operand.tmp 19],argTypes:=#[123,4] },type:=0,pos := "wrong.go:40", after:=#[gd 0,gd 11,gc 7],guard:=none }) rfl (fun K hK=>?_) AllReadyH.nil
        rw [if_pos (by rfl)]
        clear hSw
        go_simp
        refine (fnext_any fd p0 bs true w2 ((HW2.out.block fd HLF.out (by have:=HNE.out;omega)).trans HFD.out) hlen).mono ?_;rintro z w3 ⟨rfl,hp3⟩
        have HP3:=hid hp3
        clear hp3
        refine hK.out _ _ ((fun k hk hz hf=>(HP3.out.rest k hf).trans (HW2.out.block k hk hz))) (fun hSw=>?_)
        clear hK K
        try simp only [Act.put,q1,q2,q3]
        refine wpAnyH_done (by kernel_rfl) ?_ _
        go_wp2_with fail
        go_end0
        have hst:=H1.out.step (b:=true) hBw1 HD2.out ((Wr.of_below (Below.refl W1.heap.size W1).drew).trans HW2.out) HP3.out
        first
          | exact⟨rfl,hst.1,(WrO.of_below HB1.out).trans hst.2⟩
          | have hb2:decide (s.h.k=7)=true:=by simp [H7.out]
            rw [hb2]
            exact⟨rfl,hst.1,(WrO.of_below HB1.out).trans hst.2⟩
      · have H7:=hid hk
        have h7:(s.h.k == 7)=false:=by simpa using hk
        clear hk
        go_enter Tryz.func64,Tryz.ntmps64
        go_wp2_with fail
        rw [← HW1.out]
        refine wp_region_held_drew (S:=SameB2 mm fd W1) (by kernel_rfl) (fun _ _ _ _=>rfl) (fun hSw=>?_)
        refine wt (i:=0) (oi:={ dst:=some 8,op:=Op.load 123 (Operand.tmp 2),type:=123,pos := "wrong.go:40", after:=#[],guard:=none }) (v:=.pointer (some ⟨fd,0,none⟩)) (fun W hW=>?_) hSw ?_
        · have fb0:=hW.cell (by dsimp only;omega) fb0
          first|(go_simp;done)|rfl
        try simp only [Act.put,q1,q2,q3]
        refine wt (i:=1) (oi:={ dst:=some 9,op:=Op.load 52 (Operand.tmp 3),type:=52,pos := "wrong.go:40", after:=#[],guard:=none }) (v:=.pointer (some ⟨d,0,none⟩)) (fun W hW=>?_) hSw ?_
        · have db0:=hW.cell (by dsimp only;omega) db0
          first|(go_simp;done)|rfl
        try simp only [Act.put,q1,q2,q3]
        refine wt (i:=2) (oi:={ dst:=some 10,op:=Op.load 64 (Operand.tmp 4),type:=64,pos := "wrong.go:40", after:=#[],guard:=none }) (v:=.agg s.arr) (fun W hW=>?_) hSw ?_
        · (have hl:=hLd W hW;go_simp)
        try simp only [Act.put,q1,q2,q3]
        refine wt (i:=4) (oi:={ dst:=some 12,op:=Op.move (Operand.tmp 6),type:=54,pos := "wrong.go:40", after:=#[],guard:=none }) (v:=.int .u8 2) (fun W hW=>?_) hSw ?_
        · first|(go_simp;done)|rfl
        try simp only [Act.put,q1,q2,q3]
        refine wpAnyH_ready (rs:=[3]) (by kernel_rfl) (by simp) ?_
        refine AllReadyH.cons (o:={ dst:=some 11,op:=Op.call { callee:=Callee.value (Operand.func 34),args:=#[Operand.tmp 9,Operand.tmp 10],argTypes:=#[52,64] },type:=54,pos := "wrong.go:40", after:=#[gd 1,gd 2],guard:=none }) rfl (fun K hK=>?_) AllReadyH.nil
        rw [if_pos (by rfl)]
        clear hSw
        go_simp
        refine HX.out.mono ?_;rintro z w2 ⟨rfl,hD2,hw2⟩
        have HD2:=hid hD2
        have HW2:=hid hw2
        clear hD2 hw2
        refine hK.out _ _ ((fun k hk hz _=>HW2.out.block k hk hz)) (fun hSw=>?_)
        clear hK K
        try simp only [Act.put,q1,q2,q3]
        refine wt (i:=5) (oi:={ dst:=some 13,op:=Op.binOp BinOp.and 54 (Operand.tmp 11) (Operand.tmp 12) 54,type:=54,pos := "wrong.go:40", after:=#[gd 3,gd 4],guard:=none }) (v:=.int .u8 (bits BinOp.and .u8 a.val 2)) (fun W hW=>?_) hSw ?_
        · first|(go_simp;done)|rfl
        try simp only [Act.put,q1,q2,q3]
        refine wt (i:=6) (oi:={ dst:=some 14,op:=Op.binOp BinOp.neq 54 (Operand.tmp 13) (Operand.const (Value.int IntKind.u8 0)) 54,type:=4,pos := "wrong.go:40", after:=#[gd 5],guard:=none }) (v:=.bool false) (fun W hW=>?_) hSw ?_
        · (have ha:=hand;go_simp)
        try simp only [Act.put,q1,q2,q3]
        refine wt (i:=7) (oi:={ dst:=some 15,op:=Op.move (Operand.tmp 14),type:=4,pos := "wrong.go:40", after:=#[gd 6,gc 3],guard:=none }) (v:=.bool false) (fun W hW=>?_) hSw ?_
        · first|(go_simp;done)|rfl
        try simp only [Act.put,q1,q2,q3]
        refine wt (i:=8) (oi:={ dst:=some 16,op:=Op.fieldAddr 64 (Operand.tmp 4) 0,type:=0,pos := "wrong.go:40", after:=#[{ on:=7,ground:=Ground.guard }],guard:=some (7,false) }) (v:=.pointer (some ⟨w.heap.size,0,none⟩)) (fun W hW=>?_) hSw ?_
        · first|(go_simp;done)|rfl
        try simp only [Act.put,q1,q2,q3]
        refine wt (i:=9) (oi:={ dst:=some 17,op:=Op.load 58 (Operand.tmp 16),type:=58,pos := "wrong.go:40", after:=#[gd 8,{ on:=7,ground:=Ground.guard }],guard:=some (7,false) }) (v:=.int .u8 s.h.k) (fun W hW=>?_) hSw ?_
        · have k0:=hW.cell (by dsimp only;omega) k0
          first|(go_simp;done)|rfl
        try simp only [Act.put,q1,q2,q3]
        refine wt (i:=10) (oi:={ dst:=some 18,op:=Op.binOp BinOp.eql 58 (Operand.tmp 17) (Operand.const (Value.int IntKind.u8 7)) 58,type:=4,pos := "wrong.go:40", after:=#[gd 9,{ on:=7,ground:=Ground.guard }],guard:=some (7,false) }) (v:=.bool false) (fun W hW=>?_) hSw ?_
        · (have h7:=h7;go_simp)
        try simp only [Act.put,q1,q2,q3]
        refine wt (i:=11) (oi:={ dst:=some 19,op:=Op.pick (Operand.tmp 15) (Operand.const (Value.bool true)) (Operand.tmp 18),type:=4,pos := "wrong.go:40", after:=#[gd 7,gd 10],guard:=none }) (v:=.bool false) (fun W hW=>?_) hSw ?_
        · first|(go_simp;done)|rfl
        try simp only [Act.put,q1,q2,q3]
        refine wpAnyH_ready (rs:=[12]) (by kernel_rfl) (by simp) ?_
        refine AllReadyH.cons (o:={ dst:=some 20,op:=Op.call { callee:=Callee.value (Operand.func 62),args:=#[Operand.tmp 8,Operand.tmp 19],argTypes:=#[123,4] },type:=0,pos := "wrong.go:40", after:=#[gd 0,gd 11,gc 7],guard:=none }) rfl (fun K hK=>?_) AllReadyH.nil
        rw [if_pos (by rfl)]
        clear hSw
        go_simp
        refine (fnext_any fd p0 bs false w2 ((HW2.out.block fd HLF.out (by have:=HNE.out;omega)).trans HFD.out) hlen).mono ?_;rintro z w3 ⟨rfl,hp3⟩
        have HP3:=hid hp3
        clear hp3
        refine hK.out _ _ ((fun k hk hz hf=>(HP3.out.rest k hf).trans (HW2.out.block k hk hz))) (fun hSw=>?_)
        clear hK K
        try simp only [Act.put,q1,q2,q3]
        refine wpAnyH_done (by kernel_rfl) ?_ _
        go_wp2_with fail
        go_end0
        have hst:=H1.out.step (b:=false) hBw1 HD2.out ((Wr.of_below (Below.refl W1.heap.size W1).drew).trans HW2.out) HP3.out
        first
          | exact⟨rfl,hst.1,(WrO.of_below HB1.out).trans hst.2⟩
          | have hb2:decide (s.h.k=7)=false:=by simp [H7.out]
            rw [hb2]
            exact⟨rfl,hst.1,(WrO.of_below HB1.out).trans hst.2⟩
    · have HA:=hid hx
      have hand:=ho
      rw [hx] at hand
      clear ht ho hx
      have H7:=hid (True.intro)
      go_enter Tryz.func64,Tryz.ntmps64
      go_wp2_with fail
      rw [← HW1.out]
      refine wp_region_held_drew (S:=SameB2 mm fd W1) (by kernel_rfl) (fun _ _ _ _=>rfl) (fun hSw=>?_)
      refine wt (i:=0) (oi:={ dst:=some 8,op:=Op.load 123 (Operand.tmp 2),type:=123,pos := "wrong.go:40", after:=#[],guard:=none }) (v:=.pointer (some ⟨fd,0,none⟩)) (fun W hW=>?_) hSw ?_
      · have fb0:=hW.cell (by dsimp only;omega) fb0
        first|(go_simp;done)|rfl
      try simp only [Act.put,q1,q2,q3]
      refine wt (i:=1) (oi:={ dst:=some 9,op:=Op.load 52 (Operand.tmp 3),type:=52,pos := "wrong.go:40", after:=#[],guard:=none }) (v:=.pointer (some ⟨d,0,none⟩)) (fun W hW=>?_) hSw ?_
      · have db0:=hW.cell (by dsimp only;omega) db0
        first|(go_simp;done)|rfl
      try simp only [Act.put,q1,q2,q3]
      refine wt (i:=2) (oi:={ dst:=some 10,op:=Op.load 64 (Operand.tmp 4),type:=64,pos := "wrong.go:40", after:=#[],guard:=none }) (v:=.agg s.arr) (fun W hW=>?_) hSw ?_
      · (have hl:=hLd W hW;go_simp)
      try simp only [Act.put,q1,q2,q3]
      refine wt (i:=4) (oi:={ dst:=some 12,op:=Op.move (Operand.tmp 6),type:=54,pos := "wrong.go:40", after:=#[],guard:=none }) (v:=.int .u8 2) (fun W hW=>?_) hSw ?_
      · first|(go_simp;done)|rfl
      try simp only [Act.put,q1,q2,q3]
      refine wpAnyH_ready (rs:=[3]) (by kernel_rfl) (by simp) ?_
      refine AllReadyH.cons (o:={ dst:=some 11,op:=Op.call { callee:=Callee.value (Operand.func 34),args:=#[Operand.tmp 9,Operand.tmp 10],argTypes:=#[52,64] },type:=54,pos := "wrong.go:40", after:=#[gd 1,gd 2],guard:=none }) rfl (fun K hK=>?_) AllReadyH.nil
      rw [if_pos (by rfl)]
      clear hSw
      go_simp
      refine HX.out.mono ?_;rintro z w2 ⟨rfl,hD2,hw2⟩
      have HD2:=hid hD2
      have HW2:=hid hw2
      clear hD2 hw2
      refine hK.out _ _ ((fun k hk hz _=>HW2.out.block k hk hz)) (fun hSw=>?_)
      clear hK K
      try simp only [Act.put,q1,q2,q3]
      refine wt (i:=5) (oi:={ dst:=some 13,op:=Op.binOp BinOp.and 54 (Operand.tmp 11) (Operand.tmp 12) 54,type:=54,pos := "wrong.go:40", after:=#[gd 3,gd 4],guard:=none }) (v:=.int .u8 (bits BinOp.and .u8 a.val 2)) (fun W hW=>?_) hSw ?_
      · first|(go_simp;done)|rfl
      try simp only [Act.put,q1,q2,q3]
      refine wt (i:=6) (oi:={ dst:=some 14,op:=Op.binOp BinOp.neq 54 (Operand.tmp 13) (Operand.const (Value.int IntKind.u8 0)) 54,type:=4,pos := "wrong.go:40", after:=#[gd 5],guard:=none }) (v:=.bool true) (fun W hW=>?_) hSw ?_
      · (have ha:=hand;go_simp)
      try simp only [Act.put,q1,q2,q3]
      refine wt (i:=7) (oi:={ dst:=some 15,op:=Op.move (Operand.tmp 14),type:=4,pos := "wrong.go:40", after:=#[gd 6,gc 3],guard:=none }) (v:=.bool true) (fun W hW=>?_) hSw ?_
      · first|(go_simp;done)|rfl
      try simp only [Act.put,q1,q2,q3]
      refine wpAnyH_take (i:=8) (oi:={ dst:=some 16,op:=Op.fieldAddr 64 (Operand.tmp 4) 0,type:=0,pos := "wrong.go:40", after:=#[{ on:=7,ground:=Ground.guard }],guard:=some (7,false) }) (v:=undef) rfl (by kernel_rfl) (by kernel_rfl) (by kernel_rfl) (fun _ _ _ h=>h) (Or.inr ⟨by rfl,rfl⟩) hSw ?_
      try simp only [Act.put,q1,q2,q3]
      refine wpAnyH_take (i:=9) (oi:={ dst:=some 17,op:=Op.load 58 (Operand.tmp 16),type:=58,pos := "wrong.go:40", after:=#[gd 8,{ on:=7,ground:=Ground.guard }],guard:=some (7,false) }) (v:=undef) rfl (by kernel_rfl) (by kernel_rfl) (by kernel_rfl) (fun _ _ _ h=>h) (Or.inr ⟨by rfl,rfl⟩) hSw ?_
      try simp only [Act.put,q1,q2,q3]
      refine wpAnyH_take (i:=10) (oi:={ dst:=some 18,op:=Op.binOp BinOp.eql 58 (Operand.tmp 17) (Operand.const (Value.int IntKind.u8 7)) 58,type:=4,pos := "wrong.go:40", after:=#[gd 9,{ on:=7,ground:=Ground.guard }],guard:=some (7,false) }) (v:=undef) rfl (by kernel_rfl) (by kernel_rfl) (by kernel_rfl) (fun _ _ _ h=>h) (Or.inr ⟨by rfl,rfl⟩) hSw ?_
      try simp only [Act.put,q1,q2,q3]
      refine wt (i:=11) (oi:={ dst:=some 19,op:=Op.pick (Operand.tmp 15) (Operand.const (Value.bool true)) (Operand.tmp 18),type:=4,pos := "wrong.go:40", after:=#[gd 7,gd 10],guard:=none }) (v:=.bool true) (fun W hW=>?_) hSw ?_
      · first|(go_simp;done)|rfl
      try simp only [Act.put,q1,q2,q3]
      refine wpAnyH_ready (rs:=[12]) (by kernel_rfl) (by simp) ?_
      refine AllReadyH.cons (o:={ dst:=some 20,op:=Op.call { callee:=Callee.value (Operand.func 62),args:=#[Operand.tmp 8,Operand.tmp 19],argTypes:=#[123,4] },type:=0,pos := "wrong.go:40", after:=#[gd 0,gd 11,gc 7],guard:=none }) rfl (fun K hK=>?_) AllReadyH.nil
      rw [if_pos (by rfl)]
      clear hSw
      go_simp
      refine (fnext_any fd p0 bs true w2 ((HW2.out.block fd HLF.out (by have:=HNE.out;omega)).trans HFD.out) hlen).mono ?_;rintro z w3 ⟨rfl,hp3⟩
      have HP3:=hid hp3
      clear hp3
      refine hK.out _ _ ((fun k hk hz hf=>(HP3.out.rest k hf).trans (HW2.out.block k hk hz))) (fun hSw=>?_)
      clear hK K
      try simp only [Act.put,q1,q2,q3]
      refine wpAnyH_done (by kernel_rfl) ?_ _
      go_wp2_with fail
      go_end0
      have hst:=H1.out.step (b:=true) hBw1 HD2.out ((Wr.of_below (Below.refl W1.heap.size W1).drew).trans HW2.out) HP3.out
      first
        | exact⟨rfl,hst.1,(WrO.of_below HB1.out).trans hst.2⟩
        | have hb2:decide (s.h.k=7)=true:=by simp [H7.out]
          rw [hb2]
          exact⟨rfl,hst.1,(WrO.of_below HB1.out).trans hst.2⟩
end Go.Proofs.YtdhieihcmnpneaaGreatDoor
