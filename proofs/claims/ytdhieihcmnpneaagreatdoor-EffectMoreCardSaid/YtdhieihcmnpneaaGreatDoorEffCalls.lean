/- Which functions each function calls: the map that package effect makes of it. -/
import Derived.Test.YtdhieihcmnpneaaGreatDoorRows
import Derived.Test.YtdhieihcmnpneaaGreatDoorTypWt
import Derived.Test.YtdhieihcmnpneaaGreatDoorEffNew
namespace Go.Proofs.YtdhieihcmnpneaaGreatDoor
open Lib (hid)
set_option maxHeartbeats 8000000
open Go.RowKit
set_option maxRecDepth 100000
theorem uMapC:Tryz.prog.underlying 120=some (.map 9 151):=Tryz.underlying120
theorem zeroCL (w:World):(zeroValue 151).run Tryz.prog w = .ok (.slice none 0 0) w:=by kernel_rfl
theorem infoStr:(Tryz.prog.info? 9).map (fun i=>(i.zero,i.size,i.bytes))=some (some (.string ⟨#[]⟩),1,16):=by kernel_rfl
structure IsCl (w:World) (B m:Nat) (W:ByteArray→List ByteArray) (kv:List (ByteArray × Value)):Prop where
  map:IsMapT w m kv
  rows:∀ s v,lookT s kv=some v→w.ownsRow B 9 1 v (W s).length ((W s).map Value.string)
  none:∀ s,lookT s kv=none→W s = []
  apart:∀ s s' v v' g,s ≠ s'→lookT s kv=some v→lookT s' kv=some v'→v.ownBlock=some g→v'.ownBlock ≠ some g
  far:B≤m
theorem own_not_map {w:World} {B m n:Nat} {e:TypeId} {v:Value} {xs:List Value} {kv:List (ByteArray × Value)} (h:w.ownsRow B e 1 v n xs) (hm:IsMapT w m kv):v.ownBlock ≠ some m:=by
  intro he
  rcases h.2 with ⟨rfl,_⟩|⟨g,cap,cur,rfl,_,hg,_⟩
  · cases he
  · obtain rfl:g=m:=by simpa [Value.ownBlock] using he
    obtain⟨es,ck,hb,_⟩:=hm
    rw [hg] at hb;cases hb
theorem cl_look {w:World} {B m:Nat} {W:ByteArray→List ByteArray} {kv:List (ByteArray × Value)} (h:IsCl w B m W kv) (s:ByteArray) :
    ∃ v,w.ownsRow B 9 1 v (W s).length ((W s).map Value.string)∧(∀ W',W'.heap[m]? = w.heap[m]? → (Instr.lookup 120 (.map (some m)) (.string s) false).run Tryz.prog W' = .ok v W')∧(lookT s kv=some v ∨ (lookT s kv=none∧v = .slice none 0 0)):=by
  cases hq:lookT s kv with
  | none =>
    have h0:=h.none s hq
    exact⟨.slice none 0 0,by rw [h0];exact World.ownsRow_nil w B _ 1,fun W' hW=>run_lookT_none uMapC uKeyN (h.map.of hW) false s _ (zeroCL W') hq,.inr ⟨rfl,rfl⟩⟩
  | some v=>exact⟨v,h.rows s v hq,fun W' hW=>run_lookT uMapC uKeyN (h.map.of hW) false s _ hq,.inl rfl⟩
theorem cl_put {w w2 w3:World} {B m:Nat} {W:ByteArray→List ByteArray} {kv:List (ByteArray × Value)} {nm x:ByteArray} {v v':Value} (h:IsCl w B m W kv) (hl:lookT nm kv=some v ∨ (lookT nm kv=none∧v = .slice none 0 0))
    (hb:Below w.heap.size w w2) (hown:w3.ownsRow B 9 1 v' ((W nm).length+1) ((W nm).map Value.string ++ [Value.string x])) (hg:w2.grownBy w3 v.ownBlock) (hgo:v.ownBlock=v'.ownBlock ∨ ∃ g,v'.ownBlock=some g∧w.heap.size≤g) :
    ∃ w4 kv',(Instr.mapUpdate 120 (.map (some m)) (.string nm) v').run Tryz.prog w3 = .ok () w4∧IsCl w4 B m (fun s=>if s=nm then W s ++ [x] else W s) kv'∧w3.grownBy w4 (some m) ∧
      ∀ g,(∃ s v,lookT s kv'=some v∧v.ownBlock=some g)→(∃ s v,lookT s kv=some v∧v.ownBlock=some g) ∨ w.heap.size≤g:=by
  have hml:=h.map.lt
  have hvm:v.ownBlock ≠ some m:=by
    rcases hl with hl|⟨_,rfl⟩
    · exact own_not_map (h.rows nm v hl) h.map
    · intro h;cases h
  have hbs:=hb.size
  have hm3:IsMapT w3 m kv:=h.map.of ((hg.block m (by omega) (fun e=>hvm e.symm)).trans (hb.block m hml))
  obtain⟨w4,kv',h1,h2,h3,h4⟩:=run_updT (P:=Tryz.prog) uMapC uKeyN hm3 nm v'
  have hv'm:=own_not_map hown hm3
  have hw2:w.grownBy w2 none:=⟨hb.os,hb.tape,hb.output,hb.size,fun k hk _=>hb.block k hk⟩
  -- another row's block is not the one that is written
  have hoth:∀ s u,s ≠ nm→lookT s kv=some u→u.ownBlock=none ∨ u.ownBlock ≠ v.ownBlock:=fun s u hs hu=>by
    cases hub:u.ownBlock with
    | none=>exact .inl rfl
    | some g =>
      refine .inr fun e=>?_
      rcases hl with hl|⟨_,rfl⟩
      · exact h.apart s nm u v g hs hu hl hub e.symm
      · cases e
  have hlt:∀ s u g,lookT s kv=some u→u.ownBlock=some g→g < w.heap.size:=fun s u g hu hg=>((h.rows s u hu).lt g hg).2
  refine⟨w4,kv',h1,⟨h2,fun s u hu=>?_,fun s hs=>?_,fun s s' u u' g hss hu hu' hug=>?_,h.far⟩,h4,fun g ⟨s,u,hu,hug⟩=>?_⟩
  · rw [h3] at hu
    split at hu
    · rename_i hs
      cases hu
      subst hs
      rw [if_pos rfl,List.length_append,List.map_append]
      exact hown.kept h4 (.inr hv'm)
    · rename_i hs
      rw [if_neg hs]
      have hr:=h.rows s u hu
      have hr2:=hr.kept hw2 (by cases hh:u.ownBlock <;> simp)
      have hr3:=hr2.kept hg (hoth s u hs hu)
      exact hr3.kept h4 (.inr (own_not_map hr3 hm3))
  · rw [h3] at hs
    split at hs
    · cases hs
    · rename_i hn
      rw [if_neg hn];exact h.none s hs
  · rw [h3] at hu hu'
    intro hug'
    split at hu
    · rename_i hs
      cases hu
      subst hs
      rw [if_neg (fun e=>hss e.symm)] at hu'
      rcases hgo with e|⟨g2,e2,h5⟩
      · rw [← e] at hug
        rcases hl with hl|⟨_,rfl⟩
        · exact h.apart s s' v u' g hss hl hu' hug hug'
        · cases hug
      · rw [e2] at hug;cases hug
        have:=hlt s' u' g hu' hug'
        omega
    · rename_i hs
      split at hu'
      · rename_i hs'
        cases hu'
        subst hs'
        rcases hgo with e|⟨g2,e2,h5⟩
        · rw [← e] at hug'
          rcases hl with hl|⟨_,rfl⟩
          · exact h.apart s s' u v g hss hu hl hug hug'
          · cases hug'
        · rw [e2] at hug';cases hug'
          have:=hlt s u g hu hug
          omega
      · exact h.apart s s' u u' g hss hu hu' hug hug'
  · rw [h3] at hu
    split at hu
    · cases hu
      rcases hgo with e|⟨g2,e2,h5⟩
      · rw [← e] at hug
        rcases hl with hl|⟨_,rfl⟩
        · exact .inl ⟨nm,v,hl,hug⟩
        · cases hug
      · rw [e2] at hug;cases hug
        exact .inr h5
    · exact .inl ⟨s,u,hu,hug⟩
theorem IsCl.congr {w:World} {B m:Nat} {W W':ByteArray→List ByteArray} {kv:List (ByteArray × Value)} (h:IsCl w B m W kv) (k:∀ s,W s=W' s):IsCl w B m W' kv:=by
  have:W=W':=funext k
  rw [← this];exact h
theorem IsCl.keeps {w w':World} {B m:Nat} {W:ByteArray→List ByteArray} {kv:List (ByteArray × Value)} (h:IsCl w B m W kv) (hb:Below w.heap.size w w'):IsCl w' B m W kv:=
  ⟨h.map.of (hb.block m h.map.lt),fun s v hv=>(h.rows s v hv).kept (row:=.none) ⟨hb.os,hb.tape,hb.output,hb.size,fun k hk _=>hb.block k hk⟩ (by cases hh:v.ownBlock <;> simp),h.none,h.apart,h.far⟩
theorem own_not_cells {w:World} {B b n:Nat} {e T:TypeId} {v:Value} {xs:List Value} {cs:Array Value} {fr:Nat × Nat} (h:w.ownsRow B e 1 v n xs) (hb:w.heap[b]? = some (.cells cs T fr)) (hT:T ≠ e):v.ownBlock ≠ some b:=by
  intro he
  rcases h.2 with ⟨rfl,_⟩|⟨g,cap,cur,rfl,_,hg,_⟩
  · cases he
  · obtain rfl:g=b:=by simpa [Value.ownBlock] using he
    rw [hg] at hb
    cases hb
    exact hT rfl
def SameOw (v:Value) (w W:World):Prop:=∀ k,k < w.heap.size→v.ownBlock ≠ some k→W.heap[k]? = w.heap[k]?
theorem SameOw.cell {v:Value} {w W:World} (h:SameOw v w W) {p:Addr} {u:Value} (hp:p.block < w.heap.size∧v.ownBlock ≠ some p.block) (hc:w.cell? p=some u):W.cell? p=some u:=by
  rw [← hc];simp only [World.cell?,h _ hp.1 hp.2]
structure CI (B m mp fb:Nat) (nm:ByteArray) (W:ByteArray→List ByteArray) (O:Nat→Prop) (w:World):Prop where
  cl:∃ kv,IsCl w B m W kv∧O=fun g=>g=m ∨ ∃ s v,lookT s kv=some v∧v.ownBlock=some g
  box:w.heap[mp]? = some (.cells #[.map (some m)] 120 (0,0))
  fn:∃ c1 c2 c3 c4 c5,w.heap[fb]? = some (.cells #[.string nm,c1,c2,c3,c4,c5] 33 (0,0))
def addW (W:ByteArray→List ByteArray) (nm:ByteArray) (l:List ByteArray):ByteArray→List ByteArray:=fun s=>if s=nm then W s ++ l else W s
def callV (B m mp fb:Nat) (nm:ByteArray) (W:ByteArray→List ByteArray):VisX:=⟨85,#[.pointer (some ⟨mp,0,none⟩),.pointer (some ⟨fb,0,none⟩)],B,fun acc=>CI B m mp fb nm (addW W nm (callsX acc)),fun acc=>(W nm).length+(callsX acc).length≤10000000⟩
theorem callsX_append (a b:List X):callsX (a ++ b)=callsX a ++ callsX b:=by unfold callsX;rw [List.filter_append,List.map_append]
theorem CI.keeps {B m mp fb:Nat} {nm:ByteArray} {W:ByteArray→List ByteArray} {O:Nat→Prop} {w w':World} (h:CI B m mp fb nm W O w) (hb:Below w.heap.size w w'):CI B m mp fb nm W O w':=by
  obtain⟨kv,h1,h2⟩:=h.cl
  obtain⟨c1,c2,c3,c4,c5,h3⟩:=h.fn
  exact⟨⟨kv,h1.keeps hb,h2⟩,(hb.block mp (Array.getElem?_eq_some_iff.1 h.box).1).trans h.box,⟨c1,c2,c3,c4,c5,(hb.block fb (Array.getElem?_eq_some_iff.1 h3).1).trans h3⟩⟩
theorem CI.far {B m mp fb:Nat} {nm:ByteArray} {W:ByteArray→List ByteArray} {O:Nat→Prop} {w:World} (h:CI B m mp fb nm W O w):∀ b,O b→B≤b∧b < w.heap.size:=by
  obtain⟨kv,h1,h2⟩:=h.cl
  intro b hb
  rw [h2] at hb
  rcases hb with rfl|⟨s,v,hv,hg⟩
  · exact⟨h1.far,h1.map.lt⟩
  · exact (h1.rows s v hv).lt b hg
theorem call1_step (B m mp fb:Nat) (nm:ByteArray) (W:ByteArray→List ByteArray) (O:Nat→Prop) (x:X) (w:World) (h:CI B m mp fb nm W O w) (hI:InW w B x) (hfit:(W nm).length≤10000000) (hBw:B≤w.heap.size) :
    Calls Tryz.prog 85 #[x.val,.pointer (some ⟨mp,0,none⟩),.pointer (some ⟨fb,0,none⟩)] w fun e w'=>e = .returned (.tuple #[])∧∃ O2,CI B m mp fb nm (addW W nm (callsX [x])) O2 w'∧WrO O w w' O2:=by
  obtain⟨xo,xn,xc,ex⟩:=slice_of hI
  rw [val_of ex]
  obtain⟨W1,hW1⟩:∃ W1,W1=w.alloc (.cells #[.int .u8 x.hd.k,.int .i64 x.hd.n,.string x.hd.name,.int .u8 x.hd.tk,.string x.hd.tn,.int .i64 x.hd.tz,.slice xo xn xc] 62):=⟨_,rfl⟩
  have hb1:Below w.heap.size w W1:=by rw [hW1];exact below_box w _
  have hz1:W1.heap.size=w.heap.size+1:=by rw [hW1];simp
  have hO1:W1.heap[w.heap.size]? = some (.cells #[.int .u8 x.hd.k,.int .i64 x.hd.n,.string x.hd.name,.int .u8 x.hd.tk,.string x.hd.tn,.int .i64 x.hd.tz,.slice xo xn xc] 62 (0,0)):=by rw [hW1];exact (MapKept.heap_alloc _ _).1
  have h1:=h.keeps hb1
  obtain⟨k0,k2⟩:=cells7E hO1
  have HB1:=hid hb1
  have HW1:=hid hW1
  have H1:=hid h1
  by_cases h7:x.hd.k=7
  rotate_left
  · have n7:(x.hd.k == 7)=false:=by simpa using h7
    have HR:=hid (show callsX [x] = [] by unfold callsX;simp [h7])
    rw [hW1] at k0
    clear h hI hb1 hO1 h1 hW1 k2 h7
    go_enter Tryz.func85,Tryz.ntmps85
    go_wp2_with fail
    go_end0
    rw [← HW1.out,HR.out]
    refine⟨rfl,O, ?_,WrO.of_below HB1.out⟩
    have hq:=H1.out
    have:addW W nm [] = W:=by funext s;unfold addW;split <;> simp
    rw [this];exact hq
  · have HR:=hid (show callsX [x] = [x.hd.name] by unfold callsX;simp [h7])
    obtain⟨kv,hC,hOO⟩:=h1.cl
    obtain⟨c1,c2,c3,c4,c5,hfn⟩:=h1.fn
    have hf0:=(own6F hfn).1
    have hb0:=cell1 h1.box
    obtain⟨v,hv,hlk,hvl⟩:=cl_look (hC.keeps (Below.refl W1.heap.size W1).drew) nm
    obtain⟨i0,hi0,hi1,hi2,hi3⟩:∃ i,Tryz.prog.info? 9=some i∧i.zero=some (.string ⟨#[]⟩)∧i.size=1∧i.bytes=16:=by
      have:=infoStr
      cases hq:Tryz.prog.info? 9 with
      | none=>rw [hq] at this;cases this
      | some i=>rw [hq] at this;simp only [Option.map_some,Option.some.injEq,Prod.mk.injEq] at this;exact⟨i,rfl,this.1,this.2.1,this.2.2⟩
    have HINF:=hid (And.intro hi0 (And.intro hi1 (And.intro hi2 hi3)))
    have HC1:=hid (hC.keeps (Below.refl W1.heap.size W1).drew)
    have HV:=hid hv
    have HLK:=hid hvl
    have HOO:=hid hOO
    have HFN:=hid hfn
    have HBX:=hid h1.box
    have hml:=hC.map.lt
    have hmpl:mp < W1.heap.size:=(Array.getElem?_eq_some_iff.1 h1.box).1
    have hfbl:fb < W1.heap.size:=(Array.getElem?_eq_some_iff.1 hfn).1
    have nmp:mp < W1.heap.size∧v.ownBlock ≠ some mp:=⟨hmpl,own_not_cells (w:=W1.drew) hv h1.box (by decide)⟩
    have nfb:fb < W1.heap.size∧v.ownBlock ≠ some fb:=⟨hfbl,own_not_cells (w:=W1.drew) hv hfn (by decide)⟩
    have nxb:w.heap.size < W1.heap.size∧v.ownBlock ≠ some w.heap.size:=⟨by omega,own_not_cells (w:=W1.drew) hv hO1 (by decide)⟩
    have nmm:m < W1.heap.size∧v.ownBlock ≠ some m:=⟨hml,own_not_map (w:=W1.drew) hv (hC.keeps (Below.refl W1.heap.size W1).drew).map⟩
    obtain⟨b0,hb0'⟩:∃ q:W1.cell? ⟨mp,0,none⟩ = some (.map (some m)),q=hb0:=⟨_,rfl⟩
    have f0:=hf0
    rw [h7] at k0 HW1
    rw [h7]
    have k0':=k0
    rw [HW1.out] at k0
    clear h hI hb1 hO1 h1 hW1 h7 hC hOO hfn hf0 hb0' hv hvl hi0 hi1 hi2 hi3
    go_enter Tryz.func85,Tryz.ntmps85
    go_wp2_with fail
    rw [← HW1.out]
    refine wp_region_late (S:=SameOw v W1) (fun j=>decide (11≤j)) (by kernel_rfl) (fun _ _ _=>rfl) (fun hSw=>?_)
    refine wpAnyL_take (i:=0) (v:=.map (some m)) rfl (by kernel_rfl) (by kernel_rfl) (by kernel_rfl) rfl (by kernel_rfl) (fun _ _ _ h=>h) (Or.inl ⟨by rfl,fun W hW=>?_⟩) hSw ?_
    · have b0:=hW.cell nmp b0
      first|(go_simp;done)|rfl
    try simp only [Act.put,q1]
    refine wpAnyL_take (i:=1) (v:=.pointer (some ⟨fb,0,none⟩)) rfl (by kernel_rfl) (by kernel_rfl) (by kernel_rfl) rfl (by kernel_rfl) (fun _ _ _ h=>h) (Or.inl ⟨by rfl,fun W hW=>?_⟩) hSw ?_
    · first|(go_simp;done)|rfl
    try simp only [Act.put]
    refine wpAnyL_take (i:=2) (v:=.string nm) rfl (by kernel_rfl) (by kernel_rfl) (by kernel_rfl) rfl (by kernel_rfl) (fun _ _ _ h=>h) (Or.inl ⟨by rfl,fun W hW=>?_⟩) hSw ?_
    · have f0:=hW.cell nfb f0
      first|(go_simp;done)|rfl
    try simp only [Act.put]
    refine wpAnyL_take (i:=3) (v:=.map (some m)) rfl (by kernel_rfl) (by kernel_rfl) (by kernel_rfl) rfl (by kernel_rfl) (fun _ _ _ h=>h) (Or.inl ⟨by rfl,fun W hW=>?_⟩) hSw ?_
    · have b0:=hW.cell nmp b0
      first|(go_simp;done)|rfl
    try simp only [Act.put]
    refine wpAnyL_take (i:=4) (v:=.pointer (some ⟨fb,0,none⟩)) rfl (by kernel_rfl) (by kernel_rfl) (by kernel_rfl) rfl (by kernel_rfl) (fun _ _ _ h=>h) (Or.inl ⟨by rfl,fun W hW=>?_⟩) hSw ?_
    · first|(go_simp;done)|rfl
    try simp only [Act.put]
    refine wpAnyL_take (i:=5) (v:=.string nm) rfl (by kernel_rfl) (by kernel_rfl) (by kernel_rfl) rfl (by kernel_rfl) (fun _ _ _ h=>h) (Or.inl ⟨by rfl,fun W hW=>?_⟩) hSw ?_
    · have f0:=hW.cell nfb f0
      first|(go_simp;done)|rfl
    try simp only [Act.put]
    refine wpAnyL_take (i:=6) (v:=v) rfl (by kernel_rfl) (by kernel_rfl) (by kernel_rfl) rfl (by kernel_rfl) (fun _ _ _ h=>h) (Or.inl ⟨by rfl,fun W hW=>?_⟩) hSw ?_
    · (have hl:=hlk W (hW m nmm.1 nmm.2);first|(go_simp;done)|exact hl)
    try simp only [Act.put]
    refine wpAnyL_take (i:=7) (v:=.pointer (some ⟨w.heap.size,2,none⟩)) rfl (by kernel_rfl) (by kernel_rfl) (by kernel_rfl) rfl (by kernel_rfl) (fun _ _ _ h=>h) (Or.inl ⟨by rfl,fun W hW=>?_⟩) hSw ?_
    · first|(go_simp;done)|rfl
    try simp only [Act.put]
    refine wpAnyL_take (i:=8) (v:=.string x.hd.name) rfl (by kernel_rfl) (by kernel_rfl) (by kernel_rfl) rfl (by kernel_rfl) (fun _ _ _ h=>h) (Or.inl ⟨by rfl,fun W hW=>?_⟩) hSw ?_
    · have k2:=hW.cell nxb k2
      first|(go_simp;done)|rfl
    try simp only [Act.put]
    refine wpAnyL_ready (rs:=[9]) (by kernel_rfl) (by simp) (AllReadyL.cons rfl rfl (fun J hK=>?_) AllReadyL.nil)
    rw [if_pos (by rfl)]
    clear hSw
    go_simp

    refine hK.out _ _ (fun k hk _=>(below_box W1 _).drew.block k hk) (fun hSw=>?_)
    clear hK J
    try simp only [Act.put,q1,q2,q3]
    have hbA:Below W1.drew.heap.size W1.drew (W1.alloc (.cells #[.string x.hd.name] 9)).drew:=have q:=(below_box W1 (.cells #[.string x.hd.name] 9)).drew;⟨q.os,q.tape,q.output,q.size,q.block⟩
    have hrow:=HV.out.kept (row:=none) ⟨hbA.os,hbA.tape,hbA.output,hbA.size,fun k hk _=>hbA.block k hk⟩ (by cases hh:v.ownBlock <;> simp)
    have hnew:(W1.alloc (.cells #[.string x.hd.name] 9)).drew.heap[w.heap.size+1]? = some (.cells #[.string x.hd.name] 9 (0,0)):=by rw [← hz1];exact (MapKept.heap_alloc W1 _).1
    refine wpAnyL_ready (rs:=[10]) (by kernel_rfl) (by simp) (AllReadyL.cons rfl rfl (fun J hK=>?_) AllReadyL.nil)
    rw [if_pos (by rfl)]
    clear hSw
    refine wp_append_lies _ _ _ _ rfl B 9 i0 _ 1 16 Tryz.underlying151 HINF.out.1 HINF.out.2.1 HINF.out.2.2.1 HINF.out.2.2.2 rfl (by decide) v _ _ rfl hrow ⟨w.heap.size+1,0,none⟩ 1 1 [.string x.hd.name] rfl rfl (World.news_of_block hnew) (by simp [Value.oneCell']) (by decide) (by unfold maxLen;omega) (by omega) (by have:=hbA.size;have:W1.drew.heap.size=W1.heap.size:=rfl;omega) _ rfl ?_
    intro g2 cap2 w3 hown3 hg3 hgo hgl
    have HOWN3:=hid hown3
    have HG3:=hid hg3
    have HGO:=hid hgo
    clear hown3 hg3 hgo
    refine hK.out _ _ (fun k hk hv=>(HG3.out.block k (Nat.lt_of_lt_of_le hk hbA.size) (fun e=>hv e.symm)).trans (hbA.block k hk)) (fun hSw=>?_)
    clear hK J
    try simp only [Act.put,q1]
    refine wpAnyL_only (rs:=[11]) (by kernel_rfl) (by simp) (by rfl) ?_
    have hgo2:v.ownBlock=(Value.slice (some ⟨g2,0,none⟩) ((W nm).length+1) cap2).ownBlock ∨ ∃ g,(Value.slice (some ⟨g2,0,none⟩) ((W nm).length+1) cap2).ownBlock=some g∧W1.drew.heap.size≤g:=by
      rcases HGO.out with h|h
      · exact .inl h
      · exact .inr ⟨g2,rfl,by rw [h];exact hbA.size⟩
    obtain⟨w4,kv4,hrun,hC4,hg4,hset4⟩:=cl_put (w:=W1.drew) (x:=x.hd.name) HC1.out HLK.out hbA HOWN3.out HG3.out hgo2
    have HC4:=hid hC4
    have HG4:=hid hg4
    have HS4:=hid hset4
    have HBA:=hid hbA
    clear hC4 hg4 hset4 hgo2
    refine wpAny_one (i:=11) (by kernel_rfl) rfl (fun J hK=>?_)
    rw [if_pos (by rfl)]
    go_simp
    refine hK.out _ _ ?_
    clear hK J
    try simp only [Act.put,q1,q2,q3]
    refine wpAny_done (by kernel_rfl) ?_ _
    clear hrun hnew hrow b0 f0 k0 k0' k2 hb0
    go_wp2_with fail
    go_end0
    have hmm:mp ≠ m∧fb ≠ m:=by
      obtain⟨es,ck,hbm,_⟩:=HC1.out.map
      have hbm':W1.heap[m]? = some (.map es ck):=hbm
      refine⟨fun e=>?_,fun e=>?_⟩
      · subst e;rw [HBX.out] at hbm';cases hbm'
      · subst e;rw [HFN.out] at hbm';cases hbm'
    have hkeep:∀ g,g < W1.heap.size→v.ownBlock ≠ some g→g ≠ m→w4.heap[g]? = W1.heap[g]?:=fun g h1 h2 h3 =>
      (HG4.out.block g (Nat.lt_of_lt_of_le h1 (Nat.le_trans HBA.out.size HG3.out.size)) (fun e=>h3 (by cases e;rfl))).trans ((HG3.out.block g (Nat.lt_of_lt_of_le h1 HBA.out.size) (fun e=>h2 e.symm)).trans (HBA.out.block g h1))
    have hd:Wr O (W1.alloc (.cells #[.string x.hd.name] 9)).drew w3:=⟨HG3.out.os,HG3.out.tape,HG3.out.output,HG3.out.size,fun g hg hO=>HG3.out.block g hg (fun e=>hO (by
      rw [HOO.out]
      rcases HLK.out with hl|⟨_,hl⟩
      · exact .inr ⟨nm,v,hl,e.symm⟩
      · rw [hl] at e;cases e))⟩
    have hall:=(Wr.of_below (S:=O) HB1.out).trans ((Wr.of_below (Below.refl W1.heap.size W1).drew).trans ((Wr.of_below HBA.out).trans (hd.trans (Wr.of_grown HG4.out (by rw [HOO.out];exact .inl rfl)))))
    have hcl:CI B m mp fb nm (addW W nm (callsX [x])) (fun g=>g=m ∨ ∃ s v,lookT s kv4=some v∧v.ownBlock=some g) w4:=by
      rw [HR.out]
      exact⟨⟨kv4,HC4.out,rfl⟩,(hkeep mp nmp.1 nmp.2 hmm.1).trans HBX.out,⟨c1,c2,c3,c4,c5,(hkeep fb nfb.1 nfb.2 hmm.2).trans HFN.out⟩⟩
    refine⟨rfl,_,hcl,hall,fun g hg=>?_⟩
    rcases hg with rfl|hg
    · exact .inl (by rw [HOO.out];exact .inl rfl)
    · rcases HS4.out g hg with h|h
      · exact .inl (by rw [HOO.out];exact .inr h)
      · exact .inr (by have:W1.drew.heap.size=W1.heap.size:=rfl;omega)
theorem addW_add (W:ByteArray→List ByteArray) (nm:ByteArray) (a b:List ByteArray):addW (addW W nm a) nm b=addW W nm (a ++ b):=by
  funext s
  unfold addW
  split <;> simp
theorem callV_ok (B m mp fb:Nat) (nm:ByteArray) (W:ByteArray→List ByteArray):(callV B m mp fb nm W).Ok where
  pre:=fun a b h=>by
    have h2:(W nm).length+(callsX (a ++ b)).length≤10000000:=h
    rw [callsX_append,List.length_append] at h2
    show (W nm).length+(callsX a).length≤10000000
    omega
  enters:=fun _ _=>rfl
  far:=fun acc O w h=>h.far
  keep:=fun acc O w w' h hb=>h.keeps hb
  step:=fun acc O x w h hI hfit hBw=>by
    have hf:(W nm).length+(callsX (acc ++ [x])).length≤10000000:=hfit
    rw [callsX_append,List.length_append] at hf
    have:=call1_step B m mp fb nm (addW W nm (callsX acc)) O x w h hI (by unfold addW;rw [if_pos rfl,List.length_append];omega) hBw
    refine this.mono fun e w' ⟨he,O2,h1,h2⟩=>⟨he,O2, ?_,h2⟩
    show CI B m mp fb nm (addW W nm (callsX (acc ++ [x]))) O2 w'
    rw [callsX_append,← addW_add]
    exact h1
def callsV (B m mp fb:Nat) (nm:ByteArray) (W:ByteArray→List ByteArray):VisS:=⟨84,#[.pointer (some ⟨mp,0,none⟩),.pointer (some ⟨fb,0,none⟩)],B,fun acc=>CI B m mp fb nm (addW W nm (callsS acc)),fun acc=>(W nm).length+(callsS acc).length≤10000000⟩
attribute [local go_sem ↓] loadS_eq
theorem calls1_step (B m mp fb:Nat) (nm:ByteArray) (W:ByteArray→List ByteArray) (O:Nat→Prop) (s:St) (i:Bool) (w:World) (h:CI B m mp fb nm W O w) (hI:SIn w B s) (hfit:(W nm).length+(callsX s.exprs).length≤10000000) (hBw:B≤w.heap.size) :
    Calls Tryz.prog 84 #[.agg s.arr,.bool i,.pointer (some ⟨mp,0,none⟩),.pointer (some ⟨fb,0,none⟩)] w fun e w'=>e = .returned (.tuple #[])∧∃ O2,CI B m mp fb nm (addW W nm (callsX s.exprs)) O2 w'∧WrO O w w' O2:=by
  have hmf:∀ (fn:Go.Fn) (first cap:Array Value) (w:World),(Instr.makeFunc fn first cap).run Tryz.prog w = .ok (.func fn first cap) w:=fun _ _ _ _=>rfl
  obtain⟨W1,hW1⟩:∃ W1,W1=w.alloc (.cells s.arr 64):=⟨_,rfl⟩
  have hb1:Below w.heap.size w W1:=by rw [hW1];exact below_box w _
  have hO1:W1.heap[w.heap.size]? = some (.cells s.arr 64 (0,0)):=by rw [hW1];exact (MapKept.heap_alloc _ _).1
  have hL1:=loadS_row (arr_size s) hO1
  have hone:=hI.one
  have hinv:(callV B m mp fb nm W).Inv [] O W1:=by
    have:addW W nm (callsX [])=W:=by funext s;unfold addW callsX;split <;> simp
    show CI B m mp fb nm (addW W nm (callsX [])) O W1
    rw [this];exact h.keeps hb1
  have hall:=eachExpr_any s (callV B m mp fb nm W) (callV_ok _ _ _ _ _ _) [] O W1 (SIn.keeps (hb1.mono hBw) _ hI) (show (W nm).length+(callsX ([] ++ s.exprs)).length≤10000000 by rw [List.nil_append];exact hfit) (show B≤W1.heap.size by have:=hb1.size;omega) hinv
  have HALL:=hid hall
  have HW1:=hid hW1
  have HB1:=hid hb1
  rw [hW1] at hL1
  clear h hI hb1 hO1 hinv hall hW1
  go_enter Tryz.func84,Tryz.ntmps84
  go_wp2_with fail
  rw [← HW1.out]
  refine HALL.out.mono ?_;rintro z w4 ⟨rfl,O2,hX,hw4⟩
  have HX:=hid hX
  have HW4:=hid hw4
  clear hX hw4
  go_wp2_with fail
  go_end0
  exact⟨rfl,O2,HX.out,(WrO.of_below HB1.out).trans HW4.out⟩
theorem callsV_ok (B m mp fb:Nat) (nm:ByteArray) (W:ByteArray→List ByteArray):(callsV B m mp fb nm W).Ok where
  pre:=fun a b h=>by
    have h2:(W nm).length+(callsS (a ++ b)).length≤10000000:=h
    rw [callsS_append,List.length_append] at h2
    show (W nm).length+(callsS a).length≤10000000
    omega
  enters:=fun _ _ _=>rfl
  far:=fun acc O w h=>h.far
  keep:=fun acc O w w' h hb=>h.keeps hb
  step:=fun acc O s i w h hI hfit hBw=>by
    have hs:callsS [(s,i)] = callsX s.exprs:=by unfold callsS;simp
    have hf:(W nm).length+(callsS (acc ++ [(s,i)])).length≤10000000:=hfit
    rw [callsS_append,List.length_append,hs] at hf
    have:=calls1_step B m mp fb nm (addW W nm (callsS acc)) O s i w h hI (by unfold addW;rw [if_pos rfl,List.length_append];omega) hBw
    refine this.mono fun e w' ⟨he,O2,h1,h2⟩=>⟨he,O2, ?_,h2⟩
    show CI B m mp fb nm (addW W nm (callsS (acc ++ [(s,i)]))) O2 w'
    rw [callsS_append,hs,← addW_add]
    exact h1
theorem fnN_front0:∀ (fs:List Fn) (k:Nat) (f:Fn),fs[k]? = some f→idx f.name (nnames fs)=some k→fnN (fs.take k) f.name=none
  | [],k,f,h,_=>by simp at h
  | a :: r,0,f,_,_=>by simp [fnN]
  | a :: r,k+1,f,h,hi=>by
    have hn:nnames (a :: r)=a.name :: nnames r:=rfl
    rw [hn,idx] at hi
    split at hi
    · cases hi
    rename_i ha
    obtain⟨j,hj,hjk⟩:=Option.map_eq_some_iff.1 hi
    obtain rfl:j=k:=by omega
    have:=fnN_front0 r j f (by simpa using h) hj
    unfold fnN at this ⊢
    rw [List.take_succ_cons,List.find?_cons]
    simp only [ha,decide_false]
    exact this
theorem calls_more (fs:List Fn) (k:Nat) (f:Fn) (h:fs[k]? = some f) (hi:idx f.name (nnames fs)=some k):addW (callsN (fs.take k)) f.name (callsF f)=callsN (fs.take (k+1))∧callsN (fs.take k) f.name = []:=by
  have h0:=fnN_front0 fs k f h hi
  have hk:=(List.getElem?_eq_some_iff.1 h)
  have ht:fs.take (k+1)=fs.take k ++ [f]:=by rw [List.take_succ_eq_append_getElem hk.1,hk.2]
  refine⟨?_,by unfold callsN;rw [h0]⟩
  funext s
  unfold addW callsN
  rw [ht,fnN_snoc]
  by_cases hs:s=f.name
  · subst hs
    rw [if_pos rfl,h0]
    simp
  · rw [if_neg hs]
    cases fnN (fs.take k) s with
    | some g=>rfl
    | none=>simp only;rw [if_neg (fun e=>hs e.symm)]
theorem calls_of (P:Pr) (B:Nat) (w:World) (hBw:B≤w.heap.size) (hI:PIn w B P) (hF:Fits P) :
    Calls Tryz.prog 59 #[.agg #[P.e.rv,P.e.sv,P.e.fv,P.tv]] w fun x w'=>∃ m kv,x = .returned (.map (some m))∧IsCl w' w.heap.size m (callsN P.e.funcs) kv∧Below w.heap.size w w':=by
  have hmf:∀ (fn:Go.Fn) (first cap:Array Value) (w:World),(Instr.makeFunc fn first cap).run Tryz.prog w = .ok (.func fn first cap) w:=fun _ _ _ _=>rfl
  have hIu:=PIn.up hBw hI
  obtain⟨fo,fc,ef,hfl,hfg⟩:=hIu.e.flies.form
  have HFL:=hid hIu.e.flies
  have HFI:=hid hIu.e.funcs
  obtain⟨rv,hrv⟩:∃ v,v=P.e.rv:=⟨_,rfl⟩
  obtain⟨sv,hsv⟩:∃ v,v=P.e.sv:=⟨_,rfl⟩
  obtain⟨tv,htv⟩:∃ v,v=P.tv:=⟨_,rfl⟩
  rw [ef,← hrv,← hsv,← htv]
  rw [ef] at HFL
  obtain⟨N3,hN3⟩:∃ N,N=P.e.funcs.length:=⟨_,rfl⟩
  rw [← hN3] at hfl hfg HFL ⊢
  obtain⟨W1,hW1⟩:∃ W1,W1=w.alloc (.cells #[rv,sv,.slice fo N3 fc,tv] 27):=⟨_,rfl⟩
  have hb1:Below w.heap.size w W1:=by rw [hW1];exact below_box w _
  have hz1:W1.heap.size=w.heap.size+1:=by rw [hW1];simp
  have hO1:W1.heap[w.heap.size]? = some (.cells #[rv,sv,.slice fo N3 fc,tv] 27 (0,0)):=by rw [hW1];exact (MapKept.heap_alloc _ _).1
  obtain⟨W3,hW3⟩:∃ W3,W3=(W1.alloc (.map #[] 0)).alloc (.cells #[.map (some (w.heap.size+1))] 120):=⟨_,rfl⟩
  have hb3:Below W1.heap.size W1 W3:=by rw [hW3];exact ((below_box W1 _).alloc (by simp) _)
  have hz3:W3.heap.size=w.heap.size+3:=by rw [hW3];simp;omega
  have hOm:W3.heap[w.heap.size+1]? = some (.map #[] 0):=by rw [hW3,Below.heap_alloc _ _ _ (by simp;omega),← hz1];exact (MapKept.heap_alloc W1 _).1
  have hOb:W3.heap[w.heap.size+1+1]? = some (.cells #[.map (some (w.heap.size+1))] 120 (0,0)):=by rw [hW3];have:=(MapKept.heap_alloc (W1.alloc (.map #[] 0)) (.cells #[.map (some (w.heap.size+1))] 120)).1;simpa [hz1] using this
  have hO3:=(hb3.block w.heap.size (by omega)).trans hO1
  have hcl0:IsCl W3 w.heap.size (w.heap.size+1) (callsN (P.e.funcs.take 0)) []:=⟨⟨#[],0,hOm,rfl,rfl⟩,(fun s v h=>by cases h),(fun s _=>by simp [callsN,fnN]),(fun s s' v v' g _ h=>by cases h),by omega⟩
  obtain⟨q0,q1,q2,q3⟩:=cells_prog _ _ _ _ hO1
  obtain⟨p0,p1,p2,p3⟩:=cells_prog _ _ _ _ hO3
  have mk:=makeM 120 N3 _ _ uMapC
  have HBB:=hid (hb1.trans (hb3.mono (by omega)))
  have HO3:=hid hO3
  have HOB:=hid hOb
  have HCL:=hid hcl0
  have HW1:=hid hW1
  have HW3:=hid hW3
  have HFF:=hid hF
  have HN3:=hid hN3
  have HGF:=hid hfg
  rw [hW1] at q0 q1 q2 q3
  rw [hW3,hW1] at p0 p1 p2 p3
  clear hI hIu hF ef hrv hsv htv hN3 hfg hb1 hO1 hW1 hb3 hOm hOb hO3 hcl0 hW3
  go_enter Tryz.func59,Tryz.ntmps59
  go_wp2_with fail
  rw [← HW1.out,← HW3.out]
  clear q0 q1 q2 q3 p0 p1 p2 p3
  go_loopw [13] (fun q wr=>∃ k:Nat,k≤N3∧q = .int .i64 k∧Hid (∃ kv,IsCl wr w.heap.size (w.heap.size+1) (callsN (P.e.funcs.take k)) kv)∧Below w.heap.size w wr∧Hid (wr.heap[w.heap.size+1+1]? = some (.cells #[.map (some (w.heap.size+1))] 120 (0,0)))) (fun q _=>N3 - (intOf q).toNat)
  case atStart=>exact⟨0,by omega,rfl,hid ⟨_,HCL.out⟩,HBB.out,HOB⟩
  case round =>
    obtain⟨k,hkN,rfl,HC,hB,HOBr⟩:=hrel
    have hsr:=hB.size
    have hmpl:w.heap.size+1+1 < wr.heap.size:=(Array.getElem?_eq_some_iff.1 HOBr.out).1
    by_cases hk:k < N3
    · obtain⟨g,off,rfl,hg⟩:=HGF.out (by omega)
      have hkx:k < P.e.funcs.length:=by rw [← HN3.out];exact hk
      have hat:=((HFL.out.below hB).at rfl k hkx).2
      have hma:=(HFI.out _ (List.getElem_mem hkx)).keeps hB
      have hidx:=HFF.out.at_ k P.e.funcs[k] (List.getElem?_eq_getElem hkx)
      obtain⟨hmo1,hmo2⟩:=calls_more P.e.funcs k P.e.funcs[k] (List.getElem?_eq_getElem hkx) hidx
      have hfew:=HFF.out.few _ (List.getElem_mem hkx)
      generalize P.e.funcs[k] = a at hat hma hmo1 hmo2 hfew
      obtain⟨p0,p1,p2,p3,p4,p5⟩:=cells6F hat
      obtain⟨po,pc,ep,-⟩:=hma.lies.form
      obtain⟨bo,bc,eb,-⟩:=hma.blies.form
      obtain⟨pn,hpn⟩:∃ n,n=a.params.length:=⟨_,rfl⟩
      obtain⟨bn,hbn⟩:∃ n,n=a.body.length:=⟨_,rfl⟩
      have hbl:=hma.blies
      rw [ep,← hpn] at p1
      rw [eb,← hbn] at p5 hbl
      obtain⟨W5,hW5⟩:∃ W5,W5=wr.alloc (.cells #[.string a.name,.slice po pn pc,.int .u8 a.res.k,.string a.res.n,.int .i64 a.res.z,.slice bo bn bc] 33):=⟨_,rfl⟩
      have hb5:Below wr.heap.size wr W5:=by rw [hW5];exact below_box wr _
      have hz5:W5.heap.size=wr.heap.size+1:=by rw [hW5];simp
      have hO5:W5.heap[wr.heap.size]? = some (.cells #[.string a.name,.slice po pn pc,.int .u8 a.res.k,.string a.res.n,.int .i64 a.res.z,.slice bo bn bc] 33 (0,0)):=by rw [hW5];exact (MapKept.heap_alloc _ _).1
      have k5:=(own6F hO5).2.2
      obtain⟨kv,hkv⟩:=HC.out
      have hci:(callsV w.heap.size (w.heap.size+1) (w.heap.size+1+1) wr.heap.size a.name (callsN (P.e.funcs.take k))).Inv [] (fun g=>g=w.heap.size+1 ∨ ∃ s v,lookT s kv=some v∧v.ownBlock=some g) W5:=by
        have h0:addW (callsN (P.e.funcs.take k)) a.name (callsS [])=callsN (P.e.funcs.take k):=by funext s;unfold addW callsS;split <;> simp
        show CI _ _ _ _ _ (addW (callsN (P.e.funcs.take k)) a.name (callsS [])) _ W5
        rw [h0]
        exact⟨⟨kv,hkv.keeps hb5,rfl⟩,(hb5.block _ hmpl).trans HOBr.out,⟨_,_,_,_,_,hO5⟩⟩
      have hall:=eachStmt_any (callsV w.heap.size (w.heap.size+1) (w.heap.size+1+1) wr.heap.size a.name (callsN (P.e.funcs.take k))) (callsV_ok _ _ _ _ _ _) [] _ a.body (.slice bo bn bc) W5 (hbl.below (hb5.mono hsr)) (fun q hq=>SIn.keeps (hb5.mono hsr) _ (hma.body q hq))
        (show (callsN (P.e.funcs.take k) a.name).length+(callsS ([] ++ St.flats false a.body)).length≤10000000 by rw [hmo2,List.nil_append];show 0+(callsF a).length≤10000000;omega) (show w.heap.size≤W5.heap.size by omega) hci
      have HALL:=hid hall
      have HMO:=hid hmo1
      have HW5:=hid hW5
      have HB5:=hid (hB.trans (hb5.mono hsr))
      have HOB5:=hid ((hb5.block _ hmpl).trans HOBr.out)
      have HCI:=hid hci
      have hgs:g < wr.heap.size:=by omega
      rw [hW5] at k5
      clear hat hma hidx hmo1 hmo2 hfew ep eb hpn hbn hbl hW5 hb5 hO5 hkv hci hall hB
      go_wp2_with fail
      rw [← HW5.out]
      refine HALL.out.mono ?_;rintro z w6 ⟨rfl,O2,hX,hw6⟩
      have hX':CI w.heap.size (w.heap.size+1) (w.heap.size+1+1) wr.heap.size a.name (addW (callsN (P.e.funcs.take k)) a.name (callsS ([] ++ St.flats false a.body))) O2 w6:=hX
      rw [List.nil_append] at hX'
      have hX2:CI w.heap.size (w.heap.size+1) (w.heap.size+1+1) wr.heap.size a.name (callsN (P.e.funcs.take (k+1))) O2 w6:=by rw [← HMO.out];exact hX'
      have HX:=hid hX2
      have HB6:=hid (HB5.out.trans (hw6.wr.below (fun g hg=>((callsV_ok _ _ _ _ _ _).far _ _ _ HCI.out g hg).1) HB5.out.size))
      clear hX hX' hX2 hw6 k5 p0 p1 p2 p3 p4 p5
      go_wp2_with fail
      go_roundw
      case rel =>
        obtain⟨kv2,h1,-⟩:=HX.out.cl
        exact⟨k+1,by omega,by go_num,hid ⟨kv2,h1⟩,HB6.out,hid HX.out.box⟩
      case measure=>simp [intOf];omega
    · have hkk:P.e.funcs.take k=P.e.funcs:=List.take_of_length_le (by rw [← HN3.out];omega)
      have HKK:=hid hkk
      have HBr:=hid hB
      have cb:=cell1 HOBr.out
      clear hB hkk
      go_wp2_with fail
      go_ret
      obtain⟨kv,hkv⟩:=HC.out
      rw [HKK.out] at hkv
      exact⟨_,kv,rfl,hkv,HBr.out⟩
end Go.Proofs.YtdhieihcmnpneaaGreatDoor
