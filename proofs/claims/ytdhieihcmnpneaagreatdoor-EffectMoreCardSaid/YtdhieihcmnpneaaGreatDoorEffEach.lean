/- All expressions within some, handed one by one to a function literal, whatever that is. -/
import Derived.Test.YtdhieihcmnpneaaGreatDoorRows
import Derived.Test.YtdhieihcmnpneaaGreatDoorGEff
import Derived.Test.YtdhieihcmnpneaaGreatDoorGMem
import Derived.Test.YtdhieihcmnpneaaGreatDoorGTw
import Derived.Laws.EntriesVeiled
import Derived.LoopN
import Derived.Outline
namespace Go.Proofs.YtdhieihcmnpneaaGreatDoor
open Lib (hid)
set_option maxHeartbeats 8000000
set_option maxRecDepth 100000
open Go.RowKit
attribute [local go_sem ↓] loadX_eq loadS_eq bls_eq
structure Wr (S:Nat→Prop) (w w':World):Prop where
  os:w'.os=w.os
  tape:w'.tape=w.tape
  output:w'.output=w.output
  size:w.heap.size≤w'.heap.size
  block:∀ g,g < w.heap.size → ¬ S g→w'.heap[g]? = w.heap[g]?
theorem Wr.refl (S:Nat→Prop) (w:World):Wr S w w:=⟨rfl,rfl,rfl,Nat.le_refl _,fun _ _ _=>rfl⟩
theorem Wr.trans {S:Nat→Prop} {a b c:World} (h:Wr S a b) (k:Wr S b c):Wr S a c:=
  ⟨k.os.trans h.os,k.tape.trans h.tape,k.output.trans h.output,Nat.le_trans h.size k.size,fun g h1 h2=>(k.block g (Nat.lt_of_lt_of_le h1 h.size) h2).trans (h.block g h1 h2)⟩
theorem Wr.of_below {S:Nat→Prop} {w w':World} (h:Below w.heap.size w w'):Wr S w w':=⟨h.os,h.tape,h.output,h.size,fun g h1 _=>h.block g h1⟩
theorem Wr.below {S:Nat→Prop} {B:Nat} {w w':World} (h:Wr S w w') (hS:∀ b,S b→B≤b) (hB:B≤w.heap.size):Below B w w':=
  ⟨h.os,h.tape,h.output,h.size,fun g hg=>h.block g (by omega) (fun hs=>by have:=hS g hs;omega)⟩
structure WrO (O:Nat→Prop) (w w':World) (O2:Nat→Prop):Prop where
  wr:Wr O w w'
  new:∀ g,O2 g→O g ∨ w.heap.size≤g
theorem WrO.refl (O:Nat→Prop) (w:World):WrO O w w O:=⟨Wr.refl _ _,fun _ h=>.inl h⟩
theorem WrO.trans {O O1 O2:Nat→Prop} {a b c:World} (h:WrO O a b O1) (k:WrO O1 b c O2):WrO O a c O2:=
  ⟨⟨k.wr.os.trans h.wr.os,k.wr.tape.trans h.wr.tape,k.wr.output.trans h.wr.output,Nat.le_trans h.wr.size k.wr.size,fun g h1 h2=>(k.wr.block g (Nat.lt_of_lt_of_le h1 h.wr.size) (fun h3=>by
    rcases h.new g h3 with h4|h4
    · exact h2 h4
    · omega)).trans (h.wr.block g h1 h2)⟩,fun g h1=>by
    rcases k.new g h1 with h2|h2
    · exact h.new g h2
    · exact .inr (Nat.le_trans h.wr.size h2)⟩
theorem WrO.of_below {O:Nat→Prop} {w w':World} (h:Below w.heap.size w w'):WrO O w w' O:=⟨Wr.of_below h,fun _ h=>.inl h⟩
structure VisX where
  F:Nat
  caps:Array Value
  B:Nat
  Inv:List X→(Nat→Prop)→World→Prop
  Fit:List X→Prop
def EE (V:VisX) (acc:List X) (O:Nat→Prop) (w:World) (e:Ending) (w':World):Prop:=e = .returned (.tuple #[])∧∃ O2,V.Inv acc O2 w'∧WrO O w w' O2
structure VisX.Ok (V:VisX):Prop where
  pre:∀ a b,V.Fit (a ++ b)→V.Fit a
  enters:∀ (x:Value) w,(callFunc V.F (#[x] ++ V.caps)).run Tryz.prog w = .ok (.enter V.F (#[x] ++ V.caps)) w
  far:∀ acc O w,V.Inv acc O w→∀ b,O b→V.B≤b∧b < w.heap.size
  keep:∀ acc O w w',V.Inv acc O w→Below w.heap.size w w'→V.Inv acc O w'
  step:∀ acc O x w,V.Inv acc O w→InW w V.B x→V.Fit (acc ++ [x])→V.B≤w.heap.size→Calls Tryz.prog V.F (#[x.val] ++ V.caps) w (EE V (acc ++ [x]) O w)
structure TwoF (V:VisX) (vb ab:Nat) (O:Nat→Prop) (w:World):Prop where
  v:w.heap[vb]? = some (.cells #[.func (.func V.F) #[] V.caps] 130 (0,0))
  a:w.heap[ab]? = some (.cells #[.func (.func 87) #[] #[.pointer (some ⟨vb,0,none⟩),.pointer (some ⟨ab,0,none⟩)]] 154 (0,0))
  nv:¬ O vb
  na:¬ O ab
theorem TwoF.after {V:VisX} {vb ab:Nat} {O O2:Nat→Prop} {w w':World} (h:TwoF V vb ab O w) (k:WrO O w w' O2):TwoF V vb ab O2 w':=by
  have h1:vb < w.heap.size:=(Array.getElem?_eq_some_iff.1 h.v).1
  have h2:ab < w.heap.size:=(Array.getElem?_eq_some_iff.1 h.a).1
  refine⟨(k.wr.block vb h1 h.nv).trans h.v,(k.wr.block ab h2 h.na).trans h.a,fun q=>?_,fun q=>?_⟩
  · rcases k.new vb q with q|q
    · exact h.nv q
    · omega
  · rcases k.new ab q with q|q
    · exact h.na q
    · omega
def PEx (l:List X):Prop:=∀ (V:VisX) (_:V.Ok) (vb ab:Nat) (acc:List X) (O:Nat→Prop) (s:Value) (B1:Nat) (w:World),LiesG X.cells 7 w B1 s l→B1≤w.heap.size→(l ≠ [] → ∀ g off n c,s = .slice (some ⟨g,off,none⟩) n c → ¬ O g)→(∀ a ∈ l,InW w V.B a)→V.Fit (acc ++ X.flats l)→V.B≤w.heap.size→TwoF V vb ab O w→V.Inv acc O w →
  Calls Tryz.prog 87 #[s,.pointer (some ⟨vb,0,none⟩),.pointer (some ⟨ab,0,none⟩)] w (EE V (acc ++ X.flats l) O w)
theorem flats_split (l:List X) (k:Nat) (h:k < l.length):X.flats l=(X.flats (l.take k) ++ [l[k]]) ++ (X.flats l[k].args ++ X.flats (l.drop (k+1))):=by
  conv=>lhs;rw [← List.take_append_drop k l,List.drop_eq_getElem_cons h,xflats_append,xflats_cons]
  generalize l[k] = a
  cases a
  rw [xflat_mk]
  simp [X.args]
theorem cell1 {w:World} {b:Nat} {T:TypeId} {fr:Nat × Nat} {v:Value} (h:w.heap[b]? = some (.cells #[v] T fr)):w.cell? ⟨b,0,none⟩ = some v:=by rw [Lib.cell_of_heap h];rfl
theorem eachX_of (l:List X) (ih:∀ a ∈ l,PEx a.args):PEx l:=by
  intro V hV vb ab acc O s B1 w hL hB1 hno hI hMay hBw hT hInv
  obtain⟨ao,cap,rfl,hlen,hgo⟩:=hL.form
  obtain⟨N,hN⟩:∃ N,N=l.length:=⟨_,rfl⟩
  rw [← hN] at hlen hgo hL ⊢
  have HL:=hid hL
  have HNO:=hid hno
  have HIN:=hid hI
  have HMAY:=hid hMay
  have HIH:=hid ih
  have HG:=hid hgo
  have HN:=hid hN
  have HT:=hid hT
  have HV:=hid hV
  have HINV:=hid hInv
  clear hL hno hI hMay ih hgo hN hT hInv
  have hent:=hV.enters
  go_enter Tryz.func87,Tryz.ntmps87
  go_wp2_with fail
  go_loopw [8] (fun i wr=>∃ k:Nat,k≤N∧i = .int .i64 k∧Hid (∃ O2,V.Inv (acc ++ X.flats (l.take k)) O2 wr∧WrO O w wr O2)) (fun i _=>N - (intOf i).toNat)
  case atStart=>exact⟨0,by omega,rfl,hid ⟨O,by rw [List.take_zero,xflats_nil,List.append_nil];exact HINV.out,WrO.refl _ _⟩⟩
  case round =>
    obtain⟨k,hkN,rfl,HR⟩:=hrel
    obtain⟨O2,hinv,hwr⟩:=HR.out
    have hbw:=hwr.wr.below (fun b hb=>(HV.out.far _ _ _ HINV.out b hb).1) hBw
    have hsr:=hwr.wr.size
    by_cases hlt2:k < N
    · have hpx:k < l.length:=by rw [← HN.out];exact hlt2
      obtain⟨g,off,rfl,hg⟩:=HG.out (by omega)
      have hblk:=hwr.wr.block g (by have:=(HL.out.at rfl k hpx).1;omega) (HNO.out (by intro h;rw [h] at hpx;simp at hpx) _ _ _ _ rfl)
      have hat:∀ j u,(X.cells l[k])[j]? = some u→wr.cell? ⟨g,off+k * 7+j,none⟩ = some u:=fun j u hu=>by
        rw [← (HL.out.at rfl k hpx).2 j u hu];simp only [World.cell?,hblk]
      have hma:=List.getElem_mem hpx
      have hIa:=InW.keeps hbw _ (HIN.out _ hma)
      have hPa:=HIH.out _ hma
      have hmy:=HMAY.out
      rw [flats_split l k hpx,← List.append_assoc,← List.append_assoc] at hmy
      have hmy2:=hV.pre _ _ (by rw [← List.append_assoc] at hmy;exact hmy)
      have hmy1:=hV.pre _ _ hmy2
      have hld:=loadX_mid l[k] hat
      have htk:X.flats (l.take (k+1))=X.flats (l.take k) ++ (l[k] :: X.flats l[k].args):=by
        rw [List.take_succ_eq_append_getElem hpx,xflats_append,xflats_cons,xflats_nil,List.append_nil]
        congr 1
        generalize l[k] = a
        cases a;rw [xflat_mk];rfl
      generalize l[k] = a at *
      obtain⟨xo,xn,xc,ex⟩:=slice_of hIa
      rw [val_of ex] at hld
      have hT2:=HT.out.after hwr
      have hvl:vb < wr.heap.size:=(Array.getElem?_eq_some_iff.1 hT2.v).1
      have hal:ab < wr.heap.size:=(Array.getElem?_eq_some_iff.1 hT2.a).1
      obtain⟨W5,hW5⟩:∃ W5,W5=wr.alloc (.cells #[.int .u8 a.hd.k,.int .i64 a.hd.n,.string a.hd.name,.int .u8 a.hd.tk,.string a.hd.tn,.int .i64 a.hd.tz,.slice xo xn xc] 62):=⟨_,rfl⟩
      have hb5:Below wr.heap.size wr W5:=by rw [hW5];exact below_box wr _
      have hz5:W5.heap.size=wr.heap.size+1:=by rw [hW5];simp
      have hO5:W5.heap[wr.heap.size]? = some (.cells #[.int .u8 a.hd.k,.int .i64 a.hd.n,.string a.hd.name,.int .u8 a.hd.tk,.string a.hd.tn,.int .i64 a.hd.tz,.slice xo xn xc] 62 (0,0)):=by rw [hW5];exact (MapKept.heap_alloc _ _).1
      have v5:=cell1 ((hb5.block vb hvl).trans hT2.v)
      have hlx:=loadX_mid (w:=W5) (g:=wr.heap.size) (o:=0) a (fun j u hu=>by
        rw [Lib.cell_of_heap hO5,Nat.zero_add]
        rw [← hu]
        unfold X.cells
        rw [ex]
        simp)
      rw [val_of ex] at hlx
      have hkp:=HV.out.keep _ _ _ _ hinv hb5
      have hI5:=InW.keeps (hb5.mono (by omega)) _ hIa
      have hst:=HV.out.step _ _ a W5 hkp hI5 hmy1 (by omega)
      rw [val_of ex] at hst
      have hnot:¬ O2 wr.heap.size:=fun h=>by have:=(HV.out.far _ _ _ hinv _ h).2;omega
      rw [hW5] at v5 hlx
      have HST:=hid hst
      have HW5:=hid hW5
      have HT5:=hid (hT2.after (WrO.of_below (O:=O2) hb5))
      have HWR5:=hid (hwr.trans (WrO.of_below (O:=O2) hb5))
      have HO5:=hid hO5
      have HZ5:=hid hz5
      have HTK:=hid htk
      have HEX:=hid ex
      have HMY:=hid hmy2
      have HLA:=hid (show LiesG X.cells 7 W5 V.B a.s a.args by cases hI5;assumption)
      have HAI:=hid (show ∀ q ∈ a.args,InW W5 V.B q by cases hI5;assumption)
      have HPA:=hid hPa
      have HNOT:=hid hnot
      have HKP:=hid hkp
      have hgs:g < wr.heap.size:=by omega
      clear hmy hmy1 hmy2 hat hblk hma hIa hPa htk ex hT2 hW5 hb5 hz5 hO5 hkp hI5 hst hinv hwr hbw hnot
      go_wp2_with fail
      rw [← HW5.out]
      refine HST.out.mono ?_;rintro e w6 ⟨rfl,O3,hi6,hw6⟩
      have hT6:=HT5.out.after hw6
      have a6:=cell1 hT6.a
      have hs6:=hw6.wr.size
      have hO6:=(hw6.wr.block wr.heap.size (by have:=HZ5.out;omega) HNOT.out).trans HO5.out
      have x6:w6.cell? ⟨wr.heap.size,6,none⟩ = some (.slice xo xn xc):=by rw [Lib.cell_of_heap hO6];rfl
      have hb6:Below V.B W5 w6:=hw6.wr.below (fun b hb=>(HV.out.far _ _ _ HKP.out b hb).1) (by have:=HZ5.out;omega)
      have hno6:a.args ≠ [] → ∀ g off n c,a.s = .slice (some ⟨g,off,none⟩) n c → ¬ O3 g:=fun hne g2 off2 n2 c2 e2 h2=>by
        have h3:=(HV.out.far _ _ _ hi6 _ h2).1
        obtain⟨ao3,c3,e3,_,h4⟩:=HLA.out
        rw [e2] at e3
        injection e3 with e4 e5 e6
        rcases h4 with h4|⟨g3,off3,e7,h8,_⟩
        · exact hne h4
        · rw [← e4] at e7;cases e7;omega
      have hrec:=HPA.out V HV.out vb ab _ O3 a.s V.B w6 (HLA.out.below hb6) (by have:=HZ5.out;omega) hno6 (fun q hq=>InW.keeps hb6 _ (HAI.out q hq)) HMY.out (by have:=HZ5.out;omega) hT6 hi6
      rw [HEX.out] at hrec
      have HREC:=hid hrec
      have HWR6:=hid (HWR5.out.trans hw6)
      clear hT6 hO6 hb6 hrec hi6 hw6 hlx v5 hld
      go_wp2_with fail
      refine HREC.out.mono ?_;rintro e w7 ⟨rfl,O4,hi7,hw7⟩
      have HI7:=hid hi7
      have HW7:=hid (HWR6.out.trans hw7)
      clear hi7 hw7
      go_wp2_with fail
      go_roundw
      case rel=>exact⟨k+1,by omega,by go_num,hid ⟨O4,by rw [HTK.out];simpa [List.append_assoc] using HI7.out,HW7.out⟩⟩
      case measure=>simp [intOf];omega
    · have HE:=hid (show ∃ O2,V.Inv (acc ++ X.flats l) O2 wr∧WrO O w wr O2 from ⟨O2,by rw [List.take_of_length_le (by rw [← HN.out];omega)] at hinv;exact hinv,hwr⟩)
      clear hinv hwr hbw
      go_wp2_with fail
      go_end0
      exact⟨rfl,HE.out⟩
theorem eachX_parts:∀ x:X,PEx x.args:=X.ind fun _h _s l ih=>eachX_of l ih
theorem eachX_all (l:List X):PEx l:=eachX_of l fun a _=>eachX_parts a
def PES (s:St):Prop:=∀ (V:VisX) (_:V.Ok) (acc:List X) (O:Nat→Prop) (w:World),SIn w V.B s→V.Fit (acc ++ s.exprs)→V.B≤w.heap.size→V.Inv acc O w →
  Calls Tryz.prog 66 #[.agg s.arr,.func (.func V.F) #[] V.caps] w (EE V (acc ++ s.exprs) O w)
theorem eachExpr_any (s:St):PES s:=by
  intro V hV acc O w hI hMay hBw hInv
  have hIx:InW w V.B s.x:=by cases hI;assumption
  have hIy:InW w V.B s.y:=by cases hI;assumption
  obtain⟨xo,xn,xc,ex⟩:=slice_of hIx
  obtain⟨yo,yn,yc,ey⟩:=slice_of hIy
  obtain⟨W3,hW3⟩:∃ W3,W3=((w.alloc (.cells s.arr 64)).alloc (.cells #[.func (.func V.F) #[] V.caps] 130)).alloc (.cells #[.func (.func 87) #[] #[.pointer (some ⟨w.heap.size+1,0,none⟩),.pointer (some ⟨w.heap.size+1+1,0,none⟩)]] 154):=⟨_,rfl⟩
  have hb3:Below w.heap.size w W3:=by rw [hW3];exact (((below_box w _).alloc (by simp) _).alloc (by simp <;> omega) _)
  have hz3:W3.heap.size=w.heap.size+3:=by rw [hW3];simp
  have hO0:W3.heap[w.heap.size]? = some (.cells s.arr 64 (0,0)):=by
    rw [hW3,Below.heap_alloc _ _ _ (by simp <;> omega),Below.heap_alloc _ _ _ (by simp)];exact (MapKept.heap_alloc _ _).1
  have hO1:W3.heap[w.heap.size+1]? = some (.cells #[.func (.func V.F) #[] V.caps] 130 (0,0)):=by
    rw [hW3,Below.heap_alloc _ _ _ (by simp)];have:=(MapKept.heap_alloc (w.alloc (.cells s.arr 64)) (.cells #[.func (.func V.F) #[] V.caps] 130)).1;simpa using this
  have hO2:W3.heap[w.heap.size+1+1]? = some (.cells #[.func (.func 87) #[] #[.pointer (some ⟨w.heap.size+1,0,none⟩),.pointer (some ⟨w.heap.size+1+1,0,none⟩)]] 154 (0,0)):=by
    rw [hW3];have:=(MapKept.heap_alloc ((w.alloc (.cells s.arr 64)).alloc (.cells #[.func (.func V.F) #[] V.caps] 130)) (.cells #[.func (.func 87) #[] #[.pointer (some ⟨w.heap.size+1,0,none⟩),.pointer (some ⟨w.heap.size+1+1,0,none⟩)]] 154)).1;simpa using this
  have hlx:=st_x hO0
  have hly:=st_y hO0
  rw [val_of ex] at hlx
  rw [val_of ey] at hly
  have hmb:=bls_of 60 62 2 7 #[(0,.agg #[.int .u8 s.x.hd.k,.int .i64 s.x.hd.n,.string s.x.hd.name,.int .u8 s.x.hd.tk,.string s.x.hd.tn,.int .i64 s.x.hd.tz,.slice xo xn xc]),(1,.agg #[.int .u8 s.y.hd.k,.int .i64 s.y.hd.n,.string s.y.hd.name,.int .u8 s.y.hd.tk,.string s.y.hd.tn,.int .i64 s.y.hd.tz,.slice yo yn yc])]
    #[.int .u8 s.x.hd.k,.int .i64 s.x.hd.n,.string s.x.hd.name,.int .u8 s.x.hd.tk,.string s.x.hd.tn,.int .i64 s.x.hd.tz,.slice xo xn xc,.int .u8 s.y.hd.k,.int .i64 s.y.hd.n,.string s.y.hd.name,.int .u8 s.y.hd.tk,.string s.y.hd.tn,.int .i64 s.y.hd.tz,.slice yo yn yc] (by kernel_rfl) (by kernel_rfl) (by kernel_rfl) (by omega) (by omega) (by kernel_rfl) (by kernel_rfl)
  have hmf:∀ (fn:Go.Fn) (first cap:Array Value) (w:World),(Instr.makeFunc fn first cap).run Tryz.prog w = .ok (.func fn first cap) w:=fun _ _ _ _=>rfl
  obtain⟨W4,hW4⟩:∃ W4,W4=W3.alloc (.cells #[.int .u8 s.x.hd.k,.int .i64 s.x.hd.n,.string s.x.hd.name,.int .u8 s.x.hd.tk,.string s.x.hd.tn,.int .i64 s.x.hd.tz,.slice xo xn xc,.int .u8 s.y.hd.k,.int .i64 s.y.hd.n,.string s.y.hd.name,.int .u8 s.y.hd.tk,.string s.y.hd.tn,.int .i64 s.y.hd.tz,.slice yo yn yc] 62):=⟨_,rfl⟩
  have hb4:Below W3.heap.size W3 W4:=by rw [hW4];exact below_box W3 _
  have hO4:W4.heap[W3.heap.size]? = some (.cells #[.int .u8 s.x.hd.k,.int .i64 s.x.hd.n,.string s.x.hd.name,.int .u8 s.x.hd.tk,.string s.x.hd.tn,.int .i64 s.x.hd.tz,.slice xo xn xc,.int .u8 s.y.hd.k,.int .i64 s.y.hd.n,.string s.y.hd.name,.int .u8 s.y.hd.tk,.string s.y.hd.tn,.int .i64 s.y.hd.tz,.slice yo yn yc] 62 (0,0)):=by rw [hW4];exact (MapKept.heap_alloc _ _).1
  have hbb:Below w.heap.size w W4:=hb3.trans (hb4.mono (by omega))
  have hz4:W4.heap.size=W3.heap.size+1:=by rw [hW4];simp
  have hlies:LiesG X.cells 7 W4 W4.heap.size (.slice (some ⟨W3.heap.size,0,none⟩) 2 2) [s.x,s.y]:=by
    refine⟨some ⟨W3.heap.size,0,none⟩,2,rfl,by simp,.inr ⟨W3.heap.size,0,rfl,by omega,fun i y hy j u hu=>?_⟩⟩
    have hc:(X.cells y).length=7:=rfl
    rw [Lib.cell_of_heap hO4]
    have hi:i=0 ∨ i=1:=by have:=(List.getElem?_eq_some_iff.1 hy).1;simp at this;omega
    have hj:j < 7:=by have:=(List.getElem?_eq_some_iff.1 hu).1;rw [hc] at this;exact this
    rcases hi with rfl|rfl
    · obtain rfl:s.x=y:=by simpa using hy
      rw [← hu]
      unfold X.cells
      rw [ex]
      rcases (by omega:j=0 ∨ j=1 ∨ j=2 ∨ j=3 ∨ j=4 ∨ j=5 ∨ j=6) with rfl|rfl|rfl|rfl|rfl|rfl|rfl <;> rfl
    · obtain rfl:s.y=y:=by simpa using hy
      rw [← hu]
      unfold X.cells
      rw [ey]
      rcases (by omega:j=0 ∨ j=1 ∨ j=2 ∨ j=3 ∨ j=4 ∨ j=5 ∨ j=6) with rfl|rfl|rfl|rfl|rfl|rfl|rfl <;> rfl
  have hfar:=hV.far _ _ _ hInv
  have hTW:TwoF V (w.heap.size+1) (w.heap.size+1+1) O W4:=⟨(hb4.block _ (by omega)).trans hO1,(hb4.block _ (by omega)).trans hO2,fun h=>by have:=(hfar _ h).2;omega,fun h=>by have:=(hfar _ h).2;omega⟩
  have hall:=eachX_all [s.x,s.y] V hV (w.heap.size+1) (w.heap.size+1+1) acc O (.slice (some ⟨W3.heap.size,0,none⟩) 2 2) W4.heap.size W4 hlies (Nat.le_refl _)
    (fun _ g off n c e h=>by injection e with e1 _ _;cases e1;have:=(hfar _ h).2;omega)
    (fun a ha=>by
      rcases List.mem_cons.1 ha with rfl|ha
      · exact InW.keeps (hbb.mono hBw) _ hIx
      · obtain rfl:a=s.y:=by simpa using ha
        exact InW.keeps (hbb.mono hBw) _ hIy) hMay (by omega) hTW (hV.keep _ _ _ _ hInv hbb)
  have HALL:=hid hall
  have HW3:=hid hW3
  have HW4:=hid hW4
  have HB4:=hid (WrO.of_below (O:=O) hbb)
  rw [hz3] at HALL
  have c2:=cell1 hO2
  rw [hW3] at hlx hly c2
  clear hO0 hO1 hO2 hb3 hz3 hW3 hW4 hb4 hO4 hbb hz4 hlies hfar hTW hall hInv hI hMay hIx hIy hV
  go_enter Tryz.func66,Tryz.ntmps66
  go_wp2_with fail
  rw [← HW3.out,← HW4.out]
  refine HALL.out.mono ?_;rintro e w6 ⟨rfl,O3,hi6,hw6⟩
  have HI6:=hid hi6
  have HWR6:=hid (HB4.out.trans hw6)
  clear hi6 hw6
  go_wp2_with fail
  go_end0
  exact⟨rfl,O3,HI6.out,HWR6.out⟩
end Go.Proofs.YtdhieihcmnpneaaGreatDoor
