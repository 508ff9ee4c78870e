/- The two maps of the show layer: what a map holds that is made by a literal and asked by small numbers; what the two functions that make them answer. -/
import Derived.Test.YtdhieihcmnpneaaGreatDoorRows
import Derived.Test.YtdhieihcmnpneaaGreatDoorGPlain
import Derived.Carry
import Derived.MapKept
import Derived.OwnWalk
import Derived.WalkKit
import Derived.WalkSpells
import Derived.WalkLawsBesides
namespace Go.Proofs.YtdhieihcmnpneaaGreatDoor
open Lib (hid)
set_option maxHeartbeats 4000000
set_option maxRecDepth 100000
open Go.RowKit
theorem below_box (w:World) (o:Obj):Below w.heap.size w (w.alloc o):=(Below.refl _ _).alloc (Nat.le_refl _) o
def ents:Nat→List (Int × Value)→List MapEntry
  | _,[]=>[]
  | n,(k,v) :: r=>⟨.int .u8 k,v,n⟩ :: ents (n+1) r
theorem ents_snoc (k:Int) (v:Value):∀ (l:List (Int × Value)) (n:Nat),ents n (l ++ [(k,v)])=ents n l ++ [⟨.int .u8 k,v,n+l.length⟩]
  | [],n=>rfl
  | (k0,v0) :: r,n=>by
    show _ :: ents (n+1) (r ++ [(k,v)])=_
    rw [ents_snoc k v r (n+1)]
    show _ :: (_ ++ [_])=(_ :: ents (n+1) r) ++ [_]
    rw [List.cons_append,show n+1+r.length=n+((k0,v0) :: r).length by simp;omega]
def lookI (k:Int):List (Int × Value)→Option Value
  | []=>none
  | (k0,v) :: r=>if k=k0 then some v else lookI k r
theorem find_ents (k:Int):∀ (l:List (Int × Value)) (n i:Nat),∃ o,Instr.findNow (.int .u8) (.int .u8 k) (ents n l) i=some o∧o.map (·.2)=lookI k l
  | [],n,i=>⟨none,rfl,rfl⟩
  | (k0,v) :: r,n,i=>by
    by_cases h:k=k0
    · exact⟨some (i,v),by simp [ents,Instr.findNow,Instr.sameNow,h],by simp [lookI,h]⟩
    · obtain⟨o,h1,h2⟩:=find_ents k r (n+1) (i+1)
      have hb:(k == k0)=false:=beq_eq_false_iff_ne.2 h
      exact⟨o,by simp [ents,Instr.findNow,Instr.sameNow,hb];exact h1,by simp only [lookI,if_neg h];exact h2⟩
def IsMap (w:World) (b:Nat) (l:List (Int × Value)):Prop:=∃ es clock,w.heap[b]? = some (.map es clock)∧es.toList=ents 0 l∧clock=l.length
theorem IsMap.lt {w:World} {b:Nat} {l:List (Int × Value)} (h:IsMap w b l):b < w.heap.size:=by
  obtain⟨es,clock,hb,_⟩:=h
  exact (Array.getElem?_eq_some_iff.1 hb).1
theorem IsMap.of {w w':World} {b:Nat} {l:List (Int × Value)} (h:IsMap w b l) (e:w'.heap[b]? = w.heap[b]?):IsMap w' b l:=by
  obtain⟨es,clock,hb,r⟩:=h
  exact⟨es,clock,e.trans hb,r⟩
theorem IsMap.made (w:World):IsMap (w.alloc (.map #[] 0)) w.heap.size []:=⟨#[],0,(MapKept.heap_alloc w _).1,rfl,rfl⟩
section
variable {P:Program} {t kt et:TypeId}
theorem run_look (ht:P.underlying t=some (.map kt et)) (hk:P.underlying kt=some (.int .u8)) {w:World} {b:Nat} {l:List (Int × Value)} (h:IsMap w b l) (c:Bool) (k:Int) (v:Value) (hv:lookI k l=some v) :
    (Instr.lookup t (.map (some b)) (.int .u8 k) c).run P w = .ok (if c then .tuple #[v,.bool true] else v) w:=by
  obtain⟨es,clock,hb,he,_⟩:=h
  obtain⟨o,h1,h2⟩:=find_ents k l 0 0
  rw [hv] at h2
  obtain⟨⟨i,v'⟩,rfl,rfl⟩:=Option.map_eq_some_iff.1 h2
  have hf:=MapKept.run_findKey (P:=P) (w:=w) hk h1
  have hc:=MapKept.run_checkKey (P:=P) (w:=w) (k:=.int .u8 k) hk (by trivial) es.isEmpty 9999
  rw [← he] at hf
  simp [Instr.lookup,run_underlying ht,MapKept.run_getObj_map hb,hc,hf,Result.andThen]
theorem run_look_none (ht:P.underlying t=some (.map kt et)) (hk:P.underlying kt=some (.int .u8)) {w:World} {b:Nat} {l:List (Int × Value)} (h:IsMap w b l) (c:Bool) (k:Int) (z:Value) (hz:(zeroValue et).run P w = .ok z w) (hv:lookI k l=none) :
    (Instr.lookup t (.map (some b)) (.int .u8 k) c).run P w = .ok (if c then .tuple #[z,.bool false] else z) w:=by
  obtain⟨es,clock,hb,he,_⟩:=h
  obtain⟨o,h1,h2⟩:=find_ents k l 0 0
  rw [hv] at h2
  obtain rfl:=Option.map_eq_none_iff.1 h2
  have hf:=MapKept.run_findKey (P:=P) (w:=w) hk h1
  have hc:=MapKept.run_checkKey (P:=P) (w:=w) (k:=.int .u8 k) hk (by trivial) es.isEmpty 9999
  rw [← he] at hf
  simp [Instr.lookup,run_underlying ht,MapKept.run_getObj_map hb,hc,hf,hz,Result.andThen]
theorem run_put (ht:P.underlying t=some (.map kt et)) (hk:P.underlying kt=some (.int .u8)) {w:World} {b:Nat} {l:List (Int × Value)} (h:IsMap w b l) (k:Int) (v:Value) (hv:lookI k l=none) :
    ∃ w',(Instr.mapUpdate t (.map (some b)) (.int .u8 k) v).run P w = .ok () w'∧IsMap w' b (l ++ [(k,v)])∧w.grownBy w' (some b):=by
  have hlt:=h.lt
  obtain⟨es,clock,hb,he,hcl⟩:=h
  obtain⟨o,h1,h2⟩:=find_ents k l 0 0
  rw [hv] at h2
  obtain rfl:=Option.map_eq_none_iff.1 h2
  have hf:=MapKept.run_findKey (P:=P) (w:=w) hk h1
  have hc:=MapKept.run_checkKey (P:=P) (w:=w) (k:=.int .u8 k) hk (by trivial) false 9999
  rw [← he] at hf
  refine⟨{ w with heap:=w.heap.setIfInBounds b (.map (es.push ⟨.int .u8 k,v,clock⟩) (clock+1)) }, ?_,⟨es.push ⟨.int .u8 k,v,clock⟩,clock+1, ?_, ?_, ?_⟩,⟨rfl,rfl,rfl,by simp,fun i _ hi=>?_⟩⟩
  · simp [Instr.mapUpdate,run_underlying ht,MapKept.run_getObj_map hb,hc,hf,MapKept.run_setObj_map _ hb,Result.andThen]
  · simp [hlt]
  · rw [Array.toList_push,he,ents_snoc,hcl,Nat.zero_add]
  · simp [hcl]
  · simp only [Array.getElem?_setIfInBounds]
    rw [if_neg (fun e=>hi (by rw [e]))]
end
def kvx:List (Int × Value):=(wxs.zipIdx 1).map fun p=>((p.2:Int),p.1.val)
theorem look_kvx (k:Int):lookI k kvx=(wants k).map Wx.val:=by
  by_cases h:1≤k∧k≤22
  · have:k=1 ∨ k=2 ∨ k=3 ∨ k=4 ∨ k=5 ∨ k=6 ∨ k=7 ∨ k=8 ∨ k=9 ∨ k=10 ∨ k=11 ∨ k=12 ∨ k=13 ∨ k=14 ∨ k=15 ∨ k=16 ∨ k=17 ∨ k=18 ∨ k=19 ∨ k=20 ∨ k=21 ∨ k=22:=by omega
    rcases this with rfl|rfl|rfl|rfl|rfl|rfl|rfl|rfl|rfl|rfl|rfl|rfl|rfl|rfl|rfl|rfl|rfl|rfl|rfl|rfl|rfl|rfl <;> rfl
  · have h1:wants k=none:=by
      unfold wants
      split
      · exact List.getElem?_eq_none (by simp [wxs];omega)
      · rfl
    rw [h1]
    simp only [kvx,wxs,List.zipIdx,List.map,lookI]
    repeat rw [if_neg (by omega)]
    rfl
def swant (v:Bool) (x:Int) (y b o:Bool):Value:=.agg #[.bool v,.int .u8 x,.bool y,.bool b,.bool o]
def kvs:List (Int × Value):=[(1,swant true 1 false false false),(2,swant false 3 true false false),(3,swant false 2 false true true),(4,swant false 2 false true false),
  (5,swant false 0 false true false),(6,swant false 2 false false false),(7,swant false 1 false false false),(8,swant false 4 false false false)]
theorem uMapX:Tryz.prog.underlying 136=some (.map 59 157):=Tryz.underlying136
theorem uMapS:Tryz.prog.underlying 138=some (.map 58 160):=Tryz.underlying138
theorem uKindX:Tryz.prog.underlying 59=some (.int .u8):=Tryz.underlying59
theorem uKindS:Tryz.prog.underlying 58=some (.int .u8):=Tryz.underlying58
def NewMap (l:List (Int × Value)) (w:World) (e:Ending) (w':World):Prop:=∃ m,e = .returned (.map (some m))∧w.heap.size≤m∧IsMap w' m l∧Below w.heap.size w w'
theorem skinds_any (w:World):Calls Tryz.prog 73 #[] w (NewMap kvs w):=by
  have hmm:=@run_makeMap Tryz.prog
  have H0:=hid (IsMap.made w)
  have B0:=hid (below_box w (.map #[] 0))
  obtain⟨w1,r1,h1,g1⟩:=run_put (P:=Tryz.prog) uMapS uKindS H0.out 1 (.agg #[.bool true,.int .u8 1,.bool false,.bool false,.bool false]) (by rfl)
  have H1:=hid h1
  have B1:=hid (B0.out.grown g1 (by have:=B0.out.size;skip;omega) (fun k hk=>by cases hk;exact Nat.le_refl _))
  clear h1 g1 H0 B0
  obtain⟨w2,r2,h2,g2⟩:=run_put (P:=Tryz.prog) uMapS uKindS H1.out 2 (.agg #[.bool false,.int .u8 3,.bool true,.bool false,.bool false]) (by rfl)
  have H2:=hid h2
  have B2:=hid (B1.out.grown g2 (by have:=B1.out.size;skip;omega) (fun k hk=>by cases hk;exact Nat.le_refl _))
  clear h2 g2 H1 B1
  obtain⟨w3,r3,h3,g3⟩:=run_put (P:=Tryz.prog) uMapS uKindS H2.out 3 (.agg #[.bool false,.int .u8 2,.bool false,.bool true,.bool true]) (by rfl)
  have H3:=hid h3
  have B3:=hid (B2.out.grown g3 (by have:=B2.out.size;skip;omega) (fun k hk=>by cases hk;exact Nat.le_refl _))
  clear h3 g3 H2 B2
  obtain⟨w4,r4,h4,g4⟩:=run_put (P:=Tryz.prog) uMapS uKindS H3.out 4 (.agg #[.bool false,.int .u8 2,.bool false,.bool true,.bool false]) (by rfl)
  have H4:=hid h4
  have B4:=hid (B3.out.grown g4 (by have:=B3.out.size;skip;omega) (fun k hk=>by cases hk;exact Nat.le_refl _))
  clear h4 g4 H3 B3
  obtain⟨w5,r5,h5,g5⟩:=run_put (P:=Tryz.prog) uMapS uKindS H4.out 5 (.agg #[.bool false,.int .u8 0,.bool false,.bool true,.bool false]) (by rfl)
  have H5:=hid h5
  have B5:=hid (B4.out.grown g5 (by have:=B4.out.size;skip;omega) (fun k hk=>by cases hk;exact Nat.le_refl _))
  clear h5 g5 H4 B4
  obtain⟨w6,r6,h6,g6⟩:=run_put (P:=Tryz.prog) uMapS uKindS H5.out 6 (.agg #[.bool false,.int .u8 2,.bool false,.bool false,.bool false]) (by rfl)
  have H6:=hid h6
  have B6:=hid (B5.out.grown g6 (by have:=B5.out.size;skip;omega) (fun k hk=>by cases hk;exact Nat.le_refl _))
  clear h6 g6 H5 B5
  obtain⟨w7,r7,h7,g7⟩:=run_put (P:=Tryz.prog) uMapS uKindS H6.out 7 (.agg #[.bool false,.int .u8 1,.bool false,.bool false,.bool false]) (by rfl)
  have H7:=hid h7
  have B7:=hid (B6.out.grown g7 (by have:=B6.out.size;skip;omega) (fun k hk=>by cases hk;exact Nat.le_refl _))
  clear h7 g7 H6 B6
  obtain⟨w8,r8,h8,g8⟩:=run_put (P:=Tryz.prog) uMapS uKindS H7.out 8 (.agg #[.bool false,.int .u8 4,.bool false,.bool false,.bool false]) (by rfl)
  have H8:=hid h8
  have B8:=hid (B7.out.grown g8 (by have:=B7.out.size;skip;omega) (fun k hk=>by cases hk;exact Nat.le_refl _))
  clear h8 g8 H7 B7
  go_enter Tryz.func73,Tryz.ntmps73
  go_wp2_with fail
  go_ret
  exact⟨w.heap.size,rfl,Nat.le_refl _,H8.out,B8.out⟩
theorem xkinds_any (w:World):Calls Tryz.prog 72 #[] w (NewMap kvx w):=by
  have hmm:=@run_makeMap Tryz.prog
  have H0:=hid (IsMap.made w)
  have B0:=hid (below_box w (.map #[] 0))
  obtain⟨w1,r1,h1,g1⟩:=run_put (P:=Tryz.prog) uMapX uKindX H0.out 1 (.agg #[.int .i64 0,.bool true,.bool false,.bool false,.string ⟨#[]⟩]) (by rfl)
  have H1:=hid h1
  have B1:=hid (B0.out.grown g1 (by have:=B0.out.size;skip;omega) (fun k hk=>by cases hk;exact Nat.le_refl _))
  clear h1 g1 H0 B0
  obtain⟨w2,r2,h2,g2⟩:=run_put (P:=Tryz.prog) uMapX uKindX H1.out 2 (.agg #[.int .i64 0,.bool false,.bool false,.bool false,.string ⟨#[]⟩]) (by rfl)
  have H2:=hid h2
  have B2:=hid (B1.out.grown g2 (by have:=B1.out.size;skip;omega) (fun k hk=>by cases hk;exact Nat.le_refl _))
  clear h2 g2 H1 B1
  obtain⟨w3,r3,h3,g3⟩:=run_put (P:=Tryz.prog) uMapX uKindX H2.out 3 (.agg #[.int .i64 0,.bool false,.bool true,.bool false,.string ⟨#[]⟩]) (by rfl)
  have H3:=hid h3
  have B3:=hid (B2.out.grown g3 (by have:=B2.out.size;skip;omega) (fun k hk=>by cases hk;exact Nat.le_refl _))
  clear h3 g3 H2 B2
  obtain⟨w4,r4,h4,g4⟩:=run_put (P:=Tryz.prog) uMapX uKindX H3.out 4 (.agg #[.int .i64 1,.bool false,.bool true,.bool false,.string ⟨#[]⟩]) (by rfl)
  have H4:=hid h4
  have B4:=hid (B3.out.grown g4 (by have:=B3.out.size;skip;omega) (fun k hk=>by cases hk;exact Nat.le_refl _))
  clear h4 g4 H3 B3
  obtain⟨w5,r5,h5,g5⟩:=run_put (P:=Tryz.prog) uMapX uKindX H4.out 5 (.agg #[.int .i64 2,.bool false,.bool false,.bool false,.string ⟨#[]⟩]) (by rfl)
  have H5:=hid h5
  have B5:=hid (B4.out.grown g5 (by have:=B4.out.size;skip;omega) (fun k hk=>by cases hk;exact Nat.le_refl _))
  clear h5 g5 H4 B4
  obtain⟨w6,r6,h6,g6⟩:=run_put (P:=Tryz.prog) uMapX uKindX H5.out 6 (.agg #[.int .i64 0,.bool false,.bool false,.bool true,.string ⟨#[]⟩]) (by rfl)
  have H6:=hid h6
  have B6:=hid (B5.out.grown g6 (by have:=B5.out.size;skip;omega) (fun k hk=>by cases hk;exact Nat.le_refl _))
  clear h6 g6 H5 B5
  obtain⟨w7,r7,h7,g7⟩:=run_put (P:=Tryz.prog) uMapX uKindX H6.out 7 (.agg #[.int .i64 (-1),.bool false,.bool true,.bool false,.string ⟨#[]⟩]) (by rfl)
  have H7:=hid h7
  have B7:=hid (B6.out.grown g7 (by have:=B6.out.size;skip;omega) (fun k hk=>by cases hk;exact Nat.le_refl _))
  clear h7 g7 H6 B6
  obtain⟨w8,r8,h8,g8⟩:=run_put (P:=Tryz.prog) uMapX uKindX H7.out 8 (.agg #[.int .i64 1,.bool false,.bool false,.bool false,.string ⟨#[]⟩]) (by rfl)
  have H8:=hid h8
  have B8:=hid (B7.out.grown g8 (by have:=B7.out.size;skip;omega) (fun k hk=>by cases hk;exact Nat.le_refl _))
  clear h8 g8 H7 B7
  obtain⟨w9,r9,h9,g9⟩:=run_put (P:=Tryz.prog) uMapX uKindX H8.out 9 (.agg #[.int .i64 1,.bool false,.bool false,.bool false,.string ⟨#[]⟩]) (by rfl)
  have H9:=hid h9
  have B9:=hid (B8.out.grown g9 (by have:=B8.out.size;skip;omega) (fun k hk=>by cases hk;exact Nat.le_refl _))
  clear h9 g9 H8 B8
  obtain⟨w10,r10,h10,g10⟩:=run_put (P:=Tryz.prog) uMapX uKindX H9.out 10 (.agg #[.int .i64 2,.bool false,.bool false,.bool false,.string ⟨#[43]⟩]) (by rfl)
  have H10:=hid h10
  have B10:=hid (B9.out.grown g10 (by have:=B9.out.size;skip;omega) (fun k hk=>by cases hk;exact Nat.le_refl _))
  clear h10 g10 H9 B9
  obtain⟨w11,r11,h11,g11⟩:=run_put (P:=Tryz.prog) uMapX uKindX H10.out 11 (.agg #[.int .i64 2,.bool false,.bool false,.bool false,.string ⟨#[45]⟩]) (by rfl)
  have H11:=hid h11
  have B11:=hid (B10.out.grown g11 (by have:=B10.out.size;skip;omega) (fun k hk=>by cases hk;exact Nat.le_refl _))
  clear h11 g11 H10 B10
  obtain⟨w12,r12,h12,g12⟩:=run_put (P:=Tryz.prog) uMapX uKindX H11.out 12 (.agg #[.int .i64 2,.bool false,.bool false,.bool false,.string ⟨#[42]⟩]) (by rfl)
  have H12:=hid h12
  have B12:=hid (B11.out.grown g12 (by have:=B11.out.size;skip;omega) (fun k hk=>by cases hk;exact Nat.le_refl _))
  clear h12 g12 H11 B11
  obtain⟨w13,r13,h13,g13⟩:=run_put (P:=Tryz.prog) uMapX uKindX H12.out 13 (.agg #[.int .i64 2,.bool false,.bool false,.bool false,.string ⟨#[47]⟩]) (by rfl)
  have H13:=hid h13
  have B13:=hid (B12.out.grown g13 (by have:=B12.out.size;skip;omega) (fun k hk=>by cases hk;exact Nat.le_refl _))
  clear h13 g13 H12 B12
  obtain⟨w14,r14,h14,g14⟩:=run_put (P:=Tryz.prog) uMapX uKindX H13.out 14 (.agg #[.int .i64 2,.bool false,.bool false,.bool false,.string ⟨#[37]⟩]) (by rfl)
  have H14:=hid h14
  have B14:=hid (B13.out.grown g14 (by have:=B13.out.size;skip;omega) (fun k hk=>by cases hk;exact Nat.le_refl _))
  clear h14 g14 H13 B13
  obtain⟨w15,r15,h15,g15⟩:=run_put (P:=Tryz.prog) uMapX uKindX H14.out 15 (.agg #[.int .i64 2,.bool false,.bool false,.bool false,.string ⟨#[61,61]⟩]) (by rfl)
  have H15:=hid h15
  have B15:=hid (B14.out.grown g15 (by have:=B14.out.size;skip;omega) (fun k hk=>by cases hk;exact Nat.le_refl _))
  clear h15 g15 H14 B14
  obtain⟨w16,r16,h16,g16⟩:=run_put (P:=Tryz.prog) uMapX uKindX H15.out 16 (.agg #[.int .i64 2,.bool false,.bool false,.bool false,.string ⟨#[33,61]⟩]) (by rfl)
  have H16:=hid h16
  have B16:=hid (B15.out.grown g16 (by have:=B15.out.size;skip;omega) (fun k hk=>by cases hk;exact Nat.le_refl _))
  clear h16 g16 H15 B15
  obtain⟨w17,r17,h17,g17⟩:=run_put (P:=Tryz.prog) uMapX uKindX H16.out 17 (.agg #[.int .i64 2,.bool false,.bool false,.bool false,.string ⟨#[60]⟩]) (by rfl)
  have H17:=hid h17
  have B17:=hid (B16.out.grown g17 (by have:=B16.out.size;skip;omega) (fun k hk=>by cases hk;exact Nat.le_refl _))
  clear h17 g17 H16 B16
  obtain⟨w18,r18,h18,g18⟩:=run_put (P:=Tryz.prog) uMapX uKindX H17.out 18 (.agg #[.int .i64 2,.bool false,.bool false,.bool false,.string ⟨#[60,61]⟩]) (by rfl)
  have H18:=hid h18
  have B18:=hid (B17.out.grown g18 (by have:=B17.out.size;skip;omega) (fun k hk=>by cases hk;exact Nat.le_refl _))
  clear h18 g18 H17 B17
  obtain⟨w19,r19,h19,g19⟩:=run_put (P:=Tryz.prog) uMapX uKindX H18.out 19 (.agg #[.int .i64 2,.bool false,.bool false,.bool false,.string ⟨#[62]⟩]) (by rfl)
  have H19:=hid h19
  have B19:=hid (B18.out.grown g19 (by have:=B18.out.size;skip;omega) (fun k hk=>by cases hk;exact Nat.le_refl _))
  clear h19 g19 H18 B18
  obtain⟨w20,r20,h20,g20⟩:=run_put (P:=Tryz.prog) uMapX uKindX H19.out 20 (.agg #[.int .i64 2,.bool false,.bool false,.bool false,.string ⟨#[62,61]⟩]) (by rfl)
  have H20:=hid h20
  have B20:=hid (B19.out.grown g20 (by have:=B19.out.size;skip;omega) (fun k hk=>by cases hk;exact Nat.le_refl _))
  clear h20 g20 H19 B19
  obtain⟨w21,r21,h21,g21⟩:=run_put (P:=Tryz.prog) uMapX uKindX H20.out 21 (.agg #[.int .i64 2,.bool false,.bool false,.bool false,.string ⟨#[38,38]⟩]) (by rfl)
  have H21:=hid h21
  have B21:=hid (B20.out.grown g21 (by have:=B20.out.size;skip;omega) (fun k hk=>by cases hk;exact Nat.le_refl _))
  clear h21 g21 H20 B20
  obtain⟨w22,r22,h22,g22⟩:=run_put (P:=Tryz.prog) uMapX uKindX H21.out 22 (.agg #[.int .i64 2,.bool false,.bool false,.bool false,.string ⟨#[124,124]⟩]) (by rfl)
  have H22:=hid h22
  have B22:=hid (B21.out.grown g22 (by have:=B21.out.size;skip;omega) (fun k hk=>by cases hk;exact Nat.le_refl _))
  clear h22 g22 H21 B21
  go_enter Tryz.func72,Tryz.ntmps72
  go_wp2_with fail
  go_ret
  exact⟨w.heap.size,rfl,Nat.le_refl _,H22.out,B22.out⟩
end Go.Proofs.YtdhieihcmnpneaaGreatDoor
/- The show layer's ways of giving up: what its two askers do, at every argument. -/
namespace Go.Proofs.YtdhieihcmnpneaaGreatDoor
open Lib (hid)
set_option maxHeartbeats 4000000
open Go.RowKit
def fl (r:Int):List PanicEntry:=[{ v:=.iface 134 (.agg #[.int .i64 r]),recovered:=false }]
def ended (r:Int):Ending:=if r=0 then .returned (.tuple #[]) else .panicked (fl r)
theorem ended_ok {r:Int} (h:r=0):ended r = .returned (.tuple #[]):=if_pos h
theorem ended_no {r:Int} (h:¬ r=0):ended r = .panicked (fl r):=if_neg h
theorem must_yes (w:World):Calls Tryz.prog 75 #[.bool true] w fun e w'=>e = .returned (.tuple #[])∧w=w':=by
  go_enter Tryz.func75,Tryz.ntmps75
  go_wp2
  go_end0
  exact⟨rfl,rfl⟩
theorem must_no (w:World):Calls Tryz.prog 75 #[.bool false] w fun e w'=>e = .panicked (fl 1)∧w=w':=by
  go_enter Tryz.func75,Tryz.ntmps75
  go_wp2
  exact⟨rfl,rfl,rfl⟩
theorem most_yes (n m:Int) (h:n≤m) (w:World):Calls Tryz.prog 74 #[.int .i64 n,.int .i64 m] w fun e w'=>e = .returned (.tuple #[])∧w=w':=by
  go_enter Tryz.func74,Tryz.ntmps74
  go_wp2
  go_end0
  exact⟨rfl,rfl⟩
theorem most_no (n m:Int) (h:m < n) (w:World):Calls Tryz.prog 74 #[.int .i64 n,.int .i64 m] w fun e w'=>e = .panicked (fl 3)∧w=w':=by
  go_enter Tryz.func74,Tryz.ntmps74
  go_wp2
  exact⟨rfl,rfl,rfl⟩
end Go.Proofs.YtdhieihcmnpneaaGreatDoor
/- Which texts are names: what the lex layer's Name and all that it calls answer, at every text, and the document's own answer. Each leaves the world as it was. -/
namespace Go.Proofs.YtdhieihcmnpneaaGreatDoor
open Lib (hid)
set_option maxHeartbeats 4000000
open Go.RowKit
theorem bytes_list (s:ByteArray):s.toList=s.data.toList:=ByteArray.toList_eq s
theorem size_of (s:ByteArray):s.data.toList.length=s.size:=Array.length_toList
theorem b_yes {a b:Int} (h:a=b):(a == b)=true:=beq_iff_eq.2 h
theorem b_no {a b:Int} (h:¬ a=b):(a == b)=false:=beq_eq_false_iff_ne.2 h
theorem ret_bool {a b:Bool} (h:a=b):Ending.returned (.bool a)=Ending.returned (.bool b):=by rw [h]
theorem ret_int {k:IntKind} {a b:Int} (h:a=b):Ending.returned (.int k a)=Ending.returned (.int k b):=by rw [h]
theorem letter_any (c:UInt8) (w:World) :
    Calls Tryz.prog 91 #[.int .u8 (c.toNat:Int)] w fun e w'=>e = .returned (.bool (isLetter c))∧w=w':=by
  by_cases h0:97≤c.toNat
  · by_cases h1:c.toNat≤122
    · have HF:=hid (show isLetter c=true by unfold isLetter;simp [h0,h1])
      have dd:(decide ((c.toNat:Int)≤122))=true:=decide_eq_true (by omega)
      go_enter Tryz.func91,Tryz.ntmps91
      go_wp2
      go_ret
      exact⟨ret_bool HF.out.symm,rfl⟩
    · have HF:=hid (show isLetter c=false by unfold isLetter;simp [h1])
      have dd:(decide ((c.toNat:Int)≤122))=false:=decide_eq_false (by omega)
      go_enter Tryz.func91,Tryz.ntmps91
      go_wp2
      go_ret
      exact⟨ret_bool HF.out.symm,rfl⟩
  · have HF:=hid (show isLetter c=false by unfold isLetter;simp [h0])
    go_enter Tryz.func91,Tryz.ntmps91
    go_wp2
    go_ret
    exact⟨ret_bool HF.out.symm,rfl⟩
theorem digit_any (c:UInt8) (w:World) :
    Calls Tryz.prog 105 #[.int .u8 (c.toNat:Int)] w fun e w'=>e = .returned (.bool (isDigit c))∧w=w':=by
  by_cases h0:48≤c.toNat
  · by_cases h1:c.toNat≤57
    · have HF:=hid (show isDigit c=true by unfold isDigit;simp [h0,h1])
      have dd:(decide ((c.toNat:Int)≤57))=true:=decide_eq_true (by omega)
      go_enter Tryz.func105,Tryz.ntmps105
      go_wp2
      go_ret
      exact⟨ret_bool HF.out.symm,rfl⟩
    · have HF:=hid (show isDigit c=false by unfold isDigit;simp [h1])
      have dd:(decide ((c.toNat:Int)≤57))=false:=decide_eq_false (by omega)
      go_enter Tryz.func105,Tryz.ntmps105
      go_wp2
      go_ret
      exact⟨ret_bool HF.out.symm,rfl⟩
  · have HF:=hid (show isDigit c=false by unfold isDigit;simp [h0])
    go_enter Tryz.func105,Tryz.ntmps105
    go_wp2
    go_ret
    exact⟨ret_bool HF.out.symm,rfl⟩
theorem in_any (c:UInt8) (w:World) :
    Calls Tryz.prog 93 #[.int .u8 (c.toNat:Int)] w fun e w'=>e = .returned (.bool (isIn c))∧w=w':=by
  have h1:=letter_any c
  have h2:=digit_any c
  cases hl:isLetter c with
  | true =>
    rw [hl] at h1
    have HF:=hid (show isIn c=true by unfold isIn;simp [hl])
    have H1:=hid h1
    clear h1 h2 hl
    go_enter Tryz.func93,Tryz.ntmps93
    go_wp2_with (go_at_call 91;refine (H1.out _).mono ?_;rintro e w' ⟨rfl,rfl⟩)
    go_ret
    exact⟨ret_bool HF.out.symm,rfl⟩
  | false =>
    cases hd:isDigit c with
    | true =>
      rw [hl] at h1
      rw [hd] at h2
      have HF:=hid (show isIn c=true by unfold isIn;simp [hd])
      have H1:=hid h1
      have H2:=hid h2
      clear h1 h2 hl hd
      go_enter Tryz.func93,Tryz.ntmps93
      go_wp2_with (first|(go_at_call 91;refine (H1.out _).mono ?_;rintro e w' ⟨rfl,rfl⟩)|(go_at_call 105;refine (H2.out _).mono ?_;rintro e w' ⟨rfl,rfl⟩))
      go_ret
      exact⟨ret_bool HF.out.symm,rfl⟩
    | false =>
      rw [hl] at h1
      rw [hd] at h2
      by_cases h95:c.toNat=95
      · have HF:=hid (show isIn c=true by unfold isIn;simp [h95])
        have b0:((c.toNat:Int) == 95)=true:=b_yes (by omega)
        have H1:=hid h1
        have H2:=hid h2
        clear h1 h2 hl hd h95
        go_enter Tryz.func93,Tryz.ntmps93
        go_wp2_with (first|(go_at_call 91;refine (H1.out _).mono ?_;rintro e w' ⟨rfl,rfl⟩)|(go_at_call 105;refine (H2.out _).mono ?_;rintro e w' ⟨rfl,rfl⟩))
        go_ret
        exact⟨ret_bool HF.out.symm,rfl⟩
      · have HF:=hid (show isIn c=false by unfold isIn;simp [hl,hd,h95])
        have b0:((c.toNat:Int) == 95)=false:=b_no (by omega)
        have H1:=hid h1
        have H2:=hid h2
        clear h1 h2 hl hd h95
        go_enter Tryz.func93,Tryz.ntmps93
        go_wp2_with (first|(go_at_call 91;refine (H1.out _).mono ?_;rintro e w' ⟨rfl,rfl⟩)|(go_at_call 105;refine (H2.out _).mono ?_;rintro e w' ⟨rfl,rfl⟩))
        go_ret
        exact⟨ret_bool HF.out.symm,rfl⟩
theorem left_at (s:ByteArray) (k:Nat) (h:k < s.size):s.data.toList.drop k=s[k] :: s.data.toList.drop (k+1):=by
  rw [List.drop_eq_getElem_cons (by rw [Array.length_toList];exact h)]
  rfl
theorem left_end (s:ByteArray) (k:Nat) (h:s.size≤k):s.data.toList.drop k = []:=
  List.drop_eq_nil_of_le (by rw [Array.length_toList];exact h)
theorem run_on (p:UInt8→Bool) (c:UInt8) (r:List UInt8) (k n:Nat) (hn:n=k+((c :: r).takeWhile p).length) (h:p c=true):n=k+1+(r.takeWhile p).length:=by
  rw [List.takeWhile_cons,if_pos h,List.length_cons] at hn;omega
theorem run_off (p:UInt8→Bool) (c:UInt8) (r:List UInt8) (k n:Nat) (hn:n=k+((c :: r).takeWhile p).length) (h:p c=false):n=k:=by
  rw [List.takeWhile_cons,if_neg (by simp [h])] at hn;simpa using hn
theorem run_names (s:ByteArray) (hs:s.size≤9223372036854775807) (w:World) :
    Calls Tryz.prog 92 #[.string s,.func (.func 93) #[] #[]] w fun e w'=>e = .returned (.int .i64 (((s.data.toList.takeWhile isIn).length:Nat):Int))∧w=w':=by
  obtain⟨n,hn⟩:∃ n,n=(s.data.toList.takeWhile isIn).length:=⟨_,rfl⟩
  rw [← hn]
  have HN:=hid (show n=0+((s.data.toList.drop 0).takeWhile isIn).length by rw [List.drop_zero];omega)
  clear hn
  go_enter Tryz.func92,Tryz.ntmps92
  go_wp2
  go_loop [8] (fun i=>∃ k:Nat,k≤s.size∧Hid (n=k+((s.data.toList.drop k).takeWhile isIn).length)∧i = .int .i64 k) (fun i=>s.size - (intOf i).toNat)
  case atStart=>exact⟨0,by omega,HN,rfl⟩
  case round =>
    obtain⟨k,hk,HR,rfl⟩:=hrel
    by_cases hlt:k < s.size
    · have hr:=HR.out
      rw [left_at s k hlt] at hr
      have ha:=in_any s[k]
      cases hc:isIn s[k] with
      | true =>
        have HS:=hid (run_on isIn _ _ k n hr hc)
        rw [hc] at ha
        have HA:=hid ha
        clear hr ha hc HR
        go_wp2_with (go_at_call 93;refine (HA.out _).mono ?_;rintro e w' ⟨rfl,rfl⟩)
        go_round
        case rel=>exact⟨k+1,by omega,HS,by go_num⟩
        case measure=>simp [intOf];omega
      | false =>
        have HS:=hid (run_off isIn _ _ k n hr hc)
        rw [hc] at ha
        have HA:=hid ha
        clear hr ha hc HR
        go_wp2_with (go_at_call 93;refine (HA.out _).mono ?_;rintro e w' ⟨rfl,rfl⟩)
        go_ret
        exact⟨ret_int (by rw [HS.out]),rfl⟩
    · have hr:=HR.out
      rw [left_end s k (by omega)] at hr
      have HS:=hid (show n=s.size by simp at hr;omega)
      clear hr HR
      go_wp2_with fail
      go_ret
      exact⟨ret_int (by rw [HS.out]),rfl⟩
theorem word_any (s:ByteArray) (w:World) :
    Calls Tryz.prog 90 #[.string s] w fun e w'=>e = .returned (.bool (isWord s.data.toList))∧w=w':=by
  go_enter Tryz.func90,Tryz.ntmps90
  go_wp2
  all_goals first
    | (exfalso;simp_all;done)
    | (go_ret;refine⟨ret_bool ?_,rfl⟩;rw [← bytes_list];unfold isWord wordsL;simp only [List.contains_cons,List.contains_nil, *,Bool.true_or,Bool.false_or,Bool.or_true])
theorem while_all_len (p:UInt8→Bool):∀ l:List UInt8,(l.takeWhile p).length=l.length ↔ l.all p=true
  | []=>by simp
  | c :: r=>by
    rw [List.takeWhile_cons,List.all_cons]
    cases h:p c with
    | true=>simp [while_all_len p r]
    | false=>simp
theorem name_long (l:List UInt8) (h:16 < l.length):isName l=false:=by
  unfold isName
  rw [show decide (1≤l.length∧l.length≤16)=false from decide_eq_false (by omega)]
  rfl
theorem name_word (l:List UInt8) (h:isWord l=true):isName l=false:=by simp [isName,h]
theorem name_not (c:UInt8) (r:List UInt8) (h:isLetter c=false):isName (c :: r)=false:=by simp [isName,h]
theorem name_is (c:UInt8) (r:List UInt8) (h:isLetter c=true) (hl:(c :: r).length≤16) (hw:isWord (c :: r)=false):isName (c :: r)=decide ((((c :: r).takeWhile isIn).length:Int)=((c :: r).length:Int)):=by
  have e:=while_all_len isIn (c :: r)
  unfold isName
  rw [hw,show decide (1≤(c :: r).length∧(c :: r).length≤16)=true from decide_eq_true ⟨by simp,hl⟩,List.head?_cons,Option.all_some,h]
  rw [Bool.true_and,Bool.true_and,Bool.not_false,Bool.and_true,Bool.eq_iff_iff,← e,decide_eq_true_eq]
  omega
theorem name_any (s:ByteArray) (hs:s.size≤9223372036854775807) (w:World) :
    Calls Tryz.prog 76 #[.string s] w fun e w'=>e = .returned (.bool (isName s.data.toList))∧w=w':=by
  have hsz:=size_of s
  by_cases h0:s.size=0
  · have he:s.data.toList = []:=List.eq_nil_of_length_eq_zero (by omega)
    have HF:=hid (show isName s.data.toList=false by rw [he];rfl)
    have k1:(s.toList.isEmpty)=true:=by rw [bytes_list,he];rfl
    have k2:s.toList = []:=by rw [bytes_list,he]
    clear h0 hsz he
    go_enter Tryz.func76,Tryz.ntmps76
    go_wp2_with fail
    go_ret
    exact⟨ret_bool HF.out.symm,rfl⟩
  have hp:0 < s.size:=by omega
  have e0:=left_at s 0 hp
  rw [List.drop_zero] at e0
  have k1:(s.toList.isEmpty)=false:=by rw [bytes_list,e0];rfl
  by_cases h16:16 < s.size
  · have HF:=hid (show isName s.data.toList=false from name_long _ (by omega))
    clear h0 hsz e0
    go_enter Tryz.func76,Tryz.ntmps76
    go_wp2_with fail
    go_ret
    exact⟨ret_bool HF.out.symm,rfl⟩
  have hw:=word_any s
  cases hk:isWord s.data.toList with
  | true =>
    have HF:=hid (show isName s.data.toList=false from name_word _ hk)
    rw [hk] at hw
    have HW:=hid hw
    clear h0 hsz e0 hk hw
    go_enter Tryz.func76,Tryz.ntmps76
    go_wp2_with (go_at_call 90;refine (HW.out _).mono ?_;rintro e w' ⟨rfl,rfl⟩)
    go_ret
    exact⟨ret_bool HF.out.symm,rfl⟩
  | false =>
    rw [hk] at hw
    have HW:=hid hw
    have hl:=letter_any (s[0]'hp)
    cases hc:isLetter (s[0]'hp) with
    | false =>
      have HF:=hid (show isName s.data.toList=false by rw [e0];exact name_not _ _ hc)
      rw [hc] at hl
      have HL:=hid hl
      clear h0 hsz e0 hk hw hl hc
      go_enter Tryz.func76,Tryz.ntmps76
      go_wp2_with (first|(go_at_call 90;refine (HW.out _).mono ?_;rintro e w' ⟨rfl,rfl⟩)|(go_at_call 91;refine (HL.out _).mono ?_;rintro e w' ⟨rfl,rfl⟩))
      go_ret
      exact⟨ret_bool HF.out.symm,rfl⟩
    | true =>
      have HF:=hid (show isName s.data.toList=decide (((s.data.toList.takeWhile isIn).length:Int)=(s.size:Int)) by
        have e:=name_is _ _ hc (by rw [← e0];omega) (by rw [← e0];exact hk)
        rw [← e0,hsz] at e
        exact e)
      rw [hc] at hl
      have HL:=hid hl
      have HR:=hid (run_names s hs)
      clear h0 hsz e0 hk hw hl hc
      go_enter Tryz.func76,Tryz.ntmps76
      go_wp2_with (first|(go_at_call 90;refine (HW.out _).mono ?_;rintro e w' ⟨rfl,rfl⟩)|(go_at_call 91;refine (HL.out _).mono ?_;rintro e w' ⟨rfl,rfl⟩)|(go_at_call 92;refine (HR.out _).mono ?_;rintro e w' ⟨rfl,rfl⟩))
      go_ret
      refine⟨ret_bool ?_,rfl⟩
      rw [HF.out,Bool.eq_iff_iff]
      simp
end Go.Proofs.YtdhieihcmnpneaaGreatDoor
