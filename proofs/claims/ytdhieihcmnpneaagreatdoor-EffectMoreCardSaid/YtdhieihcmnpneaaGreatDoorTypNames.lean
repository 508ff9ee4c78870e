/- The maps of names: where the first thing of each name stands; what the functions that make them and ask them answer. -/
import Derived.Test.YtdhieihcmnpneaaGreatDoorRows
import Derived.Test.YtdhieihcmnpneaaGreatDoorGShow
namespace Go.Proofs.YtdhieihcmnpneaaGreatDoor
open Lib (hid)
set_option maxHeartbeats 4000000
set_option maxRecDepth 100000
open Go.RowKit
def entsT:Nat→List (ByteArray × Value)→List MapEntry
  | _,[]=>[]
  | n,(k,v) :: r=>⟨.string k,v,n⟩ :: entsT (n+1) r
theorem entsT_snoc (k:ByteArray) (v:Value):∀ (l:List (ByteArray × Value)) (n:Nat),entsT n (l ++ [(k,v)])=entsT n l ++ [⟨.string k,v,n+l.length⟩]
  | [],n=>rfl
  | (k0,v0) :: r,n=>by
    show _ :: entsT (n+1) (r ++ [(k,v)])=_
    rw [entsT_snoc k v r (n+1)]
    show _ :: (_ ++ [_])=(_ :: entsT (n+1) r) ++ [_]
    rw [List.cons_append,show n+1+r.length=n+((k0,v0) :: r).length by simp;omega]
def lookT (k:ByteArray):List (ByteArray × Value)→Option Value
  | []=>none
  | (k0,v) :: r=>if k=k0 then some v else lookT k r
theorem same_text (k k0:ByteArray):Instr.sameNow .string (.string k) (.string k0)=some (decide (k=k0)):=by
  obtain⟨r,h1,h2⟩:=MapKept.sameNow_of_keys (d:=.string) (a:=.string k) (b:=.string k0) (by trivial) (by trivial)
  rw [h1]
  congr 1
  by_cases h:k=k0
  · rw [decide_eq_true h];exact h2.2 (by rw [h])
  · rw [decide_eq_false h]
    cases r with
    | false=>rfl
    | true=>exact absurd (by have:=h2.1 rfl;injection this) h
theorem find_entsT (k:ByteArray):∀ (l:List (ByteArray × Value)) (n i:Nat),∃ o,Instr.findNow .string (.string k) (entsT n l) i=some o∧o.map (·.2)=lookT k l
  | [],n,i=>⟨none,rfl,rfl⟩
  | (k0,v) :: r,n,i=>by
    by_cases h:k=k0
    · exact⟨some (i,v),by simp [entsT,Instr.findNow,same_text,h],by simp [lookT,h]⟩
    · obtain⟨o,h1,h2⟩:=find_entsT k r (n+1) (i+1)
      exact⟨o,by simp [entsT,Instr.findNow,same_text,h];exact h1,by simp only [lookT,if_neg h];exact h2⟩
def IsMapT (w:World) (b:Nat) (l:List (ByteArray × Value)):Prop:=∃ es clock,w.heap[b]? = some (.map es clock)∧es.toList=entsT 0 l∧clock=l.length
theorem IsMapT.lt {w:World} {b:Nat} {l:List (ByteArray × Value)} (h:IsMapT w b l):b < w.heap.size:=by
  obtain⟨es,clock,hb,_⟩:=h
  exact (Array.getElem?_eq_some_iff.1 hb).1
theorem IsMapT.of {w w':World} {b:Nat} {l:List (ByteArray × Value)} (h:IsMapT w b l) (e:w'.heap[b]? = w.heap[b]?):IsMapT w' b l:=by
  obtain⟨es,clock,hb,r⟩:=h
  exact⟨es,clock,e.trans hb,r⟩
theorem IsMapT.made (w:World):IsMapT (w.alloc (.map #[] 0)) w.heap.size []:=⟨#[],0,(MapKept.heap_alloc w _).1,rfl,rfl⟩
section
variable {P:Program} {t kt et:TypeId}
theorem run_lookT (ht:P.underlying t=some (.map kt et)) (hk:P.underlying kt=some .string) {w:World} {b:Nat} {l:List (ByteArray × Value)} (h:IsMapT w b l) (c:Bool) (k:ByteArray) (v:Value) (hv:lookT k l=some v) :
    (Instr.lookup t (.map (some b)) (.string k) c).run P w = .ok (if c then .tuple #[v,.bool true] else v) w:=by
  obtain⟨es,clock,hb,he,_⟩:=h
  obtain⟨o,h1,h2⟩:=find_entsT k l 0 0
  rw [hv] at h2
  obtain⟨⟨i,v'⟩,rfl,rfl⟩:=Option.map_eq_some_iff.1 h2
  have hf:=MapKept.run_findKey (P:=P) (w:=w) hk h1
  have hc:=MapKept.run_checkKey (P:=P) (w:=w) (k:=.string k) hk (by trivial) es.isEmpty 9999
  rw [← he] at hf
  simp [Instr.lookup,run_underlying ht,MapKept.run_getObj_map hb,hc,hf,Result.andThen]
theorem run_lookT_none (ht:P.underlying t=some (.map kt et)) (hk:P.underlying kt=some .string) {w:World} {b:Nat} {l:List (ByteArray × Value)} (h:IsMapT w b l) (c:Bool) (k:ByteArray) (z:Value) (hz:(zeroValue et).run P w = .ok z w) (hv:lookT k l=none) :
    (Instr.lookup t (.map (some b)) (.string k) c).run P w = .ok (if c then .tuple #[z,.bool false] else z) w:=by
  obtain⟨es,clock,hb,he,_⟩:=h
  obtain⟨o,h1,h2⟩:=find_entsT k l 0 0
  rw [hv] at h2
  obtain rfl:=Option.map_eq_none_iff.1 h2
  have hf:=MapKept.run_findKey (P:=P) (w:=w) hk h1
  have hc:=MapKept.run_checkKey (P:=P) (w:=w) (k:=.string k) hk (by trivial) es.isEmpty 9999
  rw [← he] at hf
  simp [Instr.lookup,run_underlying ht,MapKept.run_getObj_map hb,hc,hf,hz,Result.andThen]
theorem run_putT (ht:P.underlying t=some (.map kt et)) (hk:P.underlying kt=some .string) {w:World} {b:Nat} {l:List (ByteArray × Value)} (h:IsMapT w b l) (k:ByteArray) (v:Value) (hv:lookT k l=none) :
    ∃ w',(Instr.mapUpdate t (.map (some b)) (.string k) v).run P w = .ok () w'∧IsMapT w' b (l ++ [(k,v)])∧w.grownBy w' (some b):=by
  have hlt:=h.lt
  obtain⟨es,clock,hb,he,hcl⟩:=h
  obtain⟨o,h1,h2⟩:=find_entsT k l 0 0
  rw [hv] at h2
  obtain rfl:=Option.map_eq_none_iff.1 h2
  have hf:=MapKept.run_findKey (P:=P) (w:=w) hk h1
  have hc:=MapKept.run_checkKey (P:=P) (w:=w) (k:=.string k) hk (by trivial) false 9999
  rw [← he] at hf
  refine⟨{ w with heap:=w.heap.setIfInBounds b (.map (es.push ⟨.string k,v,clock⟩) (clock+1)) }, ?_,⟨es.push ⟨.string k,v,clock⟩,clock+1, ?_, ?_, ?_⟩,⟨rfl,rfl,rfl,by simp,fun i _ hi=>?_⟩⟩
  · simp [Instr.mapUpdate,run_underlying ht,MapKept.run_getObj_map hb,hc,hf,MapKept.run_setObj_map _ hb,Result.andThen]
  · simp [hlt]
  · rw [Array.toList_push,he,entsT_snoc,hcl,Nat.zero_add]
  · simp [hcl]
  · simp only [Array.getElem?_setIfInBounds]
    rw [if_neg (fun e=>hi (by rw [e]))]
end
theorem uMapN:Tryz.prog.underlying 104=some (.map 9 3):=Tryz.underlying104
theorem uKeyN:Tryz.prog.underlying 9=some .string:=Tryz.underlying9
theorem zeroN (w:World):(zeroValue 3).run Tryz.prog w = .ok (.int .i64 0) w:=by kernel_rfl
def idxI (s:ByteArray) (l:List ByteArray):Int:=((idx s l).map fun i=>(i:Int)).getD 0
def IsNm (w:World) (m:Nat) (l:List ByteArray):Prop:=∃ kv,IsMapT w m kv∧∀ s,lookT s kv=(idx s l).map fun i=>Value.int .i64 (i:Int)
theorem IsNm.lt {w:World} {m:Nat} {l:List ByteArray} (h:IsNm w m l):m < w.heap.size:=by obtain⟨kv,h,_⟩:=h;exact h.lt
theorem IsNm.of {w w':World} {m:Nat} {l:List ByteArray} (h:IsNm w m l) (e:w'.heap[m]? = w.heap[m]?):IsNm w' m l:=by obtain⟨kv,h,h2⟩:=h;exact⟨kv,h.of e,h2⟩
theorem IsNm.ne {w:World} {m c:Nat} {l:List ByteArray} {cs:Array Value} {T:TypeId} {fr:Nat × Nat} (h:IsNm w m l) (hc:w.heap[c]? = some (.cells cs T fr)):m ≠ c:=by
  rintro rfl
  obtain⟨kv,⟨es,ck,hb,_⟩,_⟩:=h
  rw [hb] at hc
  cases hc
theorem look_nm {w:World} {m:Nat} {l:List ByteArray} (h:IsNm w m l) (s:ByteArray) (W:World) (hW:W.heap[m]? = w.heap[m]?) :
    (Instr.lookup 104 (.map (some m)) (.string s) false).run Tryz.prog W = .ok (.int .i64 (idxI s l)) W:=by
  obtain⟨kv,h,h2⟩:=h
  unfold idxI
  cases hx:idx s l with
  | none=>exact run_lookT_none uMapN uKeyN (h.of hW) false s _ (zeroN W) (by rw [h2,hx];rfl)
  | some i=>exact run_lookT uMapN uKeyN (h.of hW) false s _ (by rw [h2,hx];rfl)
theorem look_nm2 {w:World} {m:Nat} {l:List ByteArray} (h:IsNm w m l) (s:ByteArray) (W:World) (hW:W.heap[m]? = w.heap[m]?) :
    (Instr.lookup 104 (.map (some m)) (.string s) true).run Tryz.prog W = .ok (.tuple #[.int .i64 (idxI s l),.bool (idx s l).isSome]) W:=by
  obtain⟨kv,h,h2⟩:=h
  unfold idxI
  cases hx:idx s l with
  | none=>exact run_lookT_none uMapN uKeyN (h.of hW) true s _ (zeroN W) (by rw [h2,hx];rfl)
  | some i=>exact run_lookT uMapN uKeyN (h.of hW) true s _ (by rw [h2,hx];rfl)
theorem idx_snoc (s a:ByteArray):∀ l:List ByteArray,idx s (l ++ [a])=match idx s l with|some i=>some i|none=>if a=s then some l.length else none
  | []=>by simp only [List.nil_append,idx];split <;> rfl
  | b :: r=>by
    rw [List.cons_append]
    unfold idx
    by_cases h:b=s
    · rw [if_pos h];simp [h]
    · rw [if_neg h,idx_snoc s a r]
      simp only [h,if_false]
      cases idx s r with
      | some i=>rfl
      | none =>
        simp only [Option.map_none]
        split <;> rfl
theorem lookT_snoc (s k:ByteArray) (v:Value):∀ l:List (ByteArray × Value),lookT s (l ++ [(k,v)])=match lookT s l with|some x=>some x|none=>if s=k then some v else none
  | []=>by simp only [List.nil_append,lookT]
  | (k0,v0) :: r=>by
    rw [List.cons_append]
    unfold lookT
    by_cases h:s=k0
    · simp [h]
    · rw [if_neg h,lookT_snoc s k v r]
      simp [h]
theorem IsNm.same {w:World} {m:Nat} {l:List ByteArray} {a:ByteArray} (h:IsNm w m l) (ha:(idx a l).isSome=true):IsNm w m (l ++ [a]):=by
  obtain⟨kv,h,h2⟩:=h
  refine⟨kv,h,fun s=>?_⟩
  rw [h2,idx_snoc]
  cases hx:idx s l with
  | some i=>rfl
  | none =>
    simp only
    rw [if_neg]
    rintro rfl
    rw [hx] at ha
    cases ha
theorem own2 {w:World} {b:Nat} {T:TypeId} {fr:Nat × Nat} {a0 a1:Value} (h:w.heap[b]? = some (.cells #[a0,a1] T fr)):w.cell? ⟨b,0,none⟩ = some a0∧w.cell? ⟨b,1,none⟩ = some a1:=
  ⟨by rw [Lib.cell_of_heap h];rfl,by rw [Lib.cell_of_heap h];rfl⟩
theorem IsNm.made (w:World):IsNm (w.alloc (.map #[] 0)) w.heap.size []:=⟨[],IsMapT.made w,fun _=>rfl⟩
theorem run_makeN (n:Nat) (w:World):(Instr.makeMap 104 (some (.int .i64 (n:Int)))).run Tryz.prog w = .ok (.map (some w.heap.size)) (w.alloc (.map #[] 0)):=by
  simp [Instr.makeMap,go_sem]
theorem has_any (l:List ByteArray) (m:Nat) (s:ByteArray) (w:World) (h:IsNm w m l):Calls Tryz.prog 55 #[.map (some m),.string s] w fun e w'=>e = .returned (.bool (idx s l).isSome)∧w=w':=by
  have hl:=look_nm2 h s w rfl
  clear h
  go_enter Tryz.func55,Tryz.ntmps55
  go_wp2_with fail
  go_ret
  exact⟨rfl,rfl⟩
theorem name_rec (nm:ByteArray) (ao:Option Addr) (n c:Nat) (w:World):Calls Tryz.prog 48 #[.agg #[.string nm,.slice ao n c]] w fun e w'=>e = .returned (.string nm)∧Below w.heap.size w w':=by
  have HB:=hid (below_box w (.cells #[.string nm,.slice ao n c] 49))
  go_enter Tryz.func48,Tryz.ntmps48
  go_wp2_with fail
  go_ret
  exact⟨rfl,HB.out⟩
theorem names_rec (l:List Rc) (B:Nat) (v:Value) (w:World) (hL:LiesG Rc.cells 2 w B v l) (hBw:B≤w.heap.size) (hI:∀ r ∈ l,RIn w B r) :
    Calls Tryz.prog 47 #[v,.func (.func 48) #[] #[]] w fun e w'=>∃ m,e = .returned (.map (some m))∧w.heap.size≤m∧IsNm w' m (l.map (·.name))∧Below w.heap.size w w':=by
  obtain⟨ao0,cap0,rfl,hlen,hgo⟩:=hL.form
  obtain⟨N,hN⟩:∃ N,N=l.length:=⟨_,rfl⟩
  rw [← hN] at hlen hgo ⊢
  have HLI:=hid hL
  have HIN:=hid hI
  have HG:=hid hgo
  have HN:=hid hN
  have H0:=hid (IsNm.made w)
  have B0:=hid (below_box w (.map #[] 0))
  have hN0:(0:Int)≤(N:Int):=by omega
  have hmm:=run_makeN N w
  clear hL hI hgo hN
  go_enter Tryz.func47,Tryz.ntmps47
  go_wp2_with fail
  go_loopw [13] (fun q wr=>∃ p:Nat,p≤N∧q = .int .i64 p∧IsNm wr w.heap.size ((l.take p).map (·.name))∧Below w.heap.size w wr) (fun q _=>N - (intOf q).toNat)
  case atStart=>exact⟨0,by omega,rfl,by simpa using H0.out,B0.out⟩
  case round =>
    obtain⟨p,hp,rfl,hNm,hB⟩:=hrel
    have hsr:=hB.size
    have hml:=hNm.lt
    by_cases hlt2:p < N
    · have hpx:p < l.length:=by rw [← HN.out];exact hlt2
      obtain⟨g,off,rfl,hg⟩:=HG.out (by omega)
      have hat:=((HLI.out.below (hB.mono hBw)).at rfl p hpx).2
      have hma:=HIN.out _ (List.getElem_mem hpx)
      have htk:(l.take (p+1)).map (·.name)=(l.take p).map (·.name) ++ [l[p].name]:=by rw [List.take_succ_eq_append_getElem hpx,List.map_append];rfl
      have hlp:((l.take p).map (·.name)).length=p:=by simp;omega
      generalize l[p] = a at *
      obtain⟨p0,p1⟩:=cells2 hat
      obtain⟨ao,cap,ea,-⟩:=hma.lies.form
      rw [ea] at p1
      have HTK:=hid htk
      have HLP:=hid hlp
      have hgs:g < wr.heap.size:=by omega
      have hb4:=below_box wr (.cells #[.string a.name,.slice ao a.fields.length cap] 49)
      have HB4:=hid (hB.trans (hb4.mono hsr))
      have HN4:=hid (hNm.of (hb4.block _ hml))
      have HO4:=hid (MapKept.heap_alloc wr (.cells #[.string a.name,.slice ao a.fields.length cap] 49)).1
      have hs4:(wr.alloc (.cells #[.string a.name,.slice ao a.fields.length cap] 49)).heap.size=wr.heap.size+1:=by simp
      have HS4:=hid hs4
      clear hat htk hlp hB hNm hb4 hma ea hs4
      go_wp2_with fail
      refine (name_rec a.name ao a.fields.length cap _).mono ?_;rintro e w5 ⟨rfl,hb5⟩
      have hs5:=hb5.size
      rw [HS4.out] at hs5
      have HB5:=hid (HB4.out.trans (hb5.mono (by rw [HS4.out];omega)))
      have hN5:=HN4.out.of (hb5.block _ (by rw [HS4.out];omega))
      have HO5:=hid ((hb5.block _ (by rw [HS4.out];omega)).trans HO4.out)
      have HHS:=hid (has_any _ _ a.name w5 hN5)
      have HN5:=hid hN5
      clear hb5 hN5
      go_wp2_with fail
      refine HHS.out.mono ?_;rintro e w' ⟨rfl,rfl⟩
      cases hx:(idx a.name ((l.take p).map (·.name))).isSome with
      | true =>
        have HR:=hid (HN5.out.same hx)
        clear hx
        go_wp2_with fail
        go_roundw
        case rel=>exact⟨p+1,by omega,by go_num,by rw [HTK.out];exact HR.out,HB5.out⟩
        case measure=>simp [intOf];omega
      | false =>
        have HX:=hid hx
        clear hx
        obtain⟨o0,o1⟩:=own2 HO5.out
        go_wp2_with fail
        refine (name_rec a.name ao a.fields.length cap _).mono ?_;rintro e w6 ⟨rfl,hb6⟩
        have hs6:=hb6.size
        have HB6:=hid (HB5.out.trans (hb6.mono (by omega)))
        have hN6:=HN5.out.of (hb6.block _ (by omega))
        have hnew:lookT a.name hN6.choose=none:=by
          rw [hN6.choose_spec.2]
          have:=HX.out
          cases hz:idx a.name ((l.take p).map (·.name)) with
          | none=>rfl
          | some i=>rw [hz] at this;cases this
        obtain⟨w7,hrun,hM7,hg7⟩:=run_putT (P:=Tryz.prog) uMapN uKeyN hN6.choose_spec.1 a.name (.int .i64 (p:Int)) hnew
        have HN7:=hid (show IsNm w7 w.heap.size ((l.take (p+1)).map (·.name)) by
          refine⟨_,hM7,fun s=>?_⟩
          rw [lookT_snoc,hN6.choose_spec.2,HTK.out,idx_snoc,HLP.out]
          cases hz:idx s ((l.take p).map (·.name)) with
          | some i=>rfl
          | none =>
            simp only
            by_cases hs:s=a.name
            · subst hs;simp
            · rw [if_neg hs,if_neg (fun e=>hs e.symm)];rfl)
        have HB7:=hid (HB6.out.grown hg7 (by omega) (fun k hk=>by cases hk;exact Nat.le_refl _))
        clear hN6 hnew hM7 hg7 hb6 o0 o1
        go_wp2_with fail
        go_roundw
        case rel=>exact⟨p+1,by omega,by go_num,HN7.out,HB7.out⟩
        case measure=>simp [intOf];omega
    · have HR:=hid (show IsNm wr w.heap.size (l.map (·.name)) by
        have e:l.take p=l:=List.take_of_length_le (by rw [← HN.out];omega)
        rw [e] at hNm;exact hNm)
      have HB5:=hid hB
      clear hB hNm
      go_wp2_with fail
      go_ret
      exact⟨w.heap.size,rfl,Nat.le_refl _,HR.out,HB5.out⟩
theorem name_fld (nm tn:ByteArray) (tk tz:Int) (w:World):Calls Tryz.prog 81 #[.agg #[.string nm,.int .u8 tk,.string tn,.int .i64 tz]] w fun e w'=>e = .returned (.string nm)∧Below w.heap.size w w':=by
  have HB:=hid (below_box w (.cells #[.string nm,.int .u8 tk,.string tn,.int .i64 tz] 57))
  go_enter Tryz.func81,Tryz.ntmps81
  go_wp2_with fail
  go_ret
  exact⟨rfl,HB.out⟩
theorem names_fld (l:List Fd) (B:Nat) (v:Value) (w:World) (hL:LiesG Fd.cells 4 w B v l) (hBw:B≤w.heap.size) :
    Calls Tryz.prog 80 #[v,.func (.func 81) #[] #[]] w fun e w'=>∃ m,e = .returned (.map (some m))∧w.heap.size≤m∧IsNm w' m (l.map (·.name))∧Below w.heap.size w w':=by
  obtain⟨ao0,cap0,rfl,hlen,hgo⟩:=hL.form
  obtain⟨N,hN⟩:∃ N,N=l.length:=⟨_,rfl⟩
  rw [← hN] at hlen hgo ⊢
  have HLI:=hid hL
  have HG:=hid hgo
  have HN:=hid hN
  have H0:=hid (IsNm.made w)
  have B0:=hid (below_box w (.map #[] 0))
  have hN0:(0:Int)≤(N:Int):=by omega
  have hmm:=run_makeN N w
  clear hL hgo hN
  go_enter Tryz.func80,Tryz.ntmps80
  go_wp2_with fail
  go_loopw [13] (fun q wr=>∃ p:Nat,p≤N∧q = .int .i64 p∧IsNm wr w.heap.size ((l.take p).map (·.name))∧Below w.heap.size w wr) (fun q _=>N - (intOf q).toNat)
  case atStart=>exact⟨0,by omega,rfl,by simpa using H0.out,B0.out⟩
  case round =>
    obtain⟨p,hp,rfl,hNm,hB⟩:=hrel
    have hsr:=hB.size
    have hml:=hNm.lt
    by_cases hlt2:p < N
    · have hpx:p < l.length:=by rw [← HN.out];exact hlt2
      obtain⟨g,off,rfl,hg⟩:=HG.out (by omega)
      have hat:=((HLI.out.below (hB.mono hBw)).at rfl p hpx).2
      have htk:(l.take (p+1)).map (·.name)=(l.take p).map (·.name) ++ [l[p].name]:=by rw [List.take_succ_eq_append_getElem hpx,List.map_append];rfl
      have hlp:((l.take p).map (·.name)).length=p:=by simp;omega
      generalize l[p] = a at *
      obtain⟨p0,p1,p2,p3⟩:=cells4 hat
      have HTK:=hid htk
      have HLP:=hid hlp
      have hgs:g < wr.heap.size:=by omega
      have hb4:=below_box wr (.cells #[.string a.name,.int .u8 a.t.k,.string a.t.n,.int .i64 a.t.z] 57)
      have HB4:=hid (hB.trans (hb4.mono hsr))
      have HN4:=hid (hNm.of (hb4.block _ hml))
      have HO4:=hid (MapKept.heap_alloc wr (.cells #[.string a.name,.int .u8 a.t.k,.string a.t.n,.int .i64 a.t.z] 57)).1
      have hs4:(wr.alloc (.cells #[.string a.name,.int .u8 a.t.k,.string a.t.n,.int .i64 a.t.z] 57)).heap.size=wr.heap.size+1:=by simp
      have HS4:=hid hs4
      clear hat htk hlp hB hNm hb4  hs4
      go_wp2_with fail
      refine (name_fld a.name a.t.n a.t.k a.t.z _).mono ?_;rintro e w5 ⟨rfl,hb5⟩
      have hs5:=hb5.size
      rw [HS4.out] at hs5
      have HB5:=hid (HB4.out.trans (hb5.mono (by rw [HS4.out];omega)))
      have hN5:=HN4.out.of (hb5.block _ (by rw [HS4.out];omega))
      have HO5:=hid ((hb5.block _ (by rw [HS4.out];omega)).trans HO4.out)
      have HHS:=hid (has_any _ _ a.name w5 hN5)
      have HN5:=hid hN5
      clear hb5 hN5
      go_wp2_with fail
      refine HHS.out.mono ?_;rintro e w' ⟨rfl,rfl⟩
      cases hx:(idx a.name ((l.take p).map (·.name))).isSome with
      | true =>
        have HR:=hid (HN5.out.same hx)
        clear hx
        go_wp2_with fail
        go_roundw
        case rel=>exact⟨p+1,by omega,by go_num,by rw [HTK.out];exact HR.out,HB5.out⟩
        case measure=>simp [intOf];omega
      | false =>
        have HX:=hid hx
        clear hx
        obtain⟨o0,o1,o2,o3⟩:=cells_prog _ _ _ _ HO5.out
        go_wp2_with fail
        refine (name_fld a.name a.t.n a.t.k a.t.z _).mono ?_;rintro e w6 ⟨rfl,hb6⟩
        have hs6:=hb6.size
        have HB6:=hid (HB5.out.trans (hb6.mono (by omega)))
        have hN6:=HN5.out.of (hb6.block _ (by omega))
        have hnew:lookT a.name hN6.choose=none:=by
          rw [hN6.choose_spec.2]
          have:=HX.out
          cases hz:idx a.name ((l.take p).map (·.name)) with
          | none=>rfl
          | some i=>rw [hz] at this;cases this
        obtain⟨w7,hrun,hM7,hg7⟩:=run_putT (P:=Tryz.prog) uMapN uKeyN hN6.choose_spec.1 a.name (.int .i64 (p:Int)) hnew
        have HN7:=hid (show IsNm w7 w.heap.size ((l.take (p+1)).map (·.name)) by
          refine⟨_,hM7,fun s=>?_⟩
          rw [lookT_snoc,hN6.choose_spec.2,HTK.out,idx_snoc,HLP.out]
          cases hz:idx s ((l.take p).map (·.name)) with
          | some i=>rfl
          | none =>
            simp only
            by_cases hs:s=a.name
            · subst hs;simp
            · rw [if_neg hs,if_neg (fun e=>hs e.symm)];rfl)
        have HB7:=hid (HB6.out.grown hg7 (by omega) (fun k hk=>by cases hk;exact Nat.le_refl _))
        clear hN6 hnew hM7 hg7 hb6 o0 o1 o2 o3
        go_wp2_with fail
        go_roundw
        case rel=>exact⟨p+1,by omega,by go_num,HN7.out,HB7.out⟩
        case measure=>simp [intOf];omega
    · have HR:=hid (show IsNm wr w.heap.size (l.map (·.name)) by
        have e:l.take p=l:=List.take_of_length_le (by rw [← HN.out];omega)
        rw [e] at hNm;exact hNm)
      have HB5:=hid hB
      clear hB hNm
      go_wp2_with fail
      go_ret
      exact⟨w.heap.size,rfl,Nat.le_refl _,HR.out,HB5.out⟩
theorem name_fun (nm tn:ByteArray) (tk tz:Int) (ao bo:Option Addr) (n c k d:Nat) (w:World):Calls Tryz.prog 51 #[.agg #[.string nm,.slice ao n c,.int .u8 tk,.string tn,.int .i64 tz,.slice bo k d]] w fun e w'=>e = .returned (.string nm)∧Below w.heap.size w w':=by
  have HB:=hid (below_box w (.cells #[.string nm,.slice ao n c,.int .u8 tk,.string tn,.int .i64 tz,.slice bo k d] 33))
  go_enter Tryz.func51,Tryz.ntmps51
  go_wp2_with fail
  go_ret
  exact⟨rfl,HB.out⟩
theorem names_fun (l:List Fn) (B:Nat) (v:Value) (w:World) (hL:LiesG Fn.cells 6 w B v l) (hBw:B≤w.heap.size) (hI:∀ r ∈ l,NIn w B r) :
    Calls Tryz.prog 50 #[v,.func (.func 51) #[] #[]] w fun e w'=>∃ m,e = .returned (.map (some m))∧w.heap.size≤m∧IsNm w' m (l.map (·.name))∧Below w.heap.size w w':=by
  obtain⟨ao0,cap0,rfl,hlen,hgo⟩:=hL.form
  obtain⟨N,hN⟩:∃ N,N=l.length:=⟨_,rfl⟩
  rw [← hN] at hlen hgo ⊢
  have HLI:=hid hL
  have HIN:=hid hI
  have HG:=hid hgo
  have HN:=hid hN
  have H0:=hid (IsNm.made w)
  have B0:=hid (below_box w (.map #[] 0))
  have hN0:(0:Int)≤(N:Int):=by omega
  have hmm:=run_makeN N w
  clear hL hI hgo hN
  go_enter Tryz.func50,Tryz.ntmps50
  go_wp2_with fail
  go_loopw [13] (fun q wr=>∃ p:Nat,p≤N∧q = .int .i64 p∧IsNm wr w.heap.size ((l.take p).map (·.name))∧Below w.heap.size w wr) (fun q _=>N - (intOf q).toNat)
  case atStart=>exact⟨0,by omega,rfl,by simpa using H0.out,B0.out⟩
  case round =>
    obtain⟨p,hp,rfl,hNm,hB⟩:=hrel
    have hsr:=hB.size
    have hml:=hNm.lt
    by_cases hlt2:p < N
    · have hpx:p < l.length:=by rw [← HN.out];exact hlt2
      obtain⟨g,off,rfl,hg⟩:=HG.out (by omega)
      have hat:=((HLI.out.below (hB.mono hBw)).at rfl p hpx).2
      have hma:=HIN.out _ (List.getElem_mem hpx)
      have htk:(l.take (p+1)).map (·.name)=(l.take p).map (·.name) ++ [l[p].name]:=by rw [List.take_succ_eq_append_getElem hpx,List.map_append];rfl
      have hlp:((l.take p).map (·.name)).length=p:=by simp;omega
      generalize l[p] = a at *
      obtain⟨p0,p1,p2,p3,p4,p5⟩:=cells6 hat
      obtain⟨ao,cap,ea,-⟩:=hma.lies.form
      obtain⟨bo,bcap,eb,-⟩:=hma.blies.form
      rw [ea] at p1
      rw [eb] at p5
      have HTK:=hid htk
      have HLP:=hid hlp
      have hgs:g < wr.heap.size:=by omega
      have hb4:=below_box wr (.cells #[.string a.name,.slice ao a.params.length cap,.int .u8 a.res.k,.string a.res.n,.int .i64 a.res.z,.slice bo a.body.length bcap] 33)
      have HB4:=hid (hB.trans (hb4.mono hsr))
      have HN4:=hid (hNm.of (hb4.block _ hml))
      have HO4:=hid (MapKept.heap_alloc wr (.cells #[.string a.name,.slice ao a.params.length cap,.int .u8 a.res.k,.string a.res.n,.int .i64 a.res.z,.slice bo a.body.length bcap] 33)).1
      have hs4:(wr.alloc (.cells #[.string a.name,.slice ao a.params.length cap,.int .u8 a.res.k,.string a.res.n,.int .i64 a.res.z,.slice bo a.body.length bcap] 33)).heap.size=wr.heap.size+1:=by simp
      have HS4:=hid hs4
      clear hat htk hlp hB hNm hb4 hma ea eb hs4
      go_wp2_with fail
      refine (name_fun a.name a.res.n a.res.k a.res.z ao bo a.params.length cap a.body.length bcap _).mono ?_;rintro e w5 ⟨rfl,hb5⟩
      have hs5:=hb5.size
      rw [HS4.out] at hs5
      have HB5:=hid (HB4.out.trans (hb5.mono (by rw [HS4.out];omega)))
      have hN5:=HN4.out.of (hb5.block _ (by rw [HS4.out];omega))
      have HO5:=hid ((hb5.block _ (by rw [HS4.out];omega)).trans HO4.out)
      have HHS:=hid (has_any _ _ a.name w5 hN5)
      have HN5:=hid hN5
      clear hb5 hN5
      go_wp2_with fail
      refine HHS.out.mono ?_;rintro e w' ⟨rfl,rfl⟩
      cases hx:(idx a.name ((l.take p).map (·.name))).isSome with
      | true =>
        have HR:=hid (HN5.out.same hx)
        clear hx
        go_wp2_with fail
        go_roundw
        case rel=>exact⟨p+1,by omega,by go_num,by rw [HTK.out];exact HR.out,HB5.out⟩
        case measure=>simp [intOf];omega
      | false =>
        have HX:=hid hx
        clear hx
        obtain⟨o0,o1,o2,o3,o4,o5⟩:=own6 HO5.out
        go_wp2_with fail
        refine (name_fun a.name a.res.n a.res.k a.res.z ao bo a.params.length cap a.body.length bcap _).mono ?_;rintro e w6 ⟨rfl,hb6⟩
        have hs6:=hb6.size
        have HB6:=hid (HB5.out.trans (hb6.mono (by omega)))
        have hN6:=HN5.out.of (hb6.block _ (by omega))
        have hnew:lookT a.name hN6.choose=none:=by
          rw [hN6.choose_spec.2]
          have:=HX.out
          cases hz:idx a.name ((l.take p).map (·.name)) with
          | none=>rfl
          | some i=>rw [hz] at this;cases this
        obtain⟨w7,hrun,hM7,hg7⟩:=run_putT (P:=Tryz.prog) uMapN uKeyN hN6.choose_spec.1 a.name (.int .i64 (p:Int)) hnew
        have HN7:=hid (show IsNm w7 w.heap.size ((l.take (p+1)).map (·.name)) by
          refine⟨_,hM7,fun s=>?_⟩
          rw [lookT_snoc,hN6.choose_spec.2,HTK.out,idx_snoc,HLP.out]
          cases hz:idx s ((l.take p).map (·.name)) with
          | some i=>rfl
          | none =>
            simp only
            by_cases hs:s=a.name
            · subst hs;simp
            · rw [if_neg hs,if_neg (fun e=>hs e.symm)];rfl)
        have HB7:=hid (HB6.out.grown hg7 (by omega) (fun k hk=>by cases hk;exact Nat.le_refl _))
        clear hN6 hnew hM7 hg7 hb6 o0 o1 o2 o3 o4 o5
        go_wp2_with fail
        go_roundw
        case rel=>exact⟨p+1,by omega,by go_num,HN7.out,HB7.out⟩
        case measure=>simp [intOf];omega
    · have HR:=hid (show IsNm wr w.heap.size (l.map (·.name)) by
        have e:l.take p=l:=List.take_of_length_le (by rw [← HN.out];omega)
        rw [e] at hNm;exact hNm)
      have HB5:=hid hB
      clear hB hNm
      go_wp2_with fail
      go_ret
      exact⟨w.heap.size,rfl,Nat.le_refl _,HR.out,HB5.out⟩
theorem names_fields (l:List Fd) (B:Nat) (v:Value) (w:World) (hL:LiesG Fd.cells 4 w B v l) (hBw:B≤w.heap.size) :
    Calls Tryz.prog 49 #[v] w fun e w'=>∃ m,e = .returned (.map (some m))∧w.heap.size≤m∧IsNm w' m (fnames l)∧Below w.heap.size w w':=by
  have H:=hid (names_fld l B v w hL hBw)
  clear hL
  go_enter Tryz.func49,Tryz.ntmps49
  go_wp2_with fail
  refine H.out.mono ?_;rintro e w1 ⟨m,rfl,hm,hN,hb⟩
  have HR:=hid hN
  have HB:=hid hb
  clear hN hb
  go_wp2_with fail
  go_ret
  exact⟨m,rfl,hm,HR.out,HB.out⟩
end Go.Proofs.YtdhieihcmnpneaaGreatDoor
