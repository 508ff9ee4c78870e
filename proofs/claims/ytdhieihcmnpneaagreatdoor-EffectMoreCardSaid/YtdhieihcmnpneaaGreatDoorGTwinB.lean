/- Copies of records, of functions. -/
import Derived.Test.YtdhieihcmnpneaaGreatDoorRows
import Derived.Test.YtdhieihcmnpneaaGreatDoorGTw
import Derived.Test.YtdhieihcmnpneaaGreatDoorGSize
import Derived.Test.YtdhieihcmnpneaaGreatDoorGTwinA
import Derived.Test.YtdhieihcmnpneaaGreatDoorTypTwinS
namespace Go.Proofs.YtdhieihcmnpneaaGreatDoor
open Lib (hid)
set_option maxRecDepth 100000
set_option maxHeartbeats 8000000
open Go.RowKit Go.Joins
theorem twiR:(Tryz.prog.info? 49).map (fun i=>(i.zero,i.size,i.bytes))=some (some (.agg #[.string ⟨#[]⟩,.slice none 0 0]),2,40):=by kernel_rfl
theorem twiN:(Tryz.prog.info? 33).map (fun i=>(i.zero,i.size,i.bytes))=some (some (.agg #[.string ⟨#[]⟩,.slice none 0 0,.int .u8 0,.string ⟨#[]⟩,.int .i64 0,.slice none 0 0]),6,96):=by kernel_rfl
theorem rcells_len (a:Rc):(Rc.cells a).length=2:=rfl
theorem ncells_len (a:Fn):(Fn.cells a).length=6:=rfl
def Rc.bares (l:List Rc):List Rc:=l.map Rc.bare
def Fn.bares (l:List Fn):List Fn:=l.map Fn.bare
theorem Rc_bares_append (a b:List Rc):Rc.bares (a ++ b)=Rc.bares a ++ Rc.bares b:=List.map_append
theorem Fn_bares_append (a b:List Fn):Fn.bares (a ++ b)=Fn.bares a ++ Fn.bares b:=List.map_append
theorem Rc_bares_one (a:Rc):Rc.bares [a] = [a.bare]:=rfl
theorem Fn_bares_one (a:Fn):Fn.bares [a] = [a.bare]:=rfl
def mkR (n:Nat) (t:List Value):Prop:=t=markRecord n
def mkN (n:Nat) (t:List Value):Prop:=t=markFunc n
def TwRE (r:Rc) (w:World) (e:Ending) (w':World):Prop:=∃ y:Rc,e = .returned (.agg #[.string y.name,y.v])∧y.bare=r.bare∧Below w.heap.size w w'∧NewW w.heap.size w' fun v=>RIn v w'.heap.size y
def TwNE (r:Fn) (w:World) (e:Ending) (w':World):Prop:=∃ y:Fn,e = .returned (.agg #[.string y.name,y.pv,.int .u8 y.res.k,.string y.res.n,.int .i64 y.res.z,y.bv])∧y.bare=r.bare∧Below w.heap.size w w'∧NewW w.heap.size w' fun v=>NIn v w'.heap.size y
theorem twinRecord_any (r:Rc) (B:Nat) (w:World) (hI:RIn w B r) (hBw:B≤w.heap.size) (hsz:r.fields.length≤262144) (hT:Tab w) :
    Calls Tryz.prog 35 #[.agg #[.string r.name,r.v]] w (TwRE r w):=by
  obtain⟨po,pc,ep,-⟩:=hI.lies.form
  have hpr:=hI.lies.room
  obtain⟨W2,hW2⟩:∃ W2,W2=(w.alloc (.cells #[.string r.name,.slice po r.fields.length pc] 49)).alloc (.cells #[.string ⟨#[]⟩,.slice none 0 0] 49):=⟨_,rfl⟩
  have hb1:=below_box w (.cells #[.string r.name,.slice po r.fields.length pc] 49)
  have hb2:Below w.heap.size w W2:=by rw [hW2];exact hb1.alloc (by simp) _
  have hz2:W2.heap.size=w.heap.size+2:=by rw [hW2];simp
  have hO2:W2.heap[w.heap.size]? = some (.cells #[.string r.name,.slice po r.fields.length pc] 49 (0,0)):=by
    rw [hW2,Below.heap_alloc _ _ _ (by simp)];exact (MapKept.heap_alloc _ _).1
  have hP2:W2.heap[w.heap.size+1]? = some (.cells #[.string ⟨#[]⟩,.slice none 0 0] 49 (0,0)):=by
    rw [hW2];have:=(MapKept.heap_alloc (w.alloc (.cells #[.string r.name,.slice po r.fields.length pc] 49)) (.cells #[.string ⟨#[]⟩,.slice none 0 0] 49)).1;simpa using this
  have hK:=twinFields_any r.fields B r.v W2 (hI.lies.below (hb2.mono hBw)) hI.fields (by omega) hsz (hT.keeps hb2)
  have p1:W2.cell? ⟨w.heap.size,1,none⟩ = some (.slice po r.fields.length pc):=by rw [Lib.cell_of_heap hO2];rfl
  rw [ep] at hK ⊢
  have HIN:=hid hI
  have HZ2:=hid hz2
  rw [hW2] at p1
  have HK:=hid hK
  have HW2:=hid hW2
  have HB2:=hid hb2
  have HO2:=hid hO2
  have HP2:=hid hP2
  clear hK hW2 hb1 hb2 hO2 hP2 hz2 hI hT hsz ep
  go_enter Tryz.func35,Tryz.ntmps35
  go_wp2_with fail
  rw [← HW2.out]
  refine HK.out.mono ?_;intro e w3 hq
  obtain⟨v,l',R,t1,t2,rfl,hsame,hT3⟩:=hq
  have hv:=hT3.val
  subst hv
  obtain rfl:=hsame
  have hb3:=hT3.below
  have hs3:=hb3.size
  have hO3:=(hb3.block w.heap.size (by have:=HZ2.out;omega)).trans HO2.out
  have HP3:=hid ((hb3.block (w.heap.size+1) (by have:=HZ2.out;omega)).trans HP2.out)
  have hsz3:w.heap.size+2≤w3.heap.size:=by have:=HZ2.out;omega
  have f1:=Lib.frozen_of_heap hO3 1
  have q0:w3.cell? ⟨w.heap.size,0,none⟩ = some (.string r.name):=by rw [Lib.cell_of_heap hO3];rfl
  have q1:w3.cell? ⟨w.heap.size,1,none⟩ = some (.slice po r.fields.length pc):=by rw [Lib.cell_of_heap hO3];rfl
  have HT3:=hid hT3
  have HB3:=hid (HB2.out.trans (hb3.mono (by have:=HZ2.out;omega)))
  have HP4:=hid (show (w3.setCell ⟨w.heap.size,1,none⟩ (.slice (some ⟨W2.heap.size,0,none⟩) r.fields.length (r.fields.length+2))).heap[w.heap.size+1]? = some (.cells #[.string ⟨#[]⟩,.slice none 0 0] 49 (0,0)) from (Below.heap_setCell _ _ _ _ (by show w.heap.size+1 ≠ w.heap.size;omega)).trans HP3.out)
  clear hT3 hb3 hO3 p1
  go_wp2_with (refine wpList_put rfl 49 (Operand.tmp 2) (Operand.tmp 7) rfl (w.heap.size+1) 49 _ #[.string r.name,.slice (some ⟨W2.heap.size,0,none⟩) r.fields.length (r.fields.length+2)] rfl rfl HP4.out rfl (by kernel_rfl) (by simp [Value.oneCell']) ?_)
  intro w5 hp5
  have HP:=hid hp5
  clear hp5
  go_wp2_with fail
  refine bodyPost_ret (v:=.agg #[.string r.name,.slice (some ⟨W2.heap.size,0,none⟩) r.fields.length (r.fields.length+2)]) (results_cell_row rfl _ _ (w.heap.size+1) 49 _ (0,0) _ rfl HP.out.at_b Tryz.underlying49 rfl (by kernel_rfl)) rfl ?_
  have hz2:=HZ2.out
  have hz5:w5.heap.size=w3.heap.size:=by rw [HP.out.size];simp [World.setCell]
  refine⟨⟨r.name,.slice (some ⟨W2.heap.size,0,none⟩) r.fields.length (r.fields.length+2),r.fields⟩,rfl,rfl, ?_, ?_⟩
  · exact HP.out.below ((HB3.out).setCell (show w.heap.size≤w.heap.size from Nat.le_refl _) _) (by omega)
  · intro u hu
    have hu2:∀ g,W2.heap.size≤g→g < w3.heap.size→u.heap[g]? = w3.heap[g]?:=fun g h1 h2=>(hu g (by omega) (by rw [hz5];exact h2)).trans ((HP.out.rest g (by omega)).trans (Below.heap_setCell _ _ _ _ (by show g ≠ w.heap.size;omega)))
    rw [hz5]
    exact⟨HIN.out.name,HT3.out.lies fcells_len hpr u hu2,HIN.out.fields⟩
theorem twinFunc_any (r:Fn) (B:Nat) (w:World) (hI:NIn w B r) (hBw:B≤w.heap.size) (hsz:r.params.length≤262144∧St.wts r.body≤262144) (hT:Tab w) :
    Calls Tryz.prog 10 #[.agg #[.string r.name,r.pv,.int .u8 r.res.k,.string r.res.n,.int .i64 r.res.z,r.bv]] w (TwNE r w):=by
  obtain⟨po,pc,ep,-⟩:=hI.lies.form
  have hpr:=hI.lies.room
  obtain⟨bo,bc,eb,-⟩:=hI.blies.form
  have hbr:=hI.blies.room
  obtain⟨W2,hW2⟩:∃ W2,W2=(w.alloc (.cells #[.string r.name,.slice po r.params.length pc,.int .u8 r.res.k,.string r.res.n,.int .i64 r.res.z,.slice bo r.body.length bc] 33)).alloc (.cells #[.string ⟨#[]⟩,.slice none 0 0,.int .u8 0,.string ⟨#[]⟩,.int .i64 0,.slice none 0 0] 33):=⟨_,rfl⟩
  have hb1:=below_box w (.cells #[.string r.name,.slice po r.params.length pc,.int .u8 r.res.k,.string r.res.n,.int .i64 r.res.z,.slice bo r.body.length bc] 33)
  have hb2:Below w.heap.size w W2:=by rw [hW2];exact hb1.alloc (by simp) _
  have hz2:W2.heap.size=w.heap.size+2:=by rw [hW2];simp
  have hO2:W2.heap[w.heap.size]? = some (.cells #[.string r.name,.slice po r.params.length pc,.int .u8 r.res.k,.string r.res.n,.int .i64 r.res.z,.slice bo r.body.length bc] 33 (0,0)):=by
    rw [hW2,Below.heap_alloc _ _ _ (by simp)];exact (MapKept.heap_alloc _ _).1
  have hP2:W2.heap[w.heap.size+1]? = some (.cells #[.string ⟨#[]⟩,.slice none 0 0,.int .u8 0,.string ⟨#[]⟩,.int .i64 0,.slice none 0 0] 33 (0,0)):=by
    rw [hW2];have:=(MapKept.heap_alloc (w.alloc (.cells #[.string r.name,.slice po r.params.length pc,.int .u8 r.res.k,.string r.res.n,.int .i64 r.res.z,.slice bo r.body.length bc] 33)) (.cells #[.string ⟨#[]⟩,.slice none 0 0,.int .u8 0,.string ⟨#[]⟩,.int .i64 0,.slice none 0 0] 33)).1;simpa using this
  have hK:=twinFields_any r.params B r.pv W2 (hI.lies.below (hb2.mono hBw)) hI.params (by omega) hsz.1 (hT.keeps hb2)
  have p1:W2.cell? ⟨w.heap.size,1,none⟩ = some (.slice po r.params.length pc):=by rw [Lib.cell_of_heap hO2];rfl
  have HKB:=hid (fun (u:World) (hu:Below w.heap.size w u)=>twinStmts_all r.body B r.bv u (hI.blies.below (hu.mono hBw)) (fun a ha=>SIn.keeps (hu.mono hBw) _ (hI.body a ha)) (by have:=hu.size;omega) hsz.2 (hT.keeps hu))
  rw [ep] at hK ⊢
  rw [eb]
  have HIN:=hid hI
  have HZ2:=hid hz2
  rw [hW2] at p1
  have HK:=hid hK
  have HW2:=hid hW2
  have HB2:=hid hb2
  have HO2:=hid hO2
  have HP2:=hid hP2
  have HEB:=hid eb
  clear hK hW2 hb1 hb2 hO2 hP2 hz2 hI hT hsz ep eb
  go_enter Tryz.func10,Tryz.ntmps10
  go_wp2_with fail
  rw [← HW2.out]
  refine HK.out.mono ?_;intro e w3 hq
  obtain⟨v,l',R,t1,t2,rfl,hsame,hT3⟩:=hq
  have hv:=hT3.val
  subst hv
  obtain rfl:=hsame
  have hb3:=hT3.below
  have hs3:=hb3.size
  have hO3:=(hb3.block w.heap.size (by have:=HZ2.out;omega)).trans HO2.out
  have HP3:=hid ((hb3.block (w.heap.size+1) (by have:=HZ2.out;omega)).trans HP2.out)
  have hsz3:w.heap.size+2≤w3.heap.size:=by have:=HZ2.out;omega
  have f1:=Lib.frozen_of_heap hO3 1
  have q1:w3.cell? ⟨w.heap.size,1,none⟩ = some (.slice po r.params.length pc):=by rw [Lib.cell_of_heap hO3];rfl
  have q5:w3.cell? ⟨w.heap.size,5,none⟩ = some (.slice bo r.body.length bc):=by rw [Lib.cell_of_heap hO3];rfl
  have hp4:=put_cell (o:=1) (v:=.slice (some ⟨W2.heap.size,0,none⟩) r.params.length (r.params.length+2)) hO3
  have HT3:=hid hT3
  have HB3:=hid (HB2.out.trans (hb3.mono (by have:=HZ2.out;omega)))
  have HPC:=hid hp4
  clear hT3 hb3 hO3 p1 hp4
  go_wp2_with fail
  obtain⟨w4,hw4⟩:∃ u,u=w3.setCell ⟨w.heap.size,1,none⟩ (.slice (some ⟨W2.heap.size,0,none⟩) r.params.length (r.params.length+2)):=⟨_,rfl⟩
  have hp4:=HPC.out
  rw [← hw4] at hp4 ⊢
  have hb4:Below w.heap.size w w4:=hp4.below HB3.out (Nat.le_refl _)
  have HB4:=hid hb4
  have hO4:w4.heap[w.heap.size]? = some (.cells #[.string r.name,.slice (some ⟨W2.heap.size,0,none⟩) r.params.length (r.params.length+2),.int .u8 r.res.k,.string r.res.n,.int .i64 r.res.z,.slice bo r.body.length bc] 33 (0,0)):=hp4.at_b
  have HO4:=hid hO4
  have hlt4:w.heap.size+1 < w4.heap.size:=by rw [hp4.size];omega
  have HS34:=hid hp4.size
  have HP4:=hid ((hp4.rest (w.heap.size+1) (by omega)).trans HP3.out)
  have HK4:=hid (Kept.of_put (lo:=W2.heap.size) hp4 (by have:=HZ2.out;omega))
  have hkb:=HKB.out w4 hb4
  rw [HEB.out] at hkb
  have HKB2:=hid hkb
  clear hp4 hb4 hO4 hkb hw4 HPC q1 q5 f1
  refine HKB2.out.mono ?_;intro e w5 hq
  obtain⟨v5,b',R5,t51,t52,rfl,hbs,hT5⟩:=hq
  have hv5:=hT5.val
  subst hv5
  have hb5:=hT5.below
  have hs5:=hb5.size
  have hO5:=(hb5.block w.heap.size (by omega)).trans HO4.out
  have HP5:=hid ((hb5.block (w.heap.size+1) (by omega)).trans HP4.out)
  have f5:=Lib.frozen_of_heap hO5 5
  have q0:w5.cell? ⟨w.heap.size,0,none⟩ = some (.string r.name):=by rw [Lib.cell_of_heap hO5];rfl
  have q1:w5.cell? ⟨w.heap.size,1,none⟩ = some (.slice (some ⟨W2.heap.size,0,none⟩) r.params.length (r.params.length+2)):=by rw [Lib.cell_of_heap hO5];rfl
  have q2:w5.cell? ⟨w.heap.size,2,none⟩ = some (.int .u8 r.res.k):=by rw [Lib.cell_of_heap hO5];rfl
  have q3:w5.cell? ⟨w.heap.size,3,none⟩ = some (.string r.res.n):=by rw [Lib.cell_of_heap hO5];rfl
  have q4:w5.cell? ⟨w.heap.size,4,none⟩ = some (.int .i64 r.res.z):=by rw [Lib.cell_of_heap hO5];rfl
  have q5:w5.cell? ⟨w.heap.size,5,none⟩ = some (.slice bo r.body.length bc):=by rw [Lib.cell_of_heap hO5];rfl
  have HT5:=hid hT5
  have HBS:=hid hbs
  have HB5:=hid (HB4.out.trans (hb5.mono (by omega)))
  have HK5:=hid (HK4.out.trans (Kept.of_below hb5))
  have HP6:=hid (show (w5.setCell ⟨w.heap.size,5,none⟩ (.slice (some ⟨w4.heap.size,0,none⟩) r.body.length (r.body.length+2))).heap[w.heap.size+1]? = some (.cells #[.string ⟨#[]⟩,.slice none 0 0,.int .u8 0,.string ⟨#[]⟩,.int .i64 0,.slice none 0 0] 33 (0,0)) from (Below.heap_setCell _ _ _ _ (by show w.heap.size+1 ≠ w.heap.size;omega)).trans HP5.out)
  clear hT5 hbs hb5 hO5
  go_wp2_with (refine wpList_put rfl 33 (Operand.tmp 2) (Operand.tmp 11) rfl (w.heap.size+1) 33 _ #[.string r.name,.slice (some ⟨W2.heap.size,0,none⟩) r.params.length (r.params.length+2),.int .u8 r.res.k,.string r.res.n,.int .i64 r.res.z,.slice (some ⟨w4.heap.size,0,none⟩) r.body.length (r.body.length+2)] rfl rfl HP6.out rfl (by kernel_rfl) (by simp [Value.oneCell']) ?_)
  intro w7 hp7
  have HP:=hid hp7
  clear hp7
  go_wp2_with fail
  refine bodyPost_ret (v:=.agg #[.string r.name,.slice (some ⟨W2.heap.size,0,none⟩) r.params.length (r.params.length+2),.int .u8 r.res.k,.string r.res.n,.int .i64 r.res.z,.slice (some ⟨w4.heap.size,0,none⟩) r.body.length (r.body.length+2)]) (results_cell_row rfl _ _ (w.heap.size+1) 33 _ (0,0) _ rfl HP.out.at_b Tryz.underlying33 rfl (by kernel_rfl)) rfl ?_
  have hz2:=HZ2.out
  have hz7:w7.heap.size=w5.heap.size:=by rw [HP.out.size];simp [World.setCell]
  refine⟨⟨r.name,.slice (some ⟨W2.heap.size,0,none⟩) r.params.length (r.params.length+2),r.params,r.res,.slice (some ⟨w4.heap.size,0,none⟩) r.body.length (r.body.length+2),b'⟩,rfl, ?_, ?_, ?_⟩
  · unfold Fn.bare;rw [HBS.out]
  · exact HP.out.below ((HB5.out).setCell (show w.heap.size≤w.heap.size from Nat.le_refl _) _) (by omega)
  · intro u hu
    have hu5:∀ g,W2.heap.size≤g→g < w5.heap.size→u.heap[g]? = w5.heap[g]?:=fun g h1 h2=>(hu g (by omega) (by rw [hz7];exact h2)).trans ((HP.out.rest g (by omega)).trans (Below.heap_setCell _ _ _ _ (by show g ≠ w.heap.size;omega)))
    have hu3:∀ g,W2.heap.size≤g→g < w3.heap.size→u.heap[g]? = w3.heap[g]?:=fun g h1 h2=>(hu5 g h1 (by have:=HK5.out.1;omega)).trans (HK5.out.2 g h1 h2)
    have hu4:∀ g,w4.heap.size≤g→g < w5.heap.size→u.heap[g]? = w5.heap[g]?:=fun g h1 h2=>hu5 g (by have:=HS34.out;omega) h2
    rw [hz7]
    exact⟨HIN.out.name,(HT3.out.lies fcells_len hpr u hu3).up HK5.out.1,HIN.out.params,HIN.out.res,HT5.out.lies scells_len hbr u hu4,fun a ha=>HT5.out.all a ha u hu4⟩
theorem fieldsN_le (l:List Rc) (a:Rc) (h:a ∈ l):a.fields.length≤fieldsN l:=by
  induction l with
  | nil=>cases h
  | cons b r ih =>
    rw [fieldsN]
    rcases List.mem_cons.1 h with rfl|h
    · omega
    · have:=ih h;omega
theorem bodiesN_le (l:List Fn) (a:Fn) (h:a ∈ l):a.params.length+St.wts a.body≤bodiesN l:=by
  induction l with
  | nil=>cases h
  | cons b r ih =>
    rw [bodiesN]
    rcases List.mem_cons.1 h with rfl|h
    · omega
    · have:=ih h;omega
theorem twinRecords_any (l:List Rc) (B:Nat) (v:Value) (w:World) (hL:LiesG Rc.cells 2 w B v l) (hI:∀ a ∈ l,RIn w B a) (hBw:B≤w.heap.size) (hsz:l.length+fieldsN l≤262144) (hT:Tab w) :
    Calls Tryz.prog 18 #[v] w (TwE Rc.cells 49 2 RIn l.length mkR (fun l'=>Rc.bares l'=Rc.bares l) w):=by
  have hsm:l.length≤262144:=by omega
  have ih:True:=trivial
  have hroom:=hL.room
  obtain⟨ao,cap,rfl,hlen,hgo⟩:=hL.form
  obtain⟨N,hN⟩:∃ N,N=l.length:=⟨_,rfl⟩
  have hNs:N≤262144:=by rw [hN];exact hsm
  obtain⟨i0,hi,hz0,hz1,hz2⟩:=info_parts twiR
  obtain⟨M,hM⟩:∃ M,M=madeCells (Value.cells (.agg #[.string ⟨#[]⟩,.slice none 0 0])) (((N:Int)+2).toNat * i0.size):=⟨_,rfl⟩
  have hMs:M.size=(N+2) * 2:=by rw [hM,size_madeCells,hz1];congr 1
  have hmk:(Instr.makeSlice 22 (.int .i64 (N:Int)) (.int .i64 ((N:Int)+2))).run Tryz.prog w = .ok (.slice (some ⟨w.heap.size,0,none⟩) N (N+2)) (w.alloc (.cells M 49)):=by
    have h:=run_make (P:=Tryz.prog) w 22 49 i0 (.agg #[.string ⟨#[]⟩,.slice none 0 0]) Tryz.underlying22 hi hz0 .i64 .i64 (N:Int) ((N:Int)+2) (by omega) (by omega) (by rw [hz2];omega) (by omega)
    rw [← hM,show ((N:Int)+2).toNat=N+2 by omega] at h
    simpa using h
  obtain⟨W0,hW0⟩:∃ W0,W0=w.alloc (.cells M 49):=⟨_,rfl⟩
  have hb0:Below w.heap.size w W0:=by rw [hW0];exact below_box w _
  have hlt0:w.heap.size < W0.heap.size:=by rw [hW0];simp
  have hS0:TwS Rc.cells 49 2 RIn w.heap.size N 0 w W0 [] M M.toList:=
    ⟨rfl,hb0,hlt0,by rw [hW0];exact (MapKept.heap_alloc _ _).1,by simp,by rw [Array.length_toList,hMs];rfl,fun a ha=>by cases ha⟩
  rw [← hN] at hlen hgo hL ⊢
  have HS0:=hid hS0
  have HW0:=hid hW0
  have HL:=hid hL
  have HIN:=hid hI
  have HG:=hid hgo
  have HN:=hid hN
  have HSM:=hid hsz
  have HT0:=hid hT
  have HIH:=hid ih
  clear hi hz0 hz1 hz2 hM hMs hb0 hS0 hW0 hL hI hgo hN hsz ih hroom hT
  rw [HW0.out.symm] at hmk
  go_enter Tryz.func18,Tryz.ntmps18
  go_wp2_with fail
  go_loopw [15] (fun i wr=>∃ k:Nat,k≤N∧i = .int .i64 k∧Hid (∃ l' R rest,Rc.bares l'=Rc.bares (l.take k)∧TwS Rc.cells 49 2 RIn w.heap.size N k w wr l' R rest)) (fun i _=>N - (intOf i).toNat)
  case atStart=>exact⟨0,by omega,rfl,hid ⟨[],M,M.toList,by rw [List.take_zero],HS0.out⟩⟩
  case round =>
    obtain⟨k,hkN,rfl,HR⟩:=hrel
    obtain⟨l',R,rest,hsame,hS⟩:=HR.out
    clear HR
    have hbw:=hS.below
    have hsw:=hbw.size
    have hlb:=hS.lt
    by_cases hlt2:k < N
    · have hpx:k < l.length:=by rw [← HN.out];exact hlt2
      obtain⟨g,off,rfl,hg⟩:=HG.out (by omega)
      have hat:=((HL.out.below (hbw.mono hBw)).at rfl k hpx).2
      have hma:=List.getElem_mem hpx
      have hIa:=(HIN.out _ hma).keeps (hbw.mono hBw)
      have htk:l.take (k+1)=l.take k ++ [l[k]]:=List.take_succ_eq_append_getElem hpx
      have hPa:=twinRecord_any l[k] B wr hIa (by omega) (by have:=fieldsN_le l _ hma;have:=HSM.out;omega) (HT0.out.keeps hbw)
      have p0:wr.cell? ⟨g,off+k * 2,none⟩ = some (.string l[k].name):=hat 0 _ rfl
      have p1:wr.cell? ⟨g,off+k * 2+1,none⟩ = some l[k].v:=hat 1 l[k].v rfl
      generalize l[k] = a at *
      obtain⟨fo,fc,ef,-⟩:=hIa.lies.form
      rw [ef] at p1 hPa
      have HPA:=hid hPa
      have HS:=hid hS
      have HTK:=hid htk
      have HSAME:=hid hsame
      have hgs:g < wr.heap.size:=by omega
      clear hat hma hIa hPa htk hS hsame hbw ef
      go_wp2_with fail
      refine HPA.out.mono ?_;intro e w1 hq
      obtain⟨y,rfl,hy,hb1,hn1⟩:=hq
      obtain⟨yo,yc,ey,-⟩:=hn1.here.lies.form
      rw [ey]
      have HEY:=hid (show y.cells = [.string y.name,.slice yo y.fields.length yc] by unfold Rc.cells;rw [ey])
      clear ey p0 p1
      have HO1:=hid ((hb1.block _ hlb).trans HS.out.row)
      have HRS:=hid (show k * 2+2≤R.size by rw [HS.out.rsize rcells_len (by omega)];omega)
      have HB1:=hid hb1
      have HN1:=hid hn1
      have HY:=hid hy
      clear hb1 hn1 hy
      obtain⟨NEW,hNEW⟩:∃ A:Array Value,A=R.extract 0 (k * 2) ++ (Rc.cells y).toArray ++ R.extract (k * 2+(Rc.cells y).toArray.size) R.size:=⟨_,rfl⟩
      have HNEW:=hid hNEW
      clear hNEW
      go_wp2_with (refine wpList_put_at rfl 49 (Operand.tmp 25) (Operand.tmp 24) rfl w.heap.size (k * 2) 49 R #[.string y.name,.slice yo y.fields.length yc] NEW rfl rfl HO1.out HRS.out (by kernel_rfl) (by simp [Value.oneCell']) (by rw [HNEW.out,HEY.out]) ?_)
      intro w2 hp
      obtain⟨rest2,hst⟩:=HS.out.step rcells_len (fun v B B2 a h q=>RIn.up h q) (by omega) HB1.out HN1.out HNEW.out hp
      have HST:=hid hst
      clear hst hp
      go_wp2_with fail
      go_roundw
      case rel=>exact⟨k+1,by omega,by go_num,hid ⟨_,_,rest2,by rw [Rc_bares_append,HSAME.out,HTK.out,Rc_bares_append,Rc_bares_one,Rc_bares_one,HY.out],HST.out⟩⟩
      case measure=>simp [intOf];omega
    · obtain rfl:N=k:=by omega
      have HM:=hid hS.marks
      have hsame2:Rc.bares l'=Rc.bares l:=by rw [hsame,List.take_of_length_le (by rw [← HN.out];exact Nat.le_refl _)]
      have HSAME:=hid hsame2
      have HTW:=hid (HT0.out.keeps hbw)
      clear hS hsame hsame2 hbw
      have HM1:=HM
      clear HM
      obtain⟨R1,hR1⟩:∃ A,A=R:=⟨_,rfl⟩
      rw [← hR1] at HM1
      clear hR1
      have HK1:=hid (fun w (hT:Tab w)=>markRecord_any N (by omega) w hT)
      have HK2:=hid (fun w (hT:Tab w)=>(show ((N+1:Nat):Int)=(N:Int)+1 by push_cast;rfl) ▸ markRecord_any (N+1) (by omega) w hT)
      go_wp2_with fail
      refine wp_loop_rounds 3 ?_
      rw [rounds_succ]
      go_wp2_with fail
      refine (HK1.out wr HTW.out).mono ?_;rintro e w1 ⟨rfl,hb1⟩
      have HO1:=hid ((hb1.block _ HM1.out.lt).trans HM1.out.row)
      have HR1:=hid (show N * 2+(markRecord N).toArray.size≤R1.size by rw [HM1.out.rsize rcells_len (by omega),List.size_toArray,markRecord_len];omega)
      have HB1:=hid hb1
      obtain⟨NEW1,hNEW1⟩:∃ A:Array Value,A=R1.extract 0 ((N+0) * 2) ++ (markRecord N).toArray ++ R1.extract ((N+0) * 2+(markRecord N).toArray.size) R1.size:=⟨_,rfl⟩
      have HNEW1:=hid hNEW1
      clear hNEW1 hb1
      go_wp2_with (refine wpList_put_at rfl 49 (Operand.tmp 44) (Operand.tmp 43) rfl w.heap.size (N * 2) 49 R1 (markRecord N).toArray NEW1 rfl rfl HO1.out HR1.out (by kernel_rfl) (markRecord_one N) HNEW1.out ?_)
      intro w2 hp2
      have HM2:=hid (HM1.out.step rcells_len (fun v B B2 a h q=>RIn.up h q) (by omega) (markRecord_len N) HB1.out HNEW1.out hp2)
      clear hp2
      go_wp2_with fail
      obtain⟨R2,hR2⟩:∃ A,A=NEW1:=⟨_,rfl⟩
      rw [← hR2] at HM2
      clear hR2
      rw [rounds_succ]
      go_wp2_with fail
      refine (HK2.out w2 (HT0.out.keeps HM2.out.below)).mono ?_;rintro e w3 ⟨rfl,hb3⟩
      have HO2:=hid ((hb3.block _ HM2.out.lt).trans HM2.out.row)
      have HR2:=hid (show (N+1) * 2+(markRecord (N+1)).toArray.size≤R2.size by rw [HM2.out.rsize rcells_len (by omega),List.size_toArray,markRecord_len];omega)
      have HB2:=hid hb3
      obtain⟨NEW2,hNEW2⟩:∃ A:Array Value,A=R2.extract 0 ((N+1) * 2) ++ (markRecord (N+1)).toArray ++ R2.extract ((N+1) * 2+(markRecord (N+1)).toArray.size) R2.size:=⟨_,rfl⟩
      have HNEW2:=hid hNEW2
      clear hNEW2 hb3
      go_wp2_with (refine wpList_put_at rfl 49 (Operand.tmp 44) (Operand.tmp 43) rfl w.heap.size ((N+1) * 2) 49 R2 (markRecord (N+1)).toArray NEW2 rfl rfl HO2.out HR2.out (by kernel_rfl) (markRecord_one (N+1)) HNEW2.out ?_)
      intro w4 hp4
      have HM3:=hid (HM2.out.step rcells_len (fun v B B2 a h q=>RIn.up h q) (by omega) (markRecord_len (N+1)) HB2.out HNEW2.out hp4)
      clear hp4
      go_wp2_with fail
      rw [rounds_succ]
      go_wp2_with fail
      go_ret
      exact⟨_,l',NEW2,markRecord N,markRecord (N+1),rfl,HSAME.out,HM3.out.done (markRecord_len N) (markRecord_len (N+1)) rfl rfl⟩
theorem twinFuncs_any (l:List Fn) (B:Nat) (v:Value) (w:World) (hL:LiesG Fn.cells 6 w B v l) (hI:∀ a ∈ l,NIn w B a) (hBw:B≤w.heap.size) (hsz:l.length+bodiesN l≤262144) (hT:Tab w) :
    Calls Tryz.prog 20 #[v] w (TwE Fn.cells 33 6 NIn l.length mkN (fun l'=>Fn.bares l'=Fn.bares l) w):=by
  have hsm:l.length≤262144:=by omega
  have ih:True:=trivial
  have hroom:=hL.room
  obtain⟨ao,cap,rfl,hlen,hgo⟩:=hL.form
  obtain⟨N,hN⟩:∃ N,N=l.length:=⟨_,rfl⟩
  have hNs:N≤262144:=by rw [hN];exact hsm
  obtain⟨i0,hi,hz0,hz1,hz2⟩:=info_parts twiN
  obtain⟨M,hM⟩:∃ M,M=madeCells (Value.cells (.agg #[.string ⟨#[]⟩,.slice none 0 0,.int .u8 0,.string ⟨#[]⟩,.int .i64 0,.slice none 0 0])) (((N:Int)+2).toNat * i0.size):=⟨_,rfl⟩
  have hMs:M.size=(N+2) * 6:=by rw [hM,size_madeCells,hz1];congr 1
  have hmk:(Instr.makeSlice 24 (.int .i64 (N:Int)) (.int .i64 ((N:Int)+2))).run Tryz.prog w = .ok (.slice (some ⟨w.heap.size,0,none⟩) N (N+2)) (w.alloc (.cells M 33)):=by
    have h:=run_make (P:=Tryz.prog) w 24 33 i0 (.agg #[.string ⟨#[]⟩,.slice none 0 0,.int .u8 0,.string ⟨#[]⟩,.int .i64 0,.slice none 0 0]) Tryz.underlying24 hi hz0 .i64 .i64 (N:Int) ((N:Int)+2) (by omega) (by omega) (by rw [hz2];omega) (by omega)
    rw [← hM,show ((N:Int)+2).toNat=N+2 by omega] at h
    simpa using h
  obtain⟨W0,hW0⟩:∃ W0,W0=w.alloc (.cells M 33):=⟨_,rfl⟩
  have hb0:Below w.heap.size w W0:=by rw [hW0];exact below_box w _
  have hlt0:w.heap.size < W0.heap.size:=by rw [hW0];simp
  have hS0:TwS Fn.cells 33 6 NIn w.heap.size N 0 w W0 [] M M.toList:=
    ⟨rfl,hb0,hlt0,by rw [hW0];exact (MapKept.heap_alloc _ _).1,by simp,by rw [Array.length_toList,hMs];rfl,fun a ha=>by cases ha⟩
  rw [← hN] at hlen hgo hL ⊢
  have HS0:=hid hS0
  have HW0:=hid hW0
  have HL:=hid hL
  have HIN:=hid hI
  have HG:=hid hgo
  have HN:=hid hN
  have HSM:=hid hsz
  have HT0:=hid hT
  have HIH:=hid ih
  clear hi hz0 hz1 hz2 hM hMs hb0 hS0 hW0 hL hI hgo hN hsz ih hroom hT
  rw [HW0.out.symm] at hmk
  go_enter Tryz.func20,Tryz.ntmps20
  go_wp2_with fail
  go_loopw [15] (fun i wr=>∃ k:Nat,k≤N∧i = .int .i64 k∧Hid (∃ l' R rest,Fn.bares l'=Fn.bares (l.take k)∧TwS Fn.cells 33 6 NIn w.heap.size N k w wr l' R rest)) (fun i _=>N - (intOf i).toNat)
  case atStart=>exact⟨0,by omega,rfl,hid ⟨[],M,M.toList,by rw [List.take_zero],HS0.out⟩⟩
  case round =>
    obtain⟨k,hkN,rfl,HR⟩:=hrel
    obtain⟨l',R,rest,hsame,hS⟩:=HR.out
    clear HR
    have hbw:=hS.below
    have hsw:=hbw.size
    have hlb:=hS.lt
    by_cases hlt2:k < N
    · have hpx:k < l.length:=by rw [← HN.out];exact hlt2
      obtain⟨g,off,rfl,hg⟩:=HG.out (by omega)
      have hat:=((HL.out.below (hbw.mono hBw)).at rfl k hpx).2
      have hma:=List.getElem_mem hpx
      have hIa:=(HIN.out _ hma).keeps (hbw.mono hBw)
      have htk:l.take (k+1)=l.take k ++ [l[k]]:=List.take_succ_eq_append_getElem hpx
      have hPa:=twinFunc_any l[k] B wr hIa (by omega) (by have:=bodiesN_le l _ hma;have:=HSM.out;omega) (HT0.out.keeps hbw)
      have p0:wr.cell? ⟨g,off+k * 6,none⟩ = some (.string l[k].name):=hat 0 _ rfl
      have p1:wr.cell? ⟨g,off+k * 6+1,none⟩ = some l[k].pv:=hat 1 l[k].pv rfl
      have p2:wr.cell? ⟨g,off+k * 6+2,none⟩ = some (.int .u8 l[k].res.k):=hat 2 _ rfl
      have p3:wr.cell? ⟨g,off+k * 6+3,none⟩ = some (.string l[k].res.n):=hat 3 _ rfl
      have p4:wr.cell? ⟨g,off+k * 6+4,none⟩ = some (.int .i64 l[k].res.z):=hat 4 _ rfl
      have p5:wr.cell? ⟨g,off+k * 6+5,none⟩ = some l[k].bv:=hat 5 l[k].bv rfl
      generalize l[k] = a at *
      obtain⟨fo,fc,ef,-⟩:=hIa.lies.form
      obtain⟨bo,bc,eb,-⟩:=hIa.blies.form
      rw [ef] at p1 hPa
      rw [eb] at p5 hPa
      have HPA:=hid hPa
      have HS:=hid hS
      have HTK:=hid htk
      have HSAME:=hid hsame
      have hgs:g < wr.heap.size:=by omega
      clear hat hma hIa hPa htk hS hsame hbw ef eb
      go_wp2_with fail
      refine HPA.out.mono ?_;intro e w1 hq
      obtain⟨y,rfl,hy,hb1,hn1⟩:=hq
      obtain⟨yo,yc,ey,-⟩:=hn1.here.lies.form
      obtain⟨zo,zc,ez,-⟩:=hn1.here.blies.form
      rw [ey,ez]
      have HEY:=hid (show y.cells = [.string y.name,.slice yo y.params.length yc,.int .u8 y.res.k,.string y.res.n,.int .i64 y.res.z,.slice zo y.body.length zc] by unfold Fn.cells;rw [ey,ez])
      clear ey ez p0 p1 p2 p3 p4 p5
      have HO1:=hid ((hb1.block _ hlb).trans HS.out.row)
      have HRS:=hid (show k * 6+6≤R.size by rw [HS.out.rsize ncells_len (by omega)];omega)
      have HB1:=hid hb1
      have HN1:=hid hn1
      have HY:=hid hy
      clear hb1 hn1 hy
      obtain⟨NEW,hNEW⟩:∃ A:Array Value,A=R.extract 0 (k * 6) ++ (Fn.cells y).toArray ++ R.extract (k * 6+(Fn.cells y).toArray.size) R.size:=⟨_,rfl⟩
      have HNEW:=hid hNEW
      clear hNEW
      go_wp2_with (refine wpList_put_at rfl 33 (Operand.tmp 25) (Operand.tmp 24) rfl w.heap.size (k * 6) 33 R #[.string y.name,.slice yo y.params.length yc,.int .u8 y.res.k,.string y.res.n,.int .i64 y.res.z,.slice zo y.body.length zc] NEW rfl rfl HO1.out HRS.out (by kernel_rfl) (by simp [Value.oneCell']) (by rw [HNEW.out,HEY.out]) ?_)
      intro w2 hp
      obtain⟨rest2,hst⟩:=HS.out.step ncells_len (fun v B B2 a h q=>NIn.up h q) (by omega) HB1.out HN1.out HNEW.out hp
      have HST:=hid hst
      clear hst hp
      go_wp2_with fail
      go_roundw
      case rel=>exact⟨k+1,by omega,by go_num,hid ⟨_,_,rest2,by rw [Fn_bares_append,HSAME.out,HTK.out,Fn_bares_append,Fn_bares_one,Fn_bares_one,HY.out],HST.out⟩⟩
      case measure=>simp [intOf];omega
    · obtain rfl:N=k:=by omega
      have HM:=hid hS.marks
      have hsame2:Fn.bares l'=Fn.bares l:=by rw [hsame,List.take_of_length_le (by rw [← HN.out];exact Nat.le_refl _)]
      have HSAME:=hid hsame2
      have HTW:=hid (HT0.out.keeps hbw)
      clear hS hsame hsame2 hbw
      have HM1:=HM
      clear HM
      obtain⟨R1,hR1⟩:∃ A,A=R:=⟨_,rfl⟩
      rw [← hR1] at HM1
      clear hR1
      have HK1:=hid (fun w (hT:Tab w)=>markFunc_any N (by omega) w hT)
      have HK2:=hid (fun w (hT:Tab w)=>(show ((N+1:Nat):Int)=(N:Int)+1 by push_cast;rfl) ▸ markFunc_any (N+1) (by omega) w hT)
      go_wp2_with fail
      refine wp_loop_rounds 3 ?_
      rw [rounds_succ]
      go_wp2_with fail
      refine (HK1.out wr HTW.out).mono ?_;rintro e w1 ⟨rfl,hb1⟩
      have HO1:=hid ((hb1.block _ HM1.out.lt).trans HM1.out.row)
      have HR1:=hid (show N * 6+(markFunc N).toArray.size≤R1.size by rw [HM1.out.rsize ncells_len (by omega),List.size_toArray,markFunc_len];omega)
      have HB1:=hid hb1
      obtain⟨NEW1,hNEW1⟩:∃ A:Array Value,A=R1.extract 0 ((N+0) * 6) ++ (markFunc N).toArray ++ R1.extract ((N+0) * 6+(markFunc N).toArray.size) R1.size:=⟨_,rfl⟩
      have HNEW1:=hid hNEW1
      clear hNEW1 hb1
      go_wp2_with (refine wpList_put_at rfl 33 (Operand.tmp 44) (Operand.tmp 43) rfl w.heap.size (N * 6) 33 R1 (markFunc N).toArray NEW1 rfl rfl HO1.out HR1.out (by kernel_rfl) (markFunc_one N) HNEW1.out ?_)
      intro w2 hp2
      have HM2:=hid (HM1.out.step ncells_len (fun v B B2 a h q=>NIn.up h q) (by omega) (markFunc_len N) HB1.out HNEW1.out hp2)
      clear hp2
      go_wp2_with fail
      obtain⟨R2,hR2⟩:∃ A,A=NEW1:=⟨_,rfl⟩
      rw [← hR2] at HM2
      clear hR2
      rw [rounds_succ]
      go_wp2_with fail
      refine (HK2.out w2 (HT0.out.keeps HM2.out.below)).mono ?_;rintro e w3 ⟨rfl,hb3⟩
      have HO2:=hid ((hb3.block _ HM2.out.lt).trans HM2.out.row)
      have HR2:=hid (show (N+1) * 6+(markFunc (N+1)).toArray.size≤R2.size by rw [HM2.out.rsize ncells_len (by omega),List.size_toArray,markFunc_len];omega)
      have HB2:=hid hb3
      obtain⟨NEW2,hNEW2⟩:∃ A:Array Value,A=R2.extract 0 ((N+1) * 6) ++ (markFunc (N+1)).toArray ++ R2.extract ((N+1) * 6+(markFunc (N+1)).toArray.size) R2.size:=⟨_,rfl⟩
      have HNEW2:=hid hNEW2
      clear hNEW2 hb3
      go_wp2_with (refine wpList_put_at rfl 33 (Operand.tmp 44) (Operand.tmp 43) rfl w.heap.size ((N+1) * 6) 33 R2 (markFunc (N+1)).toArray NEW2 rfl rfl HO2.out HR2.out (by kernel_rfl) (markFunc_one (N+1)) HNEW2.out ?_)
      intro w4 hp4
      have HM3:=hid (HM2.out.step ncells_len (fun v B B2 a h q=>NIn.up h q) (by omega) (markFunc_len (N+1)) HB2.out HNEW2.out hp4)
      clear hp4
      go_wp2_with fail
      rw [rounds_succ]
      go_wp2_with fail
      go_ret
      exact⟨_,l',NEW2,markFunc N,markFunc (N+1),rfl,HSAME.out,HM3.out.done (markFunc_len N) (markFunc_len (N+1)) rfl rfl⟩
end Go.Proofs.YtdhieihcmnpneaaGreatDoor
/- Copies of the threads' lists. -/
namespace Go.Proofs.YtdhieihcmnpneaaGreatDoor
open Lib (hid)
set_option maxRecDepth 100000
set_option maxHeartbeats 8000000
open Go.RowKit Go.Joins
theorem twiT:(Tryz.prog.info? 31).map (fun i=>(i.zero,i.size,i.bytes))=some (some (.slice none 0 0),1,24):=by kernel_rfl
theorem twiTS:(Tryz.prog.info? 64).map (fun i=>(i.zero,i.size,i.bytes))=some (some (.agg #[.int .u8 0,.string ⟨#[]⟩,.int .u8 0,.string ⟨#[]⟩,.int .i64 0,.int .u8 0,.int .i64 0,.string ⟨#[]⟩,.int .u8 0,.string ⟨#[]⟩,.int .i64 0,.slice none 0 0,.int .u8 0,.int .i64 0,.string ⟨#[]⟩,.int .u8 0,.string ⟨#[]⟩,.int .i64 0,.slice none 0 0,.slice none 0 0,.slice none 0 0]),21,280):=by kernel_rfl
theorem tcells_len (a:Th):(Th.cells a).length=1:=rfl
def Th.bares (l:List Th):List Th:=l.map Th.bare
theorem Th_bares_append (a b:List Th):Th.bares (a ++ b)=Th.bares a ++ Th.bares b:=List.map_append
theorem Th_bares_one (a:Th):Th.bares [a] = [a.bare]:=rfl
def TInC (w:World) (B:Nat) (t:Th):Prop:=TIn w B t∧∃ ao c,t.v = .slice ao t.list.length c∧t.list.length≤c
theorem TInC.up {w:World} {B B':Nat} {t:Th} (hB:B≤B') (h:TInC w B t):TInC w B' t:=⟨h.1.up hB,h.2⟩
def mkT (n:Nat) (t:List Value):Prop:=∃ b,t = [.slice (some ⟨b,0,none⟩) (1+n % 40) (1+n % 40)]
theorem listsN_le (l:List Th) (a:Th) (h:a ∈ l):St.wts a.list≤listsN l:=by
  induction l with
  | nil=>cases h
  | cons b r ih =>
    rw [listsN]
    rcases List.mem_cons.1 h with rfl|h
    · omega
    · have:=ih h;omega
theorem put_one {w:World} {b o:Nat} {v:Value} {T:TypeId} {R new:Array Value} (h:w.heap[b]? = some (.cells R T (0,0))) (ho:o < R.size) (hnew:new=R.extract 0 (o * 1) ++ #[v] ++ R.extract (o * 1+(#[v]:Array Value).size) R.size):Put b (.cells new T (0,0)) w (w.setCell ⟨b,o,none⟩ v):=by
  have e:new=R.setIfInBounds o v:=by
    rw [hnew,Nat.mul_one]
    apply Array.toList_inj.1
    rw [Array.toList_setIfInBounds,List.set_eq_take_append_cons_drop,if_pos (by rw [Array.length_toList];exact ho),Array.toList_append,Array.toList_append,Array.toList_extract,Array.toList_extract]
    simp [List.extract]
    rw [List.take_of_length_le (by rw [List.length_drop,Array.length_toList];exact Nat.le_refl _)]
  rw [e]
  exact put_cell h
def RowE (n:Nat) (w:World) (e:Ending) (w':World):Prop:=∃ b,e = .returned (.slice (some ⟨b,0,none⟩) (1+n % 40) (1+n % 40))∧Below w.heap.size w w'
theorem markRow_any (n:Nat) (h1:n≤1000000) (w:World):Calls Tryz.prog 39 #[.int .i64 (n:Int)] w (RowE n w):=by
  obtain⟨i0,hi,hz0,hz1,hz2⟩:=info_parts twiTS
  obtain⟨m,hm⟩:∃ m,m=1+n % 40:=⟨_,rfl⟩
  have hm0:m≤40:=by omega
  obtain⟨M,hM⟩:∃ M,M=madeCells (Value.cells (.agg #[.int .u8 0,.string ⟨#[]⟩,.int .u8 0,.string ⟨#[]⟩,.int .i64 0,.int .u8 0,.int .i64 0,.string ⟨#[]⟩,.int .u8 0,.string ⟨#[]⟩,.int .i64 0,.slice none 0 0,.int .u8 0,.int .i64 0,.string ⟨#[]⟩,.int .u8 0,.string ⟨#[]⟩,.int .i64 0,.slice none 0 0,.slice none 0 0,.slice none 0 0])) ((m:Int).toNat * i0.size):=⟨_,rfl⟩
  have hmk:(Instr.makeSlice 31 (.int .i64 (m:Int)) (.int .i64 (m:Int))).run Tryz.prog w = .ok (.slice (some ⟨w.heap.size,0,none⟩) m m) (w.alloc (.cells M 64)):=by
    have h:=run_make (P:=Tryz.prog) w 31 64 i0 (.agg #[.int .u8 0,.string ⟨#[]⟩,.int .u8 0,.string ⟨#[]⟩,.int .i64 0,.int .u8 0,.int .i64 0,.string ⟨#[]⟩,.int .u8 0,.string ⟨#[]⟩,.int .i64 0,.slice none 0 0,.int .u8 0,.int .i64 0,.string ⟨#[]⟩,.int .u8 0,.string ⟨#[]⟩,.int .i64 0,.slice none 0 0,.slice none 0 0,.slice none 0 0]) Tryz.underlying31 hi hz0 .i64 .i64 (m:Int) (m:Int) (by omega) (by omega) (by rw [hz2];omega) (by omega)
    rw [← hM,show (m:Int).toNat=m by omega] at h
    exact h
  have hme:(1:Int)+(n:Int) % 40=(m:Int):=by omega
  rw [← hme] at hmk
  have HM:=hid hm
  have HB:=hid (below_box w (.cells M 64))
  have hb0:0≤(n:Int) % 40:=by omega
  have hb1:(n:Int) % 40 < 40:=by omega
  clear hi hz0 hz1 hz2 hm hM hme
  go_enter Tryz.func39,Tryz.ntmps39
  go_wp2_with fail
  go_ret
  exact⟨w.heap.size,by rw [← HM.out];rfl,HB.out⟩
theorem twinRows_any (l:List Th) (B:Nat) (v:Value) (w:World) (hL:LiesG Th.cells 1 w B v l) (hI:∀ a ∈ l,TIn w B a) (hBw:B≤w.heap.size) (hsz:l.length+listsN l≤262144) (hT:Tab w) :
    Calls Tryz.prog 21 #[v] w (TwE Th.cells 31 1 TInC l.length mkT (fun l'=>Th.bares l'=Th.bares l) w):=by
  have hsm:l.length≤262144:=by omega
  have ih:True:=trivial
  have hroom:=hL.room
  obtain⟨ao,cap,rfl,hlen,hgo⟩:=hL.form
  obtain⟨N,hN⟩:∃ N,N=l.length:=⟨_,rfl⟩
  have hNs:N≤262144:=by rw [hN];exact hsm
  obtain⟨i0,hi,hz0,hz1,hz2⟩:=info_parts twiT
  obtain⟨M,hM⟩:∃ M,M=madeCells (Value.cells (.slice none 0 0)) (((N:Int)+2).toNat * i0.size):=⟨_,rfl⟩
  have hMs:M.size=(N+2) * 1:=by rw [hM,size_madeCells,hz1];congr 1
  have hmk:(Instr.makeSlice 25 (.int .i64 (N:Int)) (.int .i64 ((N:Int)+2))).run Tryz.prog w = .ok (.slice (some ⟨w.heap.size,0,none⟩) N (N+2)) (w.alloc (.cells M 31)):=by
    have h:=run_make (P:=Tryz.prog) w 25 31 i0 (.slice none 0 0) Tryz.underlying25 hi hz0 .i64 .i64 (N:Int) ((N:Int)+2) (by omega) (by omega) (by rw [hz2];omega) (by omega)
    rw [← hM,show ((N:Int)+2).toNat=N+2 by omega] at h
    simpa using h
  obtain⟨W0,hW0⟩:∃ W0,W0=w.alloc (.cells M 31):=⟨_,rfl⟩
  have hb0:Below w.heap.size w W0:=by rw [hW0];exact below_box w _
  have hlt0:w.heap.size < W0.heap.size:=by rw [hW0];simp
  have hS0:TwS Th.cells 31 1 TInC w.heap.size N 0 w W0 [] M M.toList:=
    ⟨rfl,hb0,hlt0,by rw [hW0];exact (MapKept.heap_alloc _ _).1,by simp,by rw [Array.length_toList,hMs];rfl,fun a ha=>by cases ha⟩
  rw [← hN] at hlen hgo hL ⊢
  have HS0:=hid hS0
  have HW0:=hid hW0
  have HL:=hid hL
  have HIN:=hid hI
  have HG:=hid hgo
  have HN:=hid hN
  have HSM:=hid hsz
  have HT0:=hid hT
  have HIH:=hid ih
  clear hi hz0 hz1 hz2 hM hMs hb0 hS0 hW0 hL hI hgo hN hsz ih hroom hT
  rw [HW0.out.symm] at hmk
  go_enter Tryz.func21,Tryz.ntmps21
  go_wp2_with fail
  go_loopw [15] (fun i wr=>∃ k:Nat,k≤N∧i = .int .i64 k∧Hid (∃ l' R rest,Th.bares l'=Th.bares (l.take k)∧TwS Th.cells 31 1 TInC w.heap.size N k w wr l' R rest)) (fun i _=>N - (intOf i).toNat)
  case atStart=>exact⟨0,by omega,rfl,hid ⟨[],M,M.toList,by rw [List.take_zero],HS0.out⟩⟩
  case round =>
    obtain⟨k,hkN,rfl,HR⟩:=hrel
    obtain⟨l',R,rest,hsame,hS⟩:=HR.out
    clear HR
    have hbw:=hS.below
    have hsw:=hbw.size
    have hlb:=hS.lt
    by_cases hlt2:k < N
    · have hpx:k < l.length:=by rw [← HN.out];exact hlt2
      obtain⟨g,off,rfl,hg⟩:=HG.out (by omega)
      have hat:=((HL.out.below (hbw.mono hBw)).at rfl k hpx).2
      have hma:=List.getElem_mem hpx
      have hIa:=(HIN.out _ hma).keeps (hbw.mono hBw)
      have htk:l.take (k+1)=l.take k ++ [l[k]]:=List.take_succ_eq_append_getElem hpx
      have hroomk:=(HIN.out _ hma).lies.room
      have hPa:=twinStmts_all l[k].list B l[k].v wr hIa.lies hIa.list (by omega) (by have:=listsN_le l _ hma;have:=HSM.out;omega) (HT0.out.keeps hbw)
      have p0:wr.cell? ⟨g,off+k * 1,none⟩ = some l[k].v:=hat 0 _ rfl
      rw [Nat.mul_one] at p0
      generalize l[k] = a at *
      obtain⟨fo,fc,ef,-⟩:=hIa.lies.form
      rw [ef] at p0 hPa
      have HPA:=hid hPa
      have HS:=hid hS
      have HTK:=hid htk
      have HSAME:=hid hsame
      have hgs:g < wr.heap.size:=by omega
      clear hat hma hIa hPa htk hS hsame hbw ef
      go_wp2_with fail
      refine HPA.out.mono ?_;intro e w1 hq
      obtain⟨v1,y',R1,u1,u2,rfl,hys,hT1⟩:=hq
      have hv1:=hT1.val
      have hb1:=hT1.below
      obtain⟨y,hyy⟩:∃ y:Th,y=⟨v1,y'⟩:=⟨_,rfl⟩
      have hy:y.bare=a.bare:=by rw [hyy];unfold Th.bare;rw [hys]
      have hn1:NewW wr.heap.size w1 fun u=>TInC u w1.heap.size y:=fun u hu=>by rw [hyy];exact⟨⟨hT1.lies scells_len hroomk u hu,fun a ha=>hT1.all a ha u hu⟩,some ⟨wr.heap.size,0,none⟩,y'.length+2,by show v1 = .slice _ y'.length _;rw [hv1,hT1.len],by show y'.length≤y'.length+2;omega⟩
      have hey:y.cells = [v1]:=by rw [hyy];rfl
      rw [hv1] at hey ⊢
      have HEY:=hid hey
      clear p0 hey hv1 hys hT1 hyy
      have HO1:=hid ((hb1.block _ hlb).trans HS.out.row)
      have HRS:=hid (show k * 1+1≤R.size by rw [HS.out.rsize tcells_len (by omega)];omega)
      have HB1:=hid hb1
      have HN1:=hid hn1
      have HY:=hid hy
      clear hb1 hn1 hy
      have hO1:=HO1.out
      obtain⟨NEW,hNEW⟩:∃ A:Array Value,A=R.extract 0 (k * 1) ++ (Th.cells y).toArray ++ R.extract (k * 1+(Th.cells y).toArray.size) R.size:=⟨_,rfl⟩
      have hrk:k < R.size:=by have:=HRS.out;omega
      have hck:w1.cell? ⟨w.heap.size,k,none⟩ = some R[k]:=by rw [Lib.cell_of_heap hO1,Array.getElem?_eq_getElem hrk]
      have hfk:=Lib.frozen_of_heap hO1 k
      have hp:=put_one (v:=.slice (some ⟨wr.heap.size,0,none⟩) a.list.length (a.list.length+2)) (new:=NEW) hO1 hrk (by rw [hNEW,HEY.out])
      have HNEW:=hid hNEW
      have HP:=hid hp
      clear hNEW hO1 hp
      obtain⟨rest2,hst⟩:=HS.out.step tcells_len (fun v B B2 a h q=>TInC.up h q) (by omega) HB1.out HN1.out HNEW.out HP.out
      have HST:=hid hst
      clear hst
      go_wp2_with fail
      go_roundw
      case rel=>exact⟨k+1,by omega,by go_num,hid ⟨_,_,rest2,by rw [Th_bares_append,HSAME.out,HTK.out,Th_bares_append,Th_bares_one,Th_bares_one,HY.out],HST.out⟩⟩
      case measure=>simp [intOf];omega
    · obtain rfl:N=k:=by omega
      have HM1:=hid hS.marks
      have hsame2:Th.bares l'=Th.bares l:=by rw [hsame,List.take_of_length_le (by rw [← HN.out];exact Nat.le_refl _)]
      have HSAME:=hid hsame2
      have HK2:=hid (fun w=>(show ((N+1:Nat):Int)=(N:Int)+1 by push_cast;rfl) ▸ markRow_any (N+1) (by omega) w)
      have HK1:=hid (fun w=>markRow_any N (by omega) w)
      obtain⟨R1,hR1⟩:∃ A,A=R:=⟨_,rfl⟩
      rw [← hR1] at HM1
      clear hR1 hS hsame hsame2 hbw
      go_wp2_with fail
      refine wp_loop_rounds 3 ?_
      rw [rounds_succ]
      go_wp2_with fail
      refine (HK1.out wr).mono ?_;intro e w1 hq
      obtain⟨b1,rfl,hb1⟩:=hq
      have hO1:=(hb1.block _ HM1.out.lt).trans HM1.out.row
      have hrk1:N < R1.size:=by rw [HM1.out.rsize tcells_len (by omega)];omega
      have hck1:w1.cell? ⟨w.heap.size,N,none⟩ = some (R1[N]):=by rw [Lib.cell_of_heap hO1,Array.getElem?_eq_getElem hrk1]
      have hfk1:=Lib.frozen_of_heap hO1 (N)
      obtain⟨V1,hV1⟩:∃ V:Value,V = .slice (some ⟨b1,0,none⟩) (1+N % 40) (1+N % 40):=⟨_,rfl⟩
      obtain⟨NEW1,hNEW1⟩:∃ A:Array Value,A=R1.extract 0 ((N+0) * 1) ++ ([V1]:List Value).toArray ++ R1.extract ((N+0) * 1+([V1]:List Value).toArray.size) R1.size:=⟨_,rfl⟩
      have hp1:=put_one (v:=V1) (new:=NEW1) hO1 hrk1 hNEW1
      obtain⟨w2,hw2⟩:∃ u,u=w1.setCell ⟨w.heap.size,N,none⟩ V1:=⟨_,rfl⟩
      rw [← hw2] at hp1
      rw [hV1] at hw2
      have HM2:=hid (HM1.out.step tcells_len (fun v B B2 a h q=>TInC.up h q) (by omega) (show ([V1]:List Value).length=1 from rfl) hb1 hNEW1 hp1)
      have HV1:=hid hV1
      have HW1:=hid hw2
      clear hb1 hO1 hV1 hNEW1 hp1 hw2
      go_wp2_with fail
      rw [← HW1.out]
      obtain⟨R2,hR2⟩:∃ A,A=NEW1:=⟨_,rfl⟩
      rw [← hR2] at HM2
      clear hR2 hrk1 hck1 hfk1
      rw [rounds_succ]
      go_wp2_with fail
      refine (HK2.out w2).mono ?_;intro e w3 hq
      obtain⟨b2,rfl,hb2⟩:=hq
      have hO2:=(hb2.block _ HM2.out.lt).trans HM2.out.row
      have hrk2:N+1 < R2.size:=by rw [HM2.out.rsize tcells_len (by omega)];omega
      have hck2:w3.cell? ⟨w.heap.size,N+1,none⟩ = some (R2[N+1]):=by rw [Lib.cell_of_heap hO2,Array.getElem?_eq_getElem hrk2]
      have hfk2:=Lib.frozen_of_heap hO2 (N+1)
      obtain⟨V2,hV2⟩:∃ V:Value,V = .slice (some ⟨b2,0,none⟩) (1+(N+1) % 40) (1+(N+1) % 40):=⟨_,rfl⟩
      obtain⟨NEW2,hNEW2⟩:∃ A:Array Value,A=R2.extract 0 ((N+1) * 1) ++ ([V2]:List Value).toArray ++ R2.extract ((N+1) * 1+([V2]:List Value).toArray.size) R2.size:=⟨_,rfl⟩
      have hp2:=put_one (v:=V2) (new:=NEW2) hO2 hrk2 hNEW2
      obtain⟨w4,hw4⟩:∃ u,u=w3.setCell ⟨w.heap.size,N+1,none⟩ V2:=⟨_,rfl⟩
      rw [← hw4] at hp2
      rw [hV2] at hw4
      have HM3:=hid (HM2.out.step tcells_len (fun v B B2 a h q=>TInC.up h q) (by omega) (show ([V2]:List Value).length=1 from rfl) hb2 hNEW2 hp2)
      have HV2:=hid hV2
      have HW2:=hid hw4
      clear hb2 hO2 hV2 hNEW2 hp2 hw4
      go_wp2_with fail
      rw [← HW2.out]
      rw [rounds_succ]
      go_wp2_with fail
      go_ret
      exact⟨_,l',NEW2,[V1],[V2],rfl,HSAME.out,HM3.out.done rfl rfl ⟨b1,by rw [HV1.out]⟩ ⟨b2,by rw [HV2.out]⟩⟩
end Go.Proofs.YtdhieihcmnpneaaGreatDoor
/- Copies of programs. -/
namespace Go.Proofs.YtdhieihcmnpneaaGreatDoor
open Lib (hid)
set_option maxRecDepth 100000
set_option maxHeartbeats 8000000
open Go.RowKit Go.Joins
structure ButF (u:World) (B:Nat) (Q:Pr):Prop where
  rlies:LiesG Rc.cells 2 u B Q.e.rv Q.e.records
  records:∀ a ∈ Q.e.records,RIn u B a
  slies:LiesG Fd.cells 4 u B Q.e.sv Q.e.shared
  shared:∀ a ∈ Q.e.shared,FdOk a
  funcs:∀ a ∈ Q.e.funcs,NIn u B a
  tlies:LiesG Th.cells 1 u B Q.tv Q.threads
  threads:∀ a ∈ Q.threads,TIn u B a
structure TwP (P:Pr) (w w':World) (Q:Pr):Prop where
  bare:Q.bare=P.bare
  below:Below w.heap.size w w'
  recs:∃ a b R t1 t2,TwL Rc.cells 49 2 RIn P.e.records.length mkR a b Q.e.rv Q.e.records R t1 t2∧w.heap.size < a.heap.size∧Kept a.heap.size b w'
  shared:∃ a b R t1 t2,TwL Fd.cells 57 4 InF P.e.shared.length mkF a b Q.e.sv Q.e.shared R t1 t2∧w.heap.size < a.heap.size∧Kept a.heap.size b w'
  funcs:∃ a b R t1 t2,TwL Fn.cells 33 6 NIn P.e.funcs.length mkN a b Q.e.fv Q.e.funcs R t1 t2∧w.heap.size < a.heap.size∧Kept a.heap.size b w'∧b.heap.size≤w'.heap.size
  threads:∃ a b R t1 t2,TwL Th.cells 31 1 TInC P.threads.length mkT a b Q.tv Q.threads R t1 t2∧w.heap.size < a.heap.size∧Kept a.heap.size b w'
  new:NewW (w.heap.size+1) w' fun u=>PIn u w'.heap.size Q
  split:∃ ta R t1 t2,Q.tv = .slice (some ⟨ta,0,none⟩) P.threads.length (P.threads.length+2)∧Q.threads.length=P.threads.length∧w.heap.size < ta∧ta < w'.heap.size∧w'.heap[ta]? = some (.cells R 31 (0,0))∧R.toList=Q.threads.flatMap Th.cells ++ (t1 ++ t2) ∧
    (∀ u:World,(∀ g,w.heap.size < g→g < ta→u.heap[g]? = w'.heap[g]?)→EIn u w'.heap.size Q.e)∧(∀ t ∈ Q.threads,∀ u:World,(∀ g,ta < g→g < w'.heap.size→u.heap[g]? = w'.heap[g]?)→TInC u w'.heap.size t)
  fsplit:∃ fa R t1 t2,Q.e.fv = .slice (some ⟨fa,0,none⟩) P.e.funcs.length (P.e.funcs.length+2)∧Q.e.funcs.length=P.e.funcs.length∧w.heap.size < fa∧fa < w'.heap.size∧w'.heap[fa]? = some (.cells R 33 (0,0))∧R.toList=Q.e.funcs.flatMap Fn.cells ++ (t1 ++ t2)∧t1.length=6∧t2.length=6 ∧
    ∀ u:World,(∀ g,w.heap.size < g→g < w'.heap.size→g ≠ fa→u.heap[g]? = w'.heap[g]?)→ButF u w'.heap.size Q
def TwPE (P:Pr) (w:World) (e:Ending) (w':World):Prop:=∃ Q:Pr,e = .returned (.agg #[Q.e.rv,Q.e.sv,Q.e.fv,Q.tv])∧TwP P w w' Q
theorem twinProgram_any (P:Pr) (B:Nat) (w:World) (hI:PIn w B P) (hBw:B≤w.heap.size) (hsz:sizeP P≤262144) (hT:Tab w) :
    Calls Tryz.prog 8 #[.agg #[P.e.rv,P.e.sv,P.e.fv,P.tv]] w (TwPE P w):=by
  unfold sizeP at hsz
  obtain⟨ro,rc,er,-⟩:=hI.e.rlies.form
  obtain⟨so,sc,es,-⟩:=hI.e.slies.form
  obtain⟨fo,fc,ef,-⟩:=hI.e.flies.form
  obtain⟨to,tc,et,-⟩:=hI.tlies.form
  have HK1:=hid (fun (u:World) (hu:Below w.heap.size w u)=>twinRecords_any P.e.records B P.e.rv u (hI.e.rlies.below (hu.mono hBw)) (fun a ha=>(hI.e.records a ha).keeps (hu.mono hBw)) (by have:=hu.size;omega) (by omega) (hT.keeps hu))
  have HK2:=hid (fun (u:World) (hu:Below w.heap.size w u)=>twinFields_any P.e.shared B P.e.sv u (hI.e.slies.below (hu.mono hBw)) hI.e.shared (by have:=hu.size;omega) (by omega) (hT.keeps hu))
  have HK3:=hid (fun (u:World) (hu:Below w.heap.size w u)=>twinFuncs_any P.e.funcs B P.e.fv u (hI.e.flies.below (hu.mono hBw)) (fun a ha=>(hI.e.funcs a ha).keeps (hu.mono hBw)) (by have:=hu.size;omega) (by omega) (hT.keeps hu))
  have HK4:=hid (fun (u:World) (hu:Below w.heap.size w u)=>twinRows_any P.threads B P.tv u (hI.tlies.below (hu.mono hBw)) (fun a ha=>(hI.threads a ha).keeps (hu.mono hBw)) (by have:=hu.size;omega) (by omega) (hT.keeps hu))
  have m1:=hI.e.rlies.room
  have m2:=hI.e.slies.room
  have m3:=hI.e.flies.room
  have m4:=hI.tlies.room
  have HSH:=hid hI.e.shared
  rw [er] at HK1
  rw [es] at HK2
  rw [ef] at HK3
  rw [et] at HK4
  rw [er,es,ef,et]
  obtain⟨N1,hN1⟩:∃ N,N=P.e.records.length:=⟨_,rfl⟩
  obtain⟨N2,hN2⟩:∃ N,N=P.e.shared.length:=⟨_,rfl⟩
  obtain⟨N3,hN3⟩:∃ N,N=P.e.funcs.length:=⟨_,rfl⟩
  obtain⟨N4,hN4⟩:∃ N,N=P.threads.length:=⟨_,rfl⟩
  rw [← hN1] at HK1 m1
  rw [← hN2] at HK2 m2
  rw [← hN3] at HK3 m3
  rw [← hN4] at HK4 m4
  rw [← hN1,← hN2,← hN3,← hN4]
  have HN:=hid (And.intro hN1 (And.intro hN2 (And.intro hN3 hN4)))
  obtain⟨W2,hW2⟩:∃ W2,W2=(w.alloc (.cells #[.slice ro N1 rc,.slice so N2 sc,.slice fo N3 fc,.slice to N4 tc] 27)).alloc (.cells #[.slice none 0 0,.slice none 0 0,.slice none 0 0,.slice none 0 0] 27):=⟨_,rfl⟩
  have hb1:=below_box w (.cells #[.slice ro N1 rc,.slice so N2 sc,.slice fo N3 fc,.slice to N4 tc] 27)
  have hb2:Below w.heap.size w W2:=by rw [hW2];exact hb1.alloc (by simp) _
  have hz2:W2.heap.size=w.heap.size+2:=by rw [hW2];simp
  have hO2:W2.heap[w.heap.size]? = some (.cells #[.slice ro N1 rc,.slice so N2 sc,.slice fo N3 fc,.slice to N4 tc] 27 (0,0)):=by
    rw [hW2,Below.heap_alloc _ _ _ (by simp)];exact (MapKept.heap_alloc _ _).1
  have hP2:W2.heap[w.heap.size+1]? = some (.cells #[.slice none 0 0,.slice none 0 0,.slice none 0 0,.slice none 0 0] 27 (0,0)):=by
    rw [hW2];have:=(MapKept.heap_alloc (w.alloc (.cells #[.slice ro N1 rc,.slice so N2 sc,.slice fo N3 fc,.slice to N4 tc] 27)) (.cells #[.slice none 0 0,.slice none 0 0,.slice none 0 0,.slice none 0 0] 27)).1;simpa using this
  have c0:W2.cell? ⟨w.heap.size,0,none⟩ = some (.slice ro N1 rc):=by rw [Lib.cell_of_heap hO2];rfl
  have hK:=HK1.out W2 hb2
  rw [hW2] at c0
  have HK:=hid hK
  have HZ2:=hid hz2
  have HW2:=hid hW2
  have HB2:=hid hb2
  have HO2:=hid hO2
  have HP2:=hid hP2
  clear hW2 hb1 hb2 hz2 hO2 hP2 hK hI hT hsz er es ef et hN1 hN2 hN3 hN4 HK1
  go_enter Tryz.func8,Tryz.ntmps8
  go_wp2_with fail
  rw [← HW2.out]
  refine HK.out.mono ?_;intro e w3 hq
  obtain⟨v1,l1,R1,t1a,t1b,rfl,hs1,hT1⟩:=hq
  have hv1:=hT1.val
  subst hv1
  have hb1:=hT1.below
  have hz1:=hb1.size
  have hO1:=(hb1.block w.heap.size (by have:=HZ2.out;omega)).trans HO2.out
  have HP3:=hid ((hb1.block (w.heap.size+1) (by have:=HZ2.out;omega)).trans HP2.out)
  have HB3:=hid (HB2.out.trans (hb1.mono (by have:=HZ2.out;omega)))
  have d0:w3.cell? ⟨w.heap.size,0,none⟩ = some (.slice ro N1 rc):=by rw [Lib.cell_of_heap hO1];rfl
  have d1:w3.cell? ⟨w.heap.size,1,none⟩ = some (.slice so N2 sc):=by rw [Lib.cell_of_heap hO1];rfl
  have d2:w3.cell? ⟨w.heap.size,2,none⟩ = some (.slice fo N3 fc):=by rw [Lib.cell_of_heap hO1];rfl
  have d3:w3.cell? ⟨w.heap.size,3,none⟩ = some (.slice to N4 tc):=by rw [Lib.cell_of_heap hO1];rfl
  have f1:=Lib.frozen_of_heap hO1 0
  have hsz1:w.heap.size+1 < w3.heap.size:=by have:=HZ2.out;omega
  have hp1:=put_cell (o:=0) (v:=.slice (some ⟨W2.heap.size,0,none⟩) N1 (N1+2)) hO1
  have HPC1:=hid hp1
  have HT1:=hid hT1
  have HS1:=hid hs1
  clear hb1 hO1 hp1 hT1 hs1 c0
  go_wp2_with fail
  obtain⟨w4,hw1⟩:∃ u,u=w3.setCell ⟨w.heap.size,0,none⟩ (.slice (some ⟨W2.heap.size,0,none⟩) N1 (N1+2)):=⟨_,rfl⟩
  have hp1:=HPC1.out
  rw [← hw1] at hp1 ⊢
  have hbb1:Below w.heap.size w w4:=hp1.below HB3.out (Nat.le_refl _)
  have HB4:=hid hbb1
  have hO1x:w4.heap[w.heap.size]? = some (.cells #[.slice (some ⟨W2.heap.size,0,none⟩) N1 (N1+2),.slice so N2 sc,.slice fo N3 fc,.slice to N4 tc] 27 (0,0)):=hp1.at_b
  have HO4:=hid hO1x
  have hlt1:w.heap.size+1 < w4.heap.size:=by rw [hp1.size];omega
  have HP4:=hid ((hp1.rest (w.heap.size+1) (by omega)).trans HP3.out)
  have HKp1_4:=hid (Kept.of_put (lo:=W2.heap.size) hp1 (by have:=HZ2.out;omega))
  have hs1z:w3.heap.size≤w4.heap.size:=by rw [hp1.size];exact Nat.le_refl _
  have hk2:=HK2.out w4 hbb1
  have HKK2:=hid hk2
  clear hp1 hbb1 hO1x hw1 hk2 HPC1 d0 d1 d2 d3 f1
  refine HKK2.out.mono ?_;intro e w5 hq
  obtain⟨v2,l2,R2,t2a,t2b,rfl,hs2,hT2⟩:=hq
  have hv2:=hT2.val
  subst hv2
  have hb2:=hT2.below
  have hz2:=hb2.size
  have hO2:=(hb2.block w.heap.size (by omega)).trans HO4.out
  have HP5:=hid ((hb2.block (w.heap.size+1) (by omega)).trans HP4.out)
  have HB5:=hid (HB4.out.trans (hb2.mono (by omega)))
  have HKp1_5:=hid (HKp1_4.out.trans (Kept.of_below hb2))
  have d0:w5.cell? ⟨w.heap.size,0,none⟩ = some (.slice (some ⟨W2.heap.size,0,none⟩) N1 (N1+2)):=by rw [Lib.cell_of_heap hO2];rfl
  have d1:w5.cell? ⟨w.heap.size,1,none⟩ = some (.slice so N2 sc):=by rw [Lib.cell_of_heap hO2];rfl
  have d2:w5.cell? ⟨w.heap.size,2,none⟩ = some (.slice fo N3 fc):=by rw [Lib.cell_of_heap hO2];rfl
  have d3:w5.cell? ⟨w.heap.size,3,none⟩ = some (.slice to N4 tc):=by rw [Lib.cell_of_heap hO2];rfl
  have f2:=Lib.frozen_of_heap hO2 1
  have hsz2:w.heap.size+1 < w5.heap.size:=by omega
  have hp2:=put_cell (o:=1) (v:=.slice (some ⟨w4.heap.size,0,none⟩) N2 (N2+2)) hO2
  have HPC2:=hid hp2
  have HT2:=hid hT2
  have HS2:=hid hs2
  clear hb2 hO2 hp2 hT2 hs2
  go_wp2_with fail
  obtain⟨w6,hw2⟩:∃ u,u=w5.setCell ⟨w.heap.size,1,none⟩ (.slice (some ⟨w4.heap.size,0,none⟩) N2 (N2+2)):=⟨_,rfl⟩
  have hp2:=HPC2.out
  rw [← hw2] at hp2 ⊢
  have hbb2:Below w.heap.size w w6:=hp2.below HB5.out (Nat.le_refl _)
  have HB6:=hid hbb2
  have hO2x:w6.heap[w.heap.size]? = some (.cells #[.slice (some ⟨W2.heap.size,0,none⟩) N1 (N1+2),.slice (some ⟨w4.heap.size,0,none⟩) N2 (N2+2),.slice fo N3 fc,.slice to N4 tc] 27 (0,0)):=hp2.at_b
  have HO6:=hid hO2x
  have hlt2:w.heap.size+1 < w6.heap.size:=by rw [hp2.size];omega
  have HP6:=hid ((hp2.rest (w.heap.size+1) (by omega)).trans HP5.out)
  have HKp1_6:=hid (HKp1_5.out.trans (Kept.of_put hp2 (by have:=HZ2.out;omega)))
  have HKp2_6:=hid (Kept.of_put (lo:=w4.heap.size) hp2 (by omega))
  have hs2z:w5.heap.size≤w6.heap.size:=by rw [hp2.size];exact Nat.le_refl _
  have hk3:=HK3.out w6 hbb2
  have HKK3:=hid hk3
  clear hp2 hbb2 hO2x hw2 hk3 HPC2 d0 d1 d2 d3 f2
  refine HKK3.out.mono ?_;intro e w7 hq
  obtain⟨v3,l3,R3,t3a,t3b,rfl,hs3,hT3⟩:=hq
  have hv3:=hT3.val
  subst hv3
  have hb3:=hT3.below
  have hz3:=hb3.size
  have hO3:=(hb3.block w.heap.size (by omega)).trans HO6.out
  have HP7:=hid ((hb3.block (w.heap.size+1) (by omega)).trans HP6.out)
  have HB7:=hid (HB6.out.trans (hb3.mono (by omega)))
  have HKp1_7:=hid (HKp1_6.out.trans (Kept.of_below hb3))
  have HKp2_7:=hid (HKp2_6.out.trans (Kept.of_below hb3))
  have d0:w7.cell? ⟨w.heap.size,0,none⟩ = some (.slice (some ⟨W2.heap.size,0,none⟩) N1 (N1+2)):=by rw [Lib.cell_of_heap hO3];rfl
  have d1:w7.cell? ⟨w.heap.size,1,none⟩ = some (.slice (some ⟨w4.heap.size,0,none⟩) N2 (N2+2)):=by rw [Lib.cell_of_heap hO3];rfl
  have d2:w7.cell? ⟨w.heap.size,2,none⟩ = some (.slice fo N3 fc):=by rw [Lib.cell_of_heap hO3];rfl
  have d3:w7.cell? ⟨w.heap.size,3,none⟩ = some (.slice to N4 tc):=by rw [Lib.cell_of_heap hO3];rfl
  have f3:=Lib.frozen_of_heap hO3 2
  have hsz3:w.heap.size+1 < w7.heap.size:=by omega
  have hp3:=put_cell (o:=2) (v:=.slice (some ⟨w6.heap.size,0,none⟩) N3 (N3+2)) hO3
  have HPC3:=hid hp3
  have HT3:=hid hT3
  have HS3:=hid hs3
  clear hb3 hO3 hp3 hT3 hs3
  go_wp2_with fail
  obtain⟨w8,hw3⟩:∃ u,u=w7.setCell ⟨w.heap.size,2,none⟩ (.slice (some ⟨w6.heap.size,0,none⟩) N3 (N3+2)):=⟨_,rfl⟩
  have hp3:=HPC3.out
  rw [← hw3] at hp3 ⊢
  have hbb3:Below w.heap.size w w8:=hp3.below HB7.out (Nat.le_refl _)
  have HB8:=hid hbb3
  have hO3x:w8.heap[w.heap.size]? = some (.cells #[.slice (some ⟨W2.heap.size,0,none⟩) N1 (N1+2),.slice (some ⟨w4.heap.size,0,none⟩) N2 (N2+2),.slice (some ⟨w6.heap.size,0,none⟩) N3 (N3+2),.slice to N4 tc] 27 (0,0)):=hp3.at_b
  have HO8:=hid hO3x
  have hlt3:w.heap.size+1 < w8.heap.size:=by rw [hp3.size];omega
  have HP8:=hid ((hp3.rest (w.heap.size+1) (by omega)).trans HP7.out)
  have HKp1_8:=hid (HKp1_7.out.trans (Kept.of_put hp3 (by have:=HZ2.out;omega)))
  have HKp2_8:=hid (HKp2_7.out.trans (Kept.of_put hp3 (by omega)))
  have HKp3_8:=hid (Kept.of_put (lo:=w6.heap.size) hp3 (by omega))
  have hs3z:w7.heap.size≤w8.heap.size:=by rw [hp3.size];exact Nat.le_refl _
  have hk4:=HK4.out w8 hbb3
  have HKK4:=hid hk4
  clear hp3 hbb3 hO3x hw3 hk4 HPC3 d0 d1 d2 d3 f3
  refine HKK4.out.mono ?_;intro e w9 hq
  obtain⟨v4,l4,R4,t4a,t4b,rfl,hs4,hT4⟩:=hq
  have hv4:=hT4.val
  subst hv4
  have hb4:=hT4.below
  have hz4:=hb4.size
  have hO4:=(hb4.block w.heap.size (by omega)).trans HO8.out
  have HP9:=hid ((hb4.block (w.heap.size+1) (by omega)).trans HP8.out)
  have HB9:=hid (HB8.out.trans (hb4.mono (by omega)))
  have HKp1_9:=hid (HKp1_8.out.trans (Kept.of_below hb4))
  have HKp2_9:=hid (HKp2_8.out.trans (Kept.of_below hb4))
  have HKp3_9:=hid (HKp3_8.out.trans (Kept.of_below hb4))
  have d0:w9.cell? ⟨w.heap.size,0,none⟩ = some (.slice (some ⟨W2.heap.size,0,none⟩) N1 (N1+2)):=by rw [Lib.cell_of_heap hO4];rfl
  have d1:w9.cell? ⟨w.heap.size,1,none⟩ = some (.slice (some ⟨w4.heap.size,0,none⟩) N2 (N2+2)):=by rw [Lib.cell_of_heap hO4];rfl
  have d2:w9.cell? ⟨w.heap.size,2,none⟩ = some (.slice (some ⟨w6.heap.size,0,none⟩) N3 (N3+2)):=by rw [Lib.cell_of_heap hO4];rfl
  have d3:w9.cell? ⟨w.heap.size,3,none⟩ = some (.slice to N4 tc):=by rw [Lib.cell_of_heap hO4];rfl
  have f4:=Lib.frozen_of_heap hO4 3
  have hsz4:w.heap.size+1 < w9.heap.size:=by omega
  have hp4:=put_cell (o:=3) (v:=.slice (some ⟨w8.heap.size,0,none⟩) N4 (N4+2)) hO4
  have HPC4:=hid hp4
  have HT4:=hid hT4
  have HS4:=hid hs4
  clear hb4 hO4 hp4 hT4 hs4
  have HPx:=hid (show (w9.setCell ⟨w.heap.size,3,none⟩ (.slice (some ⟨w8.heap.size,0,none⟩) N4 (N4+2))).heap[w.heap.size+1]? = some (.cells #[.slice none 0 0,.slice none 0 0,.slice none 0 0,.slice none 0 0] 27 (0,0)) from (Below.heap_setCell _ _ _ _ (by show w.heap.size+1 ≠ w.heap.size;omega)).trans HP9.out)
  go_wp2_with (refine wpList_put rfl 27 (Operand.tmp 2) (Operand.tmp 19) rfl (w.heap.size+1) 27 _ #[.slice (some ⟨W2.heap.size,0,none⟩) N1 (N1+2),.slice (some ⟨w4.heap.size,0,none⟩) N2 (N2+2),.slice (some ⟨w6.heap.size,0,none⟩) N3 (N3+2),.slice (some ⟨w8.heap.size,0,none⟩) N4 (N4+2)] rfl rfl HPx.out rfl (by kernel_rfl) (by simp [Value.oneCell']) ?_)
  intro wf hpf
  have HP:=hid hpf
  clear hpf
  go_wp2_with fail
  refine bodyPost_ret (v:=.agg #[.slice (some ⟨W2.heap.size,0,none⟩) N1 (N1+2),.slice (some ⟨w4.heap.size,0,none⟩) N2 (N2+2),.slice (some ⟨w6.heap.size,0,none⟩) N3 (N3+2),.slice (some ⟨w8.heap.size,0,none⟩) N4 (N4+2)]) (results_cell_row rfl _ _ (w.heap.size+1) 27 _ (0,0) _ rfl HP.out.at_b Tryz.underlying27 rfl (by kernel_rfl)) rfl ?_
  have z2:=HZ2.out
  obtain⟨e1,e2,e3,e4⟩:=HN.out
  have hzf:wf.heap.size=w9.heap.size:=by rw [HP.out.size];simp [World.setCell]
  have hkf:∀ lo,w.heap.size+1 < lo→Kept lo w9 wf:=fun lo h=>(Kept.of_set (by omega)).trans (Kept.of_put HP.out (by omega))
  have k1:Kept W2.heap.size w3 wf:=HKp1_9.out.trans (hkf _ (by omega))
  have k2:Kept w4.heap.size w5 wf:=HKp2_9.out.trans (hkf _ (by omega))
  have k3:Kept w6.heap.size w7 wf:=HKp3_9.out.trans (hkf _ (by omega))
  have k4:Kept w8.heap.size w9 wf:=hkf _ (by omega)
  have hsame4:l2=P.e.shared:=HS2.out
  refine⟨⟨⟨.slice (some ⟨W2.heap.size,0,none⟩) N1 (N1+2),l1,.slice (some ⟨w4.heap.size,0,none⟩) N2 (N2+2),l2,.slice (some ⟨w6.heap.size,0,none⟩) N3 (N3+2),l3⟩,.slice (some ⟨w8.heap.size,0,none⟩) N4 (N4+2),l4⟩,rfl,⟨?_,HP.out.below ((HB9.out).setCell (show w.heap.size≤w.heap.size from Nat.le_refl _) _) (by omega),⟨W2,w3,R1,t1a,t1b,e1 ▸ HT1.out,by omega,k1⟩,⟨w4,w5,R2,t2a,t2b,e2 ▸ HT2.out,by omega,k2⟩,⟨w6,w7,R3,t3a,t3b,e3 ▸ HT3.out,by omega,k3,k3.1⟩,⟨w8,w9,R4,t4a,t4b,e4 ▸ HT4.out,by omega,k4⟩, ?_, ?_, ?_⟩⟩
  · have q1:l1.map Rc.bare=P.e.records.map Rc.bare:=HS1.out
    have q3:l3.map Fn.bare=P.e.funcs.map Fn.bare:=HS3.out
    have q4:l4.map Th.bare=P.threads.map Th.bare:=HS4.out
    unfold Pr.bare En.bare
    simp only [q1,q3,q4,hsame4]
  · intro u hu
    have g1:∀ g,W2.heap.size≤g→g < wf.heap.size→u.heap[g]? = wf.heap[g]?:=fun g h1 h2=>hu g (by omega) h2
    have r1:=((HT1.out.lies rcells_len m1).kept k1) u g1
    have r1a:∀ a ∈ l1,RIn u w3.heap.size a:=fun a ha=>((HT1.out.all a ha).kept k1) u g1
    have r2:=((HT2.out.lies fcells_len m2).kept k2) u (fun g h1 h2=>g1 g (by omega) h2)
    have r3:=((HT3.out.lies ncells_len m3).kept k3) u (fun g h1 h2=>g1 g (by omega) h2)
    have r3a:∀ a ∈ l3,NIn u w7.heap.size a:=fun a ha=>((HT3.out.all a ha).kept k3) u (fun g h1 h2=>g1 g (by omega) h2)
    have r4:=((HT4.out.lies tcells_len m4).kept k4) u (fun g h1 h2=>g1 g (by omega) h2)
    have r4a:∀ a ∈ l4,TInC u w9.heap.size a:=fun a ha=>((HT4.out.all a ha).kept k4) u (fun g h1 h2=>g1 g (by omega) h2)
    exact⟨⟨r1.up k1.1,fun a ha=>(r1a a ha).up k1.1,r2.up k2.1,(by rw [hsame4];exact HSH.out),r3.up k3.1,fun a ha=>(r3a a ha).up k3.1⟩,r4.up k4.1,fun a ha=>(r4a a ha).1.up k4.1⟩
  · refine⟨w8.heap.size,R4,t4a,t4b,by rw [← e4],by show l4.length=_;rw [HT4.out.len,← e4],by omega,by have:=k4.1;have:=HT4.out.lt;omega,(k4.2 _ (Nat.le_refl _) HT4.out.lt).trans HT4.out.row,HT4.out.list,fun u hu=>?_,fun t ht u hu=>?_⟩
    · have r1:=(HT1.out.lies rcells_len m1) u (fun g h1 h2=>(hu g (by omega) (by omega)).trans (k1.2 g h1 h2))
      have r1a:∀ a ∈ l1,RIn u w3.heap.size a:=fun a ha=>(HT1.out.all a ha) u (fun g h1 h2=>(hu g (by omega) (by omega)).trans (k1.2 g h1 h2))
      have r2:=(HT2.out.lies fcells_len m2) u (fun g h1 h2=>(hu g (by omega) (by omega)).trans (k2.2 g h1 h2))
      have r3:=(HT3.out.lies ncells_len m3) u (fun g h1 h2=>(hu g (by omega) (by omega)).trans (k3.2 g h1 h2))
      have r3a:∀ a ∈ l3,NIn u w7.heap.size a:=fun a ha=>(HT3.out.all a ha) u (fun g h1 h2=>(hu g (by omega) (by omega)).trans (k3.2 g h1 h2))
      exact⟨r1.up k1.1,fun a ha=>(r1a a ha).up k1.1,r2.up k2.1,(by rw [hsame4];exact HSH.out),r3.up k3.1,fun a ha=>(r3a a ha).up k3.1⟩
    · exact (HT4.out.new t ht u (fun g h1 h2=>(hu g (by omega) (by have:=k4.1;omega)).trans (k4.2 g (by omega) h2))).up k4.1
  · have lt3:=HT3.out.lt
    have z4:=HT2.out.below.size
    have m4z:=HT4.out.below.size
    have n1:=k1.1
    have n2:=k2.1
    have n3:=k3.1
    have n4:=k4.1
    refine⟨w6.heap.size,R3,t3a,t3b,by rw [← e3],by show l3.length=_;rw [HT3.out.len,← e3],by omega,by omega,(k3.2 _ (Nat.le_refl _) lt3).trans HT3.out.row,HT3.out.list,HT3.out.l1,HT3.out.l2,fun u hu=>?_⟩
    have r1:=(HT1.out.lies rcells_len m1) u (fun g h1 h2=>(hu g (by omega) (by omega) (by omega)).trans (k1.2 g h1 h2))
    have r1a:∀ a ∈ l1,RIn u w3.heap.size a:=fun a ha=>(HT1.out.all a ha) u (fun g h1 h2=>(hu g (by omega) (by omega) (by omega)).trans (k1.2 g h1 h2))
    have r2:=(HT2.out.lies fcells_len m2) u (fun g h1 h2=>(hu g (by omega) (by omega) (by omega)).trans (k2.2 g h1 h2))
    have r3a:∀ a ∈ l3,NIn u w7.heap.size a:=fun a ha=>(HT3.out.new a ha) u (fun g h1 h2=>(hu g (by omega) (by omega) (by omega)).trans (k3.2 g (by omega) h2))
    have r4:=(HT4.out.lies tcells_len m4) u (fun g h1 h2=>(hu g (by omega) (by omega) (by omega)).trans (k4.2 g h1 h2))
    have r4a:∀ a ∈ l4,TInC u w9.heap.size a:=fun a ha=>(HT4.out.all a ha) u (fun g h1 h2=>(hu g (by omega) (by omega) (by omega)).trans (k4.2 g h1 h2))
    exact⟨r1.up n1,fun a ha=>(r1a a ha).up n1,r2.up n2,(by rw [hsame4];exact HSH.out),fun a ha=>(r3a a ha).up n3,r4.up n4,fun a ha=>(r4a a ha).1.up n4⟩
end Go.Proofs.YtdhieihcmnpneaaGreatDoor
