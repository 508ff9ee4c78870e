/- What package effect finds that a function does, by what is met and by induction on what functions call. -/
import Derived.Test.YtdhieihcmnpneaaGreatDoorRows
import Derived.Test.YtdhieihcmnpneaaGreatDoorTypWt
import Derived.Test.YtdhieihcmnpneaaGreatDoorEffMem
import Derived.Test.YtdhieihcmnpneaaGreatDoorGEff
namespace Go.Proofs.YtdhieihcmnpneaaGreatDoor
open Lib (hid)
set_option maxHeartbeats 2000000
open Go.RowKit
set_option maxRecDepth 100000
attribute [local go_sem ↓] loadS_eq loadX_eq
def FE (e:En) (B d ms mb mm:Nat) (a:Ef) (w:World) (x:Ending) (w':World):Prop:=x = .returned (.int .u8 a.val)∧Ds e B d ms mb mm w'∧Wr (fun g=>g=mm) w w'
def FnOk (e:En) (s:ByteArray):Prop:=∀ (B d ms mb mm:Nat) (w:World),Ds e B d ms mb mm w→B≤w.heap.size→(∀ f ∈ e.funcs,LiesG St.cells 21 w B f.bv f.body∧∀ a ∈ f.body,SIn w B a) →
  Calls Tryz.prog 16 #[.pointer (some ⟨d,0,none⟩),.string s] w (FE e B d ms mb mm (effF e s) w)
def BodiesIn (w:World) (B:Nat) (e:En):Prop:=∀ f ∈ e.funcs,LiesG St.cells 21 w B f.bv f.body∧∀ a ∈ f.body,SIn w B a
theorem BodiesIn.keeps {w w':World} {B:Nat} {e:En} (h:BodiesIn w B e) (hb:Below B w w'):BodiesIn w' B e:=fun f hf=>⟨(h f hf).1.below hb,fun a ha=>SIn.keeps hb _ ((h f hf).2 a ha)⟩
theorem own3E {w:World} {b:Nat} {T:TypeId} {fr:Nat × Nat} {a0 a1 a2:Value} (h:w.heap[b]? = some (.cells #[a0,a1,a2] T fr)):w.cell? ⟨b,0,none⟩ = some a0∧w.cell? ⟨b,1,none⟩ = some a1∧w.cell? ⟨b,2,none⟩ = some a2:=
  ⟨by rw [Lib.cell_of_heap h];rfl,by rw [Lib.cell_of_heap h];rfl,by rw [Lib.cell_of_heap h];rfl⟩
theorem cells7E {w:World} {b:Nat} {T:TypeId} {fr:Nat × Nat} {a0 a1 a2 a3 a4 a5 a6:Value} (h:w.heap[b]? = some (.cells #[a0,a1,a2,a3,a4,a5,a6] T fr)):w.cell? ⟨b,0,none⟩ = some a0∧w.cell? ⟨b,2,none⟩ = some a2:=
  ⟨by rw [Lib.cell_of_heap h];rfl,by rw [Lib.cell_of_heap h];rfl⟩
theorem Ds.of {e:En} {a:Ef} {B d ms mb mm:Nat} {w w':World} (h:Ds e B d ms mb mm w) (k:Below w.heap.size w w'):FE e B d ms mb mm a w (.returned (.int .u8 a.val)) w':=⟨rfl,h.keeps k,Wr.of_below k⟩
theorem eff_expr (e:En) (B d ms mb mm:Nat) (x:X) (w:World) (hD:Ds e B d ms mb mm w) (hBw:B≤w.heap.size) (hI:InW w B x) (hF:BodiesIn w B e) (hC:x.hd.k=7→FnOk e x.hd.name) :
    Calls Tryz.prog 68 #[.pointer (some ⟨d,0,none⟩),x.val] w (FE e B d ms mb mm (effX (fnames e.shared) (effF e) x) w):=by
  obtain⟨xo,xn,xc,ex⟩:=slice_of hI
  rw [val_of ex]
  obtain⟨W1,hW1⟩:∃ W1,W1=w.alloc (.cells #[.int .u8 x.hd.k,.int .i64 x.hd.n,.string x.hd.name,.int .u8 x.hd.tk,.string x.hd.tn,.int .i64 x.hd.tz,.slice xo xn xc] 62):=⟨_,rfl⟩
  have hb1:Below w.heap.size w W1:=by rw [hW1];exact below_box w _
  have hz1:W1.heap.size=w.heap.size+1:=by rw [hW1];simp
  have hO1:W1.heap[w.heap.size]? = some (.cells #[.int .u8 x.hd.k,.int .i64 x.hd.n,.string x.hd.name,.int .u8 x.hd.tk,.string x.hd.tn,.int .i64 x.hd.tz,.slice xo xn xc] 62 (0,0)):=by rw [hW1];exact (MapKept.heap_alloc _ _).1
  have hD1:=hD.keeps hb1
  obtain⟨d0,d1,d2⟩:=own3E hD1.own
  obtain⟨k0,k2⟩:=cells7E hO1
  have hEff:effX (fnames e.shared) (effF e) x=if x.hd.k=3 then (if has x.hd.name (fnames e.shared)=true then touchE else noE) else if x.hd.k=4 ∨ x.hd.k=5 ∨ x.hd.k=6 then touchE else if x.hd.k=7 then effF e x.hd.name else noE:=rfl
  have HE:=hid hEff
  have HD1:=hid hD1
  have HW1:=hid hW1
  have HB1:=hid hb1
  have hdl:=hD1.lt
  have hlk:=look_st hD1.shared x.hd.name
  have HF1:=hid (hF.keeps (hb1.mono hBw))
  have HC:=hid hC
  rw [hW1] at d0 d1 d2 k0 k2
  by_cases h3:x.hd.k=3
  · cases hq:has x.hd.name (fnames e.shared) with
    | false =>
      have HR:=hid (show effX (fnames e.shared) (effF e) x=noE by rw [HE.out,if_pos h3,hq];rfl)
      have HQ:=hid hq
      have HDL:=hid hdl
      have HLW:=hid hz1
      have e0:=d0;have e2:=k2
      rw [← hW1] at d0 k2
      rw [h3] at k0 HW1
      rw [h3]
      clear hD hI hF hC hb1 hO1 hD1 hEff hW1 h3 hq
      go_enter Tryz.func68,Tryz.ntmps68
      go_wp2_with fail
      rw [← HW1.out]
      refine wp_region_held_drew (S:=SameTo (W1.heap.size) W1) (by kernel_rfl) (SameTo.drew _ _) (fun hSw=>?_)
      refine wt (i:=0) (oi:={ dst:=some 12,op:=Op.move (Operand.tmp 0),type:=52,pos := "does.go:62", after:=#[],guard:=none }) (v:=.pointer (some ⟨d,0,none⟩)) (fun W hW=>?_) hSw ?_
      · first|(go_simp;done)|rfl
      try simp only [Act.put,q1,q2,q3]
      refine wt (i:=1) (oi:={ dst:=some 13,op:=Op.nilCheck (Operand.tmp 12),type:=0,pos := "does.go:62", after:=#[gd 0],guard:=none }) (v:=.pointer (some ⟨d,0,none⟩)) (fun W hW=>?_) hSw ?_
      · first|(go_simp;done)|rfl
      try simp only [Act.put,q1,q2,q3]
      refine wt (i:=2) (oi:={ dst:=some 14,op:=Op.fieldAddr 83 (Operand.tmp 13) 0,type:=0,pos := "does.go:62", after:=#[gd 1],guard:=none }) (v:=.pointer (some ⟨d,0,none⟩)) (fun W hW=>?_) hSw ?_
      · first|(go_simp;done)|rfl
      try simp only [Act.put,q1,q2,q3]
      refine wt (i:=3) (oi:={ dst:=some 15,op:=Op.load 79 (Operand.tmp 14),type:=79,pos := "does.go:62", after:=#[gd 2],guard:=none }) (v:=.map (some ms)) (fun W hW=>?_) hSw ?_
      · have d0:=hW.cell (by dsimp only;omega) d0
        first|(go_simp;done)|rfl
      try simp only [Act.put,q1,q2,q3]
      refine wt (i:=4) (oi:={ dst:=some 16,op:=Op.fieldAddr 62 (Operand.tmp 3) 2,type:=0,pos := "does.go:62", after:=#[],guard:=none }) (v:=.pointer (some ⟨w.heap.size,2,none⟩)) (fun W hW=>?_) hSw ?_
      · first|(go_simp;done)|rfl
      try simp only [Act.put,q1,q2,q3]
      refine wt (i:=5) (oi:={ dst:=some 17,op:=Op.load 9 (Operand.tmp 16),type:=9,pos := "does.go:62", after:=#[gd 4],guard:=none }) (v:=.string x.hd.name) (fun W hW=>?_) hSw ?_
      · have k2:=hW.cell (by dsimp only;omega) k2
        first|(go_simp;done)|rfl
      try simp only [Act.put,q1,q2,q3]
      refine wt (i:=6) (oi:={ dst:=some 18,op:=Op.lookup 79 (Operand.tmp 15) (Operand.tmp 17) true,type:=152,pos := "does.go:62", after:=#[gd 3,gd 5],guard:=none }) (v:=.tuple #[.agg #[],.bool false]) (fun W hW=>?_) hSw ?_
      · (have hl:=hlk W (hW ms HDL.out.2.1);rw [HQ.out] at hl;first|(go_simp;done)|exact hl)
      try simp only [Act.put,q1,q2,q3]
      refine wt (i:=7) (oi:={ dst:=some 11,op:=Op.move (Operand.tmp 18),type:=152,pos := "does.go:62", after:=#[gd 6],guard:=none }) (v:=.tuple #[.agg #[],.bool false]) (fun W hW=>?_) hSw ?_
      · first|(go_simp;done)|rfl
      try simp only [Act.put,q1,q2,q3]
      refine wt (i:=8) (oi:={ dst:=some 19,op:=Op.extract (Operand.tmp 11) 0,type:=84,pos := "does.go:62", after:=#[gd 7],guard:=none }) (v:=.agg #[]) (fun W hW=>?_) hSw ?_
      · first|(go_simp;done)|rfl
      try simp only [Act.put,q1,q2,q3]
      refine wpAnyH_ready (rs:=[9,10]) (by kernel_rfl) (by simp) ?_
      refine AllReadyH.cons (o:={ dst:=some 20,op:=Op.extract (Operand.tmp 11) 1,type:=4,pos := "does.go:62", after:=#[gd 7,{ on:=11,ground:=Ground.gcOnly Departure.lateStores }],guard:=none }) rfl (fun K hK=>?_) (AllReadyH.cons (o:={ dst:=some 5,op:=Op.alloc 84,type:=0,pos := "does.go:62", after:=#[],guard:=none }) rfl (fun K hK=>?_) AllReadyH.nil)
      · rw [if_pos (by rfl)]
        clear hSw
        go_simp
        refine hK.out _ _ (SameTo.drew _ _) (fun hSw=>?_)
        clear hK K
        try simp only [Act.put,q1,q2,q3]
        refine wpAnyH_ready (rs:=[10]) (by kernel_rfl) (by simp) ?_
        refine AllReadyH.cons (o:={ dst:=some 5,op:=Op.alloc 84,type:=0,pos := "does.go:62", after:=#[],guard:=none }) rfl (fun K hK=>?_) AllReadyH.nil
        · rw [if_pos (by rfl)]
          clear hSw
          go_simp
          refine hK.out _ _ ((fun q hq=>Below.heap_alloc _ _ _ hq)) (fun hSw=>?_)
          clear hK K
          try simp only [Act.put,q1,q2,q3]
          refine wpAnyH_ready (rs:=[11]) (by kernel_rfl) (by simp) ?_
          refine AllReadyH.cons (o:={ dst:=none,op:=Op.store 84 (Operand.tmp 5) (Operand.tmp 19),type:=0,pos := "does.go:62", after:=#[gd 10,gd 8,gp 0,gp 1,gp 2,gp 3,gp 4,gp 5,gp 6,gp 7,gp 8,{ on:=9,ground:=Ground.textOnly Departure.lateStores },gp 10],guard:=none }) rfl (fun K hK=>?_) AllReadyH.nil
          · rw [if_pos (by rfl)]
            clear hSw
            go_simp
            refine hK.out _ _ ((fun q hq=>Below.heap_alloc _ _ _ hq)) (fun hSw=>?_)
            clear hK K
            try simp only [Act.put,q1,q2,q3]
            refine wpAnyH_ready (rs:=[12]) (by kernel_rfl) (by simp) ?_
            refine AllReadyH.cons (o:={ dst:=some 6,op:=Op.assign (Operand.tmp 20),type:=4,pos := "does.go:62", after:=#[gd 9,gc 11,gp 0,gp 1,gp 2,gp 3,gp 4,gp 5,gp 6,gp 7,gp 8,gp 9,gp 10,gp 11],guard:=none }) rfl (fun K hK=>?_) AllReadyH.nil
            · rw [if_pos (by rfl)]
              clear hSw
              go_simp
              refine hK.out _ _ ((fun q hq=>Below.heap_alloc _ _ _ hq)) (fun hSw=>?_)
              clear hK K
              try simp only [Act.put,q1,q2,q3]
              refine wpAnyH_done (by kernel_rfl) ?_ _
              go_wp2_with fail
              go_ret
              rw [HR.out]
              exact⟨rfl,HD1.out.keeps (((Below.refl _ _).drew).alloc (Nat.le_refl _) _),Wr.of_below (HB1.out.trans ((((Below.refl _ _).drew).alloc (Nat.le_refl _) _).mono HB1.out.size))⟩
      · rw [if_pos (by rfl)]
        clear hSw
        go_simp
        refine hK.out _ _ ((fun q hq=>Below.heap_alloc _ _ _ hq)) (fun hSw=>?_)
        clear hK K
        try simp only [Act.put,q1,q2,q3]
        refine wpAnyH_ready (rs:=[9,11]) (by kernel_rfl) (by simp) ?_
        refine AllReadyH.cons (o:={ dst:=some 20,op:=Op.extract (Operand.tmp 11) 1,type:=4,pos := "does.go:62", after:=#[gd 7,{ on:=11,ground:=Ground.gcOnly Departure.lateStores }],guard:=none }) rfl (fun K hK=>?_) (AllReadyH.cons (o:={ dst:=none,op:=Op.store 84 (Operand.tmp 5) (Operand.tmp 19),type:=0,pos := "does.go:62", after:=#[gd 10,gd 8,gp 0,gp 1,gp 2,gp 3,gp 4,gp 5,gp 6,gp 7,gp 8,{ on:=9,ground:=Ground.textOnly Departure.lateStores },gp 10],guard:=none }) rfl (fun K hK=>?_) AllReadyH.nil)
        · rw [if_pos (by rfl)]
          clear hSw
          go_simp
          refine hK.out _ _ ((fun q hq=>Below.heap_alloc _ _ _ hq)) (fun hSw=>?_)
          clear hK K
          try simp only [Act.put,q1,q2,q3]
          refine wpAnyH_ready (rs:=[11]) (by kernel_rfl) (by simp) ?_
          refine AllReadyH.cons (o:={ dst:=none,op:=Op.store 84 (Operand.tmp 5) (Operand.tmp 19),type:=0,pos := "does.go:62", after:=#[gd 10,gd 8,gp 0,gp 1,gp 2,gp 3,gp 4,gp 5,gp 6,gp 7,gp 8,{ on:=9,ground:=Ground.textOnly Departure.lateStores },gp 10],guard:=none }) rfl (fun K hK=>?_) AllReadyH.nil
          · rw [if_pos (by rfl)]
            clear hSw
            go_simp
            refine hK.out _ _ ((fun q hq=>Below.heap_alloc _ _ _ hq)) (fun hSw=>?_)
            clear hK K
            try simp only [Act.put,q1,q2,q3]
            refine wpAnyH_ready (rs:=[12]) (by kernel_rfl) (by simp) ?_
            refine AllReadyH.cons (o:={ dst:=some 6,op:=Op.assign (Operand.tmp 20),type:=4,pos := "does.go:62", after:=#[gd 9,gc 11,gp 0,gp 1,gp 2,gp 3,gp 4,gp 5,gp 6,gp 7,gp 8,gp 9,gp 10,gp 11],guard:=none }) rfl (fun K hK=>?_) AllReadyH.nil
            · rw [if_pos (by rfl)]
              clear hSw
              go_simp
              refine hK.out _ _ ((fun q hq=>Below.heap_alloc _ _ _ hq)) (fun hSw=>?_)
              clear hK K
              try simp only [Act.put,q1,q2,q3]
              refine wpAnyH_done (by kernel_rfl) ?_ _
              go_wp2_with fail
              go_ret
              rw [HR.out]
              exact⟨rfl,HD1.out.keeps (((Below.refl _ _).drew).alloc (Nat.le_refl _) _),Wr.of_below (HB1.out.trans ((((Below.refl _ _).drew).alloc (Nat.le_refl _) _).mono HB1.out.size))⟩
        · rw [if_pos (by rfl)]
          clear hSw
          go_simp
          refine hK.out _ _ ((fun q hq=>Below.heap_alloc _ _ _ hq)) (fun hSw=>?_)
          clear hK K
          try simp only [Act.put,q1,q2,q3]
          refine wpAnyH_ready (rs:=[9]) (by kernel_rfl) (by simp) ?_
          refine AllReadyH.cons (o:={ dst:=some 20,op:=Op.extract (Operand.tmp 11) 1,type:=4,pos := "does.go:62", after:=#[gd 7,{ on:=11,ground:=Ground.gcOnly Departure.lateStores }],guard:=none }) rfl (fun K hK=>?_) AllReadyH.nil
          · rw [if_pos (by rfl)]
            clear hSw
            go_simp
            refine hK.out _ _ ((fun q hq=>Below.heap_alloc _ _ _ hq)) (fun hSw=>?_)
            clear hK K
            try simp only [Act.put,q1,q2,q3]
            refine wpAnyH_ready (rs:=[12]) (by kernel_rfl) (by simp) ?_
            refine AllReadyH.cons (o:={ dst:=some 6,op:=Op.assign (Operand.tmp 20),type:=4,pos := "does.go:62", after:=#[gd 9,gc 11,gp 0,gp 1,gp 2,gp 3,gp 4,gp 5,gp 6,gp 7,gp 8,gp 9,gp 10,gp 11],guard:=none }) rfl (fun K hK=>?_) AllReadyH.nil
            · rw [if_pos (by rfl)]
              clear hSw
              go_simp
              refine hK.out _ _ ((fun q hq=>Below.heap_alloc _ _ _ hq)) (fun hSw=>?_)
              clear hK K
              try simp only [Act.put,q1,q2,q3]
              refine wpAnyH_done (by kernel_rfl) ?_ _
              go_wp2_with fail
              go_ret
              rw [HR.out]
              exact⟨rfl,HD1.out.keeps (((Below.refl _ _).drew).alloc (Nat.le_refl _) _),Wr.of_below (HB1.out.trans ((((Below.refl _ _).drew).alloc (Nat.le_refl _) _).mono HB1.out.size))⟩
    | true =>
      have HR:=hid (show effX (fnames e.shared) (effF e) x=touchE by rw [HE.out,if_pos h3,hq];rfl)
      have HQ:=hid hq
      have HDL:=hid hdl
      have HLW:=hid hz1
      have e0:=d0;have e2:=k2
      rw [← hW1] at d0 k2
      rw [h3] at k0 HW1
      rw [h3]
      clear hD hI hF hC hb1 hO1 hD1 hEff hW1 h3 hq
      go_enter Tryz.func68,Tryz.ntmps68
      go_wp2_with fail
      rw [← HW1.out]
      refine wp_region_held_drew (S:=SameTo (W1.heap.size) W1) (by kernel_rfl) (SameTo.drew _ _) (fun hSw=>?_)
      refine wt (i:=0) (oi:={ dst:=some 12,op:=Op.move (Operand.tmp 0),type:=52,pos := "does.go:62", after:=#[],guard:=none }) (v:=.pointer (some ⟨d,0,none⟩)) (fun W hW=>?_) hSw ?_
      · first|(go_simp;done)|rfl
      try simp only [Act.put,q1,q2,q3]
      refine wt (i:=1) (oi:={ dst:=some 13,op:=Op.nilCheck (Operand.tmp 12),type:=0,pos := "does.go:62", after:=#[gd 0],guard:=none }) (v:=.pointer (some ⟨d,0,none⟩)) (fun W hW=>?_) hSw ?_
      · first|(go_simp;done)|rfl
      try simp only [Act.put,q1,q2,q3]
      refine wt (i:=2) (oi:={ dst:=some 14,op:=Op.fieldAddr 83 (Operand.tmp 13) 0,type:=0,pos := "does.go:62", after:=#[gd 1],guard:=none }) (v:=.pointer (some ⟨d,0,none⟩)) (fun W hW=>?_) hSw ?_
      · first|(go_simp;done)|rfl
      try simp only [Act.put,q1,q2,q3]
      refine wt (i:=3) (oi:={ dst:=some 15,op:=Op.load 79 (Operand.tmp 14),type:=79,pos := "does.go:62", after:=#[gd 2],guard:=none }) (v:=.map (some ms)) (fun W hW=>?_) hSw ?_
      · have d0:=hW.cell (by dsimp only;omega) d0
        first|(go_simp;done)|rfl
      try simp only [Act.put,q1,q2,q3]
      refine wt (i:=4) (oi:={ dst:=some 16,op:=Op.fieldAddr 62 (Operand.tmp 3) 2,type:=0,pos := "does.go:62", after:=#[],guard:=none }) (v:=.pointer (some ⟨w.heap.size,2,none⟩)) (fun W hW=>?_) hSw ?_
      · first|(go_simp;done)|rfl
      try simp only [Act.put,q1,q2,q3]
      refine wt (i:=5) (oi:={ dst:=some 17,op:=Op.load 9 (Operand.tmp 16),type:=9,pos := "does.go:62", after:=#[gd 4],guard:=none }) (v:=.string x.hd.name) (fun W hW=>?_) hSw ?_
      · have k2:=hW.cell (by dsimp only;omega) k2
        first|(go_simp;done)|rfl
      try simp only [Act.put,q1,q2,q3]
      refine wt (i:=6) (oi:={ dst:=some 18,op:=Op.lookup 79 (Operand.tmp 15) (Operand.tmp 17) true,type:=152,pos := "does.go:62", after:=#[gd 3,gd 5],guard:=none }) (v:=.tuple #[.agg #[],.bool true]) (fun W hW=>?_) hSw ?_
      · (have hl:=hlk W (hW ms HDL.out.2.1);rw [HQ.out] at hl;first|(go_simp;done)|exact hl)
      try simp only [Act.put,q1,q2,q3]
      refine wt (i:=7) (oi:={ dst:=some 11,op:=Op.move (Operand.tmp 18),type:=152,pos := "does.go:62", after:=#[gd 6],guard:=none }) (v:=.tuple #[.agg #[],.bool true]) (fun W hW=>?_) hSw ?_
      · first|(go_simp;done)|rfl
      try simp only [Act.put,q1,q2,q3]
      refine wt (i:=8) (oi:={ dst:=some 19,op:=Op.extract (Operand.tmp 11) 0,type:=84,pos := "does.go:62", after:=#[gd 7],guard:=none }) (v:=.agg #[]) (fun W hW=>?_) hSw ?_
      · first|(go_simp;done)|rfl
      try simp only [Act.put,q1,q2,q3]
      refine wpAnyH_ready (rs:=[9,10]) (by kernel_rfl) (by simp) ?_
      refine AllReadyH.cons (o:={ dst:=some 20,op:=Op.extract (Operand.tmp 11) 1,type:=4,pos := "does.go:62", after:=#[gd 7,{ on:=11,ground:=Ground.gcOnly Departure.lateStores }],guard:=none }) rfl (fun K hK=>?_) (AllReadyH.cons (o:={ dst:=some 5,op:=Op.alloc 84,type:=0,pos := "does.go:62", after:=#[],guard:=none }) rfl (fun K hK=>?_) AllReadyH.nil)
      · rw [if_pos (by rfl)]
        clear hSw
        go_simp
        refine hK.out _ _ (SameTo.drew _ _) (fun hSw=>?_)
        clear hK K
        try simp only [Act.put,q1,q2,q3]
        refine wpAnyH_ready (rs:=[10]) (by kernel_rfl) (by simp) ?_
        refine AllReadyH.cons (o:={ dst:=some 5,op:=Op.alloc 84,type:=0,pos := "does.go:62", after:=#[],guard:=none }) rfl (fun K hK=>?_) AllReadyH.nil
        · rw [if_pos (by rfl)]
          clear hSw
          go_simp
          refine hK.out _ _ ((fun q hq=>Below.heap_alloc _ _ _ hq)) (fun hSw=>?_)
          clear hK K
          try simp only [Act.put,q1,q2,q3]
          refine wpAnyH_ready (rs:=[11]) (by kernel_rfl) (by simp) ?_
          refine AllReadyH.cons (o:={ dst:=none,op:=Op.store 84 (Operand.tmp 5) (Operand.tmp 19),type:=0,pos := "does.go:62", after:=#[gd 10,gd 8,gp 0,gp 1,gp 2,gp 3,gp 4,gp 5,gp 6,gp 7,gp 8,{ on:=9,ground:=Ground.textOnly Departure.lateStores },gp 10],guard:=none }) rfl (fun K hK=>?_) AllReadyH.nil
          · rw [if_pos (by rfl)]
            clear hSw
            go_simp
            refine hK.out _ _ ((fun q hq=>Below.heap_alloc _ _ _ hq)) (fun hSw=>?_)
            clear hK K
            try simp only [Act.put,q1,q2,q3]
            refine wpAnyH_ready (rs:=[12]) (by kernel_rfl) (by simp) ?_
            refine AllReadyH.cons (o:={ dst:=some 6,op:=Op.assign (Operand.tmp 20),type:=4,pos := "does.go:62", after:=#[gd 9,gc 11,gp 0,gp 1,gp 2,gp 3,gp 4,gp 5,gp 6,gp 7,gp 8,gp 9,gp 10,gp 11],guard:=none }) rfl (fun K hK=>?_) AllReadyH.nil
            · rw [if_pos (by rfl)]
              clear hSw
              go_simp
              refine hK.out _ _ ((fun q hq=>Below.heap_alloc _ _ _ hq)) (fun hSw=>?_)
              clear hK K
              try simp only [Act.put,q1,q2,q3]
              refine wpAnyH_done (by kernel_rfl) ?_ _
              go_wp2_with fail
              go_ret
              rw [HR.out]
              exact⟨rfl,HD1.out.keeps (((Below.refl _ _).drew).alloc (Nat.le_refl _) _),Wr.of_below (HB1.out.trans ((((Below.refl _ _).drew).alloc (Nat.le_refl _) _).mono HB1.out.size))⟩
      · rw [if_pos (by rfl)]
        clear hSw
        go_simp
        refine hK.out _ _ ((fun q hq=>Below.heap_alloc _ _ _ hq)) (fun hSw=>?_)
        clear hK K
        try simp only [Act.put,q1,q2,q3]
        refine wpAnyH_ready (rs:=[9,11]) (by kernel_rfl) (by simp) ?_
        refine AllReadyH.cons (o:={ dst:=some 20,op:=Op.extract (Operand.tmp 11) 1,type:=4,pos := "does.go:62", after:=#[gd 7,{ on:=11,ground:=Ground.gcOnly Departure.lateStores }],guard:=none }) rfl (fun K hK=>?_) (AllReadyH.cons (o:={ dst:=none,op:=Op.store 84 (Operand.tmp 5) (Operand.tmp 19),type:=0,pos := "does.go:62", after:=#[gd 10,gd 8,gp 0,gp 1,gp 2,gp 3,gp 4,gp 5,gp 6,gp 7,gp 8,{ on:=9,ground:=Ground.textOnly Departure.lateStores },gp 10],guard:=none }) rfl (fun K hK=>?_) AllReadyH.nil)
        · rw [if_pos (by rfl)]
          clear hSw
          go_simp
          refine hK.out _ _ ((fun q hq=>Below.heap_alloc _ _ _ hq)) (fun hSw=>?_)
          clear hK K
          try simp only [Act.put,q1,q2,q3]
          refine wpAnyH_ready (rs:=[11]) (by kernel_rfl) (by simp) ?_
          refine AllReadyH.cons (o:={ dst:=none,op:=Op.store 84 (Operand.tmp 5) (Operand.tmp 19),type:=0,pos := "does.go:62", after:=#[gd 10,gd 8,gp 0,gp 1,gp 2,gp 3,gp 4,gp 5,gp 6,gp 7,gp 8,{ on:=9,ground:=Ground.textOnly Departure.lateStores },gp 10],guard:=none }) rfl (fun K hK=>?_) AllReadyH.nil
          · rw [if_pos (by rfl)]
            clear hSw
            go_simp
            refine hK.out _ _ ((fun q hq=>Below.heap_alloc _ _ _ hq)) (fun hSw=>?_)
            clear hK K
            try simp only [Act.put,q1,q2,q3]
            refine wpAnyH_ready (rs:=[12]) (by kernel_rfl) (by simp) ?_
            refine AllReadyH.cons (o:={ dst:=some 6,op:=Op.assign (Operand.tmp 20),type:=4,pos := "does.go:62", after:=#[gd 9,gc 11,gp 0,gp 1,gp 2,gp 3,gp 4,gp 5,gp 6,gp 7,gp 8,gp 9,gp 10,gp 11],guard:=none }) rfl (fun K hK=>?_) AllReadyH.nil
            · rw [if_pos (by rfl)]
              clear hSw
              go_simp
              refine hK.out _ _ ((fun q hq=>Below.heap_alloc _ _ _ hq)) (fun hSw=>?_)
              clear hK K
              try simp only [Act.put,q1,q2,q3]
              refine wpAnyH_done (by kernel_rfl) ?_ _
              go_wp2_with fail
              go_ret
              rw [HR.out]
              exact⟨rfl,HD1.out.keeps (((Below.refl _ _).drew).alloc (Nat.le_refl _) _),Wr.of_below (HB1.out.trans ((((Below.refl _ _).drew).alloc (Nat.le_refl _) _).mono HB1.out.size))⟩
        · rw [if_pos (by rfl)]
          clear hSw
          go_simp
          refine hK.out _ _ ((fun q hq=>Below.heap_alloc _ _ _ hq)) (fun hSw=>?_)
          clear hK K
          try simp only [Act.put,q1,q2,q3]
          refine wpAnyH_ready (rs:=[9]) (by kernel_rfl) (by simp) ?_
          refine AllReadyH.cons (o:={ dst:=some 20,op:=Op.extract (Operand.tmp 11) 1,type:=4,pos := "does.go:62", after:=#[gd 7,{ on:=11,ground:=Ground.gcOnly Departure.lateStores }],guard:=none }) rfl (fun K hK=>?_) AllReadyH.nil
          · rw [if_pos (by rfl)]
            clear hSw
            go_simp
            refine hK.out _ _ ((fun q hq=>Below.heap_alloc _ _ _ hq)) (fun hSw=>?_)
            clear hK K
            try simp only [Act.put,q1,q2,q3]
            refine wpAnyH_ready (rs:=[12]) (by kernel_rfl) (by simp) ?_
            refine AllReadyH.cons (o:={ dst:=some 6,op:=Op.assign (Operand.tmp 20),type:=4,pos := "does.go:62", after:=#[gd 9,gc 11,gp 0,gp 1,gp 2,gp 3,gp 4,gp 5,gp 6,gp 7,gp 8,gp 9,gp 10,gp 11],guard:=none }) rfl (fun K hK=>?_) AllReadyH.nil
            · rw [if_pos (by rfl)]
              clear hSw
              go_simp
              refine hK.out _ _ ((fun q hq=>Below.heap_alloc _ _ _ hq)) (fun hSw=>?_)
              clear hK K
              try simp only [Act.put,q1,q2,q3]
              refine wpAnyH_done (by kernel_rfl) ?_ _
              go_wp2_with fail
              go_ret
              rw [HR.out]
              exact⟨rfl,HD1.out.keeps (((Below.refl _ _).drew).alloc (Nat.le_refl _) _),Wr.of_below (HB1.out.trans ((((Below.refl _ _).drew).alloc (Nat.le_refl _) _).mono HB1.out.size))⟩
  have n3:(x.hd.k == 3)=false:=by simpa using h3
  by_cases h4:x.hd.k=4 ∨ x.hd.k=5 ∨ x.hd.k=6
  · have HR:=hid (show effX (fnames e.shared) (effF e) x=touchE by rw [HE.out,if_neg h3,if_pos h4])
    clear hD hI hF hC hb1 hz1 hO1 hD1 hEff hW1 hlk hdl
    rcases h4 with h4|h4|h4
    all_goals
      rw [h4] at k0 HW1 n3
      rw [h4]
      clear h4 h3
      go_enter Tryz.func68,Tryz.ntmps68
      go_wp2_with fail
      go_ret
      rw [← HW1.out,HR.out]
      exact⟨rfl,HD1.out,Wr.of_below HB1.out⟩
  by_cases h7:x.hd.k=7
  · have HR:=hid (show effX (fnames e.shared) (effF e) x=effF e x.hd.name by rw [HE.out,if_neg h3,if_neg h4,if_pos h7])
    have HFN:=hid (HC.out h7 B d ms mb mm W1 HD1.out (by omega) HF1.out)
    rw [h7] at k0 HW1
    rw [h7]
    clear hD hI hF hC hb1 hz1 hO1 hD1 hEff hW1 hlk hdl n3 h3 h4 h7
    go_enter Tryz.func68,Tryz.ntmps68
    go_wp2_with fail
    rw [← HW1.out]
    refine HFN.out.mono ?_;rintro z w2 ⟨rfl,hD2,hw2⟩
    have HD2:=hid hD2
    have HW2:=hid ((Wr.of_below HB1.out).trans hw2)
    clear hD2 hw2
    go_wp2_with fail
    go_ret
    rw [HR.out]
    exact⟨rfl,HD2.out,HW2.out⟩
  have n4:(x.hd.k == 4)=false:=by simpa using fun h=>h4 (.inl h)
  have n5:(x.hd.k == 5)=false:=by simpa using fun h=>h4 (.inr (.inl h))
  have n6:(x.hd.k == 6)=false:=by simpa using fun h=>h4 (.inr (.inr h))
  have n7:(x.hd.k == 7)=false:=by simpa using h7
  have HR:=hid (show effX (fnames e.shared) (effF e) x=noE by rw [HE.out,if_neg h3,if_neg h4,if_neg h7])
  clear hD hI hF hC hb1 hz1 hO1 hD1 hEff hW1 hlk hdl h3 h4 h7
  go_enter Tryz.func68,Tryz.ntmps68
  go_wp2_with fail
  go_ret
  rw [← HW1.out,HR.out]
  exact⟨rfl,HD1.out,Wr.of_below HB1.out⟩
end Go.Proofs.YtdhieihcmnpneaaGreatDoor
