/- How much a program has in it, as the statements' own functions count it, with an early end. -/
import Derived.Test.YtdhieihcmnpneaaGreatDoorRows
import Derived.Test.YtdhieihcmnpneaaGreatDoorGMem
import Derived.LoopN
import Derived.Deep.QuietTactic
import Derived.BigQuiet
import Derived.Test.YtdhieihcmnpneaaGreatDoorTypWt
import Derived.Test.YtdhieihcmnpneaaGreatDoorTypNames
import Derived.Deep.LoopGhost
import Derived.IntWalk
namespace Go.Proofs.YtdhieihcmnpneaaGreatDoor
open Lib (hid)
set_option maxRecDepth 100000
set_option maxHeartbeats 8000000
open Go.RowKit
def under:List X→Nat
  | []=>0
  | a :: r=>X.sizes a.args+under r
theorem under_nil:under [] = 0:=by rw [under]
theorem under_cons (a:X) (r:List X):under (a :: r)=X.sizes a.args+under r:=by rw [under]
theorem sizes_under (l:List X):X.sizes l=l.length+under l:=by
  induction l with
  | nil=>rw [sizes_nil,under_nil];rfl
  | cons a r ih =>
    obtain⟨h,s,k⟩:=a
    rw [sizes_cons,under_cons,size_mk,ih,List.length_cons]
    show 1+X.sizes k+(r.length+under r)=r.length+1+(X.sizes k+under r)
    omega
mutual
def St.wt:St→Nat
  | .mk _ x y _ _ b e=>1+X.sizes x.args+X.sizes y.args+St.wts b+St.wts e
def St.wts:List St→Nat
  | []=>0
  | a :: r=>St.wt a+St.wts r
end
theorem wt_mk (h:Sh) (x y:X) (bv ev:Value) (b e:List St):St.wt (.mk h x y bv ev b e)=1+X.sizes x.args+X.sizes y.args+St.wts b+St.wts e:=by rw [St.wt]
theorem wts_nil:St.wts [] = 0:=by rw [St.wts]
theorem wts_cons (a:St) (r:List St):St.wts (a :: r)=St.wt a+St.wts r:=by rw [St.wts]
theorem wt_parts (a:St):St.wt a=1+X.sizes a.x.args+X.sizes a.y.args+St.wts a.body+St.wts a.els:=by cases a;rw [wt_mk];rfl
def belowS:List St→Nat
  | []=>0
  | a :: r=>X.sizes a.x.args+X.sizes a.y.args+St.wts a.body+St.wts a.els+belowS r
theorem belowS_nil:belowS [] = 0:=by rw [belowS]
theorem belowS_cons (a:St) (r:List St):belowS (a :: r)=X.sizes a.x.args+X.sizes a.y.args+St.wts a.body+St.wts a.els+belowS r:=by rw [belowS]
theorem wts_below (l:List St):St.wts l=l.length+belowS l:=by
  induction l with
  | nil=>rw [wts_nil,belowS_nil];rfl
  | cons a r ih=>rw [wts_cons,belowS_cons,wt_parts,ih,List.length_cons];omega
def Left (left:Int) (n:Nat) (r:Int):Prop:=(n≤left→r=left - n)∧(left < n→r < 0)
def PX (x:X):Prop:=∀ (B:Nat) (left:Int) (w:World),0≤left→left≤262144→InW w B x →
  Calls Tryz.prog 31 #[x.s,.int .i64 left] w fun e w'=>(∃ r:Int,e = .returned (.int .i64 r)∧Left left (X.sizes x.args) r ∧ -140737488351232≤r∧r≤262144)∧w=w'
theorem exprs_mk (h:Hd) (s:Value) (xs:List X) (ih:∀ a ∈ xs,PX a):PX (.mk h s xs):=by
  intro B left w hl0 hl1 hI
  have hroom:=lies_room hI
  obtain⟨hok,hin⟩:=in_kids hI
  obtain⟨ao,cap,rfl,hlen,hgo⟩:=lies_form hI
  obtain⟨N,hN⟩:∃ N,N=xs.length:=⟨_,rfl⟩
  show Calls Tryz.prog 31 #[.slice ao xs.length cap,.int .i64 left] w fun e w'=>(∃ r:Int,e = .returned (.int .i64 r)∧Left left (X.sizes xs) r ∧ -140737488351232≤r∧r≤262144)∧w=w'
  obtain⟨S,hS⟩:∃ S,S=X.sizes xs:=⟨_,rfl⟩
  have hSN:S=N+under xs:=by rw [hS,sizes_under,hN]
  rw [← hS,← hN]
  rw [← hN] at hlen hgo hroom
  have HI:=hid hI
  have HIH:=hid ih
  have HIN:=hid hin
  have HG:=hid hgo
  have HN:=hid hN
  have HSN:=hid hSN
  clear hI ih hin hgo hN hS hok hSN
  go_enter Tryz.func31,Tryz.ntmps31
  go_wp2_with fail
  go_loop [1,5] (fun l i=>∃ p:Nat,p≤N∧i = .int .i64 p∧∃ r:Int,l = .int .i64 r ∧ -140737488351232≤r∧r≤262144∧((0≤r∧left - (S:Int)=r - (under (xs.drop p):Int)) ∨ (r < 0∧left < (S:Int)))) (fun _ i=>N - (intOf i).toNat)
  case atStart =>
    refine⟨0,by omega,rfl,left - N,by first|rfl|go_num,by omega,by omega, ?_⟩
    have:=HSN.out
    rw [List.drop_zero]
    omega
  case round =>
    obtain⟨p,hp,rfl,r,rfl,hr0,hr1,hr⟩:=hrel
    have HR:=hid hr
    clear hr
    by_cases hlt:p < N∧0≤r
    · obtain⟨hlt2,hrp⟩:=hlt
      have hpx:p < xs.length:=by rw [← HN.out];exact hlt2
      obtain⟨g,off,rfl,hg⟩:=HG.out (by omega)
      obtain⟨ao2,n2,c2,ea,p0,p1,p2,p3,p4,p5,p6⟩:=kidk HI.out rfl p hpx
      have hma:=List.getElem_mem hpx
      have hdr:=List.drop_eq_getElem_cons hpx
      have hPX:=HIH.out _ hma B r w hrp hr1 (HIN.out _ hma)
      have hun:under (xs.drop p)=X.sizes xs[p].args+under (xs.drop (p+1)):=by rw [hdr,under_cons]
      rw [ea] at hPX
      generalize xs[p] = a at *
      have HPX:=hid hPX
      have HU:=hid hun
      clear p0 p1 p2 p3 p4 p5 hma hdr hPX hun ea
      go_wp2_with fail
      refine HPX.out.mono ?_;rintro e w2 ⟨⟨r2,rfl,hL,hr2,hr3⟩,rfl⟩
      have HL:=hid hL
      clear hL p6
      go_wp2_with fail
      go_round
      case rel =>
        refine⟨p+1,by omega,by go_num,r2,rfl,hr2,hr3, ?_⟩
        have h1:=HR.out
        have h2:=HU.out
        obtain⟨h3,h4⟩:=HL.out
        by_cases hle:((X.sizes a.args:Nat):Int)≤r
        · have:=h3 hle
          left
          omega
        · have:=h4 (by omega)
          right
          omega
      case measure=>simp [intOf];omega
    · have HF:=hid (show Left left S r by
        have h1:=HR.out
        unfold Left
        by_cases hrp:0≤r
        · have hpN:¬ p < N:=fun h=>hlt ⟨h,hrp⟩
          rw [List.drop_eq_nil_of_le (by rw [← HN.out];omega),under_nil] at h1
          omega
        · omega)
      by_cases hpN:p < N
      · have hrp:¬ 0≤r:=fun h=>hlt ⟨hpN,h⟩
        clear hlt
        go_wp2_with fail
        go_ret
        exact⟨⟨r,rfl,HF.out,hr0,hr1⟩,rfl⟩
      · clear hlt
        go_wp2_with fail
        go_ret
        exact⟨⟨r,rfl,HF.out,hr0,hr1⟩,rfl⟩
theorem exprs_all:∀ x,PX x:=X.ind exprs_mk
/-! ### Statements -/
def PZ (l:List St):Prop:=∀ (B:Nat) (v:Value) (left:Int) (w:World),-140737488351232≤left→left≤262144→LiesG St.cells 21 w B v l→(∀ a ∈ l,SIn w B a) →
  Calls Tryz.prog 13 #[v,.int .i64 left] w fun e w'=>(∃ r:Int,e = .returned (.int .i64 r)∧Left left (St.wts l) r ∧ -281474976710656≤r∧r≤262144)∧w=w'
theorem sin_all {w:World} {B:Nat} {a:St} (h:SIn w B a):InW w B a.x∧InW w B a.y∧LiesG St.cells 21 w B a.bv a.body∧LiesG St.cells 21 w B a.ev a.els∧(∀ x ∈ a.body,SIn w B x)∧∀ x ∈ a.els,SIn w B x:=by
  cases h with
  | mk _ _ _ _ _ _ _ _ h2 h3 h4 h5 h6 h7=>exact⟨h2,h3,h4,h5,h6,h7⟩
theorem left_neg {left:Int} {n:Nat} {r:Int} (h:Left left n r) (hr:r < 0):left < n:=by
  by_cases hle:(n:Int)≤left
  · have:=h.1 hle;omega
  · omega
theorem left_pos {left:Int} {n:Nat} {r:Int} (h:Left left n r) (hr:0≤r):r=left - n:=by
  by_cases hle:(n:Int)≤left
  · exact h.1 hle
  · have:=h.2 (by omega);omega
theorem stmts_of (l:List St) (ih:∀ a ∈ l,PZ a.body∧PZ a.els):PZ l:=by
  intro B v left w hl0 hl1 hL hI
  have hroom:=hL.room
  obtain⟨ao,cap,rfl,hlen,hgo⟩:=hL.form
  obtain⟨N,hN⟩:∃ N,N=l.length:=⟨_,rfl⟩
  obtain⟨S,hS⟩:∃ S,S=St.wts l:=⟨_,rfl⟩
  have hSN:S=N+belowS l:=by rw [hS,wts_below,hN]
  rw [← hS,← hN]
  rw [← hN] at hlen hgo hroom
  have HL:=hid hL
  have HIN:=hid hI
  have HIH:=hid ih
  have HG:=hid hgo
  have HN:=hid hN
  have HSN:=hid hSN
  clear hL hI ih hgo hN hS hSN
  go_enter Tryz.func13,Tryz.ntmps13
  go_wp2_with fail
  go_loop [1,5] (fun l2 i=>∃ p:Nat,p≤N∧i = .int .i64 p∧∃ r:Int,l2 = .int .i64 r ∧ -281474976710656≤r∧r≤262144∧((0≤r∧left - (S:Int)=r - (belowS (l.drop p):Int)) ∨ (r < 0∧left < (S:Int)))) (fun _ i=>N - (intOf i).toNat)
  case atStart =>
    refine⟨0,by omega,rfl,left - N,by first|rfl|go_num,by omega,by omega, ?_⟩
    have:=HSN.out
    rw [List.drop_zero]
    omega
  case round =>
    obtain⟨p,hp,rfl,r,rfl,hr0,hr1,hr⟩:=hrel
    have HR:=hid hr
    clear hr
    by_cases hlt:p < N∧0≤r
    · obtain⟨hlt2,hrp⟩:=hlt
      have hpx:p < l.length:=by rw [← HN.out];exact hlt2
      obtain⟨g,off,rfl,hg⟩:=HG.out (by omega)
      have hat:=(HL.out.at rfl p hpx).2
      have hma:=List.getElem_mem hpx
      have hdr:=List.drop_eq_getElem_cons hpx
      have hun:belowS (l.drop p)=X.sizes l[p].x.args+X.sizes l[p].y.args+St.wts l[p].body+St.wts l[p].els+belowS (l.drop (p+1)):=by rw [hdr,belowS_cons]
      have hIa:=sin_all (HIN.out _ hma)
      have hPa:=HIH.out _ hma
      generalize l[p] = a at *
      have p11:=hat 11 a.x.s (by cases a;rfl)
      have p18:=hat 18 a.y.s (by cases a;rfl)
      have p19:=hat 19 a.bv (by cases a;rfl)
      have p20:=hat 20 a.ev (by cases a;rfl)
      obtain⟨hx,hy,hL1,hL2,hI1,hI2⟩:=hIa
      obtain⟨xo,xn,xc,ex⟩:=slice_of hx
      obtain⟨yo,yn,yc,ey⟩:=slice_of hy
      obtain⟨bo,bc,eb,-⟩:=hL1.form
      obtain⟨eo,ec,ee,-⟩:=hL2.form
      have hcx:=fun left h0 h1=>exprs_all a.x B left w h0 h1 hx
      have hcy:=fun left h0 h1=>exprs_all a.y B left w h0 h1 hy
      have hcb:=fun left h0 h1=>hPa.1 B a.bv left w h0 h1 hL1 hI1
      have hce:=fun left h0 h1=>hPa.2 B a.ev left w h0 h1 hL2 hI2
      rw [ex] at p11 hcx
      rw [ey] at p18 hcy
      rw [eb] at p19 hcb
      rw [ee] at p20 hce
      have HX:=hid hcx
      have HY:=hid hcy
      have HB:=hid hcb
      have HE:=hid hce
      have HU:=hid hun
      clear hat hma hdr hun hPa hx hy hL1 hL2 hI1 hI2 ex ey eb ee hcx hcy hcb hce
      go_wp2_with fail
      refine (HX.out r hrp hr1).mono ?_;rintro e w2 ⟨⟨r1,rfl,hL1,hb1,hc1⟩,rfl⟩
      have HL1:=hid hL1
      clear hL1
      by_cases hp1:0≤r1
      case neg =>
        have hn1:r1 < 0:=by omega
        clear hp1
        go_wp2_with fail
        go_round
        case rel =>
          refine⟨p+1,by omega,by go_num,r1,rfl,by omega,by omega, ?_⟩
          have h1:=HR.out
          have h2:=HU.out
          have g1:=left_neg HL1.out hn1
          right
          omega
        case measure=>simp [intOf];omega
      go_wp2_with fail
      refine (HY.out r1 hp1 hc1).mono ?_;rintro e w3 ⟨⟨r2,rfl,hL2,hb2,hc2⟩,rfl⟩
      have HL2:=hid hL2
      clear hL2
      by_cases hp2:0≤r2
      case neg =>
        have hn2:r2 < 0:=by omega
        clear hp2
        go_wp2_with fail
        go_round
        case rel =>
          refine⟨p+1,by omega,by go_num,r2,rfl,by omega,by omega, ?_⟩
          have h1:=HR.out
          have h2:=HU.out
          have g1:=left_pos HL1.out hp1
          have g2:=left_neg HL2.out hn2
          right
          omega
        case measure=>simp [intOf];omega
      go_wp2_with fail
      refine (HB.out r2 (by omega) hc2).mono ?_;rintro e w4 ⟨⟨r3,rfl,hL3,hb3,hc3⟩,rfl⟩
      have HL3:=hid hL3
      clear hL3
      by_cases hp3:0≤r3
      case neg =>
        have hn3:r3 < 0:=by omega
        clear hp3
        go_wp2_with fail
        go_round
        case rel =>
          refine⟨p+1,by omega,by go_num,r3,rfl,by omega,by omega, ?_⟩
          have h1:=HR.out
          have h2:=HU.out
          have g1:=left_pos HL1.out hp1
          have g2:=left_pos HL2.out hp2
          have g3:=left_neg HL3.out hn3
          right
          omega
        case measure=>simp [intOf];omega
      go_wp2_with fail
      refine (HE.out r3 (by omega) hc3).mono ?_;rintro e w5 ⟨⟨r4,rfl,hL4,hb4,hc4⟩,rfl⟩
      have HL4:=hid hL4
      clear hL4
      go_wp2_with fail
      go_round
      case rel =>
        refine⟨p+1,by omega,by go_num,r4,rfl,by omega,by omega, ?_⟩
        have h1:=HR.out
        have h2:=HU.out
        have g1:=left_pos HL1.out hp1
        have g2:=left_pos HL2.out hp2
        have g3:=left_pos HL3.out hp3
        by_cases hp4:0≤r4
        · have g4:=left_pos HL4.out hp4
          left
          omega
        · have g4:=left_neg HL4.out (by omega)
          right
          omega
      case measure=>simp [intOf];omega
    · have HF:=hid (show Left left S r by
        have h1:=HR.out
        unfold Left
        by_cases hrp:0≤r
        · have hpN:¬ p < N:=fun h=>hlt ⟨h,hrp⟩
          rw [List.drop_eq_nil_of_le (by rw [← HN.out];omega),belowS_nil] at h1
          omega
        · omega)
      by_cases hpN:p < N
      · have hrp:¬ 0≤r:=fun h=>hlt ⟨hpN,h⟩
        clear hlt
        go_wp2_with fail
        go_ret
        exact⟨⟨r,rfl,HF.out,hr0,hr1⟩,rfl⟩
      · clear hlt
        go_wp2_with fail
        go_ret
        exact⟨⟨r,rfl,HF.out,hr0,hr1⟩,rfl⟩
theorem stmts_parts:∀ a:St,PZ a.body∧PZ a.els:=by
  refine St.ind fun h x y bv ev b e ih1 ih2=>?_
  exact⟨stmts_of b ih1,stmts_of e ih2⟩
theorem stmts_all (l:List St):PZ l:=stmts_of l fun a _=>stmts_parts a
theorem counted_neg (r:Int) (_h:r < 0) (w:World):Calls Tryz.prog 14 #[.int .i64 r] w fun e w'=>e = .returned (.int .i64 262145)∧w=w':=by
  go_enter Tryz.func14,Tryz.ntmps14
  go_wp2_with fail
  go_ret
  exact⟨rfl,rfl⟩
theorem counted_pos (r:Int) (h0:¬ r < 0) (h1:r≤262144) (w:World):Calls Tryz.prog 14 #[.int .i64 r] w fun e w'=>e = .returned (.int .i64 (262144 - r))∧w=w':=by
  go_enter Tryz.func14,Tryz.ntmps14
  go_wp2_with fail
  go_ret
  exact⟨rfl,rfl⟩
end Go.Proofs.YtdhieihcmnpneaaGreatDoor
/- How much a whole program has in it, as the statements' own functions count it; and whether that is too much. -/
namespace Go.Proofs.YtdhieihcmnpneaaGreatDoor
open Lib (hid)
set_option maxRecDepth 100000
set_option maxHeartbeats 8000000
open Go.RowKit
def fieldsN:List Rc→Nat
  | []=>0
  | r :: l=>r.fields.length+fieldsN l
def bodiesN:List Fn→Nat
  | []=>0
  | f :: l=>f.params.length+St.wts f.body+bodiesN l
def listsN:List Th→Nat
  | []=>0
  | t :: l=>St.wts t.list+listsN l
def sizeP (p:Pr):Nat:=p.e.shared.length+p.e.records.length+p.e.funcs.length+p.threads.length+fieldsN p.e.records+bodiesN p.e.funcs+listsN p.threads
theorem fieldsN_append:∀ a b:List Rc,fieldsN (a ++ b)=fieldsN a+fieldsN b
  | [],b=>by simp [fieldsN]
  | x :: r,b=>by rw [List.cons_append,fieldsN,fieldsN,fieldsN_append r b];omega
theorem bodiesN_append:∀ a b:List Fn,bodiesN (a ++ b)=bodiesN a+bodiesN b
  | [],b=>by simp [bodiesN]
  | x :: r,b=>by rw [List.cons_append,bodiesN,bodiesN,bodiesN_append r b];omega
theorem listsN_append:∀ a b:List Th,listsN (a ++ b)=listsN a+listsN b
  | [],b=>by simp [listsN]
  | x :: r,b=>by rw [List.cons_append,listsN,listsN,listsN_append r b];omega
theorem fieldsN_take (l:List Rc) (k:Nat) (h:k < l.length):fieldsN (l.take (k+1))=fieldsN (l.take k)+l[k].fields.length:=by
  rw [List.take_succ_eq_append_getElem h,fieldsN_append,fieldsN,fieldsN];omega
theorem bodiesN_take (l:List Fn) (k:Nat) (h:k < l.length):bodiesN (l.take (k+1))=bodiesN (l.take k)+(l[k].params.length+St.wts l[k].body):=by
  rw [List.take_succ_eq_append_getElem h,bodiesN_append,bodiesN,bodiesN];omega
theorem listsN_take (l:List Th) (k:Nat) (h:k < l.length):listsN (l.take (k+1))=listsN (l.take k)+St.wts l[k].list:=by
  rw [List.take_succ_eq_append_getElem h,listsN_append,listsN,listsN];omega
theorem prog4 (a b c d:Value) {w:World} {g:Nat} {T:TypeId} {fr:Nat × Nat} (h:w.heap[g]? = some (.cells #[a,b,c,d] T fr)) :
    w.cell? ⟨g,0,none⟩ = some a∧w.cell? ⟨g,1,none⟩ = some b∧w.cell? ⟨g,2,none⟩ = some c∧w.cell? ⟨g,3,none⟩ = some d:=
  ⟨by rw [Lib.cell_of_heap h];rfl,by rw [Lib.cell_of_heap h];rfl,by rw [Lib.cell_of_heap h];rfl,by rw [Lib.cell_of_heap h];rfl⟩
def SizeE (C:Nat) (e:Ending):Prop:=∃ n:Int,e = .returned (.int .i64 n)∧0≤n∧n≤262145∧(n≤262144→C≤262144)
def Lft (K:Nat) (r:Int):Prop:=0≤r→r=262144 - (K:Int)
theorem psize_any (P:Pr) (B:Nat) (w:World) (hI:PIn w B P) (hBw:B≤w.heap.size) :
    Calls Tryz.prog 5 #[.agg #[P.e.rv,P.e.sv,P.e.fv,P.tv]] w fun e w'=>SizeE (sizeP P) e∧Below w.heap.size w w':=by
  obtain⟨C,hC⟩:∃ C,C=sizeP P:=⟨_,rfl⟩
  have hCC:=hC
  unfold sizeP at hC
  rw [← hCC]
  clear hCC
  have r1:=hI.e.rlies.room
  have r2:=hI.e.slies.room
  have r3:=hI.e.flies.room
  have r4:=hI.tlies.room
  obtain⟨ro,rc,er,hrl,hrg⟩:=hI.e.rlies.form
  obtain⟨so,sc,es,hsl,-⟩:=hI.e.slies.form
  obtain⟨fo,fc,ef,hfl,hfg⟩:=hI.e.flies.form
  obtain⟨to,tc,et,htl,htg⟩:=hI.tlies.form
  have HRL:=hid hI.e.rlies
  have HRI:=hid hI.e.records
  have HFL:=hid hI.e.flies
  have HFI:=hid hI.e.funcs
  have HTL:=hid hI.tlies
  have HTI:=hid hI.threads
  clear hI
  obtain⟨⟨rv,rs,sv,ss,fv,fs⟩,tv,ts⟩:=P
  simp only at *
  subst er es ef et
  obtain⟨N1,hN1⟩:∃ N,N=rs.length:=⟨_,rfl⟩
  obtain⟨N2,hN2⟩:∃ N,N=ss.length:=⟨_,rfl⟩
  obtain⟨N3,hN3⟩:∃ N,N=fs.length:=⟨_,rfl⟩
  obtain⟨N4,hN4⟩:∃ N,N=ts.length:=⟨_,rfl⟩
  rw [← hN1,← hN2,← hN3,← hN4] at hC
  rw [← hN1,← hN2,← hN3,← hN4]
  rw [← hN1] at hrl hrg HRL r1
  rw [← hN2] at hsl r2
  rw [← hN3] at hfl hfg HFL r3
  rw [← hN4] at htl htg HTL r4
  obtain⟨W0,hW0⟩:∃ W0,W0=w.alloc (.cells #[.slice ro N1 rc,.slice so N2 sc,.slice fo N3 fc,.slice to N4 tc] 27):=⟨_,rfl⟩
  have hB0:Below w.heap.size w W0:=by rw [hW0];exact below_box w _
  have hlt0:w.heap.size+1=W0.heap.size:=by rw [hW0];simp
  have hO:W0.heap[w.heap.size]? = some (.cells #[.slice ro N1 rc,.slice so N2 sc,.slice fo N3 fc,.slice to N4 tc] 27 (0,0)):=by rw [hW0];exact (MapKept.heap_alloc _ _).1
  obtain⟨q0,q1,q2,q3⟩:=prog4 _ _ _ _ hO
  rw [hW0] at q0 q1 q2 q3
  have HC:=hid hC
  have HN1:=hid hN1
  have HN3:=hid hN3
  have HN4:=hid hN4
  have HG1:=hid hrg
  have HG3:=hid hfg
  have HG4:=hid htg
  have HB0:=hid hB0
  have HZ0:=hid hlt0
  have HO:=hid hO
  have HW0:=hid hW0
  clear hC hN1 hN2 hN3 hN4 hrg hfg htg hB0 hlt0 hO hW0
  go_enter Tryz.func5,Tryz.ntmps5
  go_wp2_with fail
  rw [← HW0.out]
  clear q0 q1 q2 q3
  go_loopw [3,4] (fun m q wr=>∃ k:Nat,k≤N1∧q = .int .i64 k∧∃ r:Int,m = .int .i64 r ∧ -600000000000000≤r∧r≤262144∧Hid (Lft (N1+N2+N3+N4+fieldsN (rs.take k)) r)∧Below W0.heap.size W0 wr) (fun _ q _=>N1 - (intOf q).toNat)
  case atStart=>exact⟨0,by omega,rfl,262144 - (N2:Int) - (N1:Int) - (N3:Int) - (N4:Int),rfl,by omega,by omega,hid (fun _=>by simp only [List.take_zero,fieldsN];omega),Below.refl _ _⟩
  case round =>
    obtain⟨k,hkN,rfl,r,rfl,hr0,hr1,HK,hB⟩:=hrel
    have hsr:=hB.size
    have hBw':Below w.heap.size w wr:=HB0.out.trans (hB.mono (by have:=HZ0.out;omega))
    have hsz:w.heap.size < wr.heap.size:=by have:=HZ0.out;omega
    have hOr:=(hB.block w.heap.size (by have:=HZ0.out;omega)).trans HO.out
    obtain⟨q0,q1,q2,q3⟩:=prog4 _ _ _ _ hOr
    clear hOr
    by_cases hlt2:k < N1∧0≤r
    · obtain⟨hlt2,hrp⟩:=hlt2
      obtain⟨g,off,rfl,hg⟩:=HG1.out (by omega)
      have hka:k < rs.length:=by rw [← HN1.out];exact hlt2
      obtain⟨a,haa⟩:∃ r,rs[k]? = some r:=⟨_,List.getElem?_eq_getElem hka⟩
      have hga:rs[k] = a:=(List.getElem?_eq_some_iff.1 haa).2
      have hat:=((HRL.out.below (hBw'.mono hBw)).at rfl k hka).2
      have ha:=HRI.out a (List.mem_of_getElem? haa)
      have hT:=fieldsN_take rs k hka
      rw [hga] at hat hT
      have hgs:g < wr.heap.size:=by omega
      have p1:wr.cell? ⟨g,off+k * 2+1,none⟩ = some a.v:=hat 1 a.v rfl
      obtain⟨ao,ac,ea,-⟩:=ha.lies.form
      have hra:=ha.lies.room
      rw [ea] at p1
      have HT:=hid hT
      have HB:=hid hB
      clear haa hka hga hat ha hT ea hB hBw'
      go_wp2_with fail
      go_roundw
      case rel=>exact⟨k+1,by omega,by go_num,r - (a.fields.length:Int),by go_num,by omega,by omega,hid (fun _=>by have:=HK.out hrp;have:=HT.out;omega),HB.out⟩
      case measure=>simp [intOf];omega
    · have HK2:=hid (show Lft (N1+N2+N3+N4+fieldsN rs) r from fun hr=>by
        have h1:=HK.out hr
        rw [List.take_of_length_le (by rw [← HN1.out];have:¬ k < N1:=fun h=>hlt2 ⟨h,hr⟩;omega)] at h1
        exact h1)
      have hor:¬ k < N1 ∨ (k < N1∧r < 0):=by
        by_cases h:k < N1
        · exact .inr ⟨h,by by_cases h2:0≤r;exact absurd ⟨h,h2⟩ hlt2;omega⟩
        · exact .inl h
      have HB2:=hid hB
      clear hlt2 HK hB hBw'
      rcases hor with hor|⟨hor,hneg⟩
      all_goals
        go_wp2_with fail
        clear hor q0 q1 q2 q3
        rename_i wq
        go_loopw [3,5] (fun m q wr=>∃ k:Nat,k≤N3∧q = .int .i64 k∧∃ r:Int,m = .int .i64 r ∧ -600000000000000≤r∧r≤262144∧Hid (Lft (N1+N2+N3+N4+fieldsN rs+bodiesN (fs.take k)) r)∧Below W0.heap.size W0 wr) (fun _ q _=>N3 - (intOf q).toNat)
        case atStart=>exact⟨0,by omega,rfl,r,rfl,hr0,hr1,hid (fun hr=>by have:=HK2.out hr;simp only [List.take_zero,bodiesN];omega),HB2.out⟩
        case round =>
          obtain⟨k,hkN,rfl,r,rfl,hr0,hr1,HK,hB⟩:=hrel
          have hsr:=hB.size
          have hBw':Below w.heap.size w wr:=HB0.out.trans (hB.mono (by have:=HZ0.out;omega))
          have hsz:w.heap.size < wr.heap.size:=by have:=HZ0.out;omega
          have hOr:=(hB.block w.heap.size (by have:=HZ0.out;omega)).trans HO.out
          obtain⟨q0,q1,q2,q3⟩:=prog4 _ _ _ _ hOr
          clear hOr
          by_cases hlt2:k < N3∧0≤r
          · obtain⟨hlt2,hrp⟩:=hlt2
            obtain⟨g,off,rfl,hg⟩:=HG3.out (by omega)
            have hka:k < fs.length:=by rw [← HN3.out];exact hlt2
            obtain⟨a,haa⟩:∃ r,fs[k]? = some r:=⟨_,List.getElem?_eq_getElem hka⟩
            have hga:fs[k] = a:=(List.getElem?_eq_some_iff.1 haa).2
            have hat:=((HFL.out.below (hBw'.mono hBw)).at rfl k hka).2
            have ha:=HFI.out a (List.mem_of_getElem? haa)
            have hT:=bodiesN_take fs k hka
            rw [hga] at hat hT
            have hgs:g < wr.heap.size:=by omega
            have p1:wr.cell? ⟨g,off+k * 6+1,none⟩ = some a.pv:=hat 1 a.pv rfl
            have p5:wr.cell? ⟨g,off+k * 6+5,none⟩ = some a.bv:=hat 5 a.bv rfl
            obtain⟨ao,ac,ea,-⟩:=ha.lies.form
            obtain⟨bo,bc,eb,-⟩:=ha.blies.form
            have hra:=ha.lies.room
            have hST:=stmts_all a.body B a.bv (r - (a.params.length:Int)) wr.drew (by omega) (by omega) (ha.blies.below ((hBw'.mono hBw).drew)) (fun x hx=>SIn.keeps ((hBw'.mono hBw).drew) _ (ha.body x hx))
            rw [ea] at p1
            rw [eb] at p5 hST
            have HST:=hid hST
            have HT:=hid hT
            have HB:=hid hB
            clear haa hka hga hat ha hT ea eb hB hBw' hST
            go_wp2_with fail
            refine wp_region_held_drew (S:=SameTo (wr.heap.size) wr) (by kernel_rfl) (SameTo.drew _ _) (fun hSw=>?_)
            refine wt (i:=0) (oi:={ dst:=some 54,op:=Op.fieldAddr 27 (Operand.tmp 1) 2,type:=0,pos := "size.go:70", after:=#[],guard:=none }) (v:=.pointer (some ⟨w.heap.size,2,none⟩)) (fun W hW=>?_) hSw ?_
            · first|(go_simp;done)|rfl
            try simp only [Act.put]
            refine wt (i:=1) (oi:={ dst:=some 55,op:=Op.load 24 (Operand.tmp 54),type:=24,pos := "size.go:70", after:=#[gd 0],guard:=none }) (v:=.slice (some ⟨g,off,none⟩) N3 fc) (fun W hW=>?_) hSw ?_
            · have q2:=hW.cell (by dsimp only;omega) q2
              first|(go_simp;done)|rfl
            try simp only [Act.put]
            refine wt (i:=2) (oi:={ dst:=some 56,op:=Op.move (Operand.tmp 5),type:=3,pos := "size.go:70", after:=#[],guard:=none }) (v:=.int .i64 (k:Int)) (fun W hW=>?_) hSw ?_
            · first|(go_simp;done)|rfl
            try simp only [Act.put]
            refine wt (i:=3) (oi:={ dst:=some 57,op:=Op.indexAddr 24 (Operand.tmp 55) (Operand.tmp 56),type:=0,pos := "size.go:70", after:=#[gd 1,gd 2],guard:=none }) (v:=.pointer (some ⟨g,off+k * 6,none⟩)) (fun W hW=>?_) hSw ?_
            · first|(go_simp;done)|rfl
            try simp only [Act.put]
            refine wt (i:=4) (oi:={ dst:=some 58,op:=Op.fieldAddr 33 (Operand.tmp 57) 3,type:=0,pos := "size.go:70", after:=#[gd 3],guard:=none }) (v:=.pointer (some ⟨g,off+k * 6+5,none⟩)) (fun W hW=>?_) hSw ?_
            · first|(go_simp;done)|rfl
            try simp only [Act.put]
            refine wt (i:=5) (oi:={ dst:=some 59,op:=Op.load 31 (Operand.tmp 58),type:=31,pos := "size.go:70", after:=#[gd 4],guard:=none }) (v:=.slice bo a.body.length bc) (fun W hW=>?_) hSw ?_
            · have p5:=hW.cell (by dsimp only;omega) p5
              first|(go_simp;done)|rfl
            try simp only [Act.put]
            refine wt (i:=6) (oi:={ dst:=some 60,op:=Op.move (Operand.tmp 3),type:=3,pos := "size.go:70", after:=#[],guard:=none }) (v:=.int .i64 r) (fun W hW=>?_) hSw ?_
            · first|(go_simp;done)|rfl
            try simp only [Act.put]
            refine wt (i:=7) (oi:={ dst:=some 61,op:=Op.fieldAddr 27 (Operand.tmp 1) 2,type:=0,pos := "size.go:70", after:=#[],guard:=none }) (v:=.pointer (some ⟨w.heap.size,2,none⟩)) (fun W hW=>?_) hSw ?_
            · first|(go_simp;done)|rfl
            try simp only [Act.put]
            refine wt (i:=8) (oi:={ dst:=some 62,op:=Op.load 24 (Operand.tmp 61),type:=24,pos := "size.go:70", after:=#[gd 7],guard:=none }) (v:=.slice (some ⟨g,off,none⟩) N3 fc) (fun W hW=>?_) hSw ?_
            · have q2:=hW.cell (by dsimp only;omega) q2
              first|(go_simp;done)|rfl
            try simp only [Act.put]
            refine wt (i:=9) (oi:={ dst:=some 63,op:=Op.move (Operand.tmp 5),type:=3,pos := "size.go:70", after:=#[],guard:=none }) (v:=.int .i64 (k:Int)) (fun W hW=>?_) hSw ?_
            · first|(go_simp;done)|rfl
            try simp only [Act.put]
            refine wt (i:=10) (oi:={ dst:=some 64,op:=Op.indexAddr 24 (Operand.tmp 62) (Operand.tmp 63),type:=0,pos := "size.go:70", after:=#[gd 8,gd 9],guard:=none }) (v:=.pointer (some ⟨g,off+k * 6,none⟩)) (fun W hW=>?_) hSw ?_
            · first|(go_simp;done)|rfl
            try simp only [Act.put]
            refine wt (i:=11) (oi:={ dst:=some 65,op:=Op.fieldAddr 33 (Operand.tmp 64) 1,type:=0,pos := "size.go:70", after:=#[gd 10],guard:=none }) (v:=.pointer (some ⟨g,off+k * 6+1,none⟩)) (fun W hW=>?_) hSw ?_
            · first|(go_simp;done)|rfl
            try simp only [Act.put]
            refine wt (i:=12) (oi:={ dst:=some 66,op:=Op.load 23 (Operand.tmp 65),type:=23,pos := "size.go:70", after:=#[gd 11],guard:=none }) (v:=.slice ao a.params.length ac) (fun W hW=>?_) hSw ?_
            · have p1:=hW.cell (by dsimp only;omega) p1
              first|(go_simp;done)|rfl
            try simp only [Act.put]
            refine wt (i:=13) (oi:={ dst:=some 67,op:=Op.call { callee:=Callee.builtin Builtin.len,args:=#[Operand.tmp 66],argTypes:=#[23] },type:=3,pos := "size.go:70", after:=#[gd 12],guard:=none }) (v:=.int .i64 (a.params.length:Int)) (fun W hW=>?_) hSw ?_
            · first|(go_simp;done)|rfl
            try simp only [Act.put]
            refine wt (i:=14) (oi:={ dst:=some 68,op:=Op.binOp BinOp.sub 3 (Operand.tmp 60) (Operand.tmp 67) 3,type:=3,pos := "size.go:70", after:=#[gd 6,gd 13],guard:=none }) (v:=.int .i64 (r - (a.params.length:Int))) (fun W hW=>?_) hSw ?_
            · (go_simp;exact IntWalk.i64_in _ (by omega))
            try simp only [Act.put]
            refine wpAnyH_ready (rs:=[15]) (by kernel_rfl) (by simp) ?_
            refine AllReadyH.cons (o:={ dst:=some 69,op:=Op.call { callee:=Callee.value (Operand.func 13),args:=#[Operand.tmp 59,Operand.tmp 68],argTypes:=#[31,3] },type:=3,pos := "size.go:70", after:=#[gd 5,gd 14],guard:=none }) rfl (fun K hK=>?_) AllReadyH.nil
            rw [if_pos (by rfl)]
            clear hSw
            go_simp
            refine HST.out.mono ?_;rintro e1 w1 ⟨⟨r2,rfl,hL2,hr2,hr3⟩,hw1⟩
            have hb1:Below wr.heap.size wr w1:=by rw [← hw1];exact (Below.refl _ _).drew
            refine hK.out _ _ (SameTo.of hb1) (fun hSw=>?_)
            clear hK K
            try simp only [Act.put,q1,q2,q3]
            refine wt (i:=16) (oi:={ dst:=some 3,op:=Op.assign (Operand.tmp 69),type:=3,pos := "size.go:70", after:=#[gd 15,gc 15,gp 0,gp 1,gp 2,gp 3,gp 4,gp 5,gp 6,gp 7,gp 8,gp 9,gp 10,gp 11,gp 12,gp 13,gp 14,gp 15],guard:=none }) (v:=.int .i64 r2) (fun W hW=>?_) hSw ?_
            · first|(go_simp;done)|rfl
            try simp only [Act.put]
            refine wpAnyH_done (by kernel_rfl) ?_ _
            have HB9:=hid (HB.out.trans (hb1.mono hsr))
            have HL2:=hid hL2
            clear hb1 hw1 hL2 p1 p5
            go_wp2_with fail
            go_roundw
            case rel=>exact⟨k+1,by omega,by go_num,r2,rfl,by omega,by omega,hid (fun h2=>by have:=HK.out hrp;have:=HT.out;have:=left_pos HL2.out h2;omega),HB9.out⟩
            case measure=>simp [intOf];omega
          · have HK2:=hid (show Lft (N1+N2+N3+N4+fieldsN rs+bodiesN fs) r from fun hr=>by
              have h1:=HK.out hr
              rw [List.take_of_length_le (by rw [← HN3.out];have:¬ k < N3:=fun h=>hlt2 ⟨h,hr⟩;omega)] at h1
              exact h1)
            have hor:¬ k < N3 ∨ (k < N3∧r < 0):=by
              by_cases h:k < N3
              · exact .inr ⟨h,by by_cases h2:0≤r;exact absurd ⟨h,h2⟩ hlt2;omega⟩
              · exact .inl h
            have HB2:=hid hB
            clear hlt2 HK hB hBw'
            rcases hor with hor|⟨hor,hneg⟩
            all_goals
              go_wp2_with fail
              clear hor q0 q1 q2 q3
              rename_i wp
              go_loopw [3,6] (fun m q wr=>∃ k:Nat,k≤N4∧q = .int .i64 k∧∃ r:Int,m = .int .i64 r ∧ -600000000000000≤r∧r≤262144∧Hid (Lft (N1+N2+N3+N4+fieldsN rs+bodiesN fs+listsN (ts.take k)) r)∧Below W0.heap.size W0 wr) (fun _ q _=>N4 - (intOf q).toNat)
              case atStart=>exact⟨0,by omega,rfl,r,rfl,hr0,hr1,hid (fun hr=>by have:=HK2.out hr;simp only [List.take_zero,listsN];omega),HB2.out⟩
              case round =>
                obtain⟨k,hkN,rfl,r,rfl,hr0,hr1,HK,hB⟩:=hrel
                have hsr:=hB.size
                have hBw':Below w.heap.size w wr:=HB0.out.trans (hB.mono (by have:=HZ0.out;omega))
                have hsz:w.heap.size < wr.heap.size:=by have:=HZ0.out;omega
                have hOr:=(hB.block w.heap.size (by have:=HZ0.out;omega)).trans HO.out
                obtain⟨q0,q1,q2,q3⟩:=prog4 _ _ _ _ hOr
                clear hOr
                by_cases hlt2:k < N4∧0≤r
                · obtain⟨hlt2,hrp⟩:=hlt2
                  obtain⟨g,off,rfl,hg⟩:=HG4.out (by omega)
                  have hka:k < ts.length:=by rw [← HN4.out];exact hlt2
                  obtain⟨a,haa⟩:∃ r,ts[k]? = some r:=⟨_,List.getElem?_eq_getElem hka⟩
                  have hga:ts[k] = a:=(List.getElem?_eq_some_iff.1 haa).2
                  have hat:=((HTL.out.below (hBw'.mono hBw)).at rfl k hka).2
                  have ha:=HTI.out a (List.mem_of_getElem? haa)
                  have hT:=listsN_take ts k hka
                  rw [hga] at hat hT
                  have hgs:g < wr.heap.size:=by omega
                  have p0:wr.cell? ⟨g,off+k * 1,none⟩ = some a.v:=hat 0 a.v rfl
                  rw [Nat.mul_one] at p0
                  obtain⟨bo,bc,eb,-⟩:=ha.lies.form
                  have hST:=stmts_all a.list B a.v r wr (by omega) (by omega) (ha.lies.below (hBw'.mono hBw)) (fun x hx=>SIn.keeps (hBw'.mono hBw) _ (ha.list x hx))
                  rw [eb] at p0 hST
                  have HST:=hid hST
                  have HT:=hid hT
                  have HB:=hid hB
                  clear haa hka hga hat ha hT eb hB hBw' hST
                  go_wp2_with fail
                  refine HST.out.mono ?_;rintro e1 w1 ⟨⟨r2,rfl,hL2,hr2,hr3⟩,rfl⟩
                  have HL2:=hid hL2
                  clear hL2 p0
                  go_wp2_with fail
                  go_roundw
                  case rel=>exact⟨k+1,by omega,by go_num,r2,rfl,by omega,by omega,hid (fun h2=>by have:=HK.out hrp;have:=HT.out;have:=left_pos HL2.out h2;omega),HB.out⟩
                  case measure=>simp [intOf];omega
                · have HK2:=hid (show Lft (N1+N2+N3+N4+fieldsN rs+bodiesN fs+listsN ts) r from fun hr=>by
                    have h1:=HK.out hr
                    rw [List.take_of_length_le (by rw [← HN4.out];have:¬ k < N4:=fun h=>hlt2 ⟨h,hr⟩;omega)] at h1
                    exact h1)
                  have hor:¬ k < N4 ∨ (k < N4∧r < 0):=by
                    by_cases h:k < N4
                    · exact .inr ⟨h,by by_cases h2:0≤r;exact absurd ⟨h,h2⟩ hlt2;omega⟩
                    · exact .inl h
                  have HB2:=hid hB
                  have HB9:=hid hBw'
                  clear hlt2 HK hB hBw'
                  by_cases hr:r < 0
                  · rcases hor with hor|⟨hor,-⟩
                    all_goals
                      go_wp2_with fail
                      refine (counted_neg r hr _).mono ?_;rintro e w3 ⟨rfl,rfl⟩
                      go_wp2_with fail
                      go_ret
                      exact⟨⟨262145,rfl,by omega,by omega,fun h=>absurd h (by decide)⟩,HB9.out⟩
                  · rcases hor with hor|⟨-,hor⟩
                    · have hrp:0≤r:=by omega
                      have hf:=HK2.out hrp
                      have HF:=hid hf
                      clear hf
                      go_wp2_with fail
                      refine (counted_pos r (by omega) hr1 _).mono ?_;rintro e w3 ⟨rfl,rfl⟩
                      go_wp2_with fail
                      go_ret
                      exact⟨⟨262144 - r,rfl,by omega,by omega,fun _=>by have:=HF.out;have:=HC.out;omega⟩,HB9.out⟩
                    · exact absurd hor (by omega)
end Go.Proofs.YtdhieihcmnpneaaGreatDoor
