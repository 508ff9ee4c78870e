/- What is wrong with a statement's own form, as the show layer's checker finds it, kind by kind. -/
import Derived.Test.YtcibiiddigpnfaaRows
import Derived.Test.YtcibiiddigpnfaaTypForm0
namespace Go.Proofs.Ytcibiiddigpnfaa
open Lib (hid)
set_option maxRecDepth 100000
set_option maxHeartbeats 4000000
open Go.RowKit
theorem sfrm_1 (B c i:Nat) (r:Int) (tk tz xk xn xtk xtz yk yn ytk ytz:Int) (nm tn xm xtn ym ytn:ByteArray) (xo yo bo eo:Option Addr) (xl xc yl yc bl bc el ec:Nat) (w:World) (h:Ck B c i w) (hnm:nm.size≤9223372036854775807) (htn:tn.size≤9223372036854775807)
    (hr:r=sfR true (noneH ⟨yk,yn,ym,ytk,ytn,ytz⟩ yl) (decide (bl=0)) (decide (el=0)) (if isName nm.data.toList=true then tyForm tk tn.data.toList tz else 1)) :
    Calls Try.prog 86 #[.pointer (some ⟨c,0,none⟩),.agg #[.int .u8 1,.string nm,.int .u8 tk,.string tn,.int .i64 tz,.int .u8 xk,.int .i64 xn,.string xm,.int .u8 xtk,.string xtn,.int .i64 xtz,.slice xo xl xc,.int .u8 yk,.int .i64 yn,.string ym,.int .u8 ytk,.string ytn,.int .i64 ytz,.slice yo yl yc,.slice bo bl bc,.slice eo el ec]] w fun e w'=>e=frmE r (.agg #[.bool true,.int .u8 1,.bool false,.bool false,.bool false])∧Below w.heap.size w w':=by
  have hc:=h.lt
  obtain⟨-,-,m1,m2,-,c1,-,hM⟩:=h.reads
  have hml:=hM.lt
  have hl1:=look_s hM (k:=1) (v:=.agg #[.bool true,.int .u8 1,.bool false,.bool false,.bool false]) (by rfl) ((w.alloc (.cells #[.int .u8 1,.string nm,.int .u8 tk,.string tn,.int .i64 tz,.int .u8 xk,.int .i64 xn,.string xm,.int .u8 xtk,.string xtn,.int .i64 xtz,.slice xo xl xc,.int .u8 yk,.int .i64 yn,.string ym,.int .u8 ytk,.string ytn,.int .i64 ytz,.slice yo yl yc,.slice bo bl bc,.slice eo el ec] 64)).alloc (.cells #[.bool false,.int .u8 0,.bool false,.bool false,.bool false] 142)).drew (by show ((w.alloc _).alloc _).heap[m2]? = _;rw [Below.heap_alloc _ _ _ (by simp;omega)];exact Below.heap_alloc _ _ _ hml)
  have hl2:=look_s hM (k:=1) (v:=.agg #[.bool true,.int .u8 1,.bool false,.bool false,.bool false]) (by rfl) (((w.alloc (.cells #[.int .u8 1,.string nm,.int .u8 tk,.string tn,.int .i64 tz,.int .u8 xk,.int .i64 xn,.string xm,.int .u8 xtk,.string xtn,.int .i64 xtz,.slice xo xl xc,.int .u8 yk,.int .i64 yn,.string ym,.int .u8 ytk,.string ytn,.int .i64 ytz,.slice yo yl yc,.slice bo bl bc,.slice eo el ec] 64)).alloc (.cells #[.bool false,.int .u8 0,.bool false,.bool false,.bool false] 142)).alloc (.cells #[.bool false,.int .u8 0,.bool false,.bool false,.bool false] 142)).drew (by show (((w.alloc _).alloc _).alloc _).heap[m2]? = _;rw [Below.heap_alloc _ _ _ (by simp;omega),Below.heap_alloc _ _ _ (by simp;omega)];exact Below.heap_alloc _ _ _ hml)
  have c1a:((w.alloc (.cells #[.int .u8 1,.string nm,.int .u8 tk,.string tn,.int .i64 tz,.int .u8 xk,.int .i64 xn,.string xm,.int .u8 xtk,.string xtn,.int .i64 xtz,.slice xo xl xc,.int .u8 yk,.int .i64 yn,.string ym,.int .u8 ytk,.string ytn,.int .i64 ytz,.slice yo yl yc,.slice bo bl bc,.slice eo el ec] 64)).alloc (.cells #[.bool false,.int .u8 0,.bool false,.bool false,.bool false] 142)).cell? ⟨c,1,none⟩ = some (.map (some m2)):=by rw [World.cell?_alloc_lt _ _ _ (by simp;omega),World.cell?_alloc_lt _ _ _ hc];exact c1
  have c1b:(((w.alloc (.cells #[.int .u8 1,.string nm,.int .u8 tk,.string tn,.int .i64 tz,.int .u8 xk,.int .i64 xn,.string xm,.int .u8 xtk,.string xtn,.int .i64 xtz,.slice xo xl xc,.int .u8 yk,.int .i64 yn,.string ym,.int .u8 ytk,.string ytn,.int .i64 ytz,.slice yo yl yc,.slice bo bl bc,.slice eo el ec] 64)).alloc (.cells #[.bool false,.int .u8 0,.bool false,.bool false,.bool false] 142)).alloc (.cells #[.bool false,.int .u8 0,.bool false,.bool false,.bool false] 142)).cell? ⟨c,1,none⟩ = some (.map (some m2)):=by rw [World.cell?_alloc_lt _ _ _ (by simp;omega)];exact c1a
  obtain⟨W3,hW3⟩:∃ W3,W3=(((w.alloc (.cells #[.int .u8 1,.string nm,.int .u8 tk,.string tn,.int .i64 tz,.int .u8 xk,.int .i64 xn,.string xm,.int .u8 xtk,.string xtn,.int .i64 xtz,.slice xo xl xc,.int .u8 yk,.int .i64 yn,.string ym,.int .u8 ytk,.string ytn,.int .i64 ytz,.slice yo yl yc,.slice bo bl bc,.slice eo el ec] 64)).alloc (.cells #[.bool false,.int .u8 0,.bool false,.bool false,.bool false] 142)).alloc (.cells #[.bool true,.int .u8 1,.bool false,.bool false,.bool false] 142)).drew:=⟨_,rfl⟩
  have hz3:W3.heap.size=w.heap.size+3:=by rw [hW3];show (((w.alloc _).alloc _).alloc _).heap.size=_;simp
  have HB3:=hid (show Below w.heap.size w W3 by rw [hW3];exact (((below_box w _).alloc (by simp) _).alloc (by simp;omega) _).drew)
  have HS3:=hid (show W3.heap[w.heap.size]? = some (.cells #[.int .u8 1,.string nm,.int .u8 tk,.string tn,.int .i64 tz,.int .u8 xk,.int .i64 xn,.string xm,.int .u8 xtk,.string xtn,.int .i64 xtz,.slice xo xl xc,.int .u8 yk,.int .i64 yn,.string ym,.int .u8 ytk,.string ytn,.int .i64 ytz,.slice yo yl yc,.slice bo bl bc,.slice eo el ec] 64) by
    rw [hW3]
    show (((w.alloc _).alloc _).alloc _).heap[w.heap.size]? = _
    rw [Below.heap_alloc _ _ _ (by simp;omega),Below.heap_alloc _ _ _ (by simp)]
    exact (MapKept.heap_alloc _ _).1)
  have HZ3:=hid (show W3.heap[w.heap.size+1]? = some (.cells #[.bool false,.int .u8 0,.bool false,.bool false,.bool false] 142) by
    rw [hW3]
    show (((w.alloc _).alloc _).alloc _).heap[w.heap.size+1]? = _
    rw [Below.heap_alloc _ _ _ (by simp),show w.heap.size+1=(w.alloc (.cells #[.int .u8 1,.string nm,.int .u8 tk,.string tn,.int .i64 tz,.int .u8 xk,.int .i64 xn,.string xm,.int .u8 xtk,.string xtn,.int .i64 xtz,.slice xo xl xc,.int .u8 yk,.int .i64 yn,.string ym,.int .u8 ytk,.string ytn,.int .i64 ytz,.slice yo yl yc,.slice bo bl bc,.slice eo el ec] 64)).heap.size by simp]
    exact (MapKept.heap_alloc _ _).1)
  have HC3:=hid (show W3.heap[w.heap.size+1+1]? = some (.cells #[.bool true,.int .u8 1,.bool false,.bool false,.bool false] 142) by
    rw [hW3]
    show (((w.alloc _).alloc _).alloc _).heap[w.heap.size+1+1]? = _
    rw [show w.heap.size+1+1=((w.alloc (.cells #[.int .u8 1,.string nm,.int .u8 tk,.string tn,.int .i64 tz,.int .u8 xk,.int .i64 xn,.string xm,.int .u8 xtk,.string xtn,.int .i64 xtz,.slice xo xl xc,.int .u8 yk,.int .i64 yn,.string ym,.int .u8 ytk,.string ytn,.int .i64 ytz,.slice yo yl yc,.slice bo bl bc,.slice eo el ec] 64)).alloc (.cells #[.bool false,.int .u8 0,.bool false,.bool false,.bool false] 142)).heap.size by simp]
    exact (MapKept.heap_alloc _ _).1)
  have HW:=hid hW3
  obtain⟨ry,hry⟩:∃ b,b=(noneH ⟨yk,yn,ym,ytk,ytn,ytz⟩ yl):=⟨_,rfl⟩
  have hlb:(((bl:Nat):Int) == 0)=decide (bl=0):=len_eq bl
  obtain⟨rb,hrb⟩:∃ b,b=decide (bl=0):=⟨_,rfl⟩
  have hle:(((el:Nat):Int) == 0)=decide (el=0):=len_eq el
  obtain⟨ro,hro⟩:∃ b,b=decide (el=0):=⟨_,rfl⟩
  have HNM:=hid (name_any nm hnm)
  have HCT:=hid (ctype_any tk tz tn htn)
  obtain⟨f,hf⟩:∃ f,f=tyForm tk tn.data.toList tz:=⟨_,rfl⟩
  have hfc:=tyForm_cases tk tn.data.toList tz
  rw [← hf] at hfc
  obtain⟨rn,hrn⟩:∃ b,b=isName nm.data.toList:=⟨_,rfl⟩
  rw [← hry,← hrb,← hro,← hf,← hrn] at hr
  rw [← hrb] at hlb
  rw [← hro] at hle
  have HR:=hid hr
  have HRX:=hid (right_1 xk xn xtk xtz xm xtn xo xl xc W3)
  have HNY:=hid (fun w=>none_any ⟨yk,yn,ym,ytk,ytn,ytz⟩ yo yl yc w)
  have HYE:=hid hry
  clear hry
  clear hrb
  clear hro
  have HFE:=hid hf
  have HNE:=hid hrn
  clear hf hrn
  clear h hM hW3 hr
  go_enter Try.func86,Try.ntmps86
  go_wp2_with fail
  go_region
  all_goals
    rw [← HW.out]
    clear c1 c1a c1b hl1 hl2
    obtain⟨s0,s1,s2,s3,s4,s5,s6,s7,s8,s9,s10,s11,s12,s13,s14,s15,s16,s17,s18,s19,s20⟩:=own21 HS3.out
    obtain⟨z0,z1,z2,z3,z4⟩:=own5 HZ3.out
    obtain⟨c0,c1,c2,c3,c4⟩:=own5 HC3.out
    go_wp2_with fail
    refine (must_yes _).mono ?_;rintro e w' ⟨rfl,rfl⟩
    go_wp2_with fail
    refine HRX.out.mono ?_;rintro e w4 ⟨rfl,hb4⟩
    have hs4:=hb4.size
    have HS4:=hid ((hb4.block _ (by omega)).trans HS3.out)
    have HZ4:=hid ((hb4.block _ (by omega)).trans HZ3.out)
    have HC4:=hid ((hb4.block _ (by omega)).trans HC3.out)
    have HB4:=hid (HB3.out.trans (hb4.mono (by omega)))
    clear hb4
    clear s0 s1 s2 s3 s4 s5 s6 s7 s8 s9 s10 s11 s12 s13 s14 s15 s16 s17 s18 s19 s20 z0 z1 z2 z3 z4 c0 c1 c2 c3 c4
    obtain⟨s0,s1,s2,s3,s4,s5,s6,s7,s8,s9,s10,s11,s12,s13,s14,s15,s16,s17,s18,s19,s20⟩:=own21 HS4.out
    obtain⟨z0,z1,z2,z3,z4⟩:=own5 HZ4.out
    obtain⟨c0,c1,c2,c3,c4⟩:=own5 HC4.out
    go_wp2_with fail
    refine (must_yes _).mono ?_;rintro e w' ⟨rfl,rfl⟩
    go_wp2_with fail
    refine (HNY.out _).mono ?_;rintro e w5 ⟨rfl,hb5⟩
    rw [← HYE.out]
    have hs5:=hb5.size
    have HS5:=hid ((hb5.block _ (by omega)).trans HS4.out)
    have HZ5:=hid ((hb5.block _ (by omega)).trans HZ4.out)
    have HC5:=hid ((hb5.block _ (by omega)).trans HC4.out)
    have HB5:=hid (HB4.out.trans (hb5.mono (by omega)))
    clear hb5
    clear s0 s1 s2 s3 s4 s5 s6 s7 s8 s9 s10 s11 s12 s13 s14 s15 s16 s17 s18 s19 s20 z0 z1 z2 z3 z4 c0 c1 c2 c3 c4
    obtain⟨s0,s1,s2,s3,s4,s5,s6,s7,s8,s9,s10,s11,s12,s13,s14,s15,s16,s17,s18,s19,s20⟩:=own21 HS5.out
    obtain⟨z0,z1,z2,z3,z4⟩:=own5 HZ5.out
    obtain⟨c0,c1,c2,c3,c4⟩:=own5 HC5.out
    go_wp2_with fail
    cases ry
    · refine (must_no _).mono ?_;rintro e w' ⟨rfl,rfl⟩
      exact⟨rfl,bad_of (sfR_ry HR.out),HB5.out⟩
    refine (must_yes _).mono ?_;rintro e w' ⟨rfl,rfl⟩
    go_wp2_with fail
    cases rb
    · refine (must_no _).mono ?_;rintro e w' ⟨rfl,rfl⟩
      exact⟨rfl,bad_of (sfR_rb HR.out),HB5.out⟩
    refine (must_yes _).mono ?_;rintro e w' ⟨rfl,rfl⟩
    go_wp2_with fail
    cases ro
    · refine (must_no _).mono ?_;rintro e w' ⟨rfl,rfl⟩
      exact⟨rfl,bad_of (sfR_ro HR.out),HB5.out⟩
    refine (must_yes _).mono ?_;rintro e w' ⟨rfl,rfl⟩
    go_wp2_with fail
    refine (HNM.out _).mono ?_;rintro e w' ⟨rfl,rfl⟩
    rw [← HNE.out]
    go_wp2_with fail
    cases rn
    · refine (must_no _).mono ?_;rintro e w' ⟨rfl,rfl⟩
      exact⟨rfl,bad_of (sfR_rn HR.out),HB5.out⟩
    refine (must_yes _).mono ?_;rintro e w' ⟨rfl,rfl⟩
    go_wp2_with fail
    refine (HCT.out _).mono ?_;rintro e w6 hct
    rw [← HFE.out] at hct
    obtain⟨he1,hb6⟩:=hct
    have hs6:=hb6.size
    have HS6:=hid ((hb6.block _ (by omega)).trans HS5.out)
    have HZ6:=hid ((hb6.block _ (by omega)).trans HZ5.out)
    have HC6:=hid ((hb6.block _ (by omega)).trans HC5.out)
    have HB6:=hid (HB5.out.trans (hb6.mono (by omega)))
    clear hb6
    clear s0 s1 s2 s3 s4 s5 s6 s7 s8 s9 s10 s11 s12 s13 s14 s15 s16 s17 s18 s19 s20 z0 z1 z2 z3 z4 c0 c1 c2 c3 c4
    obtain⟨s0,s1,s2,s3,s4,s5,s6,s7,s8,s9,s10,s11,s12,s13,s14,s15,s16,s17,s18,s19,s20⟩:=own21 HS6.out
    obtain⟨z0,z1,z2,z3,z4⟩:=own5 HZ6.out
    obtain⟨c0,c1,c2,c3,c4⟩:=own5 HC6.out
    rcases hfc with rfl|rfl|rfl
    rotate_left
    · subst he1
      exact⟨rfl,bad_of (sfR_f HR.out),HB6.out⟩
    · subst he1
      exact⟨rfl,bad3_of (sfR_f HR.out),HB6.out⟩
    rw [ended_ok rfl] at he1
    subst he1
    have f0:w6.frozen? ⟨w.heap.size+1,0,none⟩ = false:=Lib.frozen_of_heap HZ6.out 0
    have f1:w6.frozen? ⟨w.heap.size+1,1,none⟩ = false:=Lib.frozen_of_heap HZ6.out 1
    have f2:w6.frozen? ⟨w.heap.size+1,2,none⟩ = false:=Lib.frozen_of_heap HZ6.out 2
    have f3:w6.frozen? ⟨w.heap.size+1,3,none⟩ = false:=Lib.frozen_of_heap HZ6.out 3
    have f4:w6.frozen? ⟨w.heap.size+1,4,none⟩ = false:=Lib.frozen_of_heap HZ6.out 4
    go_wp2_with fail
    have hfin:=own5 (set5 HZ6.out (.bool true) (.int .u8 1) (.bool false) (.bool false) (.bool false))
    obtain⟨g0,g1,g2,g3,g4⟩:=hfin
    exact bodyPost_ret (v:=.agg #[.bool true,.int .u8 1,.bool false,.bool false,.bool false]) (by simp [results,Try.results86,go_sem,g0,g1,g2,g3,g4]) rfl ⟨good_of (sfR_yesN HR.out),below_set5 HB6.out (by omega) _ _ _ _ _⟩
end Go.Proofs.Ytcibiiddigpnfaa
/- What is wrong with a statement's own form, as the show layer's checker finds it, kind by kind. -/
namespace Go.Proofs.Ytcibiiddigpnfaa
open Lib (hid)
set_option maxRecDepth 100000
set_option maxHeartbeats 4000000
open Go.RowKit
theorem sfrm_2 (B c i:Nat) (r:Int) (tk tz xk xn xtk xtz yk yn ytk ytz:Int) (nm tn xm xtn ym ytn:ByteArray) (xo yo bo eo:Option Addr) (xl xc yl yc bl bc el ec:Nat) (w:World) (h:Ck B c i w)
    (hr:r=sfR (decide (xk=3 ∨ xk=4 ∨ xk=5)) true (decide (bl=0)) (decide (el=0)) (if nm.data.toList = [] ∧ noTy tk tn tz=true then 0 else 1)) :
    Calls Try.prog 86 #[.pointer (some ⟨c,0,none⟩),.agg #[.int .u8 2,.string nm,.int .u8 tk,.string tn,.int .i64 tz,.int .u8 xk,.int .i64 xn,.string xm,.int .u8 xtk,.string xtn,.int .i64 xtz,.slice xo xl xc,.int .u8 yk,.int .i64 yn,.string ym,.int .u8 ytk,.string ytn,.int .i64 ytz,.slice yo yl yc,.slice bo bl bc,.slice eo el ec]] w fun e w'=>e=frmE r (.agg #[.bool false,.int .u8 3,.bool true,.bool false,.bool false])∧Below w.heap.size w w':=by
  have hc:=h.lt
  obtain⟨-,-,m1,m2,-,c1,-,hM⟩:=h.reads
  have hml:=hM.lt
  have hl1:=look_s hM (k:=2) (v:=.agg #[.bool false,.int .u8 3,.bool true,.bool false,.bool false]) (by rfl) ((w.alloc (.cells #[.int .u8 2,.string nm,.int .u8 tk,.string tn,.int .i64 tz,.int .u8 xk,.int .i64 xn,.string xm,.int .u8 xtk,.string xtn,.int .i64 xtz,.slice xo xl xc,.int .u8 yk,.int .i64 yn,.string ym,.int .u8 ytk,.string ytn,.int .i64 ytz,.slice yo yl yc,.slice bo bl bc,.slice eo el ec] 64)).alloc (.cells #[.bool false,.int .u8 0,.bool false,.bool false,.bool false] 142)).drew (by show ((w.alloc _).alloc _).heap[m2]? = _;rw [Below.heap_alloc _ _ _ (by simp;omega)];exact Below.heap_alloc _ _ _ hml)
  have hl2:=look_s hM (k:=2) (v:=.agg #[.bool false,.int .u8 3,.bool true,.bool false,.bool false]) (by rfl) (((w.alloc (.cells #[.int .u8 2,.string nm,.int .u8 tk,.string tn,.int .i64 tz,.int .u8 xk,.int .i64 xn,.string xm,.int .u8 xtk,.string xtn,.int .i64 xtz,.slice xo xl xc,.int .u8 yk,.int .i64 yn,.string ym,.int .u8 ytk,.string ytn,.int .i64 ytz,.slice yo yl yc,.slice bo bl bc,.slice eo el ec] 64)).alloc (.cells #[.bool false,.int .u8 0,.bool false,.bool false,.bool false] 142)).alloc (.cells #[.bool false,.int .u8 0,.bool false,.bool false,.bool false] 142)).drew (by show (((w.alloc _).alloc _).alloc _).heap[m2]? = _;rw [Below.heap_alloc _ _ _ (by simp;omega),Below.heap_alloc _ _ _ (by simp;omega)];exact Below.heap_alloc _ _ _ hml)
  have c1a:((w.alloc (.cells #[.int .u8 2,.string nm,.int .u8 tk,.string tn,.int .i64 tz,.int .u8 xk,.int .i64 xn,.string xm,.int .u8 xtk,.string xtn,.int .i64 xtz,.slice xo xl xc,.int .u8 yk,.int .i64 yn,.string ym,.int .u8 ytk,.string ytn,.int .i64 ytz,.slice yo yl yc,.slice bo bl bc,.slice eo el ec] 64)).alloc (.cells #[.bool false,.int .u8 0,.bool false,.bool false,.bool false] 142)).cell? ⟨c,1,none⟩ = some (.map (some m2)):=by rw [World.cell?_alloc_lt _ _ _ (by simp;omega),World.cell?_alloc_lt _ _ _ hc];exact c1
  have c1b:(((w.alloc (.cells #[.int .u8 2,.string nm,.int .u8 tk,.string tn,.int .i64 tz,.int .u8 xk,.int .i64 xn,.string xm,.int .u8 xtk,.string xtn,.int .i64 xtz,.slice xo xl xc,.int .u8 yk,.int .i64 yn,.string ym,.int .u8 ytk,.string ytn,.int .i64 ytz,.slice yo yl yc,.slice bo bl bc,.slice eo el ec] 64)).alloc (.cells #[.bool false,.int .u8 0,.bool false,.bool false,.bool false] 142)).alloc (.cells #[.bool false,.int .u8 0,.bool false,.bool false,.bool false] 142)).cell? ⟨c,1,none⟩ = some (.map (some m2)):=by rw [World.cell?_alloc_lt _ _ _ (by simp;omega)];exact c1a
  obtain⟨W3,hW3⟩:∃ W3,W3=(((w.alloc (.cells #[.int .u8 2,.string nm,.int .u8 tk,.string tn,.int .i64 tz,.int .u8 xk,.int .i64 xn,.string xm,.int .u8 xtk,.string xtn,.int .i64 xtz,.slice xo xl xc,.int .u8 yk,.int .i64 yn,.string ym,.int .u8 ytk,.string ytn,.int .i64 ytz,.slice yo yl yc,.slice bo bl bc,.slice eo el ec] 64)).alloc (.cells #[.bool false,.int .u8 0,.bool false,.bool false,.bool false] 142)).alloc (.cells #[.bool false,.int .u8 3,.bool true,.bool false,.bool false] 142)).drew:=⟨_,rfl⟩
  have hz3:W3.heap.size=w.heap.size+3:=by rw [hW3];show (((w.alloc _).alloc _).alloc _).heap.size=_;simp
  have HB3:=hid (show Below w.heap.size w W3 by rw [hW3];exact (((below_box w _).alloc (by simp) _).alloc (by simp;omega) _).drew)
  have HS3:=hid (show W3.heap[w.heap.size]? = some (.cells #[.int .u8 2,.string nm,.int .u8 tk,.string tn,.int .i64 tz,.int .u8 xk,.int .i64 xn,.string xm,.int .u8 xtk,.string xtn,.int .i64 xtz,.slice xo xl xc,.int .u8 yk,.int .i64 yn,.string ym,.int .u8 ytk,.string ytn,.int .i64 ytz,.slice yo yl yc,.slice bo bl bc,.slice eo el ec] 64) by
    rw [hW3]
    show (((w.alloc _).alloc _).alloc _).heap[w.heap.size]? = _
    rw [Below.heap_alloc _ _ _ (by simp;omega),Below.heap_alloc _ _ _ (by simp)]
    exact (MapKept.heap_alloc _ _).1)
  have HZ3:=hid (show W3.heap[w.heap.size+1]? = some (.cells #[.bool false,.int .u8 0,.bool false,.bool false,.bool false] 142) by
    rw [hW3]
    show (((w.alloc _).alloc _).alloc _).heap[w.heap.size+1]? = _
    rw [Below.heap_alloc _ _ _ (by simp),show w.heap.size+1=(w.alloc (.cells #[.int .u8 2,.string nm,.int .u8 tk,.string tn,.int .i64 tz,.int .u8 xk,.int .i64 xn,.string xm,.int .u8 xtk,.string xtn,.int .i64 xtz,.slice xo xl xc,.int .u8 yk,.int .i64 yn,.string ym,.int .u8 ytk,.string ytn,.int .i64 ytz,.slice yo yl yc,.slice bo bl bc,.slice eo el ec] 64)).heap.size by simp]
    exact (MapKept.heap_alloc _ _).1)
  have HC3:=hid (show W3.heap[w.heap.size+1+1]? = some (.cells #[.bool false,.int .u8 3,.bool true,.bool false,.bool false] 142) by
    rw [hW3]
    show (((w.alloc _).alloc _).alloc _).heap[w.heap.size+1+1]? = _
    rw [show w.heap.size+1+1=((w.alloc (.cells #[.int .u8 2,.string nm,.int .u8 tk,.string tn,.int .i64 tz,.int .u8 xk,.int .i64 xn,.string xm,.int .u8 xtk,.string xtn,.int .i64 xtz,.slice xo xl xc,.int .u8 yk,.int .i64 yn,.string ym,.int .u8 ytk,.string ytn,.int .i64 ytz,.slice yo yl yc,.slice bo bl bc,.slice eo el ec] 64)).alloc (.cells #[.bool false,.int .u8 0,.bool false,.bool false,.bool false] 142)).heap.size by simp]
    exact (MapKept.heap_alloc _ _).1)
  have HW:=hid hW3
  obtain⟨rx,hrx⟩:∃ b,b=(decide (xk=3 ∨ xk=4 ∨ xk=5)):=⟨_,rfl⟩
  have hlb:(((bl:Nat):Int) == 0)=decide (bl=0):=len_eq bl
  obtain⟨rb,hrb⟩:∃ b,b=decide (bl=0):=⟨_,rfl⟩
  have hle:(((el:Nat):Int) == 0)=decide (el=0):=len_eq el
  obtain⟨ro,hro⟩:∃ b,b=decide (el=0):=⟨_,rfl⟩
  obtain⟨rt,hrt⟩:∃ b,b=noTy tk tn tz:=⟨_,rfl⟩
  have hq:=noty_is hrt.symm
  rw [← hrx,← hrb,← hro,← hrt] at hr
  rw [← hrb] at hlb
  rw [← hro] at hle
  have HR:=hid hr
  have HRX:=hid (right_3 xk xn xtk xtz xm xtn xo xl xc W3)
  have HRE:=hid hrx
  clear hrx
  clear hrb
  clear hro
  have HTE:=hid hrt
  clear hrt
  clear h hM hW3 hr
  by_cases he:nm.data.toList = []
  · have t1:=emp_yes he
    have t2:=nil_yes he
    have HNMX:=hid he
    clear he
    go_enter Try.func86,Try.ntmps86
    go_wp2_with fail
    go_region
    all_goals
      rw [← HW.out]
      clear c1 c1a c1b hl1 hl2
      obtain⟨s0,s1,s2,s3,s4,s5,s6,s7,s8,s9,s10,s11,s12,s13,s14,s15,s16,s17,s18,s19,s20⟩:=own21 HS3.out
      obtain⟨z0,z1,z2,z3,z4⟩:=own5 HZ3.out
      obtain⟨c0,c1,c2,c3,c4⟩:=own5 HC3.out
      go_wp2_with fail
      refine (must_yes _).mono ?_;rintro e w' ⟨rfl,rfl⟩
      go_wp2_with fail
      refine HRX.out.mono ?_;rintro e w4 ⟨rfl,hb4⟩
      rw [← HRE.out]
      have hs4:=hb4.size
      have HS4:=hid ((hb4.block _ (by omega)).trans HS3.out)
      have HZ4:=hid ((hb4.block _ (by omega)).trans HZ3.out)
      have HC4:=hid ((hb4.block _ (by omega)).trans HC3.out)
      have HB4:=hid (HB3.out.trans (hb4.mono (by omega)))
      clear hb4
      clear s0 s1 s2 s3 s4 s5 s6 s7 s8 s9 s10 s11 s12 s13 s14 s15 s16 s17 s18 s19 s20 z0 z1 z2 z3 z4 c0 c1 c2 c3 c4
      obtain⟨s0,s1,s2,s3,s4,s5,s6,s7,s8,s9,s10,s11,s12,s13,s14,s15,s16,s17,s18,s19,s20⟩:=own21 HS4.out
      obtain⟨z0,z1,z2,z3,z4⟩:=own5 HZ4.out
      obtain⟨c0,c1,c2,c3,c4⟩:=own5 HC4.out
      go_wp2_with fail
      cases rx
      · refine (must_no _).mono ?_;rintro e w' ⟨rfl,rfl⟩
        exact⟨rfl,bad_of (sfR_rx HR.out),HB4.out⟩
      refine (must_yes _).mono ?_;rintro e w' ⟨rfl,rfl⟩
      go_wp2_with fail
      refine (must_yes _).mono ?_;rintro e w' ⟨rfl,rfl⟩
      go_wp2_with fail
      cases rb
      · refine (must_no _).mono ?_;rintro e w' ⟨rfl,rfl⟩
        exact⟨rfl,bad_of (sfR_rb HR.out),HB4.out⟩
      refine (must_yes _).mono ?_;rintro e w' ⟨rfl,rfl⟩
      go_wp2_with fail
      cases ro
      · refine (must_no _).mono ?_;rintro e w' ⟨rfl,rfl⟩
        exact⟨rfl,bad_of (sfR_ro HR.out),HB4.out⟩
      refine (must_yes _).mono ?_;rintro e w' ⟨rfl,rfl⟩
      have f0:w4.frozen? ⟨w.heap.size+1,0,none⟩ = false:=Lib.frozen_of_heap HZ4.out 0
      have f1:w4.frozen? ⟨w.heap.size+1,1,none⟩ = false:=Lib.frozen_of_heap HZ4.out 1
      have f2:w4.frozen? ⟨w.heap.size+1,2,none⟩ = false:=Lib.frozen_of_heap HZ4.out 2
      have f3:w4.frozen? ⟨w.heap.size+1,3,none⟩ = false:=Lib.frozen_of_heap HZ4.out 3
      have f4:w4.frozen? ⟨w.heap.size+1,4,none⟩ = false:=Lib.frozen_of_heap HZ4.out 4
      go_wp2_with fail
      cases rt
      · refine (must_no _).mono ?_;rintro e w' ⟨rfl,rfl⟩
        exact⟨rfl,bad_of (sfR_rt HR.out),HB4.out⟩
      refine (must_yes _).mono ?_;rintro e w' ⟨rfl,rfl⟩
      go_wp2_with fail
      have hfin:=own5 (set5 HZ4.out (.bool false) (.int .u8 3) (.bool true) (.bool false) (.bool false))
      obtain⟨g0,g1,g2,g3,g4⟩:=hfin
      exact bodyPost_ret (v:=.agg #[.bool false,.int .u8 3,.bool true,.bool false,.bool false]) (by simp [results,Try.results86,go_sem,g0,g1,g2,g3,g4]) rfl ⟨good_of (by have:=HR.out;simpa [sfR,HNMX.out] using this),below_set5 HB4.out (by omega) _ _ _ _ _⟩
  · have t1:=emp_no he
    have HNMX:=hid he
    clear he
    go_enter Try.func86,Try.ntmps86
    go_wp2_with fail
    go_region
    all_goals
      rw [← HW.out]
      clear c1 c1a c1b hl1 hl2
      obtain⟨s0,s1,s2,s3,s4,s5,s6,s7,s8,s9,s10,s11,s12,s13,s14,s15,s16,s17,s18,s19,s20⟩:=own21 HS3.out
      obtain⟨z0,z1,z2,z3,z4⟩:=own5 HZ3.out
      obtain⟨c0,c1,c2,c3,c4⟩:=own5 HC3.out
      go_wp2_with fail
      refine (must_yes _).mono ?_;rintro e w' ⟨rfl,rfl⟩
      go_wp2_with fail
      refine HRX.out.mono ?_;rintro e w4 ⟨rfl,hb4⟩
      rw [← HRE.out]
      have hs4:=hb4.size
      have HS4:=hid ((hb4.block _ (by omega)).trans HS3.out)
      have HZ4:=hid ((hb4.block _ (by omega)).trans HZ3.out)
      have HC4:=hid ((hb4.block _ (by omega)).trans HC3.out)
      have HB4:=hid (HB3.out.trans (hb4.mono (by omega)))
      clear hb4
      clear s0 s1 s2 s3 s4 s5 s6 s7 s8 s9 s10 s11 s12 s13 s14 s15 s16 s17 s18 s19 s20 z0 z1 z2 z3 z4 c0 c1 c2 c3 c4
      obtain⟨s0,s1,s2,s3,s4,s5,s6,s7,s8,s9,s10,s11,s12,s13,s14,s15,s16,s17,s18,s19,s20⟩:=own21 HS4.out
      obtain⟨z0,z1,z2,z3,z4⟩:=own5 HZ4.out
      obtain⟨c0,c1,c2,c3,c4⟩:=own5 HC4.out
      go_wp2_with fail
      cases rx
      · refine (must_no _).mono ?_;rintro e w' ⟨rfl,rfl⟩
        exact⟨rfl,bad_of (sfR_rx HR.out),HB4.out⟩
      refine (must_yes _).mono ?_;rintro e w' ⟨rfl,rfl⟩
      go_wp2_with fail
      refine (must_yes _).mono ?_;rintro e w' ⟨rfl,rfl⟩
      go_wp2_with fail
      cases rb
      · refine (must_no _).mono ?_;rintro e w' ⟨rfl,rfl⟩
        exact⟨rfl,bad_of (sfR_rb HR.out),HB4.out⟩
      refine (must_yes _).mono ?_;rintro e w' ⟨rfl,rfl⟩
      go_wp2_with fail
      cases ro
      · refine (must_no _).mono ?_;rintro e w' ⟨rfl,rfl⟩
        exact⟨rfl,bad_of (sfR_ro HR.out),HB4.out⟩
      refine (must_yes _).mono ?_;rintro e w' ⟨rfl,rfl⟩
      have f0:w4.frozen? ⟨w.heap.size+1,0,none⟩ = false:=Lib.frozen_of_heap HZ4.out 0
      have f1:w4.frozen? ⟨w.heap.size+1,1,none⟩ = false:=Lib.frozen_of_heap HZ4.out 1
      have f2:w4.frozen? ⟨w.heap.size+1,2,none⟩ = false:=Lib.frozen_of_heap HZ4.out 2
      have f3:w4.frozen? ⟨w.heap.size+1,3,none⟩ = false:=Lib.frozen_of_heap HZ4.out 3
      have f4:w4.frozen? ⟨w.heap.size+1,4,none⟩ = false:=Lib.frozen_of_heap HZ4.out 4
      go_wp2_with fail
      refine (must_no _).mono ?_;rintro e w' ⟨rfl,rfl⟩
      exact⟨rfl,bad_of (sfR_nm HR.out HNMX.out),HB4.out⟩
end Go.Proofs.Ytcibiiddigpnfaa
