import Derived.Test.YtlboinokdhmacaaGreatDoorWkPicks
namespace Go.Proofs.YtlboinokdhmacaaGreatDoor
set_option maxHeartbeats 64000000
set_option maxRecDepth 1000000
open Lib(hid)
open Go.RowKit
theorem z00 (K:Nat) (w:World) (h:w.cell? ⟨K,2,none⟩ = some (.slice none 0 0)) :
 Calls Tryz.prog 31 #[.pointer (some ⟨K,0,none⟩)] w fun e w'=>e = .returned (.tuple #[])∧w=w':=by
 go_enter Tryz.func31,Tryz.ntmps31;go_wp2_with fail
 go_loop [10] (fun i=>i = .int .i64 0) (fun _=>0)
 case atStart=>rfl
 case round =>
  subst hrel;go_wp2_with fail
  go_end0
  exact⟨rfl,rfl⟩
theorem UN (K:Nat) (w:World) (h:w.cell? ⟨K,4,none⟩ = some (.slice none 0 0)) :
 Calls Tryz.prog 33 #[.pointer (some ⟨K,0,none⟩)] w fun e w'=>e = .returned (.tuple #[])∧w=w':=by
 go_enter Tryz.func33,Tryz.ntmps33;go_wp2_with fail
 go_loop [10] (fun i=>i = .int .i64 0) (fun _=>0)
 case atStart=>rfl
 case round =>
  subst hrel;go_wp2_with fail
  go_end0
  exact⟨rfl,rfl⟩
theorem z08 (K:Nat) (w:World) (h:w.cell? ⟨K,5,none⟩ = some (.slice none 0 0)) :
 Calls Tryz.prog 34 #[.pointer (some ⟨K,0,none⟩)] w fun e w'=>e = .returned (.tuple #[])∧w=w':=by
 go_enter Tryz.func34,Tryz.ntmps34;go_wp2_with fail
 go_loop [10] (fun i=>i = .int .i64 0) (fun _=>0)
 case atStart=>rfl
 case round =>
  subst hrel;go_wp2_with fail
  go_end0
  exact⟨rfl,rfl⟩
theorem z02 (K:Nat) (w:World) (h:w.cell? ⟨K,6,none⟩ = some (.slice none 0 0)) :
 Calls Tryz.prog 35 #[.pointer (some ⟨K,0,none⟩)] w fun e w'=>e = .returned (.tuple #[])∧w=w':=by
 go_enter Tryz.func35,Tryz.ntmps35;go_wp2_with fail
 go_loop [10] (fun i=>i = .int .i64 0) (fun _=>0)
 case atStart=>rfl
 case round =>
  subst hrel;go_wp2_with fail
  go_end0
  exact⟨rfl,rfl⟩
theorem UY (K:Nat) (w:World) (h:w.cell? ⟨K,7,none⟩ = some (.slice none 0 0)) :
 Calls Tryz.prog 36 #[.pointer (some ⟨K,0,none⟩)] w fun e w'=>e = .returned (.tuple #[])∧w=w':=by
 go_enter Tryz.func36,Tryz.ntmps36;go_wp2_with fail
 go_loop [10] (fun i=>i = .int .i64 0) (fun _=>0)
 case atStart=>rfl
 case round =>
  subst hrel;go_wp2_with fail
  go_end0
  exact⟨rfl,rfl⟩
theorem z07 (K:Nat) (w:World) (h:w.cell? ⟨K,8,none⟩ = some (.slice none 0 0)) :
 Calls Tryz.prog 37 #[.pointer (some ⟨K,0,none⟩)] w fun e w'=>e = .returned (.tuple #[])∧w=w':=by
 go_enter Tryz.func37,Tryz.ntmps37;go_wp2_with fail
 go_loop [10] (fun i=>i = .int .i64 0) (fun _=>0)
 case atStart=>rfl
 case round =>
  subst hrel;go_wp2_with fail
  go_end0
  exact⟨rfl,rfl⟩
theorem UX (K:Nat) (w:World) (h:w.cell? ⟨K,9,none⟩ = some (.slice none 0 0)) :
 Calls Tryz.prog 38 #[.pointer (some ⟨K,0,none⟩)] w fun e w'=>e = .returned (.tuple #[])∧w=w':=by
 go_enter Tryz.func38,Tryz.ntmps38;go_wp2_with fail
 go_loop [10] (fun i=>i = .int .i64 0) (fun _=>0)
 case atStart=>rfl
 case round =>
  subst hrel;go_wp2_with fail
  go_end0
  exact⟨rfl,rfl⟩
theorem UW (K:Nat) (w:World) (h:w.cell? ⟨K,10,none⟩ = some (.slice none 0 0)) :
 Calls Tryz.prog 39 #[.pointer (some ⟨K,0,none⟩)] w fun e w'=>e = .returned (.tuple #[])∧w=w':=by
 go_enter Tryz.func39,Tryz.ntmps39;go_wp2_with fail
 go_loop [10] (fun i=>i = .int .i64 0) (fun _=>0)
 case atStart=>rfl
 case round =>
  subst hrel;go_wp2_with fail
  go_end0
  exact⟨rfl,rfl⟩
theorem UL (K:Nat) (w:World) (h:w.cell? ⟨K,11,none⟩ = some (.slice none 0 0)) :
 Calls Tryz.prog 40 #[.pointer (some ⟨K,0,none⟩)] w fun e w'=>e = .returned (.tuple #[])∧w=w':=by
 go_enter Tryz.func40,Tryz.ntmps40;go_wp2_with fail
 go_loop [10] (fun i=>i = .int .i64 0) (fun _=>0)
 case atStart=>rfl
 case round =>
  subst hrel;go_wp2_with fail
  go_end0
  exact⟨rfl,rfl⟩
theorem UM (K:Nat) (w:World) (h:w.cell? ⟨K,12,none⟩ = some (.slice none 0 0)) :
 Calls Tryz.prog 41 #[.pointer (some ⟨K,0,none⟩)] w fun e w'=>e = .returned (.tuple #[])∧w=w':=by
 go_enter Tryz.func41,Tryz.ntmps41;go_wp2_with fail
 go_loop [10] (fun i=>i = .int .i64 0) (fun _=>0)
 case atStart=>rfl
 case round =>
  subst hrel;go_wp2_with fail
  go_end0
  exact⟨rfl,rfl⟩
theorem z05 (K:Nat) (w:World) (h:w.cell? ⟨K,13,none⟩ = some (.slice none 0 0)) :
 Calls Tryz.prog 42 #[.pointer (some ⟨K,0,none⟩)] w fun e w'=>e = .returned (.tuple #[])∧w=w':=by
 go_enter Tryz.func42,Tryz.ntmps42;go_wp2_with fail
 go_loop [10] (fun i=>i = .int .i64 0) (fun _=>0)
 case atStart=>rfl
 case round =>
  subst hrel;go_wp2_with fail
  go_end0
  exact⟨rfl,rfl⟩
theorem UR (K:Nat) (w:World) (h:w.cell? ⟨K,14,none⟩ = some (.slice none 0 0)) :
 Calls Tryz.prog 43 #[.pointer (some ⟨K,0,none⟩)] w fun e w'=>e = .returned (.tuple #[])∧w=w':=by
 go_enter Tryz.func43,Tryz.ntmps43;go_wp2_with fail
 go_loop [10] (fun i=>i = .int .i64 0) (fun _=>0)
 case atStart=>rfl
 case round =>
  subst hrel;go_wp2_with fail
  go_end0
  exact⟨rfl,rfl⟩
theorem z06 (K:Nat) (w:World) (h:w.cell? ⟨K,16,none⟩ = some (.slice none 0 0)) :
 Calls Tryz.prog 45 #[.pointer (some ⟨K,0,none⟩)] w fun e w'=>e = .returned (.tuple #[])∧w=w':=by
 go_enter Tryz.func45,Tryz.ntmps45;go_wp2_with fail
 go_loop [10] (fun i=>i = .int .i64 0) (fun _=>0)
 case atStart=>rfl
 case round =>
  subst hrel;go_wp2_with fail
  go_end0
  exact⟨rfl,rfl⟩
theorem UO (K:Nat) (w:World) (h:w.cell? ⟨K,17,none⟩ = some (.slice none 0 0)) :
 Calls Tryz.prog 46 #[.pointer (some ⟨K,0,none⟩)] w fun e w'=>e = .returned (.tuple #[])∧w=w':=by
 go_enter Tryz.func46,Tryz.ntmps46;go_wp2_with fail
 go_loop [10] (fun i=>i = .int .i64 0) (fun _=>0)
 case atStart=>rfl
 case round =>
  subst hrel;go_wp2_with fail
  go_end0
  exact⟨rfl,rfl⟩
theorem UV (K:Nat) (w:World) (h:w.cell? ⟨K,18,none⟩ = some (.slice none 0 0)) :
 Calls Tryz.prog 47 #[.pointer (some ⟨K,0,none⟩)] w fun e w'=>e = .returned (.tuple #[])∧w=w':=by
 go_enter Tryz.func47,Tryz.ntmps47;go_wp2_with fail
 go_loop [10] (fun i=>i = .int .i64 0) (fun _=>0)
 case atStart=>rfl
 case round =>
  subst hrel;go_wp2_with fail
  go_end0
  exact⟨rfl,rfl⟩
theorem z04 (K:Nat) (w:World) (h:w.cell? ⟨K,19,none⟩ = some (.slice none 0 0)) :
 Calls Tryz.prog 48 #[.pointer (some ⟨K,0,none⟩)] w fun e w'=>e = .returned (.tuple #[])∧w=w':=by
 go_enter Tryz.func48,Tryz.ntmps48;go_wp2_with fail
 go_loop [10] (fun i=>i = .int .i64 0) (fun _=>0)
 case atStart=>rfl
 case round =>
  subst hrel;go_wp2_with fail
  go_end0
  exact⟨rfl,rfl⟩
theorem z09 (K:Nat) (w:World) (h:w.cell? ⟨K,20,none⟩ = some (.slice none 0 0)) :
 Calls Tryz.prog 49 #[.pointer (some ⟨K,0,none⟩)] w fun e w'=>e = .returned (.tuple #[])∧w=w':=by
 go_enter Tryz.func49,Tryz.ntmps49;go_wp2_with fail
 go_loop [10] (fun i=>i = .int .i64 0) (fun _=>0)
 case atStart=>rfl
 case round =>
  subst hrel;go_wp2_with fail
  go_end0
  exact⟨rfl,rfl⟩
theorem z03 (K:Nat) (w:World) (h:w.cell? ⟨K,21,none⟩ = some (.slice none 0 0)) :
 Calls Tryz.prog 50 #[.pointer (some ⟨K,0,none⟩)] w fun e w'=>e = .returned (.tuple #[])∧w=w':=by
 go_enter Tryz.func50,Tryz.ntmps50;go_wp2_with fail
 go_loop [10] (fun i=>i = .int .i64 0) (fun _=>0)
 case atStart=>rfl
 case round =>
  subst hrel;go_wp2_with fail
  go_end0
  exact⟨rfl,rfl⟩
theorem z0a (K:Nat) (w:World) (h:w.cell? ⟨K,22,none⟩ = some (.slice none 0 0)) :
 Calls Tryz.prog 51 #[.pointer (some ⟨K,0,none⟩)] w fun e w'=>e = .returned (.tuple #[])∧w=w':=by
 go_enter Tryz.func51,Tryz.ntmps51;go_wp2_with fail
 go_loop [10] (fun i=>i = .int .i64 0) (fun _=>0)
 case atStart=>rfl
 case round =>
  subst hrel;go_wp2_with fail
  go_end0
  exact⟨rfl,rfl⟩
theorem z01 (K:Nat) (w:World) (h:w.cell? ⟨K,23,none⟩ = some (.slice none 0 0)) :
 Calls Tryz.prog 52 #[.pointer (some ⟨K,0,none⟩)] w fun e w'=>e = .returned (.tuple #[])∧w=w':=by
 go_enter Tryz.func52,Tryz.ntmps52;go_wp2_with fail
 go_loop [10] (fun i=>i = .int .i64 0) (fun _=>0)
 case atStart=>rfl
 case round =>
  subst hrel;go_wp2_with fail
  go_end0
  exact⟨rfl,rfl⟩
theorem UZ (K:Nat) (w:World) (h:w.cell? ⟨K,24,none⟩ = some (.slice none 0 0)) :
 Calls Tryz.prog 53 #[.pointer (some ⟨K,0,none⟩)] w fun e w'=>e = .returned (.tuple #[])∧w=w':=by
 go_enter Tryz.func53,Tryz.ntmps53;go_wp2_with fail
 go_loop [10] (fun i=>i = .int .i64 0) (fun _=>0)
 case atStart=>rfl
 case round =>
  subst hrel;go_wp2_with fail
  go_end0
  exact⟨rfl,rfl⟩
theorem UQ (K:Nat) (w:World) (h:w.cell? ⟨K,25,none⟩ = some (.slice none 0 0)) :
 Calls Tryz.prog 54 #[.pointer (some ⟨K,0,none⟩)] w fun e w'=>e = .returned (.tuple #[])∧w=w':=by
 go_enter Tryz.func54,Tryz.ntmps54;go_wp2_with fail
 go_loop [10] (fun i=>i = .int .i64 0) (fun _=>0)
 case atStart=>rfl
 case round =>
  subst hrel;go_wp2_with fail
  go_end0
  exact⟨rfl,rfl⟩
theorem UK (K:Nat) (w:World) (h:w.cell? ⟨K,26,none⟩ = some (.slice none 0 0)) :
 Calls Tryz.prog 55 #[.pointer (some ⟨K,0,none⟩)] w fun e w'=>e = .returned (.tuple #[])∧w=w':=by
 go_enter Tryz.func55,Tryz.ntmps55;go_wp2_with fail
 go_loop [10] (fun i=>i = .int .i64 0) (fun _=>0)
 case atStart=>rfl
 case round =>
  subst hrel;go_wp2_with fail
  go_end0
  exact⟨rfl,rfl⟩
theorem UT (K:Nat) (w:World) (h:w.cell? ⟨K,27,none⟩ = some (.slice none 0 0)) :
 Calls Tryz.prog 56 #[.pointer (some ⟨K,0,none⟩)] w fun e w'=>e = .returned (.tuple #[])∧w=w':=by
 go_enter Tryz.func56,Tryz.ntmps56;go_wp2_with fail
 go_loop [10] (fun i=>i = .int .i64 0) (fun _=>0)
 case atStart=>rfl
 case round =>
  subst hrel;go_wp2_with fail
  go_end0
  exact⟨rfl,rfl⟩
theorem U7 (K:Nat) (w:World) (h:w.cell? ⟨K,2,none⟩ = some (.slice none 0 0)) :
 Calls Tryz.prog 57 #[.pointer (some ⟨K,0,none⟩)] w fun e w'=>e = .returned (.tuple #[])∧w=w':=by
 go_enter Tryz.func57,Tryz.ntmps57;go_wp2_with fail
 go_loop [10] (fun i=>i = .int .i64 0) (fun _=>0)
 case atStart=>rfl
 case round =>
  subst hrel;go_wp2_with fail
  go_end0
  exact⟨rfl,rfl⟩
theorem KU (K:Nat) (w:World) (h:w.cell? ⟨K,4,none⟩ = some (.slice none 0 0)) :
 Calls Tryz.prog 59 #[.pointer (some ⟨K,0,none⟩)] w fun e w'=>e = .returned (.tuple #[])∧w=w':=by
 go_enter Tryz.func59,Tryz.ntmps59;go_wp2_with fail
 go_loop [10] (fun i=>i = .int .i64 0) (fun _=>0)
 case atStart=>rfl
 case round =>
  subst hrel;go_wp2_with fail
  go_end0
  exact⟨rfl,rfl⟩
theorem Uf (K:Nat) (w:World) (h:w.cell? ⟨K,5,none⟩ = some (.slice none 0 0)) :
 Calls Tryz.prog 60 #[.pointer (some ⟨K,0,none⟩)] w fun e w'=>e = .returned (.tuple #[])∧w=w':=by
 go_enter Tryz.func60,Tryz.ntmps60;go_wp2_with fail
 go_loop [10] (fun i=>i = .int .i64 0) (fun _=>0)
 case atStart=>rfl
 case round =>
  subst hrel;go_wp2_with fail
  go_end0
  exact⟨rfl,rfl⟩
theorem U9 (K:Nat) (w:World) (h:w.cell? ⟨K,6,none⟩ = some (.slice none 0 0)) :
 Calls Tryz.prog 61 #[.pointer (some ⟨K,0,none⟩)] w fun e w'=>e = .returned (.tuple #[])∧w=w':=by
 go_enter Tryz.func61,Tryz.ntmps61;go_wp2_with fail
 go_loop [10] (fun i=>i = .int .i64 0) (fun _=>0)
 case atStart=>rfl
 case round =>
  subst hrel;go_wp2_with fail
  go_end0
  exact⟨rfl,rfl⟩
theorem U5 (K:Nat) (w:World) (h:w.cell? ⟨K,7,none⟩ = some (.slice none 0 0)) :
 Calls Tryz.prog 62 #[.pointer (some ⟨K,0,none⟩)] w fun e w'=>e = .returned (.tuple #[])∧w=w':=by
 go_enter Tryz.func62,Tryz.ntmps62;go_wp2_with fail
 go_loop [10] (fun i=>i = .int .i64 0) (fun _=>0)
 case atStart=>rfl
 case round =>
  subst hrel;go_wp2_with fail
  go_end0
  exact⟨rfl,rfl⟩
theorem Ue (K:Nat) (w:World) (h:w.cell? ⟨K,8,none⟩ = some (.slice none 0 0)) :
 Calls Tryz.prog 63 #[.pointer (some ⟨K,0,none⟩)] w fun e w'=>e = .returned (.tuple #[])∧w=w':=by
 go_enter Tryz.func63,Tryz.ntmps63;go_wp2_with fail
 go_loop [10] (fun i=>i = .int .i64 0) (fun _=>0)
 case atStart=>rfl
 case round =>
  subst hrel;go_wp2_with fail
  go_end0
  exact⟨rfl,rfl⟩
theorem U4 (K:Nat) (w:World) (h:w.cell? ⟨K,9,none⟩ = some (.slice none 0 0)) :
 Calls Tryz.prog 64 #[.pointer (some ⟨K,0,none⟩)] w fun e w'=>e = .returned (.tuple #[])∧w=w':=by
 go_enter Tryz.func64,Tryz.ntmps64;go_wp2_with fail
 go_loop [10] (fun i=>i = .int .i64 0) (fun _=>0)
 case atStart=>rfl
 case round =>
  subst hrel;go_wp2_with fail
  go_end0
  exact⟨rfl,rfl⟩
theorem U3 (K:Nat) (w:World) (h:w.cell? ⟨K,10,none⟩ = some (.slice none 0 0)) :
 Calls Tryz.prog 65 #[.pointer (some ⟨K,0,none⟩)] w fun e w'=>e = .returned (.tuple #[])∧w=w':=by
 go_enter Tryz.func65,Tryz.ntmps65;go_wp2_with fail
 go_loop [10] (fun i=>i = .int .i64 0) (fun _=>0)
 case atStart=>rfl
 case round =>
  subst hrel;go_wp2_with fail
  go_end0
  exact⟨rfl,rfl⟩
theorem KS (K:Nat) (w:World) (h:w.cell? ⟨K,11,none⟩ = some (.slice none 0 0)) :
 Calls Tryz.prog 66 #[.pointer (some ⟨K,0,none⟩)] w fun e w'=>e = .returned (.tuple #[])∧w=w':=by
 go_enter Tryz.func66,Tryz.ntmps66;go_wp2_with fail
 go_loop [10] (fun i=>i = .int .i64 0) (fun _=>0)
 case atStart=>rfl
 case round =>
  subst hrel;go_wp2_with fail
  go_end0
  exact⟨rfl,rfl⟩
theorem KT (K:Nat) (w:World) (h:w.cell? ⟨K,12,none⟩ = some (.slice none 0 0)) :
 Calls Tryz.prog 67 #[.pointer (some ⟨K,0,none⟩)] w fun e w'=>e = .returned (.tuple #[])∧w=w':=by
 go_enter Tryz.func67,Tryz.ntmps67;go_wp2_with fail
 go_loop [10] (fun i=>i = .int .i64 0) (fun _=>0)
 case atStart=>rfl
 case round =>
  subst hrel;go_wp2_with fail
  go_end0
  exact⟨rfl,rfl⟩
theorem Uc (K:Nat) (w:World) (h:w.cell? ⟨K,13,none⟩ = some (.slice none 0 0)) :
 Calls Tryz.prog 68 #[.pointer (some ⟨K,0,none⟩)] w fun e w'=>e = .returned (.tuple #[])∧w=w':=by
 go_enter Tryz.func68,Tryz.ntmps68;go_wp2_with fail
 go_loop [10] (fun i=>i = .int .i64 0) (fun _=>0)
 case atStart=>rfl
 case round =>
  subst hrel;go_wp2_with fail
  go_end0
  exact⟨rfl,rfl⟩
theorem KX (K:Nat) (w:World) (h:w.cell? ⟨K,14,none⟩ = some (.slice none 0 0)) :
 Calls Tryz.prog 69 #[.pointer (some ⟨K,0,none⟩)] w fun e w'=>e = .returned (.tuple #[])∧w=w':=by
 go_enter Tryz.func69,Tryz.ntmps69;go_wp2_with fail
 go_loop [10] (fun i=>i = .int .i64 0) (fun _=>0)
 case atStart=>rfl
 case round =>
  subst hrel;go_wp2_with fail
  go_end0
  exact⟨rfl,rfl⟩
theorem Ud (K:Nat) (w:World) (h:w.cell? ⟨K,16,none⟩ = some (.slice none 0 0)) :
 Calls Tryz.prog 71 #[.pointer (some ⟨K,0,none⟩)] w fun e w'=>e = .returned (.tuple #[])∧w=w':=by
 go_enter Tryz.func71,Tryz.ntmps71;go_wp2_with fail
 go_loop [10] (fun i=>i = .int .i64 0) (fun _=>0)
 case atStart=>rfl
 case round =>
  subst hrel;go_wp2_with fail
  go_end0
  exact⟨rfl,rfl⟩
theorem KV (K:Nat) (w:World) (h:w.cell? ⟨K,17,none⟩ = some (.slice none 0 0)) :
 Calls Tryz.prog 72 #[.pointer (some ⟨K,0,none⟩)] w fun e w'=>e = .returned (.tuple #[])∧w=w':=by
 go_enter Tryz.func72,Tryz.ntmps72;go_wp2_with fail
 go_loop [10] (fun i=>i = .int .i64 0) (fun _=>0)
 case atStart=>rfl
 case round =>
  subst hrel;go_wp2_with fail
  go_end0
  exact⟨rfl,rfl⟩
theorem U0 (K:Nat) (w:World) (h:w.cell? ⟨K,18,none⟩ = some (.slice none 0 0)) :
 Calls Tryz.prog 73 #[.pointer (some ⟨K,0,none⟩)] w fun e w'=>e = .returned (.tuple #[])∧w=w':=by
 go_enter Tryz.func73,Tryz.ntmps73;go_wp2_with fail
 go_loop [10] (fun i=>i = .int .i64 0) (fun _=>0)
 case atStart=>rfl
 case round =>
  subst hrel;go_wp2_with fail
  go_end0
  exact⟨rfl,rfl⟩
theorem Ub (K:Nat) (w:World) (h:w.cell? ⟨K,19,none⟩ = some (.slice none 0 0)) :
 Calls Tryz.prog 74 #[.pointer (some ⟨K,0,none⟩)] w fun e w'=>e = .returned (.tuple #[])∧w=w':=by
 go_enter Tryz.func74,Tryz.ntmps74;go_wp2_with fail
 go_loop [10] (fun i=>i = .int .i64 0) (fun _=>0)
 case atStart=>rfl
 case round =>
  subst hrel;go_wp2_with fail
  go_end0
  exact⟨rfl,rfl⟩
theorem Ug (K:Nat) (w:World) (h:w.cell? ⟨K,20,none⟩ = some (.slice none 0 0)) :
 Calls Tryz.prog 75 #[.pointer (some ⟨K,0,none⟩)] w fun e w'=>e = .returned (.tuple #[])∧w=w':=by
 go_enter Tryz.func75,Tryz.ntmps75;go_wp2_with fail
 go_loop [10] (fun i=>i = .int .i64 0) (fun _=>0)
 case atStart=>rfl
 case round =>
  subst hrel;go_wp2_with fail
  go_end0
  exact⟨rfl,rfl⟩
theorem Ua (K:Nat) (w:World) (h:w.cell? ⟨K,21,none⟩ = some (.slice none 0 0)) :
 Calls Tryz.prog 76 #[.pointer (some ⟨K,0,none⟩)] w fun e w'=>e = .returned (.tuple #[])∧w=w':=by
 go_enter Tryz.func76,Tryz.ntmps76;go_wp2_with fail
 go_loop [10] (fun i=>i = .int .i64 0) (fun _=>0)
 case atStart=>rfl
 case round =>
  subst hrel;go_wp2_with fail
  go_end0
  exact⟨rfl,rfl⟩
theorem Uh (K:Nat) (w:World) (h:w.cell? ⟨K,22,none⟩ = some (.slice none 0 0)) :
 Calls Tryz.prog 77 #[.pointer (some ⟨K,0,none⟩)] w fun e w'=>e = .returned (.tuple #[])∧w=w':=by
 go_enter Tryz.func77,Tryz.ntmps77;go_wp2_with fail
 go_loop [10] (fun i=>i = .int .i64 0) (fun _=>0)
 case atStart=>rfl
 case round =>
  subst hrel;go_wp2_with fail
  go_end0
  exact⟨rfl,rfl⟩
theorem U8 (K:Nat) (w:World) (h:w.cell? ⟨K,23,none⟩ = some (.slice none 0 0)) :
 Calls Tryz.prog 78 #[.pointer (some ⟨K,0,none⟩)] w fun e w'=>e = .returned (.tuple #[])∧w=w':=by
 go_enter Tryz.func78,Tryz.ntmps78;go_wp2_with fail
 go_loop [10] (fun i=>i = .int .i64 0) (fun _=>0)
 case atStart=>rfl
 case round =>
  subst hrel;go_wp2_with fail
  go_end0
  exact⟨rfl,rfl⟩
theorem U6 (K:Nat) (w:World) (h:w.cell? ⟨K,24,none⟩ = some (.slice none 0 0)) :
 Calls Tryz.prog 79 #[.pointer (some ⟨K,0,none⟩)] w fun e w'=>e = .returned (.tuple #[])∧w=w':=by
 go_enter Tryz.func79,Tryz.ntmps79;go_wp2_with fail
 go_loop [10] (fun i=>i = .int .i64 0) (fun _=>0)
 case atStart=>rfl
 case round =>
  subst hrel;go_wp2_with fail
  go_end0
  exact⟨rfl,rfl⟩
theorem KW (K:Nat) (w:World) (h:w.cell? ⟨K,25,none⟩ = some (.slice none 0 0)) :
 Calls Tryz.prog 80 #[.pointer (some ⟨K,0,none⟩)] w fun e w'=>e = .returned (.tuple #[])∧w=w':=by
 go_enter Tryz.func80,Tryz.ntmps80;go_wp2_with fail
 go_loop [10] (fun i=>i = .int .i64 0) (fun _=>0)
 case atStart=>rfl
 case round =>
  subst hrel;go_wp2_with fail
  go_end0
  exact⟨rfl,rfl⟩
theorem KQ (K:Nat) (w:World) (h:w.cell? ⟨K,26,none⟩ = some (.slice none 0 0)) :
 Calls Tryz.prog 81 #[.pointer (some ⟨K,0,none⟩)] w fun e w'=>e = .returned (.tuple #[])∧w=w':=by
 go_enter Tryz.func81,Tryz.ntmps81;go_wp2_with fail
 go_loop [10] (fun i=>i = .int .i64 0) (fun _=>0)
 case atStart=>rfl
 case round =>
  subst hrel;go_wp2_with fail
  go_end0
  exact⟨rfl,rfl⟩
theorem KY (K:Nat) (w:World) (h:w.cell? ⟨K,27,none⟩ = some (.slice none 0 0)) :
 Calls Tryz.prog 82 #[.pointer (some ⟨K,0,none⟩)] w fun e w'=>e = .returned (.tuple #[])∧w=w':=by
 go_enter Tryz.func82,Tryz.ntmps82;go_wp2_with fail
 go_loop [10] (fun i=>i = .int .i64 0) (fun _=>0)
 case atStart=>rfl
 case round =>
  subst hrel;go_wp2_with fail
  go_end0
  exact⟨rfl,rfl⟩
theorem QR (K:Nat) (w:World) (h:w.cell? ⟨K,2,none⟩ = some (.slice none 0 0)) :
 Calls Tryz.prog 84 #[.pointer (some ⟨K,0,none⟩)] w fun e w'=>e = .returned (.bool true)∧w=w':=by
 go_enter Tryz.func84,Tryz.ntmps84;go_wp2_with fail
 go_loop [12] (fun i=>i = .int .i64 0) (fun _=>0)
 case atStart=>rfl
 case round =>
  subst hrel;go_wp2_with fail;go_ret;exact⟨rfl,rfl⟩
theorem QG (K:Nat) (w:World) (h:w.cell? ⟨K,4,none⟩ = some (.slice none 0 0)) :
 Calls Tryz.prog 86 #[.pointer (some ⟨K,0,none⟩)] w fun e w'=>e = .returned (.bool true)∧w=w':=by
 go_enter Tryz.func86,Tryz.ntmps86;go_wp2_with fail
 go_loop [12] (fun i=>i = .int .i64 0) (fun _=>0)
 case atStart=>rfl
 case round =>
  subst hrel;go_wp2_with fail;go_ret;exact⟨rfl,rfl⟩
theorem J4 (K:Nat) (w:World) (h:w.cell? ⟨K,5,none⟩ = some (.slice none 0 0)) :
 Calls Tryz.prog 87 #[.pointer (some ⟨K,0,none⟩)] w fun e w'=>e = .returned (.bool true)∧w=w':=by
 go_enter Tryz.func87,Tryz.ntmps87;go_wp2_with fail
 go_loop [12] (fun i=>i = .int .i64 0) (fun _=>0)
 case atStart=>rfl
 case round =>
  subst hrel;go_wp2_with fail;go_ret;exact⟨rfl,rfl⟩
theorem QV (K:Nat) (w:World) (h:w.cell? ⟨K,6,none⟩ = some (.slice none 0 0)) :
 Calls Tryz.prog 88 #[.pointer (some ⟨K,0,none⟩)] w fun e w'=>e = .returned (.bool true)∧w=w':=by
 go_enter Tryz.func88,Tryz.ntmps88;go_wp2_with fail
 go_loop [12] (fun i=>i = .int .i64 0) (fun _=>0)
 case atStart=>rfl
 case round =>
  subst hrel;go_wp2_with fail;go_ret;exact⟨rfl,rfl⟩
theorem QP (K:Nat) (w:World) (h:w.cell? ⟨K,7,none⟩ = some (.slice none 0 0)) :
 Calls Tryz.prog 89 #[.pointer (some ⟨K,0,none⟩)] w fun e w'=>e = .returned (.bool true)∧w=w':=by
 go_enter Tryz.func89,Tryz.ntmps89;go_wp2_with fail
 go_loop [12] (fun i=>i = .int .i64 0) (fun _=>0)
 case atStart=>rfl
 case round =>
  subst hrel;go_wp2_with fail;go_ret;exact⟨rfl,rfl⟩
theorem J3 (K:Nat) (w:World) (h:w.cell? ⟨K,8,none⟩ = some (.slice none 0 0)) :
 Calls Tryz.prog 90 #[.pointer (some ⟨K,0,none⟩)] w fun e w'=>e = .returned (.bool true)∧w=w':=by
 go_enter Tryz.func90,Tryz.ntmps90;go_wp2_with fail
 go_loop [12] (fun i=>i = .int .i64 0) (fun _=>0)
 case atStart=>rfl
 case round =>
  subst hrel;go_wp2_with fail;go_ret;exact⟨rfl,rfl⟩
theorem QO (K:Nat) (w:World) (h:w.cell? ⟨K,9,none⟩ = some (.slice none 0 0)) :
 Calls Tryz.prog 91 #[.pointer (some ⟨K,0,none⟩)] w fun e w'=>e = .returned (.bool true)∧w=w':=by
 go_enter Tryz.func91,Tryz.ntmps91;go_wp2_with fail
 go_loop [12] (fun i=>i = .int .i64 0) (fun _=>0)
 case atStart=>rfl
 case round =>
  subst hrel;go_wp2_with fail;go_ret;exact⟨rfl,rfl⟩
theorem QN (K:Nat) (w:World) (h:w.cell? ⟨K,10,none⟩ = some (.slice none 0 0)) :
 Calls Tryz.prog 92 #[.pointer (some ⟨K,0,none⟩)] w fun e w'=>e = .returned (.bool true)∧w=w':=by
 go_enter Tryz.func92,Tryz.ntmps92;go_wp2_with fail
 go_loop [12] (fun i=>i = .int .i64 0) (fun _=>0)
 case atStart=>rfl
 case round =>
  subst hrel;go_wp2_with fail;go_ret;exact⟨rfl,rfl⟩
theorem QE (K:Nat) (w:World) (h:w.cell? ⟨K,11,none⟩ = some (.slice none 0 0)) :
 Calls Tryz.prog 93 #[.pointer (some ⟨K,0,none⟩)] w fun e w'=>e = .returned (.bool true)∧w=w':=by
 go_enter Tryz.func93,Tryz.ntmps93;go_wp2_with fail
 go_loop [12] (fun i=>i = .int .i64 0) (fun _=>0)
 case atStart=>rfl
 case round =>
  subst hrel;go_wp2_with fail;go_ret;exact⟨rfl,rfl⟩
theorem QF (K:Nat) (w:World) (h:w.cell? ⟨K,12,none⟩ = some (.slice none 0 0)) :
 Calls Tryz.prog 94 #[.pointer (some ⟨K,0,none⟩)] w fun e w'=>e = .returned (.bool true)∧w=w':=by
 go_enter Tryz.func94,Tryz.ntmps94;go_wp2_with fail
 go_loop [12] (fun i=>i = .int .i64 0) (fun _=>0)
 case atStart=>rfl
 case round =>
  subst hrel;go_wp2_with fail;go_ret;exact⟨rfl,rfl⟩
theorem QZ (K:Nat) (w:World) (h:w.cell? ⟨K,13,none⟩ = some (.slice none 0 0)) :
 Calls Tryz.prog 95 #[.pointer (some ⟨K,0,none⟩)] w fun e w'=>e = .returned (.bool true)∧w=w':=by
 go_enter Tryz.func95,Tryz.ntmps95;go_wp2_with fail
 go_loop [12] (fun i=>i = .int .i64 0) (fun _=>0)
 case atStart=>rfl
 case round =>
  subst hrel;go_wp2_with fail;go_ret;exact⟨rfl,rfl⟩
theorem QJ (K:Nat) (w:World) (h:w.cell? ⟨K,14,none⟩ = some (.slice none 0 0)) :
 Calls Tryz.prog 96 #[.pointer (some ⟨K,0,none⟩)] w fun e w'=>e = .returned (.bool true)∧w=w':=by
 go_enter Tryz.func96,Tryz.ntmps96;go_wp2_with fail
 go_loop [12] (fun i=>i = .int .i64 0) (fun _=>0)
 case atStart=>rfl
 case round =>
  subst hrel;go_wp2_with fail;go_ret;exact⟨rfl,rfl⟩
theorem J2 (K:Nat) (w:World) (h:w.cell? ⟨K,16,none⟩ = some (.slice none 0 0)) :
 Calls Tryz.prog 98 #[.pointer (some ⟨K,0,none⟩)] w fun e w'=>e = .returned (.bool true)∧w=w':=by
 go_enter Tryz.func98,Tryz.ntmps98;go_wp2_with fail
 go_loop [12] (fun i=>i = .int .i64 0) (fun _=>0)
 case atStart=>rfl
 case round =>
  subst hrel;go_wp2_with fail;go_ret;exact⟨rfl,rfl⟩
theorem QH (K:Nat) (w:World) (h:w.cell? ⟨K,17,none⟩ = some (.slice none 0 0)) :
 Calls Tryz.prog 99 #[.pointer (some ⟨K,0,none⟩)] w fun e w'=>e = .returned (.bool true)∧w=w':=by
 go_enter Tryz.func99,Tryz.ntmps99;go_wp2_with fail
 go_loop [12] (fun i=>i = .int .i64 0) (fun _=>0)
 case atStart=>rfl
 case round =>
  subst hrel;go_wp2_with fail;go_ret;exact⟨rfl,rfl⟩
theorem QM (K:Nat) (w:World) (h:w.cell? ⟨K,18,none⟩ = some (.slice none 0 0)) :
 Calls Tryz.prog 100 #[.pointer (some ⟨K,0,none⟩)] w fun e w'=>e = .returned (.bool true)∧w=w':=by
 go_enter Tryz.func100,Tryz.ntmps100;go_wp2_with fail
 go_loop [12] (fun i=>i = .int .i64 0) (fun _=>0)
 case atStart=>rfl
 case round =>
  subst hrel;go_wp2_with fail;go_ret;exact⟨rfl,rfl⟩
theorem QY (K:Nat) (w:World) (h:w.cell? ⟨K,19,none⟩ = some (.slice none 0 0)) :
 Calls Tryz.prog 101 #[.pointer (some ⟨K,0,none⟩)] w fun e w'=>e = .returned (.bool true)∧w=w':=by
 go_enter Tryz.func101,Tryz.ntmps101;go_wp2_with fail
 go_loop [12] (fun i=>i = .int .i64 0) (fun _=>0)
 case atStart=>rfl
 case round =>
  subst hrel;go_wp2_with fail;go_ret;exact⟨rfl,rfl⟩
theorem J5 (K:Nat) (w:World) (h:w.cell? ⟨K,20,none⟩ = some (.slice none 0 0)) :
 Calls Tryz.prog 102 #[.pointer (some ⟨K,0,none⟩)] w fun e w'=>e = .returned (.bool true)∧w=w':=by
 go_enter Tryz.func102,Tryz.ntmps102;go_wp2_with fail
 go_loop [12] (fun i=>i = .int .i64 0) (fun _=>0)
 case atStart=>rfl
 case round =>
  subst hrel;go_wp2_with fail;go_ret;exact⟨rfl,rfl⟩
theorem QX (K:Nat) (w:World) (h:w.cell? ⟨K,21,none⟩ = some (.slice none 0 0)) :
 Calls Tryz.prog 103 #[.pointer (some ⟨K,0,none⟩)] w fun e w'=>e = .returned (.bool true)∧w=w':=by
 go_enter Tryz.func103,Tryz.ntmps103;go_wp2_with fail
 go_loop [12] (fun i=>i = .int .i64 0) (fun _=>0)
 case atStart=>rfl
 case round =>
  subst hrel;go_wp2_with fail;go_ret;exact⟨rfl,rfl⟩
theorem J6 (K:Nat) (w:World) (h:w.cell? ⟨K,22,none⟩ = some (.slice none 0 0)) :
 Calls Tryz.prog 104 #[.pointer (some ⟨K,0,none⟩)] w fun e w'=>e = .returned (.bool true)∧w=w':=by
 go_enter Tryz.func104,Tryz.ntmps104;go_wp2_with fail
 go_loop [12] (fun i=>i = .int .i64 0) (fun _=>0)
 case atStart=>rfl
 case round =>
  subst hrel;go_wp2_with fail;go_ret;exact⟨rfl,rfl⟩
theorem QU (K:Nat) (w:World) (h:w.cell? ⟨K,23,none⟩ = some (.slice none 0 0)) :
 Calls Tryz.prog 105 #[.pointer (some ⟨K,0,none⟩)] w fun e w'=>e = .returned (.bool true)∧w=w':=by
 go_enter Tryz.func105,Tryz.ntmps105;go_wp2_with fail
 go_loop [12] (fun i=>i = .int .i64 0) (fun _=>0)
 case atStart=>rfl
 case round =>
  subst hrel;go_wp2_with fail;go_ret;exact⟨rfl,rfl⟩
theorem QQ (K:Nat) (w:World) (h:w.cell? ⟨K,24,none⟩ = some (.slice none 0 0)) :
 Calls Tryz.prog 106 #[.pointer (some ⟨K,0,none⟩)] w fun e w'=>e = .returned (.bool true)∧w=w':=by
 go_enter Tryz.func106,Tryz.ntmps106;go_wp2_with fail
 go_loop [12] (fun i=>i = .int .i64 0) (fun _=>0)
 case atStart=>rfl
 case round =>
  subst hrel;go_wp2_with fail;go_ret;exact⟨rfl,rfl⟩
theorem QI (K:Nat) (w:World) (h:w.cell? ⟨K,25,none⟩ = some (.slice none 0 0)) :
 Calls Tryz.prog 107 #[.pointer (some ⟨K,0,none⟩)] w fun e w'=>e = .returned (.bool true)∧w=w':=by
 go_enter Tryz.func107,Tryz.ntmps107;go_wp2_with fail
 go_loop [12] (fun i=>i = .int .i64 0) (fun _=>0)
 case atStart=>rfl
 case round =>
  subst hrel;go_wp2_with fail;go_ret;exact⟨rfl,rfl⟩
theorem QD (K:Nat) (w:World) (h:w.cell? ⟨K,26,none⟩ = some (.slice none 0 0)) :
 Calls Tryz.prog 108 #[.pointer (some ⟨K,0,none⟩)] w fun e w'=>e = .returned (.bool true)∧w=w':=by
 go_enter Tryz.func108,Tryz.ntmps108;go_wp2_with fail
 go_loop [12] (fun i=>i = .int .i64 0) (fun _=>0)
 case atStart=>rfl
 case round =>
  subst hrel;go_wp2_with fail;go_ret;exact⟨rfl,rfl⟩
theorem QK (K:Nat) (w:World) (h:w.cell? ⟨K,27,none⟩ = some (.slice none 0 0)) :
 Calls Tryz.prog 109 #[.pointer (some ⟨K,0,none⟩)] w fun e w'=>e = .returned (.bool true)∧w=w':=by
 go_enter Tryz.func109,Tryz.ntmps109;go_wp2_with fail
 go_loop [12] (fun i=>i = .int .i64 0) (fun _=>0)
 case atStart=>rfl
 case round =>
  subst hrel;go_wp2_with fail;go_ret;exact⟨rfl,rfl⟩
theorem z1u (K:Nat) (k:Int) (w:World) (h:w.cell? ⟨K,1,none⟩ = some (.slice none 0 0)) :
 Calls Tryz.prog 83 #[.pointer (some ⟨K,0,none⟩),.int .u64 k] w fun e w'=>e = .returned (.bool true)∧w=w':=by
 go_enter Tryz.func83,Tryz.ntmps83;go_wp2_with fail
 go_loop [19] (fun i=>i = .int .i64 0) (fun _=>0)
 case atStart=>rfl
 case round =>
  subst hrel;go_wp2_with fail
  go_loop [44] (fun i=>i = .int .i64 0) (fun _=>0)
  case atStart=>rfl
  case round =>
   subst hrel;go_wp2_with fail
   go_loop [77] (fun i=>i = .int .i64 0) (fun _=>0)
   case atStart=>rfl
   case round =>
    subst hrel;go_wp2_with fail;go_ret;exact⟨rfl,rfl⟩
theorem BQ.nil {ow:Nat→Nat} {w:World} {K cnt:Nat} {vW vS:Value} {nW nS:List (Value × Nat)} {c:Nat→List Int} {d:Nat→List (Value × Int)} (h:BQ ow w K cnt vW vS nW c nS d) (j:Nat) (hj:(kG (cnt:Int) vW vS)[j]? = some (.slice none 0 0)):w.cell? ⟨K,j,none⟩ = some (.slice none 0 0):=zh h.box j _ hj
theorem z0b {nS:List (Value × Nat)} {d d':Nat→List (Value × Int)} (h:wQ nS d d' nS.length 0) (hl:∀ j,(d j).length≤1000):wV nS d' 0 0:=
 ⟨h.done,fun j=>by rw[h.len];have:=hl j;omega⟩
theorem Qi {nW nX:List (Value × Nat)} {c:Nat→List Int} (h:nX.map (·.2)=nW.map (·.2)) (i:Nat) (x:Value × Nat) (hx:nX[i]? = some x):∀ y ∈ xE (filled nW c nW.length) (mW nW) nW.length 0 i,y=mW nX i:=by
 intro y hy;have hl:=congrArg List.length h;simp only[List.length_map]at hl;have hi:=(List.getElem?_eq_some_iff.1 hx).1;have hm:mW nX i=mW nW i:=by unfold mW;rw[qR h]
 rw[hm];unfold xE at hy;rw[if_pos (by omega)]at hy;rcases List.mem_append.1 hy with hy|hy
 · unfold filled at hy
   rw[if_pos (by omega)]at hy;exact (List.mem_replicate.1 hy).2
 · exact (List.mem_replicate.1 hy).2
theorem UI (nW:List (Value × Nat)) (c:Nat→List Int) (k i:Nat):(filled nW c k i).length=(c i).length:=by
 unfold filled;split <;> simp
theorem KL (nW:List (Value × Nat)) (c:Nat→List Int) (m:Nat→Int) (k i:Nat):(xE c m k 0 i).length≤(c i).length+3:=by
 unfold xE;split
 · simp
 · split <;> simp
theorem z3l {ow:Nat→Nat} {w:World} {K cnt:Nat} {vW vS:Value} {nW nS:List (Value × Nat)} {c:Nat→List Int} {d:Nat→List (Value × Int)} (h:BQ ow w K cnt vW vS nW c nS d) (hn:nW.length≤1000∧nS.length≤1000) (hw:∀ j,numOf nW j≤1000000) (hw2:∀ x ∈ nW,x.2≤1000000) (hs:∀ j,numOf nS j≤1000000) (hlw:∀ i,(c i).length≤4000000) (hls:∀ i,(d i).length≤1000) :
 Calls Tryz.prog 12 #[.pointer (some ⟨K,0,none⟩)] w fun e w'=>e = .returned (.bool true)∧Zq ow w w':=by
 have HZ:=hid (Zq.refl ow w);have HE:=hid (Ext.refl ow w);have HT:=hid h;have HN:=hid hn;have HW:=hid hw;have HW2:=hid hw2;have HS:=hid hs;have HLW:=hid hlw;have HLS:=hid hls;clear h hn hw hw2 hs hlw hls;go_enter Tryz.func12,Tryz.ntmps12;go_wp2_with fail;refine (z00 K _ (HT.out.nil 2 rfl)).mono ?_;rintro e w' ⟨rfl,rfl⟩;go_wp2_with fail;refine (UJ HT.out HN.out.1 HW2.out (fun i _ _=>HLW.out i)).mono ?_;rintro e w2 ⟨rfl,z1,z2⟩;have HZ:=hid (HZ.out.trans HE.out z1);have HT:=hid z2;have HLW:=hid (show ∀ i,(filled nW c nW.length i).length≤4000000 from fun i=>by rw[UI];exact HLW.out i);clear z1 z2;go_wp2_with fail;refine (UN K _ (HT.out.nil 4 rfl)).mono ?_;rintro e w' ⟨rfl,rfl⟩;go_wp2_with fail;refine (z08 K _ (HT.out.nil 5 rfl)).mono ?_;rintro e w' ⟨rfl,rfl⟩;go_wp2_with fail;refine (z02 K _ (HT.out.nil 6 rfl)).mono ?_;rintro e w' ⟨rfl,rfl⟩;go_wp2_with fail;refine (UY K _ (HT.out.nil 7 rfl)).mono ?_;rintro e w' ⟨rfl,rfl⟩;go_wp2_with fail;refine (z07 K _ (HT.out.nil 8 rfl)).mono ?_;rintro e w' ⟨rfl,rfl⟩;go_wp2_with fail;refine (UX K _ (HT.out.nil 9 rfl)).mono ?_;rintro e w' ⟨rfl,rfl⟩;go_wp2_with fail;refine (UW K _ (HT.out.nil 10 rfl)).mono ?_;rintro e w' ⟨rfl,rfl⟩;go_wp2_with fail;refine (UL K _ (HT.out.nil 11 rfl)).mono ?_;rintro e w' ⟨rfl,rfl⟩;go_wp2_with fail;refine (UM K _ (HT.out.nil 12 rfl)).mono ?_;rintro e w' ⟨rfl,rfl⟩;go_wp2_with fail;refine (z05 K _ (HT.out.nil 13 rfl)).mono ?_;rintro e w' ⟨rfl,rfl⟩;go_wp2_with fail;refine (UR K _ (HT.out.nil 14 rfl)).mono ?_;rintro e w' ⟨rfl,rfl⟩;go_wp2_with fail;refine (UU HT.out HN.out.2 HS.out (fun i _ _=>by have:=HLS.out i;omega)).mono ?_;rintro e w2 ⟨rfl,z1,d2,z2,z3⟩;have HZ:=hid (HZ.out.trans HE.out z1);have HT:=hid z3;have HG:=hid (z0b z2 HLS.out);clear z1 z2 z3;go_wp2_with fail;refine (z06 K _ (HT.out.nil 16 rfl)).mono ?_;rintro e w' ⟨rfl,rfl⟩;go_wp2_with fail;refine (UO K _ (HT.out.nil 17 rfl)).mono ?_;rintro e w' ⟨rfl,rfl⟩;go_wp2_with fail;refine (UV K _ (HT.out.nil 18 rfl)).mono ?_;rintro e w' ⟨rfl,rfl⟩;go_wp2_with fail;refine (z04 K _ (HT.out.nil 19 rfl)).mono ?_;rintro e w' ⟨rfl,rfl⟩;go_wp2_with fail;refine (z09 K _ (HT.out.nil 20 rfl)).mono ?_;rintro e w' ⟨rfl,rfl⟩;go_wp2_with fail;refine (z03 K _ (HT.out.nil 21 rfl)).mono ?_;rintro e w' ⟨rfl,rfl⟩;go_wp2_with fail;refine (z0a K _ (HT.out.nil 22 rfl)).mono ?_;rintro e w' ⟨rfl,rfl⟩;go_wp2_with fail;refine (z01 K _ (HT.out.nil 23 rfl)).mono ?_;rintro e w' ⟨rfl,rfl⟩;go_wp2_with fail;refine (UZ K _ (HT.out.nil 24 rfl)).mono ?_;rintro e w' ⟨rfl,rfl⟩;go_wp2_with fail;refine (UQ K _ (HT.out.nil 25 rfl)).mono ?_;rintro e w' ⟨rfl,rfl⟩;go_wp2_with fail;refine (UK K _ (HT.out.nil 26 rfl)).mono ?_;rintro e w' ⟨rfl,rfl⟩;go_wp2_with fail;refine (UT K _ (HT.out.nil 27 rfl)).mono ?_;rintro e w' ⟨rfl,rfl⟩;go_wp2_with fail;refine (U7 K _ (HT.out.nil 2 rfl)).mono ?_;rintro e w' ⟨rfl,rfl⟩;go_wp2_with fail;refine (KP HT.out HN.out.1 HW.out (fun i _ _=>HLW.out i)).mono ?_;rintro e w2 ⟨rfl,z1,ow2,nX,z2,z3,z4⟩;have HE2:=hid (Ext.to HE.out z2 HZ.out.size);have HZ:=hid (HZ.out.trans HE.out z1);have HE:=HE2;have HT:=hid z4;have HMX:=hid z3;clear z1 z2 z3 z4;go_wp2_with fail;refine (KU K _ (HT.out.nil 4 rfl)).mono ?_;rintro e w' ⟨rfl,rfl⟩;go_wp2_with fail;refine (Uf K _ (HT.out.nil 5 rfl)).mono ?_;rintro e w' ⟨rfl,rfl⟩;go_wp2_with fail;refine (U9 K _ (HT.out.nil 6 rfl)).mono ?_;rintro e w' ⟨rfl,rfl⟩;go_wp2_with fail;refine (U5 K _ (HT.out.nil 7 rfl)).mono ?_;rintro e w' ⟨rfl,rfl⟩;go_wp2_with fail;refine (Ue K _ (HT.out.nil 8 rfl)).mono ?_;rintro e w' ⟨rfl,rfl⟩;go_wp2_with fail;refine (U4 K _ (HT.out.nil 9 rfl)).mono ?_;rintro e w' ⟨rfl,rfl⟩;go_wp2_with fail;refine (U3 K _ (HT.out.nil 10 rfl)).mono ?_;rintro e w' ⟨rfl,rfl⟩;go_wp2_with fail;refine (KS K _ (HT.out.nil 11 rfl)).mono ?_;rintro e w' ⟨rfl,rfl⟩;go_wp2_with fail;refine (KT K _ (HT.out.nil 12 rfl)).mono ?_;rintro e w' ⟨rfl,rfl⟩;go_wp2_with fail;refine (Uc K _ (HT.out.nil 13 rfl)).mono ?_;rintro e w' ⟨rfl,rfl⟩;go_wp2_with fail;refine (KX K _ (HT.out.nil 14 rfl)).mono ?_;rintro e w' ⟨rfl,rfl⟩;go_wp2_with fail;refine (KZ HT.out HN.out.2 HS.out HG.out).mono ?_;rintro e w2 ⟨rfl,z1,ow3,nZ,d3,z2,z3,z4,z5⟩;have HE2:=hid (Ext.to HE.out z2 HZ.out.size);have HZ:=hid (HZ.out.trans HE.out z1);have HE:=HE2;have HT:=hid z5;have HMZ:=hid z3;have HG:=hid z4;clear z1 z2 z3 z4 z5;go_wp2_with fail;refine (Ud K _ (HT.out.nil 16 rfl)).mono ?_;rintro e w' ⟨rfl,rfl⟩;go_wp2_with fail;refine (KV K _ (HT.out.nil 17 rfl)).mono ?_;rintro e w' ⟨rfl,rfl⟩;go_wp2_with fail;refine (U0 K _ (HT.out.nil 18 rfl)).mono ?_;rintro e w' ⟨rfl,rfl⟩;go_wp2_with fail;refine (Ub K _ (HT.out.nil 19 rfl)).mono ?_;rintro e w' ⟨rfl,rfl⟩;go_wp2_with fail;refine (Ug K _ (HT.out.nil 20 rfl)).mono ?_;rintro e w' ⟨rfl,rfl⟩;go_wp2_with fail;refine (Ua K _ (HT.out.nil 21 rfl)).mono ?_;rintro e w' ⟨rfl,rfl⟩;go_wp2_with fail;refine (Uh K _ (HT.out.nil 22 rfl)).mono ?_;rintro e w' ⟨rfl,rfl⟩;go_wp2_with fail;refine (U8 K _ (HT.out.nil 23 rfl)).mono ?_;rintro e w' ⟨rfl,rfl⟩;go_wp2_with fail;refine (U6 K _ (HT.out.nil 24 rfl)).mono ?_;rintro e w' ⟨rfl,rfl⟩;go_wp2_with fail;refine (KW K _ (HT.out.nil 25 rfl)).mono ?_;rintro e w' ⟨rfl,rfl⟩;go_wp2_with fail;refine (KQ K _ (HT.out.nil 26 rfl)).mono ?_;rintro e w' ⟨rfl,rfl⟩;go_wp2_with fail;refine (KY K _ (HT.out.nil 27 rfl)).mono ?_;rintro e w' ⟨rfl,rfl⟩;go_wp2_with fail
 go_loop [3] (fun i=>∃ j:Nat,j≤8∧i = .int .u64 j) (fun i=>8 - (intOf i).toNat)
 case atStart=>exact⟨0,by omega,rfl⟩
 case round =>
  obtain⟨j,hj,rfl⟩:=hrel
  by_cases hlt:j<8
  · go_wp2_with fail
    refine (z1u K _ _ (HT.out.nil 1 rfl)).mono ?_;rintro e w' ⟨rfl,rfl⟩;go_wp2_with fail
    go_round
    case rel=>exact⟨j+1,by omega,by go_num⟩
    case measure=>simp[intOf];omega
  · obtain rfl:j=8:=by omega
    go_wp2_with fail;refine (QR K _ (HT.out.nil 2 rfl)).mono ?_;rintro e w' ⟨rfl,rfl⟩;go_wp2_with fail;have hlx:=congrArg List.length HMX.out;simp only[List.length_map]at hlx;refine (QC HT.out (by rw[hlx];exact HN.out.1) (fun j=>by rw[qR HMX.out];exact HW.out j) (fun i x hx=>Qi HMX.out i x hx) (fun i _ _=>by have h1:=KL nW (filled nW c nW.length) (mW nW) nW.length i;have h2:=HLW.out i;omega)).mono ?_;rintro e w2 ⟨rfl,z1⟩;have HT2:=hid (HT.out.below z1);have HZ2:=hid (HZ.out.trans HE.out (Zq.ofb z1));clear z1 hlx;go_wp2_with fail;refine (QG K _ (HT2.out.nil 4 rfl)).mono ?_;rintro e w' ⟨rfl,rfl⟩;go_wp2_with fail;refine (J4 K _ (HT2.out.nil 5 rfl)).mono ?_;rintro e w' ⟨rfl,rfl⟩;go_wp2_with fail;refine (QV K _ (HT2.out.nil 6 rfl)).mono ?_;rintro e w' ⟨rfl,rfl⟩;go_wp2_with fail;refine (QP K _ (HT2.out.nil 7 rfl)).mono ?_;rintro e w' ⟨rfl,rfl⟩;go_wp2_with fail;refine (J3 K _ (HT2.out.nil 8 rfl)).mono ?_;rintro e w' ⟨rfl,rfl⟩;go_wp2_with fail;refine (QO K _ (HT2.out.nil 9 rfl)).mono ?_;rintro e w' ⟨rfl,rfl⟩;go_wp2_with fail;refine (QN K _ (HT2.out.nil 10 rfl)).mono ?_;rintro e w' ⟨rfl,rfl⟩;go_wp2_with fail;refine (QE K _ (HT2.out.nil 11 rfl)).mono ?_;rintro e w' ⟨rfl,rfl⟩;go_wp2_with fail;refine (QF K _ (HT2.out.nil 12 rfl)).mono ?_;rintro e w' ⟨rfl,rfl⟩;go_wp2_with fail;refine (QZ K _ (HT2.out.nil 13 rfl)).mono ?_;rintro e w' ⟨rfl,rfl⟩;go_wp2_with fail;refine (QJ K _ (HT2.out.nil 14 rfl)).mono ?_;rintro e w' ⟨rfl,rfl⟩;go_wp2_with fail;have hlz:=congrArg List.length HMZ.out;simp only[List.length_map]at hlz;refine (QL HT2.out (by rw[hlz];exact HN.out.2) (fun j=>by rw[qR HMZ.out];exact HS.out j) (fun j hj y hy=>by rw[qR HMZ.out];exact HG.out.all j (by omega) y hy) (fun i=>by have h:=HG.out.len i;split at h <;> (try split at h) <;> omega)).mono ?_;rintro e w2 ⟨rfl,z1⟩;have HT2:=hid (HT2.out.below z1);have HZ2:=hid (HZ2.out.trans HE.out (Zq.ofb z1));clear z1 hlz;go_wp2_with fail;refine (J2 K _ (HT2.out.nil 16 rfl)).mono ?_;rintro e w' ⟨rfl,rfl⟩;go_wp2_with fail;refine (QH K _ (HT2.out.nil 17 rfl)).mono ?_;rintro e w' ⟨rfl,rfl⟩;go_wp2_with fail;refine (QM K _ (HT2.out.nil 18 rfl)).mono ?_;rintro e w' ⟨rfl,rfl⟩;go_wp2_with fail;refine (QY K _ (HT2.out.nil 19 rfl)).mono ?_;rintro e w' ⟨rfl,rfl⟩;go_wp2_with fail;refine (J5 K _ (HT2.out.nil 20 rfl)).mono ?_;rintro e w' ⟨rfl,rfl⟩;go_wp2_with fail;refine (QX K _ (HT2.out.nil 21 rfl)).mono ?_;rintro e w' ⟨rfl,rfl⟩;go_wp2_with fail;refine (J6 K _ (HT2.out.nil 22 rfl)).mono ?_;rintro e w' ⟨rfl,rfl⟩;go_wp2_with fail;refine (QU K _ (HT2.out.nil 23 rfl)).mono ?_;rintro e w' ⟨rfl,rfl⟩;go_wp2_with fail;refine (QQ K _ (HT2.out.nil 24 rfl)).mono ?_;rintro e w' ⟨rfl,rfl⟩;go_wp2_with fail;refine (QI K _ (HT2.out.nil 25 rfl)).mono ?_;rintro e w' ⟨rfl,rfl⟩;go_wp2_with fail;refine (QD K _ (HT2.out.nil 26 rfl)).mono ?_;rintro e w' ⟨rfl,rfl⟩;go_wp2_with fail;refine (QK K _ (HT2.out.nil 27 rfl)).mono ?_;rintro e w' ⟨rfl,rfl⟩;go_wp2_with fail;go_ret;exact⟨rfl,HZ2.out⟩
