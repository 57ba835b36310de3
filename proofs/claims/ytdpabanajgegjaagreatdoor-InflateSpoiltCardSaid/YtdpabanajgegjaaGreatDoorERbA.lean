import Derived.Test.YtdpabanajgegjaaGreatDoorEMMath
import Derived.Deep.OwnRows
import Derived.BigQuiet
import Derived.Deep.QuietTactic
namespace Go.Proofs.YtdpabanajgegjaaGreatDoor
open Go.Lib (hid)
open Go.RowKit M
set_option linter.unusedVariables false
set_option maxRecDepth 1000000
structure Rd(w:World)(B p:Nat)(s:ByteArray)(a:Nat):Prop where
 c0:w.cell? ⟨p,0,none⟩=some (.bool true)
 c1:w.cell? ⟨p,1,none⟩=some (.string s)
 c2:w.cell? ⟨p,2,none⟩=some (.int .i64 a)
 fz:∀i,w.frozen? ⟨p,i,none⟩=false
 base:B≤p
 le:a≤8*s.size
variable {w w':World} {B p a:Nat} {s:ByteArray} {S T:Nat→Prop}
theorem Rd.lt(h:Rd w B p s a):p<w.heap.size:=World.block_lt_of_cell? w _ h.c0
theorem Rd.keep(h:Rd w B p s a)(hk:Kept T w w')(hT:¬T p):Rd w' B p s a:=
 ⟨hk.cell h.c0 hT,hk.cell h.c1 hT,hk.cell h.c2 hT,fun i=>(hk.frozen (a:=⟨p,i,none⟩) h.lt hT).trans (h.fz i),h.base,h.le⟩
theorem Rd.same(h:Rd w B p s a)(hk:Kept NoB w w'):Rd w' B p s a:=h.keep hk (fun g=>g)
theorem Rd.drewN(h:Rd w B p s a)(n:Nat):Rd (w.drewN n) B p s a:=h.same ((Kept.refl NoB w).drewN n)
theorem rset_ne{i j:Nat}{v:Value}(h:i≠j):(w.setCell ⟨p,i,none⟩ v).cell? ⟨p,j,none⟩=w.cell? ⟨p,j,none⟩:=World.cell?_setCell_other w _ _ _ (fun e=>h (by injection e))
theorem rset_eq{i:Nat}{u v:Value}(h:w.cell? ⟨p,i,none⟩=some u):(w.setCell ⟨p,i,none⟩ v).cell? ⟨p,i,none⟩=some v:=World.cell?_setCell_same' w _ _ (by rw[h];rfl)
theorem Rd.put(h:Rd w B p s a)(b:Nat)(hb:b≤8*s.size)(z:Int)(hz:z=(b:Int)):Rd (w.setCell ⟨p,2,none⟩ (.int .i64 z)) B p s b∧Kept (fun j=>j=p) w (w.setCell ⟨p,2,none⟩ (.int .i64 z)):=by
 subst hz;refine⟨⟨(rset_ne (by decide)).trans h.c0,(rset_ne (by decide)).trans h.c1,rset_eq h.c2,fun i=> ?_,h.base,hb⟩,(Kept.refl (fun j=>j=p) w).setCell ⟨p,2,none⟩ (.inl rfl) _⟩;rw[World.frozen?_setCell];exact h.fz i
theorem rnew_any(s:ByteArray)(w:World)(hB:B≤w.heap.size):
 Calls Tryz.prog 54 #[.string s] w fun e w'=>e=.returned (.pointer (some ⟨w.heap.size,0,none⟩))∧Kept NoB w w'∧Rd w' B w.heap.size s 0∧w.heap.size<w'.heap.size:=by
 go_enter Tryz.func54,Tryz.ntmps54;go_wp2;go_ret;exact⟨rfl,(Kept.refl _ _).alloc _,⟨by simp,by simp,by simp,fun i=>by simp,hB,Nat.zero_le _⟩,by simp⟩
theorem rmade_yes(p:Nat)(w:World)(hc:w.cell? ⟨p,0,none⟩=some (.bool true)):
 Calls Tryz.prog 93 #[.pointer (some ⟨p,0,none⟩)] w fun e w'=>e=.returned (.bool true)∧w=w':=by
 go_enter Tryz.func93,Tryz.ntmps93;go_wp2;go_ret;exact⟨rfl,rfl⟩
theorem rmay_yes(x:Int)(w:World)(h1:0≤x)(h2:x≤56):
 Calls Tryz.prog 159 #[.int .i64 x] w fun e w'=>e=.returned (.bool true)∧w=w':=by
 go_enter Tryz.func159,Tryz.ntmps159;go_wp2_with fail;go_ret;exact⟨rfl,rfl⟩
theorem left_any(h:Rd w B p s a)(hs:s.size≤100000000):
 Calls Tryz.prog 160 #[.pointer (some ⟨p,0,none⟩)] w fun e w'=>e=.returned (.int .i64 (8*s.size - a:Nat))∧∃n,w'=w.drewN n:=by
 have h0:=h.c0;have h1:=h.c1;have h2:=h.c2;have hle:=h.le;have HL:=hid (show(s.size:Int)*8 - (a:Int)=((8*s.size - a:Nat):Int) by omega);have ha:a≤800000000:=by omega
 clear h hle;go_enter Tryz.func160,Tryz.ntmps160;go_wp2_with (go_at_call 93;refine(rmade_yes p _ h0).mono ?_;rintro e w' ⟨rfl,rfl⟩)
 go_quiet (fail)
 go_wp2;go_ret;exact⟨congrArg (fun z=>Ending.returned (.int .i64 z)) HL.out,_,rfl⟩
theorem at_any(h:Rd w B p s a):
 Calls Tryz.prog 57 #[.pointer (some ⟨p,0,none⟩)] w fun e w'=>e=.returned (.int .i64 a)∧w=w':=by
 have h0:=h.c0;have h2:=h.c2;clear h;go_enter Tryz.func57,Tryz.ntmps57;go_wp2_with (go_at_call 93;refine(rmade_yes p _ h0).mono ?_;rintro e w' ⟨rfl,rfl⟩);go_ret;exact⟨rfl,rfl⟩
theorem rup8(n:Nat)(h:n≤4611686018427387000):up n 8/8=(((n+7) /8:Nat):Int)∧0≤up n 8:=by
 unfold up;by_cases h1:n=0
 · subst h1;decide
 · rw[if_neg (by omega),if_neg (by omega)]
   omega
theorem whole_any(h:Rd w B p s a)(hs:s.size≤100000000):
 Calls Tryz.prog 94 #[.pointer (some ⟨p,0,none⟩)] w fun e w'=>e=.returned (.int .i64 ((a+7) /8:Nat))∧w=w':=by
 have h2:=h.c2;have hle:=h.le;have ha:a≤800000000:=by omega
 have h8:=(rup8 a (by omega)).2;have H:=hid (rup8 a (by omega)).1;have hr:=up_range a 8;clear h hle;go_enter Tryz.func94,Tryz.ntmps94;go_wp2_with (go_at_call 141;refine(up_any a 8 _ (by omega) (by omega)).mono ?_;rintro e w' ⟨rfl,rfl⟩);go_ret;exact⟨congrArg (fun z=>Ending.returned (.int .i64 z)) H.out,rfl⟩
end Go.Proofs.YtdpabanajgegjaaGreatDoor
