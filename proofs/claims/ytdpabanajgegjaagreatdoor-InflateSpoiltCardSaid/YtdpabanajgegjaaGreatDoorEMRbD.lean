/- Texts of one place, one behind the other: RbD, RbE. -/
import Derived.Test.YtdpabanajgegjaaGreatDoorEMRbB
import Derived.Laws.MakeOwn
import Derived.Lib.UnsafeStr
import Derived.Lib.Strings
import Derived.Lib.Walk
set_option linter.unusedVariables false
set_option maxRecDepth 1000000
namespace Go.Proofs.YtdpabanajgegjaaGreatDoor
open Go.Lib (hid)
open Go.RowKit M
variable {w w':World} {B p a:Nat} {s:ByteArray} {S T:Nat→Prop}
theorem rpeek_yes(h:Rd w B p s a)(hs:s.size≤100000000)(n:Nat)(hn:n≤56):
 Calls Tryz.prog 209 #[.pointer (some ⟨p,0,none⟩),.int .i64 n] w (Got w B p s (.tuple #[.int .u64 (nb s a (min n (8*s.size - a))),.int .i64 (min n (8*s.size - a):Nat)]) a):=by
 have h0:=h.c0;have HH:=hid h;obtain⟨l,hl⟩:∃l,8*s.size - a=l:=⟨_,rfl⟩
 have HL:=hid hl;rw[hl];obtain⟨m,hm⟩:∃m,min n l=m:=⟨_,rfl⟩
 have hm2:m≤56:=by omega
 have HM:=hid hm;rw[hm];have hmi:min (n:Int) (l:Int)=(m:Int):=by omega
 clear h hl hm;go_enter Tryz.func209,Tryz.ntmps209;go_wp2_with (go_at_call 93;refine(rmade_yes p _ h0).mono ?_;rintro e w' ⟨rfl,rfl⟩);refine(rmay_yes n _ (by omega) (by omega)).mono ?_;rintro e w' ⟨rfl,rfl⟩;go_wp2_with fail;refine(left_any HH.out hs).mono ?_;rintro e w' ⟨rfl,n1,rfl⟩;rw[HL.out];go_wp2_with fail;refine(look_any (HH.out.drewN n1) hs m hm2).mono ?_;rintro e w2 ⟨rfl,k2⟩;have K2:=hid (((Kept.refl NoB w).drewN n1).trans k2 (fun _ g=>g.elim));clear k2 h0;go_wp2_with fail;go_ret2;exact Got.same HH.out K2.out _
theorem rskip_yes(h:Rd w B p s a)(hs:s.size≤100000000)(n:Nat)(hle:a+n≤8*s.size):
 Calls Tryz.prog 208 #[.pointer (some ⟨p,0,none⟩),.int .i64 n] w (Got w B p s (.int .i64 0) (a+n)):=by
 have h0:=h.c0;have HH:=hid h;have ha:a≤800000000:=by have:=h.le;omega
 have hn:n≤800000000:=by omega
 obtain⟨l,hl⟩:∃l,8*s.size - a=l:=⟨_,rfl⟩
 have hnl:n≤l:=by omega
 have HL:=hid hl;have HE:=hid hle;clear h hl hle;go_enter Tryz.func208,Tryz.ntmps208;go_wp2_with (go_at_call 93;refine(rmade_yes p _ h0).mono ?_;rintro e w' ⟨rfl,rfl⟩);refine(left_any HH.out hs).mono ?_;rintro e w' ⟨rfl,n1,rfl⟩;rw[HL.out];have hd:decide ((l:Int)<(n:Int))=false:=by simp;omega
 have R2:=hid (HH.out.drewN n1);have c2:=HH.out.c2;have f2:=HH.out.fz 2;clear h0;go_wp2_with fail;go_ret;exact Got.put HH.out ((Kept.refl NoB w).drewN n1) (a+n) HE.out _ (by omega) _
theorem ralign_any'(h:Rd w B p s a)(hs:s.size≤100000000):
 Calls Tryz.prog 56 #[.pointer (some ⟨p,0,none⟩)] w (Got w B p s (.tuple #[]) (galign a)):=by
 have h0:=h.c0;have HH:=hid h;have c2:=h.c2;have f2:=h.fz 2;obtain⟨q,hq⟩:∃q,(a+7) /8=q:=⟨_,rfl⟩
 have hq2:q≤100000000:=by have:=h.le;omega
 have HE:=hid (show 8*q≤8*s.size by have:=h.le;omega);have HA:=hid (show galign a=8*q by unfold galign;omega);have HQ:=hid hq;clear h hq;go_enter Tryz.func56,Tryz.ntmps56;go_wp2_with (go_at_call 93;refine(rmade_yes p _ h0).mono ?_;rintro e w' ⟨rfl,rfl⟩);refine(whole_any HH.out hs).mono ?_;rintro e w' ⟨rfl,rfl⟩;rw[HQ.out];go_wp2_with fail;go_end0;rw[HA.out];exact Got.put HH.out (Kept.refl NoB w) (8*q) HE.out _ (by omega) _
end Go.Proofs.YtdpabanajgegjaaGreatDoor
namespace Go.Proofs.YtdpabanajgegjaaGreatDoor
open Go.Lib (hid)
open Go.RowKit M
variable {w w':World} {B p a:Nat} {s:ByteArray} {S T:Nat→Prop}
set_option maxHeartbeats 1000000 in
theorem sclone_any(s:ByteArray)(w:World)(hs:s.size≤100000000):
 Calls Tryz.prog 202 #[.string s] w fun e w'=>e=.returned (.string s)∧Kept NoB w w':=by
 by_cases h0:s.size=0
 · obtain rfl:s=⟨#[]⟩:=ByteArray.ext (Array.eq_empty_of_size_eq_zero h0)
   go_enter Tryz.func202,Tryz.ntmps202;go_wp2;go_ret;exact⟨rfl,Kept.refl _ _⟩
 · obtain⟨i0,hi,hz0,hz1,hz2⟩:=info_parts rinfo_u8
   have hmake:=run_make (P:= Tryz.prog) w 23 5 i0 (.int .u8 0) Tryz.underlying23 hi hz0 .i64 .i64 (s.size:Int) (s.size:Int) (by omega) (by omega) (by rw[hz2];omega) (by omega);obtain⟨M,hM⟩:∃M,M=madeCells (Value.int .u8 0).cells (((s.size:Nat):Int).toNat*i0.size):=⟨_,rfl⟩
   have hMs:M.size=s.size:=by rw[hM,size_madeCells,hz1];simp
   rw[←hM] at hmake;have hcp:=run_copy_string_some (P:= Tryz.prog) (w.alloc (.cells M 5)) 23 9 3 5 w.heap.size 0 s.size s.size s.size s M 5 Tryz.underlying23 (by kernel_rfl) (heap_alloc_new w _) (Nat.min_self _).symm (by omega);obtain⟨Y,hY⟩:∃Y,Y=(M.toList.take 0++Lib.byteCells (s.data.toList.take s.size)++M.toList.drop (0+s.size)).toArray:=⟨_,rfl⟩
   rw[←hY] at hcp
   have hYl:Y.toList=Lib.byteCells s.data.toList:=by
    rw[hY,List.toList_toArray,List.take_zero,List.nil_append,List.drop_of_length_le (by rw[Array.length_toList];omega),List.append_nil,List.take_of_length_le (by rw[size_list];exact Nat.le_refl _)]
   have hYs:Y.size=s.size:=by rw[←Array.length_toList,hYl,Lib.byteCells_length,size_list]
   have hgY:=setRow_heap (w.alloc (.cells M 5)) w.heap.size M Y 5 (0,0) (heap_alloc_new w _);have hne:s.data.toList≠[]:=fun e=>h0 (by rw[←size_list,e];rfl)
   have hus:=Lib.run_unsafeString_row (P:= Tryz.prog) ((w.alloc (.cells M 5)).setRow w.heap.size Y) 326 3 9 5 Tryz.underlying326 (by kernel_rfl) w.heap.size Y.size (by unfold World.shape?;rw[hgY]) s.data.toList hne (by rw[size_list];omega) (by rw[size_list];omega)
    (fun j x hx=>Lib.cells_of_row hgY Y.size j _ (by rw[List.take_of_length_le (by rw[Array.length_toList];exact Nat.le_refl _),hYl];simp[Lib.byteCells,hx]))
   rw[size_list] at hus;have hk:Kept NoB w ((w.alloc (.cells M 5)).setRow w.heap.size Y):=((Kept.refl NoB w).alloc _).setRow _ (.inr (Nat.le_refl _)) _;have HK:=hid (hk.freeze ⟨w.heap.size,0,none⟩ (.inr (Nat.le_refl _)) s.size);clear hY hM hYl hgY hne hMs hYs hi hz0 hz1 hz2 hk;rw[Int.toNat_natCast] at hmake;have h1:0<s.size:=by omega
   have h2:((s.size:Int)==0)=false:=by rw[beq_eq_false_iff_ne];omega
   go_enter Tryz.func202,Tryz.ntmps202;go_wp2;go_ret;exact⟨rfl,HK.out⟩
theorem clone_str(s:ByteArray)(w:World)(hs:s.size≤100000000):
 Calls Tryz.prog 165 #[.string s] w fun e w'=>e=.returned (.string s)∧Kept NoB w w':=by
 go_enter Tryz.func165,Tryz.ntmps165;go_wp2_with fail;refine(sclone_any s _ hs).mono ?_;rintro e w' ⟨rfl,hk⟩;have HK:=hid hk;clear hk;go_wp2_with fail;go_ret;exact⟨rfl,HK.out⟩
theorem extract_size(s:ByteArray)(i j:Nat)(h:j≤s.size):(s.extract i j).size=j - i:=by
 rw[ByteArray.size_extract];omega
theorem rbytes_yes(h:Rd w B p s a)(hs:s.size≤100000000)(n:Nat)(hle:(a+7) /8+n≤s.size):
 Calls Tryz.prog 130 #[.pointer (some ⟨p,0,none⟩),.int .i64 n] w (Got w B p s (.tuple #[.string (s.extract ((a+7) /8) ((a+7) /8+n)),.int .i64 0]) (8*((a+7) /8+n))):=by
 have h0:=h.c0;have HH:=hid h;have c1:=h.c1;have c2:=h.c2;have f2:=h.fz 2;obtain⟨q,hq⟩:∃q,(a+7) /8=q:=⟨_,rfl⟩
 have HQ:=hid hq;rw[hq] at hle ⊢;have HX:=hid (clone_str (s.extract q (q+n)) · (by rw[extract_size _ _ _ hle];omega));have hq2:q≤s.size:=by omega
 have hn2:n≤s.size:=by omega
 have hd:(n:Int)≤(s.size:Int) - (q:Int):=by omega
 clear h hq;go_enter Tryz.func130,Tryz.ntmps130;go_wp2_with (go_at_call 93;refine(rmade_yes p _ h0).mono ?_;rintro e w' ⟨rfl,rfl⟩);refine(whole_any HH.out hs).mono ?_;rintro e w' ⟨rfl,rfl⟩;rw[HQ.out];go_wp2_with fail;refine(HX.out _).mono ?_;rintro e w' ⟨rfl,hk⟩;have R1:=hid (HH.out.put (8*(q+n)) (by omega) (((q:Int)+(n:Int))*8) (by omega));have K:=hid hk;clear hk h0 c1 c2 f2;go_wp2_with fail;go_ret2;exact⟨rfl,R1.out.1.same K.out,R1.out.2.trans K.out (fun _ g=>g.elim)⟩
theorem rbytes_end(h:Rd w B p s a)(hs:s.size≤100000000)(x:Int)(h1:0≤x)(hle:(s.size:Int) - ((a+7) /8:Nat)<x):
 Calls Tryz.prog 130 #[.pointer (some ⟨p,0,none⟩),.int .i64 x] w (Got w B p s (.tuple #[.string ⟨#[]⟩,.int .i64 6]) a):=by
 have h0:=h.c0;have HH:=hid h;have c1:=h.c1;obtain⟨q,hq⟩:∃q,(a+7) /8=q:=⟨_,rfl⟩
 have HQ:=hid hq;have hq2:q≤s.size:=by have:=h.le;omega
 rw[hq] at hle;clear h hq;go_enter Tryz.func130,Tryz.ntmps130;go_wp2_with (go_at_call 93;refine(rmade_yes p _ h0).mono ?_;rintro e w' ⟨rfl,rfl⟩);refine(whole_any HH.out hs).mono ?_;rintro e w' ⟨rfl,rfl⟩;rw[HQ.out];go_wp2_with fail;go_ret2;exact Got.same HH.out (Kept.refl NoB w) _
end Go.Proofs.YtdpabanajgegjaaGreatDoor
