import Derived.Test.YthgilhebnlglkaaGreatDoorEMRbB
import Derived.Lib.Walk
set_option linter.all false
set_option maxHeartbeats 8000000
set_option maxRecDepth 1000000
open Go.Proofs.Tryz
namespace Go.Proofs.YthgilhebnlglkaaGreatDoor
open Go.RowKit M
variable {w w':World} {B p a:Nat} {s:ByteArray} {S T:Nat->Prop}
theorem zak(h:Rd w B p s a)(hs:s.size<=100000000)(n:Nat)(hn:n<=56):
 Calls prog 294 #[.pointer (some ⟨p,0,none⟩),.int .i64 n] w (Got w B p s (.tuple #[.int .u64 (nb s a (min n (8*s.size - a))),.int .i64 (min n (8*s.size - a):Nat)]) a):=by
 have h0:=h.c0;have HH:=qH h;obtain⟨l,hl⟩:∃l,8*s.size - a=l:=⟨_,rfl⟩
 have HL:=qH hl;rw[hl];obtain⟨m,hm⟩:∃m,min n l=m:=⟨_,rfl⟩
 have hm2:m<=56:=(by omega);rw[hm];have hmi:min (n:Int) (l:Int)=(m:Int):=(by omega);clear h hl hm;go_enter func294,ntmps294;go_wp2_with (go_at_call 172;refine(z0u p _ h0).mono ?_;rintro e w' ⟨rfl,rfl⟩);refine(z4q n _ (by omega) (by omega)).mono ?_;rintro e w' ⟨rfl,rfl⟩;go_wp2_with fail;refine(z2B HH.o hs).mono ?_;rintro e w' ⟨rfl,n1,rfl⟩;rw[HL.o];go_wp2_with fail;refine(z7M (HH.o.drewN n1) hs m hm2).mono ?_;rintro e w2 ⟨rfl,k2⟩;have K2:=qH (((Kept.refl NoB w).drewN n1).trans k2 (λ_ g=>g.elim));clear k2 h0;go_wp2_with fail;go_ret2;exact Got.same HH.o K2.o _
theorem z5k(h:Rd w B p s a)(hs:s.size<=100000000)(n:Nat)(hle:a+n<=8*s.size):
 Calls prog 293 #[.pointer (some ⟨p,0,none⟩),.int .i64 n] w (Got w B p s (.int .i64 0) (a+n)):=by
 have h0:=h.c0;have HH:=qH h;have ha:a<=800000000:=(by have:=h.le;omega);have hn:n<=800000000:=(by omega);obtain⟨l,hl⟩:∃l,8*s.size - a=l:=⟨_,rfl⟩
 have hnl:n<=l:=(by omega);obtain⟨HL,HE⟩:=qh2 hl hle;clear h hl hle;go_enter func293,ntmps293;go_wp2_with (go_at_call 172;refine(z0u p _ h0).mono ?_;rintro e w' ⟨rfl,rfl⟩);refine(z2B HH.o hs).mono ?_;rintro e w' ⟨rfl,n1,rfl⟩;rw[HL.o];have c2:=HH.o.c2;have f2:=HH.o.fz 2;clear h0;go_wp2_with fail;go_ret;exact Got.put HH.o ((Kept.refl NoB w).drewN n1) (a+n) HE.o _ (by omega) _
theorem z30(h:Rd w B p s a)(hs:s.size<=100000000):
 Calls prog 123 #[.pointer (some ⟨p,0,none⟩)] w (Got w B p s (.tuple #[]) (z5M a)):=by
 have h0:=h.c0;have HH:=qH h;have c2:=h.c2;have f2:=h.fz 2;obtain⟨q,hq⟩:∃q,(a+7) /8=q:=⟨_,rfl⟩
 have hq2:q<=100000000:=(by have:=h.le;omega);have HE:=qH (show 8*q<=8*s.size by have:=h.le;omega);have HA:=qH (show z5M a=8*q by unfold z5M;omega);have HQ:=qH hq;clear h hq;go_enter func123,ntmps123;go_wp2_with (go_at_call 172;refine(z0u p _ h0).mono ?_;rintro e w' ⟨rfl,rfl⟩);refine(whole_any HH.o hs).mono ?_;rintro e w' ⟨rfl,rfl⟩;rw[HQ.o];go_wp2_with fail;go_end0;rw[HA.o];exact Got.put HH.o (Kept.refl NoB w) (8*q) HE.o _ (by omega) _
end Go.Proofs.YthgilhebnlglkaaGreatDoor
namespace Go.Proofs.YthgilhebnlglkaaGreatDoor
open Go.RowKit M
variable {w w':World} {B p a:Nat} {s:ByteArray} {S T:Nat->Prop}
theorem z8G(s:ByteArray)(w:World)(hs:s.size<=100000000):
 Calls prog 93 #[.string s] w λe w'=>e=.returned (.string s)/\Kept NoB w w':=by
 by_cases h0:s.size=0
 · obtain rfl:s=⟨#[]⟩:=ByteArray.ext (Array.eq_empty_of_size_eq_zero h0)
   go_enter func93,ntmps93;go_wp2;go_ret;exact⟨rfl,Kept.refl _ _⟩
 · obtain⟨i0,hi,hz0,hz1,hz2⟩:=info_parts zdd
   have hmake:=run_make (P:= prog) w 26 5 i0 (.int .u8 0) underlying26 hi hz0 .i64 .i64 (s.size:Int) (s.size:Int) (by omega) (by omega) (by rw[hz2];omega) (by omega);obtain⟨M,hM⟩:∃M,M=madeCells (Value.int .u8 0).cells (((s.size:Nat):Int).toNat*i0.size):=⟨_,rfl⟩
   have hMs:M.size=s.size:=(by rw[hM,size_madeCells,hz1];simp);rw[<-hM] at hmake;have hcp:=z0B (P:= prog) (w.alloc (.cells M 5)) 26 9 3 5 w.heap.size 0 s.size s.size s.size s M 5 underlying26 (by kernel_rfl) (heap_alloc_new w _) (Nat.min_self _).symm (by omega);obtain⟨Y,hY⟩:∃Y,Y=(M.toList.take 0++Lib.byteCells (s.data.toList.take s.size)++M.toList.drop (0+s.size)).toArray:=⟨_,rfl⟩
   rw[<-hY] at hcp;have hYl:Y.toList=Lib.byteCells s.data.toList:=by
    rw[hY,List.toList_toArray,List.take_zero,List.nil_append,List.drop_of_length_le (by rw[Array.length_toList];omega),List.append_nil,List.take_of_length_le (by rw[z09];exact qR)]
   have hYs:Y.size=s.size:=(by rw[<-Array.length_toList,hYl,Lib.byteCells_length,z09]);have hgY:=setRow_heap (w.alloc (.cells M 5)) w.heap.size M Y 5 (0,0) (heap_alloc_new w _);have hne:s.data.toList≠[]:=λe=>h0 (by rw[<-z09,e];rfl)
   have hus:=Lib.run_unsafeString_row (P:= prog) ((w.alloc (.cells M 5)).setRow w.heap.size Y) 186 3 9 5 underlying186 (by kernel_rfl) w.heap.size Y.size (by unfold World.shape?;rw[hgY]) s.data.toList hne (by rw[z09];omega) (by rw[z09];omega)
    (λj x hx=>Lib.cells_of_row hgY Y.size j _ (by rw[List.take_of_length_le (by rw[Array.length_toList];exact qR),hYl];simp[Lib.byteCells,hx]))
   rw[z09] at hus;have hk:Kept NoB w ((w.alloc (.cells M 5)).setRow w.heap.size Y):=((Kept.refl NoB w).alloc _).setRow _ (.inr qR) _;have HK:=qH (hk.freeze ⟨w.heap.size,0,none⟩ (.inr qR) s.size);clear hY hM hYl hgY hne hMs hYs hi hz0 hz1 hz2 hk;rw[Int.toNat_natCast] at hmake;have h1:0<s.size:=(by omega);have h2:((s.size:Int)==0)=false:=(by rw[qN];omega);go_enter func93,ntmps93;go_wp2;go_ret;exact⟨rfl,HK.o⟩
theorem zc6(s:ByteArray)(w:World)(hs:s.size<=100000000):
 Calls prog 65 #[.string s] w λe w'=>e=.returned (.string s)/\Kept NoB w w':=by
 go_enter func65,ntmps65;go_wp2_with fail;refine(z8G s _ hs).mono ?_;rintro e w' ⟨rfl,hk⟩;have HK:=qH hk;clear hk;go_wp2_with fail;go_ret;exact⟨rfl,HK.o⟩
theorem z5P(s:ByteArray)(i j:Nat)(h:j<=s.size):(s.extract i j).size=j - i:=by
 rw[ByteArray.size_extract];omega
theorem z8K(h:Rd w B p s a)(hs:s.size<=100000000)(n:Nat)(hle:(a+7) /8+n<=s.size):
 Calls prog 211 #[.pointer (some ⟨p,0,none⟩),.int .i64 n] w (Got w B p s (.tuple #[.string (s.extract ((a+7) /8) ((a+7) /8+n)),.int .i64 0]) (8*((a+7) /8+n))):=by
 have h0:=h.c0;have HH:=qH h;have c1:=h.c1;have c2:=h.c2;have f2:=h.fz 2;obtain⟨q,hq⟩:∃q,(a+7) /8=q:=⟨_,rfl⟩
 have HQ:=qH hq;rw[hq] at hle ⊢;have HX:=qH (zc6 (s.extract q (q+n)) · (by rw[z5P _ _ _ hle];omega));have hq2:q<=s.size:=(by omega);clear h hq;go_enter func211,ntmps211;go_wp2_with (go_at_call 172;refine(z0u p _ h0).mono ?_;rintro e w' ⟨rfl,rfl⟩);refine(whole_any HH.o hs).mono ?_;rintro e w' ⟨rfl,rfl⟩;rw[HQ.o];go_wp2_with fail;refine(HX.o _).mono ?_;rintro e w' ⟨rfl,hk⟩;have R1:=qH (HH.o.put (8*(q+n)) (by omega) (((q:Int)+(n:Int))*8) (by omega));have K:=qH hk;clear hk h0 c1 c2 f2;go_wp2_with fail;go_ret2;exact⟨rfl,R1.o.1.same K.o,R1.o.2.trans K.o (λ_ g=>g.elim)⟩
theorem z8L(h:Rd w B p s a)(hs:s.size<=100000000)(x:Int)(h1:0<=x)(hle:(s.size:Int) - ((a+7) /8:Nat)<x):
 Calls prog 211 #[.pointer (some ⟨p,0,none⟩),.int .i64 x] w (Got w B p s (.tuple #[.string ⟨#[]⟩,.int .i64 6]) a):=by
 have h0:=h.c0;have HH:=qH h;have c1:=h.c1;obtain⟨q,hq⟩:∃q,(a+7) /8=q:=⟨_,rfl⟩
 have HQ:=qH hq;have hq2:q<=s.size:=(by have:=h.le;omega);rw[hq] at hle;clear h hq;go_enter func211,ntmps211;go_wp2_with (go_at_call 172;refine(z0u p _ h0).mono ?_;rintro e w' ⟨rfl,rfl⟩);refine(whole_any HH.o hs).mono ?_;rintro e w' ⟨rfl,rfl⟩;rw[HQ.o];go_wp2_with fail;go_ret2;exact Got.same HH.o (Kept.refl NoB w) _
