import Derived.Test.YthgilhebnlglkaaGreatDoorKMRbB
import Derived.Lib.Walk
set_option linter.all false
set_option maxHeartbeats 0
set_option maxRecDepth 1000000
open Go.Proofs.Tryz
namespace Go.Proofs.YthgilhebnlglkaaGreatDoor
section
open Go.RowKit M
variable {w w':World} {B p a:Nat} {s:ByteArray} {S T:Nat->Prop}
theorem ta(h:Rd w B p s a)(hs:s.size<=100000000)(n:Nat)(v:n<=56):
 Calls prog 294 #[.pointer (some ⟨p,0,none⟩),.int .i64 n] w (Got w B p s (.tuple #[.int .u64 (nb s a (min n (8*s.size - a))),.int .i64 (min n (8*s.size - a):Nat)]) a):=by
 have k:=h.c0;have d:=qH h;obtain⟨l,c⟩:∃l,8*s.size - a=l:=⟨_,rfl⟩
 have r:=qH c;rw[c];obtain⟨m,j⟩:∃m,min n l=m:=⟨_,rfl⟩
 have b:m<=56:=(by omega);rw[j];have t:min (n:Int) (l:Int)=(m:Int):=(by omega);clear h c j;go_enter func294,ntmps294;go_wp2_with (go_at_call 172;refine(aI p _ k).mono ?_;rintro e w' ⟨rfl,rfl⟩);refine(iP n _ (by omega) (by omega)).mono ?_;rintro e w' ⟨rfl,rfl⟩;go_wp2_with fail;refine(eP d.o hs).mono ?_;rintro e w' ⟨rfl,q,rfl⟩;rw[r.o];go_wp2_with fail;refine(look_any (d.o.drewN q) hs m b).mono ?_;rintro e x ⟨rfl,i⟩;have u:=qH (((Kept.refl NoB w).drewN q).trans i (λ_ g=>g.elim));clear i k;go_wp2_with fail;go_ret2;exact Got.same d.o u.o _
theorem jX(h:Rd w B p s a)(hs:s.size<=100000000)(n:Nat)(b:a+n<=8*s.size):
 Calls prog 293 #[.pointer (some ⟨p,0,none⟩),.int .i64 n] w (Got w B p s (.int .i64 0) (a+n)):=by
 have g:=h.c0;have c:=qH h;have q:a<=800000000:=(by have:=h.le;omega);have t:n<=800000000:=(by omega);obtain⟨l,d⟩:∃l,8*s.size - a=l:=⟨_,rfl⟩
 have m:n<=l:=(by omega);obtain⟨i,j⟩:=qh2 d b;clear h d b;go_enter func293,ntmps293;go_wp2_with (go_at_call 172;refine(aI p _ g).mono ?_;rintro e w' ⟨rfl,rfl⟩);refine(eP c.o hs).mono ?_;rintro e w' ⟨rfl,k,rfl⟩;rw[i.o];have u:=c.o.c2;have r:=c.o.fz 2;clear g;go_wp2_with fail;go_ret;exact Got.put c.o ((Kept.refl NoB w).drewN k) (a+n) j.o _ (by omega) _
theorem fo(h:Rd w B p s a)(hs:s.size<=100000000):
 Calls prog 123 #[.pointer (some ⟨p,0,none⟩)] w (Got w B p s (.tuple #[]) (kL a)):=by
 have g:=h.c0;have c:=qH h;have m:=h.c2;have l:=h.fz 2;obtain⟨q,b⟩:∃q,(a+7) /8=q:=⟨_,rfl⟩
 have i:q<=100000000:=(by have:=h.le;omega);have j:=qH (show 8*q<=8*s.size by have:=h.le;omega);have d:=qH (show kL a=8*q by unfold kL;omega);have k:=qH b;clear h b;go_enter func123,ntmps123;go_wp2_with (go_at_call 172;refine(aI p _ g).mono ?_;rintro e w' ⟨rfl,rfl⟩);refine(whole_any c.o hs).mono ?_;rintro e w' ⟨rfl,rfl⟩;rw[k.o];go_wp2_with fail;go_end0;rw[d.o];exact Got.put c.o (Kept.refl NoB w) (8*q) j.o _ (by omega) _
end
section
open Go.RowKit M
variable {w w':World} {B p a:Nat} {s:ByteArray} {S T:Nat->Prop}
theorem qh(s:ByteArray)(w:World)(hs:s.size<=100000000):
 Calls prog 93 #[.string s] w λe w'=>e=.returned (.string s)/\Kept NoB w w':=by
 by_cases z:s.size=0
 · obtain rfl:s=⟨#[]⟩:=ByteArray.ext (Array.eq_empty_of_size_eq_zero z)
   go_enter func93,ntmps93;go_wp2;go_ret;exact⟨rfl,Kept.refl _ _⟩
 · obtain⟨y,hi,h,i,k⟩:=info_parts xB
   have b:=run_make (P:= prog) w 26 5 y (.int .u8 0) underlying26 hi h .i64 .i64 (s.size:Int) (s.size:Int) (by omega) (by omega) (by rw[k];omega) (by omega);obtain⟨M,n⟩:∃M,M=madeCells (Value.int .u8 0).cells (((s.size:Nat):Int).toNat*y.size):=⟨_,rfl⟩
   have l:M.size=s.size:=(by rw[n,size_madeCells,i];simp);rw[<-n] at b;have r:=aD (P:= prog) (w.alloc (.cells M 5)) 26 9 3 5 w.heap.size 0 s.size s.size s.size s M 5 underlying26 (by kernel_rfl) (heap_alloc_new w _) (Nat.min_self _).symm (by omega);obtain⟨Y,q⟩:∃Y,Y=(M.toList.take 0++Lib.byteCells (s.data.toList.take s.size)++M.toList.drop (0+s.size)).toArray:=⟨_,rfl⟩
   rw[<-q] at r;have d:Y.toList=Lib.byteCells s.data.toList:=by
    rw[q,List.toList_toArray,BX,Ap,Dh (by rw[As];omega),Az,Aj (by rw[ai];exact qR)]
   have u:Y.size=s.size:=(by rw[<-As,d,Lib.byteCells_length,ai]);have c:=setRow_heap (w.alloc (.cells M 5)) w.heap.size M Y 5 (0,0) (heap_alloc_new w _);have g:s.data.toList≠[]:=λe=>z (by rw[<-ai,e];rfl)
   have m:=Lib.run_unsafeString_row (P:= prog) ((w.alloc (.cells M 5)).setRow w.heap.size Y) 186 3 9 5 underlying186 (by kernel_rfl) w.heap.size Y.size (by unfold World.shape?;rw[c]) s.data.toList g (by rw[ai];omega) (by rw[ai];omega)
    (λj x A=>Lib.cells_of_row c Y.size j _ (by rw[Aj (by rw[As];exact qR),d];simp[Lib.byteCells,A]))
   rw[ai] at m;have v:Kept NoB w ((w.alloc (.cells M 5)).setRow w.heap.size Y):=((Kept.refl NoB w).alloc _).setRow _ (.inr qR) _;have C:=qH (v.freeze ⟨w.heap.size,0,none⟩ (.inr qR) s.size);clear q n d c g l u hi h i k v;rw[Au] at b;have D:0<s.size:=(by omega);have E:((s.size:Int)==0)=false:=(by rw[qN];omega);go_enter func93,ntmps93;go_wp2;go_ret;exact⟨rfl,C.o⟩
theorem vJ(s:ByteArray)(w:World)(hs:s.size<=100000000):
 Calls prog 65 #[.string s] w λe w'=>e=.returned (.string s)/\Kept NoB w w':=by
 go_enter func65,ntmps65;go_wp2_with fail;refine(qh s _ hs).mono ?_;rintro e w' ⟨rfl,b⟩;have c:=qH b;clear b;go_wp2_with fail;go_ret;exact⟨rfl,c.o⟩
theorem kO(s:ByteArray)(i j:Nat)(h:j<=s.size):(s.extract i j).size=j - i:=by
 rw[Ae];omega
theorem qk(h:Rd w B p s a)(hs:s.size<=100000000)(n:Nat)(b:(a+7) /8+n<=s.size):
 Calls prog 211 #[.pointer (some ⟨p,0,none⟩),.int .i64 n] w (Got w B p s (.tuple #[.string (s.extract ((a+7) /8) ((a+7) /8+n)),.int .i64 0]) (8*((a+7) /8+n))):=by
 have d:=h.c0;have k:=qH h;have c1:=h.c1;have r:=h.c2;have l:=h.fz 2;obtain⟨q,c⟩:∃q,(a+7) /8=q:=⟨_,rfl⟩
 have t:=qH c;rw[c] at b ⊢;have u:=qH (vJ (s.extract q (q+n)) · (by rw[kO _ _ _ b];omega));have m:q<=s.size:=(by omega);clear h c;go_enter func211,ntmps211;go_wp2_with (go_at_call 172;refine(aI p _ d).mono ?_;rintro e w' ⟨rfl,rfl⟩);refine(whole_any k.o hs).mono ?_;rintro e w' ⟨rfl,rfl⟩;rw[t.o];go_wp2_with fail;refine(u.o _).mono ?_;rintro e w' ⟨rfl,j⟩;have i:=qH (k.o.put (8*(q+n)) (by omega) (((q:Int)+(n:Int))*8) (by omega));have K:=qH j;clear j d c1 r l;go_wp2_with fail;go_ret2;exact⟨rfl,i.o.1.same K.o,i.o.2.trans K.o (λ_ g=>g.elim)⟩
theorem ql(h:Rd w B p s a)(hs:s.size<=100000000)(x:Int)(k:0<=x)(c:(s.size:Int) - ((a+7) /8:Nat)<x):
 Calls prog 211 #[.pointer (some ⟨p,0,none⟩),.int .i64 x] w (Got w B p s (.tuple #[.string ⟨#[]⟩,.int .i64 6]) a):=by
 have j:=h.c0;have d:=qH h;have c1:=h.c1;obtain⟨q,b⟩:∃q,(a+7) /8=q:=⟨_,rfl⟩
 have g:=qH b;have i:q<=s.size:=(by have:=h.le;omega);rw[b] at c;clear h b;go_enter func211,ntmps211;go_wp2_with (go_at_call 172;refine(aI p _ j).mono ?_;rintro e w' ⟨rfl,rfl⟩);refine(whole_any d.o hs).mono ?_;rintro e w' ⟨rfl,rfl⟩;rw[g.o];go_wp2_with fail;go_ret2;exact Got.same d.o (Kept.refl NoB w) _
