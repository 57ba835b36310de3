import Derived.Test.YthgilhebnlglkaaGreatDoorKMT9Tok
import Derived.Test.YthgilhebnlglkaaGreatDoorKMMath
set_option linter.all false
set_option maxHeartbeats 0
set_option maxRecDepth 1000000
open Go.Proofs.Tryz
namespace Go.Proofs.YthgilhebnlglkaaGreatDoor
namespace I
open Go Go.RowKit M
open Go.Lib (strCells)
structure Ry(w:World)(g cp:Nat)(bs:List UInt8):Prop where
 nc:bs.length<=cp
 room:∀j,j<cp->(w.cell? ⟨g,j,none⟩).isSome=true
 free:∀j,j<cp->w.frozen? ⟨g,j,none⟩=false
 byte:∀j u,bs[j]? =some u->w.cell? ⟨g,j,none⟩=some (.int .u8 (u.toNat:Int))
 typ:∃c fz,w.heap[g]? =some (.cells c 5 fz)
section
variable {w w':World} {g cp:Nat} {bs:List UInt8}
theorem Ry.lt(h:Ry w g cp bs):g<w.heap.size:=by
 obtain⟨c,fz,e⟩:=h.typ;exact(qW.1 e).1
theorem Ry.of_block(h:Ry w g cp bs)(e:w'.heap[g]? =w.heap[g]?):Ry w' g cp bs:=by
 have d:∀j,w'.cell? ⟨g,j,none⟩=w.cell? ⟨g,j,none⟩:=λj=>World.cell?_of_block (a:=⟨g,j,none⟩) e
 have hf:∀j,w'.frozen? ⟨g,j,none⟩=w.frozen? ⟨g,j,none⟩:=λj=>World.frozen?_of_block (a:=⟨g,j,none⟩) e
 exact⟨h.nc,λj b=>by rw[d];exact h.room j b,λj b=>by rw[hf];exact h.free j b,λj u f=>by rw[d];exact h.byte j u f,by obtain⟨c,fz,q⟩:=h.typ;exact⟨c,fz,e.trans q⟩⟩
theorem Ry.kept{S:Nat->Prop}(h:Ry w g cp bs)(b:Kept S w w')(a:¬S g):Ry w' g cp bs:=h.of_block (b.block g h.lt a)
theorem Ry.rb(h:Ry w g cp bs):V.Tx.Rb w g cp bs:=
 ⟨h.lt,h.nc,h.room,h.free,h.byte,λo a=>by obtain⟨c,fz,q⟩:=h.typ;rw[q] at a;cases a;rfl⟩
end
theorem Ry.of_own{w:World}{B n:Nat}{v:Value}{bs:List UInt8}(h:w.ownsRow B 5 1 v n (bs.map λu=>Value.int .u8 (u.toNat:Int)))(j:0<n):∃g cp,v=.slice (some ⟨g,0,none⟩) n cp/\bs.length=n/\B<=g/\Ry w g cp bs:=by
 obtain⟨g,cp,a,k,e,b⟩:=V.Tx.Rb.of_own h j;refine⟨g,cp,a,k,e,b.nc,b.room,b.free,b.byte,?_⟩;obtain⟨_,i⟩:=h;rcases i with⟨rfl,_⟩|⟨g',d,c,rfl,l,f,_⟩
 · cases a
 · injection a with a _ _
   injection a with a
   injection a with a
   subst a;exact⟨c,(0,0),f⟩
theorem et{w:World}{g:Nat}{t:TypeId}:∀ (a:List Value) (o:Nat) (w:World),(∃c fz,w.heap[g]? =some (.cells c t fz))->∃c fz,(w.setCells g o a).heap[g]? =some (.cells c t fz)
 |[],o,w,h=>h
 |v::a,o,w,⟨c,fz,h⟩=>et (w:=w) a (o+1) (w.setCell ⟨g,o,none⟩ v) ⟨_,fz,by rw[setCell_eq_setRow w g o c t fz v h];exact setRow_heap w g c _ t fz h⟩
theorem ck(g:Nat)(a:Addr):∀ (b:List Value) (o:Nat) (w:World),(w.setCells g o b).frozen? a=w.frozen? a
 |[],o,w=>rfl
 |v::b,o,w=>(ck g a b (o+1) (w.setCell ⟨g,o,none⟩ v)).trans (World.frozen?_setCell _ _ _ _)
theorem bG(g:Nat):∀ (b:List Value) (o:Nat) (w:World),w.grownBy (w.setCells g o b) (some g)
 |[],o,w=>⟨rfl,rfl,rfl,qR,λ_ _ _=>rfl⟩
 |v::b,o,w=>by
  have h:=bG g b (o+1) (w.setCell ⟨g,o,none⟩ v);exact⟨h.os,h.tape,h.output,qK (by simp[World.setCell]) h.size,λk c a=>(h.block k (by simpa [World.setCell] using c) a).trans (Below.heap_setCell _ _ _ _ (λe=>a (by rw[e])))⟩
def vls(l:List UInt8):List Value:=l.map λu=>Value.int .u8 (u.toNat:Int)
theorem Ry.put{w:World}{g cp:Nat}{bs:List UInt8}(h:Ry w g cp bs)(l:List UInt8)(i:bs.length+l.length<=cp):Ry (w.setCells g bs.length (vls l)) g cp (bs++l):=by
 have f:(vls l).length=l.length:=(by unfold vls;rw[Ah]);have e:∀j,j<(vls l).length->(w.cell? ⟨g,bs.length+j,none⟩).isSome=true:=λj a=>h.room _ (by omega)
 have b:∀j,(j<bs.length\/bs.length+l.length<=j)->(w.setCells g bs.length (vls l)).cell? ⟨g,j,none⟩=w.cell? ⟨g,j,none⟩:=λj a=>
  World.cell?_setCells_out g (vls l) bs.length w ⟨g,j,none⟩ (λ_ _=>by rw[f];exact a)
 have d:∀j (a:j<(vls l).length),(w.setCells g bs.length (vls l)).cell? ⟨g,bs.length+j,none⟩=some (vls l)[j]:=World.cell?_setCells_in g (vls l) bs.length w e;refine⟨by rw[qA];exact i,λj a=> ?_,λj a=> ?_,λj u c=> ?_,et (w:=w) _ _ _ h.typ⟩
 · by_cases q:j<bs.length\/bs.length+l.length<=j
   · rw[b j q];exact h.room j a
   · have:=d (j - bs.length) (by omega)
     rw[show bs.length+(j - bs.length)=j by omega] at this;rw[this];rfl
 · rw[ck];exact h.free j a
 · by_cases q:j<bs.length
   · rw[b j (.inl q)]
     rw[Dk q] at c;exact h.byte j u c
   · rw[DL (by omega)] at c
     have a:j - bs.length<l.length:=(An.1 c).1;have:=d (j - bs.length) (by omega);rw[show bs.length+(j - bs.length)=j by omega] at this;rw[this];congr 1;unfold vls;rw[List.getElem_map];rw[qE a] at c;cases c;rfl
def Apd(w:World)(g:Nat)(bs:List UInt8)(v:Value)(w':World):Prop:=∃g' cp',v=.slice (some ⟨g',0,none⟩) bs.length cp'/\Ry w' g' cp' bs/\w.grownBy w' (some g)/\(g'=g\/w.heap.size<=g')
theorem FV(w:World)(ty:TypeId)(g n cp:Nat)(bs:List UInt8)(h:Ry w g cp bs)(K:bs.length=n)(s:ByteArray)(M:n+s.size<=10000000000):
 ∃v w',(Builtin.append_ #[26,9] ty #[.slice (some ⟨g,0,none⟩) n cp,.string s]).run prog w=.ok v w'/\Apd w g (bs++s.data.toList) v w':=by
 subst K;obtain⟨i,A,E,B,I⟩:=V.Tx.info_of V.Tx.byteInfo;have d:s.data.toList.length=s.size:=As;have r:strCells s=vls s.data.toList:=rfl;have b:(strCells s).length=s.size:=Lib.strCells_length s;by_cases H:bs.length+s.size<=cp
 · have hf:=Lib.run_firstCells_string (P:= prog) w 1 s
   have m:=run_storeCells_cells (P:= prog) g bs.length (strCells s) 0 w (λj G=>by rw[AI];exact h.room _ (by omega)) (λj G=>by rw[AI];exact h.free _ (by omega)) (Lib.strCells_oneCell s);simp only[AI] at m;have a:(Builtin.append_ #[26,9] ty #[.slice (some ⟨g,0,none⟩) bs.length cp,.string s]).run prog w=.ok (.slice (some ⟨g,0,none⟩) (bs.length+s.size) cp) (w.setCells g bs.length (strCells s)):=by
    simp[Builtin.append_,run_underlying underlying26,run_underlying underlying9,sizeOf,typeInfo,A,B,Builtin.lenOf,H,hf,Addr.add_lit,m]
   refine⟨_,_,a,g,cp,by rw[qA,d],?_,bG _ _ _ _,.inl rfl⟩;rw[r];exact h.put _ (by omega)
 · have o:∀j v,(vls bs)[j]? =some v->w.cell? ((⟨g,0,none⟩:Addr).add j)=some v:=λj v c=>by
    rw[V.cadd_at,Aa];unfold vls at c;rw[Am] at c;cases q:bs[j]? with
    |none=>rw[q] at c;cases c
    |some y=>rw[q] at c;simp at c;subst c;exact h.byte j y q
   have l:(vls bs).length=bs.length:=(by unfold vls;rw[Ah]);have a:=Lib.run_append_grow_string (P:= prog) w 26 9 ty 5 i (.int .u8 0) underlying26 underlying9 A E ⟨g,0,none⟩ bs.length cp (vls bs) (by rw[B,l,Bq]) o s (by omega) (by omega) (by rw[I];exact growslice_fits (by omega) (by omega));have x:=grownCap_ge w (bs.length+s.size) cp 5;have u:grownCap w (bs.length+s.size) cp 5 <=maxLen:=grownCap_le_maxLen w (bs.length+s.size) cp 5 (by unfold maxLen;omega);refine⟨_,_,a,w.heap.size,_,by rw[qA,d],?_,⟨rfl,rfl,rfl,by simp,λk C _=>heap_alloc_old w.drew _ C⟩,.inr qR⟩;have D:(w.drew.alloc (.cells ((vls bs).toArray++(strCells s).toArray++Builtin.zeroCells (Value.int .u8 0).cells (grownCap w (bs.length+s.size) cp 5 - (bs.length+s.size))) 5)).ownsRow w.heap.size 5 1 (.slice (some ⟨w.heap.size,0,none⟩) (bs.length+s.size) (grownCap w (bs.length+s.size) cp 5)) (bs.length+s.size) (vls (bs++s.data.toList)):=by
    refine⟨by unfold vls;rw[Ah,qA,d,Bq],.inr ⟨w.heap.size,_,_,rfl,qR,heap_alloc_new w.drew _,x,u,?_,?_⟩⟩
    · have z:(Value.int IntKind.u8 0).cells.size=1:=rfl
      simp only[DI,AE,size_zeroCells,z,l,b];omega
    · simp only[Array.toList_append,qD]
      have e:vls (bs++s.data.toList)=vls bs++strCells s:=(by rw[r];unfold vls;rw[Aw]);rw[e,<-qD];have p:(vls bs++strCells s).length=(bs.length+s.size)*1:=(by rw[qA,l,b,Bq]);rw[<-p];exact List.take_left
   by_cases L:0<bs.length+s.size
   · obtain⟨g',F,f,_,_,J⟩:=Ry.of_own D L
     injection f with f _ e5
     injection f with f
     injection f with f
     subst f;subst e5;exact J
   · exfalso;omega
theorem sY(w:World)(ty:TypeId)(g n cp:Nat)(bs:List UInt8)(h:Ry w g cp bs)(H:bs.length=n)(f:Addr)(c:Nat)(u:UInt8)(B:w.cell? f=some (.int .u8 (u.toNat:Int)))(I:n<=1000000000):
 ∃v w',(Builtin.append_ #[26,26] ty #[.slice (some ⟨g,0,none⟩) n cp,.slice (some f) 1 c]).run prog w=.ok v w'/\Apd w g (bs++[u]) v w':=by
 subst H;obtain⟨i,x,F,o,G⟩:=V.Tx.info_of V.Tx.byteInfo;have d:∀j v,(vls [u])[j]? =some v->w.cell? (f.add j)=some v:=by
  intro j v a
  match j,a with
  |0,a=>simp[vls] at a;subst a;simpa [Addr.add] using B
 have s:∀v∈vls [u],v.oneCell'=true:=(by intro v a;simp[vls] at a;subst a;rfl);by_cases z:bs.length+1<=cp
 · have b:=run_append_room_cells (P:= prog) w 26 ty 5 i underlying26 x g 0 bs.length cp f 1 c (vls [u]) (by rw[o];rfl) d s z
    (λj p=>by simp[vls] at p;subst p;exact h.room _ (by rw[o];omega)) (λj p=>by simp[vls] at p;subst p;exact h.free _ (by rw[o];omega))
   rw[o,Aa,Bq] at b;exact⟨_,_,b,g,cp,by simp,h.put [u] (by simpa using z),bG _ _ _ _,.inl rfl⟩
 · have l:∀j v,(vls bs)[j]? =some v->w.cell? ((⟨g,0,none⟩:Addr).add j)=some v:=λj v a=>by
    rw[V.cadd_at,Aa];unfold vls at a;rw[Am] at a;cases q:bs[j]? with
    |none=>rw[q] at a;cases a
    |some y=>rw[q] at a;simp at a;subst a;exact h.byte j y q
   obtain⟨J,w',b,A,m⟩:=run_append_arg_grows (P:= prog) w 26 ty 5 i (.int .u8 0) 1 1 underlying26 x F o G rfl (by decide) ⟨g,0,none⟩ bs.length cp (vls bs) (by simp[vls]) l f 1 c (vls [u]) (by simp[vls]) d (by omega) (by unfold maxLen;omega) (by omega);have e:vls bs++vls [u]=vls (bs++[u]):=(by unfold vls;rw[Aw]);rw[e] at A;obtain⟨g',r,rfl,_,C,D⟩:=Ry.of_own A (by omega);exact⟨_,w',b,g',r,by simp,D,⟨m.os,m.tape,m.output,m.size,λk E _=>m.block k E (by simp)⟩,.inr C⟩
theorem run_by(w:World)(s:ByteArray)(hs:s.size<=100000000):∃cp a,(convert 9 26 (.string s)).run prog w=.ok (.slice (some ⟨w.heap.size,0,none⟩) s.size cp) a/\Ry a w.heap.size cp s.data.toList/\Below w.heap.size w a/\a.heap.size=w.heap.size+1:=by
 obtain⟨cp,a,c,b,d,h⟩:=V.Tx.run_bytes w s hs;have e:=Lib.run_convert_string_bytes (P:= prog) w 9 26 5 s underlying9 underlying26 underlying5;have f:=c.symm.trans e;injection f with _ e3
 subst e3;exact⟨cp,_,c,⟨b.nc,b.room,b.free,b.byte,_,_,Lib.bytesWorld_at_new w 5 s⟩,d,h⟩
end I
namespace Z
open Go Go.RowKit
theorem Ec(X b:Nat)(a:X<16777216)(c:b<256):Go.bits .or .u32 ((X:Int)*256) (b:Int)=((X*256+b:Nat):Int):=by
 have:=u32_or_nat (X*256) b (by omega) (by omega);rw[show((X*256:Nat):Int)=(X:Int)*256 by omega] at this;rw[this];congr 1;have:=D0 (i:=8) (b:=b) (by omega) X;rw[Ao X 256];exact this.symm
theorem ia(a b:Nat)(w:World)(h:a<256)(d:b<256):Calls prog 98 #[.int .u8 a,.int .u8 b] w λe w'=>e=.returned (.int .u32 ((a*256+b:Nat):Int))/\w=w':=by
 have c:=Ec a b (by omega) d;go_enter func98,ntmps98;go_wp2;go_ret;exact⟨by first|rfl|(rw[<-c])|(congr 2),rfl⟩
theorem Ly(a:Nat)(h:a<256):Go.bits .and .u8 (a:Int) 15=((a%16:Nat):Int):=by
 have b:∀a:Fin 256,a.val&&&15=a.val%16:=(by decide);have:=u8_and_nat a 15 h (by decide);rw[b ⟨a,h⟩] at this;exact this
theorem Kn(a:Nat)(h:a<256):Go.bits .and .u8 (a:Int) 32=((a/32%2*32:Nat):Int):=by
 have b:∀a:Fin 256,a.val&&&32=a.val/32%2*32:=(by decide);have:=u8_and_nat a 32 h (by decide);rw[b ⟨a,h⟩] at this;exact this
theorem may_any(a b:Nat)(w:World)(l:a<256)(r:b<256):Calls prog 73 #[.int .u8 a,.int .u8 b] w λe w'=>e=.returned (.bool (decide (may a b)))/\w=w':=by
 have i:=qH (λw=>ia a b w l r);have s:=Ly a l;obtain⟨x,j⟩:∃x,a%16=x:=⟨_,rfl⟩
 obtain⟨y,m⟩:∃y,a/16=y:=⟨_,rfl⟩
 obtain⟨z,k⟩:∃z,(a*256+b)%31=z:=⟨_,rfl⟩
 obtain⟨N,p⟩:∃N,a*256+b=N:=⟨_,rfl⟩
 have n:decide (may a b)=(decide (x=8)&& (decide (y<=7)&&decide (z=0))):=by
  rw[<-Bool.decide_and,<-Bool.decide_and];refine Cj.2 ?_
  unfold may;rw[j,m,k]
 rw[p] at i k;rw[j] at s;rw[n];have B:(a:Int) /16=(y:Int):=(by omega);have t:(N:Int)%31=(z:Int):=(by omega);have q:Int.tmod (N:Int) 31=(z:Int):=(by rw[BE (by omega)];exact t);clear n j m p k;by_cases c:x=8
 · have c1:((x:Int) !=8)=false:=by rw[Di];omega
   by_cases d:y<=7
   · have u:decide (7<(y:Int))=false:=qF (by omega)
     by_cases h:z=0
     · have v:((z:Int)==0)=true:=by rw[AG];omega
       have e:(decide (x=8)&& (decide (y<=7)&&decide (z=0)))=true:=(by simp[c,d,h]);rw[e];clear c d h;go_enter func73,ntmps73;go_wp2_with (go_at_call 98;(with_reducible refine(i.o _).mono ?_);rintro e A ⟨rfl,rfl⟩);go_ret;exact⟨rfl,rfl⟩
     · have v:((z:Int)==0)=false:=by rw[qN];omega
       have e:(decide (x=8)&& (decide (y<=7)&&decide (z=0)))=false:=(by simp[h]);rw[e];clear c d h;go_enter func73,ntmps73;go_wp2_with (go_at_call 98;(with_reducible refine(i.o _).mono ?_);rintro e A ⟨rfl,rfl⟩);go_ret;exact⟨rfl,rfl⟩
   · have u:decide (7<(y:Int))=true:=q9T (by omega)
     have e:(decide (x=8)&& (decide (y<=7)&&decide (z=0)))=false:=(by simp[d]);rw[e];clear c d;go_enter func73,ntmps73;go_wp2_with fail;go_ret;exact⟨rfl,rfl⟩
 · have c1:((x:Int) !=8)=true:=by rw[AQ];omega
   have e:(decide (x=8)&& (decide (y<=7)&&decide (z=0)))=false:=(by simp[c]);rw[e];clear c;go_enter func73,ntmps73;go_wp2_with fail;go_ret;exact⟨rfl,rfl⟩
theorem jv(s:ByteArray)(w:World)(h:s.size<4):Calls prog 42 #[.string s] w λe w'=>e=.returned (.tuple #[.int .u32 0,.bool false])/\w=w':=by
 have d:decide ((s.size:Int)<4)=true:=q9T (by omega);clear h;go_enter func42,ntmps42;go_wp2_with fail;go_ret2;exact⟨rfl,rfl⟩
theorem cz(s:ByteArray)(w:World)(h:4<=s.size):Calls prog 42 #[.string s] w λe w'=>e=.returned (.tuple #[.int .u32 (sa s 0 4:Nat),.bool true])/\w=w':=by
 have d:decide ((s.size:Int)<4)=false:=qF (by omega);go_enter func42,ntmps42;go_wp2_with fail
 go_loop [2,8] (λu i=> ∃k:Nat,k<=4/\i=.int .i64 k/\u=.int .u32 (sa s 0 k:Nat)) (λ_ i=>4 - (intOf i).toNat)
 case atStart=>exact⟨0,by decide,rfl,rfl⟩
 case round=>
  obtain⟨k,A,rfl,rfl⟩:=hrel;by_cases r:k<4
  · have z:decide ((k:Int)<4)=true:=q9T (by omega)
    have p:=mZ s k (by omega);have l:=fX s k;have n:=FR s 0 k;have m:256^k<=256^3:=Ak (by decide) (by omega);have j:sa s 0 (k+1)=sa s 0 k*256+at8 s k:=(by rw[sa,Aa]);obtain⟨X,a⟩:∃X,sa s 0 k=X:=⟨_,rfl⟩
    obtain⟨b,c⟩:∃b,at8 s k=b:=⟨_,rfl⟩
    rw[a,c] at j;rw[a] at n ⊢;rw[c] at p l;have v:=qH j;have t:=Ec X b (by omega) l;have y:IntKind.u32.wrap ((X:Int)*256)=(X:Int)*256:=(by rw[IntKind.wrap_u32'];omega);have x:IntKind.u32.wrap (b:Int)=(b:Int):=(by rw[IntKind.wrap_u32'];omega);have q:k<s.size:=(by omega);clear n m j a c;go_wp2_with fail
    go_round
    case rel=>exact⟨k+1,by omega,by go_num,congrArg (Value.int .u32) (by rw[v.o];first|exact t|(simp;omega)|omega)⟩
    case measure=>simp[intOf];omega
  · obtain rfl:k=4:=by omega
    go_wp2_with fail;go_ret2;exact⟨rfl,rfl⟩
theorem p9(s:ByteArray)(w:World)(hs:s.size<=maxLen):Calls prog 30 #[.string s] w λe w'=>e=.returned (.tuple #[.int .u32 (dct s).1,.bool (dct s).2.1,.int .i64 (dct s).2.2])/\Below w.heap.size w w':=by
 have G:s.size<=9223372036854775807:=(by unfold maxLen at hs;omega);generalize c:dct s=R;unfold dct at c;by_cases u:s.size<2
 · rw[A7 u] at c
   subst c;have d:decide ((s.size:Int)<2)=true:=q9T (by omega);clear u;go_enter func30,ntmps30;go_wp2_with fail;go_ret3;exact⟨rfl,Below.refl _ _⟩
 · rw[A0 u] at c
   have d:decide ((s.size:Int)<2)=false:=qF (by omega);have H:0<s.size:=(by omega);have J:1<s.size:=(by omega);have F:=mZ s 0 H;have E:=mZ s 1 J;have D:=fX s 0;have B:=fX s 1;obtain⟨a,n⟩:∃a,at8 s 0=a:=⟨_,rfl⟩
   obtain⟨b,q⟩:∃b,at8 s 1=b:=⟨_,rfl⟩
   rw[n] at F D;rw[q] at E B;rw[n,q] at c;have l:=qH (λw=>may_any a b w D B);by_cases k:may a b
   · rw[A0 (λh=>h k)] at c
     have l:=qH (λw=>(show Calls prog 73 #[.int .u8 a,.int .u8 b] w λe w'=>e=.returned (.bool true)/\w=w' from by have:=l.o w;rw[q9T k] at this;exact this));have j:=Kn b B;by_cases r:b/32%2=0
     · rw[A7 r] at c
       subst c;rw[r] at j;have A:((0*32:Nat):Int)=0:=rfl;rw[A] at j;clear u k r n q;go_enter func30,ntmps30;go_wp2_with fail
       go_region_with (go_at_call 73;(with_reducible refine(l.o _).mono ?_);rintro e y ⟨rfl,rfl⟩)
       all_goals go_wp2_with fail
       all_goals go_ret3
       all_goals exact⟨rfl,(Below.refl _ _).drew⟩
     · rw[A0 r] at c
       have x:b/32%2=1:=(by omega);rw[x] at j;have A:((1*32:Nat):Int)=32:=rfl;rw[A] at j;have t:(s.extract 2 s.size).size=s.size - 2:=(by rw[Ae];omega);have m:6<=s.size->sa (s.extract 2 s.size) 0 4=sa s 2 4:=λv=>by
        have e:∀i,i<4->at8 (s.extract 2 s.size) i=at8 s (2+i):=λi hi=>by
         unfold at8;have:(s.extract 2 s.size).data.toList=(s.data.toList.drop 2).take (s.size - 2):=(by simp[CN]);rw[this,List.getD,AD,A7 (by omega),Bm,List.getD]
        rw[bU,bU,e 0 (by decide),e 1 (by decide),e 2 (by decide),e 3 (by decide)]
       by_cases v:s.size<6
       · rw[A7 v] at c
         subst c;have p:=qH (λw=>jv (s.extract 2 s.size) w (by omega));generalize C:s.extract 2 s.size=X at p;clear k r n q x m t v;go_enter func30,ntmps30;go_wp2_with fail
         go_region_with (go_at_call 73;(with_reducible refine(l.o _).mono ?_);rintro e y ⟨rfl,rfl⟩)
         all_goals go_wp2_with (go_at_call 42;(with_reducible refine(p.o _).mono ?_);rintro e I ⟨rfl,rfl⟩)
         all_goals go_ret3
         all_goals exact⟨rfl,(Below.refl _ _).drew⟩
       · rw[A0 v] at c
         subst c;have p:=qH (λw=>cz (s.extract 2 s.size) w (by omega));rw[m (by omega)] at p;obtain⟨X,C⟩:∃X,s.extract 2 s.size=X:=⟨_,rfl⟩
         obtain⟨Y,z⟩:∃Y,sa s 2 4=Y:=⟨_,rfl⟩
         rw[C,z] at p;rw[z];clear k r n q x m t v z;go_enter func30,ntmps30;go_wp2_with fail
         go_region_with (go_at_call 73;(with_reducible refine(l.o _).mono ?_);rintro e y ⟨rfl,rfl⟩)
         all_goals go_wp2_with (go_at_call 42;(with_reducible refine(p.o _).mono ?_);rintro e I ⟨rfl,rfl⟩)
         all_goals go_ret3
         all_goals exact⟨rfl,(Below.refl _ _).drew⟩
   · rw[A7 k] at c
     subst c;have l:=qH (λw=>(show Calls prog 73 #[.int .u8 a,.int .u8 b] w λe w'=>e=.returned (.bool false)/\w=w' from by have:=l.o w;rw[qF k] at this;exact this));clear u k n q;go_enter func30,ntmps30;go_wp2_with fail
     go_region_with (go_at_call 73;(with_reducible refine(l.o _).mono ?_);rintro e y ⟨rfl,rfl⟩)
     all_goals go_wp2_with fail
     all_goals go_ret3
     all_goals exact⟨rfl,(Below.refl _ _).drew⟩
theorem Lu(w:World)(a b c d:Nat)(k:a<256)(l:b<256)(p:c<256)(m:d<256):
 (convert 26 9 (.slice (some ⟨w.heap.size,0,none⟩) 4 4)).run prog (w.alloc (.cells #[.int .u8 (a:Int),.int .u8 (b:Int),.int .u8 (c:Int),.int .u8 (d:Int)] 5))=.ok (.string ⟨#[UInt8.ofNat a,UInt8.ofNat b,UInt8.ofNat c,UInt8.ofNat d]⟩) (w.alloc (.cells #[.int .u8 (a:Int),.int .u8 (b:Int),.int .u8 (c:Int),.int .u8 (d:Int)] 5)):=by
 have i:=heap_alloc_new w (.cells #[.int .u8 (a:Int),.int .u8 (b:Int),.int .u8 (c:Int),.int .u8 (d:Int)] 5);generalize r:w.alloc (.cells #[.int .u8 (a:Int),.int .u8 (b:Int),.int .u8 (c:Int),.int .u8 (d:Int)] 5)=W at i ⊢;have e:∀j,W.cell? ⟨w.heap.size,j,none⟩= #[Value.int .u8 (a:Int),.int .u8 (b:Int),.int .u8 (c:Int),.int .u8 (d:Int)][j]? :=λj=>by
  unfold World.cell?;simp only[i];rfl
 have o:I.Ry W w.heap.size 4 [UInt8.ofNat a,UInt8.ofNat b,UInt8.ofNat c,UInt8.ofNat d]:=by
  refine⟨qR,λj n=> ?_,λj _=> ?_,λj u f=> ?_,_,_,i⟩
  · rw[e]
    have:j=0\/j=1\/j=2\/j=3:=(by omega);rcases this with rfl|rfl|rfl|rfl<;>rfl
  · simp[World.frozen?,i]
  · rw[e]
    have n:j<4:=(An.1 f).1;have:j=0\/j=1\/j=2\/j=3:=(by omega);have h:∀x,x<256->((UInt8.ofNat x).toNat:Int)=(x:Int):=λx q=>by rw[Bu];omega
    rcases this with rfl|rfl|rfl|rfl
    · cases f;rw[h a k];rfl
    · cases f;rw[h b l];rfl
    · cases f;rw[h c p];rfl
    · cases f;rw[h d m];rfl
 have:=V.Tx.conv_rb o.rb 0 4 rfl (by decide) ⟨w.heap.size,0,none⟩ (c:=4) (λ_=>rfl);exact this
theorem rj(n:Nat)(a:n<4294967296):n/16777216<256/\n/65536%256<256/\n/256%256<256/\n%256<256:=by omega
