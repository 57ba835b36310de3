import Derived.Lib.AppendStr
import Derived.Test.YthgilhebnlglkaaGreatDoorKMMathT
import Derived.BigQuiet
set_option linter.all false
set_option maxHeartbeats 0
set_option maxRecDepth 1000000
open Go.Proofs.Tryz
namespace Go.Proofs.YthgilhebnlglkaaGreatDoor
namespace M
open Go
def big:Nat:=18446744073709551616
def mk(k:Nat):Nat:=2^k - 1
def rv(n:Nat):Nat->Nat
 |0=>0
 |k+1=>2*rv n k+n/2^k%2
def up(n to:Int):Int:=if n<1\/to<1 then 0 else if 4611686018427387904<((n - 1) /to+1)*to then 0 else((n - 1) /to+1)*to
def le(n:Nat):Nat->List UInt8
 |0=> []
 |k+1=>UInt8.ofNat (n%256)::le (n/256) k
def vl:List UInt8->Nat
 |[]=>0
 |b::r=>b.toNat+256*vl r
theorem lQ(n k:Nat):rv n k<2^k:=by
 induction k with
 |zero=>simp[rv]
 |succ k ih=>simp only[rv,AN];omega
theorem Ht(n k:Nat):n/2^k/2=n/2^(k+1):=by rw[BJ,AN]
theorem qV(n k:Nat):n/256^k/256=n/256^(k+1):=by rw[BJ,AN]
theorem nj(a:Nat):IntKind.u64.wrap (a:Int)=((a%18446744073709551616:Nat):Int):=by rw[IntKind.wrap_u64];omega
theorem cX(a:Nat)(h:a<18446744073709551616):IntKind.u64.wrap (a:Int)=(a:Int):=by rw[nj];congr 1;omega
theorem oa{k:Nat}(h:k<=64):2^k<=18446744073709551616:=by
 have:=Ak (n:=2) (by decide) h
 simpa using this
theorem o8{k:Nat}(h:k<64):2*2^k<=18446744073709551616:=by
 have:=Ak (n:=2) (by decide) h;rw[AN] at this;omega
theorem bS(k:Nat):(2:Int)^k=((2^k:Nat):Int):=by simp
theorem yq(m:Nat)(h:m<=64):IntKind.u64.wrap (IntKind.u64.wrap (2^m) - 1)=(mk m:Int):=by
 unfold mk;rw[bS,nj];have b:0<2^m:=AA m;by_cases a:m=64
 · subst a;decide
 · have c:=o8 (show m<64 by omega)
   rw[Ar (by omega),IntKind.wrap_u64];omega
theorem Le(k:Nat):mk k<2^k:=by
 unfold mk;have:=AA k;omega
theorem Il(a:Nat):a&&&1=a%2:=by
 simp
theorem Jo(t b:Nat)(a:b<2):2*t|||b=2*t+b:=by
 have:=D0 (i:=1) (b:=b) (by simpa using a) t
 simpa using this.symm
theorem sj(n k:Nat)(g:n<18446744073709551616)(a:k<64):
 bits .or .u64 (IntKind.u64.wrap ((rv n k:Int)*2)) (bits .and .u64 ((n/2^k:Nat):Int) 1)=(rv n (k+1):Int):=by
 have d:=lQ n k;have f:=o8 a;have e:n/2^k<=n:=CJ _ _;have b:IntKind.u64.wrap ((rv n k:Int)*2)=((2*rv n k:Nat):Int):=by
  rw[show((rv n k:Int)*2)=((2*rv n k:Nat):Int) by omega];exact cX _ (by omega)
 have c:bits .and .u64 ((n/2^k:Nat):Int) 1=((n/2^k%2:Nat):Int):=by
  have:=bits_and_u64_nat (n/2^k) 1 (by omega) (by decide);rw[Il] at this;exact this
 rw[b,c,bits_or_u64_nat _ _ (by omega) (by omega),Jo _ _ (by omega)];rfl
theorem gM(n k:Nat)(a:n<big)(b:k<64):
 bits .or .u64 (IntKind.u64.wrap ((rv n k:Int)*2)) (bits .and .u64 ((n:Int) /2^k) 1)=(rv n (k+1):Int):=by
 have h:=sj n k a b;rw[Ce,Cq] at h;exact h
theorem p7(n k:Nat):(n:Int) /2^k/2=(n:Int) /2^(k+1):=by
 rw[bS,bS,<-Ce,<-Ce,<-Ht];rfl
theorem fg(n to:Int)(e:1<=n)(d:1<=to):0<=((n - 1) /to+1)*to/\((n - 1) /to+1)*to<=n - 1+to:=by
 have b:=Int.ediv_mul_le (n - 1) (show to≠0 by omega);have a:0<=(n - 1) /to:=Int.ediv_nonneg (by omega) (by omega);rw[Int.add_mul,Int.one_mul];refine⟨?_,by omega⟩;have c:=Int.mul_nonneg a (show 0<=to by omega);omega
theorem Fl(n to:Int)(a:1<=n)(b:1<=to)(d:n<=9223372036854775807)(f:to<=9223372036854775807):
 IntKind.u64.wrap (IntKind.u64.wrap ((n - 1) /to+1)*to)=((n - 1) /to+1)*to:=by
 have c:=fg n to a b;have g:0<=(n - 1) /to:=Int.ediv_nonneg (by omega) (by omega);have e:(n - 1) /to<=n - 1:=Int.ediv_le_self _ (by omega);rw[IntWalk.u64_in ((n - 1) /to+1) ⟨by omega,by omega⟩,IntWalk.u64_in _ ⟨by omega,by omega⟩]
def EP(l:List UInt8):ByteArray:=⟨l.toArray⟩
theorem le_length(n k:Nat):(le n k).length=k:=by
 induction k generalizing n with
 |zero=>rfl
 |succ k ih=>simp[le,ih]
theorem JK(n k:Nat):le n k=(List.range k).map λj=>UInt8.ofNat (n/256^j%256):=by
 induction k generalizing n with
 |zero=>rfl
 |succ k ih=>
  rw[le,ih,Dc,Al,BC];congr 1
  · simp
  · apply BG
    intro j _;simp only[Function.comp];rw[BJ,Ci,Ao]
theorem qQ(ns:List Int)(s:ByteArray):ns.foldl (λr n=>r.push (UInt8.ofNat n.toNat)) s=⟨(s.data.toList++ns.map λn=>UInt8.ofNat n.toNat).toArray⟩:=by
 induction ns generalizing s with
 |nil=>simp
 |cons n ns ih=>
  rw[List.foldl_cons,ih];simp[ByteArray.push]
theorem Fg(l:List UInt8)(b:UInt8):vl (l++[b])=vl l+256^l.length*b.toNat:=by
 induction l with
 |nil=>simp[vl]
 |cons x l ih=>
  simp only[Ac,vl,ih,qC,AN];rw[BR,Ao (256^l.length) 256,Ba];omega
theorem wP(l:List UInt8):vl l<256^l.length:=by
 induction l with
 |nil=>simp[vl]
 |cons x l ih=>
  have:=x.toNat_lt;simp only[vl,qC,AN];omega
theorem ai(s:ByteArray):s.data.toList.length=s.size:=by rw[As];rfl
theorem I7(s:ByteArray)(i:Nat)(h:i<s.size):s.data.toList[i]'(by rw[ai];exact h)=s[i]:=by
 rw[Array.getElem_toList];rfl
theorem tS(x b i:Nat)(h:x<2^i):x|||b*2^i=x+2^i*b:=by
 have:=D0 h b;rw[Nat.or_comm,Ao b,<-this,BY]
def bys(N k:Nat):List Int:=(List.range k).map λj=>((N/256^j%256:Nat):Int)
theorem rn(N k:Nat):(bys N k).length=k:=by simp[bys]
theorem EO(N k:Nat):(bys N k).map (λn=>UInt8.ofNat n.toNat)=le N k:=by
 rw[JK];unfold bys;rw[BC];apply BG;intro j _;simp only[Function.comp];rw[Au]
theorem FSs(k:Nat):rv 0 k=0:=by
 induction k with
 |zero=>rfl
 |succ k ih=>simp[rv,ih]
theorem nS(n a b:Nat):rv n (a+b)=rv n a*2^b+rv (n/2^a) b:=by
 induction b with
 |zero=>simp[rv]
 |succ b ih=>
  show 2*rv n (a+b)+n/2^(a+b)%2=rv n a*2^(b+1)+(2*rv (n/2^a) b+n/2^a/2^b%2)
  rw[ih,BJ,<-AJ,AN,BR];have:2*(rv n a*2^b)=rv n a*(2^b*2):=(by rw[Ao (2^b) 2,<-Ba,<-Ba,Ao 2]);omega
theorem xr(m k:Nat):rv m (k+1)=m%2*2^k+rv (m/2) k:=by
 have:=nS m 1 k;rw[BY 1 k] at this
 simpa [rv] using this
theorem mod_pow_succ(n k:Nat):n%2^(k+1)=n%2^k+2^k*(n/2^k%2):=by
 rw[AN,CM]
theorem J0(n k:Nat):rv (rv n k) k=n%2^k:=by
 induction k with
 |zero=>simp[rv,CK]
 |succ k ih=>
  rw[xr];have a:rv n (k+1)%2=n/2^k%2:=(by simp only[rv];omega);have b:rv n (k+1) /2=rv n k:=(by simp only[rv];omega);rw[a,b,ih,mod_pow_succ,Ao];omega
theorem J1(n k m:Nat)(h:k<=m):rv (n%2^m) k=rv n k:=by
 induction k with
 |zero=>rfl
 |succ k ih=>
  simp only[rv];rw[ih (by omega)];congr 1;have a:=Nat.testBit_mod_two_pow n m k;rw[Nat.testBit_eq_decide_div_mod_eq,Nat.testBit_eq_decide_div_mod_eq] at a;have b:k<m:=(by omega);simp only[b,decide_true,Bool.true_and,Cj] at a;omega
theorem Km(n k:Nat):n&&&mk k=n%2^k:=Dw n k
theorem Jy(k:Nat)(h:k<=64):mk k<big:=by
 have a:=Le k;have b:=oa h;unfold big;omega
theorem eY(n k:Nat)(a:n<big)(b:k<=64):bits .and .u64 (n:Int) (mk k:Int)=((n%2^k:Nat):Int):=by
 rw[bits_and_u64_nat n (mk k) a (Jy k b),Km]
theorem nx(n a:Int):0<=up n a/\up n a<=4611686018427387904:=by
 unfold up
 split
 · omega
 · rename_i h
   have g:=fg n a (by omega) (by omega)
   split<;>omega
theorem Eu(n a:Nat):le (n%256^a) a=le n a:=by
 induction a generalizing n with
 |zero=>rfl
 |succ a ih=>
  simp only[le];have b:n%256^(a+1)%256=n%256:=by
   rw[Ci,Nat.mod_mul_right_mod]
  have c:n%256^(a+1) /256=n/256%256^a:=by
   rw[Ci,De]
  rw[b,c,ih]
theorem JL(n a b:Nat):le n (a+b)=le n a++le (n/256^a) b:=by
 induction a generalizing n with
 |zero=>simp[le]
 |succ a ih=>
  rw[show a+1+b=(a+b)+1 by omega];simp only[le,Ac];rw[ih,BJ,Ci]
theorem bstr_size(l:List UInt8):(EP l).size=l.length:=by simp[EP,ByteArray.size]
theorem vl_le(n k:Nat):vl (le n k)=n%256^k:=by
 induction k generalizing n with
 |zero=>simp[le,vl,CK]
 |succ k ih=>
  simp only[le,vl,ih];have h:(UInt8.ofNat (n%256)).toNat=n%256:=(by simp);rw[h,Ci,CM]
theorem GN(l:List UInt8):le (vl l) l.length=l:=by
 induction l with
 |nil=>rfl
 |cons b r ih=>
  have d:=b.toNat_lt;have a:(b.toNat+256*vl r)%256=b.toNat:=(by omega);have c:(b.toNat+256*vl r) /256=vl r:=(by omega);simp only[qC,le,vl];rw[a,c,ih,UInt8.ofNat_toNat]
def jt(most:Int)(V L N:Nat)(size:Int):Int×Nat×Nat:=
 if 0<=size/\size<=56/\N<2^size.toNat then
  if(((L+size.toNat+7) /8:Nat):Int)<=most then(0,V+N*2^L,L+size.toNat) else(4,V,L)
 else(2,V,L)
def aG(L:Nat):Nat:=8*((L+7) /8)
def vV(most:Int)(V L:Nat)(s:ByteArray):Int×Nat×Nat:=
 if(((L+7) /8+s.size:Nat):Int)<=most then(0,V+vl s.data.toList*2^aG L,aG L+8*s.size) else(4,V,L)
def c7(V L:Nat):ByteArray:=EP (le V ((L+7) /8))
theorem fU{most:Int}{V L N s:Nat}(c:s<=56)(a:N<2^s)(b:(((L+s+7) /8:Nat):Int)<=most):jt most V L N s=(0,V+N*2^L,L+s):=by
 unfold jt;rw[A7 ⟨by omega,by omega,by simpa using a⟩,Au,A7 b]
theorem dX{most:Int}{V L N s:Nat}(c:s<=56)(a:N<2^s)(b:¬(((L+s+7) /8:Nat):Int)<=most):jt most V L N s=(4,V,L):=by
 unfold jt;rw[A7 ⟨by omega,by omega,by simpa using a⟩,Au,A0 b]
theorem wj{most:Int}{V L N:Nat}{size:Int}(h:¬(0<=size/\size<=56/\N<2^size.toNat)):jt most V L N size=(2,V,L):=A0 h
theorem iy{most:Int}{V L:Nat}{s:ByteArray}(h:(((L+7) /8+s.size:Nat):Int)<=most):vV most V L s=(0,V+vl s.data.toList*2^aG L,aG L+8*s.size):=A7 h
theorem fS{most:Int}{V L:Nat}{s:ByteArray}(h:¬(((L+7) /8+s.size:Nat):Int)<=most):vV most V L s=(4,V,L):=A0 h
theorem Jm(k:Nat):(256:Nat)^k=2^(8*k):=by rw[Nat.pow_mul]
theorem uc{V L N s:Nat}(b:V<2^L)(a:N<2^s):V+N*2^L<2^(L+s):=by
 have h:(N+1)*2^L<=2^s*2^L:=CF _ a;rw[BQ,CW,<-AJ,BY s L] at h;omega
theorem jU{L j:Nat}(h:8*j<=L):2^L=256^j*2^(L - 8*j):=by
 rw[Jm,<-AJ];congr 1;omega
theorem oz{V L N k:Nat}(h:8*k<=L):(V+N*2^L) /256^k=V/256^k+N*2^(L - 8*k):=by
 rw[jU h,show N*(256^k*2^(L - 8*k))=256^k*(N*2^(L - 8*k)) by rw[CT]];exact Nat.add_mul_div_left _ _ (Df (by decide))
theorem Ff{V L k:Nat}(a:V<2^L)(h:8*k<=L):V/256^k<2^(L - 8*k):=by
 apply Nat.div_lt_of_lt_mul
 rw[<-jU h];exact a
theorem kt{a b:Nat}(h:a<=b):2^a<=2^b:=Ak (by decide) h
theorem Gn{V L N k s m:Nat}(e:V<2^L)(c:8*k<=L)(b:L - 8*k=m)(a:m<=7)(f:N<2^s)(hs:s<=56):
 bits .or .u64 ((V/256^k:Nat):Int) (IntKind.u64.wrap ((N:Int)*2^m))=(((V+N*2^L) /256^k:Nat):Int):=by
 have d:=Ff e c;rw[b] at d;have h:N*2^m<2^(s+m):=by
  rw[AJ];exact Nat.mul_lt_mul_of_pos_right f (AA m)
 have g:2^(s+m)<=2^63:=kt (by omega);have i:2^m<=2^7:=kt a;rw[bS,<-Cc,cX _ (by omega),bits_or_u64_nat _ _ (by omega) (by omega),tS _ _ _ d,oz c,b,Ao]
theorem zv{V L N k:Nat}(h:8*k<=L):bys (V+N*2^L) k=bys V k:=by
 unfold bys;apply BG;intro j a;have b:j<k:=Ca.1 a;have e:(V+N*2^L) /256^j%256=V/256^j%256:=by
  rw[oz (by omega),show L - 8*j=(L - 8*j - 8)+8 by omega,AJ,<-Ba];show(V/256^j+_*256)%256=_
  exact DC _ _ _
 rw[e]
theorem pz(V k:Nat):bys V (k+1)=bys V k++[((V/256^k%256:Nat):Int)]:=by
 unfold bys;rw[Bi,Aw];rfl
theorem zg(V k:Nat):V/256^k/256=V/256^(k+1):=qV V k
theorem fT(V k:Nat):bys V k=(le V k).map λb=>(b.toNat:Int):=by
 rw[JK];unfold bys;rw[BC];apply BG;intro j _;simp
theorem GO(V q:Nat)(s:ByteArray)(d:V<256^q):le (V+vl s.data.toList*256^q) (q+s.size)=le V q++s.data.toList:=by
 have c:0<256^q:=Df (by decide);rw[JL];have b:le (V+vl s.data.toList*256^q) q=le V q:=by
  rw[<-Eu (V+vl s.data.toList*256^q) q,DC,Eu]
 have e:(V+vl s.data.toList*256^q) /256^q=vl s.data.toList:=by
  rw[Nat.add_mul_div_right _ _ c,Cf d,Aa]
 rw[b,e];have a:=GN s.data.toList;rw[ai] at a;rw[a]
theorem re(V q:Nat)(s:ByteArray)(a:V<256^q):
 (bys V q).map (Value.int .u8)++Lib.strCells s=(bys (V+vl s.data.toList*256^q) (q+s.size)).map (Value.int .u8):=by
 rw[fT,fT,GO V q s a];simp[Lib.strCells]
theorem pY{V L:Nat}(h:L%8=0):c7 V L=EP (le V (L/8)):=by
 unfold c7;rw[show(L+7) /8=L/8 by omega]
theorem sw{V L:Nat}(h:L%8≠0):c7 V L=EP ((bys V (L/8)++[((V/256^(L/8)%256:Nat):Int)]).map λn=>UInt8.ofNat n.toNat):=by
 unfold c7;rw[show(L+7) /8=L/8+1 by omega,<-pz,EO]
theorem jI(s:ByteArray)(k:Nat)(h:k<s.size):vl (s.data.toList.take (k+1))=vl (s.data.toList.take k)+s[k].toNat*256^k:=by
 have a:=ai s;rw[List.take_succ_eq_append_getElem (by omega),Fg,Af,show min k s.data.toList.length=k by omega,I7 s k h,Ao]
theorem lF(s:ByteArray):vl (s.data.toList.take s.size)=vl s.data.toList:=by
 rw[Aj (by rw[ai];exact qR)]
end M
section
open Go.RowKit M
theorem yr(x:Int)(w:World)(h:x<=0):
 Calls prog 270 #[.int .i64 x] w λe w'=>e=.returned (.int .u64 0)/\w=w':=by
 go_enter func270,ntmps270;go_wp2;go_ret;exact⟨rfl,rfl⟩
theorem ui(x:Int)(w:World)(h:0<x):
 Calls prog 270 #[.int .i64 x] w λe w'=>e=.returned (.int .u64 (mk (min x.toNat 64)))/\w=w':=by
 have a:0<=x:=(by omega);go_enter func270,ntmps270;go_wp2;go_ret;exact⟨congrArg (λz=>Ending.returned (.int .u64 z)) (yq _ (by omega)),rfl⟩
theorem Fo(n a:Int)(w:World)(h:n<1\/a<1):
 Calls prog 222 #[.int .i64 n,.int .i64 a] w λe w'=>e=.returned (.int .i64 (up n a))/\w=w':=by
 have b:=qH (show up n a=0 by unfold up;rw[A7 h]);by_cases c:n<1
 · clear h
   go_enter func222,ntmps222;go_wp2;go_ret;exact⟨congrArg (λz=>Ending.returned (.int .i64 z)) b.o.symm,rfl⟩
 · have g:a<1:=by omega
   have d:1<=n:=(by omega);clear h c;go_enter func222,ntmps222;go_wp2;go_ret;exact⟨congrArg (λz=>Ending.returned (.int .i64 z)) b.o.symm,rfl⟩
theorem Fm(n to:Int)(w:World)(g:1<=n)(i:1<=to)(k:n<=9223372036854775807)(l:to<=9223372036854775807):
 Calls prog 222 #[.int .i64 n,.int .i64 to] w λe w'=>e=.returned (.int .i64 (up n to))/\w=w':=by
 have b:=Fl n to g i k l;have h:=fg n to g i;have a:up n to=if 4611686018427387904<((n - 1) /to+1)*to then 0 else((n - 1) /to+1)*to:=by unfold up;rw[A0 (by omega)]
 by_cases c:4611686018427387904<((n - 1) /to+1)*to
 · rw[A7 c] at a
   have d:=qH a;have j:4611686018427387904<IntKind.u64.wrap (IntKind.u64.wrap ((n - 1) /to+1)*to):=(by rw[b];exact c);clear a b h c;go_enter func222,ntmps222;go_wp2;go_ret;exact⟨congrArg (λz=>Ending.returned (.int .i64 z)) d.o.symm,rfl⟩
 · rw[A0 c] at a
   have d:Hd (wrap64 (IntKind.u64.wrap (IntKind.u64.wrap ((n - 1) /to+1)*to))=up n to):=by
    rw[b,a];exact IntWalk.wrap64_in _ ⟨by omega,by omega⟩
   have j:IntKind.u64.wrap (IntKind.u64.wrap ((n - 1) /to+1)*to)<=4611686018427387904:=(by rw[b];omega);clear a b h c;go_enter func222,ntmps222;go_wp2;go_ret;exact⟨congrArg (λz=>Ending.returned (.int .i64 z)) d.o,rfl⟩
theorem zV(n a:Int)(w:World)(c:n<=9223372036854775807)(b:a<=9223372036854775807):
 Calls prog 222 #[.int .i64 n,.int .i64 a] w λe w'=>e=.returned (.int .i64 (up n a))/\w=w':=by
 by_cases h:n<1\/a<1
 · exact Fo n a w h
 · exact Fm n a w (by omega) (by omega) c b
theorem oA(x:Int)(w:World):
 Calls prog 270 #[.int .i64 x] w λe w'=>e=.returned (.int .u64 (mk (min x.toNat 64)))/\w=w':=by
 by_cases h:x<=0
 · rw[show min x.toNat 64=0 by omega]
   exact yr x w h
 · exact ui x w (by omega)
theorem eM(K:Nat)(w:World)(a:K<=64):
 Calls prog 270 #[.int .i64 K] w λe w'=>e=.returned (.int .u64 (mk K))/\w=w':=by
 have h:=oA K w
 rwa [Au,show min K 64=K by omega] at h
structure Wr(w:World)(B p:Nat)(most:Int)(ao:Option Addr)(c k V L:Nat):Prop where
 c0:w.cell? ⟨p,0,none⟩=some (.bool true)
 c1:w.cell? ⟨p,1,none⟩=some (.int .i64 most)
 c2:w.cell? ⟨p,2,none⟩=some (.slice ao k c)
 c3:w.cell? ⟨p,3,none⟩=some (.int .u64 (V/256^k:Nat))
 c4:w.cell? ⟨p,4,none⟩=some (.int .i64 (L - 8*k:Nat))
 fz:∀i,w.frozen? ⟨p,i,none⟩=false
 own:w.ownsRow B 5 1 (.slice ao k c) k ((bys V k).map (Value.int .u8))
 ap:∀a,ao=some a->a.block≠p
 base:B<=p
 val:V<2^L
 ge:8*k<=L
def dC(p:Nat)(ao:Option Addr):Nat->Prop:=λj=>j=p\/∃a,ao=some a/\j=a.block
def Wt(w:World)(B p:Nat)(S:Nat->Prop)(most:Int)(V L:Nat):Prop:=∃ao c,Wr w B p most ao c (L/8) V L/\∀j,S j↔dC p ao j
variable {w w':World} {B p k c V L:Nat} {ao:Option Addr} {most:Int} {S T:Nat->Prop}
theorem Wr.lt(h:Wr w B p most ao c k V L):p<w.heap.size:=World.block_lt_of_cell? w _ h.c0
theorem Wr.row(h:Wr w B p most ao c k V L){a:Addr}(b:ao=some a):B<=a.block/\a.block<w.heap.size:=h.own.lt a.block (by rw[b];rfl)
theorem Wr.foot_lt(h:Wr w B p most ao c k V L){j:Nat}(b:dC p ao j):B<=j/\j<w.heap.size:=by
 rcases b with rfl|⟨a,ha,rfl⟩
 · exact⟨h.base,h.lt⟩
 · exact h.row ha
theorem Wr.keep(h:Wr w B p most ao c k V L)(d:Kept T w w')(b:∀j,dC p ao j->¬T j):Wr w' B p most ao c k V L:=
 ⟨d.cell h.c0 (b p (.inl rfl)),d.cell h.c1 (b p (.inl rfl)),d.cell h.c2 (b p (.inl rfl)),d.cell h.c3 (b p (.inl rfl)),d.cell h.c4 (b p (.inl rfl)),
  λi=>(d.frozen (a:=⟨p,i,none⟩) h.lt (b p (.inl rfl))).trans (h.fz i),
  d.own h.own λg e=>b g (.inr (by
   cases ao with
   |none=>simp[Value.ownBlock] at e
   |some a=>exact⟨a,rfl,by simpa [Value.ownBlock] using e.symm⟩)),h.ap,h.base,h.val,h.ge⟩
theorem Wt.keep(h:Wt w B p S most V L)(e:Kept T w w')(d:∀j,S j->¬T j):Wt w' B p S most V L:=by
 obtain⟨ao,c,h,a⟩:=h;exact⟨ao,c,h.keep e (λj b=>d j ((a j).2 b)),a⟩
theorem Wt.lt(h:Wt w B p S most V L){j:Nat}(a:S j):B<=j/\j<w.heap.size:=by
 obtain⟨ao,c,h,b⟩:=h;exact h.foot_lt ((b j).1 a)
theorem Wt.self(h:Wt w B p S most V L):S p:=by
 obtain⟨ao,c,h,a⟩:=h;exact(a p).2 (.inl rfl)
theorem Eg(w:World)(m:Int)(d:B<=w.heap.size):
 Wt (w.alloc (.cells #[.bool true,.int .i64 m,.slice none 0 0,.int .u64 0,.int .i64 0] 252)) B w.heap.size (λj=>j=w.heap.size) m 0 0:=by
 refine⟨none,0,⟨?_,?_,?_,?_,?_,?_,World.ownsRow_nil _ _ _ _,?_,d,by decide,by decide⟩,λj=>⟨λh=> .inl h,λh=> ?_⟩⟩
 · simp
 · simp
 · simp
 · simp
 · simp
 · intro i;simp
 · intro a b;cases b
 · rcases h with h|⟨a,b,_⟩
   · exact h
   · cases b
theorem new_any(m:Int)(w:World)(b:B<=w.heap.size):
 Calls prog 114 #[.int .i64 m] w λe w'=>e=.returned (.pointer (some ⟨w.heap.size,0,none⟩))/\Kept NoB w w'/\Wt w' B w.heap.size (λj=>j=w.heap.size) (max 0 m) 0 0/\w.heap.size<w'.heap.size:=by
 by_cases d:0<m
 · have a:=qH (show max 0 m=m by omega)
   go_enter func114,ntmps114;go_wp2;go_ret;exact⟨rfl,(Kept.refl _ _).alloc _,by rw[a.o];exact Eg w m b,by simp⟩
 · have a:=qH (show max 0 m=0 by omega)
   have g:m<=0:=(by omega);clear d;go_enter func114,ntmps114;go_wp2;go_ret;exact⟨rfl,(Kept.refl _ _).alloc _,by rw[a.o];exact Eg w 0 b,by simp⟩
theorem aC(p:Nat)(w:World)(a:w.cell? ⟨p,0,none⟩=some (.bool true)):
 Calls prog 164 #[.pointer (some ⟨p,0,none⟩)] w λe w'=>e=.returned (.bool true)/\w=w':=by
 go_enter func164,ntmps164;go_wp2;go_ret;exact⟨rfl,rfl⟩
theorem uf(N s:Nat)(w:World)(hs:s<=56)(a:N<2^s):
 Calls prog 235 #[.int .u64 N,.int .i64 s] w λe w'=>e=.returned (.bool true)/\w=w':=by
 have b:(N:Int)<=(mk s:Int):=(by unfold mk;omega);clear a;go_enter func235,ntmps235;go_wp2_with (go_at_call 270;refine(eM s _ (by omega)).mono ?_;rintro e w' ⟨rfl,rfl⟩);go_ret;exact⟨rfl,rfl⟩
theorem Jz(n x:Int)(w:World)(i:0<=n)(h:¬(0<=x/\x<=56/\n.toNat<2^x.toNat)):
 Calls prog 235 #[.int .u64 n,.int .i64 x] w λe w'=>e=.returned (.bool false)/\w=w':=by
 by_cases a:0<=x
 · by_cases b:x<=56
   · obtain⟨N,rfl⟩:=Cr i
     obtain⟨s,rfl⟩:=Cr a;rw[Au,Au] at h;have d:=AA s;have j:decide (N<=mk s)=false:=qF (by unfold mk;omega);clear h d;go_enter func235,ntmps235;go_wp2_with (go_at_call 270;refine(eM s _ (by omega)).mono ?_;rintro e w' ⟨rfl,rfl⟩);go_ret;exact⟨rfl,rfl⟩
   · have g:decide (x<=56)=false:=qF b
     clear h b;go_enter func235,ntmps235;go_wp2_with fail;go_ret;exact⟨rfl,rfl⟩
 · have g:x<0:=by omega
   clear h a;go_enter func235,ntmps235;go_wp2_with fail;go_ret;exact⟨rfl,rfl⟩
theorem up8(n:Nat)(h:n<=4611686018427387000):up n 8/8=(((n+7) /8:Nat):Int)/\0<=up n 8:=by
 unfold up;by_cases a:n=0
 · subst a;decide
 · rw[A0 (by omega),A0 (by omega)]
   omega
theorem mV(n:Nat)(w:World)(h:n<=4611686018427387000):
 Calls prog 236 #[.int .i64 n] w λe w'=>e=.returned (.int .i64 ((n+7) /8:Nat))/\w=w':=by
 have b:=(up8 n h).2;have H:=qH (up8 n h).1;have a:=nx n 8;go_enter func236,ntmps236;go_wp2_with (go_at_call 222;refine(zV n 8 _ (by omega) (by omega)).mono ?_;rintro e w' ⟨rfl,rfl⟩);go_ret;exact⟨congrArg (λz=>Ending.returned (.int .i64 z)) H.o,rfl⟩
theorem dt(h:Wr w B p most ao c k V L)(l:k<=1000000000)(q:L<=1000000000):
 Calls prog 200 #[.pointer (some ⟨p,0,none⟩)] w λe w'=>e=.returned (.int .i64 L)/\∃n,w'=w.drewN n:=by
 have g:=h.c0;have r:=h.c2;have j:=h.c4;have a:=h.ge;generalize d:L - 8*k=m at j;have b:=qH (show(k:Int)*8+(m:Int)=(L:Int) by omega);have i:m<=1000000000:=(by omega);clear h d a;go_enter func200,ntmps200;go_wp2_with (go_at_call 164;refine(aC p _ g).mono ?_;rintro e w' ⟨rfl,rfl⟩)
 go_quiet (fail)
 go_wp2;go_ret;exact⟨congrArg (λz=>Ending.returned (.int .i64 z)) b.o,_,rfl⟩
end
section
open Go.RowKit M
theorem pW(N:Nat)(x:Int)(w:World)(d:N<big)(g:64<x):
 Calls prog 281 #[.int .u64 N,.int .i64 x] w λe w'=>e=.returned (.int .u64 (rv N 64))/\w=w':=by
 go_enter func281,ntmps281;go_wp2
 go_loop [0,5,8] (λa t i=> ∃k:Nat,k<=64/\i=.int .i64 k/\a=.int .u64 ((N:Int) /2^k)/\t=.int .u64 (rv N k)) (λ_ _ i=>64 - (intOf i).toNat)
 case atStart=>exact⟨0,qZ,rfl,by simp,rfl⟩
 case round=>
  obtain⟨k,h,rfl,rfl,rfl⟩:=hrel;by_cases b:k<64
  · have hs:=qH (gM N k d (by omega))
    go_wp2
    go_round
    case rel=>exact⟨k+1,by omega,by go_num,congrArg (Value.int .u64) (p7 N k),congrArg (Value.int .u64) hs.o⟩
    case measure=>simp[intOf];omega
  · obtain rfl:k=64:=by omega
    go_wp2;go_ret;exact⟨rfl,rfl⟩
theorem pV(N:Nat)(x:Int)(w:World)(d:N<big)(g:x<=64):
 Calls prog 281 #[.int .u64 N,.int .i64 x] w λe w'=>e=.returned (.int .u64 (rv N x.toNat))/\w=w':=by
 go_enter func281,ntmps281;go_wp2
 go_loop [0,5,8] (λa t i=> ∃k:Nat,k<=x.toNat/\i=.int .i64 k/\a=.int .u64 ((N:Int) /2^k)/\t=.int .u64 (rv N k)) (λ_ _ i=>x.toNat - (intOf i).toNat)
 case atStart=>exact⟨0,qZ,rfl,by simp,rfl⟩
 case round=>
  obtain⟨k,h,rfl,rfl,rfl⟩:=hrel;by_cases b:k<x.toNat
  · have hs:=qH (gM N k d (by omega))
    go_wp2
    go_round
    case rel=>exact⟨k+1,by omega,by go_num,congrArg (Value.int .u64) (p7 N k),congrArg (Value.int .u64) hs.o⟩
    case measure=>simp[intOf];omega
  · obtain rfl:k=x.toNat:=by omega
    go_wp2;go_ret;exact⟨rfl,rfl⟩
theorem nB(n x:Int)(w:World)(d:0<=n)(a:n.toNat<big):
 Calls prog 281 #[.int .u64 n,.int .i64 x] w λe w'=>e=.returned (.int .u64 (rv n.toNat (min x.toNat 64)))/\w=w':=by
 obtain⟨N,rfl⟩:=Cr d;rw[Au] at a ⊢;by_cases b:64<x
 · rw[show min x.toNat 64=64 by omega]
   exact pW N x w a b
 · rw[show min x.toNat 64=x.toNat by omega]
   exact pV N x w a (by omega)
end
namespace M
open Go
def tx(s:ByteArray):Nat:=vl s.data.toList
def nb(s:ByteArray)(a n:Nat):Nat:=tx s/2^a%2^n
def kL(a:Nat):Nat:=8*((a+7) /8)
theorem iX(k:Nat):(256:Nat)^k=2^(8*k):=by rw[Nat.pow_mul]
theorem nb_lt(s:ByteArray)(a n:Nat):nb s a n<2^n:=AR _ (AA n)
theorem Jv(s:ByteArray)(a n:Nat)(h:n<=64):nb s a n<big:=by
 have b:=nb_lt s a n;have d:=oa h;unfold big;omega
theorem yB(T a n:Nat)(h:a%8+n<=64):T/256^(a/8)%256^8/2^(a%8)%2^n=T/2^a%2^n:=by
 have e:T/256^(a/8) /2^(a%8)=T/2^a:=by
  rw[iX,BJ,<-AJ,Nat.div_add_mod]
 rw[iX 8,show 8*8=a%8+(64 - a%8) by omega,AJ,De,e,show 64 - a%8=n+(64 - a%8 - n) by omega,AJ,Nat.mod_mul_right_mod]
theorem mj(N k:Nat):N%256^(k+1)=N%256^k+N/256^k%256*256^k:=by
 rw[AN,CM,Ao]
theorem ud(N k:Nat):N%256^k<2^(8*k):=by rw[<-iX];exact AR _ (Df (by decide))
theorem Gq(N k:Nat)(b:k<8):
 bits .or .u64 ((N%256^k:Nat):Int) (IntKind.u64.wrap (((N/256^k%256:Nat):Int)*2^(k*8)))=((N%256^(k+1):Nat):Int):=by
 have a:=ud N k;have e:N/256^k%256<256:=AR _ (by decide);have d:(2:Nat)^(8*k)<=2^56:=Ak (by decide) (by omega);have f:N/256^k%256*2^(8*k)<=255*2^(8*k):=CF _ (by omega);rw[Ao k 8,bS,<-Cc,cX _ (by omega),bits_or_u64_nat _ _ (by omega) (by omega),tS _ _ _ a,mj,iX,Ao (2^(8*k))]
theorem yC(s:ByteArray)(a n N u r:Nat)(h:n<=56)(b:tx s/256^(a/8)=N)(d:N%256^8=u)(e:a%8=r):
 bits .and .u64 ((u:Int) /2^min r 64) (mk n:Int)=(nb s a n:Int):=by
 have f:(256:Nat)^8=big:=(by decide);have g:u/2^r<=u:=CJ _ _;rw[show min r 64=r by omega,bS,<-Ce,eY _ _ (by omega) (by omega)];unfold nb;rw[<-d,<-b,<-e,yB _ _ _ (by omega)]
theorem Fh(l:List UInt8)(k:Nat):vl (l.drop k)=vl l/256^k:=by
 induction k generalizing l with
 |zero=>simp
 |succ k ih=>
  cases l with
  |nil=>simp[vl]
  |cons b r=>
   have a:=b.toNat_lt;rw[Ck,ih];simp only[vl];rw[Ci,<-BJ];congr 1;omega
theorem qG(l:List UInt8)(m:Nat):le (vl l) m=l.take m++List.replicate (m - l.length) 0:=by
 induction m generalizing l with
 |zero=>simp[le]
 |succ m ih=>
  cases l with
  |nil=>
   have:=ih [];simp only[vl,le,List.take_nil,Ap,AB,CB] at this ⊢;rw[BB];congr 1
  |cons b r=>
   have e:=b.toNat_lt;have a:(b.toNat+256*vl r)%256=b.toNat:=(by omega);have d:(b.toNat+256*vl r) /256=vl r:=(by omega);simp only[vl,le];rw[a,d,ih,UInt8.ofNat_toNat];simp
end M
namespace M
theorem FT{N a b:Nat}:rv N (a+b) /2^b=rv N a:=by
 rw[nS N a b,Ao,Nat.mul_add_div (AA b),Cf (lQ _ _)];rfl
theorem ym{a b k m:Nat}(h:a%2^m=b%2^m)(d:k<=m):a%2^k=b%2^k:=by
 rw[<-Ct a (Cu 2 d),h,Ct b (Cu 2 d)]
theorem aO{a k m:Nat}(b:k<=m):a%2^m%2^k=a%2^k:=Ct _ (Cu 2 b)
theorem kx{X c f z:Nat}(i:f<=z):X%2^z=c%2^z↔(X%2^f=c%2^f/\X/2^f%2^(z - f)=c/2^f%2^(z - f)):=by
 have e:∀a:Nat,a%2^z=a%2^f+2^f*(a/2^f%2^(z - f)):=λa=>by
  rw[show(2:Nat)^z=2^f*2^(z - f) by rw[<-AJ];congr 1;omega,CM]
 constructor
 · intro h
   refine⟨ym h i,?_⟩;have d:∀a:Nat,a%2^z/2^f=a/2^f%2^(z - f):=λa=>by
    rw[show(2:Nat)^z=2^f*2^(z - f) by rw[<-AJ];congr 1;omega,De]
   rw[<-d,<-d,h]
 · rintro⟨b,g⟩
   rw[e X,e c,b,g]
def Fit(l:Nat->Nat)(n:Nat):Prop:=May l n/\aa l n<=32768
def rc(l:Nat->Nat)(n i:Nat):Nat:=rv (cod l n i) (l i)
def bg(l:Nat->Nat)(n X i:Nat):Prop:=l i≠0/\X%2^l i=rc l n i
instance (l:Nat->Nat) (n X i:Nat):Decidable (bg l n X i):=inferInstanceAs (Decidable (l i≠0/\X%2^l i=rc l n i))
theorem rc_lt(l:Nat->Nat)(n i:Nat):rc l n i<2^l i:=lQ _ _
theorem iQ{l:Nat->Nat}{n i:Nat}(h:l i<=15):rc l n i<32768:=Ag (rc_lt l n i) (Ak (by omega) h:2^l i<=2^15)
theorem wq{l:Nat->Nat}{n X i:Nat}(hf:Fit l n)(hi:i<n):bg l n X i↔hit l n (rv X 15) i:=by
 have g:=hf.1.2 i hi;have f:=vE hf.1 hf.2 hi;have e:rv X 15/2^(15 - l i)=rv X (l i):=by
  have:=FT (N:=X) (a:=l i) (b:=15 - l i)
  rwa [show l i+(15 - l i)=15 by omega] at this
 unfold bg hit;rw[e];constructor
 · rintro⟨d,h⟩
   refine⟨d,?_⟩;rw[<-J1 X (l i) (l i) qR,h];unfold rc;rw[J0,Ar f]
 · rintro⟨d,h⟩
   refine⟨d,?_⟩;unfold rc;rw[h,J0]
theorem uQ(l:Nat->Nat)(n r:Nat){j k:Nat}(h:j<=k):kH l n r j<=kH l n r k:=by
 induction k with
 |zero=>obtain rfl:j=0:=by omega
        exact qR
 |succ k ih=>
  by_cases e:j=k+1
  · subst e;exact qR
  · have:=ih (by omega)
    simp only[kH];omega
theorem eS{l:Nat->Nat}{n r i k:Nat}(hi:i<k)(h:hit l n r i):kH l n r i+1<=kH l n r k:=by
 have a:kH l n r (i+1)=kH l n r i+1:=(by simp only[kH];rw[A7 h]);have b:=uQ l n r (show i+1<=k from hi);omega
theorem EV{l:Nat->Nat}{n X i j:Nat}(hf:Fit l n)(hi:i<n)(f:j<n)(d:bg l n X i)(e:bg l n X j):i=j:=by
 rw[wq hf hi] at d;rw[wq hf f] at e;have h:=oO (rv X 15) hf.1;have m:kH l n (rv X 15) n<=1:=(by rw[h];split<;>omega);rcases CE i j with g|g|g
 · have a:=eS g d
   have b:=eS f e;omega
 · exact g
 · have a:=eS g e
   have b:=eS hi d;omega
theorem kG{l:Nat->Nat}{n r:Nat}:∀k,(∀i,i<k->¬hit l n r i)->kH l n r k=0
 |0,_=>rfl
 |k+1,h=>by simp only[kH];rw[kG k (λi hi=>h i (by omega)),A0 (h k (by omega))]
theorem wo{l:Nat->Nat}{n X:Nat}(hf:Fit l n)(h:rv X 15<aa l n):∃i,i<n/\bg l n X i:=by
 apply Classical.byContradiction
 intro g;have a:=oO (rv X 15) hf.1;rw[A7 h,kG n (λi hi q=>g ⟨i,hi,(wq hf hi).2 q⟩)] at a;omega
theorem sd(l:Nat->Nat):∀k,16384*cnt l 1 k<=aa l k:=λk=>by have:=ot l k;omega
theorem ff{l:Nat->Nat}:∀k i,i<k->l i≠0->l i≠1->16384*cnt l 1 k+1<=aa l k
 |0,i,h,_,_=>by omega
 |k+1,i,h,h0,h1=>by
  simp only[cnt,aa];by_cases e:i=k
  · subst e
    have:=rV h0;have:=sd l i;rw[A0 h1];omega
  · have a:=ff k i (by omega) h0 h1
    by_cases g:l k=1
    · rw[A7 g,show wt (l k)=16384 by rw[g];rfl];omega
    · rw[A0 g];omega
theorem fe{l:Nat->Nat}:∀k,aa l k=0->∀i,i<k->l i=0
 |0,_,i,h=>by omega
 |k+1,hw,i,h=>by
  simp only[aa] at hw;by_cases e:i=k
  · subst e
    apply Classical.byContradiction
    intro g;have:=rV g;omega
  · exact fe k (by omega) i (by omega)
theorem yK{l:Nat->Nat}{n:Nat}(h:kind l n=1):c0 l n 1=1/\aa l n=16384:=by
 have e:=eQ (show kind l n≠5 by omega);rw[bj e] at h;by_cases a:aa l n=0
 · rw[A7 a] at h;omega
 · rw[A0 a] at h
   by_cases b:32768<aa l n
   · rw[A7 b] at h;omega
   · rw[A0 b] at h
     by_cases c:aa l n=32768
     · rw[A7 c] at h;omega
     · rw[A0 c] at h
       by_cases d:c0 l n 1=1/\aa l n=16384
       · exact d
       · rw[A0 d] at h;omega
def Tbl(l:Nat->Nat)(n:Nat):Prop:=kind l n=0\/kind l n=1\/kind l n=2
theorem Tbl.fit{l:Nat->Nat}{n:Nat}(h:Tbl l n):Fit l n:=dz (by unfold Tbl at h;omega) (by unfold Tbl at h;omega)
theorem Ij{l:Nat->Nat}{n X i h:Nat}(b:Tbl l n)(hi:i<n)(a:l i≠0)(o:h<l i)(e:X<2^h)(m:X%2^h=rc l n i%2^h):∃j,j<n/\bg l n X j:=by
 have hf:=b.fit;rcases b with k|k|k
 · exact absurd (fe n (uA k) i hi) a
 · obtain⟨d,f⟩:=yK k
   have q:cnt l 1 n=1:=(by simpa [c0] using d);have r:l i=1:=by
    apply Classical.byContradiction
    intro g;have:=ff n i hi a g;omega
   obtain rfl:h=0:=by omega
   obtain rfl:X=0:=by simpa using e
   exact wo hf (by rw[FSs];omega)
 · exact wo hf (by rw[yJ k];exact lQ X 15)
def fnd(l:Nat->Nat)(n X:Nat):Nat->Nat×Nat
 |0=>(0,0)
 |k+1=>if bg l n X k then(k,l k) else fnd l n X k
theorem cH(l:Nat->Nat)(n X:Nat):∀k,(∃i,i<k/\bg l n X i/\fnd l n X k=(i,l i))\/((∀i,i<k->¬bg l n X i)/\fnd l n X k=(0,0))
 |0=> .inr ⟨λi h=>by omega,rfl⟩
 |k+1=>by
  by_cases h:bg l n X k
  · exact .inl ⟨k,by omega,h,by simp only[fnd];rw[A7 h]⟩
  · rcases cH l n X k with⟨i,b,a,d⟩|⟨b,a⟩
    · exact .inl ⟨i,by omega,a,by simp only[fnd];rw[A0 h];exact d⟩
    · refine .inr ⟨λi hi=> ?_,by simp only[fnd];rw[A0 h];exact a⟩
      by_cases e:i=k
      · subst e;exact h
      · exact b i (by omega)
theorem uZ{l:Nat->Nat}{n X i:Nat}(hf:Fit l n)(hi:i<n)(h:bg l n X i):fnd l n X n=(i,l i):=by
 rcases cH l n X n with⟨j,a,b,d⟩|⟨a,b⟩
 · rw[d,EV hf a hi b h]
 · exact absurd h (a i hi)
theorem Ez{l:Nat->Nat}{n X:Nat}(h:∀i,i<n->¬bg l n X i):fnd l n X n=(0,0):=by
 rcases cH l n X n with⟨j,b,a,d⟩|⟨b,a⟩
 · exact absurd a (h j b)
 · exact a
def ahb(l:Nat->Nat)(n f i:Nat):Nat:=if l i<=f then 0 else rc l n i%2^f
def ahs(l:Nat->Nat)(f i:Nat):Nat:=if l i<=f then 0 else f
def cv(l:Nat->Nat)(n f b s x:Nat):Nat->Nat×Nat
 |0=>(0,0)
 |k+1=>if l k≠0/\(ahb l n f k=b/\ahs l f k=s)/\x%2^(l k - s)=rc l n k/2^s then(k,l k) else cv l n f b s x k
def sz(l:Nat->Nat)(n f b s:Nat):Nat->Option Nat
 |0=>if b=0/\s=0 then some f else none
 |k+1=>if ahb l n f k=b/\ahs l f k=s then some (max ((sz l n f b s k).getD 0) (l k - s)) else sz l n f b s k
theorem aF(l:Nat->Nat)(n f i:Nat):(l i<=f/\ahb l n f i=0/\ahs l f i=0)\/(f<l i/\ahb l n f i=rc l n i%2^f/\ahs l f i=f):=by
 unfold ahb ahs;by_cases h:l i<=f
 · rw[A7 h,A7 h];exact .inl ⟨h,rfl,rfl⟩
 · rw[A0 h,A0 h];exact .inr ⟨by omega,rfl,rfl⟩
theorem wG(l:Nat->Nat)(n f i:Nat):ahb l n f i<2^f:=by
 rcases aF l n f i with⟨_,h,_⟩|⟨_,h,_⟩
 · rw[h];exact AA f
 · rw[h];exact AR _ (AA f)
theorem fH(l:Nat->Nat)(n f b s x:Nat):∀k,(∃i,i<k/\(l i≠0/\(ahb l n f i=b/\ahs l f i=s)/\x%2^(l i - s)=rc l n i/2^s)/\cv l n f b s x k=(i,l i))\/
 ((∀i,i<k->¬(l i≠0/\(ahb l n f i=b/\ahs l f i=s)/\x%2^(l i - s)=rc l n i/2^s))/\cv l n f b s x k=(0,0))
 |0=> .inr ⟨λi h=>by omega,rfl⟩
 |k+1=>by
  by_cases h:l k≠0/\(ahb l n f k=b/\ahs l f k=s)/\x%2^(l k - s)=rc l n k/2^s
  · exact .inl ⟨k,by omega,h,by simp only[cv];rw[A7 h]⟩
  · rcases fH l n f b s x k with⟨i,d,a,g⟩|⟨d,a⟩
    · exact .inl ⟨i,by omega,a,by simp only[cv];rw[A0 h];exact g⟩
    · refine .inr ⟨λi hi=> ?_,by simp only[cv];rw[A0 h];exact a⟩
      by_cases e:i=k
      · subst e;exact h
      · exact d i (by omega)
theorem zj{l:Nat->Nat}{n f b s x k:Nat}(a:May l n)(h:k<=n):(cv l n f b s x k).1<320/\(cv l n f b s x k).2<=15:=by
 rcases fH l n f b s x k with⟨i,e,d,g⟩|⟨e,d⟩
 · rw[g];exact⟨by have:=a.1;omega,a.2 i (by omega)⟩
 · rw[d];exact⟨by omega,by omega⟩
theorem sH{l:Nat->Nat}{n f b s i:Nat}:∀k,i<k->ahb l n f i=b->ahs l f i=s->∃m,sz l n f b s k=some m/\l i - s<=m
 |0,h,_,_=>by omega
 |k+1,h,hb,hs=>by
  by_cases e:i=k
  · subst e
    refine⟨_,by simp only[sz];rw[A7 ⟨hb,hs⟩],Nat.le_max_right _ _⟩
  · obtain⟨m,a,d⟩:=sH k (by omega) hb hs
    by_cases g:ahb l n f k=b/\ahs l f k=s
    · refine⟨_,by simp only[sz];rw[A7 g],?_⟩
      rw[a];exact qK d (Nat.le_max_left _ _)
    · exact⟨m,by simp only[sz];rw[A0 g];exact a,d⟩
theorem sG{l:Nat->Nat}{n f b s:Nat}(hf:f<=15):∀k,(∀i,i<k->l i<=15)->∀m,sz l n f b s k=some m->m<=15
 |0,_,m,e=>by
  simp only[sz] at e
  split at e
  · injection e with e;omega
  · cases e
 |k+1,h,m,e=>by
  simp only[sz] at e;have d:=h k (by omega);have a:=sG (b:=b) (s:=s) (n:=n) hf k (λi hi=>h i (by omega))
  split at e
  · injection e with e
    cases q:sz l n f b s k with
    |none=>rw[q] at e;simp at e;omega
    |some m'=>rw[q] at e;have:=a m' q;simp at e;omega
  · exact a m e
theorem sF{l:Nat->Nat}{n f:Nat}(b:1<=f):∀k,sz l n f 0 0 k=some f
 |0=>by simp[sz]
 |k+1=>by
  simp only[sz];rw[sF b k]
  split
  · rename_i g
    have d:l k<=f:=by
     rcases aF l n f k with⟨a,_,_⟩|⟨_,_,a⟩
     · exact a
     · have:=g.2;omega
    rw[show max ((some f).getD 0) (l k - 0)=f by simp;omega]
  · rfl
theorem nF{l:Nat->Nat}{n f b s:Nat}:∀k m,sz l n f b s k=some m->(b=0/\s=0)\/(s=f/\b<2^f)
 |0,m,e=>by
  simp only[sz] at e;by_cases g:b=0/\s=0
  · exact .inl g
  · rw[A0 g] at e;cases e
 |k+1,m,e=>by
  simp only[sz] at e;by_cases g:ahb l n f k=b/\ahs l f k=s
  · rcases aF l n f k with⟨_,d,a⟩|⟨_,d,a⟩
    · exact .inl ⟨by omega,by omega⟩
    · exact .inr ⟨by omega,by rw[<-g.1];exact wG l n f k⟩
  · rw[A0 g] at e
    exact nF k m e
theorem uY{l:Nat->Nat}{n f X:Nat}(hf:Fit l n)(o:1<=f)(h:(cv l n f 0 0 (X%2^f) n).2≠0):fnd l n X n=cv l n f 0 0 (X%2^f) n:=by
 rcases fH l n f 0 0 (X%2^f) n with⟨i,j,⟨d,⟨_,q⟩,b⟩,m⟩|⟨_,g⟩
 · have e:l i<=f:=by
    rcases aF l n f i with⟨a,_,_⟩|⟨_,_,a⟩
    · exact a
    · omega
   rw[m];refine uZ hf j ⟨d,?_⟩;rw[CB,aO e,Nat.pow_zero,Nat.div_one] at b;exact b
 · rw[g] at h;exact absurd rfl h
theorem pG{l:Nat->Nat}{n f X i:Nat}(q:1<=f)(hi:i<n)(d:bg l n X i)(h:l i<=f):(cv l n f 0 0 (X%2^f) n).2≠0:=by
 rcases fH l n f 0 0 (X%2^f) n with⟨j,o,⟨m,_⟩,e⟩|⟨g,_⟩
 · rw[e];exact m
 · exfalso
   refine g i hi ⟨d.1,?_,?_⟩
   · rcases aF l n f i with⟨_,a,b⟩|⟨a,_,_⟩
     · exact⟨a,b⟩
     · omega
   · rw[CB,aO h,Nat.pow_zero,Nat.div_one];exact d.2
theorem EW{l:Nat->Nat}{n f X i:Nat}(g:bg l n X i)(h:f<l i):ahb l n f i=X%2^f/\ahs l f i=f/\X/2^f%2^(l i - f)=rc l n i/2^f:=by
 have d:=(kx (X:=X) (c:=rc l n i) (f:=f) (z:=l i) (by omega)).1 (by rw[g.2,Ar (rc_lt l n i)]);have e:rc l n i/2^f%2^(l i - f)=rc l n i/2^f:=by
  apply Ar
  rw[CZ (AA f),<-AJ,show l i - f+f=l i by omega];exact rc_lt l n i
 rcases aF l n f i with⟨a,_,_⟩|⟨_,a,b⟩
 · omega
 · exact⟨by rw[a,d.1],b,by rw[d.2,e]⟩
theorem yY{l:Nat->Nat}{n f X:Nat}(g:1<=f)(h:(cv l n f 0 0 (X%2^f) n).2=0)(hs:sz l n f (X%2^f) f n=none):fnd l n X n=(0,0):=by
 refine Ez λi hi d=> ?_
 by_cases j:l i<=f
 · exact pG g hi d j h
 · obtain⟨a,b,_⟩:=EW (f:=f) d (by omega)
   obtain⟨m,e,_⟩:=sH n hi a b;rw[hs] at e;cases e
theorem mJ{l:Nat->Nat}{n f X m:Nat}(hf:Fit l n)(v:1<=f)(h:(cv l n f 0 0 (X%2^f) n).2=0)(hs:sz l n f (X%2^f) f n=some m):
 fnd l n X n=cv l n f (X%2^f) f (X/2^f%2^m) n:=by
 rcases fH l n f (X%2^f) f (X/2^f%2^m) n with⟨i,q,⟨t,⟨r,A⟩,s⟩,u⟩|⟨g,x⟩
 · rw[u]
   have o:f<l i/\rc l n i%2^f=X%2^f:=by
    rcases aF l n f i with⟨_,_,a⟩|⟨a,b,_⟩
    · omega
    · exact⟨a,by rw[<-b,r]⟩
   obtain⟨y,e,d⟩:=sH n q r A;rw[hs] at e;injection e with e
   subst e;rw[aO d] at s;refine uZ hf q ⟨t,?_⟩;have e:rc l n i/2^f%2^(l i - f)=rc l n i/2^f:=by
    apply Ar
    rw[CZ (AA f),<-AJ,show l i - f+f=l i by omega];exact rc_lt l n i
   have:=(kx (X:=X) (c:=rc l n i) (f:=f) (z:=l i) (by omega)).2 ⟨o.2.symm,by rw[s,e]⟩;rw[this,Ar (rc_lt l n i)]
 · rw[x]
   refine Ez λi hi j=> ?_
   by_cases o:l i<=f
   · exact pG v hi j o h
   · obtain⟨a,b,c⟩:=EW (f:=f) j (by omega)
     obtain⟨y,e,d⟩:=sH n hi a b;rw[hs] at e;injection e with e
     subst e;exact g i hi ⟨j.1,⟨a,b⟩,by rw[aO d];exact c⟩
def lk(l:Nat->Nat)(n X h:Nat):Nat×Nat×Nat:=
 if(fnd l n (X%2^min h 64) n).2=0 then(0,0,7) else if h<(fnd l n (X%2^min h 64) n).2 then(0,0,6) else((fnd l n (X%2^min h 64) n).1,(fnd l n (X%2^min h 64) n).2,0)
def fts(l:Nat->Nat)(n X h i:Nat):Prop:=l i≠0/\X%2^min (l i) h=rc l n i%2^min (l i) h
instance (l:Nat->Nat) (n X h i:Nat):Decidable (fts l n X h i):=inferInstanceAs (Decidable (l i≠0/\X%2^min (l i) h=rc l n i%2^min (l i) h))
def som(l:Nat->Nat)(n X h:Nat):Nat->Bool
 |0=>false
 |k+1=>som l n X h k||decide (fts l n X h k)
theorem iO(l:Nat->Nat)(n X h:Nat):∀k,som l n X h k=true↔∃i,i<k/\fts l n X h i
 |0=>by simp[som]
 |k+1=>by
  simp only[som,Cp,Dg,iO l n X h k];constructor
  · rintro(⟨i,a,b⟩|b)
    · exact⟨i,by omega,b⟩
    · exact⟨k,by omega,b⟩
  · rintro⟨i,a,b⟩
    by_cases e:i=k
    · subst e;exact .inr b
    · exact .inl ⟨i,by omega,b⟩
theorem EX{l:Nat->Nat}{n X h i:Nat}(a:l i<=h):bg l n (X%2^h) i↔bg l n X i:=by
 unfold bg;rw[aO a]
theorem GF{l:Nat->Nat}{n X h:Nat}(u:Tbl l n)(o:∀i,i<n->fts l n X (min h 15) i->¬l i<=min h 15):lk l n X h=if som l n X (min h 15) n=true then(0,0,6) else(0,0,7):=by
 have hf:=u.fit;have q:=hf.1.2;unfold lk;rcases cH l n (X%2^min h 64) n with⟨i,b,d,A⟩|⟨b,d⟩
 · have e:fts l n X (min h 15) i:=⟨d.1,by
    have z:=d.2;have t:X%2^min h 64%2^min (l i) (min h 15)=X%2^min (l i) (min h 15):=aO (by omega);rw[<-t,<-aO (a:=X%2^min h 64) (k:=min (l i) (min h 15)) (m:=l i) (by omega),z]⟩
   have f:h<l i:=(by have:=o i b e;have:=q i b;omega);rw[A,A0 d.1,A7 f,A7 ((iO l n X _ n).2 ⟨i,b,e⟩)]
 · rw[d,A7 rfl]
   by_cases g:som l n X (min h 15) n=true
   · exfalso
     obtain⟨i,r,s⟩:=(iO l n X _ n).1 g;have f:=o i r s;have D:=q i r;have y:min h 64=h:=(by omega);have t:min (l i) (min h 15)=h:=(by omega);have v:=s.2;rw[t] at v;rw[y] at b;obtain⟨j,x,C⟩:=Ij u r s.1 (show h<l i by omega) (AR X (AA h)) (by rw[Nat.mod_mod];exact v);exact b j x C
   · rw[A0 g]
theorem eO{l:Nat->Nat}{n X h:Nat}(hf:Fit l n):(∃i,i<n/\l i≠0/\l i<=h/\X%2^l i=rc l n i/\lk l n X h=(i,l i,0))\/lk l n X h=(0,0,6)\/lk l n X h=(0,0,7):=by
 unfold lk;rcases cH l n (X%2^min h 64) n with⟨i,b,a,d⟩|⟨b,a⟩
 · rw[d,A0 a.1]
   by_cases g:h<l i
   · rw[A7 g];exact .inr (.inl rfl)
   · have:=hf.1.2 i b
     rw[A0 g];exact .inl ⟨i,b,a.1,by omega,((EX (by omega)).1 a).2,rfl⟩
 · rw[a,A7 rfl];exact .inr (.inr rfl)
theorem GG{l:Nat->Nat}{n X h i:Nat}(hf:Fit l n)(hi:i<n)(a:l i≠0)(b:l i<=h)(d:X%2^l i=rc l n i):lk l n X h=(i,l i,0):=by
 have:=hf.1.2 i hi;unfold lk;rw[uZ hf hi ((EX (show l i<=min h 64 by omega)).2 ⟨a,d⟩),A0 a,A0 (show ¬h<l i by omega)]
end M
section
open Go.RowKit M
structure Rd(w:World)(B p:Nat)(s:ByteArray)(a:Nat):Prop where
 c0:w.cell? ⟨p,0,none⟩=some (.bool true)
 c1:w.cell? ⟨p,1,none⟩=some (.string s)
 c2:w.cell? ⟨p,2,none⟩=some (.int .i64 a)
 fz:∀i,w.frozen? ⟨p,i,none⟩=false
 base:B<=p
 le:a<=8*s.size
variable {w w':World} {B p a:Nat} {s:ByteArray} {S T:Nat->Prop}
theorem Rd.lt(h:Rd w B p s a):p<w.heap.size:=World.block_lt_of_cell? w _ h.c0
theorem Rd.keep(h:Rd w B p s a)(d:Kept T w w')(b:¬T p):Rd w' B p s a:=
 ⟨d.cell h.c0 b,d.cell h.c1 b,d.cell h.c2 b,λi=>(d.frozen (a:=⟨p,i,none⟩) h.lt b).trans (h.fz i),h.base,h.le⟩
theorem Rd.same(h:Rd w B p s a)(b:Kept NoB w w'):Rd w' B p s a:=h.keep b (λg=>g)
theorem Rd.drewN(h:Rd w B p s a)(n:Nat):Rd (w.drewN n) B p s a:=h.same ((Kept.refl NoB w).drewN n)
theorem rset_ne{i j:Nat}{v:Value}(h:i≠j):(w.setCell ⟨p,i,none⟩ v).cell? ⟨p,j,none⟩=w.cell? ⟨p,j,none⟩:=World.cell?_setCell_other w _ _ _ (λe=>h (by injection e))
theorem rset_eq{i:Nat}{u v:Value}(h:w.cell? ⟨p,i,none⟩=some u):(w.setCell ⟨p,i,none⟩ v).cell? ⟨p,i,none⟩=some v:=World.cell?_setCell_same' w _ _ (by rw[h];rfl)
theorem Rd.put(h:Rd w B p s a)(b:Nat)(e:b<=8*s.size)(z:Int)(d:z=(b:Int)):Rd (w.setCell ⟨p,2,none⟩ (.int .i64 z)) B p s b/\Kept (λj=>j=p) w (w.setCell ⟨p,2,none⟩ (.int .i64 z)):=by
 subst d;refine⟨⟨(rset_ne (by decide)).trans h.c0,(rset_ne (by decide)).trans h.c1,rset_eq h.c2,λi=> ?_,h.base,e⟩,(Kept.refl (λj=>j=p) w).setCell ⟨p,2,none⟩ (.inl rfl) _⟩;rw[World.frozen?_setCell];exact h.fz i
theorem xA(s:ByteArray)(w:World)(b:B<=w.heap.size):
 Calls prog 121 #[.string s] w λe w'=>e=.returned (.pointer (some ⟨w.heap.size,0,none⟩))/\Kept NoB w w'/\Rd w' B w.heap.size s 0/\w.heap.size<w'.heap.size:=by
 go_enter func121,ntmps121;go_wp2;go_ret;exact⟨rfl,(Kept.refl _ _).alloc _,⟨by simp,by simp,by simp,λi=>by simp,b,qZ⟩,by simp⟩
theorem aI(p:Nat)(w:World)(b:w.cell? ⟨p,0,none⟩=some (.bool true)):
 Calls prog 172 #[.pointer (some ⟨p,0,none⟩)] w λe w'=>e=.returned (.bool true)/\w=w':=by
 go_enter func172,ntmps172;go_wp2;go_ret;exact⟨rfl,rfl⟩
theorem iP(x:Int)(w:World)(b:0<=x)(d:x<=56):
 Calls prog 249 #[.int .i64 x] w λe w'=>e=.returned (.bool true)/\w=w':=by
 go_enter func249,ntmps249;go_wp2_with fail;go_ret;exact⟨rfl,rfl⟩
theorem eP(h:Rd w B p s a)(hs:s.size<=100000000):
 Calls prog 250 #[.pointer (some ⟨p,0,none⟩)] w λe w'=>e=.returned (.int .i64 (8*s.size - a:Nat))/\∃n,w'=w.drewN n:=by
 have g:=h.c0;have j:=h.c1;have l:=h.c2;have b:=h.le;have d:=qH (show(s.size:Int)*8 - (a:Int)=((8*s.size - a:Nat):Int) by omega);have i:a<=800000000:=(by omega);clear h b;go_enter func250,ntmps250;go_wp2_with (go_at_call 172;refine(aI p _ g).mono ?_;rintro e w' ⟨rfl,rfl⟩)
 go_quiet (fail)
 go_wp2;go_ret;exact⟨congrArg (λz=>Ending.returned (.int .i64 z)) d.o,_,rfl⟩
theorem Ki(h:Rd w B p s a):
 Calls prog 124 #[.pointer (some ⟨p,0,none⟩)] w λe w'=>e=.returned (.int .i64 a)/\w=w':=by
 have b:=h.c0;have d:=h.c2;clear h;go_enter func124,ntmps124;go_wp2_with (go_at_call 172;refine(aI p _ b).mono ?_;rintro e w' ⟨rfl,rfl⟩);go_ret;exact⟨rfl,rfl⟩
theorem LG(n:Nat)(h:n<=4611686018427387000):up n 8/8=(((n+7) /8:Nat):Int)/\0<=up n 8:=by
 unfold up;by_cases b:n=0
 · subst b;decide
 · rw[A0 (by omega),A0 (by omega)]
   omega
theorem whole_any(h:Rd w B p s a)(hs:s.size<=100000000):
 Calls prog 173 #[.pointer (some ⟨p,0,none⟩)] w λe w'=>e=.returned (.int .i64 ((a+7) /8:Nat))/\w=w':=by
 have j:=h.c2;have b:=h.le;have d:a<=800000000:=(by omega);have g:=(LG a (by omega)).2;have H:=qH (LG a (by omega)).1;have i:=nx a 8;clear h b;go_enter func173,ntmps173;go_wp2_with (go_at_call 222;refine(zV a 8 _ (by omega) (by omega)).mono ?_;rintro e w' ⟨rfl,rfl⟩);go_ret;exact⟨congrArg (λz=>Ending.returned (.int .i64 z)) H.o,rfl⟩
end
namespace I
open M
abbrev St:=Nat×List UInt8
def Rm(α:Type):=ByteArray->Nat->Nat->St->Except Nat (α×St)
def pur{α:Type}(a:α):Rm α:=λ_ _ _ x=> .ok (a,x)
def bnd{α β:Type}(r:Rm α)(f:α->Rm β):Rm β:=λs D L x=>
 match r s D L x with
 |.ok (a,y)=>f a s D L y
 |.error e=> .error e
def fl{α:Type}(e:Nat):Rm α:=λ_ _ _ _=> .error e
def bits(n:Nat):Rm Nat:=λs _ _ x=>if x.1+n<=8*s.size then .ok (nb s x.1 n,(x.1+n,x.2)) else .error 6
def lok(l:Nat->Nat)(n:Nat)(s:ByteArray)(a:Nat):Nat×Nat×Nat:=lk l n (nb s a (min 15 (8*s.size - a))) (min 15 (8*s.size - a))
instance (l:Nat->Nat) (n:Nat):Decidable (Tbl l n):=inferInstanceAs (Decidable (kind l n=0\/kind l n=1\/kind l n=2))
def nxt(l:Nat->Nat)(n:Nat):Rm Nat:=λs _ _ x=>
 if Tbl l n then
  if(lok l n s x.1).2.2=0 then .ok ((lok l n s x.1).1,(x.1+(lok l n s x.1).2.1,x.2)) else .error (if(lok l n s x.1).2.2=7 then 163 else(lok l n s x.1).2.2)
 else .error 0
def algn:Rm Unit:=λ_ _ _ x=> .ok ((),(8*((x.1+7) /8),x.2))
def byt(s:ByteArray)(p n:Nat):List UInt8:=(s.data.toList.drop p).take n
def byts(n:Nat):Rm (List UInt8):=λs _ _ x=>if(x.1+7) /8+n<=s.size then .ok (byt s ((x.1+7) /8) n,(8*((x.1+7) /8+n),x.2)) else .error 6
def app(l:List UInt8):Rm Unit:=λ_ D L x=>if L<x.2.length - D+l.length then .error 5 else .ok ((),(x.1,x.2++l))
def gr(b:List UInt8)(d:Nat):Nat->List UInt8
 |0=>b
 |k+1=>gr b d k++[(gr b d k).getD ((gr b d k).length - d) 0]
theorem aJ(b:List UInt8)(d:Nat):∀k,(gr b d k).length=b.length+k
 |0=>rfl
 |k+1=>by simp only[gr,qA,qC,AB,aJ b d k];omega
def copy(t k:Nat):Rm Unit:=λ_ D L x=>if x.2.length<t then .error 164 else if L<x.2.length - D+k then .error 5 else .ok ((),(x.1,gr x.2 t k))
def loopR{α β:Type}(f:α->Rm (α ⊕ β)):Nat->α->Rm β
 |0,_=>fl 0
 |k+1,a=>bnd (f a) λr=>match r with
  |.inl a=>loopR f k a
  |.inr b=>pur b
def lenR(y:Nat):Rm Nat:=bnd (bits (if y<=285 then lb (y - 257) else 0)) λe=>if 285<y\/lof (y - 257) e=0 then fl 163 else pur (lof (y - 257) e)
def dstR(z:Nat):Rm Nat:=bnd (bits (if z<=29 then db z else 0)) λe=>if 29<z\/dof z e=0 then fl 163 else pur (dof z e)
def matR(y:Nat)(d:Nat->Nat)(m:Nat):Rm (Unit ⊕ Unit):=bnd (lenR y) λk=>bnd (nxt d m) λz=>bnd (dstR z) λt=>bnd (copy t k) λ_=>pur (.inl ())
def sym1(l:Nat->Nat)(n:Nat)(d:Nat->Nat)(m:Nat):Unit->Rm (Unit ⊕ Unit):=λ_=>bnd (nxt l n) λy=>
 if y<256 then bnd (app [UInt8.ofNat y]) λ_=>pur (.inl ()) else if y=256 then pur (.inr ()) else matR y d m
def syms(K:Nat)(l:Nat->Nat)(n:Nat)(d:Nat->Nat)(m:Nat):Rm Unit:=loopR (sym1 l n d m) K ()
def stor:Rm Unit:=bnd algn λ_=>bnd (bits 16) λn=>bnd (bits 16) λt=>if n+t≠65535 then fl 161 else bnd (byts n) λb=>app b
def od:List Nat:=[16,17,18,0,8,7,9,6,10,5,11,4,12,3,13,2,14,1,15]
def ownR:Nat->Nat->(Nat->Nat)->Rm (Nat->Nat)
 |0,_,g=>pur g
 |k+1,i,g=>bnd (bits 3) λx=>ownR k (i+1) (λj=>if j=od.getD i 0 then x else g j)
def rbm(s:Nat):Nat:=if s<16 then 0 else if s=16 then 2 else if s=17 then 3 else 7
def len1(l:Nat->Nat)(N:Nat)(all:List Nat):Rm (List Nat ⊕ List Nat):=
 if N<=all.length then pur (.inr all) else bnd (nxt l 19) λy=>bnd (bits (rbm y)) λe=>
  if(y=16/\all=[])\/N<all.length+tms ⟨y,e⟩ then fl 162 else pur (.inl (all++List.replicate (tms ⟨y,e⟩) (vlr all ⟨y,e⟩)))
def lit(all:List Nat):Nat->Nat:=λi=>all.getD i 0
def dis(all:List Nat)(a:Nat):Nat->Nat:=λi=>all.getD (a+i) 0
def tabR(all:List Nat)(a b:Nat):Rm (List Nat×Nat×Nat):=
 if all.getD 256 0=0\/¬Tbl (lit all) a\/¬Tbl (dis all a) b then fl 162 else pur (all,a,b)
def dyn(K:Nat):Rm (List Nat×Nat×Nat):=bnd (bits 5) λa=>bnd (bits 5) λb=>bnd (bits 4) λk=>
 if 286<a+257\/30<b+1 then fl 162 else bnd (ownR (k+4) 0 λ_=>0) λo=>if kind o 19≠2 then fl 162 else
  bnd (loopR (len1 o (a+257+(b+1))) K []) λall=>tabR all (a+257) (b+1)
def fx(j:Nat):Nat:=if j<144 then 8 else if j<256 then 9 else if j<280 then 7 else 8
def body(K k:Nat):Rm Unit:=if k=0 then stor else if k=1 then syms K fx 288 (λ_=>5) 32 else if k=2 then bnd (dyn K) λt=>syms K (lit t.1) t.2.1 (dis t.1 t.2.1) t.2.2 else fl 160
def blk(K:Nat):Unit->Rm (Unit ⊕ Unit):=λ_=>bnd (bits 1) λf=>bnd (bits 2) λk=>bnd (body K k) λ_=>pur (if f=1 then .inr () else .inl ())
def inf(K:Nat):Rm Unit:=loopR (blk K) K ()
def ans(r:Except Nat (Unit×St))(D:Nat):List UInt8×Nat×Nat:=
 match r with
 |.ok (_,y)=>(y.2.drop D,(y.1+7) /8,0)
 |.error e=>([],0,e)
structure Agr(s s':ByteArray)(c:Nat):Prop where
 h1:c<=s.size
 h2:c<=s'.size
 h3:s.data.toList.take c=s'.data.toList.take c
theorem ca:∀ (l m:List UInt8),vl (l++m)=vl l+256^l.length*vl m
 |[],m=>by simp[vl]
 |b::l,m=>by
  simp only[Ac,vl,ca l m,qC];rw[Ci,BR,Ba,AC]
theorem lG(l:List UInt8)(c:Nat)(h:c<=l.length):vl (l.take c)=vl l%256^c:=by
 have b:=ca (l.take c) (l.drop c);rw[Bb,Af,AS h] at b;have d:=wP (l.take c);rw[Af,AS h] at d;rw[b,Nat.add_mul_mod_self_left,Ar d]
theorem Agr.tx{s b:ByteArray}{c:Nat}(h:Agr s b c):M.tx s%2^(8*c)=M.tx b%2^(8*c):=by
 have d:=lG s.data.toList c (by rw[ai];exact h.h1);have e:=lG b.data.toList c (by rw[ai];exact h.h2);rw[h.h3,e,iX] at d;exact d.symm
theorem Ei(s:ByteArray)(a n:Nat):nb s a n=M.tx s%2^(a+n) /2^a:=by
 unfold nb;rw[AJ,De]
theorem Agr.nb{s d:ByteArray}{c a n:Nat}(h:Agr s d c)(b:a+n<=8*c):M.nb s a n=M.nb d a n:=by
 rw[Ei,Ei];congr 1;rw[<-Ct (M.tx s) (Cu 2 b),h.tx,Ct _ (Cu 2 b)]
theorem Agr.byt{s b:ByteArray}{c p n:Nat}(h:Agr s b c)(d:p+n<=c):I.byt s p n=I.byt b p n:=by
 have e:∀l:List UInt8,(l.drop p).take n=((l.take c).drop p).take n:=λl=>by
  rw[CN,CY,AS (by omega)]
 unfold I.byt;rw[e,h.h3,<-e]
theorem fw(s:ByteArray){a n m:Nat}(h:m<=n):nb s a n%2^m=nb s a m:=by
 unfold nb;rw[Ct _ (Cu 2 h)]
theorem JD{l:Nat->Nat}{n:Nat}{s:ByteArray}{a:Nat}(hf:Fit l n)(h:(lok l n s a).2.2=0)(g:a<=8*s.size):∃i,i<n/\l i≠0/\a+l i<=8*s.size/\nb s a (l i)=rc l n i/\lok l n s a=(i,l i,0):=by
 rcases eO (l:=l) (n:=n) (X:=nb s a (min 15 (8*s.size - a))) (h:=min 15 (8*s.size - a)) hf with⟨i,d,f,e,b,h5⟩|h5|h5
 · refine⟨i,d,f,by omega,?_,h5⟩
   rw[fw s e] at b;exact b
 · unfold lok at h;rw[h5] at h;cases h
 · unfold lok at h;rw[h5] at h;cases h
theorem En{l:Nat->Nat}{n:Nat}{s:ByteArray}{a i:Nat}(hf:Fit l n)(hi:i<n)(b:l i≠0)(e:a+l i<=8*s.size)(h:nb s a (l i)=rc l n i):lok l n s a=(i,l i,0):=by
 have d:=hf.1.2 i hi;exact GG hf hi b (by omega) (by rw[fw s (by omega)];exact h)
theorem GC{l:Nat->Nat}{n:Nat}{s b:ByteArray}{a i:Nat}(q:Tbl l n)(hi:i<n)(u:l i≠0)(C:a+l i<=8*s.size)(h:nb s a (l i)=rc l n i)
 (v:Agr s b b.size) (D:a<=8*b.size) (E:8*b.size<a+l i):lok l n b a=(0,0,6):=by
 have hf:=q.fit;have m:=hf.1.2 i hi;have x:min 15 (8*b.size - a)=8*b.size - a:=(by omega);have t:min (8*b.size - a) 15=8*b.size - a:=(by omega);have A:nb b a (8*b.size - a)=nb s a (8*b.size - a):=(v.nb (by omega)).symm;unfold lok;rw[x,A];have f:fts l n (nb s a (8*b.size - a)) (min (8*b.size - a) 15) i:=by
  refine⟨u,?_⟩;rw[t,Bw (by omega),fw s qR,<-h,fw s (by omega)]
 rw[GF q,A7]
 · exact(iO _ _ _ _ _).2 ⟨i,hi,f⟩
 · intro j r o e
   have g:=hf.1.2 j r;have d:=o.2;rw[t] at d e;rw[AS e,fw s e,Ar (rc_lt l n j)] at d;have y:bg l n (nb s a 15) i:=⟨u,by rw[fw s m];exact h⟩;have z:bg l n (nb s a 15) j:=⟨o.1,by rw[fw s g];exact d⟩;have:=EV hf hi r y z;subst this;omega
structure a9{α:Type}(r:Rm α):Prop where
 mono:∀ {s D L x a y},r s D L x=.ok (a,y)->x.1<=y.1/\x.2.length<=y.2.length/\y.2.take x.2.length=x.2
 inn:∀ {s D L x a y},r s D L x=.ok (a,y)->x.1<=8*s.size->y.1<=8*s.size
 lim:∀ {s D L x a y},r s D L x=.ok (a,y)->D<=x.2.length->x.2.length - D<=L->y.2.length - D<=L
 pre:∀ {s s' D L x a y c},Agr s s' c->r s D L x=.ok (a,y)->x.1<=8*s.size->y.1<=8*c->r s' D L x=.ok (a,y)
 cut:∀ {s s' D L x a y},Agr s s' s'.size->r s D L x=.ok (a,y)->x.1<=8*s'.size->8*s'.size<y.1->r s' D L x=.error 6
 less:∀ {s D L x a y L'},r s D L x=.ok (a,y)->D<=x.2.length->x.2.length - D<=L'->r s D L' x=if y.2.length - D<=L' then .ok (a,y) else .error 5
theorem sA{l m k:List UInt8}(b:m.take l.length=l)(d:k.take m.length=m)(h:l.length<=m.length):k.take l.length=l:=
 (by rw[CY,AS h]:k.take l.length=(k.take m.length).take l.length).trans (by rw[d,b])
theorem a9.pur{α:Type}(a:α):a9 (pur a) where
 mono h:=by cases h;exact⟨qR,qR,BK⟩
 inn h g:=by cases h;exact g
 lim h _ g:=by cases h;exact g
 pre _ h _ _:=by cases h;rfl
 cut _ h g1 g2:=by cases h;omega
 less h _ g:=by cases h;rw[A7 g];rfl
theorem a9.fl{α:Type}(e:Nat):a9 (fl e:Rm α) where
 mono h:=by cases h
 inn h:=by cases h
 lim h _:=by cases h
 pre _ h:=by cases h
 cut _ h:=by cases h
 less h _:=by cases h
theorem ay{α β:Type}{r:Rm α}{f:α->Rm β}{s:ByteArray}{D L:Nat}{x z:St}{b:β}(h:bnd r f s D L x=.ok (b,z)):∃a y,r s D L x=.ok (a,y)/\f a s D L y=.ok (b,z):=by
 unfold bnd at h;cases q:r s D L x with
 |error e=>rw[q] at h;cases h
 |ok p=>rw[q] at h;exact⟨p.1,p.2,rfl,h⟩
theorem a8{α β:Type}{r:Rm α}{f:α->Rm β}{s:ByteArray}{D L:Nat}{x y:St}{a:α}(h:r s D L x=.ok (a,y)):bnd r f s D L x=f a s D L y:=by
 unfold bnd;rw[h]
theorem ak{α β:Type}{r:Rm α}{f:α->Rm β}{s:ByteArray}{D L:Nat}{x:St}{e:Nat}(h:r s D L x=.error e):bnd r f s D L x=.error e:=by
 unfold bnd;rw[h]
theorem a9.bnd{α β:Type}{r:Rm α}{f:α->Rm β}(i:a9 r)(hf:∀a,a9 (f a)):a9 (bnd r f) where
 mono h:=by
  obtain⟨a,y,d,e⟩:=ay h;obtain⟨n,l,u⟩:=i.mono d;obtain⟨t,m,o⟩:=(hf a).mono e;exact⟨qK n t,qK l m,sA u o l⟩
 inn h g:=by
  obtain⟨a,y,d,e⟩:=ay h;exact(hf a).inn e (i.inn d g)
 lim h hD g:=by
  obtain⟨a,y,d,e⟩:=ay h;exact(hf a).lim e (qK hD (i.mono d).2.1) (i.lim d hD g)
 pre hg h hx hc:=by
  obtain⟨a,y,d,e⟩:=ay h;have k:=((hf a).mono e).1;rw[a8 (i.pre hg d hx (by omega))];exact(hf a).pre hg e (i.inn d hx) hc
 cut {s s' D L x b z} hg h hx hc:=by
  obtain⟨a,y,d,e⟩:=ay h;have hs:=hg.h1;by_cases q:y.1<=8*s'.size
  · rw[a8 (i.pre hg d (by omega) q)]
    exact(hf a).cut hg e q hc
  · exact ak (i.cut hg d hx (by omega))
 less {s D L x b z L'} h hD hx:=by
  obtain⟨a,y,d,e⟩:=ay h;have k:=((hf a).mono e).2.1;have j:=i.less d hD hx;by_cases q:y.2.length - D<=L'
  · rw[A7 q] at j
    rw[a8 j];exact(hf a).less e (qK hD (i.mono d).2.1) q
  · rw[A0 q] at j
    rw[ak j,A0 (by omega)]
theorem a9.ite{α:Type}{c:Prop}[Decidable c]{r t:Rm α}(b:a9 r)(d:a9 t):a9 (if c then r else t):=by split;exact b;exact d
theorem a9.bits(n:Nat):a9 (bits n) where
 mono h:=by
  unfold I.bits at h
  split at h
  · cases h;exact⟨CD _ _,qR,BK⟩
  · cases h
 inn h g:=by
  unfold I.bits at h
  split at h
  · cases h;assumption
  · cases h
 lim h hD g:=by
  unfold I.bits at h
  split at h
  · cases h;exact g
  · cases h
 pre hg h hx hc:=by
  have b:=hg.h2;unfold I.bits at h ⊢
  split at h
  · cases h
    simp only at hc;rw[A7 (by omega),hg.nb hc]
  · cases h
 cut hg h hx hc:=by
  unfold I.bits at h ⊢
  split at h
  · cases h
    simp only at hc;rw[A0 (by omega)]
  · cases h
 less h hD g:=by
  unfold I.bits at h ⊢
  split at h
  · rename_i q
    cases h;rw[A7 g,A7 q]
  · cases h
theorem cq{l:Nat->Nat}{n:Nat}{s:ByteArray}{D L:Nat}{x y:St}{i:Nat}(h:nxt l n s D L x=.ok (i,y))(d:x.1<=8*s.size):Tbl l n/\i<n/\l i≠0/\x.1+l i<=8*s.size/\nb s x.1 (l i)=rc l n i/\y=(x.1+l i,x.2):=by
 unfold nxt at h
 split at h
 · rename_i b
   split at h
   · rename_i q
     obtain⟨j,e,g,f,m,o⟩:=JD b.fit q d;rw[o] at h;cases h;exact⟨b,e,g,f,m,rfl⟩
   · cases h
 · cases h
theorem Ee{l:Nat->Nat}{n:Nat}{s:ByteArray}{D L:Nat}{x:St}{i:Nat}(b:Tbl l n)(hi:i<n)(e:l i≠0)(d:x.1+l i<=8*s.size)(h:nb s x.1 (l i)=rc l n i):nxt l n s D L x=.ok (i,(x.1+l i,x.2)):=by
 unfold nxt;rw[A7 b,En b.fit hi e d h,A7 rfl]
theorem ma{l:Nat->Nat}{n:Nat}{s:ByteArray}{D L:Nat}{x:St}(h:8*s.size<x.1)(i:Nat)(y:St):nxt l n s D L x=.ok (i,y)->False:=by
 intro q;unfold nxt at q
 split at q
 · rename_i b
   split at q
   · rename_i g
     unfold lok at g;rw[show min 15 (8*s.size - x.1)=0 by omega] at g;rcases eO (l:=l) (n:=n) (X:=nb s x.1 0) (h:=0) b.fit with⟨i,d,f,e,j,h5⟩|h5|h5
     · omega
     · rw[h5] at g;cases g
     · rw[h5] at g;cases g
   · cases q
 · cases q
theorem a9.nxt(l:Nat->Nat)(n:Nat):a9 (nxt l n) where
 mono {s D L x a y} h:=by
  by_cases b:x.1<=8*s.size
  · obtain⟨_,_,_,_,_,rfl⟩:=cq h b
    exact⟨CD _ _,qR,BK⟩
  · exact(ma (by omega) _ _ h).elim
 inn h g:=by
  obtain⟨_,_,_,m,_,rfl⟩:=cq h g;exact m
 lim {s D L x a y} h hD g:=by
  by_cases b:x.1<=8*s.size
  · obtain⟨_,_,_,m,_,rfl⟩:=cq h b
    exact g
  · exact(ma (by omega) _ _ h).elim
 pre hg h b hc:=by
  have q:=hg.h2;obtain⟨d,f,j,o,i,rfl⟩:=cq h b;simp only at hc;exact Ee d f j (by omega) (by rw[<-hg.nb hc];exact i)
 cut {s s' D L x a y} hg h b hc:=by
  have hs:=hg.h1;obtain⟨d,f,j,o,i,rfl⟩:=cq h (by omega);unfold I.nxt;rw[A7 d,GC d f j o i hg b hc];rfl
 less {s D L x a y L'} h hD g:=by
  have e:I.nxt l n s D L' x=I.nxt l n s D L x:=rfl;by_cases b:x.1<=8*s.size
  · rw[e,h]
    obtain⟨_,_,_,_,_,rfl⟩:=cq h b;rw[A7 g]
  · exact(ma (by omega) _ _ h).elim
theorem a9.algn:a9 algn where
 mono {s D L x a y} h:=by cases h;exact⟨by show x.1<=8*((x.1+7) /8);omega,qR,BK⟩
 inn {s D L x a y} h g:=by cases h;show 8*((x.1+7) /8)<=8*s.size;omega
 lim h _ g:=by cases h;exact g
 pre _ h _ _:=by cases h;rfl
 cut {s s' D L x a y} hg h g1 g2:=by
  cases h
  have:8*s'.size<8*((x.1+7) /8):=g2;omega
 less h _ g:=by cases h;rw[A7 g];rfl
theorem rm{s:ByteArray}{p n:Nat}(h:p+n<=s.size):(byt s p n).length=n:=by
 have:=ai s;unfold byt;rw[Af,AF];omega
theorem a9.byts(n:Nat):a9 (byts n) where
 mono {s D L x a y} h:=by
  unfold I.byts at h
  split at h
  · cases h;exact⟨by show x.1<=8*((x.1+7) /8+n);omega,qR,BK⟩
  · cases h
 inn {s D L x a y} h g:=by
  unfold I.byts at h
  split at h
  · cases h;show 8*((x.1+7) /8+n)<=8*s.size;omega
  · cases h
 lim h hD g:=by
  unfold I.byts at h
  split at h
  · cases h;exact g
  · cases h
 pre hg h hx hc:=by
  have b:=hg.h2;unfold I.byts at h ⊢
  split at h
  · cases h
    simp only at hc;rw[A7 (by omega),hg.byt (by omega)]
  · cases h
 cut hg h hx hc:=by
  unfold I.byts at h ⊢
  split at h
  · cases h
    simp only at hc;rw[A0 (by omega)]
  · cases h
 less h hD g:=by
  unfold I.byts at h ⊢
  split at h
  · rename_i q
    cases h;rw[A7 g,A7 q]
  · cases h
theorem a9.app(l:List UInt8):a9 (app l) where
 mono h:=by
  unfold I.app at h
  split at h
  · cases h
  · cases h;exact⟨qR,by simp,by simp⟩
 inn h g:=by
  unfold I.app at h
  split at h
  · cases h
  · cases h;exact g
 lim {s D L x a y} h hD g:=by
  unfold I.app at h
  split at h
  · cases h
  · cases h;simp only[qA];omega
 pre hg h hx hc:=by
  unfold I.app at h ⊢
  split at h
  · cases h
  · rename_i q
    cases h;rw[A0 q]
 cut hg h hx hc:=by
  unfold I.app at h
  split at h
  · cases h
  · cases h;simp only at hc;omega
 less {s D L x a y L'} h hD g:=by
  unfold I.app at h ⊢
  split at h
  · cases h
  · cases h
    simp only[qA];by_cases q:L'<x.2.length - D+l.length
    · rw[A7 q,A0 (by omega)]
    · rw[A0 q]
      by_cases b:x.2.length+l.length - D<=L'
      · rw[A7 b]
      · exfalso;omega
theorem uU(b:List UInt8)(d:Nat):∀k,(gr b d k).take b.length=b
 |0=>BK
 |k+1=>by
  rw[gr,CO (by rw[aJ];omega),uU b d k]
theorem a9.copy(t k:Nat):a9 (copy t k) where
 mono h:=by
  unfold I.copy at h
  split at h
  · cases h
  · split at h
    · cases h
    · cases h;exact⟨qR,by simp only[aJ];omega,uU _ _ _⟩
 inn h g:=by
  unfold I.copy at h
  split at h
  · cases h
  · split at h
    · cases h
    · cases h;exact g
 lim {s D L x a y} h hD g:=by
  unfold I.copy at h
  split at h
  · cases h
  · split at h
    · cases h
    · cases h;simp only[aJ];omega
 pre hg h hx hc:=by
  unfold I.copy at h ⊢
  split at h
  · cases h
  · split at h
    · cases h
    · rename_i b d
      cases h;rw[A0 b,A0 d]
 cut hg h hx hc:=by
  unfold I.copy at h
  split at h
  · cases h
  · split at h
    · cases h
    · cases h;simp only at hc;omega
 less {s D L x a y L'} h hD g:=by
  unfold I.copy at h ⊢
  split at h
  · cases h
  · rename_i b
    split at h
    · cases h
    · cases h
      rw[A0 b];simp only[aJ];by_cases q:L'<x.2.length - D+k
      · rw[A7 q,A0 (by omega)]
      · rw[A0 q,A7 (by omega)]
theorem a9.loopR{α β:Type}{f:α->Rm (α ⊕ β)}(hf:∀a,a9 (f a)):∀k a,a9 (loopR f k a)
 |0,_=>a9.fl 0
 |k+1,a=>a9.bnd (hf a) λr=>match r with
  |.inl a=>a9.loopR hf k a
  |.inr b=>a9.pur b
theorem a9.lenR(y:Nat):a9 (lenR y):=a9.bnd (a9.bits _) λ_=>a9.ite (a9.fl _) (a9.pur _)
theorem a9.dstR(y:Nat):a9 (dstR y):=a9.bnd (a9.bits _) λ_=>a9.ite (a9.fl _) (a9.pur _)
theorem a9.matR(y:Nat)(d:Nat->Nat)(m:Nat):a9 (matR y d m):=a9.bnd (a9.lenR _) λ_=>a9.bnd (a9.nxt _ _) λ_=>a9.bnd (a9.dstR _) λ_=>a9.bnd (a9.copy _ _) λ_=>a9.pur _
theorem a9.sym1(l:Nat->Nat)(n:Nat)(d:Nat->Nat)(m:Nat)(u:Unit):a9 (sym1 l n d m u):=
 a9.bnd (a9.nxt _ _) λ_=>a9.ite (a9.bnd (a9.app _) λ_=>a9.pur _) (a9.ite (a9.pur _) (a9.matR _ _ _))
theorem a9.syms(K:Nat)(l:Nat->Nat)(n:Nat)(d:Nat->Nat)(m:Nat):a9 (syms K l n d m):=a9.loopR (a9.sym1 l n d m) _ _
theorem a9.stor:a9 stor:=a9.bnd a9.algn λ_=>a9.bnd (a9.bits _) λ_=>a9.bnd (a9.bits _) λ_=>a9.ite (a9.fl _) (a9.bnd (a9.byts _) λ_=>a9.app _)
theorem a9.ownR:∀k i g,a9 (ownR k i g)
 |0,_,_=>a9.pur _
 |k+1,i,g=>a9.bnd (a9.bits _) λ_=>a9.ownR k _ _
theorem a9.len1(l:Nat->Nat)(N:Nat)(all:List Nat):a9 (len1 l N all):=
 a9.ite (a9.pur _) (a9.bnd (a9.nxt _ _) λ_=>a9.bnd (a9.bits _) λ_=>a9.ite (a9.fl _) (a9.pur _))
theorem a9.tabR(all:List Nat)(a b:Nat):a9 (tabR all a b):=a9.ite (a9.fl _) (a9.pur _)
theorem a9.dyn(K:Nat):a9 (dyn K):=
 a9.bnd (a9.bits _) λ_=>a9.bnd (a9.bits _) λ_=>a9.bnd (a9.bits _) λ_=>a9.ite (a9.fl _) (a9.bnd (a9.ownR _ _ _) λ_=>a9.ite (a9.fl _) (a9.bnd (a9.loopR (a9.len1 _ _) _ _) λ_=>a9.tabR _ _ _))
theorem a9.body(K k:Nat):a9 (body K k):=a9.ite a9.stor (a9.ite (a9.syms _ _ _ _ _) (a9.ite (a9.bnd (a9.dyn K) λ_=>a9.syms _ _ _ _ _) (a9.fl _)))
theorem a9.blk(K:Nat)(u:Unit):a9 (blk K u):=a9.bnd (a9.bits _) λ_=>a9.bnd (a9.bits _) λ_=>a9.bnd (a9.body K _) λ_=>a9.pur _
theorem a9.inf(K:Nat):a9 (inf K):=a9.loopR (a9.blk K) _ _
theorem ans_ok{r:Except Nat (Unit×St)}{D:Nat}(h:(ans r D).2.2=0)(b:r≠.error 0):∃y,r=.ok ((),y):=by
 cases r with
 |ok p=>exact⟨p.2,rfl⟩
 |error e=>
  have:e=0:=h;subst this;exact absurd rfl b
theorem ans_yes(y:St)(D:Nat):ans (.ok ((),y)) D=(y.2.drop D,(y.1+7) /8,0):=rfl
theorem inf_bounds{K D L:Nat}{s:ByteArray}{d:List UInt8}{y:St}(f:d.length=D)(h:inf K s D L (0,d)=.ok ((),y)):(y.2.drop D).length<=L/\(y.1+7) /8<=s.size/\y.2.take D=d:=by
 have e:=(a9.inf K).lim h (by simp only;omega) (by simp only;omega);have i:=(a9.inf K).inn h qZ;obtain⟨_,g,b⟩:=(a9.inf K).mono h;simp only at g b;rw[AF];rw[f] at b;exact⟨e,by omega,b⟩
theorem rF{s t b:ByteArray}{n:Nat}(i:n<=s.size)(e:t=s.extract 0 n++b):Agr s t n/\n<=t.size:=by
 have d:t.data.toList=s.data.toList.take n++b.data.toList:=by
  subst e;simp
 have hs:=ai s;have h:=ai t;have g:(s.data.toList.take n).length=n:=(by rw[Af];omega);have f:n<=t.size:=(by rw[<-h,d,qA,g];omega);refine⟨⟨i,f,?_⟩,f⟩;rw[d,CO (by omega),Aj (CH g)]
theorem inf_more{K D L L' n:Nat}{s t b:ByteArray}{d:List UInt8}{y:St}(i:d.length=D)(h:inf K s D L (0,d)=.ok ((),y))(o:L<=L')(q:(y.1+7) /8=n)(e:t=s.extract 0 n++b):inf K t D L' (0,d)=.ok ((),y):=by
 have f:=inf_bounds i h;obtain⟨g,_⟩:=rF (b:=b) (show n<=s.size by omega) e;have l:=(a9.inf K).pre g h qZ (by omega);have j:=(a9.inf K).less (L':=L') l (by simp only;omega) (by simp only;omega);have m:=f.1;rw[AF] at m
 rwa [A7 (by omega)] at j
theorem inf_cut{K D L c:Nat}{s t:ByteArray}{d:List UInt8}{y:St}(i:d.length=D)(h:inf K s D L (0,d)=.ok ((),y))(l:(y.1+7) /8=s.size)(j:c<s.size)(e:t=s.extract 0 c):inf K t D L (0,d)=.error 6:=by
 have b:t.size=c:=(by rw[e,Ae];omega);have g:t.data.toList=s.data.toList.take c:=(by subst e;simp);have f:Agr s t t.size:=⟨by omega,qR,by rw[b,g,CY,Nat.min_self]⟩;exact(a9.inf K).cut f h qZ (by rw[b];omega)
theorem cu{α β:Type}{f:α->Rm (α ⊕ β)}{k:Nat}{a a':α}{s:ByteArray}{D L:Nat}{x y:St}(h:f a s D L x=.ok (.inl a',y)):loopR f (k+1) a s D L x=loopR f k a' s D L y:=by
 rw[loopR,a8 h]
theorem aR{α β:Type}{f:α->Rm (α ⊕ β)}{k:Nat}{a:α}{b:β}{s:ByteArray}{D L:Nat}{x y:St}(h:f a s D L x=.ok (.inr b,y)):loopR f (k+1) a s D L x=.ok (b,y):=by
 rw[loopR,a8 h];rfl
theorem bI{α β:Type}{f:α->Rm (α ⊕ β)}{k:Nat}{a:α}{e:Nat}{s:ByteArray}{D L:Nat}{x:St}(h:f a s D L x=.error e):loopR f (k+1) a s D L x=.error e:=by
 rw[loopR,ak h]
def Nz{α:Type}(s:ByteArray)(r:Rm α):Prop:=∀D L x,x.1<=8*s.size->r s D L x≠.error 0
section
variable {s:ByteArray}
theorem Nz.bnd{α β:Type}{r:Rm α}{f:α->Rm β}(d:Nz s r)(g:a9 r)(hf:∀D L x a y,x.1<=8*s.size->y.1<=8*s.size->r s D L x=.ok (a,y)->f a s D L y≠.error 0):Nz s (bnd r f):=λD L x b=>by
 cases q:r s D L x with
 |error e=>
  rw[ak q];intro h;exact d D L x b (by rw[q];injection h with h;rw[h])
 |ok p=>rw[a8 (a:=p.1) (y:=p.2) q];exact hf D L x p.1 p.2 b (g.inn (a:=p.1) (y:=p.2) q b) q
theorem Nz.bind{α β:Type}{r:Rm α}{f:α->Rm β}(b:Nz s r)(d:a9 r)(hf:∀a,Nz s (f a)):Nz s (I.bnd r f):=b.bnd d λD L x a y _ e _=>hf a D L y e
theorem Nz.pur{α:Type}(a:α):Nz s (pur a):=λ_ _ _ _ h=>by cases h
theorem Nz.fl{α:Type}(e:Nat)(b:e≠0):Nz s (fl e:Rm α):=λ_ _ _ _ h=>by injection h with h;exact b h
theorem Nz.ite{α:Type}{c:Prop}[Decidable c]{r t:Rm α}(b:Nz s r)(d:Nz s t):Nz s (if c then r else t):=by split;exact b;exact d
theorem Nz.bits(n:Nat):Nz s (bits n):=λD L x _ h=>by
 unfold I.bits at h
 split at h<;>cases h
theorem Nz.nxt{l:Nat->Nat}{n:Nat}(b:Tbl l n):Nz s (nxt l n):=λD L x _ h=>by
 unfold I.nxt at h;rw[A7 b] at h
 split at h
 · cases h
 · rename_i q
   injection h with h
   split at h
   · cases h
   · exact q h
theorem Nz.algn:Nz s algn:=λ_ _ _ _ h=>by cases h
theorem Nz.byts(n:Nat):Nz s (byts n):=λD L x _ h=>by
 unfold I.byts at h
 split at h<;>cases h
theorem Nz.app(l:List UInt8):Nz s (app l):=λD L x _ h=>by
 unfold I.app at h
 split at h<;>cases h
theorem Nz.copy(t k:Nat):Nz s (copy t k):=λD L x _ h=>by
 unfold I.copy at h
 split at h
 · cases h
 · split at h<;>cases h
theorem jc{α β:Type}{f:α->Rm (α ⊕ β)}(d:∀a,Nz s (f a))(g:∀a D L x a' y,x.1<=8*s.size->f a s D L x=.ok (.inl a',y)->x.1<y.1/\y.1<=8*s.size):
 ∀ (k:Nat) (a:α) (D L:Nat) (x:St),x.1<=8*s.size->8*s.size - x.1<k->loopR f k a s D L x≠.error 0
 |0,a,D,L,x,hx,hk=>by omega
 |k+1,a,D,L,x,hx,hk=>by
  cases q:f a s D L x with
  |error e=>
   rw[bI q];intro h;exact d a D L x hx (by rw[q];injection h with h;rw[h])
  |ok p=>
   obtain⟨r,y⟩:=p;cases r with
   |inl a'=>
    obtain⟨j,i⟩:=g a D L x a' y hx q;rw[cu q];exact jc d g k a' D L y i (by omega)
   |inr b=>rw[aR q];intro h;cases h
theorem Nz.lenR(y:Nat):Nz s (lenR y):=(Nz.bits _).bind (a9.bits _) λ_=>Nz.ite (Nz.fl _ (by decide)) (Nz.pur _)
theorem Nz.dstR(y:Nat):Nz s (dstR y):=(Nz.bits _).bind (a9.bits _) λ_=>Nz.ite (Nz.fl _ (by decide)) (Nz.pur _)
variable {l d:Nat->Nat} {n m:Nat}
theorem Nz.matR(y:Nat)(b:Tbl d m):Nz s (matR y d m):=
 (Nz.lenR y).bind (a9.lenR y) λ_=>(Nz.nxt b).bind (a9.nxt _ _) λ_=>(Nz.dstR _).bind (a9.dstR _) λ_=>(Nz.copy _ _).bind (a9.copy _ _) λ_=>Nz.pur _
theorem Nz.sym1(e:Tbl l n)(b:Tbl d m)(u:Unit):Nz s (sym1 l n d m u):=
 (Nz.nxt e).bind (a9.nxt _ _) λ_=>Nz.ite ((Nz.app _).bind (a9.app _) λ_=>Nz.pur _) (Nz.ite (Nz.pur _) (Nz.matR _ b))
theorem xf{D L:Nat}{x y:St}{u:Unit}{r:Unit ⊕ Unit}(h:sym1 l n d m u s D L x=.ok (r,y))(e:x.1<=8*s.size):x.1<y.1/\y.1<=8*s.size:=by
 have b:=(a9.sym1 l n d m u).inn h e;unfold I.sym1 at h;obtain⟨i,o,g,j⟩:=ay h;obtain⟨_,_,q,_,_,rfl⟩:=cq g e
 have f:a9 (if i<256 then I.bnd (I.app [UInt8.ofNat i]) λ_=>I.pur (Sum.inl ()) else if i=256 then I.pur (Sum.inr ()) else I.matR i d m:Rm (Unit ⊕ Unit)):=
  a9.ite ((a9.app _).bnd λ_=>a9.pur _) (a9.ite (a9.pur _) (a9.matR _ _ _))
 have:=(f.mono j).1;simp only at this;exact⟨by omega,b⟩
theorem Nz.syms{K:Nat}(g:Tbl l n)(e:Tbl d m)(i:8*s.size<K):Nz s (syms K l n d m):=λD L x b=>
 jc (f:=I.sym1 l n d m) (λu=>Nz.sym1 g e u) (λu D L x a y b h=>xf h b) K () D L x b (by omega)
theorem Nz.stor:Nz s stor:=Nz.algn.bind a9.algn λ_=>(Nz.bits _).bind (a9.bits _) λ_=>(Nz.bits _).bind (a9.bits _) λ_=>Nz.ite (Nz.fl _ (by decide)) ((Nz.byts _).bind (a9.byts _) λ_=>Nz.app _)
theorem Nz.ownR:∀ (k i:Nat) (g:Nat->Nat),Nz s (ownR k i g)
 |0,_,g=>Nz.pur g
 |k+1,i,g=>(Nz.bits _).bind (a9.bits _) λx=>Nz.ownR k (i+1) _
theorem Nz.len1{N:Nat}(b:Tbl l 19)(all:List Nat):Nz s (len1 l N all):=
 Nz.ite (Nz.pur _) ((Nz.nxt b).bind (a9.nxt _ _) λ_=>(Nz.bits _).bind (a9.bits _) λ_=>Nz.ite (Nz.fl _ (by decide)) (Nz.pur _))
theorem yG{N D L:Nat}{all b:List Nat}{x y:St}(h:len1 l N all s D L x=.ok (.inl b,y))(j:x.1<=8*s.size):x.1<y.1/\y.1<=8*s.size:=by
 have f:=(a9.len1 l N all).inn h j;unfold I.len1 at h
 split at h
 · cases h
 · obtain⟨i,u,q,t⟩:=ay h
   obtain⟨_,_,v,_,_,rfl⟩:=cq q j;obtain⟨e,z,r,g⟩:=ay t;have o:=((a9.bits _).mono r).1;simp only at o
   split at g
   · cases g
   · cases g
     exact⟨by omega,f⟩
theorem Fx{all:List Nat}{a b D L:Nat}{x y:St}{t:List Nat×Nat×Nat}(h:tabR all a b s D L x=.ok (t,y)):Tbl (lit t.1) t.2.1/\Tbl (dis t.1 t.2.1) t.2.2:=by
 unfold tabR at h
 split at h
 · cases h
 · rename_i q
   cases h
   exact⟨Classical.byContradiction λe=>q (.inr (.inl e)),Classical.byContradiction λe=>q (.inr (.inr e))⟩
theorem Nz.tabR(all:List Nat)(a b:Nat):Nz s (tabR all a b):=Nz.ite (Nz.fl _ (by decide)) (Nz.pur _)
theorem Nz.dyn{K:Nat}(i:8*s.size<K):Nz s (dyn K):=
 (Nz.bits _).bind (a9.bits _) λa=>(Nz.bits _).bind (a9.bits _) λb=>(Nz.bits _).bind (a9.bits _) λk=>Nz.ite (Nz.fl _ (by decide)) ((Nz.ownR _ _ _).bind (a9.ownR _ _ _) λo=>by
  by_cases f:kind o 19≠2
  · rw[A7 f];exact Nz.fl _ (by decide)
  · rw[A0 f]
    have g:Tbl o 19:=.inr (.inr (Classical.byContradiction f));refine Nz.bind (λD L x e=> ?_) (a9.loopR (λa=>a9.len1 _ _ a) _ _) λ_=>Nz.tabR _ _ _
    exact jc (λall=>Nz.len1 g all) (λall D L x a y e h=>yG h e) K [] D L x e (by omega))
theorem JV{K D L:Nat}{x y:St}{t:List Nat×Nat×Nat}(h:dyn K s D L x=.ok (t,y)):Tbl (lit t.1) t.2.1/\Tbl (dis t.1 t.2.1) t.2.2:=by
 unfold dyn at h;obtain⟨a,r,u,i⟩:=ay h;obtain⟨b,F,z,j⟩:=ay i;obtain⟨k,q,G,g⟩:=ay j
 split at g
 · cases g
 · obtain⟨o,v,A,e⟩:=ay g
   split at e
   · cases e
   · obtain⟨all,C,E,f⟩:=ay e
     exact Fx f
theorem Nz.body{K:Nat}(b:8*s.size<K)(k:Nat):Nz s (body K k):=by
 unfold I.body;refine Nz.ite Nz.stor (Nz.ite (Nz.syms (by decide+kernel) (by decide+kernel) b) (Nz.ite ((Nz.dyn b).bnd (a9.dyn K) ?_) (Nz.fl _ (by decide))));intro D L x t y i e h;obtain⟨f,g⟩:=JV h;exact Nz.syms f g b D L y e
theorem Nz.blk{K:Nat}(b:8*s.size<K)(u:Unit):Nz s (blk K u):=
 (Nz.bits _).bind (a9.bits _) λ_=>(Nz.bits _).bind (a9.bits _) λ_=>(Nz.body b _).bind (a9.body _ _) λ_=>Nz.pur _
theorem If{K D L:Nat}{x y:St}{u:Unit}{b:Unit ⊕ Unit}(h:blk K u s D L x=.ok (b,y))(i:x.1<=8*s.size):x.1<y.1/\y.1<=8*s.size:=by
 have g:=(a9.blk K u).inn h i;unfold I.blk at h;obtain⟨f,E,j,q⟩:=ay h;obtain⟨k,F,e,t⟩:=ay q;obtain⟨v,A,z,r⟩:=ay t;have C:=((a9.bits 1).mono j).1;have o:=((a9.body K k).mono z).1;unfold I.bits at e
 split at e
 · cases e
   cases r
   simp only at o;exact⟨by omega,g⟩
 · cases e
theorem inf_nz{K D L:Nat}{x:St}(e:8*s.size<K)(b:x.1<=8*s.size):inf K s D L x≠.error 0:=
 jc (f:=I.blk K) (λu=>Nz.blk e u) (λu D L x a y b h=>If h b) K () D L x b (by omega)
end
end I
namespace Z
open Go M
def at8(s:ByteArray)(i:Nat):Nat:=(s.data.toList.getD i 0).toNat
theorem fX(s:ByteArray)(i:Nat):at8 s i<256:=UInt8.toNat_lt _
theorem mZ(s:ByteArray)(i:Nat)(h:i<s.size):s[i].toNat=at8 s i:=by
 unfold at8;have b:i<s.data.toList.length:=(by rw[As];exact h);rw[List.getD,qE b];rfl
def sa(s:ByteArray)(o:Nat):Nat->Nat
 |0=>0
 |j+1=>sa s o j*256+at8 s (o+j)
theorem FR(s:ByteArray)(o:Nat):∀j,sa s o j<256^j
 |0=>by show 0<256^0;decide
 |j+1=>by
  have b:=FR s o j;have e:=fX s (o+j);rw[sa,AN];omega
def sb(n:Nat):ByteArray:=⟨#[UInt8.ofNat (n/16777216),UInt8.ofNat (n/65536%256),UInt8.ofNat (n/256%256),UInt8.ofNat (n%256)]⟩
theorem bU(s:ByteArray)(o:Nat):sa s o 4=at8 s o*16777216+at8 s (o+1)*65536+at8 s (o+2)*256+at8 s (o+3):=by
 simp only[sa,AI];omega
def may(a b:Nat):Prop:=a%16=8/\a/16<=7/\(a*256+b)%31=0
instance (a b:Nat):Decidable (may a b):=inferInstanceAs (Decidable (_/\_/\_))
def dct(s:ByteArray):Nat×Bool×Nat:=
 if s.size<2 then(0,false,6) else if ¬may (at8 s 0) (at8 s 1) then(0,false,170) else if at8 s 1/32%2=0 then(0,false,0) else if s.size<6 then(0,false,6) else(sa s 2 4,true,0)
def ahd(s:ByteArray):Nat:=if(dct s).2.1=true then 6 else 2
def dic(d s:ByteArray):ByteArray:=if(dct s).2.1=true then d else⟨#[]⟩
noncomputable def rdt(d s:ByteArray)(r:List UInt8×Nat×Nat):ByteArray×Nat×Nat:=
 if r.2.2≠0 then(⟨#[]⟩,0,r.2.2) else if s.size<ahd s+r.2.1+4 then(⟨#[]⟩,0,6) else if sa s (ahd s+r.2.1) 4≠adl 1 ⟨r.1.toArray⟩ then(⟨#[]⟩,0,172) else(⟨r.1.toArray⟩,ahd s+r.2.1+4,0)
noncomputable def rdz(d s:ByteArray)(r:List UInt8×Nat×Nat):ByteArray×Nat×Nat:=
 if(dct s).2.2≠0 then(⟨#[]⟩,0,(dct s).2.2) else if(dct s).2.1=true/\(dct s).1≠adl 1 d then(⟨#[]⟩,0,171) else rdt d s r
