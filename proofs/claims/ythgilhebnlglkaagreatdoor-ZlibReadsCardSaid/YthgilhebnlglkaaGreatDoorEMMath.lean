import Derived.Lib.AppendStr
import Derived.Test.YthgilhebnlglkaaGreatDoorEMMathT
import Derived.BigQuiet
set_option linter.all false
set_option maxHeartbeats 8000000
set_option maxRecDepth 1000000
open Go.Proofs.Tryz
namespace Go.Proofs.YthgilhebnlglkaaGreatDoor.M
open Go
def big:Nat:=18446744073709551616
def mk(k:Nat):Nat:=2^k - 1
def rv(n:Nat):Nat->Nat
 |0=>0
 |k+1=>2*rv n k+n/2^k%2
def up(n to:Int):Int:=if n<1\/to<1 then 0 else if 4611686018427387904<((n - 1) /to+1)*to then 0 else((n - 1) /to+1)*to
def le(n:Nat):Nat->List UInt8
 |0=> []
 |k+1=>UInt8.ofNat (n%256)::le (n/256) k
def vl:List UInt8->Nat
 |[]=>0
 |b::r=>b.toNat+256*vl r
theorem z4o(n k:Nat):rv n k<2^k:=by
 induction k with
 |zero=>simp[rv]
 |succ k ih=>simp only[rv,Nat.pow_succ];omega
theorem zhx(n k:Nat):n/2^k/2=n/2^(k+1):=by rw[Nat.div_div_eq_div_mul,Nat.pow_succ]
theorem z9c(n k:Nat):n/256^k/256=n/256^(k+1):=by rw[Nat.div_div_eq_div_mul,Nat.pow_succ]
theorem z6X(a:Nat):IntKind.u64.wrap (a:Int)=((a%18446744073709551616:Nat):Int):=by rw[IntKind.wrap_u64];omega
theorem z1v(a:Nat)(h:a<18446744073709551616):IntKind.u64.wrap (a:Int)=(a:Int):=by rw[z6X];congr 1;omega
theorem z7t{k:Nat}(h:k<=64):2^k<=18446744073709551616:=by
 have:=Nat.pow_le_pow_right (n:=2) (by decide) h
 simpa using this
theorem z7s{k:Nat}(h:k<64):2*2^k<=18446744073709551616:=by
 have:=Nat.pow_le_pow_right (n:=2) (by decide) h;rw[Nat.pow_succ] at this;omega
theorem z0Z(k:Nat):(2:Int)^k=((2^k:Nat):Int):=by simp
theorem zdK(m:Nat)(h:m<=64):IntKind.u64.wrap (IntKind.u64.wrap (2^m) - 1)=(mk m:Int):=by
 unfold mk;rw[z0Z,z6X];have hp:0<2^m:=Nat.two_pow_pos m;by_cases h4:m=64
 · subst h4;decide
 · have h5:=z7s (show m<64 by omega)
   rw[Nat.mod_eq_of_lt (by omega),IntKind.wrap_u64];omega
theorem zk4(k:Nat):mk k<2^k:=by
 unfold mk;have:=Nat.two_pow_pos k;omega
theorem zhT(a:Nat):a&&&1=a%2:=by
 simp
theorem or_bit(t b:Nat)(hb:b<2):2*t|||b=2*t+b:=by
 have:=Nat.two_pow_add_eq_or_of_lt (i:=1) (b:=b) (by simpa using hb) t
 simpa using this.symm
theorem z9I(n k:Nat)(hn:n<18446744073709551616)(hk:k<64):
 bits .or .u64 (IntKind.u64.wrap ((rv n k:Int)*2)) (bits .and .u64 ((n/2^k:Nat):Int) 1)=(rv n (k+1):Int):=by
 have h1:=z4o n k;have h2:=z7s hk;have h3:n/2^k<=n:=Nat.div_le_self _ _;have e1:IntKind.u64.wrap ((rv n k:Int)*2)=((2*rv n k:Nat):Int):=by
  rw[show((rv n k:Int)*2)=((2*rv n k:Nat):Int) by omega];exact z1v _ (by omega)
 have e2:bits .and .u64 ((n/2^k:Nat):Int) 1=((n/2^k%2:Nat):Int):=by
  have:=bits_and_u64_nat (n/2^k) 1 (by omega) (by decide);rw[zhT] at this;exact this
 rw[e1,e2,bits_or_u64_nat _ _ (by omega) (by omega),or_bit _ _ (by omega)];rfl
theorem z3N(n k:Nat)(hn:n<big)(hk:k<64):
 bits .or .u64 (IntKind.u64.wrap ((rv n k:Int)*2)) (bits .and .u64 ((n:Int) /2^k) 1)=(rv n (k+1):Int):=by
 have h:=z9I n k hn hk;rw[Int.natCast_ediv,Int.natCast_pow] at h;exact h
theorem z82(n k:Nat):(n:Int) /2^k/2=(n:Int) /2^(k+1):=by
 rw[z0Z,z0Z,<-Int.natCast_ediv,<-Int.natCast_ediv,<-zhx];rfl
theorem z2Q(n to:Int)(hn:1<=n)(ht:1<=to):0<=((n - 1) /to+1)*to/\((n - 1) /to+1)*to<=n - 1+to:=by
 have h1:=Int.ediv_mul_le (n - 1) (show to≠0 by omega);have h2:0<=(n - 1) /to:=Int.ediv_nonneg (by omega) (by omega);rw[Int.add_mul,Int.one_mul];refine⟨?_,by omega⟩;have h3:=Int.mul_nonneg h2 (show 0<=to by omega);omega
theorem zga(n to:Int)(h1:1<=n)(h2:1<=to)(h3:n<=9223372036854775807)(h4:to<=9223372036854775807):
 IntKind.u64.wrap (IntKind.u64.wrap ((n - 1) /to+1)*to)=((n - 1) /to+1)*to:=by
 have hq:=z2Q n to h1 h2;have h5:0<=(n - 1) /to:=Int.ediv_nonneg (by omega) (by omega);have h6:(n - 1) /to<=n - 1:=Int.ediv_le_self _ (by omega);rw[IntWalk.u64_in ((n - 1) /to+1) ⟨by omega,by omega⟩,IntWalk.u64_in _ ⟨by omega,by omega⟩]
def zhJ(l:List UInt8):ByteArray:=⟨l.toArray⟩
theorem le_length(n k:Nat):(le n k).length=k:=by
 induction k generalizing n with
 |zero=>rfl
 |succ k ih=>simp[le,ih]
theorem zj2(n k:Nat):le n k=(List.range k).map λj=>UInt8.ofNat (n/256^j%256):=by
 induction k generalizing n with
 |zero=>rfl
 |succ k ih=>
  rw[le,ih,List.range_succ_eq_map,List.map_cons,List.map_map];congr 1
  · simp
  · apply List.map_congr_left
    intro j _;simp only[Function.comp];rw[Nat.div_div_eq_div_mul,Nat.pow_succ',Nat.mul_comm]
theorem z99(ns:List Int)(s:ByteArray):ns.foldl (λr n=>r.push (UInt8.ofNat n.toNat)) s=⟨(s.data.toList++ns.map λn=>UInt8.ofNat n.toNat).toArray⟩:=by
 induction ns generalizing s with
 |nil=>simp
 |cons n ns ih=>
  rw[List.foldl_cons,ih];simp[ByteArray.push]
theorem zjP(l:List UInt8):vl l<256^l.length:=by
 induction l with
 |nil=>simp[vl]
 |cons x l ih=>
  have:=x.toNat_lt;simp only[vl,qC,Nat.pow_succ];omega
theorem z09(s:ByteArray):s.data.toList.length=s.size:=by rw[Array.length_toList];rfl
theorem zhF(s:ByteArray)(i:Nat)(h:i<s.size):s.data.toList[i]'(by rw[z09];exact h)=s[i]:=by
 rw[Array.getElem_toList];rfl
theorem zaO(x b i:Nat)(h:x<2^i):x|||b*2^i=x+2^i*b:=by
 have:=Nat.two_pow_add_eq_or_of_lt h b;rw[Nat.or_comm,Nat.mul_comm b,<-this,Nat.add_comm]
def bys(N k:Nat):List Int:=(List.range k).map λj=>((N/256^j%256:Nat):Int)
theorem z9e(N k:Nat):(bys N k).length=k:=by simp[bys]
theorem zfP(N k:Nat):(bys N k).map (λn=>UInt8.ofNat n.toNat)=le N k:=by
 rw[zj2];unfold bys;rw[List.map_map];apply List.map_congr_left;intro j _;simp only[Function.comp];rw[Int.toNat_natCast]
theorem zgu(k:Nat):rv 0 k=0:=by
 induction k with
 |zero=>rfl
 |succ k ih=>simp[rv,ih]
theorem z2t(n a b:Nat):rv n (a+b)=rv n a*2^b+rv (n/2^a) b:=by
 induction b with
 |zero=>simp[rv]
 |succ b ih=>
  show 2*rv n (a+b)+n/2^(a+b)%2=rv n a*2^(b+1)+(2*rv (n/2^a) b+n/2^a/2^b%2)
  rw[ih,Nat.div_div_eq_div_mul,<-Nat.pow_add,Nat.pow_succ,Nat.mul_add];have:2*(rv n a*2^b)=rv n a*(2^b*2):=(by rw[Nat.mul_comm (2^b) 2,<-Nat.mul_assoc,<-Nat.mul_assoc,Nat.mul_comm 2]);omega
theorem z7i(m k:Nat):rv m (k+1)=m%2*2^k+rv (m/2) k:=by
 have:=z2t m 1 k;rw[Nat.add_comm 1 k] at this
 simpa [rv] using this
theorem mod_pow_succ(n k:Nat):n%2^(k+1)=n%2^k+2^k*(n/2^k%2):=by
 rw[Nat.pow_succ,Nat.mod_mul]
theorem zd4(n k:Nat):rv (rv n k) k=n%2^k:=by
 induction k with
 |zero=>simp[rv,Nat.mod_one]
 |succ k ih=>
  rw[z7i];have e1:rv n (k+1)%2=n/2^k%2:=(by simp only[rv];omega);have e2:rv n (k+1) /2=rv n k:=(by simp only[rv];omega);rw[e1,e2,ih,mod_pow_succ,Nat.mul_comm];omega
theorem zf9(n k m:Nat)(h:k<=m):rv (n%2^m) k=rv n k:=by
 induction k with
 |zero=>rfl
 |succ k ih=>
  simp only[rv];rw[ih (by omega)];congr 1;have h1:=Nat.testBit_mod_two_pow n m k;rw[Nat.testBit_eq_decide_div_mod_eq,Nat.testBit_eq_decide_div_mod_eq] at h1;have h2:k<m:=(by omega);simp only[h2,decide_true,Bool.true_and,decide_eq_decide] at h1;omega
theorem zjp(n k:Nat):n&&&mk k=n%2^k:=Nat.and_two_pow_sub_one_eq_mod n k
theorem ziO(k:Nat)(h:k<=64):mk k<big:=by
 have h1:=zk4 k;have h2:=z7t h;unfold big;omega
theorem z2K(n k:Nat)(hn:n<big)(hk:k<=64):bits .and .u64 (n:Int) (mk k:Int)=((n%2^k:Nat):Int):=by
 rw[bits_and_u64_nat n (mk k) hn (ziO k hk),zjp]
theorem z70(n to:Int):0<=up n to/\up n to<=4611686018427387904:=by
 unfold up
 split
 · omega
 · rename_i h
   have g:=z2Q n to (by omega) (by omega)
   split<;>omega
theorem bstr_size(l:List UInt8):(zhJ l).size=l.length:=by simp[zhJ,ByteArray.size]
def z4U(most:Int)(V L N:Nat)(size:Int):Int×Nat×Nat:=
 if 0<=size/\size<=56/\N<2^size.toNat then
  if(((L+size.toNat+7) /8:Nat):Int)<=most then(0,V+N*2^L,L+size.toNat) else(4,V,L)
 else(2,V,L)
def z1y(V L:Nat):ByteArray:=zhJ (le V ((L+7) /8))
theorem z3n{most:Int}{V L N s:Nat}(h1:s<=56)(h2:N<2^s)(h3:(((L+s+7) /8:Nat):Int)<=most):z4U most V L N s=(0,V+N*2^L,L+s):=by
 unfold z4U;rw[if_pos ⟨by omega,by omega,by simpa using h2⟩,Int.toNat_natCast,if_pos h3]
theorem z2f{most:Int}{V L N s:Nat}(h1:s<=56)(h2:N<2^s)(h3:¬(((L+s+7) /8:Nat):Int)<=most):z4U most V L N s=(4,V,L):=by
 unfold z4U;rw[if_pos ⟨by omega,by omega,by simpa using h2⟩,Int.toNat_natCast,if_neg h3]
theorem zcm{most:Int}{V L N:Nat}{size:Int}(h:¬(0<=size/\size<=56/\N<2^size.toNat)):z4U most V L N size=(2,V,L):=if_neg h
theorem zkx(k:Nat):(256:Nat)^k=2^(8*k):=by rw[Nat.pow_mul]
theorem zh0{V L N s:Nat}(hV:V<2^L)(hN:N<2^s):V+N*2^L<2^(L+s):=by
 have h:(N+1)*2^L<=2^s*2^L:=Nat.mul_le_mul_right _ hN;rw[Nat.add_mul,Nat.one_mul,<-Nat.pow_add,Nat.add_comm s L] at h;omega
theorem z5g{L j:Nat}(h:8*j<=L):2^L=256^j*2^(L - 8*j):=by
 rw[zkx,<-Nat.pow_add];congr 1;omega
theorem z7G{V L N k:Nat}(h:8*k<=L):(V+N*2^L) /256^k=V/256^k+N*2^(L - 8*k):=by
 rw[z5g h,show N*(256^k*2^(L - 8*k))=256^k*(N*2^(L - 8*k)) by rw[Nat.mul_left_comm]];exact Nat.add_mul_div_left _ _ (Nat.pow_pos (by decide))
theorem zg9{V L k:Nat}(hV:V<2^L)(h:8*k<=L):V/256^k<2^(L - 8*k):=by
 apply Nat.div_lt_of_lt_mul
 rw[<-z5g h];exact hV
theorem z5v{a b:Nat}(h:a<=b):2^a<=2^b:=Nat.pow_le_pow_right (by decide) h
theorem zgV{V L N k s m:Nat}(hV:V<2^L)(hk:8*k<=L)(hm:L - 8*k=m)(hm7:m<=7)(hN:N<2^s)(hs:s<=56):
 bits .or .u64 ((V/256^k:Nat):Int) (IntKind.u64.wrap ((N:Int)*2^m))=(((V+N*2^L) /256^k:Nat):Int):=by
 have hw:=zg9 hV hk;rw[hm] at hw;have h2:N*2^m<2^(s+m):=by
  rw[Nat.pow_add];exact Nat.mul_lt_mul_of_pos_right hN (Nat.two_pow_pos m)
 have h3:2^(s+m)<=2^63:=z5v (by omega);have h4:2^m<=2^7:=z5v hm7;rw[z0Z,<-Int.natCast_mul,z1v _ (by omega),bits_or_u64_nat _ _ (by omega) (by omega),zaO _ _ _ hw,z7G hk,hm,Nat.mul_comm]
theorem zeF{V L N k:Nat}(h:8*k<=L):bys (V+N*2^L) k=bys V k:=by
 unfold bys;apply List.map_congr_left;intro j hj;have hj':j<k:=List.mem_range.1 hj;have e:(V+N*2^L) /256^j%256=V/256^j%256:=by
  rw[z7G (by omega),show L - 8*j=(L - 8*j - 8)+8 by omega,Nat.pow_add,<-Nat.mul_assoc];show(V/256^j+_*256)%256=_
  exact Nat.add_mul_mod_self_right _ _ _
 rw[e]
theorem z88(V k:Nat):bys V (k+1)=bys V k++[((V/256^k%256:Nat):Int)]:=by
 unfold bys;rw[List.range_succ,List.map_append];rfl
theorem zep(V k:Nat):V/256^k/256=V/256^(k+1):=z9c V k
theorem zcg(V k:Nat):bys V k=(le V k).map λb=>(b.toNat:Int):=by
 rw[zj2];unfold bys;rw[List.map_map];apply List.map_congr_left;intro j _;simp
theorem z8x{V L:Nat}(h:L%8=0):z1y V L=zhJ (le V (L/8)):=by
 unfold z1y;rw[show(L+7) /8=L/8 by omega]
theorem z9R{V L:Nat}(h:L%8≠0):z1y V L=zhJ ((bys V (L/8)++[((V/256^(L/8)%256:Nat):Int)]).map λn=>UInt8.ofNat n.toNat):=by
 unfold z1y;rw[show(L+7) /8=L/8+1 by omega,<-z88,zfP]
end Go.Proofs.YthgilhebnlglkaaGreatDoor.M
namespace Go.Proofs.YthgilhebnlglkaaGreatDoor
open Go.RowKit M
theorem zdL(x:Int)(w:World)(h:x<=0):
 Calls prog 270 #[.int .i64 x] w λe w'=>e=.returned (.int .u64 0)/\w=w':=by
 go_enter func270,ntmps270;go_wp2;go_ret;exact⟨rfl,rfl⟩
theorem zb4(x:Int)(w:World)(h:0<x):
 Calls prog 270 #[.int .i64 x] w λe w'=>e=.returned (.int .u64 (mk (min x.toNat 64)))/\w=w':=by
 have h0:0<=x:=(by omega);go_enter func270,ntmps270;go_wp2;go_ret;exact⟨congrArg (λz=>Ending.returned (.int .u64 z)) (zdK _ (by omega)),rfl⟩
theorem zgc(n to:Int)(w:World)(h:n<1\/to<1):
 Calls prog 222 #[.int .i64 n,.int .i64 to] w λe w'=>e=.returned (.int .i64 (up n to))/\w=w':=by
 have hv:=qH (show up n to=0 by unfold up;rw[if_pos h]);by_cases h1:n<1
 · clear h
   go_enter func222,ntmps222;go_wp2;go_ret;exact⟨congrArg (λz=>Ending.returned (.int .i64 z)) hv.o.symm,rfl⟩
 · have h2:to<1:=by omega
   have h3:1<=n:=(by omega);clear h h1;go_enter func222,ntmps222;go_wp2;go_ret;exact⟨congrArg (λz=>Ending.returned (.int .i64 z)) hv.o.symm,rfl⟩
theorem zgb(n to:Int)(w:World)(h1:1<=n)(h2:1<=to)(h3:n<=9223372036854775807)(h4:to<=9223372036854775807):
 Calls prog 222 #[.int .i64 n,.int .i64 to] w λe w'=>e=.returned (.int .i64 (up n to))/\w=w':=by
 have hw:=zga n to h1 h2 h3 h4;have hq:=z2Q n to h1 h2;have hv:up n to=if 4611686018427387904<((n - 1) /to+1)*to then 0 else((n - 1) /to+1)*to:=by unfold up;rw[if_neg (by omega)]
 by_cases h5:4611686018427387904<((n - 1) /to+1)*to
 · rw[if_pos h5] at hv
   have HV:=qH hv;have hd:4611686018427387904<IntKind.u64.wrap (IntKind.u64.wrap ((n - 1) /to+1)*to):=(by rw[hw];exact h5);clear hv hw hq h5;go_enter func222,ntmps222;go_wp2;go_ret;exact⟨congrArg (λz=>Ending.returned (.int .i64 z)) HV.o.symm,rfl⟩
 · rw[if_neg h5] at hv
   have HV:Hd (wrap64 (IntKind.u64.wrap (IntKind.u64.wrap ((n - 1) /to+1)*to))=up n to):=by
    rw[hw,hv];exact IntWalk.wrap64_in _ ⟨by omega,by omega⟩
   have hd:IntKind.u64.wrap (IntKind.u64.wrap ((n - 1) /to+1)*to)<=4611686018427387904:=(by rw[hw];omega);clear hv hw hq h5;go_enter func222,ntmps222;go_wp2;go_ret;exact⟨congrArg (λz=>Ending.returned (.int .i64 z)) HV.o,rfl⟩
theorem zeY(n to:Int)(w:World)(h3:n<=9223372036854775807)(h4:to<=9223372036854775807):
 Calls prog 222 #[.int .i64 n,.int .i64 to] w λe w'=>e=.returned (.int .i64 (up n to))/\w=w':=by
 by_cases h:n<1\/to<1
 · exact zgc n to w h
 · exact zgb n to w (by omega) (by omega) h3 h4
theorem z7I(x:Int)(w:World):
 Calls prog 270 #[.int .i64 x] w λe w'=>e=.returned (.int .u64 (mk (min x.toNat 64)))/\w=w':=by
 by_cases h:x<=0
 · rw[show min x.toNat 64=0 by omega]
   exact zdL x w h
 · exact zb4 x w (by omega)
theorem z2z(K:Nat)(w:World)(hK:K<=64):
 Calls prog 270 #[.int .i64 K] w λe w'=>e=.returned (.int .u64 (mk K))/\w=w':=by
 have h:=z7I K w
 rwa [Int.toNat_natCast,show min K 64=K by omega] at h
structure Wr(w:World)(B p:Nat)(most:Int)(ao:Option Addr)(c k V L:Nat):Prop where
 c0:w.cell? ⟨p,0,none⟩=some (.bool true)
 c1:w.cell? ⟨p,1,none⟩=some (.int .i64 most)
 c2:w.cell? ⟨p,2,none⟩=some (.slice ao k c)
 c3:w.cell? ⟨p,3,none⟩=some (.int .u64 (V/256^k:Nat))
 c4:w.cell? ⟨p,4,none⟩=some (.int .i64 (L - 8*k:Nat))
 fz:∀i,w.frozen? ⟨p,i,none⟩=false
 own:w.ownsRow B 5 1 (.slice ao k c) k ((bys V k).map (Value.int .u8))
 ap:∀a,ao=some a->a.block≠p
 base:B<=p
 val:V<2^L
 ge:8*k<=L
def z50(p:Nat)(ao:Option Addr):Nat->Prop:=λj=>j=p\/∃a,ao=some a/\j=a.block
def Wt(w:World)(B p:Nat)(S:Nat->Prop)(most:Int)(V L:Nat):Prop:=∃ao c,Wr w B p most ao c (L/8) V L/\∀j,S j↔z50 p ao j
variable {w w':World} {B p k c V L:Nat} {ao:Option Addr} {most:Int} {S T:Nat->Prop}
theorem Wr.lt(h:Wr w B p most ao c k V L):p<w.heap.size:=World.block_lt_of_cell? w _ h.c0
theorem Wr.row(h:Wr w B p most ao c k V L){a:Addr}(ha:ao=some a):B<=a.block/\a.block<w.heap.size:=h.own.lt a.block (by rw[ha];rfl)
theorem Wr.foot_lt(h:Wr w B p most ao c k V L){j:Nat}(hj:z50 p ao j):B<=j/\j<w.heap.size:=by
 rcases hj with rfl|⟨a,ha,rfl⟩
 · exact⟨h.base,h.lt⟩
 · exact h.row ha
theorem Wr.keep(h:Wr w B p most ao c k V L)(hk:Kept T w w')(hT:∀j,z50 p ao j->¬T j):Wr w' B p most ao c k V L:=
 ⟨hk.cell h.c0 (hT p (.inl rfl)),hk.cell h.c1 (hT p (.inl rfl)),hk.cell h.c2 (hT p (.inl rfl)),hk.cell h.c3 (hT p (.inl rfl)),hk.cell h.c4 (hT p (.inl rfl)),
  λi=>(hk.frozen (a:=⟨p,i,none⟩) h.lt (hT p (.inl rfl))).trans (h.fz i),
  hk.own h.own λg hg=>hT g (.inr (by
   cases ao with
   |none=>simp[Value.ownBlock] at hg
   |some a=>exact⟨a,rfl,by simpa [Value.ownBlock] using hg.symm⟩)),h.ap,h.base,h.val,h.ge⟩
theorem Wt.keep(h:Wt w B p S most V L)(hk:Kept T w w')(hT:∀j,S j->¬T j):Wt w' B p S most V L:=by
 obtain⟨ao,c,h,hS⟩:=h;exact⟨ao,c,h.keep hk (λj hj=>hT j ((hS j).2 hj)),hS⟩
theorem Wt.lt(h:Wt w B p S most V L){j:Nat}(hj:S j):B<=j/\j<w.heap.size:=by
 obtain⟨ao,c,h,hS⟩:=h;exact h.foot_lt ((hS j).1 hj)
theorem Wt.self(h:Wt w B p S most V L):S p:=by
 obtain⟨ao,c,h,hS⟩:=h;exact(hS p).2 (.inl rfl)
theorem zfm(w:World)(m:Int)(hB:B<=w.heap.size):
 Wt (w.alloc (.cells #[.bool true,.int .i64 m,.slice none 0 0,.int .u64 0,.int .i64 0] 252)) B w.heap.size (λj=>j=w.heap.size) m 0 0:=by
 refine⟨none,0,⟨?_,?_,?_,?_,?_,?_,World.ownsRow_nil _ _ _ _,?_,hB,by decide,by decide⟩,λj=>⟨λh=> .inl h,λh=> ?_⟩⟩
 · simp
 · simp
 · simp
 · simp
 · simp
 · intro i;simp
 · intro a ha;cases ha
 · rcases h with h|⟨a,ha,_⟩
   · exact h
   · cases ha
theorem zgY(m:Int)(w:World)(hB:B<=w.heap.size):
 Calls prog 114 #[.int .i64 m] w λe w'=>e=.returned (.pointer (some ⟨w.heap.size,0,none⟩))/\Kept NoB w w'/\Wt w' B w.heap.size (λj=>j=w.heap.size) (max 0 m) 0 0/\w.heap.size<w'.heap.size:=by
 by_cases hm:0<m
 · have H1:=qH (show max 0 m=m by omega)
   go_enter func114,ntmps114;go_wp2;go_ret;exact⟨rfl,(Kept.refl _ _).alloc _,by rw[H1.o];exact zfm w m hB,by simp⟩
 · have H1:=qH (show max 0 m=0 by omega)
   have hm':m<=0:=(by omega);clear hm;go_enter func114,ntmps114;go_wp2;go_ret;exact⟨rfl,(Kept.refl _ _).alloc _,by rw[H1.o];exact zfm w 0 hB,by simp⟩
theorem z0H(p:Nat)(w:World)(hc:w.cell? ⟨p,0,none⟩=some (.bool true)):
 Calls prog 164 #[.pointer (some ⟨p,0,none⟩)] w λe w'=>e=.returned (.bool true)/\w=w':=by
 go_enter func164,ntmps164;go_wp2;go_ret;exact⟨rfl,rfl⟩
theorem zb3(N s:Nat)(w:World)(hs:s<=56)(hN:N<2^s):
 Calls prog 235 #[.int .u64 N,.int .i64 s] w λe w'=>e=.returned (.bool true)/\w=w':=by
 have hm:(N:Int)<=(mk s:Int):=(by unfold mk;omega);clear hN;go_enter func235,ntmps235;go_wp2_with (go_at_call 270;refine(z2z s _ (by omega)).mono ?_;rintro e w' ⟨rfl,rfl⟩);go_ret;exact⟨rfl,rfl⟩
theorem ziP(n x:Int)(w:World)(h0:0<=n)(h:¬(0<=x/\x<=56/\n.toNat<2^x.toNat)):
 Calls prog 235 #[.int .u64 n,.int .i64 x] w λe w'=>e=.returned (.bool false)/\w=w':=by
 by_cases h1:0<=x
 · by_cases h2:x<=56
   · obtain⟨N,rfl⟩:=Int.eq_ofNat_of_zero_le h0
     obtain⟨s,rfl⟩:=Int.eq_ofNat_of_zero_le h1;rw[Int.toNat_natCast,Int.toNat_natCast] at h;have hp:=Nat.two_pow_pos s;have hm:decide (N<=mk s)=false:=qF (by unfold mk;omega);clear h hp;go_enter func235,ntmps235;go_wp2_with (go_at_call 270;refine(z2z s _ (by omega)).mono ?_;rintro e w' ⟨rfl,rfl⟩);go_ret;exact⟨rfl,rfl⟩
   · have h3:decide (x<=56)=false:=qF h2
     clear h h2;go_enter func235,ntmps235;go_wp2_with fail;go_ret;exact⟨rfl,rfl⟩
 · have h3:x<0:=by omega
   clear h h1;go_enter func235,ntmps235;go_wp2_with fail;go_ret;exact⟨rfl,rfl⟩
theorem up8(n:Nat)(h:n<=4611686018427387000):up n 8/8=(((n+7) /8:Nat):Int)/\0<=up n 8:=by
 unfold up;by_cases h1:n=0
 · subst h1;decide
 · rw[if_neg (by omega),if_neg (by omega)]
   omega
theorem z6R(n:Nat)(w:World)(h:n<=4611686018427387000):
 Calls prog 236 #[.int .i64 n] w λe w'=>e=.returned (.int .i64 ((n+7) /8:Nat))/\w=w':=by
 have h8:=(up8 n h).2;have H:=qH (up8 n h).1;have hr:=z70 n 8;go_enter func236,ntmps236;go_wp2_with (go_at_call 222;refine(zeY n 8 _ (by omega) (by omega)).mono ?_;rintro e w' ⟨rfl,rfl⟩);go_ret;exact⟨congrArg (λz=>Ending.returned (.int .i64 z)) H.o,rfl⟩
theorem z54(h:Wr w B p most ao c k V L)(hk:k<=1000000000)(hL:L<=1000000000):
 Calls prog 200 #[.pointer (some ⟨p,0,none⟩)] w λe w'=>e=.returned (.int .i64 L)/\∃n,w'=w.drewN n:=by
 have h0:=h.c0;have h2:=h.c2;have h4:=h.c4;have hge:=h.ge;generalize hm:L - 8*k=m at h4;have HL:=qH (show(k:Int)*8+(m:Int)=(L:Int) by omega);have hm2:m<=1000000000:=(by omega);clear h hm hge;go_enter func200,ntmps200;go_wp2_with (go_at_call 164;refine(z0H p _ h0).mono ?_;rintro e w' ⟨rfl,rfl⟩)
 go_quiet (fail)
 go_wp2;go_ret;exact⟨congrArg (λz=>Ending.returned (.int .i64 z)) HL.o,_,rfl⟩
end Go.Proofs.YthgilhebnlglkaaGreatDoor
namespace Go.Proofs.YthgilhebnlglkaaGreatDoor
open Go.RowKit M
theorem z8v(N:Nat)(x:Int)(w:World)(hN:N<big)(hx:64<x):
 Calls prog 281 #[.int .u64 N,.int .i64 x] w λe w'=>e=.returned (.int .u64 (rv N 64))/\w=w':=by
 go_enter func281,ntmps281;go_wp2
 go_loop [0,5,8] (λa t i=> ∃k:Nat,k<=64/\i=.int .i64 k/\a=.int .u64 ((N:Int) /2^k)/\t=.int .u64 (rv N k)) (λ_ _ i=>64 - (intOf i).toNat)
 case atStart=>exact⟨0,qZ,rfl,by simp,rfl⟩
 case round=>
  obtain⟨k,hk,rfl,rfl,rfl⟩:=hrel;by_cases hlt:k<64
  · have hs:=qH (z3N N k hN (by omega))
    go_wp2
    go_round
    case rel=>exact⟨k+1,by omega,by go_num,congrArg (Value.int .u64) (z82 N k),congrArg (Value.int .u64) hs.o⟩
    case measure=>simp[intOf];omega
  · obtain rfl:k=64:=by omega
    go_wp2;go_ret;exact⟨rfl,rfl⟩
theorem z8u(N:Nat)(x:Int)(w:World)(hN:N<big)(hx:x<=64):
 Calls prog 281 #[.int .u64 N,.int .i64 x] w λe w'=>e=.returned (.int .u64 (rv N x.toNat))/\w=w':=by
 go_enter func281,ntmps281;go_wp2
 go_loop [0,5,8] (λa t i=> ∃k:Nat,k<=x.toNat/\i=.int .i64 k/\a=.int .u64 ((N:Int) /2^k)/\t=.int .u64 (rv N k)) (λ_ _ i=>x.toNat - (intOf i).toNat)
 case atStart=>exact⟨0,qZ,rfl,by simp,rfl⟩
 case round=>
  obtain⟨k,hk,rfl,rfl,rfl⟩:=hrel;by_cases hlt:k<x.toNat
  · have hs:=qH (z3N N k hN (by omega))
    go_wp2
    go_round
    case rel=>exact⟨k+1,by omega,by go_num,congrArg (Value.int .u64) (z82 N k),congrArg (Value.int .u64) hs.o⟩
    case measure=>simp[intOf];omega
  · obtain rfl:k=x.toNat:=by omega
    go_wp2;go_ret;exact⟨rfl,rfl⟩
theorem z73(n x:Int)(w:World)(h0:0<=n)(hb:n.toNat<big):
 Calls prog 281 #[.int .u64 n,.int .i64 x] w λe w'=>e=.returned (.int .u64 (rv n.toNat (min x.toNat 64)))/\w=w':=by
 obtain⟨N,rfl⟩:=Int.eq_ofNat_of_zero_le h0;rw[Int.toNat_natCast] at hb ⊢;by_cases hx:64<x
 · rw[show min x.toNat 64=64 by omega]
   exact z8v N x w hb hx
 · rw[show min x.toNat 64=x.toNat by omega]
   exact z8u N x w hb (by omega)
end Go.Proofs.YthgilhebnlglkaaGreatDoor
namespace Go.Proofs.YthgilhebnlglkaaGreatDoor.M
open Go
def tx(s:ByteArray):Nat:=vl s.data.toList
def nb(s:ByteArray)(a n:Nat):Nat:=tx s/2^a%2^n
def z5M(a:Nat):Nat:=8*((a+7) /8)
theorem z8T(k:Nat):(256:Nat)^k=2^(8*k):=by rw[Nat.pow_mul]
theorem nb_lt(s:ByteArray)(a n:Nat):nb s a n<2^n:=Nat.mod_lt _ (Nat.two_pow_pos n)
theorem ziN(s:ByteArray)(a n:Nat)(h:n<=64):nb s a n<big:=by
 have h1:=nb_lt s a n;have h2:=z7t h;unfold big;omega
theorem zdP(T a n:Nat)(h:a%8+n<=64):T/256^(a/8)%256^8/2^(a%8)%2^n=T/2^a%2^n:=by
 have e:T/256^(a/8) /2^(a%8)=T/2^a:=by
  rw[z8T,Nat.div_div_eq_div_mul,<-Nat.pow_add,Nat.div_add_mod]
 rw[z8T 8,show 8*8=a%8+(64 - a%8) by omega,Nat.pow_add,Nat.mod_mul_right_div_self,e,show 64 - a%8=n+(64 - a%8 - n) by omega,Nat.pow_add,Nat.mod_mul_right_mod]
theorem z6t(N k:Nat):N%256^(k+1)=N%256^k+N/256^k%256*256^k:=by
 rw[Nat.pow_succ,Nat.mod_mul,Nat.mul_comm]
theorem zb1(N k:Nat):N%256^k<2^(8*k):=by rw[<-z8T];exact Nat.mod_lt _ (Nat.pow_pos (by decide))
theorem zgW(N k:Nat)(hk:k<8):
 bits .or .u64 ((N%256^k:Nat):Int) (IntKind.u64.wrap (((N/256^k%256:Nat):Int)*2^(k*8)))=((N%256^(k+1):Nat):Int):=by
 have h1:=zb1 N k;have h2:N/256^k%256<256:=Nat.mod_lt _ (by decide);have h3:(2:Nat)^(8*k)<=2^56:=Nat.pow_le_pow_right (by decide) (by omega);have h4:N/256^k%256*2^(8*k)<=255*2^(8*k):=Nat.mul_le_mul_right _ (by omega);rw[Nat.mul_comm k 8,z0Z,<-Int.natCast_mul,z1v _ (by omega),bits_or_u64_nat _ _ (by omega) (by omega),zaO _ _ _ h1,z6t,z8T,Nat.mul_comm (2^(8*k))]
theorem zdQ(s:ByteArray)(a n N u r:Nat)(hn:n<=56)(hN:tx s/256^(a/8)=N)(hu:N%256^8=u)(hr:a%8=r):
 bits .and .u64 ((u:Int) /2^min r 64) (mk n:Int)=(nb s a n:Int):=by
 have e8:(256:Nat)^8=big:=(by decide);have hd:u/2^r<=u:=Nat.div_le_self _ _;rw[show min r 64=r by omega,z0Z,<-Int.natCast_ediv,z2K _ _ (by omega) (by omega)];unfold nb;rw[<-hu,<-hN,<-hr,zdP _ _ _ (by omega)]
theorem z9D(l:List UInt8)(k:Nat):vl (l.drop k)=vl l/256^k:=by
 induction k generalizing l with
 |zero=>simp
 |succ k ih=>
  cases l with
  |nil=>simp[vl]
  |cons b r=>
   have hb:=b.toNat_lt;rw[List.drop_succ_cons,ih];simp only[vl];rw[Nat.pow_succ',<-Nat.div_div_eq_div_mul];congr 1;omega
theorem z90(l:List UInt8)(m:Nat):le (vl l) m=l.take m++List.replicate (m - l.length) 0:=by
 induction m generalizing l with
 |zero=>simp[le]
 |succ m ih=>
  cases l with
  |nil=>
   have:=ih [];simp only[vl,le,List.take_nil,List.nil_append,List.length_nil,Nat.sub_zero] at this ⊢;rw[List.replicate_succ];congr 1
  |cons b r=>
   have hb:=b.toNat_lt;have e1:(b.toNat+256*vl r)%256=b.toNat:=(by omega);have e2:(b.toNat+256*vl r) /256=vl r:=(by omega);simp only[vl,le];rw[e1,e2,ih,UInt8.ofNat_toNat];simp
end Go.Proofs.YthgilhebnlglkaaGreatDoor.M
namespace Go.Proofs.YthgilhebnlglkaaGreatDoor.M
theorem zit{N K m:Nat}(h:m<=K):rv N K%2^m=rv (N/2^(K - m)) m:=by
 have h1:=z2t N (K - m) m;rw[show K - m+m=K by omega] at h1;rw[h1,Nat.mul_comm,Nat.mul_add_mod,Nat.mod_eq_of_lt (z4o _ _)]
theorem zgv{N a b:Nat}:rv N (a+b) /2^b=rv N a:=by
 rw[z2t N a b,Nat.mul_comm,Nat.mul_add_div (Nat.two_pow_pos b),Nat.div_eq_of_lt (z4o _ _)];rfl
theorem z7H{a b k m:Nat}(h:a%2^m=b%2^m)(hk:k<=m):a%2^k=b%2^k:=by
 rw[<-Nat.mod_mod_of_dvd a (Nat.pow_dvd_pow 2 hk),h,Nat.mod_mod_of_dvd b (Nat.pow_dvd_pow 2 hk)]
theorem z0y{a k m:Nat}(hk:k<=m):a%2^m%2^k=a%2^k:=Nat.mod_mod_of_dvd _ (Nat.pow_dvd_pow 2 hk)
theorem z5z{X c f z:Nat}(hz:f<=z):X%2^z=c%2^z↔(X%2^f=c%2^f/\X/2^f%2^(z - f)=c/2^f%2^(z - f)):=by
 have e:∀a:Nat,a%2^z=a%2^f+2^f*(a/2^f%2^(z - f)):=λa=>by
  rw[show(2:Nat)^z=2^f*2^(z - f) by rw[<-Nat.pow_add];congr 1;omega,Nat.mod_mul]
 constructor
 · intro h
   refine⟨z7H h hz,?_⟩;have d:∀a:Nat,a%2^z/2^f=a/2^f%2^(z - f):=λa=>by
    rw[show(2:Nat)^z=2^f*2^(z - f) by rw[<-Nat.pow_add];congr 1;omega,Nat.mod_mul_right_div_self]
   rw[<-d,<-d,h]
 · rintro⟨h1,h2⟩
   rw[e X,e c,h1,h2]
def Fit(l:Nat->Nat)(n:Nat):Prop:=May l n/\z02 l n<=32768
def rc(l:Nat->Nat)(n i:Nat):Nat:=rv (cod l n i) (l i)
def bg(l:Nat->Nat)(n X i:Nat):Prop:=l i≠0/\X%2^l i=rc l n i
instance (l:Nat->Nat) (n X i:Nat):Decidable (bg l n X i):=inferInstanceAs (Decidable (l i≠0/\X%2^l i=rc l n i))
theorem rc_lt(l:Nat->Nat)(n i:Nat):rc l n i<2^l i:=z4o _ _
theorem z4t{l:Nat->Nat}{n i:Nat}(h:l i<=15):rc l n i<32768:=Nat.lt_of_lt_of_le (rc_lt l n i) (Nat.pow_le_pow_right (by omega) h:2^l i<=2^15)
theorem zcp{l:Nat->Nat}{n X i:Nat}(hf:Fit l n)(hi:i<n):bg l n X i↔hit l n (rv X 15) i:=by
 have h15:=hf.1.2 i hi;have hc:=z4O hf.1 hf.2 hi;have e:rv X 15/2^(15 - l i)=rv X (l i):=by
  have:=zgv (N:=X) (a:=l i) (b:=15 - l i)
  rwa [show l i+(15 - l i)=15 by omega] at this
 unfold bg hit;rw[e];constructor
 · rintro⟨h0,h⟩
   refine⟨h0,?_⟩;rw[<-zf9 X (l i) (l i) qR,h];unfold rc;rw[zd4,Nat.mod_eq_of_lt hc]
 · rintro⟨h0,h⟩
   refine⟨h0,?_⟩;unfold rc;rw[h,zd4]
theorem zbz(l:Nat->Nat)(n r:Nat){j k:Nat}(h:j<=k):z5K l n r j<=z5K l n r k:=by
 induction k with
 |zero=>obtain rfl:j=0:=by omega
        exact qR
 |succ k ih=>
  by_cases e:j=k+1
  · subst e;exact qR
  · have:=ih (by omega)
    simp only[z5K];omega
theorem z2D{l:Nat->Nat}{n r i k:Nat}(hi:i<k)(h:hit l n r i):z5K l n r i+1<=z5K l n r k:=by
 have h1:z5K l n r (i+1)=z5K l n r i+1:=(by simp only[z5K];rw[if_pos h]);have h2:=zbz l n r (show i+1<=k from hi);omega
theorem zfT{l:Nat->Nat}{n X i j:Nat}(hf:Fit l n)(hi:i<n)(hj:j<n)(h1:bg l n X i)(h2:bg l n X j):i=j:=by
 rw[zcp hf hi] at h1;rw[zcp hf hj] at h2;have h3:=z7T (rv X 15) hf.1;have h4:z5K l n (rv X 15) n<=1:=(by rw[h3];split<;>omega);rcases Nat.lt_trichotomy i j with g|g|g
 · have a:=z2D g h1
   have b:=z2D hj h2;omega
 · exact g
 · have a:=z2D g h2
   have b:=z2D hi h1;omega
theorem z5J{l:Nat->Nat}{n r:Nat}:∀k,(∀i,i<k->¬hit l n r i)->z5K l n r k=0
 |0,_=>rfl
 |k+1,h=>by simp only[z5K];rw[z5J k (λi hi=>h i (by omega)),if_neg (h k (by omega))]
theorem zco{l:Nat->Nat}{n X:Nat}(hf:Fit l n)(h:rv X 15<z02 l n):∃i,i<n/\bg l n X i:=by
 apply Classical.byContradiction
 intro g;have h1:=z7T (rv X 15) hf.1;rw[if_pos h,z5J n (λi hi q=>g ⟨i,hi,(zcp hf hi).2 q⟩)] at h1;omega
theorem z9B(l:Nat->Nat):∀k,16384*cnt l 1 k<=z02 l k:=λk=>by have:=z4z l k;omega
theorem z2P{l:Nat->Nat}:∀k i,i<k->l i≠0->l i≠1->16384*cnt l 1 k+1<=z02 l k
 |0,i,h,_,_=>by omega
 |k+1,i,h,h0,h1=>by
  simp only[cnt,z02];by_cases e:i=k
  · subst e
    have:=z9x h0;have:=z9B l i;rw[if_neg h1];omega
  · have h2:=z2P k i (by omega) h0 h1
    by_cases g:l k=1
    · rw[if_pos g,show wt (l k)=16384 by rw[g];rfl];omega
    · rw[if_neg g];omega
theorem z1w{l:Nat->Nat}:∀k,z02 l k=0->∀i,i<k->l i=0
 |0,_,i,h=>by omega
 |k+1,hw,i,h=>by
  simp only[z02] at hw;by_cases e:i=k
  · subst e
    apply Classical.byContradiction
    intro g;have:=z9x g;omega
  · exact z1w k (by omega) i (by omega)
theorem ze2{l:Nat->Nat}{n:Nat}(h:kind l n=1):c0 l n 1=1/\z02 l n=16384:=by
 have hm:=z2C (show kind l n≠5 by omega);rw[z0R hm] at h;by_cases a:z02 l n=0
 · rw[if_pos a] at h;omega
 · rw[if_neg a] at h
   by_cases b:32768<z02 l n
   · rw[if_pos b] at h;omega
   · rw[if_neg b] at h
     by_cases c:z02 l n=32768
     · rw[if_pos c] at h;omega
     · rw[if_neg c] at h
       by_cases d:c0 l n 1=1/\z02 l n=16384
       · exact d
       · rw[if_neg d] at h;omega
def Tbl(l:Nat->Nat)(n:Nat):Prop:=kind l n=0\/kind l n=1\/kind l n=2
theorem Tbl.fit{l:Nat->Nat}{n:Nat}(h:Tbl l n):Fit l n:=z1e (by unfold Tbl at h;omega) (by unfold Tbl at h;omega)
theorem zhP{l:Nat->Nat}{n X i h:Nat}(ht:Tbl l n)(hi:i<n)(h0:l i≠0)(hh:h<l i)(hX:X<2^h)(he:X%2^h=rc l n i%2^h):∃j,j<n/\bg l n X j:=by
 have hf:=ht.fit;rcases ht with k|k|k
 · exact absurd (z1w n (z5G k) i hi) h0
 · obtain⟨k1,k2⟩:=ze2 k
   have e1:cnt l 1 n=1:=(by simpa [c0] using k1);have hl:l i=1:=by
    apply Classical.byContradiction
    intro g;have:=z2P n i hi h0 g;omega
   obtain rfl:h=0:=by omega
   obtain rfl:X=0:=by simpa using hX
   exact zco hf (by rw[zgu];omega)
 · exact zco hf (by rw[ze0 k];exact z4o X 15)
def fnd(l:Nat->Nat)(n X:Nat):Nat->Nat×Nat
 |0=>(0,0)
 |k+1=>if bg l n X k then(k,l k) else fnd l n X k
theorem z1k(l:Nat->Nat)(n X:Nat):∀k,(∃i,i<k/\bg l n X i/\fnd l n X k=(i,l i))\/((∀i,i<k->¬bg l n X i)/\fnd l n X k=(0,0))
 |0=> .inr ⟨λi h=>by omega,rfl⟩
 |k+1=>by
  by_cases h:bg l n X k
  · exact .inl ⟨k,by omega,h,by simp only[fnd];rw[if_pos h]⟩
  · rcases z1k l n X k with⟨i,h1,h2,h3⟩|⟨h1,h2⟩
    · exact .inl ⟨i,by omega,h2,by simp only[fnd];rw[if_neg h];exact h3⟩
    · refine .inr ⟨λi hi=> ?_,by simp only[fnd];rw[if_neg h];exact h2⟩
      by_cases e:i=k
      · subst e;exact h
      · exact h1 i (by omega)
theorem zbG{l:Nat->Nat}{n X i:Nat}(hf:Fit l n)(hi:i<n)(h:bg l n X i):fnd l n X n=(i,l i):=by
 rcases z1k l n X n with⟨j,h1,h2,h3⟩|⟨h1,h2⟩
 · rw[h3,zfT hf h1 hi h2 h]
 · exact absurd h (h1 i hi)
theorem zfD{l:Nat->Nat}{n X:Nat}(h:∀i,i<n->¬bg l n X i):fnd l n X n=(0,0):=by
 rcases z1k l n X n with⟨j,h1,h2,h3⟩|⟨h1,h2⟩
 · exact absurd h2 (h j h1)
 · exact h2
def ahb(l:Nat->Nat)(n f i:Nat):Nat:=if l i<=f then 0 else rc l n i%2^f
def ahs(l:Nat->Nat)(f i:Nat):Nat:=if l i<=f then 0 else f
def cv(l:Nat->Nat)(n f b s x:Nat):Nat->Nat×Nat
 |0=>(0,0)
 |k+1=>if l k≠0/\(ahb l n f k=b/\ahs l f k=s)/\x%2^(l k - s)=rc l n k/2^s then(k,l k) else cv l n f b s x k
def sz(l:Nat->Nat)(n f b s:Nat):Nat->Option Nat
 |0=>if b=0/\s=0 then some f else none
 |k+1=>if ahb l n f k=b/\ahs l f k=s then some (max ((sz l n f b s k).getD 0) (l k - s)) else sz l n f b s k
theorem z0p(l:Nat->Nat)(n f i:Nat):(l i<=f/\ahb l n f i=0/\ahs l f i=0)\/(f<l i/\ahb l n f i=rc l n i%2^f/\ahs l f i=f):=by
 unfold ahb ahs;by_cases h:l i<=f
 · rw[if_pos h,if_pos h];exact .inl ⟨h,rfl,rfl⟩
 · rw[if_neg h,if_neg h];exact .inr ⟨by omega,rfl,rfl⟩
theorem zcw(l:Nat->Nat)(n f i:Nat):ahb l n f i<2^f:=by
 rcases z0p l n f i with⟨_,h,_⟩|⟨_,h,_⟩
 · rw[h];exact Nat.two_pow_pos f
 · rw[h];exact Nat.mod_lt _ (Nat.two_pow_pos f)
theorem z3e(l:Nat->Nat)(n f b s x:Nat):∀k,(∃i,i<k/\(l i≠0/\(ahb l n f i=b/\ahs l f i=s)/\x%2^(l i - s)=rc l n i/2^s)/\cv l n f b s x k=(i,l i))\/
 ((∀i,i<k->¬(l i≠0/\(ahb l n f i=b/\ahs l f i=s)/\x%2^(l i - s)=rc l n i/2^s))/\cv l n f b s x k=(0,0))
 |0=> .inr ⟨λi h=>by omega,rfl⟩
 |k+1=>by
  by_cases h:l k≠0/\(ahb l n f k=b/\ahs l f k=s)/\x%2^(l k - s)=rc l n k/2^s
  · exact .inl ⟨k,by omega,h,by simp only[cv];rw[if_pos h]⟩
  · rcases z3e l n f b s x k with⟨i,h1,h2,h3⟩|⟨h1,h2⟩
    · exact .inl ⟨i,by omega,h2,by simp only[cv];rw[if_neg h];exact h3⟩
    · refine .inr ⟨λi hi=> ?_,by simp only[cv];rw[if_neg h];exact h2⟩
      by_cases e:i=k
      · subst e;exact h
      · exact h1 i (by omega)
theorem zeu{l:Nat->Nat}{n f b s x k:Nat}(hm:May l n)(hk:k<=n):(cv l n f b s x k).1<320/\(cv l n f b s x k).2<=15:=by
 rcases z3e l n f b s x k with⟨i,h1,h2,h3⟩|⟨h1,h2⟩
 · rw[h3];exact⟨by have:=hm.1;omega,hm.2 i (by omega)⟩
 · rw[h2];exact⟨by omega,by omega⟩
theorem z9Y{l:Nat->Nat}{n f b s i:Nat}:∀k,i<k->ahb l n f i=b->ahs l f i=s->∃m,sz l n f b s k=some m/\l i - s<=m
 |0,h,_,_=>by omega
 |k+1,h,hb,hs=>by
  by_cases e:i=k
  · subst e
    refine⟨_,by simp only[sz];rw[if_pos ⟨hb,hs⟩],Nat.le_max_right _ _⟩
  · obtain⟨m,h1,h2⟩:=z9Y k (by omega) hb hs
    by_cases g:ahb l n f k=b/\ahs l f k=s
    · refine⟨_,by simp only[sz];rw[if_pos g],?_⟩
      rw[h1];exact qK h2 (Nat.le_max_left _ _)
    · exact⟨m,by simp only[sz];rw[if_neg g];exact h1,h2⟩
theorem z9X{l:Nat->Nat}{n f b s:Nat}(hf:f<=15):∀k,(∀i,i<k->l i<=15)->∀m,sz l n f b s k=some m->m<=15
 |0,_,m,e=>by
  simp only[sz] at e
  split at e
  · injection e with e;omega
  · cases e
 |k+1,h,m,e=>by
  simp only[sz] at e;have h15:=h k (by omega);have ih:=z9X (b:=b) (s:=s) (n:=n) hf k (λi hi=>h i (by omega))
  split at e
  · injection e with e
    cases q:sz l n f b s k with
    |none=>rw[q] at e;simp at e;omega
    |some m'=>rw[q] at e;have:=ih m' q;simp at e;omega
  · exact ih m e
theorem z9W{l:Nat->Nat}{n f:Nat}(h1:1<=f):∀k,sz l n f 0 0 k=some f
 |0=>by simp[sz]
 |k+1=>by
  simp only[sz];rw[z9W h1 k]
  split
  · rename_i g
    have hk:l k<=f:=by
     rcases z0p l n f k with⟨a,_,_⟩|⟨_,_,a⟩
     · exact a
     · have:=g.2;omega
    rw[show max ((some f).getD 0) (l k - 0)=f by simp;omega]
  · rfl
theorem z76{l:Nat->Nat}{n f b s:Nat}:∀k m,sz l n f b s k=some m->(b=0/\s=0)\/(s=f/\b<2^f)
 |0,m,e=>by
  simp only[sz] at e;by_cases g:b=0/\s=0
  · exact .inl g
  · rw[if_neg g] at e;cases e
 |k+1,m,e=>by
  simp only[sz] at e;by_cases g:ahb l n f k=b/\ahs l f k=s
  · rcases z0p l n f k with⟨_,a2,a3⟩|⟨_,a2,a3⟩
    · exact .inl ⟨by omega,by omega⟩
    · exact .inr ⟨by omega,by rw[<-g.1];exact zcw l n f k⟩
  · rw[if_neg g] at e
    exact z76 k m e
theorem zbF{l:Nat->Nat}{n f X:Nat}(hf:Fit l n)(h1:1<=f)(h:(cv l n f 0 0 (X%2^f) n).2≠0):fnd l n X n=cv l n f 0 0 (X%2^f) n:=by
 rcases z3e l n f 0 0 (X%2^f) n with⟨i,i1,⟨i2,⟨_,i3⟩,i4⟩,i5⟩|⟨_,g⟩
 · have hk:l i<=f:=by
    rcases z0p l n f i with⟨a,_,_⟩|⟨_,_,a⟩
    · exact a
    · omega
   rw[i5];refine zbG hf i1 ⟨i2,?_⟩;rw[Nat.sub_zero,z0y hk,Nat.pow_zero,Nat.div_one] at i4;exact i4
 · rw[g] at h;exact absurd rfl h
theorem z8g{l:Nat->Nat}{n f X i:Nat}(h1:1<=f)(hi:i<n)(hb:bg l n X i)(hk:l i<=f):(cv l n f 0 0 (X%2^f) n).2≠0:=by
 rcases z3e l n f 0 0 (X%2^f) n with⟨j,j1,⟨j2,_⟩,j5⟩|⟨g,_⟩
 · rw[j5];exact j2
 · exfalso
   refine g i hi ⟨hb.1,?_,?_⟩
   · rcases z0p l n f i with⟨_,a,b⟩|⟨a,_,_⟩
     · exact⟨a,b⟩
     · omega
   · rw[Nat.sub_zero,z0y hk,Nat.pow_zero,Nat.div_one];exact hb.2
theorem zfU{l:Nat->Nat}{n f X i:Nat}(hb:bg l n X i)(hk:f<l i):ahb l n f i=X%2^f/\ahs l f i=f/\X/2^f%2^(l i - f)=rc l n i/2^f:=by
 have hp:=(z5z (X:=X) (c:=rc l n i) (f:=f) (z:=l i) (by omega)).1 (by rw[hb.2,Nat.mod_eq_of_lt (rc_lt l n i)]);have e:rc l n i/2^f%2^(l i - f)=rc l n i/2^f:=by
  apply Nat.mod_eq_of_lt
  rw[Nat.div_lt_iff_lt_mul (Nat.two_pow_pos f),<-Nat.pow_add,show l i - f+f=l i by omega];exact rc_lt l n i
 rcases z0p l n f i with⟨a,_,_⟩|⟨_,a,b⟩
 · omega
 · exact⟨by rw[a,hp.1],b,by rw[hp.2,e]⟩
theorem zef{l:Nat->Nat}{n f X:Nat}(h1:1<=f)(h:(cv l n f 0 0 (X%2^f) n).2=0)(hs:sz l n f (X%2^f) f n=none):fnd l n X n=(0,0):=by
 refine zfD λi hi hb=> ?_
 by_cases hk:l i<=f
 · exact z8g h1 hi hb hk h
 · obtain⟨a,b,_⟩:=zfU (f:=f) hb (by omega)
   obtain⟨m,e,_⟩:=z9Y n hi a b;rw[hs] at e;cases e
theorem z6I{l:Nat->Nat}{n f X m:Nat}(hf:Fit l n)(h1:1<=f)(h:(cv l n f 0 0 (X%2^f) n).2=0)(hs:sz l n f (X%2^f) f n=some m):
 fnd l n X n=cv l n f (X%2^f) f (X/2^f%2^m) n:=by
 rcases z3e l n f (X%2^f) f (X/2^f%2^m) n with⟨i,i1,⟨i2,⟨i3,i6⟩,i4⟩,i5⟩|⟨g,g2⟩
 · rw[i5]
   have hk:f<l i/\rc l n i%2^f=X%2^f:=by
    rcases z0p l n f i with⟨_,_,a⟩|⟨a,b,_⟩
    · omega
    · exact⟨a,by rw[<-b,i3]⟩
   obtain⟨m',e,hm⟩:=z9Y n i1 i3 i6;rw[hs] at e;injection e with e
   subst e;rw[z0y hm] at i4;refine zbG hf i1 ⟨i2,?_⟩;have e:rc l n i/2^f%2^(l i - f)=rc l n i/2^f:=by
    apply Nat.mod_eq_of_lt
    rw[Nat.div_lt_iff_lt_mul (Nat.two_pow_pos f),<-Nat.pow_add,show l i - f+f=l i by omega];exact rc_lt l n i
   have:=(z5z (X:=X) (c:=rc l n i) (f:=f) (z:=l i) (by omega)).2 ⟨hk.2.symm,by rw[i4,e]⟩;rw[this,Nat.mod_eq_of_lt (rc_lt l n i)]
 · rw[g2]
   refine zfD λi hi hb=> ?_
   by_cases hk:l i<=f
   · exact z8g h1 hi hb hk h
   · obtain⟨a,b,c⟩:=zfU (f:=f) hb (by omega)
     obtain⟨m',e,hm⟩:=z9Y n hi a b;rw[hs] at e;injection e with e
     subst e;exact g i hi ⟨hb.1,⟨a,b⟩,by rw[z0y hm];exact c⟩
def lk(l:Nat->Nat)(n X h:Nat):Nat×Nat×Nat:=
 if(fnd l n (X%2^min h 64) n).2=0 then(0,0,7) else if h<(fnd l n (X%2^min h 64) n).2 then(0,0,6) else((fnd l n (X%2^min h 64) n).1,(fnd l n (X%2^min h 64) n).2,0)
def fts(l:Nat->Nat)(n X h i:Nat):Prop:=l i≠0/\X%2^min (l i) h=rc l n i%2^min (l i) h
instance (l:Nat->Nat) (n X h i:Nat):Decidable (fts l n X h i):=inferInstanceAs (Decidable (l i≠0/\X%2^min (l i) h=rc l n i%2^min (l i) h))
def som(l:Nat->Nat)(n X h:Nat):Nat->Bool
 |0=>false
 |k+1=>som l n X h k||decide (fts l n X h k)
theorem z1Z(l:Nat->Nat)(n X h:Nat):∀k,som l n X h k=true↔∃i,i<k/\fts l n X h i
 |0=>by simp[som]
 |k+1=>by
  simp only[som,Bool.or_eq_true,decide_eq_true_eq,z1Z l n X h k];constructor
  · rintro(⟨i,a,b⟩|b)
    · exact⟨i,by omega,b⟩
    · exact⟨k,by omega,b⟩
  · rintro⟨i,a,b⟩
    by_cases e:i=k
    · subst e;exact .inr b
    · exact .inl ⟨i,by omega,b⟩
theorem zfV{l:Nat->Nat}{n X h i:Nat}(hk:l i<=h):bg l n (X%2^h) i↔bg l n X i:=by
 unfold bg;rw[z0y hk]
theorem zbc{l:Nat->Nat}{n X h:Nat}(ht:Tbl l n)(hno:∀i,i<n->fts l n X (min h 15) i->¬l i<=min h 15):lk l n X h=if som l n X (min h 15) n=true then(0,0,6) else(0,0,7):=by
 have hf:=ht.fit;have h15:=hf.1.2;unfold lk;rcases z1k l n (X%2^min h 64) n with⟨i,i1,i2,i3⟩|⟨i1,i2⟩
 · have hft:fts l n X (min h 15) i:=⟨i2.1,by
    have hq:=i2.2;have e1:X%2^min h 64%2^min (l i) (min h 15)=X%2^min (l i) (min h 15):=z0y (by omega);rw[<-e1,<-z0y (a:=X%2^min h 64) (k:=min (l i) (min h 15)) (m:=l i) (by omega),hq]⟩
   have hlt:h<l i:=(by have:=hno i i1 hft;have:=h15 i i1;omega);rw[i3,if_neg i2.1,if_pos hlt,if_pos ((z1Z l n X _ n).2 ⟨i,i1,hft⟩)]
 · rw[i2,if_pos rfl]
   by_cases g:som l n X (min h 15) n=true
   · exfalso
     obtain⟨i,g1,g2⟩:=(z1Z l n X _ n).1 g;have hlt:=hno i g1 g2;have hl:=h15 i g1;have e0:min h 64=h:=(by omega);have e1:min (l i) (min h 15)=h:=(by omega);have g3:=g2.2;rw[e1] at g3;rw[e0] at i1;obtain⟨j,j1,j2⟩:=zhP ht g1 g2.1 (show h<l i by omega) (Nat.mod_lt X (Nat.two_pow_pos h)) (by rw[Nat.mod_mod];exact g3);exact i1 j j1 j2
   · rw[if_neg g]
theorem z2A{l:Nat->Nat}{n X h:Nat}(hf:Fit l n):(∃i,i<n/\l i≠0/\l i<=h/\X%2^l i=rc l n i/\lk l n X h=(i,l i,0))\/lk l n X h=(0,0,6)\/lk l n X h=(0,0,7):=by
 unfold lk;rcases z1k l n (X%2^min h 64) n with⟨i,i1,i2,i3⟩|⟨i1,i2⟩
 · rw[i3,if_neg i2.1]
   by_cases g:h<l i
   · rw[if_pos g];exact .inr (.inl rfl)
   · have:=hf.1.2 i i1
     rw[if_neg g];exact .inl ⟨i,i1,i2.1,by omega,((zfV (by omega)).1 i2).2,rfl⟩
 · rw[i2,if_pos rfl];exact .inr (.inr rfl)
theorem zhb{l:Nat->Nat}{n X h i:Nat}(hf:Fit l n)(hi:i<n)(h0:l i≠0)(hle:l i<=h)(he:X%2^l i=rc l n i):lk l n X h=(i,l i,0):=by
 have:=hf.1.2 i hi;unfold lk;rw[zbG hf hi ((zfV (show l i<=min h 64 by omega)).2 ⟨h0,he⟩),if_neg h0,if_neg (show ¬h<l i by omega)]
end Go.Proofs.YthgilhebnlglkaaGreatDoor.M
namespace Go.Proofs.YthgilhebnlglkaaGreatDoor
open Go.RowKit M
structure Rd(w:World)(B p:Nat)(s:ByteArray)(a:Nat):Prop where
 c0:w.cell? ⟨p,0,none⟩=some (.bool true)
 c1:w.cell? ⟨p,1,none⟩=some (.string s)
 c2:w.cell? ⟨p,2,none⟩=some (.int .i64 a)
 fz:∀i,w.frozen? ⟨p,i,none⟩=false
 base:B<=p
 le:a<=8*s.size
variable {w w':World} {B p a:Nat} {s:ByteArray} {S T:Nat->Prop}
theorem Rd.lt(h:Rd w B p s a):p<w.heap.size:=World.block_lt_of_cell? w _ h.c0
theorem Rd.keep(h:Rd w B p s a)(hk:Kept T w w')(hT:¬T p):Rd w' B p s a:=
 ⟨hk.cell h.c0 hT,hk.cell h.c1 hT,hk.cell h.c2 hT,λi=>(hk.frozen (a:=⟨p,i,none⟩) h.lt hT).trans (h.fz i),h.base,h.le⟩
theorem Rd.same(h:Rd w B p s a)(hk:Kept NoB w w'):Rd w' B p s a:=h.keep hk (λg=>g)
theorem Rd.drewN(h:Rd w B p s a)(n:Nat):Rd (w.drewN n) B p s a:=h.same ((Kept.refl NoB w).drewN n)
theorem z05{i j:Nat}{v:Value}(h:i≠j):(w.setCell ⟨p,i,none⟩ v).cell? ⟨p,j,none⟩=w.cell? ⟨p,j,none⟩:=World.cell?_setCell_other w _ _ _ (λe=>h (by injection e))
theorem z11{i:Nat}{u v:Value}(h:w.cell? ⟨p,i,none⟩=some u):(w.setCell ⟨p,i,none⟩ v).cell? ⟨p,i,none⟩=some v:=World.cell?_setCell_same' w _ _ (by rw[h];rfl)
theorem Rd.put(h:Rd w B p s a)(b:Nat)(hb:b<=8*s.size)(z:Int)(hz:z=(b:Int)):Rd (w.setCell ⟨p,2,none⟩ (.int .i64 z)) B p s b/\Kept (λj=>j=p) w (w.setCell ⟨p,2,none⟩ (.int .i64 z)):=by
 subst hz;refine⟨⟨(z05 (by decide)).trans h.c0,(z05 (by decide)).trans h.c1,z11 h.c2,λi=> ?_,h.base,hb⟩,(Kept.refl (λj=>j=p) w).setCell ⟨p,2,none⟩ (.inl rfl) _⟩;rw[World.frozen?_setCell];exact h.fz i
theorem zda(s:ByteArray)(w:World)(hB:B<=w.heap.size):
 Calls prog 121 #[.string s] w λe w'=>e=.returned (.pointer (some ⟨w.heap.size,0,none⟩))/\Kept NoB w w'/\Rd w' B w.heap.size s 0/\w.heap.size<w'.heap.size:=by
 go_enter func121,ntmps121;go_wp2;go_ret;exact⟨rfl,(Kept.refl _ _).alloc _,⟨by simp,by simp,by simp,λi=>by simp,hB,qZ⟩,by simp⟩
theorem z0u(p:Nat)(w:World)(hc:w.cell? ⟨p,0,none⟩=some (.bool true)):
 Calls prog 172 #[.pointer (some ⟨p,0,none⟩)] w λe w'=>e=.returned (.bool true)/\w=w':=by
 go_enter func172,ntmps172;go_wp2;go_ret;exact⟨rfl,rfl⟩
theorem z4q(x:Int)(w:World)(h1:0<=x)(h2:x<=56):
 Calls prog 249 #[.int .i64 x] w λe w'=>e=.returned (.bool true)/\w=w':=by
 go_enter func249,ntmps249;go_wp2_with fail;go_ret;exact⟨rfl,rfl⟩
theorem z2B(h:Rd w B p s a)(hs:s.size<=100000000):
 Calls prog 250 #[.pointer (some ⟨p,0,none⟩)] w λe w'=>e=.returned (.int .i64 (8*s.size - a:Nat))/\∃n,w'=w.drewN n:=by
 have h0:=h.c0;have h1:=h.c1;have h2:=h.c2;have hle:=h.le;have HL:=qH (show(s.size:Int)*8 - (a:Int)=((8*s.size - a:Nat):Int) by omega);have ha:a<=800000000:=(by omega);clear h hle;go_enter func250,ntmps250;go_wp2_with (go_at_call 172;refine(z0u p _ h0).mono ?_;rintro e w' ⟨rfl,rfl⟩)
 go_quiet (fail)
 go_wp2;go_ret;exact⟨congrArg (λz=>Ending.returned (.int .i64 z)) HL.o,_,rfl⟩
theorem zjo(h:Rd w B p s a):
 Calls prog 124 #[.pointer (some ⟨p,0,none⟩)] w λe w'=>e=.returned (.int .i64 a)/\w=w':=by
 have h0:=h.c0;have h2:=h.c2;clear h;go_enter func124,ntmps124;go_wp2_with (go_at_call 172;refine(z0u p _ h0).mono ?_;rintro e w' ⟨rfl,rfl⟩);go_ret;exact⟨rfl,rfl⟩
theorem zkq(n:Nat)(h:n<=4611686018427387000):up n 8/8=(((n+7) /8:Nat):Int)/\0<=up n 8:=by
 unfold up;by_cases h1:n=0
 · subst h1;decide
 · rw[if_neg (by omega),if_neg (by omega)]
   omega
theorem whole_any(h:Rd w B p s a)(hs:s.size<=100000000):
 Calls prog 173 #[.pointer (some ⟨p,0,none⟩)] w λe w'=>e=.returned (.int .i64 ((a+7) /8:Nat))/\w=w':=by
 have h2:=h.c2;have hle:=h.le;have ha:a<=800000000:=(by omega);have h8:=(zkq a (by omega)).2;have H:=qH (zkq a (by omega)).1;have hr:=z70 a 8;clear h hle;go_enter func173,ntmps173;go_wp2_with (go_at_call 222;refine(zeY a 8 _ (by omega) (by omega)).mono ?_;rintro e w' ⟨rfl,rfl⟩);go_ret;exact⟨congrArg (λz=>Ending.returned (.int .i64 z)) H.o,rfl⟩
end Go.Proofs.YthgilhebnlglkaaGreatDoor
namespace Go.Proofs.YthgilhebnlglkaaGreatDoor.I
open M
abbrev St:=Nat×List UInt8
def Rm(α:Type):=ByteArray->Nat->Nat->St->Except Nat (α×St)
def pur{α:Type}(a:α):Rm α:=λ_ _ _ x=> .ok (a,x)
def bnd{α β:Type}(r:Rm α)(f:α->Rm β):Rm β:=λs D L x=>
 match r s D L x with
 |.ok (a,y)=>f a s D L y
 |.error e=> .error e
def fl{α:Type}(e:Nat):Rm α:=λ_ _ _ _=> .error e
def bits(n:Nat):Rm Nat:=λs _ _ x=>if x.1+n<=8*s.size then .ok (nb s x.1 n,(x.1+n,x.2)) else .error 6
def lok(l:Nat->Nat)(n:Nat)(s:ByteArray)(a:Nat):Nat×Nat×Nat:=lk l n (nb s a (min 15 (8*s.size - a))) (min 15 (8*s.size - a))
instance (l:Nat->Nat) (n:Nat):Decidable (Tbl l n):=inferInstanceAs (Decidable (kind l n=0\/kind l n=1\/kind l n=2))
def nxt(l:Nat->Nat)(n:Nat):Rm Nat:=λs _ _ x=>
 if Tbl l n then
  if(lok l n s x.1).2.2=0 then .ok ((lok l n s x.1).1,(x.1+(lok l n s x.1).2.1,x.2)) else .error (if(lok l n s x.1).2.2=7 then 163 else(lok l n s x.1).2.2)
 else .error 0
def algn:Rm Unit:=λ_ _ _ x=> .ok ((),(8*((x.1+7) /8),x.2))
def byt(s:ByteArray)(p n:Nat):List UInt8:=(s.data.toList.drop p).take n
def byts(n:Nat):Rm (List UInt8):=λs _ _ x=>if(x.1+7) /8+n<=s.size then .ok (byt s ((x.1+7) /8) n,(8*((x.1+7) /8+n),x.2)) else .error 6
def app(l:List UInt8):Rm Unit:=λ_ D L x=>if L<x.2.length - D+l.length then .error 5 else .ok ((),(x.1,x.2++l))
def gr(b:List UInt8)(d:Nat):Nat->List UInt8
 |0=>b
 |k+1=>gr b d k++[(gr b d k).getD ((gr b d k).length - d) 0]
theorem z0o(b:List UInt8)(d:Nat):∀k,(gr b d k).length=b.length+k
 |0=>rfl
 |k+1=>by simp only[gr,qA,qC,List.length_nil,z0o b d k];omega
def copy(t k:Nat):Rm Unit:=λ_ D L x=>if x.2.length<t then .error 164 else if L<x.2.length - D+k then .error 5 else .ok ((),(x.1,gr x.2 t k))
def loopR{α β:Type}(f:α->Rm (α ⊕ β)):Nat->α->Rm β
 |0,_=>fl 0
 |k+1,a=>bnd (f a) λr=>match r with
  |.inl a=>loopR f k a
  |.inr b=>pur b
def lenR(y:Nat):Rm Nat:=bnd (bits (if y<=285 then lb (y - 257) else 0)) λe=>if 285<y\/lof (y - 257) e=0 then fl 163 else pur (lof (y - 257) e)
def dstR(z:Nat):Rm Nat:=bnd (bits (if z<=29 then db z else 0)) λe=>if 29<z\/dof z e=0 then fl 163 else pur (dof z e)
def matR(y:Nat)(d:Nat->Nat)(m:Nat):Rm (Unit ⊕ Unit):=bnd (lenR y) λk=>bnd (nxt d m) λz=>bnd (dstR z) λt=>bnd (copy t k) λ_=>pur (.inl ())
def sym1(l:Nat->Nat)(n:Nat)(d:Nat->Nat)(m:Nat):Unit->Rm (Unit ⊕ Unit):=λ_=>bnd (nxt l n) λy=>
 if y<256 then bnd (app [UInt8.ofNat y]) λ_=>pur (.inl ()) else if y=256 then pur (.inr ()) else matR y d m
def syms(K:Nat)(l:Nat->Nat)(n:Nat)(d:Nat->Nat)(m:Nat):Rm Unit:=loopR (sym1 l n d m) K ()
def stor:Rm Unit:=bnd algn λ_=>bnd (bits 16) λn=>bnd (bits 16) λt=>if n+t≠65535 then fl 161 else bnd (byts n) λb=>app b
def od:List Nat:=[16,17,18,0,8,7,9,6,10,5,11,4,12,3,13,2,14,1,15]
def ownR:Nat->Nat->(Nat->Nat)->Rm (Nat->Nat)
 |0,_,g=>pur g
 |k+1,i,g=>bnd (bits 3) λx=>ownR k (i+1) (λj=>if j=od.getD i 0 then x else g j)
def rbm(s:Nat):Nat:=if s<16 then 0 else if s=16 then 2 else if s=17 then 3 else 7
def len1(l:Nat->Nat)(N:Nat)(all:List Nat):Rm (List Nat ⊕ List Nat):=
 if N<=all.length then pur (.inr all) else bnd (nxt l 19) λy=>bnd (bits (rbm y)) λe=>
  if(y=16/\all=[])\/N<all.length+tms ⟨y,e⟩ then fl 162 else pur (.inl (all++List.replicate (tms ⟨y,e⟩) (vlr all ⟨y,e⟩)))
def lit(all:List Nat):Nat->Nat:=λi=>all.getD i 0
def dis(all:List Nat)(a:Nat):Nat->Nat:=λi=>all.getD (a+i) 0
def tabR(all:List Nat)(a b:Nat):Rm (List Nat×Nat×Nat):=
 if all.getD 256 0=0\/¬Tbl (lit all) a\/¬Tbl (dis all a) b then fl 162 else pur (all,a,b)
def dyn(K:Nat):Rm (List Nat×Nat×Nat):=bnd (bits 5) λa=>bnd (bits 5) λb=>bnd (bits 4) λk=>
 if 286<a+257\/30<b+1 then fl 162 else bnd (ownR (k+4) 0 λ_=>0) λo=>if kind o 19≠2 then fl 162 else
  bnd (loopR (len1 o (a+257+(b+1))) K []) λall=>tabR all (a+257) (b+1)
def fx(j:Nat):Nat:=if j<144 then 8 else if j<256 then 9 else if j<280 then 7 else 8
def body(K k:Nat):Rm Unit:=if k=0 then stor else if k=1 then syms K fx 288 (λ_=>5) 32 else if k=2 then bnd (dyn K) λt=>syms K (lit t.1) t.2.1 (dis t.1 t.2.1) t.2.2 else fl 160
def blk(K:Nat):Unit->Rm (Unit ⊕ Unit):=λ_=>bnd (bits 1) λf=>bnd (bits 2) λk=>bnd (body K k) λ_=>pur (if f=1 then .inr () else .inl ())
def inf(K:Nat):Rm Unit:=loopR (blk K) K ()
def ans(r:Except Nat (Unit×St))(D:Nat):List UInt8×Nat×Nat:=
 match r with
 |.ok (_,y)=>(y.2.drop D,(y.1+7) /8,0)
 |.error e=>([],0,e)
structure Agr(s s':ByteArray)(c:Nat):Prop where
 h1:c<=s.size
 h2:c<=s'.size
 h3:s.data.toList.take c=s'.data.toList.take c
theorem z59:∀ (l m:List UInt8),vl (l++m)=vl l+256^l.length*vl m
 |[],m=>by simp[vl]
 |b::l,m=>by
  simp only[List.cons_append,vl,z59 l m,qC];rw[Nat.pow_succ',Nat.mul_add,Nat.mul_assoc,Nat.add_assoc]
theorem z9C(l:List UInt8)(c:Nat)(h:c<=l.length):vl (l.take c)=vl l%256^c:=by
 have h1:=z59 (l.take c) (l.drop c);rw[List.take_append_drop,List.length_take,Nat.min_eq_left h] at h1;have h2:=zjP (l.take c);rw[List.length_take,Nat.min_eq_left h] at h2;rw[h1,Nat.add_mul_mod_self_left,Nat.mod_eq_of_lt h2]
theorem Agr.tx{s s':ByteArray}{c:Nat}(h:Agr s s' c):M.tx s%2^(8*c)=M.tx s'%2^(8*c):=by
 have g1:=z9C s.data.toList c (by rw[z09];exact h.h1);have g2:=z9C s'.data.toList c (by rw[z09];exact h.h2);rw[h.h3,g2,z8T] at g1;exact g1.symm
theorem zfo(s:ByteArray)(a n:Nat):nb s a n=M.tx s%2^(a+n) /2^a:=by
 unfold nb;rw[Nat.pow_add,Nat.mod_mul_right_div_self]
theorem Agr.nb{s s':ByteArray}{c a n:Nat}(h:Agr s s' c)(ha:a+n<=8*c):M.nb s a n=M.nb s' a n:=by
 rw[zfo,zfo];congr 1;rw[<-Nat.mod_mod_of_dvd (M.tx s) (Nat.pow_dvd_pow 2 ha),h.tx,Nat.mod_mod_of_dvd _ (Nat.pow_dvd_pow 2 ha)]
theorem Agr.byt{s s':ByteArray}{c p n:Nat}(h:Agr s s' c)(hp:p+n<=c):I.byt s p n=I.byt s' p n:=by
 have e:∀l:List UInt8,(l.drop p).take n=((l.take c).drop p).take n:=λl=>by
  rw[List.drop_take,List.take_take,Nat.min_eq_left (by omega)]
 unfold I.byt;rw[e,h.h3,<-e]
theorem z16(s:ByteArray){a n m:Nat}(h:m<=n):nb s a n%2^m=nb s a m:=by
 unfold nb;rw[Nat.mod_mod_of_dvd _ (Nat.pow_dvd_pow 2 h)]
theorem ziV{l:Nat->Nat}{n:Nat}{s:ByteArray}{a:Nat}(hf:Fit l n)(h:(lok l n s a).2.2=0)(ha:a<=8*s.size):∃i,i<n/\l i≠0/\a+l i<=8*s.size/\nb s a (l i)=rc l n i/\lok l n s a=(i,l i,0):=by
 rcases z2A (l:=l) (n:=n) (X:=nb s a (min 15 (8*s.size - a))) (h:=min 15 (8*s.size - a)) hf with⟨i,h1,h2,h3,h4,h5⟩|h5|h5
 · refine⟨i,h1,h2,by omega,?_,h5⟩
   rw[z16 s h3] at h4;exact h4
 · unfold lok at h;rw[h5] at h;cases h
 · unfold lok at h;rw[h5] at h;cases h
theorem zft{l:Nat->Nat}{n:Nat}{s:ByteArray}{a i:Nat}(hf:Fit l n)(hi:i<n)(h0:l i≠0)(ha:a+l i<=8*s.size)(h:nb s a (l i)=rc l n i):lok l n s a=(i,l i,0):=by
 have h15:=hf.1.2 i hi;exact zhb hf hi h0 (by omega) (by rw[z16 s (by omega)];exact h)
theorem zh7{l:Nat->Nat}{n:Nat}{s s':ByteArray}{a i:Nat}(ht:Tbl l n)(hi:i<n)(h0:l i≠0)(ha:a+l i<=8*s.size)(h:nb s a (l i)=rc l n i)
 (hg:Agr s s' s'.size) (h1:a<=8*s'.size) (h2:8*s'.size<a+l i):lok l n s' a=(0,0,6):=by
 have hf:=ht.fit;have h15:=hf.1.2 i hi;have e1:min 15 (8*s'.size - a)=8*s'.size - a:=(by omega);have e2:min (8*s'.size - a) 15=8*s'.size - a:=(by omega);have e3:nb s' a (8*s'.size - a)=nb s a (8*s'.size - a):=(hg.nb (by omega)).symm;unfold lok;rw[e1,e3];have hfts:fts l n (nb s a (8*s'.size - a)) (min (8*s'.size - a) 15) i:=by
  refine⟨h0,?_⟩;rw[e2,Nat.min_eq_right (by omega),z16 s qR,<-h,z16 s (by omega)]
 rw[zbc ht,if_pos]
 · exact(z1Z _ _ _ _ _).2 ⟨i,hi,hfts⟩
 · intro j hj hq hle
   have h15j:=hf.1.2 j hj;have hq2:=hq.2;rw[e2] at hq2 hle;rw[Nat.min_eq_left hle,z16 s hle,Nat.mod_eq_of_lt (rc_lt l n j)] at hq2;have b1:bg l n (nb s a 15) i:=⟨h0,by rw[z16 s h15];exact h⟩;have b2:bg l n (nb s a 15) j:=⟨hq.1,by rw[z16 s h15j];exact hq2⟩;have:=zfT hf hi hj b1 b2;subst this;omega
structure z01{α:Type}(r:Rm α):Prop where
 mono:∀ {s D L x a y},r s D L x=.ok (a,y)->x.1<=y.1/\x.2.length<=y.2.length/\y.2.take x.2.length=x.2
 inn:∀ {s D L x a y},r s D L x=.ok (a,y)->x.1<=8*s.size->y.1<=8*s.size
 lim:∀ {s D L x a y},r s D L x=.ok (a,y)->D<=x.2.length->x.2.length - D<=L->y.2.length - D<=L
 pre:∀ {s s' D L x a y c},Agr s s' c->r s D L x=.ok (a,y)->x.1<=8*s.size->y.1<=8*c->r s' D L x=.ok (a,y)
 cut:∀ {s s' D L x a y},Agr s s' s'.size->r s D L x=.ok (a,y)->x.1<=8*s'.size->8*s'.size<y.1->r s' D L x=.error 6
 less:∀ {s D L x a y L'},r s D L x=.ok (a,y)->D<=x.2.length->x.2.length - D<=L'->r s D L' x=if y.2.length - D<=L' then .ok (a,y) else .error 5
theorem zgj{l m k:List UInt8}(h1:m.take l.length=l)(h2:k.take m.length=m)(h:l.length<=m.length):k.take l.length=l:=
 (by rw[List.take_take,Nat.min_eq_left h]:k.take l.length=(k.take m.length).take l.length).trans (by rw[h2,h1])
theorem z01.pur{α:Type}(a:α):z01 (pur a) where
 mono h:=by cases h;exact⟨qR,qR,List.take_length⟩
 inn h g:=by cases h;exact g
 lim h _ g:=by cases h;exact g
 pre _ h _ _:=by cases h;rfl
 cut _ h g1 g2:=by cases h;omega
 less h _ g:=by cases h;rw[if_pos g];rfl
theorem z01.fl{α:Type}(e:Nat):z01 (fl e:Rm α) where
 mono h:=by cases h
 inn h:=by cases h
 lim h _:=by cases h
 pre _ h:=by cases h
 cut _ h:=by cases h
 less h _:=by cases h
theorem z0a{α β:Type}{r:Rm α}{f:α->Rm β}{s:ByteArray}{D L:Nat}{x z:St}{b:β}(h:bnd r f s D L x=.ok (b,z)):∃a y,r s D L x=.ok (a,y)/\f a s D L y=.ok (b,z):=by
 unfold bnd at h;cases q:r s D L x with
 |error e=>rw[q] at h;cases h
 |ok p=>rw[q] at h;exact⟨p.1,p.2,rfl,h⟩
theorem z00{α β:Type}{r:Rm α}{f:α->Rm β}{s:ByteArray}{D L:Nat}{x y:St}{a:α}(h:r s D L x=.ok (a,y)):bnd r f s D L x=f a s D L y:=by
 unfold bnd;rw[h]
theorem z03{α β:Type}{r:Rm α}{f:α->Rm β}{s:ByteArray}{D L:Nat}{x:St}{e:Nat}(h:r s D L x=.error e):bnd r f s D L x=.error e:=by
 unfold bnd;rw[h]
theorem z01.bnd{α β:Type}{r:Rm α}{f:α->Rm β}(hr:z01 r)(hf:∀a,z01 (f a)):z01 (bnd r f) where
 mono h:=by
  obtain⟨a,y,h1,h2⟩:=z0a h;obtain⟨g1,g2,g3⟩:=hr.mono h1;obtain⟨k1,k2,k3⟩:=(hf a).mono h2;exact⟨qK g1 k1,qK g2 k2,zgj g3 k3 g2⟩
 inn h g:=by
  obtain⟨a,y,h1,h2⟩:=z0a h;exact(hf a).inn h2 (hr.inn h1 g)
 lim h hD g:=by
  obtain⟨a,y,h1,h2⟩:=z0a h;exact(hf a).lim h2 (qK hD (hr.mono h1).2.1) (hr.lim h1 hD g)
 pre hg h hx hc:=by
  obtain⟨a,y,h1,h2⟩:=z0a h;have k:=((hf a).mono h2).1;rw[z00 (hr.pre hg h1 hx (by omega))];exact(hf a).pre hg h2 (hr.inn h1 hx) hc
 cut {s s' D L x b z} hg h hx hc:=by
  obtain⟨a,y,h1,h2⟩:=z0a h;have hs:=hg.h1;by_cases q:y.1<=8*s'.size
  · rw[z00 (hr.pre hg h1 (by omega) q)]
    exact(hf a).cut hg h2 q hc
  · exact z03 (hr.cut hg h1 hx (by omega))
 less {s D L x b z L'} h hD hx:=by
  obtain⟨a,y,h1,h2⟩:=z0a h;have k:=((hf a).mono h2).2.1;have e1:=hr.less h1 hD hx;by_cases q:y.2.length - D<=L'
  · rw[if_pos q] at e1
    rw[z00 e1];exact(hf a).less h2 (qK hD (hr.mono h1).2.1) q
  · rw[if_neg q] at e1
    rw[z03 e1,if_neg (by omega)]
theorem z01.ite{α:Type}{c:Prop}[Decidable c]{r t:Rm α}(hr:z01 r)(ht:z01 t):z01 (if c then r else t):=by split;exact hr;exact ht
theorem z01.bits(n:Nat):z01 (bits n) where
 mono h:=by
  unfold I.bits at h
  split at h
  · cases h;exact⟨Nat.le_add_right _ _,qR,List.take_length⟩
  · cases h
 inn h g:=by
  unfold I.bits at h
  split at h
  · cases h;assumption
  · cases h
 lim h hD g:=by
  unfold I.bits at h
  split at h
  · cases h;exact g
  · cases h
 pre hg h hx hc:=by
  have h2:=hg.h2;unfold I.bits at h ⊢
  split at h
  · cases h
    simp only at hc;rw[if_pos (by omega),hg.nb hc]
  · cases h
 cut hg h hx hc:=by
  unfold I.bits at h ⊢
  split at h
  · cases h
    simp only at hc;rw[if_neg (by omega)]
  · cases h
 less h hD g:=by
  unfold I.bits at h ⊢
  split at h
  · rename_i q
    cases h;rw[if_pos g,if_pos q]
  · cases h
theorem z15{l:Nat->Nat}{n:Nat}{s:ByteArray}{D L:Nat}{x y:St}{i:Nat}(h:nxt l n s D L x=.ok (i,y))(hx:x.1<=8*s.size):Tbl l n/\i<n/\l i≠0/\x.1+l i<=8*s.size/\nb s x.1 (l i)=rc l n i/\y=(x.1+l i,x.2):=by
 unfold nxt at h
 split at h
 · rename_i ht
   split at h
   · rename_i q
     obtain⟨j,h1,h2,h3,h4,h5⟩:=ziV ht.fit q hx;rw[h5] at h;cases h;exact⟨ht,h1,h2,h3,h4,rfl⟩
   · cases h
 · cases h
theorem zfl{l:Nat->Nat}{n:Nat}{s:ByteArray}{D L:Nat}{x:St}{i:Nat}(ht:Tbl l n)(hi:i<n)(h0:l i≠0)(ha:x.1+l i<=8*s.size)(h:nb s x.1 (l i)=rc l n i):nxt l n s D L x=.ok (i,(x.1+l i,x.2)):=by
 unfold nxt;rw[if_pos ht,zft ht.fit hi h0 ha h,if_pos rfl]
theorem z6o{l:Nat->Nat}{n:Nat}{s:ByteArray}{D L:Nat}{x:St}(h:8*s.size<x.1)(i:Nat)(y:St):nxt l n s D L x=.ok (i,y)->False:=by
 intro q;unfold nxt at q
 split at q
 · rename_i ht
   split at q
   · rename_i g
     unfold lok at g;rw[show min 15 (8*s.size - x.1)=0 by omega] at g;rcases z2A (l:=l) (n:=n) (X:=nb s x.1 0) (h:=0) ht.fit with⟨i,h1,h2,h3,h4,h5⟩|h5|h5
     · omega
     · rw[h5] at g;cases g
     · rw[h5] at g;cases g
   · cases q
 · cases q
theorem z01.nxt(l:Nat->Nat)(n:Nat):z01 (nxt l n) where
 mono {s D L x a y} h:=by
  by_cases hx:x.1<=8*s.size
  · obtain⟨_,_,_,_,_,rfl⟩:=z15 h hx
    exact⟨Nat.le_add_right _ _,qR,List.take_length⟩
  · exact(z6o (by omega) _ _ h).elim
 inn h g:=by
  obtain⟨_,_,_,h3,_,rfl⟩:=z15 h g;exact h3
 lim {s D L x a y} h hD g:=by
  by_cases hx:x.1<=8*s.size
  · obtain⟨_,_,_,h3,_,rfl⟩:=z15 h hx
    exact g
  · exact(z6o (by omega) _ _ h).elim
 pre hg h hx hc:=by
  have h2:=hg.h2;obtain⟨ht,g1,g2,g3,g4,rfl⟩:=z15 h hx;simp only at hc;exact zfl ht g1 g2 (by omega) (by rw[<-hg.nb hc];exact g4)
 cut {s s' D L x a y} hg h hx hc:=by
  have hs:=hg.h1;obtain⟨ht,g1,g2,g3,g4,rfl⟩:=z15 h (by omega);unfold I.nxt;rw[if_pos ht,zh7 ht g1 g2 g3 g4 hg hx hc];rfl
 less {s D L x a y L'} h hD g:=by
  have e:I.nxt l n s D L' x=I.nxt l n s D L x:=rfl;by_cases hx:x.1<=8*s.size
  · rw[e,h]
    obtain⟨_,_,_,_,_,rfl⟩:=z15 h hx;rw[if_pos g]
  · exact(z6o (by omega) _ _ h).elim
theorem z01.algn:z01 algn where
 mono {s D L x a y} h:=by cases h;exact⟨by show x.1<=8*((x.1+7) /8);omega,qR,List.take_length⟩
 inn {s D L x a y} h g:=by cases h;show 8*((x.1+7) /8)<=8*s.size;omega
 lim h _ g:=by cases h;exact g
 pre _ h _ _:=by cases h;rfl
 cut {s s' D L x a y} hg h g1 g2:=by
  cases h
  have:8*s'.size<8*((x.1+7) /8):=g2;omega
 less h _ g:=by cases h;rw[if_pos g];rfl
theorem z49{s:ByteArray}{p n:Nat}(h:p+n<=s.size):(byt s p n).length=n:=by
 have:=z09 s;unfold byt;rw[List.length_take,List.length_drop];omega
theorem z01.byts(n:Nat):z01 (byts n) where
 mono {s D L x a y} h:=by
  unfold I.byts at h
  split at h
  · cases h;exact⟨by show x.1<=8*((x.1+7) /8+n);omega,qR,List.take_length⟩
  · cases h
 inn {s D L x a y} h g:=by
  unfold I.byts at h
  split at h
  · cases h;show 8*((x.1+7) /8+n)<=8*s.size;omega
  · cases h
 lim h hD g:=by
  unfold I.byts at h
  split at h
  · cases h;exact g
  · cases h
 pre hg h hx hc:=by
  have h2:=hg.h2;unfold I.byts at h ⊢
  split at h
  · cases h
    simp only at hc;rw[if_pos (by omega),hg.byt (by omega)]
  · cases h
 cut hg h hx hc:=by
  unfold I.byts at h ⊢
  split at h
  · cases h
    simp only at hc;rw[if_neg (by omega)]
  · cases h
 less h hD g:=by
  unfold I.byts at h ⊢
  split at h
  · rename_i q
    cases h;rw[if_pos g,if_pos q]
  · cases h
theorem z01.app(l:List UInt8):z01 (app l) where
 mono h:=by
  unfold I.app at h
  split at h
  · cases h
  · cases h;exact⟨qR,by simp,by simp⟩
 inn h g:=by
  unfold I.app at h
  split at h
  · cases h
  · cases h;exact g
 lim {s D L x a y} h hD g:=by
  unfold I.app at h
  split at h
  · cases h
  · cases h;simp only[qA];omega
 pre hg h hx hc:=by
  unfold I.app at h ⊢
  split at h
  · cases h
  · rename_i q
    cases h;rw[if_neg q]
 cut hg h hx hc:=by
  unfold I.app at h
  split at h
  · cases h
  · cases h;simp only at hc;omega
 less {s D L x a y L'} h hD g:=by
  unfold I.app at h ⊢
  split at h
  · cases h
  · cases h
    simp only[qA];by_cases q:L'<x.2.length - D+l.length
    · rw[if_pos q,if_neg (by omega)]
    · rw[if_neg q]
      by_cases q2:x.2.length+l.length - D<=L'
      · rw[if_pos q2]
      · exfalso;omega
theorem zbB(b:List UInt8)(d:Nat):∀k,(gr b d k).take b.length=b
 |0=>List.take_length
 |k+1=>by
  rw[gr,List.take_append_of_le_length (by rw[z0o];omega),zbB b d k]
theorem z01.copy(t k:Nat):z01 (copy t k) where
 mono h:=by
  unfold I.copy at h
  split at h
  · cases h
  · split at h
    · cases h
    · cases h;exact⟨qR,by simp only[z0o];omega,zbB _ _ _⟩
 inn h g:=by
  unfold I.copy at h
  split at h
  · cases h
  · split at h
    · cases h
    · cases h;exact g
 lim {s D L x a y} h hD g:=by
  unfold I.copy at h
  split at h
  · cases h
  · split at h
    · cases h
    · cases h;simp only[z0o];omega
 pre hg h hx hc:=by
  unfold I.copy at h ⊢
  split at h
  · cases h
  · split at h
    · cases h
    · rename_i q1 q2
      cases h;rw[if_neg q1,if_neg q2]
 cut hg h hx hc:=by
  unfold I.copy at h
  split at h
  · cases h
  · split at h
    · cases h
    · cases h;simp only at hc;omega
 less {s D L x a y L'} h hD g:=by
  unfold I.copy at h ⊢
  split at h
  · cases h
  · rename_i q1
    split at h
    · cases h
    · cases h
      rw[if_neg q1];simp only[z0o];by_cases q:L'<x.2.length - D+k
      · rw[if_pos q,if_neg (by omega)]
      · rw[if_neg q,if_pos (by omega)]
theorem z01.loopR{α β:Type}{f:α->Rm (α ⊕ β)}(hf:∀a,z01 (f a)):∀k a,z01 (loopR f k a)
 |0,_=>z01.fl 0
 |k+1,a=>z01.bnd (hf a) λr=>match r with
  |.inl a=>z01.loopR hf k a
  |.inr b=>z01.pur b
theorem z01.lenR(y:Nat):z01 (lenR y):=z01.bnd (z01.bits _) λ_=>z01.ite (z01.fl _) (z01.pur _)
theorem z01.dstR(y:Nat):z01 (dstR y):=z01.bnd (z01.bits _) λ_=>z01.ite (z01.fl _) (z01.pur _)
theorem z01.matR(y:Nat)(d:Nat->Nat)(m:Nat):z01 (matR y d m):=z01.bnd (z01.lenR _) λ_=>z01.bnd (z01.nxt _ _) λ_=>z01.bnd (z01.dstR _) λ_=>z01.bnd (z01.copy _ _) λ_=>z01.pur _
theorem z01.sym1(l:Nat->Nat)(n:Nat)(d:Nat->Nat)(m:Nat)(u:Unit):z01 (sym1 l n d m u):=
 z01.bnd (z01.nxt _ _) λ_=>z01.ite (z01.bnd (z01.app _) λ_=>z01.pur _) (z01.ite (z01.pur _) (z01.matR _ _ _))
theorem z01.syms(K:Nat)(l:Nat->Nat)(n:Nat)(d:Nat->Nat)(m:Nat):z01 (syms K l n d m):=z01.loopR (z01.sym1 l n d m) _ _
theorem z01.stor:z01 stor:=z01.bnd z01.algn λ_=>z01.bnd (z01.bits _) λ_=>z01.bnd (z01.bits _) λ_=>z01.ite (z01.fl _) (z01.bnd (z01.byts _) λ_=>z01.app _)
theorem z01.ownR:∀k i g,z01 (ownR k i g)
 |0,_,_=>z01.pur _
 |k+1,i,g=>z01.bnd (z01.bits _) λ_=>z01.ownR k _ _
theorem z01.len1(l:Nat->Nat)(N:Nat)(all:List Nat):z01 (len1 l N all):=
 z01.ite (z01.pur _) (z01.bnd (z01.nxt _ _) λ_=>z01.bnd (z01.bits _) λ_=>z01.ite (z01.fl _) (z01.pur _))
theorem z01.tabR(all:List Nat)(a b:Nat):z01 (tabR all a b):=z01.ite (z01.fl _) (z01.pur _)
theorem z01.dyn(K:Nat):z01 (dyn K):=
 z01.bnd (z01.bits _) λ_=>z01.bnd (z01.bits _) λ_=>z01.bnd (z01.bits _) λ_=>z01.ite (z01.fl _) (z01.bnd (z01.ownR _ _ _) λ_=>z01.ite (z01.fl _) (z01.bnd (z01.loopR (z01.len1 _ _) _ _) λ_=>z01.tabR _ _ _))
theorem z01.body(K k:Nat):z01 (body K k):=z01.ite z01.stor (z01.ite (z01.syms _ _ _ _ _) (z01.ite (z01.bnd (z01.dyn K) λ_=>z01.syms _ _ _ _ _) (z01.fl _)))
theorem z01.blk(K:Nat)(u:Unit):z01 (blk K u):=z01.bnd (z01.bits _) λ_=>z01.bnd (z01.bits _) λ_=>z01.bnd (z01.body K _) λ_=>z01.pur _
theorem z01.inf(K:Nat):z01 (inf K):=z01.loopR (z01.blk K) _ _
theorem ans_ok{r:Except Nat (Unit×St)}{D:Nat}(h:(ans r D).2.2=0)(h0:r≠.error 0):∃y,r=.ok ((),y):=by
 cases r with
 |ok p=>exact⟨p.2,rfl⟩
 |error e=>
  have:e=0:=h;subst this;exact absurd rfl h0
theorem inf_bounds{K D L:Nat}{s:ByteArray}{d:List UInt8}{y:St}(hD:d.length=D)(h:inf K s D L (0,d)=.ok ((),y)):(y.2.drop D).length<=L/\(y.1+7) /8<=s.size/\y.2.take D=d:=by
 have h1:=(z01.inf K).lim h (by simp only;omega) (by simp only;omega);have h2:=(z01.inf K).inn h qZ;obtain⟨_,h3,h4⟩:=(z01.inf K).mono h;simp only at h3 h4;rw[List.length_drop];rw[hD] at h4;exact⟨h1,by omega,h4⟩
theorem z9j{s t b:ByteArray}{n:Nat}(hn:n<=s.size)(e:t=s.extract 0 n++b):Agr s t n/\n<=t.size:=by
 have e1:t.data.toList=s.data.toList.take n++b.data.toList:=by
  subst e;simp
 have hs:=z09 s;have ht:=z09 t;have hl:(s.data.toList.take n).length=n:=(by rw[List.length_take];omega);have h2:n<=t.size:=(by rw[<-ht,e1,qA,hl];omega);refine⟨⟨hn,h2,?_⟩,h2⟩;rw[e1,List.take_append_of_le_length (by omega),List.take_of_length_le (Nat.le_of_eq hl)]
theorem inf_more{K D L L' n:Nat}{s t b:ByteArray}{d:List UInt8}{y:St}(hD:d.length=D)(h:inf K s D L (0,d)=.ok ((),y))(hL:L<=L')(hn:(y.1+7) /8=n)(e:t=s.extract 0 n++b):inf K t D L' (0,d)=.ok ((),y):=by
 have hb:=inf_bounds hD h;obtain⟨h1,_⟩:=z9j (b:=b) (show n<=s.size by omega) e;have h2:=(z01.inf K).pre h1 h qZ (by omega);have h3:=(z01.inf K).less (L':=L') h2 (by simp only;omega) (by simp only;omega);have h4:=hb.1;rw[List.length_drop] at h4
 rwa [if_pos (by omega)] at h3
theorem z1d{α β:Type}{f:α->Rm (α ⊕ β)}{k:Nat}{a a':α}{s:ByteArray}{D L:Nat}{x y:St}(h:f a s D L x=.ok (.inl a',y)):loopR f (k+1) a s D L x=loopR f k a' s D L y:=by
 rw[loopR,z00 h]
theorem z0E{α β:Type}{f:α->Rm (α ⊕ β)}{k:Nat}{a:α}{b:β}{s:ByteArray}{D L:Nat}{x y:St}(h:f a s D L x=.ok (.inr b,y)):loopR f (k+1) a s D L x=.ok (b,y):=by
 rw[loopR,z00 h];rfl
theorem z0f{α β:Type}{f:α->Rm (α ⊕ β)}{k:Nat}{a:α}{e:Nat}{s:ByteArray}{D L:Nat}{x:St}(h:f a s D L x=.error e):loopR f (k+1) a s D L x=.error e:=by
 rw[loopR,z03 h]
def Nz{α:Type}(s:ByteArray)(r:Rm α):Prop:=∀D L x,x.1<=8*s.size->r s D L x≠.error 0
section
variable {s:ByteArray}
theorem Nz.bnd{α β:Type}{r:Rm α}{f:α->Rm β}(hr:Nz s r)(hn:z01 r)(hf:∀D L x a y,x.1<=8*s.size->y.1<=8*s.size->r s D L x=.ok (a,y)->f a s D L y≠.error 0):Nz s (bnd r f):=λD L x hx=>by
 cases q:r s D L x with
 |error e=>
  rw[z03 q];intro h;exact hr D L x hx (by rw[q];injection h with h;rw[h])
 |ok p=>rw[z00 (a:=p.1) (y:=p.2) q];exact hf D L x p.1 p.2 hx (hn.inn (a:=p.1) (y:=p.2) q hx) q
theorem Nz.bind{α β:Type}{r:Rm α}{f:α->Rm β}(hr:Nz s r)(hn:z01 r)(hf:∀a,Nz s (f a)):Nz s (I.bnd r f):=hr.bnd hn λD L x a y _ hy _=>hf a D L y hy
theorem Nz.pur{α:Type}(a:α):Nz s (pur a):=λ_ _ _ _ h=>by cases h
theorem Nz.fl{α:Type}(e:Nat)(he:e≠0):Nz s (fl e:Rm α):=λ_ _ _ _ h=>by injection h with h;exact he h
theorem Nz.ite{α:Type}{c:Prop}[Decidable c]{r t:Rm α}(hr:Nz s r)(ht:Nz s t):Nz s (if c then r else t):=by split;exact hr;exact ht
theorem Nz.bits(n:Nat):Nz s (bits n):=λD L x _ h=>by
 unfold I.bits at h
 split at h<;>cases h
theorem Nz.nxt{l:Nat->Nat}{n:Nat}(ht:Tbl l n):Nz s (nxt l n):=λD L x _ h=>by
 unfold I.nxt at h;rw[if_pos ht] at h
 split at h
 · cases h
 · rename_i q
   injection h with h
   split at h
   · cases h
   · exact q h
theorem Nz.algn:Nz s algn:=λ_ _ _ _ h=>by cases h
theorem Nz.byts(n:Nat):Nz s (byts n):=λD L x _ h=>by
 unfold I.byts at h
 split at h<;>cases h
theorem Nz.app(l:List UInt8):Nz s (app l):=λD L x _ h=>by
 unfold I.app at h
 split at h<;>cases h
theorem Nz.copy(t k:Nat):Nz s (copy t k):=λD L x _ h=>by
 unfold I.copy at h
 split at h
 · cases h
 · split at h<;>cases h
theorem z4E{α β:Type}{f:α->Rm (α ⊕ β)}(h1:∀a,Nz s (f a))(h2:∀a D L x a' y,x.1<=8*s.size->f a s D L x=.ok (.inl a',y)->x.1<y.1/\y.1<=8*s.size):
 ∀ (k:Nat) (a:α) (D L:Nat) (x:St),x.1<=8*s.size->8*s.size - x.1<k->loopR f k a s D L x≠.error 0
 |0,a,D,L,x,hx,hk=>by omega
 |k+1,a,D,L,x,hx,hk=>by
  cases q:f a s D L x with
  |error e=>
   rw[z0f q];intro h;exact h1 a D L x hx (by rw[q];injection h with h;rw[h])
  |ok p=>
   obtain⟨r,y⟩:=p;cases r with
   |inl a'=>
    obtain⟨g1,g2⟩:=h2 a D L x a' y hx q;rw[z1d q];exact z4E h1 h2 k a' D L y g2 (by omega)
   |inr b=>rw[z0E q];intro h;cases h
theorem Nz.lenR(y:Nat):Nz s (lenR y):=(Nz.bits _).bind (z01.bits _) λ_=>Nz.ite (Nz.fl _ (by decide)) (Nz.pur _)
theorem Nz.dstR(y:Nat):Nz s (dstR y):=(Nz.bits _).bind (z01.bits _) λ_=>Nz.ite (Nz.fl _ (by decide)) (Nz.pur _)
variable {l d:Nat->Nat} {n m:Nat}
theorem Nz.matR(y:Nat)(hd:Tbl d m):Nz s (matR y d m):=
 (Nz.lenR y).bind (z01.lenR y) λ_=>(Nz.nxt hd).bind (z01.nxt _ _) λ_=>(Nz.dstR _).bind (z01.dstR _) λ_=>(Nz.copy _ _).bind (z01.copy _ _) λ_=>Nz.pur _
theorem Nz.sym1(hl:Tbl l n)(hd:Tbl d m)(u:Unit):Nz s (sym1 l n d m u):=
 (Nz.nxt hl).bind (z01.nxt _ _) λ_=>Nz.ite ((Nz.app _).bind (z01.app _) λ_=>Nz.pur _) (Nz.ite (Nz.pur _) (Nz.matR _ hd))
theorem zcW{D L:Nat}{x y:St}{u:Unit}{r:Unit ⊕ Unit}(h:sym1 l n d m u s D L x=.ok (r,y))(hx:x.1<=8*s.size):x.1<y.1/\y.1<=8*s.size:=by
 have hin:=(z01.sym1 l n d m u).inn h hx;unfold I.sym1 at h;obtain⟨i,x1,h1,h2⟩:=z0a h;obtain⟨_,_,h0,_,_,rfl⟩:=z15 h1 hx
 have hm:z01 (if i<256 then I.bnd (I.app [UInt8.ofNat i]) λ_=>I.pur (Sum.inl ()) else if i=256 then I.pur (Sum.inr ()) else I.matR i d m:Rm (Unit ⊕ Unit)):=
  z01.ite ((z01.app _).bnd λ_=>z01.pur _) (z01.ite (z01.pur _) (z01.matR _ _ _))
 have:=(hm.mono h2).1;simp only at this;exact⟨by omega,hin⟩
theorem Nz.syms{K:Nat}(hl:Tbl l n)(hd:Tbl d m)(hK:8*s.size<K):Nz s (syms K l n d m):=λD L x hx=>
 z4E (f:=I.sym1 l n d m) (λu=>Nz.sym1 hl hd u) (λu D L x a y hx h=>zcW h hx) K () D L x hx (by omega)
theorem Nz.stor:Nz s stor:=Nz.algn.bind z01.algn λ_=>(Nz.bits _).bind (z01.bits _) λ_=>(Nz.bits _).bind (z01.bits _) λ_=>Nz.ite (Nz.fl _ (by decide)) ((Nz.byts _).bind (z01.byts _) λ_=>Nz.app _)
theorem Nz.ownR:∀ (k i:Nat) (g:Nat->Nat),Nz s (ownR k i g)
 |0,_,g=>Nz.pur g
 |k+1,i,g=>(Nz.bits _).bind (z01.bits _) λx=>Nz.ownR k (i+1) _
theorem Nz.len1{N:Nat}(hl:Tbl l 19)(all:List Nat):Nz s (len1 l N all):=
 Nz.ite (Nz.pur _) ((Nz.nxt hl).bind (z01.nxt _ _) λ_=>(Nz.bits _).bind (z01.bits _) λ_=>Nz.ite (Nz.fl _ (by decide)) (Nz.pur _))
theorem zdW{N D L:Nat}{all all':List Nat}{x y:St}(h:len1 l N all s D L x=.ok (.inl all',y))(hx:x.1<=8*s.size):x.1<y.1/\y.1<=8*s.size:=by
 have hin:=(z01.len1 l N all).inn h hx;unfold I.len1 at h
 split at h
 · cases h
 · obtain⟨i,x1,h1,h2⟩:=z0a h
   obtain⟨_,_,h0,_,_,rfl⟩:=z15 h1 hx;obtain⟨e,x2,h3,h4⟩:=z0a h2;have g1:=((z01.bits _).mono h3).1;simp only at g1
   split at h4
   · cases h4
   · cases h4
     exact⟨by omega,hin⟩
theorem zgk{all:List Nat}{a b D L:Nat}{x y:St}{t:List Nat×Nat×Nat}(h:tabR all a b s D L x=.ok (t,y)):Tbl (lit t.1) t.2.1/\Tbl (dis t.1 t.2.1) t.2.2:=by
 unfold tabR at h
 split at h
 · cases h
 · rename_i q
   cases h
   exact⟨Classical.byContradiction λe=>q (.inr (.inl e)),Classical.byContradiction λe=>q (.inr (.inr e))⟩
theorem Nz.tabR(all:List Nat)(a b:Nat):Nz s (tabR all a b):=Nz.ite (Nz.fl _ (by decide)) (Nz.pur _)
theorem Nz.dyn{K:Nat}(hK:8*s.size<K):Nz s (dyn K):=
 (Nz.bits _).bind (z01.bits _) λa=>(Nz.bits _).bind (z01.bits _) λb=>(Nz.bits _).bind (z01.bits _) λk=>Nz.ite (Nz.fl _ (by decide)) ((Nz.ownR _ _ _).bind (z01.ownR _ _ _) λo=>by
  by_cases ho:kind o 19≠2
  · rw[if_pos ho];exact Nz.fl _ (by decide)
  · rw[if_neg ho]
    have ht:Tbl o 19:=.inr (.inr (Classical.byContradiction ho));refine Nz.bind (λD L x hx=> ?_) (z01.loopR (λa=>z01.len1 _ _ a) _ _) λ_=>Nz.tabR _ _ _
    exact z4E (λall=>Nz.len1 ht all) (λall D L x a y hx h=>zdW h hx) K [] D L x hx (by omega))
theorem zjd{K D L:Nat}{x y:St}{t:List Nat×Nat×Nat}(h:dyn K s D L x=.ok (t,y)):Tbl (lit t.1) t.2.1/\Tbl (dis t.1 t.2.1) t.2.2:=by
 unfold dyn at h;obtain⟨a,x1,h1,h2⟩:=z0a h;obtain⟨b,x2,h3,h4⟩:=z0a h2;obtain⟨k,x3,h5,h6⟩:=z0a h4
 split at h6
 · cases h6
 · obtain⟨o,x4,h7,h8⟩:=z0a h6
   split at h8
   · cases h8
   · obtain⟨all,x5,h9,h10⟩:=z0a h8
     exact zgk h10
theorem Nz.body{K:Nat}(hK:8*s.size<K)(k:Nat):Nz s (body K k):=by
 unfold I.body;refine Nz.ite Nz.stor (Nz.ite (Nz.syms (by decide+kernel) (by decide+kernel) hK) (Nz.ite ((Nz.dyn hK).bnd (z01.dyn K) ?_) (Nz.fl _ (by decide))));intro D L x t y hx hy h;obtain⟨h1,h2⟩:=zjd h;exact Nz.syms h1 h2 hK D L y hy
theorem Nz.blk{K:Nat}(hK:8*s.size<K)(u:Unit):Nz s (blk K u):=
 (Nz.bits _).bind (z01.bits _) λ_=>(Nz.bits _).bind (z01.bits _) λ_=>(Nz.body hK _).bind (z01.body _ _) λ_=>Nz.pur _
theorem zhM{K D L:Nat}{x y:St}{u:Unit}{b:Unit ⊕ Unit}(h:blk K u s D L x=.ok (b,y))(hx:x.1<=8*s.size):x.1<y.1/\y.1<=8*s.size:=by
 have hin:=(z01.blk K u).inn h hx;unfold I.blk at h;obtain⟨f,x1,h1,h2⟩:=z0a h;obtain⟨k,x2,h3,h4⟩:=z0a h2;obtain⟨v,x3,h5,h6⟩:=z0a h4;have m1:=((z01.bits 1).mono h1).1;have m3:=((z01.body K k).mono h5).1;unfold I.bits at h3
 split at h3
 · cases h3
   cases h6
   simp only at m3;exact⟨by omega,hin⟩
 · cases h3
theorem inf_nz{K D L:Nat}{x:St}(hK:8*s.size<K)(hx:x.1<=8*s.size):inf K s D L x≠.error 0:=
 z4E (f:=I.blk K) (λu=>Nz.blk hK u) (λu D L x a y hx h=>zhM h hx) K () D L x hx (by omega)
end
theorem zaY(s:ByteArray)(a x y:Nat):M.nb s a (x+y)=M.nb s a x+M.nb s (a+x) y*2^x:=by
 unfold M.nb;rw[Nat.pow_add 2 a x,<-Nat.div_div_eq_div_mul,Nat.pow_add,Nat.mod_mul,Nat.mul_comm (2^x)]
def wd(s:ByteArray)(a:Nat):Nat->Nat
 |0=>0
 |k+1=>2*wd s a k+M.nb s (a+k) 1
theorem zd5(s:ByteArray)(a:Nat):∀k,rv (M.nb s a k) k=wd s a k
 |0=>rfl
 |k+1=>by
  have h:=zd5 s a k;have hb:=M.nb_lt s (a+k) 1;have hl:=M.nb_lt s a k;obtain⟨b,e⟩:∃b,M.nb s (a+k) 1=b:=⟨_,rfl⟩
  rw[z2t,zaY,wd,e];rw[e] at hb;have e1:(M.nb s a k+b*2^k) /2^k=b:=by
   rw[Nat.add_mul_div_right _ _ (Nat.two_pow_pos k),Nat.div_eq_of_lt hl,Nat.zero_add]
  have e2:rv (M.nb s a k+b*2^k) k=rv (M.nb s a k) k:=by
   rw[<-zf9 _ k k qR,Nat.add_mul_mod_self_right,Nat.mod_eq_of_lt hl]
  have e3:rv b 1=b:=by
   rw[z7i];show b%2*2^0+0=b
   have h1:b<2:=hb;have h2:b%2=b:=Nat.mod_eq_of_lt h1;rw[h2];omega
  rw[e1,e2,e3,h];have:(2:Nat)^1=2:=rfl;rw[this];omega
theorem zi7(s:ByteArray)(a k:Nat):wd s a k<2^k:=by rw[<-zd5];exact z4o _ _
section
variable {l:Nat->Nat} {n i k a:Nat} {s:ByteArray}
theorem z58(hf:Fit l n)(hi:i<n)(hk:k<=l i):cod l n i/2^(l i - k)=wd s a k↔M.nb s a k=rc l n i%2^k:=by
 have hc:=z4O hf.1 hf.2 hi;have h1:rc l n i%2^k=rv (cod l n i/2^(l i - k)) k:=zit hk;have h2:cod l n i/2^(l i - k)<2^k:=by
  rw[Nat.div_lt_iff_lt_mul (Nat.two_pow_pos _),<-Nat.pow_add,show k+(l i - k)=l i by omega];exact hc
 have h3:=M.nb_lt s a k;constructor
 · intro h
   rw[h1,h,<-zd5,zd4,Nat.mod_eq_of_lt h3]
 · intro h
   rw[<-zd5,h,h1,zd4,Nat.mod_eq_of_lt h2]
def Cst(l:Nat->Nat)(n:Nat)(s:ByteArray)(a k:Nat):Prop:=∀i,i<n->l i≠0->l i<k->M.nb s a (l i)≠rc l n i
def Beg(l:Nat->Nat)(n:Nat)(s:ByteArray)(a k i:Nat):Prop:=l i≠0/\k<=l i/\cod l n i/2^(l i - k)=wd s a k
instance (l:Nat->Nat) (n:Nat) (s:ByteArray) (a k i:Nat):Decidable (Beg l n s a k i):=inferInstanceAs (Decidable (_/\_/\_))
theorem Cst.zero:Cst l n s a 0:=λi _ _ h=>by omega
theorem Cst.next(hf:Fit l n)(h:Cst l n s a k)(h2:∀i,i<n->Beg l n s a k i->l i≠k):Cst l n s a (k+1):=λi hi h0 hk=>by
 by_cases q:l i<k
 · exact h i hi h0 q
 · have e:l i=k:=by omega
   intro g;refine h2 i hi ⟨h0,by omega,?_⟩ e;rw[z58 hf hi (by omega),<-e,g,Nat.mod_eq_of_lt (rc_lt l n i)]
variable {D L:Nat} {y:List UInt8}
theorem zew(ht:Tbl l n)(hi:i<n)(ha:a+k<=8*s.size)(hb:Beg l n s a k i)(hk:l i=k):nxt l n s D L (a,y)=.ok (i,(a+k,y)):=by
 subst hk;have h:=(z58 (s:=s) (a:=a) ht.fit hi qR).1 hb.2.2;rw[Nat.mod_eq_of_lt (rc_lt l n i)] at h;exact zfl ht hi hb.1 ha h
theorem z7N(ht:Tbl l n)(hno:∀i,i<n->l i≠0->a+l i<=8*s.size->M.nb s a (l i)≠rc l n i)(ha:a<=8*s.size):
 lok l n s a=if som l n (M.nb s a (min 15 (8*s.size - a))) (min 15 (8*s.size - a)) n=true then(0,0,6) else(0,0,7):=by
 have e:min (min 15 (8*s.size - a)) 15=min 15 (8*s.size - a):=(by omega);unfold lok;rw[zbc ht,e];intro i hi hf hle;rw[e] at hf hle;have h2:=hf.2;rw[Nat.min_eq_left hle,z16 s hle,Nat.mod_eq_of_lt (rc_lt l n i)] at h2;exact hno i hi hf.1 (by omega) h2
theorem zc1(ht:Tbl l n)(ha:a+k<=8*s.size)(hc:Cst l n s a k)(hb:∀i,i<n->¬Beg l n s a k i):nxt l n s D L (a,y)=.error 163:=by
 have hf:=ht.fit;have hno:∀i,i<n->l i≠0->a+l i<=8*s.size->M.nb s a (l i)≠rc l n i:=λi hi h0 _ g=>by
  by_cases q:l i<k
  · exact hc i hi h0 q g
  · refine hb i hi ⟨h0,by omega,(z58 hf hi (by omega)).2 ?_⟩
    rw[<-g,z16 s (by omega)]
 have e:lok l n s a=(0,0,7):=by
  rw[z7N ht hno (by omega),if_neg];rw[z1Z];rintro⟨i,hi,h0,h⟩;have h15:=hf.1.2 i hi;by_cases q:l i<k
  · have em:min (l i) (min 15 (8*s.size - a))=l i:=by omega
    rw[em,z16 s (by omega),Nat.mod_eq_of_lt (rc_lt l n i)] at h;exact hc i hi h0 q h
  · refine hb i hi ⟨h0,by omega,(z58 hf hi (by omega)).2 ?_⟩
    have:=z7H h (k:=k) (by omega);rw[z16 s (by omega)] at this;exact this
 unfold nxt;rw[if_pos ht,show lok l n s ((a,y):St).1=(0,0,7) from e];rfl
theorem zex(ht:Tbl l n)(ha:a+k=8*s.size)(hc:Cst l n s a (k+1))(hi:i<n)(hb:Beg l n s a k i):nxt l n s D L (a,y)=.error 6:=by
 have hf:=ht.fit;have h15:=hf.1.2 i hi;have hno:∀i,i<n->l i≠0->a+l i<=8*s.size->M.nb s a (l i)≠rc l n i:=λi hi h0 h g=>hc i hi h0 (by omega) g
 have hk:k<=l i:=hb.2.1;have e:lok l n s a=(0,0,6):=by
  rw[z7N ht hno (by omega),if_pos];rw[z1Z];refine⟨i,hi,hb.1,?_⟩;have e:min (l i) (min 15 (8*s.size - a))=k:=(by omega);rw[e,z16 s (by omega)];exact(z58 hf hi hk).1 hb.2.2
 unfold nxt;rw[if_pos ht,show lok l n s ((a,y):St).1=(0,0,6) from e];rfl
end
end Go.Proofs.YthgilhebnlglkaaGreatDoor.I
namespace Go.Proofs.YthgilhebnlglkaaGreatDoor.Z
open Go M
def at8(s:ByteArray)(i:Nat):Nat:=(s.data.toList.getD i 0).toNat
theorem z1W(s:ByteArray)(i:Nat):at8 s i<256:=UInt8.toNat_lt _
theorem z3q(s:ByteArray)(i:Nat)(h:i<s.size):s[i].toNat=at8 s i:=by
 unfold at8;have hl:i<s.data.toList.length:=(by rw[Array.length_toList];exact h);rw[List.getD,qE hl];rfl
def sa(s:ByteArray)(o:Nat):Nat->Nat
 |0=>0
 |j+1=>sa s o j*256+at8 s (o+j)
theorem zd3(s:ByteArray)(o:Nat):∀j,sa s o j<256^j
 |0=>by show 0<256^0;decide
 |j+1=>by
  have h1:=zd3 s o j;have h2:=z1W s (o+j);rw[sa,Nat.pow_succ];omega
def sb(n:Nat):ByteArray:=⟨#[UInt8.ofNat (n/16777216),UInt8.ofNat (n/65536%256),UInt8.ofNat (n/256%256),UInt8.ofNat (n%256)]⟩
theorem z2X(s:ByteArray)(o:Nat):sa s o 4=at8 s o*16777216+at8 s (o+1)*65536+at8 s (o+2)*256+at8 s (o+3):=by
 simp only[sa,Nat.add_zero];omega
theorem ziq(s:ByteArray)(o:Nat)(h:o+4<=s.size):s.extract o (o+4)=sb (sa s o 4):=by
 have h1:=z1W s (o+1);have h2:=z1W s (o+2);have h3:=z1W s (o+3);have e:=z2X s o;apply ByteArray.ext;apply Array.ext';have hl:s.data.toList.length=s.size:=Array.length_toList;have hx:(s.extract o (o+4)).data.toList=(s.data.toList.drop o).take 4:=(by simp[List.drop_take]);rw[hx];have g:∀i,i<4->(s.data.toList.drop o)[i]? =some (UInt8.ofNat (at8 s (o+i))):=λi hi=>by
  rw[List.getElem?_drop,qE (by omega)];unfold at8;rw[List.getD,qE (by omega)];simp
 show _=[UInt8.ofNat (sa s o 4/16777216),UInt8.ofNat (sa s o 4/65536%256),UInt8.ofNat (sa s o 4/256%256),UInt8.ofNat (sa s o 4%256)]
 have e0:sa s o 4/16777216=at8 s o:=(by omega);have e1:sa s o 4/65536%256=at8 s (o+1):=(by omega);have e2:sa s o 4/256%256=at8 s (o+2):=(by omega);have e3:sa s o 4%256=at8 s (o+3):=(by omega);rw[e0,e1,e2,e3];apply List.ext_getElem?;intro i;rw[List.getElem?_take];by_cases q:i<4
 · rw[if_pos q,g i q]
   have:i=0\/i=1\/i=2\/i=3:=(by omega);rcases this with rfl|rfl|rfl|rfl<;>rfl
 · rw[if_neg q]
   symm
   rw[List.getElem?_eq_none_iff];simp;omega
theorem zf8{a b:Nat}(ha:a<4294967296)(hb:b<4294967296)(h:sb a=sb b):a=b:=by
 have h1:=congrArg (λx:ByteArray=>x.data.toList.map (·.toNat)) h;simp only[sb,List.map_cons,List.map_nil,List.cons.injEq,and_true,UInt8.toNat_ofNat'] at h1;omega
theorem zir(s:ByteArray)(o n:Nat)(h:o+4<=s.size)(hn:n<4294967296):s.extract o (o+4)=sb n↔sa s o 4=n:=by
 rw[ziq s o h];exact⟨λq=>zf8 (zd3 s o 4) hn q,λq=>by rw[q]⟩
def may(a b:Nat):Prop:=a%16=8/\a/16<=7/\(a*256+b)%31=0
instance (a b:Nat):Decidable (may a b):=inferInstanceAs (Decidable (_/\_/\_))
def dct(s:ByteArray):Nat×Bool×Nat:=
 if s.size<2 then(0,false,6) else if ¬may (at8 s 0) (at8 s 1) then(0,false,170) else if at8 s 1/32%2=0 then(0,false,0) else if s.size<6 then(0,false,6) else(sa s 2 4,true,0)
def ahd(s:ByteArray):Nat:=if(dct s).2.1=true then 6 else 2
def dic(d s:ByteArray):ByteArray:=if(dct s).2.1=true then d else⟨#[]⟩
noncomputable def rdt(d s:ByteArray)(r:List UInt8×Nat×Nat):ByteArray×Nat×Nat:=
 if r.2.2≠0 then(⟨#[]⟩,0,r.2.2) else if s.size<ahd s+r.2.1+4 then(⟨#[]⟩,0,6) else if sa s (ahd s+r.2.1) 4≠adl 1 ⟨r.1.toArray⟩ then(⟨#[]⟩,0,172) else(⟨r.1.toArray⟩,ahd s+r.2.1+4,0)
noncomputable def rdz(d s:ByteArray)(r:List UInt8×Nat×Nat):ByteArray×Nat×Nat:=
 if(dct s).2.2≠0 then(⟨#[]⟩,0,(dct s).2.2) else if(dct s).2.1=true/\(dct s).1≠adl 1 d then(⟨#[]⟩,0,171) else rdt d s r
