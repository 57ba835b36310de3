/- Texts of one place, one behind the other: Math, QmB, QmC, QmE, QmW, Qwr, Str, Qtr. -/
import Derived.Laws.Bits64b
import Derived.IntWalk
import Derived.Lib.AppendStr
import Derived.Test.YtacelhaidcmbcaaGreatDoorProg
import Derived.Test.YtacelhaidcmbcaaGreatDoorTMMathT
import Derived.WalkKit
import Derived.Lib.Hide
import Derived.Outline
set_option linter.unusedVariables false
namespace Go.Proofs.YtacelhaidcmbcaaGreatDoor.M
open Go
def big:Nat:=18446744073709551616
def mk(k:Nat):Nat:=2^k - 1
def rv(n:Nat):Nat→Nat
 |0=>0
 |k+1=>2*rv n k+n/2^k%2
def up(n to:Int):Int:=if n<1∨to<1 then 0 else if 4611686018427387904<((n - 1) /to+1)*to then 0 else((n - 1) /to+1)*to
def le(n:Nat):Nat→List UInt8
 |0=> []
 |k+1=>UInt8.ofNat (n%256)::le (n/256) k
def vl:List UInt8→Nat
 |[]=>0
 |b::r=>b.toNat+256*vl r
theorem zfS(n k:Nat):rv n k<2^k:=by
 induction k with
 |zero=>simp[rv]
 |succ k ih=>simp only[rv,Nat.pow_succ];omega
theorem zgL(n k:Nat):n/2^k/2=n/2^(k+1):=by rw[Nat.div_div_eq_div_mul,Nat.pow_succ]
theorem z9j(n k:Nat):n/256^k/256=n/256^(k+1):=by rw[Nat.div_div_eq_div_mul,Nat.pow_succ]
theorem z7j(a:Nat):IntKind.u64.wrap (a:Int)=((a%18446744073709551616:Nat):Int):=by rw[IntKind.wrap_u64];omega
theorem z2S(a:Nat)(h:a<18446744073709551616):IntKind.u64.wrap (a:Int)=(a:Int):=by rw[z7j];congr 1;omega
theorem z7K{k:Nat}(h:k<64):2*2^k≤18446744073709551616:=by
 have:=Nat.pow_le_pow_right (n:=2) (by decide) h;rw[Nat.pow_succ] at this;have e:(2:Nat)^64=18446744073709551616:=by decide
 omega
theorem z25(k:Nat):(2:Int)^k=((2^k:Nat):Int):=by simp
theorem zdD(m:Nat)(h:m≤64):IntKind.u64.wrap (IntKind.u64.wrap (2^m) - 1)=(mk m:Int):=by
 unfold mk;rw[z25,z7j];have hp:0<2^m:=Nat.two_pow_pos m;by_cases h4:m=64
 · subst h4;decide
 · have h5:=z7K (show m<64 by omega)
   rw[Nat.mod_eq_of_lt (by omega),IntKind.wrap_u64];omega
theorem zh2(a:Nat):a&&&1=a%2:=by
 simp
theorem zhR(t b:Nat)(hb:b<2):2*t|||b=2*t+b:=by
 have:=Nat.two_pow_add_eq_or_of_lt (i:=1) (b:=b) (by simpa using hb) t
 simpa using this.symm
theorem z9Q(n k:Nat)(hn:n<18446744073709551616)(hk:k<64):
 bits .or .u64 (IntKind.u64.wrap ((rv n k:Int)*2)) (bits .and .u64 ((n/2^k:Nat):Int) 1)=(rv n (k+1):Int):=by
 have h1:=zfS n k;have h2:=z7K hk;have h3:n/2^k≤n:=Nat.div_le_self _ _
 have e1:IntKind.u64.wrap ((rv n k:Int)*2)=((2*rv n k:Nat):Int):=by
  rw[show((rv n k:Int)*2)=((2*rv n k:Nat):Int) by omega];exact z2S _ (by omega)
 have e2:bits .and .u64 ((n/2^k:Nat):Int) 1=((n/2^k%2:Nat):Int):=by
  have:=bits_and_u64_nat (n/2^k) 1 (by omega) (by decide);rw[zh2] at this;exact this
 rw[e1,e2,bits_or_u64_nat _ _ (by omega) (by omega),zhR _ _ (by omega)];rfl
theorem z3X(n k:Nat)(hn:n<big)(hk:k<64):
 bits .or .u64 (IntKind.u64.wrap ((rv n k:Int)*2)) (bits .and .u64 ((n:Int) /2^k) 1)=(rv n (k+1):Int):=by
 have h:=z9Q n k hn hk;rw[Int.natCast_ediv,Int.natCast_pow] at h;exact h
theorem z8j(n k:Nat):(n:Int) /2^k/2=(n:Int) /2^(k+1):=by
 rw[z25,z25,←Int.natCast_ediv,←Int.natCast_ediv,←zgL];rfl
theorem z2W(n to:Int)(hn:1≤n)(ht:1≤to):0≤((n - 1) /to+1)*to∧((n - 1) /to+1)*to≤n - 1+to:=by
 have h1:=Int.ediv_mul_le (n - 1) (show to≠0 by omega);have h2:0≤(n - 1) /to:=Int.ediv_nonneg (by omega) (by omega);rw[Int.add_mul,Int.one_mul];refine⟨?_,by omega⟩;have h3:=Int.mul_nonneg h2 (show 0≤to by omega);omega
theorem zft(n to:Int)(h1:1≤n)(h2:1≤to)(h3:n≤9223372036854775807)(h4:to≤9223372036854775807):
 IntKind.u64.wrap (IntKind.u64.wrap ((n - 1) /to+1)*to)=((n - 1) /to+1)*to:=by
 have hq:=z2W n to h1 h2;have h5:0≤(n - 1) /to:=Int.ediv_nonneg (by omega) (by omega);have h6:(n - 1) /to≤n - 1:=Int.ediv_le_self _ (by omega);rw[IntWalk.u64_in ((n - 1) /to+1) ⟨by omega,by omega⟩,IntWalk.u64_in _ ⟨by omega,by omega⟩]
def zee(l:List UInt8):ByteArray:=⟨l.toArray⟩
theorem le_length(n k:Nat):(le n k).length=k:=by
 induction k generalizing n with
 |zero=>rfl
 |succ k ih=>simp[le,ih]
theorem zgz(n k:Nat):le n k=(List.range k).map fun j=>UInt8.ofNat (n/256^j%256):=by
 induction k generalizing n with
 |zero=>rfl
 |succ k ih=>
  rw[le,ih,List.range_succ_eq_map,List.map_cons,List.map_map];congr 1
  · simp
  · apply List.map_congr_left
    intro j _;simp only[Function.comp];rw[Nat.div_div_eq_div_mul,Nat.pow_succ',Nat.mul_comm]
theorem z9h(ns:List Int)(s:ByteArray):ns.foldl (fun r n=>r.push (UInt8.ofNat n.toNat)) s=⟨(s.data.toList++ns.map fun n=>UInt8.ofNat n.toNat).toArray⟩:=by
 induction ns generalizing s with
 |nil=>simp
 |cons n ns ih=>
  rw[List.foldl_cons,ih];simp[ByteArray.push]
theorem zfq(l:List UInt8)(b:UInt8):vl (l++[b])=vl l+256^l.length*b.toNat:=by
 induction l with
 |nil=>simp[vl]
 |cons x l ih=>
  simp only[List.cons_append,vl,ih,qC,Nat.pow_succ];rw[Nat.mul_add,Nat.mul_comm (256^l.length) 256,Nat.mul_assoc];omega
theorem ziJ(l:List UInt8):vl l<256^l.length:=by
 induction l with
 |nil=>simp[vl]
 |cons x l ih=>
  have:=x.toNat_lt;simp only[vl,qC,Nat.pow_succ];omega
theorem z1i(s:ByteArray):s.data.toList.length=s.size:=by rw[Array.length_toList];rfl
theorem zgT(s:ByteArray)(i:Nat)(h:i<s.size):s.data.toList[i]'(by rw[z1i];exact h)=s[i]:=by
 rw[Array.getElem_toList];rfl
theorem zgk(x b i:Nat)(h:x<2^i):x|||b*2^i=x+2^i*b:=by
 have:=Nat.two_pow_add_eq_or_of_lt h b;rw[Nat.or_comm,Nat.mul_comm b,←this,Nat.add_comm]
def bys(N k:Nat):List Int:=(List.range k).map fun j=>((N/256^j%256:Nat):Int)
theorem z9t(N k:Nat):(bys N k).length=k:=by simp[bys]
theorem zfe(N k:Nat):(bys N k).map (fun n=>UInt8.ofNat n.toNat)=le N k:=by
 rw[zgz];unfold bys;rw[List.map_map];apply List.map_congr_left
 intro j _;simp only[Function.comp];rw[Int.toNat_natCast]
theorem zcz(n to:Int):0≤up n to∧up n to≤4611686018427387904:=by
 unfold up
 split
 · omega
 · rename_i h
   have g:=z2W n to (by omega) (by omega)
   split<;>omega
theorem zeT(n a:Nat):le (n%256^a) a=le n a:=by
 induction a generalizing n with
 |zero=>rfl
 |succ a ih=>
  simp only[le]
  have h1:n%256^(a+1)%256=n%256:=by
   rw[Nat.pow_succ',Nat.mod_mul_right_mod]
  have h2:n%256^(a+1) /256=n/256%256^a:=by
   rw[Nat.pow_succ',Nat.mod_mul_right_div_self]
  rw[h1,h2,ih]
theorem zi7(n a b:Nat):le n (a+b)=le n a++le (n/256^a) b:=by
 induction a generalizing n with
 |zero=>simp[le]
 |succ a ih=>
  rw[show a+1+b=(a+b)+1 by omega];simp only[le,List.cons_append];rw[ih,Nat.div_div_eq_div_mul,Nat.pow_succ']
theorem bstr_size(l:List UInt8):(zee l).size=l.length:=by simp[zee,ByteArray.size]
theorem zj5(l:List UInt8):le (vl l) l.length=l:=by
 induction l with
 |nil=>rfl
 |cons b r ih=>
  have hb:=b.toNat_lt;have e1:(b.toNat+256*vl r)%256=b.toNat:=by omega
  have e2:(b.toNat+256*vl r) /256=vl r:=by omega
  simp only[qC,le,vl];rw[e1,e2,ih,UInt8.ofNat_toNat]
def z5l(most:Int)(V L N:Nat)(size:Int):Int×Nat×Nat:=
 if 0≤size∧size≤56∧N<2^size.toNat then
  if(((L+size.toNat+7) /8:Nat):Int)≤most then(0,V+N*2^L,L+size.toNat) else(4,V,L)
 else(2,V,L)
def z0m(L:Nat):Nat:=8*((L+7) /8)
def zcc(most:Int)(V L:Nat)(s:ByteArray):Int×Nat×Nat:=
 if(((L+7) /8+s.size:Nat):Int)≤most then(0,V+vl s.data.toList*2^z0m L,z0m L+8*s.size) else(4,V,L)
def z1P(V L:Nat):ByteArray:=zee (le V ((L+7) /8))
theorem z3v{most:Int}{V L N s:Nat}(h1:s≤56)(h2:N<2^s)(h3:(((L+s+7) /8:Nat):Int)≤most):z5l most V L N s=(0,V+N*2^L,L+s):=by
 unfold z5l;rw[if_pos ⟨by omega,by omega,by simpa using h2⟩,Int.toNat_natCast,if_pos h3]
theorem z2r{most:Int}{V L N s:Nat}(h1:s≤56)(h2:N<2^s)(h3:¬(((L+s+7) /8:Nat):Int)≤most):z5l most V L N s=(4,V,L):=by
 unfold z5l;rw[if_pos ⟨by omega,by omega,by simpa using h2⟩,Int.toNat_natCast,if_neg h3]
theorem zcl{most:Int}{V L N:Nat}{size:Int}(h:¬(0≤size∧size≤56∧N<2^size.toNat)):z5l most V L N size=(2,V,L):=if_neg h
theorem z4n{most:Int}{V L:Nat}{s:ByteArray}(h:(((L+7) /8+s.size:Nat):Int)≤most):zcc most V L s=(0,V+vl s.data.toList*2^z0m L,z0m L+8*s.size):=if_pos h
theorem z3t{most:Int}{V L:Nat}{s:ByteArray}(h:¬(((L+7) /8+s.size:Nat):Int)≤most):zcc most V L s=(4,V,L):=if_neg h
theorem zhP(k:Nat):(256:Nat)^k=2^(8*k):=by rw[Nat.pow_mul]
theorem zb0{V L N s:Nat}(hV:V<2^L)(hN:N<2^s):V+N*2^L<2^(L+s):=by
 have h:(N+1)*2^L≤2^s*2^L:=Nat.mul_le_mul_right _ hN;rw[Nat.add_mul,Nat.one_mul,←Nat.pow_add,Nat.add_comm s L] at h;omega
theorem z5F{L j:Nat}(h:8*j≤L):2^L=256^j*2^(L - 8*j):=by
 rw[zhP,←Nat.pow_add];congr 1;omega
theorem z7X{V L N k:Nat}(h:8*k≤L):(V+N*2^L) /256^k=V/256^k+N*2^(L - 8*k):=by
 rw[z5F h,show N*(256^k*2^(L - 8*k))=256^k*(N*2^(L - 8*k)) by rw[Nat.mul_left_comm]];exact Nat.add_mul_div_left _ _ (Nat.pow_pos (by decide))
theorem zfp{V L k:Nat}(hV:V<2^L)(h:8*k≤L):V/256^k<2^(L - 8*k):=by
 apply Nat.div_lt_of_lt_mul
 rw[←z5F h];exact hV
theorem z5Q{a b:Nat}(h:a≤b):2^a≤2^b:=Nat.pow_le_pow_right (by decide) h
theorem zgj{V L N k s m:Nat}(hV:V<2^L)(hk:8*k≤L)(hm:L - 8*k=m)(hm7:m≤7)(hN:N<2^s)(hs:s≤56):
 bits .or .u64 ((V/256^k:Nat):Int) (IntKind.u64.wrap ((N:Int)*2^m))=(((V+N*2^L) /256^k:Nat):Int):=by
 have hw:=zfp hV hk;rw[hm] at hw
 have h2:N*2^m<2^(s+m):=by
  rw[Nat.pow_add];exact Nat.mul_lt_mul_of_pos_right hN (Nat.two_pow_pos m)
 have h3:2^(s+m)≤2^63:=z5Q (by omega);have h4:2^m≤2^7:=z5Q hm7;have e63:(2:Nat)^63=9223372036854775808:=by decide
 rw[z25,←Int.natCast_mul,z2S _ (by omega),bits_or_u64_nat _ _ (by omega) (by omega),zgk _ _ _ hw,z7X hk,hm,Nat.mul_comm]
theorem zec{V L N k:Nat}(h:8*k≤L):bys (V+N*2^L) k=bys V k:=by
 unfold bys;apply List.map_congr_left
 intro j hj;have hj':j<k:=List.mem_range.1 hj
 have e:(V+N*2^L) /256^j%256=V/256^j%256:=by
  rw[z7X (by omega),show L - 8*j=(L - 8*j - 8)+8 by omega,Nat.pow_add,←Nat.mul_assoc];show(V/256^j+_*256)%256=_
  exact Nat.add_mul_mod_self_right _ _ _
 rw[e]
theorem z8o(V k:Nat):bys V (k+1)=bys V k++[((V/256^k%256:Nat):Int)]:=by
 unfold bys;rw[List.range_succ,List.map_append];rfl
theorem ze2(V k:Nat):V/256^k/256=V/256^(k+1):=z9j V k
theorem z6g(V k:Nat):bys V k=(le V k).map fun b=>(b.toNat:Int):=by
 rw[zgz];unfold bys;rw[List.map_map];apply List.map_congr_left
 intro j _;simp
theorem zgy(V q:Nat)(s:ByteArray)(hV:V<256^q):le (V+vl s.data.toList*256^q) (q+s.size)=le V q++s.data.toList:=by
 have hp:0<256^q:=Nat.pow_pos (by decide);rw[zi7]
 have h1:le (V+vl s.data.toList*256^q) q=le V q:=by
  rw[←zeT (V+vl s.data.toList*256^q) q,Nat.add_mul_mod_self_right,zeT]
 have h2:(V+vl s.data.toList*256^q) /256^q=vl s.data.toList:=by
  rw[Nat.add_mul_div_right _ _ hp,Nat.div_eq_of_lt hV,Nat.zero_add]
 rw[h1,h2];have h3:=zj5 s.data.toList;rw[z1i] at h3;rw[h3]
theorem z9p(V q:Nat)(s:ByteArray)(hV:V<256^q):
 (bys V q).map (Value.int .u8)++Lib.strCells s=(bys (V+vl s.data.toList*256^q) (q+s.size)).map (Value.int .u8):=by
 rw[z6g,z6g,zgy V q s hV];simp[Lib.strCells]
theorem z8L{V L:Nat}(h:L%8=0):z1P V L=zee (le V (L/8)):=by
 unfold z1P;rw[show(L+7) /8=L/8 by omega]
theorem z9U{V L:Nat}(h:L%8≠0):z1P V L=zee ((bys V (L/8)++[((V/256^(L/8)%256:Nat):Int)]).map fun n=>UInt8.ofNat n.toNat):=by
 unfold z1P;rw[show(L+7) /8=L/8+1 by omega,←z8o,zfe]
theorem z5w(s:ByteArray)(k:Nat)(h:k<s.size):vl (s.data.toList.take (k+1))=vl (s.data.toList.take k)+s[k].toNat*256^k:=by
 have hl:=z1i s;rw[List.take_succ_eq_append_getElem (by omega),zfq,List.length_take,show min k s.data.toList.length=k by omega,zgT s k h,Nat.mul_comm]
theorem z6t(s:ByteArray):vl (s.data.toList.take s.size)=vl s.data.toList:=by
 rw[List.take_of_length_le (by rw[z1i];exact qR)]
end Go.Proofs.YtacelhaidcmbcaaGreatDoor.M
namespace Go.Proofs.YtacelhaidcmbcaaGreatDoor
open Go.Lib (hid)
open Go.RowKit M
theorem zdE(x:Int)(w:World)(h:x≤0):
 Calls Tryz.prog 122 #[.int .i64 x] w fun e w'=>e=.returned (.int .u64 0)∧w=w':=by
 go_enter Tryz.func122,Tryz.ntmps122;go_wp2;go_ret;exact⟨rfl,rfl⟩
theorem zb5(x:Int)(w:World)(h:0<x):
 Calls Tryz.prog 122 #[.int .i64 x] w fun e w'=>e=.returned (.int .u64 (mk (min x.toNat 64)))∧w=w':=by
 have h0:0≤x:=by omega
 go_enter Tryz.func122,Tryz.ntmps122;go_wp2;go_ret;exact⟨congrArg (fun z=>Ending.returned (.int .u64 z)) (zdD _ (by omega)),rfl⟩
theorem zfv(n to:Int)(w:World)(h:n<1∨to<1):
 Calls Tryz.prog 123 #[.int .i64 n,.int .i64 to] w fun e w'=>e=.returned (.int .i64 (up n to))∧w=w':=by
 have hv:=hid (show up n to=0 by unfold up;rw[if_pos h]);by_cases h1:n<1
 · clear h
   go_enter Tryz.func123,Tryz.ntmps123;go_wp2;go_ret;exact⟨congrArg (fun z=>Ending.returned (.int .i64 z)) hv.out.symm,rfl⟩
 · have h2:to<1:=by omega
   have h3:1≤n:=by omega
   clear h h1;go_enter Tryz.func123,Tryz.ntmps123;go_wp2;go_ret;exact⟨congrArg (fun z=>Ending.returned (.int .i64 z)) hv.out.symm,rfl⟩
theorem zfu(n to:Int)(w:World)(h1:1≤n)(h2:1≤to)(h3:n≤9223372036854775807)(h4:to≤9223372036854775807):
 Calls Tryz.prog 123 #[.int .i64 n,.int .i64 to] w fun e w'=>e=.returned (.int .i64 (up n to))∧w=w':=by
 have hw:=zft n to h1 h2 h3 h4;have hq:=z2W n to h1 h2;have hv:up n to=if 4611686018427387904<((n - 1) /to+1)*to then 0 else((n - 1) /to+1)*to:=by unfold up;rw[if_neg (by omega)]
 by_cases h5:4611686018427387904<((n - 1) /to+1)*to
 · rw[if_pos h5] at hv
   have HV:=hid hv;have hd:4611686018427387904<IntKind.u64.wrap (IntKind.u64.wrap ((n - 1) /to+1)*to):=by rw[hw];exact h5
   clear hv hw hq h5;go_enter Tryz.func123,Tryz.ntmps123;go_wp2;go_ret;exact⟨congrArg (fun z=>Ending.returned (.int .i64 z)) HV.out.symm,rfl⟩
 · rw[if_neg h5] at hv
   have HV:Hid (wrap64 (IntKind.u64.wrap (IntKind.u64.wrap ((n - 1) /to+1)*to))=up n to):=by
    rw[hw,hv];exact IntWalk.wrap64_in _ ⟨by omega,by omega⟩
   have hd:IntKind.u64.wrap (IntKind.u64.wrap ((n - 1) /to+1)*to)≤4611686018427387904:=by rw[hw];omega
   clear hv hw hq h5;go_enter Tryz.func123,Tryz.ntmps123;go_wp2;go_ret;exact⟨congrArg (fun z=>Ending.returned (.int .i64 z)) HV.out,rfl⟩
theorem zhp(n to:Int)(w:World)(h3:n≤9223372036854775807)(h4:to≤9223372036854775807):
 Calls Tryz.prog 123 #[.int .i64 n,.int .i64 to] w fun e w'=>e=.returned (.int .i64 (up n to))∧w=w':=by
 by_cases h:n<1∨to<1
 · exact zfv n to w h
 · exact zfu n to w (by omega) (by omega) h3 h4
theorem zdF(x:Int)(w:World):
 Calls Tryz.prog 122 #[.int .i64 x] w fun e w'=>e=.returned (.int .u64 (mk (min x.toNat 64)))∧w=w':=by
 by_cases h:x≤0
 · rw[show min x.toNat 64=0 by omega]
   exact zdE x w h
 · exact zb5 x w (by omega)
theorem z7Y(K:Nat)(w:World)(hK:K≤64):
 Calls Tryz.prog 122 #[.int .i64 K] w fun e w'=>e=.returned (.int .u64 (mk K))∧w=w':=by
 have h:=zdF K w
 rwa [Int.toNat_natCast,show min K 64=K by omega] at h
end Go.Proofs.YtacelhaidcmbcaaGreatDoor
namespace Go.Proofs.YtacelhaidcmbcaaGreatDoor.M
open Go Go.Lib
theorem z2e{P:Program}(w:World)(base:Nat)(t u ty e:TypeId)(i:TypeInfo)(ht:P.underlying t=some (.slice e))(hu:P.underlying u=some .string)(hi:P.info? e=some i)(hz:i.zero=some (.int .u8 0))
 (hsize:i.size=1) (hby:i.bytes=1) (v:Value) (n:Nat) (xs:List Value) (hown:w.ownsRow base e 1 v n xs) (s:ByteArray) (hs:n+s.size≤1000000000) (hbase:base≤w.heap.size):
 ∃ao c w',(Builtin.append_ #[t,u] ty #[v,.string s]).run P w=.ok (.slice ao (n+s.size) c) w'∧w'.ownsRow base e 1 (.slice ao (n+s.size) c) (n+s.size) (xs++strCells s)∧w.grownBy w' v.ownBlock∧
  ∀a,ao=some a→v.ownBlock=some a.block∨w.heap.size≤a.block:=by
 have h63:n+s.size≤maxLen:=by unfold maxLen;omega
 obtain⟨v',w',hr,h2,h3,_⟩:=run_append_own_string (P:=P) w base t u ty e i ht hu hi hz hsize hby v n xs hown s h63 (by omega) hbase;rcases h2.2 with⟨rfl,hn⟩|⟨g,cap,cur,rfl,hbg,hg,hnc,hcm,hcs,htk⟩
 · refine⟨none,0,w',?_,?_,h3,fun a ha=>by cases ha⟩
   · rw[hn];exact hr
   · rw[hn];rw[hn] at h2;exact h2
 · refine⟨some ⟨g,0,none⟩,cap,w',hr,h2,h3,fun a ha=> ?_⟩
   obtain rfl:(⟨g,0,none⟩:Addr)=a:=by simpa using ha
   show v.ownBlock=some g∨w.heap.size≤g
   have hxl:xs.length=n:=by simpa using hown.1
   rcases hown.2 with⟨rfl,rfl⟩|⟨g0,cap0,cur0,rfl,hb0,hg0,hnc0,hcm0,hcs0,htk0⟩
   · obtain⟨v2,w2,hr2,k2,_,_⟩:=run_append_own_string (P:=P) w w.heap.size t u ty e i ht hu hi hz hsize hby (.slice none 0 0) 0 xs ⟨hown.1,.inl ⟨rfl,rfl⟩⟩ s h63 (by omega) qR
     have he:=hr.symm.trans hr2;injection he with e1 e2
     subst e1;exact .inr (k2.lt g rfl).1
   · by_cases hroom:n+s.size≤cap0
     · have hcs':cur0.size=cap0:=by simpa using hcs0
       have hr2:=run_append_room_string (P:=P) w t u ty e i ht hu hi hsize g0 n cap0 cur0 hg0 s hroom (by omega);have he:=hr.symm.trans hr2;injection he with e1 e2
       injection e1 with e3 e4 e5
       injection e3 with e6
       injection e6 with e7
       exact .inl (by rw[e7];rfl)
     · have hr2:=run_append_grow_string (P:=P) w t u ty e i (.int .u8 0) ht hu hi hz ⟨g0,0,none⟩ n cap0 xs (by rw[hsize];simpa using hxl) (hown.cells (g:=g0) rfl) s (by omega) (by omega) (by rw[hby];exact growslice_fits (by omega) (by omega))
       have he:=hr.symm.trans hr2;injection he with e1 e2
       injection e1 with e3 e4 e5
       injection e3 with e6
       injection e6 with e7
       exact .inr (by rw[e7];exact qR)
theorem z1w{P:Program}{w:World}{ops:Array Oper}{rest:List Oper}{o:Oper}{a:Act}{Q:Exit→Act→World→Prop}(hgd:o.guard=none)(sl x:Operand)(t u:TypeId)
 (ho:o.op=.call {callee:=.builtin .append,args:= #[sl,x],argTypes:= #[t,u]})
 (base:Nat) (e:TypeId) (i:TypeInfo) (ht:P.underlying t=some (.slice e)) (hu:P.underlying u=some .string) (hi:P.info? e=some i) (hz:i.zero=some (.int .u8 0))
 (hsize:i.size=1) (hby:i.bytes=1) (v:Value) (n:Nat) (xs:List Value) (hs:a.eval sl=v) (hown:w.ownsRow base e 1 v n xs) (s:ByteArray) (hx:a.eval x=.string s) (hn:n+s.size≤1000000000) (hbase:base≤w.heap.size)
 (h:∀ao c w',w'.ownsRow base e 1 (.slice ao (n+s.size) c) (n+s.size) (xs++strCells s)→w.grownBy w' v.ownBlock→(∀a,ao=some a→v.ownBlock=some a.block∨w.heap.size≤a.block)→wpList P ops Q rest (a.put o.dst (.slice ao (n+s.size) c)) w'):
 wpList P ops Q (o::rest) a w:=by
 refine wpList_plain hgd fun K hK=> ?_
 obtain⟨ao,c,w',hr,h2,h3,h4⟩:=z2e (P:=P) w base t u o.type e i ht hu hi hz hsize hby v n xs hown s hn hbase;unfold Oper.wp execOp;simp only[ho,resolve,invoke,builtin,Sem.run_bind,Sem.run_pure,Result.andThen_ok,List.map_toArray,List.map_cons,List.map_nil,hs,hx,hr];exact hK _ _ (h ao c w' h2 h3 h4)
end Go.Proofs.YtacelhaidcmbcaaGreatDoor.M
namespace Go.Proofs.YtacelhaidcmbcaaGreatDoor
open Go.Lib (hid)
open Go.RowKit M
theorem z8I(N:Nat)(x:Int)(w:World)(hN:N<big)(hx:64<x):
 Calls Tryz.prog 136 #[.int .u64 N,.int .i64 x] w fun e w'=>e=.returned (.int .u64 (rv N 64))∧w=w':=by
 go_enter Tryz.func136,Tryz.ntmps136;go_wp2
 go_loop [0,5,8] (fun a t i=> ∃k:Nat,k≤64∧i=.int .i64 k∧a=.int .u64 ((N:Int) /2^k)∧t=.int .u64 (rv N k)) (fun _ _ i=>64 - (intOf i).toNat)
 case atStart=>exact⟨0,qZ,rfl,by simp,rfl⟩
 case round=>
  obtain⟨k,hk,rfl,rfl,rfl⟩:=hrel;by_cases hlt:k<64
  · have hs:=hid (z3X N k hN (by omega))
    go_wp2
    go_round
    case rel=>exact⟨k+1,by omega,by go_num,congrArg (Value.int .u64) (z8j N k),congrArg (Value.int .u64) hs.out⟩
    case measure=>simp[intOf];omega
  · obtain rfl:k=64:=by omega
    go_wp2;go_ret;exact⟨rfl,rfl⟩
theorem z8H(N:Nat)(x:Int)(w:World)(hN:N<big)(hx:x≤64):
 Calls Tryz.prog 136 #[.int .u64 N,.int .i64 x] w fun e w'=>e=.returned (.int .u64 (rv N x.toNat))∧w=w':=by
 go_enter Tryz.func136,Tryz.ntmps136;go_wp2
 go_loop [0,5,8] (fun a t i=> ∃k:Nat,k≤x.toNat∧i=.int .i64 k∧a=.int .u64 ((N:Int) /2^k)∧t=.int .u64 (rv N k)) (fun _ _ i=>x.toNat - (intOf i).toNat)
 case atStart=>exact⟨0,qZ,rfl,by simp,rfl⟩
 case round=>
  obtain⟨k,hk,rfl,rfl,rfl⟩:=hrel;by_cases hlt:k<x.toNat
  · have hs:=hid (z3X N k hN (by omega))
    go_wp2
    go_round
    case rel=>exact⟨k+1,by omega,by go_num,congrArg (Value.int .u64) (z8j N k),congrArg (Value.int .u64) hs.out⟩
    case measure=>simp[intOf];omega
  · obtain rfl:k=x.toNat:=by omega
    go_wp2;go_ret;exact⟨rfl,rfl⟩
theorem zcC(n x:Int)(w:World)(h0:0≤n)(hb:n.toNat<big):
 Calls Tryz.prog 136 #[.int .u64 n,.int .i64 x] w fun e w'=>e=.returned (.int .u64 (rv n.toNat (min x.toNat 64)))∧w=w':=by
 obtain⟨N,rfl⟩:=Int.eq_ofNat_of_zero_le h0;rw[Int.toNat_natCast] at hb ⊢;by_cases hx:64<x
 · rw[show min x.toNat 64=64 by omega]
   exact z8I N x w hb hx
 · rw[show min x.toNat 64=x.toNat by omega]
   exact z8H N x w hb (by omega)
end Go.Proofs.YtacelhaidcmbcaaGreatDoor
