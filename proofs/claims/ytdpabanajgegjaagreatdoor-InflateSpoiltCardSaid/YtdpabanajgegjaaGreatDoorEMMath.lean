/- Texts of one place, one behind the other: Math, QmB, QmC, QmW, Qwr, Qtr, NbV, MathG, IfM, IfN, JdM. -/
import Derived.Laws.Bits64b
import Derived.IntWalk
import Derived.Lib.AppendStr
import Derived.Test.YtdpabanajgegjaaGreatDoorProg
import Derived.Test.YtdpabanajgegjaaGreatDoorEMMathT
import Derived.WalkKit
import Derived.Lib.Hide
import Derived.Outline
import Derived.Test.YtdpabanajgegjaaGreatDoorEMMaR
set_option linter.unusedVariables false
set_option linter.unusedSimpArgs false
namespace Go.Proofs.YtdpabanajgegjaaGreatDoor.M
open Go
def big:Nat:=18446744073709551616
def mk(k:Nat):Nat:=2^k - 1
def rv(n:Nat):Nat→Nat
 |0=>0
 |k+1=>2*rv n k+n/2^k%2
def up(n to:Int):Int:=if n<1∨to<1 then 0 else if 4611686018427387904<((n - 1) /to+1)*to then 0 else((n - 1) /to+1)*to
def le(n:Nat):Nat→List UInt8
 |0=> []
 |k+1=>UInt8.ofNat (n%256)::le (n/256) k
def vl:List UInt8→Nat
 |[]=>0
 |b::r=>b.toNat+256*vl r
theorem rv_lt(n k:Nat):rv n k<2^k:=by
 induction k with
 |zero=>simp[rv]
 |succ k ih=>simp only[rv,Nat.pow_succ];omega
theorem div_pow(n k:Nat):n/2^k/2=n/2^(k+1):=by rw[Nat.div_div_eq_div_mul,Nat.pow_succ]
theorem wrap_nat(a:Nat):IntKind.u64.wrap (a:Int)=((a%18446744073709551616:Nat):Int):=by rw[IntKind.wrap_u64];omega
theorem wrap_nat_lt(a:Nat)(h:a<18446744073709551616):IntKind.u64.wrap (a:Int)=(a:Int):=by rw[wrap_nat];congr 1;omega
theorem pow_le64{k:Nat}(h:k≤64):2^k≤18446744073709551616:=by
 have:=Nat.pow_le_pow_right (n:=2) (by decide) h
 simpa using this
theorem pow_lt64{k:Nat}(h:k<64):2*2^k≤18446744073709551616:=by
 have:=Nat.pow_le_pow_right (n:=2) (by decide) h;rw[Nat.pow_succ] at this;have e:(2:Nat)^64=18446744073709551616:=by decide
 omega
theorem cast_pow2(k:Nat):(2:Int)^k=((2^k:Nat):Int):=by simp
theorem mask_val(m:Nat)(h:m≤64):IntKind.u64.wrap (IntKind.u64.wrap (2^m) - 1)=(mk m:Int):=by
 unfold mk;rw[cast_pow2,wrap_nat];have hp:0<2^m:=Nat.two_pow_pos m;by_cases h4:m=64
 · subst h4;decide
 · have h5:=pow_lt64 (show m<64 by omega)
   rw[Nat.mod_eq_of_lt (by omega),IntKind.wrap_u64];omega
theorem mk_lt(k:Nat):mk k<2^k:=by
 unfold mk;have:=Nat.two_pow_pos k;omega
theorem and_one(a:Nat):a&&&1=a%2:=by
 simp
theorem or_bit(t b:Nat)(hb:b<2):2*t|||b=2*t+b:=by
 have:=Nat.two_pow_add_eq_or_of_lt (i:=1) (b:=b) (by simpa using hb) t
 simpa using this.symm
theorem turn_step(n k:Nat)(hn:n<18446744073709551616)(hk:k<64):
 bits .or .u64 (IntKind.u64.wrap ((rv n k:Int)*2)) (bits .and .u64 ((n/2^k:Nat):Int) 1)=(rv n (k+1):Int):=by
 have h1:=rv_lt n k;have h2:=pow_lt64 hk;have h3:n/2^k≤n:=Nat.div_le_self _ _
 have e1:IntKind.u64.wrap ((rv n k:Int)*2)=((2*rv n k:Nat):Int):=by
  rw[show((rv n k:Int)*2)=((2*rv n k:Nat):Int) by omega];exact wrap_nat_lt _ (by omega)
 have e2:bits .and .u64 ((n/2^k:Nat):Int) 1=((n/2^k%2:Nat):Int):=by
  have:=bits_and_u64_nat (n/2^k) 1 (by omega) (by decide);rw[and_one] at this;exact this
 rw[e1,e2,bits_or_u64_nat _ _ (by omega) (by omega),or_bit _ _ (by omega)];rfl
theorem turn_step'(n k:Nat)(hn:n<big)(hk:k<64):
 bits .or .u64 (IntKind.u64.wrap ((rv n k:Int)*2)) (bits .and .u64 ((n:Int) /2^k) 1)=(rv n (k+1):Int):=by
 have h:=turn_step n k hn hk;rw[Int.natCast_ediv,Int.natCast_pow] at h;exact h
theorem div_step(n k:Nat):(n:Int) /2^k/2=(n:Int) /2^(k+1):=by
 rw[cast_pow2,cast_pow2,←Int.natCast_ediv,←Int.natCast_ediv,←div_pow];rfl
theorem up_mul_lt(n to:Int)(hn:1≤n)(ht:1≤to):0≤((n - 1) /to+1)*to∧((n - 1) /to+1)*to≤n - 1+to:=by
 have h1:=Int.ediv_mul_le (n - 1) (show to≠0 by omega);have h2:0≤(n - 1) /to:=Int.ediv_nonneg (by omega) (by omega);rw[Int.add_mul,Int.one_mul];refine⟨?_,by omega⟩;have h3:=Int.mul_nonneg h2 (show 0≤to by omega);omega
theorem up_wrap(n to:Int)(h1:1≤n)(h2:1≤to)(h3:n≤9223372036854775807)(h4:to≤9223372036854775807):
 IntKind.u64.wrap (IntKind.u64.wrap ((n - 1) /to+1)*to)=((n - 1) /to+1)*to:=by
 have hq:=up_mul_lt n to h1 h2;have h5:0≤(n - 1) /to:=Int.ediv_nonneg (by omega) (by omega);have h6:(n - 1) /to≤n - 1:=Int.ediv_le_self _ (by omega);rw[IntWalk.u64_in ((n - 1) /to+1) ⟨by omega,by omega⟩,IntWalk.u64_in _ ⟨by omega,by omega⟩]
def bstr(l:List UInt8):ByteArray:=⟨l.toArray⟩
theorem le_length(n k:Nat):(le n k).length=k:=by
 induction k generalizing n with
 |zero=>rfl
 |succ k ih=>simp[le,ih]
theorem le_eq(n k:Nat):le n k=(List.range k).map fun j=>UInt8.ofNat (n/256^j%256):=by
 induction k generalizing n with
 |zero=>rfl
 |succ k ih=>
  rw[le,ih,List.range_succ_eq_map,List.map_cons,List.map_map];congr 1
  · simp
  · apply List.map_congr_left
    intro j _;simp only[Function.comp];rw[Nat.div_div_eq_div_mul,Nat.pow_succ',Nat.mul_comm]
theorem vl_lt(l:List UInt8):vl l<256^l.length:=by
 induction l with
 |nil=>simp[vl]
 |cons x l ih=>
  have:=x.toNat_lt;simp only[vl,List.length_cons,Nat.pow_succ];omega
theorem size_list(s:ByteArray):s.data.toList.length=s.size:=by rw[Array.length_toList];rfl
theorem byte_at(s:ByteArray)(i:Nat)(h:i<s.size):s.data.toList[i]'(by rw[size_list];exact h)=s[i]:=by
 rw[Array.getElem_toList];rfl
theorem or_high(x b i:Nat)(h:x<2^i):x|||b*2^i=x+2^i*b:=by
 have:=Nat.two_pow_add_eq_or_of_lt h b;rw[Nat.or_comm,Nat.mul_comm b,←this,Nat.add_comm]
def bys(N k:Nat):List Int:=(List.range k).map fun j=>((N/256^j%256:Nat):Int)
theorem rv_zero(k:Nat):rv 0 k=0:=by
 induction k with
 |zero=>rfl
 |succ k ih=>simp[rv,ih]
theorem rv_split(n a b:Nat):rv n (a+b)=rv n a*2^b+rv (n/2^a) b:=by
 induction b with
 |zero=>simp[rv]
 |succ b ih=>
  show 2*rv n (a+b)+n/2^(a+b)%2=rv n a*2^(b+1)+(2*rv (n/2^a) b+n/2^a/2^b%2)
  rw[ih,Nat.div_div_eq_div_mul,←Nat.pow_add,Nat.pow_succ,Nat.mul_add];have:2*(rv n a*2^b)=rv n a*(2^b*2):=by rw[Nat.mul_comm (2^b) 2,←Nat.mul_assoc,←Nat.mul_assoc,Nat.mul_comm 2]
  omega
theorem rv_front(m k:Nat):rv m (k+1)=m%2*2^k+rv (m/2) k:=by
 have:=rv_split m 1 k;rw[Nat.add_comm 1 k] at this
 simpa [rv] using this
theorem mod_pow_succ(n k:Nat):n%2^(k+1)=n%2^k+2^k*(n/2^k%2):=by
 rw[Nat.pow_succ,Nat.mod_mul]
theorem rv_rv(n k:Nat):rv (rv n k) k=n%2^k:=by
 induction k with
 |zero=>simp[rv,Nat.mod_one]
 |succ k ih=>
  rw[rv_front];have e1:rv n (k+1)%2=n/2^k%2:=by simp only[rv];omega
  have e2:rv n (k+1) /2=rv n k:=by simp only[rv];omega
  rw[e1,e2,ih,mod_pow_succ,Nat.mul_comm];omega
theorem rv_mod(n k m:Nat)(h:k≤m):rv (n%2^m) k=rv n k:=by
 induction k with
 |zero=>rfl
 |succ k ih=>
  simp only[rv];rw[ih (by omega)];congr 1;have h1:=Nat.testBit_mod_two_pow n m k;rw[Nat.testBit_eq_decide_div_mod_eq,Nat.testBit_eq_decide_div_mod_eq] at h1;have h2:k<m:=by omega
  simp only[h2,decide_true,Bool.true_and,decide_eq_decide] at h1;omega
theorem and_mk(n k:Nat):n&&&mk k=n%2^k:=Nat.and_two_pow_sub_one_eq_mod n k
theorem mk_big(k:Nat)(h:k≤64):mk k<big:=by
 have h1:=mk_lt k;have h2:=pow_le64 h;unfold big;omega
theorem and_mask(n k:Nat)(hn:n<big)(hk:k≤64):bits .and .u64 (n:Int) (mk k:Int)=((n%2^k:Nat):Int):=by
 rw[bits_and_u64_nat n (mk k) hn (mk_big k hk),and_mk]
theorem up_range(n to:Int):0≤up n to∧up n to≤4611686018427387904:=by
 unfold up
 split
 · omega
 · rename_i h
   have g:=up_mul_lt n to (by omega) (by omega)
   split<;>omega
theorem bstr_size(l:List UInt8):(bstr l).size=l.length:=by simp[bstr,ByteArray.size]
def textR(V L:Nat):ByteArray:=bstr (le V ((L+7) /8))
theorem bys_of_le(V k:Nat):bys V k=(le V k).map fun b=>(b.toNat:Int):=by
 rw[le_eq];unfold bys;rw[List.map_map];apply List.map_congr_left
 intro j _;simp
end Go.Proofs.YtdpabanajgegjaaGreatDoor.M
namespace Go.Proofs.YtdpabanajgegjaaGreatDoor
open Go.Lib (hid)
open Go.RowKit M
theorem mask_low(x:Int)(w:World)(h:x≤0):
 Calls Tryz.prog 198 #[.int .i64 x] w fun e w'=>e=.returned (.int .u64 0)∧w=w':=by
 go_enter Tryz.func198,Tryz.ntmps198;go_wp2;go_ret;exact⟨rfl,rfl⟩
theorem mask_high(x:Int)(w:World)(h:0<x):
 Calls Tryz.prog 198 #[.int .i64 x] w fun e w'=>e=.returned (.int .u64 (mk (min x.toNat 64)))∧w=w':=by
 have h0:0≤x:=by omega
 go_enter Tryz.func198,Tryz.ntmps198;go_wp2;go_ret;exact⟨congrArg (fun z=>Ending.returned (.int .u64 z)) (mask_val _ (by omega)),rfl⟩
theorem up_none(n to:Int)(w:World)(h:n<1∨to<1):
 Calls Tryz.prog 141 #[.int .i64 n,.int .i64 to] w fun e w'=>e=.returned (.int .i64 (up n to))∧w=w':=by
 have hv:=hid (show up n to=0 by unfold up;rw[if_pos h]);by_cases h1:n<1
 · clear h
   go_enter Tryz.func141,Tryz.ntmps141;go_wp2;go_ret;exact⟨congrArg (fun z=>Ending.returned (.int .i64 z)) hv.out.symm,rfl⟩
 · have h2:to<1:=by omega
   have h3:1≤n:=by omega
   clear h h1;go_enter Tryz.func141,Tryz.ntmps141;go_wp2;go_ret;exact⟨congrArg (fun z=>Ending.returned (.int .i64 z)) hv.out.symm,rfl⟩
theorem up_some(n to:Int)(w:World)(h1:1≤n)(h2:1≤to)(h3:n≤9223372036854775807)(h4:to≤9223372036854775807):
 Calls Tryz.prog 141 #[.int .i64 n,.int .i64 to] w fun e w'=>e=.returned (.int .i64 (up n to))∧w=w':=by
 have hw:=up_wrap n to h1 h2 h3 h4;have hq:=up_mul_lt n to h1 h2;have hv:up n to=if 4611686018427387904<((n - 1) /to+1)*to then 0 else((n - 1) /to+1)*to:=by unfold up;rw[if_neg (by omega)]
 by_cases h5:4611686018427387904<((n - 1) /to+1)*to
 · rw[if_pos h5] at hv
   have HV:=hid hv;have hd:4611686018427387904<IntKind.u64.wrap (IntKind.u64.wrap ((n - 1) /to+1)*to):=by rw[hw];exact h5
   clear hv hw hq h5;go_enter Tryz.func141,Tryz.ntmps141;go_wp2;go_ret;exact⟨congrArg (fun z=>Ending.returned (.int .i64 z)) HV.out.symm,rfl⟩
 · rw[if_neg h5] at hv
   have HV:Hid (wrap64 (IntKind.u64.wrap (IntKind.u64.wrap ((n - 1) /to+1)*to))=up n to):=by
    rw[hw,hv];exact IntWalk.wrap64_in _ ⟨by omega,by omega⟩
   have hd:IntKind.u64.wrap (IntKind.u64.wrap ((n - 1) /to+1)*to)≤4611686018427387904:=by rw[hw];omega
   clear hv hw hq h5;go_enter Tryz.func141,Tryz.ntmps141;go_wp2;go_ret;exact⟨congrArg (fun z=>Ending.returned (.int .i64 z)) HV.out,rfl⟩
theorem up_any(n to:Int)(w:World)(h3:n≤9223372036854775807)(h4:to≤9223372036854775807):
 Calls Tryz.prog 141 #[.int .i64 n,.int .i64 to] w fun e w'=>e=.returned (.int .i64 (up n to))∧w=w':=by
 by_cases h:n<1∨to<1
 · exact up_none n to w h
 · exact up_some n to w (by omega) (by omega) h3 h4
theorem mask_any(x:Int)(w:World):
 Calls Tryz.prog 198 #[.int .i64 x] w fun e w'=>e=.returned (.int .u64 (mk (min x.toNat 64)))∧w=w':=by
 by_cases h:x≤0
 · rw[show min x.toNat 64=0 by omega]
   exact mask_low x w h
 · exact mask_high x w (by omega)
theorem mask_nat(K:Nat)(w:World)(hK:K≤64):
 Calls Tryz.prog 198 #[.int .i64 K] w fun e w'=>e=.returned (.int .u64 (mk K))∧w=w':=by
 have h:=mask_any K w
 rwa [Int.toNat_natCast,show min K 64=K by omega] at h
theorem turn_great(N:Nat)(x:Int)(w:World)(hN:N<big)(hx:64<x):
 Calls Tryz.prog 229 #[.int .u64 N,.int .i64 x] w fun e w'=>e=.returned (.int .u64 (rv N 64))∧w=w':=by
 go_enter Tryz.func229,Tryz.ntmps229;go_wp2
 go_loop [0,5,8] (fun a t i=> ∃k:Nat,k≤64∧i=.int .i64 k∧a=.int .u64 ((N:Int) /2^k)∧t=.int .u64 (rv N k)) (fun _ _ i=>64 - (intOf i).toNat)
 case atStart=>exact⟨0,Nat.zero_le _,rfl,by simp,rfl⟩
 case round=>
  obtain⟨k,hk,rfl,rfl,rfl⟩:=hrel;by_cases hlt:k<64
  · have hs:=hid (turn_step' N k hN (by omega))
    go_wp2
    go_round
    case rel=>exact⟨k+1,by omega,by go_num,congrArg (Value.int .u64) (div_step N k),congrArg (Value.int .u64) hs.out⟩
    case measure=>simp[intOf];omega
  · obtain rfl:k=64:=by omega
    go_wp2;go_ret;exact⟨rfl,rfl⟩
theorem turn_small(N:Nat)(x:Int)(w:World)(hN:N<big)(hx:x≤64):
 Calls Tryz.prog 229 #[.int .u64 N,.int .i64 x] w fun e w'=>e=.returned (.int .u64 (rv N x.toNat))∧w=w':=by
 go_enter Tryz.func229,Tryz.ntmps229;go_wp2
 go_loop [0,5,8] (fun a t i=> ∃k:Nat,k≤x.toNat∧i=.int .i64 k∧a=.int .u64 ((N:Int) /2^k)∧t=.int .u64 (rv N k)) (fun _ _ i=>x.toNat - (intOf i).toNat)
 case atStart=>exact⟨0,Nat.zero_le _,rfl,by simp,rfl⟩
 case round=>
  obtain⟨k,hk,rfl,rfl,rfl⟩:=hrel;by_cases hlt:k<x.toNat
  · have hs:=hid (turn_step' N k hN (by omega))
    go_wp2
    go_round
    case rel=>exact⟨k+1,by omega,by go_num,congrArg (Value.int .u64) (div_step N k),congrArg (Value.int .u64) hs.out⟩
    case measure=>simp[intOf];omega
  · obtain rfl:k=x.toNat:=by omega
    go_wp2;go_ret;exact⟨rfl,rfl⟩
theorem turn_any(n x:Int)(w:World)(h0:0≤n)(hb:n.toNat<big):
 Calls Tryz.prog 229 #[.int .u64 n,.int .i64 x] w fun e w'=>e=.returned (.int .u64 (rv n.toNat (min x.toNat 64)))∧w=w':=by
 obtain⟨N,rfl⟩:=Int.eq_ofNat_of_zero_le h0;rw[Int.toNat_natCast] at hb ⊢;by_cases hx:64<x
 · rw[show min x.toNat 64=64 by omega]
   exact turn_great N x w hb hx
 · rw[show min x.toNat 64=x.toNat by omega]
   exact turn_small N x w hb (by omega)
end Go.Proofs.YtdpabanajgegjaaGreatDoor
namespace Go.Proofs.YtdpabanajgegjaaGreatDoor.M
open Go
def tx(s:ByteArray):Nat:=vl s.data.toList
def nb(s:ByteArray)(a n:Nat):Nat:=tx s/2^a%2^n
def galign(a:Nat):Nat:=8*((a+7) /8)
theorem p256'(k:Nat):(256:Nat)^k=2^(8*k):=by rw[Nat.pow_mul]
theorem nb_lt(s:ByteArray)(a n:Nat):nb s a n<2^n:=Nat.mod_lt _ (Nat.two_pow_pos n)
theorem nb_big(s:ByteArray)(a n:Nat)(h:n≤64):nb s a n<big:=by
 have h1:=nb_lt s a n;have h2:=pow_le64 h;unfold big;omega
theorem look_num(T a n:Nat)(h:a%8+n≤64):T/256^(a/8)%256^8/2^(a%8)%2^n=T/2^a%2^n:=by
 have e:T/256^(a/8) /2^(a%8)=T/2^a:=by
  rw[p256',Nat.div_div_eq_div_mul,←Nat.pow_add,Nat.div_add_mod]
 rw[p256' 8,show 8*8=a%8+(64 - a%8) by omega,Nat.pow_add,Nat.mod_mul_right_div_self,e,show 64 - a%8=n+(64 - a%8 - n) by omega,Nat.pow_add,Nat.mod_mul_right_mod]
theorem mod256_succ(N k:Nat):N%256^(k+1)=N%256^k+N/256^k%256*256^k:=by
 rw[Nat.pow_succ,Nat.mod_mul,Nat.mul_comm]
theorem mod256_lt(N k:Nat):N%256^k<2^(8*k):=by rw[←p256'];exact Nat.mod_lt _ (Nat.pow_pos (by decide))
theorem or_byte(N k:Nat)(hk:k<8):
 bits .or .u64 ((N%256^k:Nat):Int) (IntKind.u64.wrap (((N/256^k%256:Nat):Int)*2^(k*8)))=((N%256^(k+1):Nat):Int):=by
 have h1:=mod256_lt N k;have h2:N/256^k%256<256:=Nat.mod_lt _ (by decide);have h3:(2:Nat)^(8*k)≤2^56:=Nat.pow_le_pow_right (by decide) (by omega);have e56:(2:Nat)^56=72057594037927936:=by decide
 have h4:N/256^k%256*2^(8*k)≤255*2^(8*k):=Nat.mul_le_mul_right _ (by omega);rw[Nat.mul_comm k 8,cast_pow2,←Int.natCast_mul,wrap_nat_lt _ (by omega),bits_or_u64_nat _ _ (by omega) (by omega),or_high _ _ _ h1,mod256_succ,p256',Nat.mul_comm (2^(8*k))]
theorem look_end(s:ByteArray)(a n N u r:Nat)(hn:n≤56)(hN:tx s/256^(a/8)=N)(hu:N%256^8=u)(hr:a%8=r):
 bits .and .u64 ((u:Int) /2^min r 64) (mk n:Int)=(nb s a n:Int):=by
 have hu2:u<256^8:=by rw[←hu];exact Nat.mod_lt _ (by decide)
 have e8:(256:Nat)^8=big:=by decide
 have hd:u/2^r≤u:=Nat.div_le_self _ _;rw[show min r 64=r by omega,cast_pow2,←Int.natCast_ediv,and_mask _ _ (by omega) (by omega)];unfold nb;rw[←hu,←hN,←hr,look_num _ _ _ (by omega)]
theorem vl_drop(l:List UInt8)(k:Nat):vl (l.drop k)=vl l/256^k:=by
 induction k generalizing l with
 |zero=>simp
 |succ k ih=>
  cases l with
  |nil=>simp[vl]
  |cons b r=>
   have hb:=b.toNat_lt;rw[List.drop_succ_cons,ih];simp only[vl];rw[Nat.pow_succ',←Nat.div_div_eq_div_mul];congr 1;omega
theorem le_vl_take(l:List UInt8)(m:Nat):le (vl l) m=l.take m++List.replicate (m - l.length) 0:=by
 induction m generalizing l with
 |zero=>simp[le]
 |succ m ih=>
  cases l with
  |nil=>
   have:=ih [];simp only[vl,le,List.take_nil,List.nil_append,List.length_nil,Nat.sub_zero] at this ⊢;rw[List.replicate_succ];congr 1
  |cons b r=>
   have hb:=b.toNat_lt;have e1:(b.toNat+256*vl r)%256=b.toNat:=by omega
   have e2:(b.toNat+256*vl r) /256=vl r:=by omega
   simp only[vl,le];rw[e1,e2,ih,UInt8.ofNat_toNat];simp
end Go.Proofs.YtdpabanajgegjaaGreatDoor.M
namespace Go.Proofs.YtdpabanajgegjaaGreatDoor.M
theorem rv_low{N K m:Nat}(h:m≤K):rv N K%2^m=rv (N/2^(K - m)) m:=by
 have h1:=rv_split N (K - m) m;rw[show K - m+m=K by omega] at h1;rw[h1,Nat.mul_comm,Nat.mul_add_mod,Nat.mod_eq_of_lt (rv_lt _ _)]
theorem rv_high{N a b:Nat}:rv N (a+b) /2^b=rv N a:=by
 rw[rv_split N a b,Nat.mul_comm,Nat.mul_add_div (Nat.two_pow_pos b),Nat.div_eq_of_lt (rv_lt _ _)];rfl
theorem mod_less{a b k m:Nat}(h:a%2^m=b%2^m)(hk:k≤m):a%2^k=b%2^k:=by
 rw[←Nat.mod_mod_of_dvd a (Nat.pow_dvd_pow 2 hk),h,Nat.mod_mod_of_dvd b (Nat.pow_dvd_pow 2 hk)]
theorem mod_mod_le{a k m:Nat}(hk:k≤m):a%2^m%2^k=a%2^k:=Nat.mod_mod_of_dvd _ (Nat.pow_dvd_pow 2 hk)
theorem parts_iff{X c f z:Nat}(hz:f≤z):X%2^z=c%2^z↔(X%2^f=c%2^f∧X/2^f%2^(z - f)=c/2^f%2^(z - f)):=by
 have e:∀a:Nat,a%2^z=a%2^f+2^f*(a/2^f%2^(z - f)):=fun a=>by
  rw[show(2:Nat)^z=2^f*2^(z - f) by rw[←Nat.pow_add];congr 1;omega,Nat.mod_mul]
 constructor
 · intro h
   refine⟨mod_less h hz,?_⟩
   have d:∀a:Nat,a%2^z/2^f=a/2^f%2^(z - f):=fun a=>by
    rw[show(2:Nat)^z=2^f*2^(z - f) by rw[←Nat.pow_add];congr 1;omega,Nat.mod_mul_right_div_self]
   rw[←d,←d,h]
 · rintro⟨h1,h2⟩
   rw[e X,e c,h1,h2]
def Fit(l:Nat→Nat)(n:Nat):Prop:=May l n∧weight l n≤32768
def rc(l:Nat→Nat)(n i:Nat):Nat:=rv (cod l n i) (l i)
def bg(l:Nat→Nat)(n X i:Nat):Prop:=l i≠0∧X%2^l i=rc l n i
instance (l:Nat→Nat) (n X i:Nat):Decidable (bg l n X i):=inferInstanceAs (Decidable (l i≠0∧X%2^l i=rc l n i))
theorem rc_lt(l:Nat→Nat)(n i:Nat):rc l n i<2^l i:=rv_lt _ _
theorem rc_small{l:Nat→Nat}{n i:Nat}(h:l i≤15):rc l n i<32768:=Nat.lt_of_lt_of_le (rc_lt l n i) (Nat.pow_le_pow_right (by omega) h:2^l i≤2^15)
theorem bg_hit{l:Nat→Nat}{n X i:Nat}(hf:Fit l n)(hi:i<n):bg l n X i↔hit l n (rv X 15) i:=by
 have h15:=hf.1.2 i hi;have hc:=cod_fit hf.1 hf.2 hi
 have e:rv X 15/2^(15 - l i)=rv X (l i):=by
  have:=rv_high (N:=X) (a:=l i) (b:=15 - l i)
  rwa [show l i+(15 - l i)=15 by omega] at this
 unfold bg hit;rw[e];constructor
 · rintro⟨h0,h⟩
   refine⟨h0,?_⟩;rw[←rv_mod X (l i) (l i) (Nat.le_refl _),h];unfold rc;rw[rv_rv,Nat.mod_eq_of_lt hc]
 · rintro⟨h0,h⟩
   refine⟨h0,?_⟩;unfold rc;rw[h,rv_rv]
theorem hits_mono(l:Nat→Nat)(n r:Nat){j k:Nat}(h:j≤k):hits l n r j≤hits l n r k:=by
 induction k with
 |zero=>obtain rfl:j=0:=by omega
        exact Nat.le_refl _
 |succ k ih=>
  by_cases e:j=k+1
  · subst e;exact Nat.le_refl _
  · have:=ih (by omega)
    simp only[hits];omega
theorem hits_one{l:Nat→Nat}{n r i k:Nat}(hi:i<k)(h:hit l n r i):hits l n r i+1≤hits l n r k:=by
 have h1:hits l n r (i+1)=hits l n r i+1:=by simp only[hits];rw[if_pos h]
 have h2:=hits_mono l n r (show i+1≤k from hi);omega
theorem bg_one{l:Nat→Nat}{n X i j:Nat}(hf:Fit l n)(hi:i<n)(hj:j<n)(h1:bg l n X i)(h2:bg l n X j):i=j:=by
 rw[bg_hit hf hi] at h1;rw[bg_hit hf hj] at h2;have h3:=hits_all (rv X 15) hf.1;have h4:hits l n (rv X 15) n≤1:=by rw[h3];split<;>omega
 rcases Nat.lt_trichotomy i j with g|g|g
 · have a:=hits_one g h1
   have b:=hits_one hj h2;omega
 · exact g
 · have a:=hits_one g h2
   have b:=hits_one hi h1;omega
theorem hits_none{l:Nat→Nat}{n r:Nat}:∀k,(∀i,i<k→¬hit l n r i)→hits l n r k=0
 |0,_=>rfl
 |k+1,h=>by simp only[hits];rw[hits_none k (fun i hi=>h i (by omega)),if_neg (h k (by omega))]
theorem bg_some{l:Nat→Nat}{n X:Nat}(hf:Fit l n)(h:rv X 15<weight l n):∃i,i<n∧bg l n X i:=by
 apply Classical.byContradiction
 intro g;have h1:=hits_all (rv X 15) hf.1;rw[if_pos h,hits_none n (fun i hi q=>g ⟨i,hi,(bg_hit hf hi).2 q⟩)] at h1;omega
theorem weight_ge(l:Nat→Nat):∀k,16384*cnt l 1 k≤weight l k:=fun k=>by have:=nz_facts l k;omega
theorem weight_more{l:Nat→Nat}:∀k i,i<k→l i≠0→l i≠1→16384*cnt l 1 k+1≤weight l k
 |0,i,h,_,_=>by omega
 |k+1,i,h,h0,h1=>by
  simp only[cnt,weight];by_cases e:i=k
  · subst e
    have:=wt_pos h0;have:=weight_ge l i;rw[if_neg h1];omega
  · have h2:=weight_more k i (by omega) h0 h1
    by_cases g:l k=1
    · rw[if_pos g,show wt (l k)=16384 by rw[g];rfl];omega
    · rw[if_neg g];omega
theorem weight_none{l:Nat→Nat}:∀k,weight l k=0→∀i,i<k→l i=0
 |0,_,i,h=>by omega
 |k+1,hw,i,h=>by
  simp only[weight] at hw;by_cases e:i=k
  · subst e
    apply Classical.byContradiction
    intro g;have:=wt_pos g;omega
  · exact weight_none k (by omega) i (by omega)
theorem kind_one{l:Nat→Nat}{n:Nat}(h:kind l n=1):c0 l n 1=1∧weight l n=16384:=by
 have hm:=kind_may (show kind l n≠5 by omega);rw[kind_of hm] at h;by_cases a:weight l n=0
 · rw[if_pos a] at h;omega
 · rw[if_neg a] at h
   by_cases b:32768<weight l n
   · rw[if_pos b] at h;omega
   · rw[if_neg b] at h
     by_cases c:weight l n=32768
     · rw[if_pos c] at h;omega
     · rw[if_neg c] at h
       by_cases d:c0 l n 1=1∧weight l n=16384
       · exact d
       · rw[if_neg d] at h;omega
def Tbl(l:Nat→Nat)(n:Nat):Prop:=kind l n=0∨kind l n=1∨kind l n=2
theorem Tbl.fit{l:Nat→Nat}{n:Nat}(h:Tbl l n):Fit l n:=kind_fits (by unfold Tbl at h;omega) (by unfold Tbl at h;omega)
theorem bg_goes{l:Nat→Nat}{n X i h:Nat}(ht:Tbl l n)(hi:i<n)(h0:l i≠0)(hh:h<l i)(hX:X<2^h)(he:X%2^h=rc l n i%2^h):∃j,j<n∧bg l n X j:=by
 have hf:=ht.fit;rcases ht with k|k|k
 · exact absurd (weight_none n (kind_zero k) i hi) h0
 · obtain⟨k1,k2⟩:=kind_one k
   have e1:cnt l 1 n=1:=by simpa [c0] using k1
   have hl:l i=1:=by
    apply Classical.byContradiction
    intro g;have:=weight_more n i hi h0 g;omega
   obtain rfl:h=0:=by omega
   obtain rfl:X=0:=by simpa using hX
   exact bg_some hf (by rw[rv_zero];omega)
 · exact bg_some hf (by rw[kind_two k];exact rv_lt X 15)
def fnd(l:Nat→Nat)(n X:Nat):Nat→Nat×Nat
 |0=>(0,0)
 |k+1=>if bg l n X k then(k,l k) else fnd l n X k
theorem fnd_some(l:Nat→Nat)(n X:Nat):∀k,(∃i,i<k∧bg l n X i∧fnd l n X k=(i,l i))∨((∀i,i<k→¬bg l n X i)∧fnd l n X k=(0,0))
 |0=> .inr ⟨fun i h=>by omega,rfl⟩
 |k+1=>by
  by_cases h:bg l n X k
  · exact .inl ⟨k,by omega,h,by simp only[fnd];rw[if_pos h]⟩
  · rcases fnd_some l n X k with⟨i,h1,h2,h3⟩|⟨h1,h2⟩
    · exact .inl ⟨i,by omega,h2,by simp only[fnd];rw[if_neg h];exact h3⟩
    · refine .inr ⟨fun i hi=> ?_,by simp only[fnd];rw[if_neg h];exact h2⟩
      by_cases e:i=k
      · subst e;exact h
      · exact h1 i (by omega)
theorem fnd_eq{l:Nat→Nat}{n X i:Nat}(hf:Fit l n)(hi:i<n)(h:bg l n X i):fnd l n X n=(i,l i):=by
 rcases fnd_some l n X n with⟨j,h1,h2,h3⟩|⟨h1,h2⟩
 · rw[h3,bg_one hf h1 hi h2 h]
 · exact absurd h (h1 i hi)
theorem fnd_no{l:Nat→Nat}{n X:Nat}(h:∀i,i<n→¬bg l n X i):fnd l n X n=(0,0):=by
 rcases fnd_some l n X n with⟨j,h1,h2,h3⟩|⟨h1,h2⟩
 · exact absurd h2 (h j h1)
 · exact h2
def ahb(l:Nat→Nat)(n f i:Nat):Nat:=if l i≤f then 0 else rc l n i%2^f
def ahs(l:Nat→Nat)(f i:Nat):Nat:=if l i≤f then 0 else f
def cv(l:Nat→Nat)(n f b s x:Nat):Nat→Nat×Nat
 |0=>(0,0)
 |k+1=>if l k≠0∧(ahb l n f k=b∧ahs l f k=s)∧x%2^(l k - s)=rc l n k/2^s then(k,l k) else cv l n f b s x k
def sz(l:Nat→Nat)(n f b s:Nat):Nat→Option Nat
 |0=>if b=0∧s=0 then some f else none
 |k+1=>if ahb l n f k=b∧ahs l f k=s then some (max ((sz l n f b s k).getD 0) (l k - s)) else sz l n f b s k
theorem ahs_cases(l:Nat→Nat)(n f i:Nat):(l i≤f∧ahb l n f i=0∧ahs l f i=0)∨(f<l i∧ahb l n f i=rc l n i%2^f∧ahs l f i=f):=by
 unfold ahb ahs;by_cases h:l i≤f
 · rw[if_pos h,if_pos h];exact .inl ⟨h,rfl,rfl⟩
 · rw[if_neg h,if_neg h];exact .inr ⟨by omega,rfl,rfl⟩
theorem ahb_lt(l:Nat→Nat)(n f i:Nat):ahb l n f i<2^f:=by
 rcases ahs_cases l n f i with⟨_,h,_⟩|⟨_,h,_⟩
 · rw[h];exact Nat.two_pow_pos f
 · rw[h];exact Nat.mod_lt _ (Nat.two_pow_pos f)
theorem cv_some(l:Nat→Nat)(n f b s x:Nat):∀k,(∃i,i<k∧(l i≠0∧(ahb l n f i=b∧ahs l f i=s)∧x%2^(l i - s)=rc l n i/2^s)∧cv l n f b s x k=(i,l i))∨
 ((∀i,i<k→¬(l i≠0∧(ahb l n f i=b∧ahs l f i=s)∧x%2^(l i - s)=rc l n i/2^s))∧cv l n f b s x k=(0,0))
 |0=> .inr ⟨fun i h=>by omega,rfl⟩
 |k+1=>by
  by_cases h:l k≠0∧(ahb l n f k=b∧ahs l f k=s)∧x%2^(l k - s)=rc l n k/2^s
  · exact .inl ⟨k,by omega,h,by simp only[cv];rw[if_pos h]⟩
  · rcases cv_some l n f b s x k with⟨i,h1,h2,h3⟩|⟨h1,h2⟩
    · exact .inl ⟨i,by omega,h2,by simp only[cv];rw[if_neg h];exact h3⟩
    · refine .inr ⟨fun i hi=> ?_,by simp only[cv];rw[if_neg h];exact h2⟩
      by_cases e:i=k
      · subst e;exact h
      · exact h1 i (by omega)
theorem cv_small{l:Nat→Nat}{n f b s x k:Nat}(hm:May l n)(hk:k≤n):(cv l n f b s x k).1<320∧(cv l n f b s x k).2≤15:=by
 rcases cv_some l n f b s x k with⟨i,h1,h2,h3⟩|⟨h1,h2⟩
 · rw[h3];exact⟨by have:=hm.1;omega,hm.2 i (by omega)⟩
 · rw[h2];exact⟨by omega,by omega⟩
theorem sz_ge{l:Nat→Nat}{n f b s i:Nat}:∀k,i<k→ahb l n f i=b→ahs l f i=s→∃m,sz l n f b s k=some m∧l i - s≤m
 |0,h,_,_=>by omega
 |k+1,h,hb,hs=>by
  by_cases e:i=k
  · subst e
    refine⟨_,by simp only[sz];rw[if_pos ⟨hb,hs⟩],Nat.le_max_right _ _⟩
  · obtain⟨m,h1,h2⟩:=sz_ge k (by omega) hb hs
    by_cases g:ahb l n f k=b∧ahs l f k=s
    · refine⟨_,by simp only[sz];rw[if_pos g],?_⟩
      rw[h1];exact Nat.le_trans h2 (Nat.le_max_left _ _)
    · exact⟨m,by simp only[sz];rw[if_neg g];exact h1,h2⟩
theorem sz_le{l:Nat→Nat}{n f b s:Nat}(hf:f≤15):∀k,(∀i,i<k→l i≤15)→∀m,sz l n f b s k=some m→m≤15
 |0,_,m,e=>by
  simp only[sz] at e
  split at e
  · injection e with e;omega
  · cases e
 |k+1,h,m,e=>by
  simp only[sz] at e;have h15:=h k (by omega);have ih:=sz_le (b:=b) (s:=s) (n:=n) hf k (fun i hi=>h i (by omega))
  split at e
  · injection e with e
    cases q:sz l n f b s k with
    |none=>rw[q] at e;simp at e;omega
    |some m'=>rw[q] at e;have:=ih m' q;simp at e;omega
  · exact ih m e
theorem sz_root{l:Nat→Nat}{n f:Nat}(h1:1≤f):∀k,sz l n f 0 0 k=some f
 |0=>by simp[sz]
 |k+1=>by
  simp only[sz];rw[sz_root h1 k]
  split
  · rename_i g
    have hk:l k≤f:=by
     rcases ahs_cases l n f k with⟨a,_,_⟩|⟨_,_,a⟩
     · exact a
     · have:=g.2;omega
    rw[show max ((some f).getD 0) (l k - 0)=f by simp;omega]
  · rfl
theorem sz_where{l:Nat→Nat}{n f b s:Nat}:∀k m,sz l n f b s k=some m→(b=0∧s=0)∨(s=f∧b<2^f)
 |0,m,e=>by
  simp only[sz] at e;by_cases g:b=0∧s=0
  · exact .inl g
  · rw[if_neg g] at e;cases e
 |k+1,m,e=>by
  simp only[sz] at e;by_cases g:ahb l n f k=b∧ahs l f k=s
  · rcases ahs_cases l n f k with⟨_,a2,a3⟩|⟨_,a2,a3⟩
    · exact .inl ⟨by omega,by omega⟩
    · exact .inr ⟨by omega,by rw[←g.1];exact ahb_lt l n f k⟩
  · rw[if_neg g] at e
    exact sz_where k m e
theorem fnd_first{l:Nat→Nat}{n f X:Nat}(hf:Fit l n)(h1:1≤f)(h:(cv l n f 0 0 (X%2^f) n).2≠0):fnd l n X n=cv l n f 0 0 (X%2^f) n:=by
 rcases cv_some l n f 0 0 (X%2^f) n with⟨i,i1,⟨i2,⟨_,i3⟩,i4⟩,i5⟩|⟨_,g⟩
 · have hk:l i≤f:=by
    rcases ahs_cases l n f i with⟨a,_,_⟩|⟨_,_,a⟩
    · exact a
    · omega
   rw[i5];refine fnd_eq hf i1 ⟨i2,?_⟩;rw[Nat.sub_zero,mod_mod_le hk,Nat.pow_zero,Nat.div_one] at i4;exact i4
 · rw[g] at h;exact absurd rfl h
theorem bg_first{l:Nat→Nat}{n f X i:Nat}(h1:1≤f)(hi:i<n)(hb:bg l n X i)(hk:l i≤f):(cv l n f 0 0 (X%2^f) n).2≠0:=by
 rcases cv_some l n f 0 0 (X%2^f) n with⟨j,j1,⟨j2,_⟩,j5⟩|⟨g,_⟩
 · rw[j5];exact j2
 · exfalso
   refine g i hi ⟨hb.1,?_,?_⟩
   · rcases ahs_cases l n f i with⟨_,a,b⟩|⟨a,_,_⟩
     · exact⟨a,b⟩
     · omega
   · rw[Nat.sub_zero,mod_mod_le hk,Nat.pow_zero,Nat.div_one];exact hb.2
theorem bg_far{l:Nat→Nat}{n f X i:Nat}(hb:bg l n X i)(hk:f<l i):ahb l n f i=X%2^f∧ahs l f i=f∧X/2^f%2^(l i - f)=rc l n i/2^f:=by
 have hp:=(parts_iff (X:=X) (c:=rc l n i) (f:=f) (z:=l i) (by omega)).1 (by rw[hb.2,Nat.mod_eq_of_lt (rc_lt l n i)])
 have e:rc l n i/2^f%2^(l i - f)=rc l n i/2^f:=by
  apply Nat.mod_eq_of_lt
  rw[Nat.div_lt_iff_lt_mul (Nat.two_pow_pos f),←Nat.pow_add,show l i - f+f=l i by omega];exact rc_lt l n i
 rcases ahs_cases l n f i with⟨a,_,_⟩|⟨_,a,b⟩
 · omega
 · exact⟨by rw[a,hp.1],b,by rw[hp.2,e]⟩
theorem fnd_none{l:Nat→Nat}{n f X:Nat}(h1:1≤f)(h:(cv l n f 0 0 (X%2^f) n).2=0)(hs:sz l n f (X%2^f) f n=none):fnd l n X n=(0,0):=by
 refine fnd_no fun i hi hb=> ?_
 by_cases hk:l i≤f
 · exact bg_first h1 hi hb hk h
 · obtain⟨a,b,_⟩:=bg_far (f:=f) hb (by omega)
   obtain⟨m,e,_⟩:=sz_ge n hi a b;rw[hs] at e;cases e
theorem fnd_further{l:Nat→Nat}{n f X m:Nat}(hf:Fit l n)(h1:1≤f)(h:(cv l n f 0 0 (X%2^f) n).2=0)(hs:sz l n f (X%2^f) f n=some m):
 fnd l n X n=cv l n f (X%2^f) f (X/2^f%2^m) n:=by
 rcases cv_some l n f (X%2^f) f (X/2^f%2^m) n with⟨i,i1,⟨i2,⟨i3,i6⟩,i4⟩,i5⟩|⟨g,g2⟩
 · rw[i5]
   have hk:f<l i∧rc l n i%2^f=X%2^f:=by
    rcases ahs_cases l n f i with⟨_,_,a⟩|⟨a,b,_⟩
    · omega
    · exact⟨a,by rw[←b,i3]⟩
   obtain⟨m',e,hm⟩:=sz_ge n i1 i3 i6;rw[hs] at e;injection e with e
   subst e;rw[mod_mod_le hm] at i4;refine fnd_eq hf i1 ⟨i2,?_⟩
   have e:rc l n i/2^f%2^(l i - f)=rc l n i/2^f:=by
    apply Nat.mod_eq_of_lt
    rw[Nat.div_lt_iff_lt_mul (Nat.two_pow_pos f),←Nat.pow_add,show l i - f+f=l i by omega];exact rc_lt l n i
   have:=(parts_iff (X:=X) (c:=rc l n i) (f:=f) (z:=l i) (by omega)).2 ⟨hk.2.symm,by rw[i4,e]⟩;rw[this,Nat.mod_eq_of_lt (rc_lt l n i)]
 · rw[g2]
   refine fnd_no fun i hi hb=> ?_
   by_cases hk:l i≤f
   · exact bg_first h1 hi hb hk h
   · obtain⟨a,b,c⟩:=bg_far (f:=f) hb (by omega)
     obtain⟨m',e,hm⟩:=sz_ge n hi a b;rw[hs] at e;injection e with e
     subst e;exact g i hi ⟨hb.1,⟨a,b⟩,by rw[mod_mod_le hm];exact c⟩
def lk(l:Nat→Nat)(n X h:Nat):Nat×Nat×Nat:=
 if(fnd l n (X%2^min h 64) n).2=0 then(0,0,7) else if h<(fnd l n (X%2^min h 64) n).2 then(0,0,6) else((fnd l n (X%2^min h 64) n).1,(fnd l n (X%2^min h 64) n).2,0)
def fts(l:Nat→Nat)(n X h i:Nat):Prop:=l i≠0∧X%2^min (l i) h=rc l n i%2^min (l i) h
instance (l:Nat→Nat) (n X h i:Nat):Decidable (fts l n X h i):=inferInstanceAs (Decidable (l i≠0∧X%2^min (l i) h=rc l n i%2^min (l i) h))
def som(l:Nat→Nat)(n X h:Nat):Nat→Bool
 |0=>false
 |k+1=>som l n X h k||decide (fts l n X h k)
theorem som_iff(l:Nat→Nat)(n X h:Nat):∀k,som l n X h k=true↔∃i,i<k∧fts l n X h i
 |0=>by simp[som]
 |k+1=>by
  simp only[som,Bool.or_eq_true,decide_eq_true_eq,som_iff l n X h k];constructor
  · rintro(⟨i,a,b⟩|b)
    · exact⟨i,by omega,b⟩
    · exact⟨k,by omega,b⟩
  · rintro⟨i,a,b⟩
    by_cases e:i=k
    · subst e;exact .inr b
    · exact .inl ⟨i,by omega,b⟩
theorem bg_cut{l:Nat→Nat}{n X h i:Nat}(hk:l i≤h):bg l n (X%2^h) i↔bg l n X i:=by
 unfold bg;rw[mod_mod_le hk]
theorem lk_rest{l:Nat→Nat}{n X h:Nat}(ht:Tbl l n)(hno:∀i,i<n→fts l n X (min h 15) i→¬l i≤min h 15):lk l n X h=if som l n X (min h 15) n=true then(0,0,6) else(0,0,7):=by
 have hf:=ht.fit;have h15:=hf.1.2;unfold lk;rcases fnd_some l n (X%2^min h 64) n with⟨i,i1,i2,i3⟩|⟨i1,i2⟩
 · have hft:fts l n X (min h 15) i:=⟨i2.1,by
    have hq:=i2.2;have e1:X%2^min h 64%2^min (l i) (min h 15)=X%2^min (l i) (min h 15):=mod_mod_le (by omega);rw[←e1,←mod_mod_le (a:=X%2^min h 64) (k:=min (l i) (min h 15)) (m:=l i) (by omega),hq]⟩
   have hlt:h<l i:=by have:=hno i i1 hft;have:=h15 i i1;omega
   rw[i3,if_neg i2.1,if_pos hlt,if_pos ((som_iff l n X _ n).2 ⟨i,i1,hft⟩)]
 · rw[i2,if_pos rfl]
   by_cases g:som l n X (min h 15) n=true
   · exfalso
     obtain⟨i,g1,g2⟩:=(som_iff l n X _ n).1 g;have hlt:=hno i g1 g2;have hl:=h15 i g1;have e0:min h 64=h:=by omega
     have e1:min (l i) (min h 15)=h:=by omega
     have g3:=g2.2;rw[e1] at g3;rw[e0] at i1;obtain⟨j,j1,j2⟩:=bg_goes ht g1 g2.1 (show h<l i by omega) (Nat.mod_lt X (Nat.two_pow_pos h)) (by rw[Nat.mod_mod];exact g3);exact i1 j j1 j2
   · rw[if_neg g]
theorem lk_cases{l:Nat→Nat}{n X h:Nat}(hf:Fit l n):(∃i,i<n∧l i≠0∧l i≤h∧X%2^l i=rc l n i∧lk l n X h=(i,l i,0))∨lk l n X h=(0,0,6)∨lk l n X h=(0,0,7):=by
 unfold lk;rcases fnd_some l n (X%2^min h 64) n with⟨i,i1,i2,i3⟩|⟨i1,i2⟩
 · rw[i3,if_neg i2.1]
   by_cases g:h<l i
   · rw[if_pos g];exact .inr (.inl rfl)
   · have:=hf.1.2 i i1
     rw[if_neg g];exact .inl ⟨i,i1,i2.1,by omega,((bg_cut (by omega)).1 i2).2,rfl⟩
 · rw[i2,if_pos rfl];exact .inr (.inr rfl)
theorem lk_code{l:Nat→Nat}{n X h i:Nat}(hf:Fit l n)(hi:i<n)(h0:l i≠0)(hle:l i≤h)(he:X%2^l i=rc l n i):lk l n X h=(i,l i,0):=by
 have:=hf.1.2 i hi;unfold lk;rw[fnd_eq hf hi ((bg_cut (show l i≤min h 64 by omega)).2 ⟨h0,he⟩),if_neg h0,if_neg (show ¬h<l i by omega)]
end Go.Proofs.YtdpabanajgegjaaGreatDoor.M
namespace Go.Proofs.YtdpabanajgegjaaGreatDoor.I
open M
abbrev St:=Nat×List UInt8
def Rm(α:Type):=ByteArray→Nat→Nat→St→Except Nat (α×St)
def pur{α:Type}(a:α):Rm α:=fun _ _ _ x=> .ok (a,x)
def bnd{α β:Type}(r:Rm α)(f:α→Rm β):Rm β:=fun s D L x=>
 match r s D L x with
 |.ok (a,y)=>f a s D L y
 |.error e=> .error e
def fl{α:Type}(e:Nat):Rm α:=fun _ _ _ _=> .error e
def bits(n:Nat):Rm Nat:=fun s _ _ x=>if x.1+n≤8*s.size then .ok (nb s x.1 n,(x.1+n,x.2)) else .error 6
def lok(l:Nat→Nat)(n:Nat)(s:ByteArray)(a:Nat):Nat×Nat×Nat:=lk l n (nb s a (min 15 (8*s.size - a))) (min 15 (8*s.size - a))
instance (l:Nat→Nat) (n:Nat):Decidable (Tbl l n):=inferInstanceAs (Decidable (kind l n=0∨kind l n=1∨kind l n=2))
def nxt(l:Nat→Nat)(n:Nat):Rm Nat:=fun s _ _ x=>
 if Tbl l n then
  if(lok l n s x.1).2.2=0 then .ok ((lok l n s x.1).1,(x.1+(lok l n s x.1).2.1,x.2)) else .error (if(lok l n s x.1).2.2=7 then 163 else(lok l n s x.1).2.2)
 else .error 0
def algn:Rm Unit:=fun _ _ _ x=> .ok ((),(8*((x.1+7) /8),x.2))
def byt(s:ByteArray)(p n:Nat):List UInt8:=(s.data.toList.drop p).take n
def byts(n:Nat):Rm (List UInt8):=fun s _ _ x=>if(x.1+7) /8+n≤s.size then .ok (byt s ((x.1+7) /8) n,(8*((x.1+7) /8+n),x.2)) else .error 6
def app(l:List UInt8):Rm Unit:=fun _ D L x=>if L<x.2.length - D+l.length then .error 5 else .ok ((),(x.1,x.2++l))
def gr(b:List UInt8)(d:Nat):Nat→List UInt8
 |0=>b
 |k+1=>gr b d k++[(gr b d k).getD ((gr b d k).length - d) 0]
theorem gr_length(b:List UInt8)(d:Nat):∀k,(gr b d k).length=b.length+k
 |0=>rfl
 |k+1=>by simp only[gr,List.length_append,List.length_cons,List.length_nil,gr_length b d k];omega
def copy(t k:Nat):Rm Unit:=fun _ D L x=>if x.2.length<t then .error 164 else if L<x.2.length - D+k then .error 5 else .ok ((),(x.1,gr x.2 t k))
def loopR{α β:Type}(f:α→Rm (α ⊕ β)):Nat→α→Rm β
 |0,_=>fl 0
 |k+1,a=>bnd (f a) fun r=>match r with
  |.inl a=>loopR f k a
  |.inr b=>pur b
def lenR(y:Nat):Rm Nat:=bnd (bits (if y≤285 then lb (y - 257) else 0)) fun e=>if 285<y∨lof (y - 257) e=0 then fl 163 else pur (lof (y - 257) e)
def dstR(z:Nat):Rm Nat:=bnd (bits (if z≤29 then db z else 0)) fun e=>if 29<z∨dof z e=0 then fl 163 else pur (dof z e)
def matR(y:Nat)(d:Nat→Nat)(m:Nat):Rm (Unit ⊕ Unit):=bnd (lenR y) fun k=>bnd (nxt d m) fun z=>bnd (dstR z) fun t=>bnd (copy t k) fun _=>pur (.inl ())
def sym1(l:Nat→Nat)(n:Nat)(d:Nat→Nat)(m:Nat):Unit→Rm (Unit ⊕ Unit):=fun _=>bnd (nxt l n) fun y=>
 if y<256 then bnd (app [UInt8.ofNat y]) fun _=>pur (.inl ()) else if y=256 then pur (.inr ()) else matR y d m
def syms(K:Nat)(l:Nat→Nat)(n:Nat)(d:Nat→Nat)(m:Nat):Rm Unit:=loopR (sym1 l n d m) K ()
def stor:Rm Unit:=bnd algn fun _=>bnd (bits 16) fun n=>bnd (bits 16) fun t=>if n+t≠65535 then fl 161 else bnd (byts n) fun b=>app b
def od:List Nat:=[16,17,18,0,8,7,9,6,10,5,11,4,12,3,13,2,14,1,15]
def ownR:Nat→Nat→(Nat→Nat)→Rm (Nat→Nat)
 |0,_,g=>pur g
 |k+1,i,g=>bnd (bits 3) fun x=>ownR k (i+1) (fun j=>if j=od.getD i 0 then x else g j)
def rbm(s:Nat):Nat:=if s<16 then 0 else if s=16 then 2 else if s=17 then 3 else 7
def len1(l:Nat→Nat)(N:Nat)(all:List Nat):Rm (List Nat ⊕ List Nat):=
 if N≤all.length then pur (.inr all) else bnd (nxt l 19) fun y=>bnd (bits (rbm y)) fun e=>
  if(y=16∧all=[])∨N<all.length+tms ⟨y,e⟩ then fl 162 else pur (.inl (all++List.replicate (tms ⟨y,e⟩) (vlr all ⟨y,e⟩)))
def lit(all:List Nat):Nat→Nat:=fun i=>all.getD i 0
def dis(all:List Nat)(a:Nat):Nat→Nat:=fun i=>all.getD (a+i) 0
def tabR(all:List Nat)(a b:Nat):Rm (List Nat×Nat×Nat):=
 if all.getD 256 0=0∨¬Tbl (lit all) a∨¬Tbl (dis all a) b then fl 162 else pur (all,a,b)
def dyn(K:Nat):Rm (List Nat×Nat×Nat):=bnd (bits 5) fun a=>bnd (bits 5) fun b=>bnd (bits 4) fun k=>
 if 286<a+257∨30<b+1 then fl 162 else bnd (ownR (k+4) 0 fun _=>0) fun o=>if kind o 19≠2 then fl 162 else
  bnd (loopR (len1 o (a+257+(b+1))) K []) fun all=>tabR all (a+257) (b+1)
def fx(j:Nat):Nat:=if j<144 then 8 else if j<256 then 9 else if j<280 then 7 else 8
def body(K k:Nat):Rm Unit:=if k=0 then stor else if k=1 then syms K fx 288 (fun _=>5) 32 else if k=2 then bnd (dyn K) fun t=>syms K (lit t.1) t.2.1 (dis t.1 t.2.1) t.2.2 else fl 160
def blk(K:Nat):Unit→Rm (Unit ⊕ Unit):=fun _=>bnd (bits 1) fun f=>bnd (bits 2) fun k=>bnd (body K k) fun _=>pur (if f=1 then .inr () else .inl ())
def inf(K:Nat):Rm Unit:=loopR (blk K) K ()
def ans(r:Except Nat (Unit×St))(D:Nat):List UInt8×Nat×Nat:=
 match r with
 |.ok (_,y)=>(y.2.drop D,(y.1+7) /8,0)
 |.error e=>([],0,e)
structure Agr(s s':ByteArray)(c:Nat):Prop where
 h1:c≤s.size
 h2:c≤s'.size
 h3:s.data.toList.take c=s'.data.toList.take c
theorem vl_append:∀ (l m:List UInt8),vl (l++m)=vl l+256^l.length*vl m
 |[],m=>by simp[vl]
 |b::l,m=>by
  simp only[List.cons_append,vl,vl_append l m,List.length_cons];rw[Nat.pow_succ',Nat.mul_add,Nat.mul_assoc,Nat.add_assoc]
theorem vl_take(l:List UInt8)(c:Nat)(h:c≤l.length):vl (l.take c)=vl l%256^c:=by
 have h1:=vl_append (l.take c) (l.drop c);rw[List.take_append_drop,List.length_take,Nat.min_eq_left h] at h1;have h2:=vl_lt (l.take c);rw[List.length_take,Nat.min_eq_left h] at h2;rw[h1,Nat.add_mul_mod_self_left,Nat.mod_eq_of_lt h2]
theorem Agr.tx{s s':ByteArray}{c:Nat}(h:Agr s s' c):M.tx s%2^(8*c)=M.tx s'%2^(8*c):=by
 have g1:=vl_take s.data.toList c (by rw[size_list];exact h.h1);have g2:=vl_take s'.data.toList c (by rw[size_list];exact h.h2);rw[h.h3,g2,p256'] at g1;exact g1.symm
theorem nb_mod(s:ByteArray)(a n:Nat):nb s a n=M.tx s%2^(a+n) /2^a:=by
 unfold nb;rw[Nat.pow_add,Nat.mod_mul_right_div_self]
theorem Agr.nb{s s':ByteArray}{c a n:Nat}(h:Agr s s' c)(ha:a+n≤8*c):M.nb s a n=M.nb s' a n:=by
 rw[nb_mod,nb_mod];congr 1;rw[←Nat.mod_mod_of_dvd (M.tx s) (Nat.pow_dvd_pow 2 ha),h.tx,Nat.mod_mod_of_dvd _ (Nat.pow_dvd_pow 2 ha)]
theorem Agr.byt{s s':ByteArray}{c p n:Nat}(h:Agr s s' c)(hp:p+n≤c):I.byt s p n=I.byt s' p n:=by
 have e:∀l:List UInt8,(l.drop p).take n=((l.take c).drop p).take n:=fun l=>by
  rw[List.drop_take,List.take_take,Nat.min_eq_left (by omega)]
 unfold I.byt;rw[e,h.h3,←e]
theorem nb_low(s:ByteArray){a n m:Nat}(h:m≤n):nb s a n%2^m=nb s a m:=by
 unfold nb;rw[Nat.mod_mod_of_dvd _ (Nat.pow_dvd_pow 2 h)]
theorem lok_ok{l:Nat→Nat}{n:Nat}{s:ByteArray}{a:Nat}(hf:Fit l n)(h:(lok l n s a).2.2=0)(ha:a≤8*s.size):∃i,i<n∧l i≠0∧a+l i≤8*s.size∧nb s a (l i)=rc l n i∧lok l n s a=(i,l i,0):=by
 rcases lk_cases (l:=l) (n:=n) (X:=nb s a (min 15 (8*s.size - a))) (h:=min 15 (8*s.size - a)) hf with⟨i,h1,h2,h3,h4,h5⟩|h5|h5
 · refine⟨i,h1,h2,by omega,?_,h5⟩
   rw[nb_low s h3] at h4;exact h4
 · unfold lok at h;rw[h5] at h;cases h
 · unfold lok at h;rw[h5] at h;cases h
theorem lok_is{l:Nat→Nat}{n:Nat}{s:ByteArray}{a i:Nat}(hf:Fit l n)(hi:i<n)(h0:l i≠0)(ha:a+l i≤8*s.size)(h:nb s a (l i)=rc l n i):lok l n s a=(i,l i,0):=by
 have h15:=hf.1.2 i hi;exact lk_code hf hi h0 (by omega) (by rw[nb_low s (by omega)];exact h)
theorem lok_cut{l:Nat→Nat}{n:Nat}{s s':ByteArray}{a i:Nat}(ht:Tbl l n)(hi:i<n)(h0:l i≠0)(ha:a+l i≤8*s.size)(h:nb s a (l i)=rc l n i)
 (hg:Agr s s' s'.size) (h1:a≤8*s'.size) (h2:8*s'.size<a+l i):lok l n s' a=(0,0,6):=by
 have hf:=ht.fit;have h15:=hf.1.2 i hi;have e1:min 15 (8*s'.size - a)=8*s'.size - a:=by omega
 have e2:min (8*s'.size - a) 15=8*s'.size - a:=by omega
 have e3:nb s' a (8*s'.size - a)=nb s a (8*s'.size - a):=(hg.nb (by omega)).symm;unfold lok;rw[e1,e3]
 have hfts:fts l n (nb s a (8*s'.size - a)) (min (8*s'.size - a) 15) i:=by
  refine⟨h0,?_⟩;rw[e2,Nat.min_eq_right (by omega),nb_low s (Nat.le_refl _),←h,nb_low s (by omega)]
 rw[lk_rest ht,if_pos]
 · exact(som_iff _ _ _ _ _).2 ⟨i,hi,hfts⟩
 · intro j hj hq hle
   have h15j:=hf.1.2 j hj;have hq2:=hq.2;rw[e2] at hq2 hle;rw[Nat.min_eq_left hle,nb_low s hle,Nat.mod_eq_of_lt (rc_lt l n j)] at hq2;have b1:bg l n (nb s a 15) i:=⟨h0,by rw[nb_low s h15];exact h⟩;have b2:bg l n (nb s a 15) j:=⟨hq.1,by rw[nb_low s h15j];exact hq2⟩;have:=bg_one hf hi hj b1 b2;subst this;omega
structure Nice{α:Type}(r:Rm α):Prop where
 mono:∀ {s D L x a y},r s D L x=.ok (a,y)→x.1≤y.1∧x.2.length≤y.2.length∧y.2.take x.2.length=x.2
 inn:∀ {s D L x a y},r s D L x=.ok (a,y)→x.1≤8*s.size→y.1≤8*s.size
 lim:∀ {s D L x a y},r s D L x=.ok (a,y)→D≤x.2.length→x.2.length - D≤L→y.2.length - D≤L
 pre:∀ {s s' D L x a y c},Agr s s' c→r s D L x=.ok (a,y)→x.1≤8*s.size→y.1≤8*c→r s' D L x=.ok (a,y)
 cut:∀ {s s' D L x a y},Agr s s' s'.size→r s D L x=.ok (a,y)→x.1≤8*s'.size→8*s'.size<y.1→r s' D L x=.error 6
 less:∀ {s D L x a y L'},r s D L x=.ok (a,y)→D≤x.2.length→x.2.length - D≤L'→r s D L' x=if y.2.length - D≤L' then .ok (a,y) else .error 5
theorem take_tt{l m k:List UInt8}(h1:m.take l.length=l)(h2:k.take m.length=m)(h:l.length≤m.length):k.take l.length=l:=
 (by rw[List.take_take,Nat.min_eq_left h]:k.take l.length=(k.take m.length).take l.length).trans (by rw[h2,h1])
theorem Nice.pur{α:Type}(a:α):Nice (pur a) where
 mono h:=by cases h;exact⟨Nat.le_refl _,Nat.le_refl _,List.take_length⟩
 inn h g:=by cases h;exact g
 lim h _ g:=by cases h;exact g
 pre _ h _ _:=by cases h;rfl
 cut _ h g1 g2:=by cases h;omega
 less h _ g:=by cases h;rw[if_pos g];rfl
theorem Nice.fl{α:Type}(e:Nat):Nice (fl e:Rm α) where
 mono h:=by cases h
 inn h:=by cases h
 lim h _:=by cases h
 pre _ h:=by cases h
 cut _ h:=by cases h
 less h _:=by cases h
theorem bnd_ok{α β:Type}{r:Rm α}{f:α→Rm β}{s:ByteArray}{D L:Nat}{x z:St}{b:β}(h:bnd r f s D L x=.ok (b,z)):∃a y,r s D L x=.ok (a,y)∧f a s D L y=.ok (b,z):=by
 unfold bnd at h;cases q:r s D L x with
 |error e=>rw[q] at h;cases h
 |ok p=>rw[q] at h;exact⟨p.1,p.2,rfl,h⟩
theorem bnd_of{α β:Type}{r:Rm α}{f:α→Rm β}{s:ByteArray}{D L:Nat}{x y:St}{a:α}(h:r s D L x=.ok (a,y)):bnd r f s D L x=f a s D L y:=by
 unfold bnd;rw[h]
theorem bnd_er{α β:Type}{r:Rm α}{f:α→Rm β}{s:ByteArray}{D L:Nat}{x:St}{e:Nat}(h:r s D L x=.error e):bnd r f s D L x=.error e:=by
 unfold bnd;rw[h]
theorem Nice.bnd{α β:Type}{r:Rm α}{f:α→Rm β}(hr:Nice r)(hf:∀a,Nice (f a)):Nice (bnd r f) where
 mono h:=by
  obtain⟨a,y,h1,h2⟩:=bnd_ok h;obtain⟨g1,g2,g3⟩:=hr.mono h1;obtain⟨k1,k2,k3⟩:=(hf a).mono h2;exact⟨Nat.le_trans g1 k1,Nat.le_trans g2 k2,take_tt g3 k3 g2⟩
 inn h g:=by
  obtain⟨a,y,h1,h2⟩:=bnd_ok h;exact(hf a).inn h2 (hr.inn h1 g)
 lim h hD g:=by
  obtain⟨a,y,h1,h2⟩:=bnd_ok h;exact(hf a).lim h2 (Nat.le_trans hD (hr.mono h1).2.1) (hr.lim h1 hD g)
 pre hg h hx hc:=by
  obtain⟨a,y,h1,h2⟩:=bnd_ok h;have k:=((hf a).mono h2).1;rw[bnd_of (hr.pre hg h1 hx (by omega))];exact(hf a).pre hg h2 (hr.inn h1 hx) hc
 cut {s s' D L x b z} hg h hx hc:=by
  obtain⟨a,y,h1,h2⟩:=bnd_ok h;have hs:=hg.h1;by_cases q:y.1≤8*s'.size
  · rw[bnd_of (hr.pre hg h1 (by omega) q)]
    exact(hf a).cut hg h2 q hc
  · exact bnd_er (hr.cut hg h1 hx (by omega))
 less {s D L x b z L'} h hD hx:=by
  obtain⟨a,y,h1,h2⟩:=bnd_ok h;have k:=((hf a).mono h2).2.1;have e1:=hr.less h1 hD hx;by_cases q:y.2.length - D≤L'
  · rw[if_pos q] at e1
    rw[bnd_of e1];exact(hf a).less h2 (Nat.le_trans hD (hr.mono h1).2.1) q
  · rw[if_neg q] at e1
    rw[bnd_er e1,if_neg (by omega)]
theorem Nice.ite{α:Type}{c:Prop}[Decidable c]{r t:Rm α}(hr:Nice r)(ht:Nice t):Nice (if c then r else t):=by split;exact hr;exact ht
theorem Nice.bits(n:Nat):Nice (bits n) where
 mono h:=by
  unfold I.bits at h
  split at h
  · cases h;exact⟨Nat.le_add_right _ _,Nat.le_refl _,List.take_length⟩
  · cases h
 inn h g:=by
  unfold I.bits at h
  split at h
  · cases h;assumption
  · cases h
 lim h hD g:=by
  unfold I.bits at h
  split at h
  · cases h;exact g
  · cases h
 pre hg h hx hc:=by
  have h2:=hg.h2;unfold I.bits at h ⊢
  split at h
  · cases h
    simp only at hc;rw[if_pos (by omega),hg.nb hc]
  · cases h
 cut hg h hx hc:=by
  unfold I.bits at h ⊢
  split at h
  · cases h
    simp only at hc;rw[if_neg (by omega)]
  · cases h
 less h hD g:=by
  unfold I.bits at h ⊢
  split at h
  · rename_i q
    cases h;rw[if_pos g,if_pos q]
  · cases h
theorem nxt_ok{l:Nat→Nat}{n:Nat}{s:ByteArray}{D L:Nat}{x y:St}{i:Nat}(h:nxt l n s D L x=.ok (i,y))(hx:x.1≤8*s.size):Tbl l n∧i<n∧l i≠0∧x.1+l i≤8*s.size∧nb s x.1 (l i)=rc l n i∧y=(x.1+l i,x.2):=by
 unfold nxt at h
 split at h
 · rename_i ht
   split at h
   · rename_i q
     obtain⟨j,h1,h2,h3,h4,h5⟩:=lok_ok ht.fit q hx;rw[h5] at h;cases h
     exact⟨ht,h1,h2,h3,h4,rfl⟩
   · cases h
 · cases h
theorem nxt_is{l:Nat→Nat}{n:Nat}{s:ByteArray}{D L:Nat}{x:St}{i:Nat}(ht:Tbl l n)(hi:i<n)(h0:l i≠0)(ha:x.1+l i≤8*s.size)(h:nb s x.1 (l i)=rc l n i):nxt l n s D L x=.ok (i,(x.1+l i,x.2)):=by
 unfold nxt;rw[if_pos ht,lok_is ht.fit hi h0 ha h,if_pos rfl]
theorem nxt_far{l:Nat→Nat}{n:Nat}{s:ByteArray}{D L:Nat}{x:St}(h:8*s.size<x.1)(i:Nat)(y:St):nxt l n s D L x=.ok (i,y)→False:=by
 intro q;unfold nxt at q
 split at q
 · rename_i ht
   split at q
   · rename_i g
     unfold lok at g;rw[show min 15 (8*s.size - x.1)=0 by omega] at g;rcases lk_cases (l:=l) (n:=n) (X:=nb s x.1 0) (h:=0) ht.fit with⟨i,h1,h2,h3,h4,h5⟩|h5|h5
     · omega
     · rw[h5] at g;cases g
     · rw[h5] at g;cases g
   · cases q
 · cases q
theorem Nice.nxt(l:Nat→Nat)(n:Nat):Nice (nxt l n) where
 mono {s D L x a y} h:=by
  by_cases hx:x.1≤8*s.size
  · obtain⟨_,_,_,_,_,rfl⟩:=nxt_ok h hx
    exact⟨Nat.le_add_right _ _,Nat.le_refl _,List.take_length⟩
  · exact(nxt_far (by omega) _ _ h).elim
 inn h g:=by
  obtain⟨_,_,_,h3,_,rfl⟩:=nxt_ok h g;exact h3
 lim {s D L x a y} h hD g:=by
  by_cases hx:x.1≤8*s.size
  · obtain⟨_,_,_,h3,_,rfl⟩:=nxt_ok h hx
    exact g
  · exact(nxt_far (by omega) _ _ h).elim
 pre hg h hx hc:=by
  have h2:=hg.h2;obtain⟨ht,g1,g2,g3,g4,rfl⟩:=nxt_ok h hx;simp only at hc;exact nxt_is ht g1 g2 (by omega) (by rw[←hg.nb hc];exact g4)
 cut {s s' D L x a y} hg h hx hc:=by
  have hs:=hg.h1;obtain⟨ht,g1,g2,g3,g4,rfl⟩:=nxt_ok h (by omega);unfold I.nxt;rw[if_pos ht,lok_cut ht g1 g2 g3 g4 hg hx hc];rfl
 less {s D L x a y L'} h hD g:=by
  have e:I.nxt l n s D L' x=I.nxt l n s D L x:=rfl;by_cases hx:x.1≤8*s.size
  · rw[e,h]
    obtain⟨_,_,_,_,_,rfl⟩:=nxt_ok h hx;rw[if_pos g]
  · exact(nxt_far (by omega) _ _ h).elim
theorem Nice.algn:Nice algn where
 mono {s D L x a y} h:=by cases h;exact⟨by show x.1≤8*((x.1+7) /8);omega,Nat.le_refl _,List.take_length⟩
 inn {s D L x a y} h g:=by cases h;show 8*((x.1+7) /8)≤8*s.size;omega
 lim h _ g:=by cases h;exact g
 pre _ h _ _:=by cases h;rfl
 cut {s s' D L x a y} hg h g1 g2:=by
  cases h
  have:8*s'.size<8*((x.1+7) /8):=g2;omega
 less h _ g:=by cases h;rw[if_pos g];rfl
theorem byt_length{s:ByteArray}{p n:Nat}(h:p+n≤s.size):(byt s p n).length=n:=by
 have:=size_list s;unfold byt;rw[List.length_take,List.length_drop];omega
theorem Nice.byts(n:Nat):Nice (byts n) where
 mono {s D L x a y} h:=by
  unfold I.byts at h
  split at h
  · cases h;exact⟨by show x.1≤8*((x.1+7) /8+n);omega,Nat.le_refl _,List.take_length⟩
  · cases h
 inn {s D L x a y} h g:=by
  unfold I.byts at h
  split at h
  · cases h;show 8*((x.1+7) /8+n)≤8*s.size;omega
  · cases h
 lim h hD g:=by
  unfold I.byts at h
  split at h
  · cases h;exact g
  · cases h
 pre hg h hx hc:=by
  have h2:=hg.h2;unfold I.byts at h ⊢
  split at h
  · cases h
    simp only at hc;rw[if_pos (by omega),hg.byt (by omega)]
  · cases h
 cut hg h hx hc:=by
  unfold I.byts at h ⊢
  split at h
  · cases h
    simp only at hc;rw[if_neg (by omega)]
  · cases h
 less h hD g:=by
  unfold I.byts at h ⊢
  split at h
  · rename_i q
    cases h;rw[if_pos g,if_pos q]
  · cases h
theorem Nice.app(l:List UInt8):Nice (app l) where
 mono h:=by
  unfold I.app at h
  split at h
  · cases h
  · cases h;exact⟨Nat.le_refl _,by simp,by simp⟩
 inn h g:=by
  unfold I.app at h
  split at h
  · cases h
  · cases h;exact g
 lim {s D L x a y} h hD g:=by
  unfold I.app at h
  split at h
  · cases h
  · cases h;simp only[List.length_append];omega
 pre hg h hx hc:=by
  unfold I.app at h ⊢
  split at h
  · cases h
  · rename_i q
    cases h;rw[if_neg q]
 cut hg h hx hc:=by
  unfold I.app at h
  split at h
  · cases h
  · cases h;simp only at hc;omega
 less {s D L x a y L'} h hD g:=by
  unfold I.app at h ⊢
  split at h
  · cases h
  · cases h
    simp only[List.length_append];by_cases q:L'<x.2.length - D+l.length
    · rw[if_pos q,if_neg (by omega)]
    · rw[if_neg q]
      by_cases q2:x.2.length+l.length - D≤L'
      · rw[if_pos q2]
      · exfalso;omega
theorem gr_take(b:List UInt8)(d:Nat):∀k,(gr b d k).take b.length=b
 |0=>List.take_length
 |k+1=>by
  rw[gr,List.take_append_of_le_length (by rw[gr_length];omega),gr_take b d k]
theorem Nice.copy(t k:Nat):Nice (copy t k) where
 mono h:=by
  unfold I.copy at h
  split at h
  · cases h
  · split at h
    · cases h
    · cases h;exact⟨Nat.le_refl _,by simp only[gr_length];omega,gr_take _ _ _⟩
 inn h g:=by
  unfold I.copy at h
  split at h
  · cases h
  · split at h
    · cases h
    · cases h;exact g
 lim {s D L x a y} h hD g:=by
  unfold I.copy at h
  split at h
  · cases h
  · split at h
    · cases h
    · cases h;simp only[gr_length];omega
 pre hg h hx hc:=by
  unfold I.copy at h ⊢
  split at h
  · cases h
  · split at h
    · cases h
    · rename_i q1 q2
      cases h;rw[if_neg q1,if_neg q2]
 cut hg h hx hc:=by
  unfold I.copy at h
  split at h
  · cases h
  · split at h
    · cases h
    · cases h;simp only at hc;omega
 less {s D L x a y L'} h hD g:=by
  unfold I.copy at h ⊢
  split at h
  · cases h
  · rename_i q1
    split at h
    · cases h
    · cases h
      rw[if_neg q1];simp only[gr_length];by_cases q:L'<x.2.length - D+k
      · rw[if_pos q,if_neg (by omega)]
      · rw[if_neg q,if_pos (by omega)]
theorem Nice.loopR{α β:Type}{f:α→Rm (α ⊕ β)}(hf:∀a,Nice (f a)):∀k a,Nice (loopR f k a)
 |0,_=>Nice.fl 0
 |k+1,a=>Nice.bnd (hf a) fun r=>match r with
  |.inl a=>Nice.loopR hf k a
  |.inr b=>Nice.pur b
theorem Nice.lenR(y:Nat):Nice (lenR y):=Nice.bnd (Nice.bits _) fun _=>Nice.ite (Nice.fl _) (Nice.pur _)
theorem Nice.dstR(y:Nat):Nice (dstR y):=Nice.bnd (Nice.bits _) fun _=>Nice.ite (Nice.fl _) (Nice.pur _)
theorem Nice.matR(y:Nat)(d:Nat→Nat)(m:Nat):Nice (matR y d m):=Nice.bnd (Nice.lenR _) fun _=>Nice.bnd (Nice.nxt _ _) fun _=>Nice.bnd (Nice.dstR _) fun _=>Nice.bnd (Nice.copy _ _) fun _=>Nice.pur _
theorem Nice.sym1(l:Nat→Nat)(n:Nat)(d:Nat→Nat)(m:Nat)(u:Unit):Nice (sym1 l n d m u):=
 Nice.bnd (Nice.nxt _ _) fun _=>Nice.ite (Nice.bnd (Nice.app _) fun _=>Nice.pur _) (Nice.ite (Nice.pur _) (Nice.matR _ _ _))
theorem Nice.syms(K:Nat)(l:Nat→Nat)(n:Nat)(d:Nat→Nat)(m:Nat):Nice (syms K l n d m):=Nice.loopR (Nice.sym1 l n d m) _ _
theorem Nice.stor:Nice stor:=Nice.bnd Nice.algn fun _=>Nice.bnd (Nice.bits _) fun _=>Nice.bnd (Nice.bits _) fun _=>Nice.ite (Nice.fl _) (Nice.bnd (Nice.byts _) fun _=>Nice.app _)
theorem Nice.ownR:∀k i g,Nice (ownR k i g)
 |0,_,_=>Nice.pur _
 |k+1,i,g=>Nice.bnd (Nice.bits _) fun _=>Nice.ownR k _ _
theorem Nice.len1(l:Nat→Nat)(N:Nat)(all:List Nat):Nice (len1 l N all):=
 Nice.ite (Nice.pur _) (Nice.bnd (Nice.nxt _ _) fun _=>Nice.bnd (Nice.bits _) fun _=>Nice.ite (Nice.fl _) (Nice.pur _))
theorem Nice.tabR(all:List Nat)(a b:Nat):Nice (tabR all a b):=Nice.ite (Nice.fl _) (Nice.pur _)
theorem Nice.dyn(K:Nat):Nice (dyn K):=
 Nice.bnd (Nice.bits _) fun _=>Nice.bnd (Nice.bits _) fun _=>Nice.bnd (Nice.bits _) fun _=>Nice.ite (Nice.fl _) (Nice.bnd (Nice.ownR _ _ _) fun _=>Nice.ite (Nice.fl _) (Nice.bnd (Nice.loopR (Nice.len1 _ _) _ _) fun _=>Nice.tabR _ _ _))
theorem Nice.body(K k:Nat):Nice (body K k):=Nice.ite Nice.stor (Nice.ite (Nice.syms _ _ _ _ _) (Nice.ite (Nice.bnd (Nice.dyn K) fun _=>Nice.syms _ _ _ _ _) (Nice.fl _)))
theorem Nice.blk(K:Nat)(u:Unit):Nice (blk K u):=Nice.bnd (Nice.bits _) fun _=>Nice.bnd (Nice.bits _) fun _=>Nice.bnd (Nice.body K _) fun _=>Nice.pur _
theorem Nice.inf(K:Nat):Nice (inf K):=Nice.loopR (Nice.blk K) _ _
theorem inf_bounds{K D L:Nat}{s:ByteArray}{d:List UInt8}{y:St}(hD:d.length=D)(h:inf K s D L (0,d)=.ok ((),y)):(y.2.drop D).length≤L∧(y.1+7) /8≤s.size∧y.2.take D=d:=by
 have h1:=(Nice.inf K).lim h (by simp only;omega) (by simp only;omega);have h2:=(Nice.inf K).inn h (Nat.zero_le _);obtain⟨_,h3,h4⟩:=(Nice.inf K).mono h;simp only at h3 h4;rw[List.length_drop];rw[hD] at h4;exact⟨h1,by omega,h4⟩
theorem agr_behind{s t b:ByteArray}{n:Nat}(hn:n≤s.size)(e:t=s.extract 0 n++b):Agr s t n∧n≤t.size:=by
 have e1:t.data.toList=s.data.toList.take n++b.data.toList:=by
  subst e;simp
 have hs:=size_list s;have ht:=size_list t;have hl:(s.data.toList.take n).length=n:=by rw[List.length_take];omega
 have h2:n≤t.size:=by rw[←ht,e1,List.length_append,hl];omega
 refine⟨⟨hn,h2,?_⟩,h2⟩;rw[e1,List.take_append_of_le_length (by omega),List.take_of_length_le (Nat.le_of_eq hl)]
theorem inf_more{K D L L' n:Nat}{s t b:ByteArray}{d:List UInt8}{y:St}(hD:d.length=D)(h:inf K s D L (0,d)=.ok ((),y))(hL:L≤L')(hn:(y.1+7) /8=n)(e:t=s.extract 0 n++b):inf K t D L' (0,d)=.ok ((),y):=by
 have hb:=inf_bounds hD h;obtain⟨h1,_⟩:=agr_behind (b:=b) (show n≤s.size by omega) e;have h2:=(Nice.inf K).pre h1 h (Nat.zero_le _) (by omega);have h3:=(Nice.inf K).less (L':=L') h2 (by simp only;omega) (by simp only;omega);have h4:=hb.1;rw[List.length_drop] at h4
 rwa [if_pos (by omega)] at h3
theorem inf_cut{K D L c:Nat}{s t:ByteArray}{d:List UInt8}{y:St}(hD:d.length=D)(h:inf K s D L (0,d)=.ok ((),y))(hn:(y.1+7) /8=s.size)(hc:c<s.size)(e:t=s.extract 0 c):inf K t D L (0,d)=.error 6:=by
 have ht:t.size=c:=by rw[e,ByteArray.size_extract];omega
 have e1:t.data.toList=s.data.toList.take c:=by subst e;simp
 have hg:Agr s t t.size:=⟨by omega,Nat.le_refl _,by rw[ht,e1,List.take_take,Nat.min_self]⟩;exact(Nice.inf K).cut hg h (Nat.zero_le _) (by rw[ht];omega)
theorem loop_go{α β:Type}{f:α→Rm (α ⊕ β)}{k:Nat}{a a':α}{s:ByteArray}{D L:Nat}{x y:St}(h:f a s D L x=.ok (.inl a',y)):loopR f (k+1) a s D L x=loopR f k a' s D L y:=by
 rw[loopR,bnd_of h]
theorem loop_end{α β:Type}{f:α→Rm (α ⊕ β)}{k:Nat}{a:α}{b:β}{s:ByteArray}{D L:Nat}{x y:St}(h:f a s D L x=.ok (.inr b,y)):loopR f (k+1) a s D L x=.ok (b,y):=by
 rw[loopR,bnd_of h];rfl
theorem loop_no{α β:Type}{f:α→Rm (α ⊕ β)}{k:Nat}{a:α}{e:Nat}{s:ByteArray}{D L:Nat}{x:St}(h:f a s D L x=.error e):loopR f (k+1) a s D L x=.error e:=by
 rw[loopR,bnd_er h]
theorem nb_plus(s:ByteArray)(a x y:Nat):M.nb s a (x+y)=M.nb s a x+M.nb s (a+x) y*2^x:=by
 unfold M.nb;rw[Nat.pow_add 2 a x,←Nat.div_div_eq_div_mul,Nat.pow_add,Nat.mod_mul,Nat.mul_comm (2^x)]
def wd(s:ByteArray)(a:Nat):Nat→Nat
 |0=>0
 |k+1=>2*wd s a k+M.nb s (a+k) 1
theorem rv_nb(s:ByteArray)(a:Nat):∀k,rv (M.nb s a k) k=wd s a k
 |0=>rfl
 |k+1=>by
  have h:=rv_nb s a k;have hb:=M.nb_lt s (a+k) 1;have hl:=M.nb_lt s a k;obtain⟨b,e⟩:∃b,M.nb s (a+k) 1=b:=⟨_,rfl⟩
  rw[rv_split,nb_plus,wd,e];rw[e] at hb
  have e1:(M.nb s a k+b*2^k) /2^k=b:=by
   rw[Nat.add_mul_div_right _ _ (Nat.two_pow_pos k),Nat.div_eq_of_lt hl,Nat.zero_add]
  have e2:rv (M.nb s a k+b*2^k) k=rv (M.nb s a k) k:=by
   rw[←rv_mod _ k k (Nat.le_refl _),Nat.add_mul_mod_self_right,Nat.mod_eq_of_lt hl]
  have e3:rv b 1=b:=by
   rw[rv_front];show b%2*2^0+0=b
   have h1:b<2:=hb;have h2:b%2=b:=Nat.mod_eq_of_lt h1;rw[h2];omega
  rw[e1,e2,e3,h];have:(2:Nat)^1=2:=rfl;rw[this];omega
theorem wd_lt(s:ByteArray)(a k:Nat):wd s a k<2^k:=by rw[←rv_nb];exact rv_lt _ _
section
variable {l:Nat→Nat} {n i k a:Nat} {s:ByteArray}
theorem wd_iff(hf:Fit l n)(hi:i<n)(hk:k≤l i):cod l n i/2^(l i - k)=wd s a k↔M.nb s a k=rc l n i%2^k:=by
 have hc:=cod_fit hf.1 hf.2 hi;have h1:rc l n i%2^k=rv (cod l n i/2^(l i - k)) k:=rv_low hk
 have h2:cod l n i/2^(l i - k)<2^k:=by
  rw[Nat.div_lt_iff_lt_mul (Nat.two_pow_pos _),←Nat.pow_add,show k+(l i - k)=l i by omega];exact hc
 have h3:=M.nb_lt s a k;constructor
 · intro h
   rw[h1,h,←rv_nb,rv_rv,Nat.mod_eq_of_lt h3]
 · intro h
   rw[←rv_nb,h,h1,rv_rv,Nat.mod_eq_of_lt h2]
def Cst(l:Nat→Nat)(n:Nat)(s:ByteArray)(a k:Nat):Prop:=∀i,i<n→l i≠0→l i<k→M.nb s a (l i)≠rc l n i
def Beg(l:Nat→Nat)(n:Nat)(s:ByteArray)(a k i:Nat):Prop:=l i≠0∧k≤l i∧cod l n i/2^(l i - k)=wd s a k
instance (l:Nat→Nat) (n:Nat) (s:ByteArray) (a k i:Nat):Decidable (Beg l n s a k i):=inferInstanceAs (Decidable (_∧_∧_))
theorem Cst.zero:Cst l n s a 0:=fun i _ _ h=>by omega
theorem Cst.next(hf:Fit l n)(h:Cst l n s a k)(h2:∀i,i<n→Beg l n s a k i→l i≠k):Cst l n s a (k+1):=fun i hi h0 hk=>by
 by_cases q:l i<k
 · exact h i hi h0 q
 · have e:l i=k:=by omega
   intro g;refine h2 i hi ⟨h0,by omega,?_⟩ e;rw[wd_iff hf hi (by omega),←e,g,Nat.mod_eq_of_lt (rc_lt l n i)]
variable {D L:Nat} {y:List UInt8}
theorem code_hit(ht:Tbl l n)(hi:i<n)(ha:a+k≤8*s.size)(hb:Beg l n s a k i)(hk:l i=k):nxt l n s D L (a,y)=.ok (i,(a+k,y)):=by
 subst hk;have h:=(wd_iff (s:=s) (a:=a) ht.fit hi (Nat.le_refl _)).1 hb.2.2;rw[Nat.mod_eq_of_lt (rc_lt l n i)] at h;exact nxt_is ht hi hb.1 ha h
theorem lok_rest(ht:Tbl l n)(hno:∀i,i<n→l i≠0→a+l i≤8*s.size→M.nb s a (l i)≠rc l n i)(ha:a≤8*s.size):
 lok l n s a=if som l n (M.nb s a (min 15 (8*s.size - a))) (min 15 (8*s.size - a)) n=true then(0,0,6) else(0,0,7):=by
 have e:min (min 15 (8*s.size - a)) 15=min 15 (8*s.size - a):=by omega
 unfold lok;rw[lk_rest ht,e];intro i hi hf hle;rw[e] at hf hle;have h2:=hf.2;rw[Nat.min_eq_left hle,nb_low s hle,Nat.mod_eq_of_lt (rc_lt l n i)] at h2;exact hno i hi hf.1 (by omega) h2
theorem code_none(ht:Tbl l n)(ha:a+k≤8*s.size)(hc:Cst l n s a k)(hb:∀i,i<n→¬Beg l n s a k i):nxt l n s D L (a,y)=.error 163:=by
 have hf:=ht.fit
 have hno:∀i,i<n→l i≠0→a+l i≤8*s.size→M.nb s a (l i)≠rc l n i:=fun i hi h0 _ g=>by
  by_cases q:l i<k
  · exact hc i hi h0 q g
  · refine hb i hi ⟨h0,by omega,(wd_iff hf hi (by omega)).2 ?_⟩
    rw[←g,nb_low s (by omega)]
 have e:lok l n s a=(0,0,7):=by
  rw[lok_rest ht hno (by omega),if_neg];rw[som_iff];rintro⟨i,hi,h0,h⟩;have h15:=hf.1.2 i hi;by_cases q:l i<k
  · have em:min (l i) (min 15 (8*s.size - a))=l i:=by omega
    rw[em,nb_low s (by omega),Nat.mod_eq_of_lt (rc_lt l n i)] at h;exact hc i hi h0 q h
  · refine hb i hi ⟨h0,by omega,(wd_iff hf hi (by omega)).2 ?_⟩
    have:=mod_less h (k:=k) (by omega);rw[nb_low s (by omega)] at this;exact this
 unfold nxt;rw[if_pos ht,show lok l n s ((a,y):St).1=(0,0,7) from e];rfl
theorem code_end(ht:Tbl l n)(ha:a+k=8*s.size)(hc:Cst l n s a (k+1))(hi:i<n)(hb:Beg l n s a k i):nxt l n s D L (a,y)=.error 6:=by
 have hf:=ht.fit;have h15:=hf.1.2 i hi;have hno:∀i,i<n→l i≠0→a+l i≤8*s.size→M.nb s a (l i)≠rc l n i:=fun i hi h0 h g=>hc i hi h0 (by omega) g
 have hk:k≤l i:=hb.2.1
 have e:lok l n s a=(0,0,6):=by
  rw[lok_rest ht hno (by omega),if_pos];rw[som_iff];refine⟨i,hi,hb.1,?_⟩;have e:min (l i) (min 15 (8*s.size - a))=k:=by omega
  rw[e,nb_low s (by omega)];exact(wd_iff hf hi hk).1 hb.2.2
 unfold nxt;rw[if_pos ht,show lok l n s ((a,y):St).1=(0,0,6) from e];rfl
end
end Go.Proofs.YtdpabanajgegjaaGreatDoor.I
