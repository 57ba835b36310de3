import Derived.Test.YthgilhebnlglkaaGreatDoorEMT9Tok
import Derived.Test.YthgilhebnlglkaaGreatDoorEMMath
set_option linter.all false
set_option maxHeartbeats 8000000
set_option maxRecDepth 1000000
open Go.Proofs.Tryz
namespace Go.Proofs.YthgilhebnlglkaaGreatDoor.I
open Go Go.RowKit M
open Go.Lib (strCells)
structure Ry(w:World)(g cp:Nat)(bs:List UInt8):Prop where
 nc:bs.length<=cp
 room:∀j,j<cp->(w.cell? ⟨g,j,none⟩).isSome=true
 free:∀j,j<cp->w.frozen? ⟨g,j,none⟩=false
 byte:∀j u,bs[j]? =some u->w.cell? ⟨g,j,none⟩=some (.int .u8 (u.toNat:Int))
 typ:∃c fz,w.heap[g]? =some (.cells c 5 fz)
section
variable {w w':World} {g cp:Nat} {bs:List UInt8}
theorem Ry.lt(h:Ry w g cp bs):g<w.heap.size:=by
 obtain⟨c,fz,e⟩:=h.typ;exact(qW.1 e).1
theorem Ry.of_block(h:Ry w g cp bs)(e:w'.heap[g]? =w.heap[g]?):Ry w' g cp bs:=by
 have hc:∀j,w'.cell? ⟨g,j,none⟩=w.cell? ⟨g,j,none⟩:=λj=>World.cell?_of_block (a:=⟨g,j,none⟩) e
 have hf:∀j,w'.frozen? ⟨g,j,none⟩=w.frozen? ⟨g,j,none⟩:=λj=>World.frozen?_of_block (a:=⟨g,j,none⟩) e
 exact⟨h.nc,λj hj=>by rw[hc];exact h.room j hj,λj hj=>by rw[hf];exact h.free j hj,λj u hu=>by rw[hc];exact h.byte j u hu,by obtain⟨c,fz,q⟩:=h.typ;exact⟨c,fz,e.trans q⟩⟩
theorem Ry.kept{S:Nat->Prop}(h:Ry w g cp bs)(hk:Kept S w w')(hS:¬S g):Ry w' g cp bs:=h.of_block (hk.block g h.lt hS)
theorem Ry.rb(h:Ry w g cp bs):V.Tx.Rb w g cp bs:=
 ⟨h.lt,h.nc,h.room,h.free,h.byte,λo ho=>by obtain⟨c,fz,q⟩:=h.typ;rw[q] at ho;cases ho;rfl⟩
theorem Ry.other(h:Ry w g cp bs){x:Addr}(hx:g≠x.block)(u:Value):Ry (w.setCell x u) g cp bs:=h.of_block (Below.heap_setCell _ _ _ _ hx)
end
theorem Ry.of_own{w:World}{B n:Nat}{v:Value}{bs:List UInt8}(h:w.ownsRow B 5 1 v n (bs.map λu=>Value.int .u8 (u.toNat:Int)))(hn:0<n):∃g cp,v=.slice (some ⟨g,0,none⟩) n cp/\bs.length=n/\B<=g/\Ry w g cp bs:=by
 obtain⟨g,cp,e1,e2,e3,e4⟩:=V.Tx.Rb.of_own h hn;refine⟨g,cp,e1,e2,e3,e4.nc,e4.room,e4.free,e4.byte,?_⟩;obtain⟨_,h2⟩:=h;rcases h2 with⟨rfl,_⟩|⟨g',cp',cur,rfl,hg,hh,_⟩
 · cases e1
 · injection e1 with e1 _ _
   injection e1 with e1
   injection e1 with e1
   subst e1;exact⟨cur,(0,0),hh⟩
theorem z2k{w:World}{g:Nat}{t:TypeId}:∀ (vs:List Value) (o:Nat) (w:World),(∃c fz,w.heap[g]? =some (.cells c t fz))->∃c fz,(w.setCells g o vs).heap[g]? =some (.cells c t fz)
 |[],o,w,h=>h
 |v::vs,o,w,⟨c,fz,h⟩=>z2k (w:=w) vs (o+1) (w.setCell ⟨g,o,none⟩ v) ⟨_,fz,by rw[setCell_eq_setRow w g o c t fz v h];exact setRow_heap w g c _ t fz h⟩
theorem z1a(g:Nat)(a:Addr):∀ (vs:List Value) (o:Nat) (w:World),(w.setCells g o vs).frozen? a=w.frozen? a
 |[],o,w=>rfl
 |v::vs,o,w=>(z1a g a vs (o+1) (w.setCell ⟨g,o,none⟩ v)).trans (World.frozen?_setCell _ _ _ _)
theorem z0P(g:Nat):∀ (vs:List Value) (o:Nat) (w:World),w.grownBy (w.setCells g o vs) (some g)
 |[],o,w=>⟨rfl,rfl,rfl,qR,λ_ _ _=>rfl⟩
 |v::vs,o,w=>by
  have h:=z0P g vs (o+1) (w.setCell ⟨g,o,none⟩ v);exact⟨h.os,h.tape,h.output,qK (by simp[World.setCell]) h.size,λk hk hne=>(h.block k (by simpa [World.setCell] using hk) hne).trans (Below.heap_setCell _ _ _ _ (λe=>hne (by rw[e])))⟩
def vls(l:List UInt8):List Value:=l.map λu=>Value.int .u8 (u.toNat:Int)
theorem Ry.put{w:World}{g cp:Nat}{bs:List UInt8}(h:Ry w g cp bs)(l:List UInt8)(hr:bs.length+l.length<=cp):Ry (w.setCells g bs.length (vls l)) g cp (bs++l):=by
 have hl:(vls l).length=l.length:=(by unfold vls;rw[List.length_map]);have hrm:∀j,j<(vls l).length->(w.cell? ⟨g,bs.length+j,none⟩).isSome=true:=λj hj=>h.room _ (by omega)
 have hout:∀j,(j<bs.length\/bs.length+l.length<=j)->(w.setCells g bs.length (vls l)).cell? ⟨g,j,none⟩=w.cell? ⟨g,j,none⟩:=λj hj=>
  World.cell?_setCells_out g (vls l) bs.length w ⟨g,j,none⟩ (λ_ _=>by rw[hl];exact hj)
 have hin:∀j (hj:j<(vls l).length),(w.setCells g bs.length (vls l)).cell? ⟨g,bs.length+j,none⟩=some (vls l)[j]:=World.cell?_setCells_in g (vls l) bs.length w hrm;refine⟨by rw[qA];exact hr,λj hj=> ?_,λj hj=> ?_,λj u hu=> ?_,z2k (w:=w) _ _ _ h.typ⟩
 · by_cases q:j<bs.length\/bs.length+l.length<=j
   · rw[hout j q];exact h.room j hj
   · have:=hin (j - bs.length) (by omega)
     rw[show bs.length+(j - bs.length)=j by omega] at this;rw[this];rfl
 · rw[z1a];exact h.free j hj
 · by_cases q:j<bs.length
   · rw[hout j (.inl q)]
     rw[List.getElem?_append_left q] at hu;exact h.byte j u hu
   · rw[List.getElem?_append_right (by omega)] at hu
     have hj:j - bs.length<l.length:=(List.getElem?_eq_some_iff.1 hu).1;have:=hin (j - bs.length) (by omega);rw[show bs.length+(j - bs.length)=j by omega] at this;rw[this];congr 1;unfold vls;rw[List.getElem_map];rw[qE hj] at hu;cases hu;rfl
def Apd(w:World)(g:Nat)(bs:List UInt8)(v:Value)(w':World):Prop:=∃g' cp',v=.slice (some ⟨g',0,none⟩) bs.length cp'/\Ry w' g' cp' bs/\w.grownBy w' (some g)/\(g'=g\/w.heap.size<=g')
theorem zad(w:World)(ty:TypeId)(g n cp:Nat)(bs:List UInt8)(h:Ry w g cp bs)(hn:bs.length=n)(s:ByteArray)(hm:n+s.size<=10000000000):
 ∃v w',(Builtin.append_ #[26,9] ty #[.slice (some ⟨g,0,none⟩) n cp,.string s]).run prog w=.ok v w'/\Apd w g (bs++s.data.toList) v w':=by
 subst hn;obtain⟨i,h1,h2,h3,h4⟩:=V.Tx.info_of V.Tx.byteInfo;have hsl:s.data.toList.length=s.size:=Array.length_toList;have hsc:strCells s=vls s.data.toList:=rfl;have hscl:(strCells s).length=s.size:=Lib.strCells_length s;by_cases hr:bs.length+s.size<=cp
 · have hf:=Lib.run_firstCells_string (P:= prog) w 1 s
   have hst:=run_storeCells_cells (P:= prog) g bs.length (strCells s) 0 w (λj hj=>by rw[Nat.add_zero];exact h.room _ (by omega)) (λj hj=>by rw[Nat.add_zero];exact h.free _ (by omega)) (Lib.strCells_oneCell s);simp only[Nat.add_zero] at hst;have hrun:(Builtin.append_ #[26,9] ty #[.slice (some ⟨g,0,none⟩) bs.length cp,.string s]).run prog w=.ok (.slice (some ⟨g,0,none⟩) (bs.length+s.size) cp) (w.setCells g bs.length (strCells s)):=by
    simp[Builtin.append_,run_underlying underlying26,run_underlying underlying9,sizeOf,typeInfo,h1,h3,Builtin.lenOf,hr,hf,Addr.add_lit,hst]
   refine⟨_,_,hrun,g,cp,by rw[qA,hsl],?_,z0P _ _ _ _,.inl rfl⟩;rw[hsc];exact h.put _ (by omega)
 · have hold:∀j v,(vls bs)[j]? =some v->w.cell? ((⟨g,0,none⟩:Addr).add j)=some v:=λj v hv=>by
    rw[V.cadd_at,Nat.zero_add];unfold vls at hv;rw[List.getElem?_map] at hv;cases q:bs[j]? with
    |none=>rw[q] at hv;cases hv
    |some y=>rw[q] at hv;simp at hv;subst hv;exact h.byte j y q
   have hvl:(vls bs).length=bs.length:=(by unfold vls;rw[List.length_map]);have hrun:=Lib.run_append_grow_string (P:= prog) w 26 9 ty 5 i (.int .u8 0) underlying26 underlying9 h1 h2 ⟨g,0,none⟩ bs.length cp (vls bs) (by rw[h3,hvl,Nat.mul_one]) hold s (by omega) (by omega) (by rw[h4];exact growslice_fits (by omega) (by omega));have hge:=grownCap_ge w (bs.length+s.size) cp 5;have hcm:grownCap w (bs.length+s.size) cp 5 <=maxLen:=grownCap_le_maxLen w (bs.length+s.size) cp 5 (by unfold maxLen;omega);refine⟨_,_,hrun,w.heap.size,_,by rw[qA,hsl],?_,⟨rfl,rfl,rfl,by simp,λk hk _=>heap_alloc_old w.drew _ hk⟩,.inr qR⟩;have ho:(w.drew.alloc (.cells ((vls bs).toArray++(strCells s).toArray++Builtin.zeroCells (Value.int .u8 0).cells (grownCap w (bs.length+s.size) cp 5 - (bs.length+s.size))) 5)).ownsRow w.heap.size 5 1 (.slice (some ⟨w.heap.size,0,none⟩) (bs.length+s.size) (grownCap w (bs.length+s.size) cp 5)) (bs.length+s.size) (vls (bs++s.data.toList)):=by
    refine⟨by unfold vls;rw[List.length_map,qA,hsl,Nat.mul_one],.inr ⟨w.heap.size,_,_,rfl,qR,heap_alloc_new w.drew _,hge,hcm,?_,?_⟩⟩
    · have hz1:(Value.int IntKind.u8 0).cells.size=1:=rfl
      simp only[Array.size_append,List.size_toArray,size_zeroCells,hz1,hvl,hscl];omega
    · simp only[Array.toList_append,qD]
      have e:vls (bs++s.data.toList)=vls bs++strCells s:=(by rw[hsc];unfold vls;rw[List.map_append]);rw[e,<-qD];have hlen:(vls bs++strCells s).length=(bs.length+s.size)*1:=(by rw[qA,hvl,hscl,Nat.mul_one]);rw[<-hlen];exact List.take_left
   by_cases h0:0<bs.length+s.size
   · obtain⟨g',cp',e1,_,_,e4⟩:=Ry.of_own ho h0
     injection e1 with e1 _ e5
     injection e1 with e1
     injection e1 with e1
     subst e1;subst e5;exact e4
   · exfalso;omega
theorem zae(w:World)(ty:TypeId)(g n cp:Nat)(bs:List UInt8)(h:Ry w g cp bs)(hn:bs.length=n)(ad:Addr)(c:Nat)(u:UInt8)(hx:w.cell? ad=some (.int .u8 (u.toNat:Int)))(hm:n<=1000000000):
 ∃v w',(Builtin.append_ #[26,26] ty #[.slice (some ⟨g,0,none⟩) n cp,.slice (some ad) 1 c]).run prog w=.ok v w'/\Apd w g (bs++[u]) v w':=by
 subst hn;obtain⟨i,h1,h2,h3,h4⟩:=V.Tx.info_of V.Tx.byteInfo;have hnews:∀j v,(vls [u])[j]? =some v->w.cell? (ad.add j)=some v:=by
  intro j v hv
  match j,hv with
  |0,hv=>simp[vls] at hv;subst hv;simpa [Addr.add] using hx
 have h1c:∀v∈vls [u],v.oneCell'=true:=(by intro v hv;simp[vls] at hv;subst hv;rfl);by_cases hr:bs.length+1<=cp
 · have hrun:=run_append_room_cells (P:= prog) w 26 ty 5 i underlying26 h1 g 0 bs.length cp ad 1 c (vls [u]) (by rw[h3];rfl) hnews h1c hr
    (λj hj=>by simp[vls] at hj;subst hj;exact h.room _ (by rw[h3];omega)) (λj hj=>by simp[vls] at hj;subst hj;exact h.free _ (by rw[h3];omega))
   rw[h3,Nat.zero_add,Nat.mul_one] at hrun;exact⟨_,_,hrun,g,cp,by simp,h.put [u] (by simpa using hr),z0P _ _ _ _,.inl rfl⟩
 · have hold:∀j v,(vls bs)[j]? =some v->w.cell? ((⟨g,0,none⟩:Addr).add j)=some v:=λj v hv=>by
    rw[V.cadd_at,Nat.zero_add];unfold vls at hv;rw[List.getElem?_map] at hv;cases q:bs[j]? with
    |none=>rw[q] at hv;cases hv
    |some y=>rw[q] at hv;simp at hv;subst hv;exact h.byte j y q
   obtain⟨v',w',hrun,r1,r2⟩:=run_append_arg_grows (P:= prog) w 26 ty 5 i (.int .u8 0) 1 1 underlying26 h1 h2 h3 h4 rfl (by decide) ⟨g,0,none⟩ bs.length cp (vls bs) (by simp[vls]) hold ad 1 c (vls [u]) (by simp[vls]) hnews (by omega) (by unfold maxLen;omega) (by omega);have e:vls bs++vls [u]=vls (bs++[u]):=(by unfold vls;rw[List.map_append]);rw[e] at r1;obtain⟨g',cp',rfl,_,hg,hR⟩:=Ry.of_own r1 (by omega);exact⟨_,w',hrun,g',cp',by simp,hR,⟨r2.os,r2.tape,r2.output,r2.size,λk hk _=>r2.block k hk (by simp)⟩,.inr hg⟩
theorem zfa(w:World)(s:ByteArray)(hs:s.size<=100000000):∃cp W',(convert 9 26 (.string s)).run prog w=.ok (.slice (some ⟨w.heap.size,0,none⟩) s.size cp) W'/\Ry W' w.heap.size cp s.data.toList/\Below w.heap.size w W'/\W'.heap.size=w.heap.size+1:=by
 obtain⟨cp,W',h1,h2,h3,h4⟩:=V.Tx.run_bytes w s hs;have e:=Lib.run_convert_string_bytes (P:= prog) w 9 26 5 s underlying9 underlying26 underlying5;have e2:=h1.symm.trans e;injection e2 with _ e3
 subst e3;exact⟨cp,_,h1,⟨h2.nc,h2.room,h2.free,h2.byte,_,_,Lib.bytesWorld_at_new w 5 s⟩,h3,h4⟩
end Go.Proofs.YthgilhebnlglkaaGreatDoor.I
namespace Go.Proofs.YthgilhebnlglkaaGreatDoor.Z
open Go Go.RowKit
theorem zfk(X b:Nat)(hX:X<16777216)(hb:b<256):Go.bits .or .u32 ((X:Int)*256) (b:Int)=((X*256+b:Nat):Int):=by
 have:=u32_or_nat (X*256) b (by omega) (by omega);rw[show((X*256:Nat):Int)=(X:Int)*256 by omega] at this;rw[this];congr 1;have:=Nat.two_pow_add_eq_or_of_lt (i:=8) (b:=b) (by omega) X;rw[Nat.mul_comm X 256];exact this.symm
theorem z40(a b:Nat)(w:World)(ha:a<256)(hb:b<256):Calls prog 98 #[.int .u8 a,.int .u8 b] w λe w'=>e=.returned (.int .u32 ((a*256+b:Nat):Int))/\w=w':=by
 have ho:=zfk a b (by omega) hb;go_enter func98,ntmps98;go_wp2;go_ret;exact⟨by first|rfl|(rw[<-ho])|(congr 2),rfl⟩
theorem zkm(a:Nat)(h:a<256):Go.bits .and .u8 (a:Int) 15=((a%16:Nat):Int):=by
 have h1:∀a:Fin 256,a.val&&&15=a.val%16:=(by decide);have:=u8_and_nat a 15 h (by decide);rw[h1 ⟨a,h⟩] at this;exact this
theorem zfX(a:Nat)(h:a<256):Go.bits .and .u8 (a:Int) 32=((a/32%2*32:Nat):Int):=by
 have h1:∀a:Fin 256,a.val&&&32=a.val/32%2*32:=(by decide);have:=u8_and_nat a 32 h (by decide);rw[h1 ⟨a,h⟩] at this;exact this
theorem may_any(a b:Nat)(w:World)(ha:a<256)(hb:b<256):Calls prog 73 #[.int .u8 a,.int .u8 b] w λe w'=>e=.returned (.bool (decide (may a b)))/\w=w':=by
 have HN:=qH (λw=>z40 a b w ha hb);have h1:=zkm a ha;obtain⟨x,hx⟩:∃x,a%16=x:=⟨_,rfl⟩
 obtain⟨y,hy⟩:∃y,a/16=y:=⟨_,rfl⟩
 obtain⟨z,hz⟩:∃z,(a*256+b)%31=z:=⟨_,rfl⟩
 obtain⟨N,hN⟩:∃N,a*256+b=N:=⟨_,rfl⟩
 have hm:decide (may a b)=(decide (x=8)&& (decide (y<=7)&&decide (z=0))):=by
  rw[<-Bool.decide_and,<-Bool.decide_and];refine decide_eq_decide.2 ?_
  unfold may;rw[hx,hy,hz]
 rw[hN] at HN hz;rw[hx] at h1;rw[hm];have h2:(a:Int) /16=(y:Int):=(by omega);have h3:(N:Int)%31=(z:Int):=(by omega);have h3':Int.tmod (N:Int) 31=(z:Int):=(by rw[Int.tmod_eq_emod_of_nonneg (by omega)];exact h3);clear hm hx hy hN hz;by_cases q1:x=8
 · have c1:((x:Int) !=8)=false:=by rw[bne_eq_false_iff_eq];omega
   by_cases q2:y<=7
   · have c2:decide (7<(y:Int))=false:=qF (by omega)
     by_cases q3:z=0
     · have c3:((z:Int)==0)=true:=by rw[beq_iff_eq];omega
       have e:(decide (x=8)&& (decide (y<=7)&&decide (z=0)))=true:=(by simp[q1,q2,q3]);rw[e];clear q1 q2 q3;go_enter func73,ntmps73;go_wp2_with (go_at_call 98;(with_reducible refine(HN.o _).mono ?_);rintro e w1 ⟨rfl,rfl⟩);go_ret;exact⟨rfl,rfl⟩
     · have c3:((z:Int)==0)=false:=by rw[qN];omega
       have e:(decide (x=8)&& (decide (y<=7)&&decide (z=0)))=false:=(by simp[q3]);rw[e];clear q1 q2 q3;go_enter func73,ntmps73;go_wp2_with (go_at_call 98;(with_reducible refine(HN.o _).mono ?_);rintro e w1 ⟨rfl,rfl⟩);go_ret;exact⟨rfl,rfl⟩
   · have c2:decide (7<(y:Int))=true:=q9T (by omega)
     have e:(decide (x=8)&& (decide (y<=7)&&decide (z=0)))=false:=(by simp[q2]);rw[e];clear q1 q2;go_enter func73,ntmps73;go_wp2_with fail;go_ret;exact⟨rfl,rfl⟩
 · have c1:((x:Int) !=8)=true:=by rw[bne_iff_ne];omega
   have e:(decide (x=8)&& (decide (y<=7)&&decide (z=0)))=false:=(by simp[q1]);rw[e];clear q1;go_enter func73,ntmps73;go_wp2_with fail;go_ret;exact⟨rfl,rfl⟩
theorem z4W(s:ByteArray)(w:World)(h:s.size<4):Calls prog 42 #[.string s] w λe w'=>e=.returned (.tuple #[.int .u32 0,.bool false])/\w=w':=by
 have d:decide ((s.size:Int)<4)=true:=q9T (by omega);clear h;go_enter func42,ntmps42;go_wp2_with fail;go_ret2;exact⟨rfl,rfl⟩
theorem z1g(s:ByteArray)(w:World)(h:4<=s.size):Calls prog 42 #[.string s] w λe w'=>e=.returned (.tuple #[.int .u32 (sa s 0 4:Nat),.bool true])/\w=w':=by
 have d:decide ((s.size:Int)<4)=false:=qF (by omega);go_enter func42,ntmps42;go_wp2_with fail
 go_loop [2,8] (λu i=> ∃k:Nat,k<=4/\i=.int .i64 k/\u=.int .u32 (sa s 0 k:Nat)) (λ_ i=>4 - (intOf i).toNat)
 case atStart=>exact⟨0,by decide,rfl,rfl⟩
 case round=>
  obtain⟨k,hk,rfl,rfl⟩:=hrel;by_cases hlt:k<4
  · have d1:decide ((k:Int)<4)=true:=q9T (by omega)
    have hb:=z3q s k (by omega);have hb2:=z1W s k;have hX:=zd3 s 0 k;have hX3:256^k<=256^3:=Nat.pow_le_pow_right (by decide) (by omega);have hst:sa s 0 (k+1)=sa s 0 k*256+at8 s k:=(by rw[sa,Nat.zero_add]);obtain⟨X,hXe⟩:∃X,sa s 0 k=X:=⟨_,rfl⟩
    obtain⟨b,hbe⟩:∃b,at8 s k=b:=⟨_,rfl⟩
    rw[hXe,hbe] at hst;rw[hXe] at hX ⊢;rw[hbe] at hb hb2;have HS:=qH hst;have ho:=zfk X b (by omega) hb2;have hw1:IntKind.u32.wrap ((X:Int)*256)=(X:Int)*256:=(by rw[IntKind.wrap_u32'];omega);have hw2:IntKind.u32.wrap (b:Int)=(b:Int):=(by rw[IntKind.wrap_u32'];omega);have hks:k<s.size:=(by omega);clear hX hX3 hst hXe hbe;go_wp2_with fail
    go_round
    case rel=>exact⟨k+1,by omega,by go_num,congrArg (Value.int .u32) (by rw[HS.o];first|exact ho|(simp;omega)|omega)⟩
    case measure=>simp[intOf];omega
  · obtain rfl:k=4:=by omega
    go_wp2_with fail;go_ret2;exact⟨rfl,rfl⟩
theorem z4J(s:ByteArray)(w:World)(hs:s.size<=maxLen):Calls prog 30 #[.string s] w λe w'=>e=.returned (.tuple #[.int .u32 (dct s).1,.bool (dct s).2.1,.int .i64 (dct s).2.2])/\Below w.heap.size w w':=by
 have hs2:s.size<=9223372036854775807:=(by unfold maxLen at hs;omega);generalize hR:dct s=R;unfold dct at hR;by_cases h2:s.size<2
 · rw[if_pos h2] at hR
   subst hR;have d:decide ((s.size:Int)<2)=true:=q9T (by omega);clear h2;go_enter func30,ntmps30;go_wp2_with fail;go_ret3;exact⟨rfl,Below.refl _ _⟩
 · rw[if_neg h2] at hR
   have d:decide ((s.size:Int)<2)=false:=qF (by omega);have i0:0<s.size:=(by omega);have i1:1<s.size:=(by omega);have g0:=z3q s 0 i0;have g1:=z3q s 1 i1;have l0:=z1W s 0;have l1:=z1W s 1;obtain⟨a,ha⟩:∃a,at8 s 0=a:=⟨_,rfl⟩
   obtain⟨b,hb⟩:∃b,at8 s 1=b:=⟨_,rfl⟩
   rw[ha] at g0 l0;rw[hb] at g1 l1;rw[ha,hb] at hR;have HM:=qH (λw=>may_any a b w l0 l1);by_cases hm:may a b
   · rw[if_neg (λh=>h hm)] at hR
     have HM:=qH (λw=>(show Calls prog 73 #[.int .u8 a,.int .u8 b] w λe w'=>e=.returned (.bool true)/\w=w' from by have:=HM.o w;rw[q9T hm] at this;exact this));have hand:=zfX b l1;by_cases h0:b/32%2=0
     · rw[if_pos h0] at hR
       subst hR;rw[h0] at hand;have hz:((0*32:Nat):Int)=0:=rfl;rw[hz] at hand;clear h2 hm h0 ha hb;go_enter func30,ntmps30;go_wp2_with fail
       go_region_with (go_at_call 73;(with_reducible refine(HM.o _).mono ?_);rintro e w1 ⟨rfl,rfl⟩)
       all_goals go_wp2_with fail
       all_goals go_ret3
       all_goals exact⟨rfl,(Below.refl _ _).drew⟩
     · rw[if_neg h0] at hR
       have h1:b/32%2=1:=(by omega);rw[h1] at hand;have hz:((1*32:Nat):Int)=32:=rfl;rw[hz] at hand;have hxs:(s.extract 2 s.size).size=s.size - 2:=(by rw[ByteArray.size_extract];omega);have hsa:6<=s.size->sa (s.extract 2 s.size) 0 4=sa s 2 4:=λh6=>by
        have e:∀i,i<4->at8 (s.extract 2 s.size) i=at8 s (2+i):=λi hi=>by
         unfold at8;have:(s.extract 2 s.size).data.toList=(s.data.toList.drop 2).take (s.size - 2):=(by simp[List.drop_take]);rw[this,List.getD,List.getElem?_take,if_pos (by omega),List.getElem?_drop,List.getD]
        rw[z2X,z2X,e 0 (by decide),e 1 (by decide),e 2 (by decide),e 3 (by decide)]
       by_cases h6:s.size<6
       · rw[if_pos h6] at hR
         subst hR;have HA:=qH (λw=>z4W (s.extract 2 s.size) w (by omega));generalize hX:s.extract 2 s.size=X at HA;clear hm h0 ha hb h1 hsa hxs h6;go_enter func30,ntmps30;go_wp2_with fail
         go_region_with (go_at_call 73;(with_reducible refine(HM.o _).mono ?_);rintro e w1 ⟨rfl,rfl⟩)
         all_goals go_wp2_with (go_at_call 42;(with_reducible refine(HA.o _).mono ?_);rintro e w2 ⟨rfl,rfl⟩)
         all_goals go_ret3
         all_goals exact⟨rfl,(Below.refl _ _).drew⟩
       · rw[if_neg h6] at hR
         subst hR;have HA:=qH (λw=>z1g (s.extract 2 s.size) w (by omega));rw[hsa (by omega)] at HA;obtain⟨X,hX⟩:∃X,s.extract 2 s.size=X:=⟨_,rfl⟩
         obtain⟨Y,hY⟩:∃Y,sa s 2 4=Y:=⟨_,rfl⟩
         rw[hX,hY] at HA;rw[hY];clear hm h0 ha hb h1 hsa hxs h6 hY;go_enter func30,ntmps30;go_wp2_with fail
         go_region_with (go_at_call 73;(with_reducible refine(HM.o _).mono ?_);rintro e w1 ⟨rfl,rfl⟩)
         all_goals go_wp2_with (go_at_call 42;(with_reducible refine(HA.o _).mono ?_);rintro e w2 ⟨rfl,rfl⟩)
         all_goals go_ret3
         all_goals exact⟨rfl,(Below.refl _ _).drew⟩
   · rw[if_pos hm] at hR
     subst hR;have HM:=qH (λw=>(show Calls prog 73 #[.int .u8 a,.int .u8 b] w λe w'=>e=.returned (.bool false)/\w=w' from by have:=HM.o w;rw[qF hm] at this;exact this));clear h2 hm ha hb;go_enter func30,ntmps30;go_wp2_with fail
     go_region_with (go_at_call 73;(with_reducible refine(HM.o _).mono ?_);rintro e w1 ⟨rfl,rfl⟩)
     all_goals go_wp2_with fail
     all_goals go_ret3
     all_goals exact⟨rfl,(Below.refl _ _).drew⟩
theorem zhy(w:World)(a b c d:Nat)(ha:a<256)(hb:b<256)(hc:c<256)(hd:d<256):
 (convert 26 9 (.slice (some ⟨w.heap.size,0,none⟩) 4 4)).run prog (w.alloc (.cells #[.int .u8 (a:Int),.int .u8 (b:Int),.int .u8 (c:Int),.int .u8 (d:Int)] 5))=.ok (.string ⟨#[UInt8.ofNat a,UInt8.ofNat b,UInt8.ofNat c,UInt8.ofNat d]⟩) (w.alloc (.cells #[.int .u8 (a:Int),.int .u8 (b:Int),.int .u8 (c:Int),.int .u8 (d:Int)] 5)):=by
 have hn:=heap_alloc_new w (.cells #[.int .u8 (a:Int),.int .u8 (b:Int),.int .u8 (c:Int),.int .u8 (d:Int)] 5);generalize hW:w.alloc (.cells #[.int .u8 (a:Int),.int .u8 (b:Int),.int .u8 (c:Int),.int .u8 (d:Int)] 5)=W at hn ⊢;have hc4:∀j,W.cell? ⟨w.heap.size,j,none⟩= #[Value.int .u8 (a:Int),.int .u8 (b:Int),.int .u8 (c:Int),.int .u8 (d:Int)][j]? :=λj=>by
  unfold World.cell?;simp only[hn];rfl
 have hR:I.Ry W w.heap.size 4 [UInt8.ofNat a,UInt8.ofNat b,UInt8.ofNat c,UInt8.ofNat d]:=by
  refine⟨qR,λj hj=> ?_,λj _=> ?_,λj u hu=> ?_,_,_,hn⟩
  · rw[hc4]
    have:j=0\/j=1\/j=2\/j=3:=(by omega);rcases this with rfl|rfl|rfl|rfl<;>rfl
  · simp[World.frozen?,hn]
  · rw[hc4]
    have hj:j<4:=(List.getElem?_eq_some_iff.1 hu).1;have:j=0\/j=1\/j=2\/j=3:=(by omega);have hq:∀x,x<256->((UInt8.ofNat x).toNat:Int)=(x:Int):=λx hx=>by rw[UInt8.toNat_ofNat'];omega
    rcases this with rfl|rfl|rfl|rfl
    · cases hu;rw[hq a ha];rfl
    · cases hu;rw[hq b hb];rfl
    · cases hu;rw[hq c hc];rfl
    · cases hu;rw[hq d hd];rfl
 have:=V.Tx.conv_rb hR.rb 0 4 rfl (by decide) ⟨w.heap.size,0,none⟩ (c:=4) (λ_=>rfl);exact this
theorem z2e(n:Nat)(hn:n<4294967296):n/16777216<256/\n/65536%256<256/\n/256%256<256/\n%256<256:=by omega
theorem z4d(n:Nat)(hn:n<4294967296):Go.bits .and .u32 (n:Int) 255=((n%256:Nat):Int):=by
 have:=zjq n 255 (by unfold z13;exact hn) (by decide);rw[show(255:Nat)=2^8 - 1 from rfl,Nat.and_two_pow_sub_one_eq_mod] at this;exact this
theorem z7j(n:Nat)(w:World)(hn:n<4294967296):Calls prog 35 #[.int .u32 n] w λe w'=>e=.returned (.string (sb n))/\Below w.heap.size w w':=by
 obtain⟨h0,h1,h2,h3⟩:=z2e n hn;have hc:=zhy w _ _ _ _ h0 h1 h2 h3;have a1:=z4d (n/65536) (by omega);have a2:=z4d (n/256) (by omega);have a3:=z4d n hn;have hs:(⟨#[UInt8.ofNat (n/16777216),UInt8.ofNat (n/65536%256),UInt8.ofNat (n/256%256),UInt8.ofNat (n%256)]⟩:ByteArray)=sb n:=rfl;rw[hs] at hc;obtain⟨p0,e0⟩:∃p0,n/16777216=p0:=⟨_,rfl⟩
 obtain⟨q1,f1⟩:∃q1,n/65536=q1:=⟨_,rfl⟩
 obtain⟨q2,f2⟩:∃q2,n/256=q2:=⟨_,rfl⟩
 rw[e0,f1,f2] at hc;rw[f1] at a1 h1;rw[f2] at a2 h2;rw[e0] at h0;obtain⟨p1,e1⟩:∃p1,q1%256=p1:=⟨_,rfl⟩
 obtain⟨p2,e2⟩:∃p2,q2%256=p2:=⟨_,rfl⟩
 obtain⟨p3,e3⟩:∃p3,n%256=p3:=⟨_,rfl⟩
 rw[e1,e2,e3] at hc;rw[e1] at a1 h1;rw[e2] at a2 h2;rw[e3] at a3 h3;have d0':(n:Int) /16777216=(p0:Int):=(by omega);have d1':(n:Int) /65536=(q1:Int):=(by omega);have d2':(n:Int) /256=(q2:Int):=(by omega);have u0:IntKind.u8.wrap (p0:Int)=(p0:Int):=(by rw[IntKind.wrap_u8'];omega);have u1:IntKind.u8.wrap (p1:Int)=(p1:Int):=(by rw[IntKind.wrap_u8'];omega);have u2:IntKind.u8.wrap (p2:Int)=(p2:Int):=(by rw[IntKind.wrap_u8'];omega);have u3:IntKind.u8.wrap (p3:Int)=(p3:Int):=(by rw[IntKind.wrap_u8'];omega);have HB:=qH ((Below.refl w.heap.size w).alloc qR (.cells #[.int .u8 (p0:Int),.int .u8 (p1:Int),.int .u8 (p2:Int),.int .u8 (p3:Int)] 5));clear e0 f1 f2 e1 e2 e3 hs;go_enter func35,ntmps35;go_wp2_with fail;go_ret;exact⟨rfl,HB.o⟩
def dcs(s:ByteArray):ByteArray:=if(dct s).2.1=true then sb (dct s).1 else⟨#[]⟩
theorem z5q(s:ByteArray)(w:World)(hs:s.size<=maxLen):Calls prog 32 #[.string s] w λe w'=>e=.returned (.tuple #[.string (dcs s),.bool (dct s).2.1,.int .i64 (dct s).2.2])/\Below w.heap.size w w':=by
 have hs2:s.size<=9223372036854775807:=(by unfold maxLen at hs;omega);unfold dcs;generalize hR:dct s=R;unfold dct at hR;by_cases h2:s.size<2
 · rw[if_pos h2] at hR
   subst hR;have d:decide ((s.size:Int)<2)=true:=q9T (by omega);clear h2;go_enter func32,ntmps32;go_wp2_with fail;go_ret3;exact⟨rfl,Below.refl _ _⟩
 · rw[if_neg h2] at hR
   have d:decide ((s.size:Int)<2)=false:=qF (by omega);have i0:0<s.size:=(by omega);have i1:1<s.size:=(by omega);have g0:=z3q s 0 i0;have g1:=z3q s 1 i1;have l0:=z1W s 0;have l1:=z1W s 1;have hsb:6<=s.size->s.extract 2 6=sb (sa s 2 4):=λh6=>ziq s 2 h6
   obtain⟨a,ha⟩:∃a,at8 s 0=a:=⟨_,rfl⟩
   obtain⟨b,hb⟩:∃b,at8 s 1=b:=⟨_,rfl⟩
   rw[ha] at g0 l0;rw[hb] at g1 l1;rw[ha,hb] at hR;obtain⟨x,hx⟩:∃x,a%16=x:=⟨_,rfl⟩
   obtain⟨y,hy⟩:∃y,a/16=y:=⟨_,rfl⟩
   obtain⟨z,hz⟩:∃z,(a*256+b)%31=z:=⟨_,rfl⟩
   have e1:(a:Int)%16=(x:Int):=(by omega);have e1':Int.tmod (a:Int) 16=(x:Int):=(by rw[Int.tmod_eq_emod_of_nonneg (by omega)];exact e1);have e2:(a:Int) /16=(y:Int):=(by omega);have e2':Int.tdiv (a:Int) 16=(y:Int):=(by rw[Int.tdiv_eq_ediv_of_nonneg (by omega)];exact e2);have w0:IntKind.i64.wrap ((a:Int)*256+(b:Int))=(a:Int)*256+(b:Int):=IntWalk.i64_in _ ⟨by omega,by omega⟩;have e3:((a:Int)*256+(b:Int))%31=(z:Int):=(by omega);have e3':Int.tmod ((a:Int)*256+(b:Int)) 31=(z:Int):=(by rw[Int.tmod_eq_emod_of_nonneg (by omega)];exact e3);have hmay:may a b↔(x=8/\y<=7/\z=0):=(by unfold may;rw[hx,hy,hz]);have hand:=zfX b l1;clear hx hy hz;by_cases q1:x=8
   · have c1:((x:Int) !=8)=false:=by rw[bne_eq_false_iff_eq];omega
     by_cases q2:y<=7
     · have c2:decide (7<(y:Int))=false:=qF (by omega)
       by_cases q3:z=0
       · have c3:((z:Int) !=0)=false:=by rw[bne_eq_false_iff_eq];omega
         rw[if_neg (λh=>h (hmay.2 ⟨q1,q2,q3⟩))] at hR;by_cases h0:b/32%2=0
         · rw[if_pos h0] at hR
           subst hR;rw[h0] at hand;have hz:((0*32:Nat):Int)=0:=rfl;rw[hz] at hand;clear h2 h0 ha hb hmay q1 q2 q3 hsb;go_enter func32,ntmps32;go_wp2_with fail
           go_quiet (fail)
           go_wp2_with fail;go_ret3;exact⟨rfl,(M.Kept.refl M.NoB w).drewN _|>.below qR (λ_ e=>e.elim)⟩
         · rw[if_neg h0] at hR
           have h1:b/32%2=1:=(by omega);rw[h1] at hand;have hz:((1*32:Nat):Int)=32:=rfl;rw[hz] at hand;by_cases h6:s.size<6
           · rw[if_pos h6] at hR
             subst hR;have c6:decide ((s.size:Int)<6)=true:=q9T (by omega);clear h2 h0 ha hb hmay q1 q2 q3 h1 h6 hsb;go_enter func32,ntmps32;go_wp2_with fail
             go_quiet (fail)
             go_wp2_with fail;go_ret3;exact⟨rfl,(M.Kept.refl M.NoB w).drewN _|>.below qR (λ_ e=>e.elim)⟩
           · rw[if_neg h6] at hR
             subst hR;have hX:=hsb (by omega);have c6:decide ((s.size:Int)<6)=false:=qF (by omega);have c7:6<=s.size:=(by omega);have HX:=qH hX;clear h2 h0 ha hb hmay q1 q2 q3 h1 h6 hX hsb;go_enter func32,ntmps32;go_wp2_with fail
             go_quiet (fail)
             go_wp2_with fail;go_ret3;refine⟨?_,(M.Kept.refl M.NoB w).drewN _|>.below qR (λ_ e=>e.elim)⟩;simp only[if_true];rw[<-HX.o];rfl
       · have c3:((z:Int) !=0)=true:=by rw[bne_iff_ne];omega
         rw[if_pos (λh=>q3 (hmay.1 h).2.2)] at hR;subst hR;clear h2 ha hb hmay q1 q2 q3 hsb;go_enter func32,ntmps32;go_wp2_with fail
         go_quiet (fail)
         go_wp2_with fail;go_ret3;exact⟨rfl,(M.Kept.refl M.NoB w).drewN _|>.below qR (λ_ e=>e.elim)⟩
     · have c2:decide (7<(y:Int))=true:=q9T (by omega)
       rw[if_pos (λh=>q2 (hmay.1 h).2.1)] at hR;subst hR;clear h2 ha hb hmay q1 q2 hsb;go_enter func32,ntmps32;go_wp2_with fail
       go_quiet (fail)
       go_wp2_with fail;go_ret3;exact⟨rfl,(M.Kept.refl M.NoB w).drewN _|>.below qR (λ_ e=>e.elim)⟩
   · have c1:((x:Int) !=8)=true:=by rw[bne_iff_ne];omega
     rw[if_pos (λh=>q1 (hmay.1 h).1)] at hR;subst hR;clear h2 ha hb hmay q1 hsb;go_enter func32,ntmps32;go_wp2_with fail
     go_quiet (fail)
     go_wp2_with fail;go_ret3;exact⟨rfl,(M.Kept.refl M.NoB w).drewN _|>.below qR (λ_ e=>e.elim)⟩
