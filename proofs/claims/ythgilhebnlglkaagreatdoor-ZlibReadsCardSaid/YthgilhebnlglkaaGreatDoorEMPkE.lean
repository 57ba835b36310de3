import Derived.Test.YthgilhebnlglkaaGreatDoorEMSoB
import Derived.Laws.EntriesVeiled
import Derived.Lib.Strings
import Derived.Lib.Walk
import Derived.Lib.BitFns
import Derived.Deep.Slices
set_option linter.all false
set_option maxHeartbeats 8000000
set_option maxRecDepth 1000000
open Go.Proofs.Tryz
namespace Go.Proofs.YthgilhebnlglkaaGreatDoor
open Go.RowKit M
def Br(w:World)(g n:Nat)(f:Nat->Nat):Prop:=w.rowIs g 5 n (λi=> .int .u8 (f i))
section
variable {w w':World} {g n:Nat} {f f':Nat->Nat}
theorem Br.lt(h:Br w g n f):g<w.heap.size:=World.rowIs.lt h
theorem Br.at'(h:Br w g n f)(q:w'.heap[g]? =w.heap[g]?):Br w' g n f:=World.rowIs.of_block h q
theorem Br.alloc(h:Br w g n f)(o:Obj):Br (w.alloc o) g n f:=World.rowIs.alloc h o
theorem Br.other(h:Br w g n f){a:Addr}(ha:g≠a.block)(v:Value):Br (w.setCell a v) g n f:=World.rowIs.setOther h ha v
theorem Br.below(h:Br w g n f){B:Nat}(hb:Below B w w')(hB:g<B):Br w' g n f:=h.at' (hb.block g hB)
theorem Br.congr(h:Br w g n f)(e:∀i,i<n->f i=f' i):Br w g n f':=World.rowIs.congr h (λi hi=>by rw[e i hi])
theorem Br.cell(h:Br w g n f){i:Nat}(hi:i<n):w.cell? ⟨g,i,none⟩=some (.int .u8 (f i)):=World.rowIs.cell h hi
theorem Br.frozen(h:Br w g n f)(i:Nat):w.frozen? ⟨g,i,none⟩=false:=World.rowIs.frozen h i
theorem Br.set(h:Br w g n f)(i x:Nat):Br (w.setCell ⟨g,i,none⟩ (.int .u8 x)) g n (λj=>if j=i then x else f j):=
 World.rowIs.congr (World.rowIs.set h i (.int .u8 x)) (λj hj=>by by_cases e:j=i<;>simp[e])
theorem Br.made(w:World)(n:Nat):Br (w.alloc (.cells (madeCells #[.int .u8 0] (n*1)) 5)) w.heap.size n (λ_=>0):=by
 rw[Nat.mul_one];exact World.rowIs_made w (.int .u8 0) n 5
theorem Br.made'(w:World)(n:Nat):Br (w.alloc (.cells (madeCells #[.int .u8 0] n) 5)) w.heap.size n (λ_=>0):=World.rowIs_made w (.int .u8 0) n 5
theorem Br.nums(h:Br w g n f):z0e w .u8 (some ⟨g,0,none⟩) n (λi=>(f i:Int)):=λhn=>
 ⟨g,0,rfl,h.lt,λi hi=>by rw[Nat.zero_add];exact h.cell hi⟩
end
def z9w(n:Nat):Th->Prop
 |.lf _ s=>s<n
 |.pk x y=>z9w n x/\z9w n y
theorem z8k.write{w w':World}{base g:Nat}{t:Th}{p:Option Addr}(h:z8k w base t p)(hk:Kept (One g) w w')(hg:g<base):z8k w' base t p:=
 h.kept (λk hb hl=>hk.block k hl (λe=>by have:k=g:=e;omega)) hk.size
def z7u(f:Nat->Nat)(t:Th)(s:Nat):Nat:=(f s+t.cn s)%256
def At3(i:Value)(p q r:Prop):Prop:=(i=.int .i64 0/\p)\/(i=.int .i64 1/\q)\/(i=.int .i64 2/\r)
theorem z6U(bl ba g n base:Nat)(hn:n<=400)(hgb:g<base)(h1:bl≠g)(h2:ba≠g):∀ (t:Th) (p:Option Addr) (f:Nat->Nat) (W:World),z8k W base t p->z9w n t->t.wt<18446744073709551616->(∀i,f i<256)->Br W g n f->
 W.cell? ⟨bl,0,none⟩=some (.slice (some ⟨g,0,none⟩) n n)->W.cell? ⟨ba,0,none⟩=some (.func (.func 323) #[] #[.pointer (some ⟨bl,0,none⟩),.pointer (some ⟨ba,0,none⟩)])->
 Calls prog 323 #[.agg #[.int .u64 t.wt,.int .i64 t.sy,.pointer p],.pointer (some ⟨bl,0,none⟩),.pointer (some ⟨ba,0,none⟩)] W λx w'=>x=.returned (.tuple #[])/\Br w' g n (z7u f t)/\Kept (One g) W w'
 |.lf a s,p,f,W,hu,hs,hw,hf,hb,c1,c2=>by
  have hp:p=none:=hu;subst hp;have hsn:s<n:=hs;have hc:=hb.cell hsn;have hfr:=hb.frozen s;have hlt:=hb.lt;have hfs:=hf s;have bl1:=qB c1;have e:∀y:Nat,(((y+1)%256:Nat):Int)=((y:Int)+1)%256:=λy=>by omega
  have HB:=qH (((hb.set s ((f s+1)%256)).alloc (.cells #[.int .u64 a,.int .i64 s,.pointer none] 386)).congr (f':=z7u f (.lf a s)) (λi _=>by
   unfold z7u;simp only[Th.cn];by_cases e:i=s
   · rw[if_pos e,if_pos e.symm,e]
   · rw[if_neg e,if_neg (λq=>e q.symm),Nat.add_zero,Nat.mod_eq_of_lt (hf i)]))
  have HK:=qH (((Kept.refl (One g) W).setCell ⟨g,s,none⟩ (.inl rfl) (.int .u8 (((f s+1)%256:Nat):Int))).alloc (.cells #[.int .u64 a,.int .i64 s,.pointer none] 386));generalize hx:f s=x at hc hfs HB HK;rw[e x] at HB HK;clear hx hb hf hu hs e;go_enter func323,ntmps323;simp only[Th.wt,Th.sy];go_wp2_with fail;refine bodyPost_ret (results_none rfl _ _ _) rfl ?_
  exact⟨rfl,HB.o,HK.o⟩
 |.pk x y,p,f,W,hu,hs,hw,hf,hb,c1,c2=>by
  obtain⟨gp,o,px,py,rfl,b1,b2,⟨x1,x2,x3⟩,⟨y1,y2,y3⟩,hx,hy⟩:=hu;have IX:=qH (λf W=>z6U bl ba g n base hn hgb h1 h2 x px f W);have IY:=qH (λf W=>z6U bl ba g n base hn hgb h1 h2 y py f W);have HSY:=qH (show z9w n x/\z9w n y from hs);have HWT:=qH (show x.wt<18446744073709551616/\y.wt<18446744073709551616 by simp only[Th.wt] at hw;omega);obtain⟨q,hq⟩:∃q,(x.pk y).wt=q:=⟨_,rfl⟩
  have HEND:=qH (show ∀s,z7u (z7u f x) y s=z7u f (x.pk y) s from λs=>by
   unfold z7u;simp only[Th.cn];rw[Nat.mod_add_mod,Nat.add_assoc])
  have H0:=qH (hb.alloc (.cells #[.int .u64 q,.int .i64 0,.pointer (some ⟨gp,o,none⟩)] 386));clear hs hw hb;go_enter func323,ntmps323;rw[hq,show(((Th.pk x y).sy:Nat):Int)=0 from rfl];clear hq;go_wp2_with fail
  go_loopw [19] (λi wr=>At3 i (Br wr g n f) (Br wr g n (z7u f x)) (Br wr g n (z7u (z7u f x) y))/\Kept (One g) W wr) (λi _=>2 - (intOf i).toNat)
  case atStart=>exact⟨.inl ⟨rfl,H0.o⟩,(Kept.refl _ _).alloc _⟩
  case round=>
   obtain⟨hl,hk⟩:=hrel;rcases hl with⟨rfl,hl⟩|⟨rfl,hl⟩|⟨rfl,hl⟩
   · have HL:=qH hl
     have HK:=qH hk;have ng:¬One g gp:=λe=>by have:gp=g:=e;omega
     have z1:=hk.cell x1 ng;have z2:=hk.cell x2 ng;have z3:=hk.cell x3 ng;have d1:=hk.cell c1 h1;have d2:=hk.cell c2 h2;have HU:=qH ((hx.write hk hgb).below ((Below.refl wr.heap.size wr).alloc qR (.cells #[.int .u64 x.wt,.int .i64 x.sy,.pointer px] 386)));have D1:=qH ((((Below.refl wr.heap.size wr).alloc qR (.cells #[.int .u64 x.wt,.int .i64 x.sy,.pointer px] 386)).cell (qB d1)).trans d1);have D2:=qH ((((Below.refl wr.heap.size wr).alloc qR (.cells #[.int .u64 x.wt,.int .i64 x.sy,.pointer px] 386)).cell (qB d2)).trans d2);have L1:=qH (hl.alloc (.cells #[.int .u64 x.wt,.int .i64 x.sy,.pointer px] 386));have d1l:=qB d1;have d2l:=qB d2;have HF:=qH (hf);clear hl hk ng;go_wp2_with fail;refine(IX.o f _ HU.o HSY.o.1 HWT.o.1 HF.o L1.o D1.o D2.o).mono ?_;rintro e w1 ⟨rfl,l1,k1⟩;have R1:=qH l1;have K1:=qH (((HK.o.alloc _).trans k1 (λ_ h=> .inl h)));clear l1 k1;go_wp2_with fail;go_roundw
     case rel=>exact⟨.inr (.inl ⟨rfl,R1.o⟩),K1.o⟩
     case measure=>simp[intOf]
   · have HL:=qH hl
     have HK:=qH hk;have ng:¬One g gp:=λe=>by have:gp=g:=e;omega
     have z1:=hk.cell y1 ng;have z2:=hk.cell y2 ng;have z3:=hk.cell y3 ng;have d1:=hk.cell c1 h1;have d2:=hk.cell c2 h2;have HU:=qH ((hy.write hk hgb).below ((Below.refl wr.heap.size wr).alloc qR (.cells #[.int .u64 y.wt,.int .i64 y.sy,.pointer py] 386)));have D1:=qH ((((Below.refl wr.heap.size wr).alloc qR (.cells #[.int .u64 y.wt,.int .i64 y.sy,.pointer py] 386)).cell (qB d1)).trans d1);have D2:=qH ((((Below.refl wr.heap.size wr).alloc qR (.cells #[.int .u64 y.wt,.int .i64 y.sy,.pointer py] 386)).cell (qB d2)).trans d2);have L1:=qH (hl.alloc (.cells #[.int .u64 y.wt,.int .i64 y.sy,.pointer py] 386));have d1l:=qB d1;have d2l:=qB d2;have HF:=qH (show ∀i,z7u f x i<256 from λi=>Nat.mod_lt _ (by omega));clear hl hk ng;go_wp2_with fail;refine(IY.o (z7u f x) _ HU.o HSY.o.2 HWT.o.2 HF.o L1.o D1.o D2.o).mono ?_;rintro e w1 ⟨rfl,l1,k1⟩;have R1:=qH l1;have K1:=qH (((HK.o.alloc _).trans k1 (λ_ h=> .inl h)));clear l1 k1;go_wp2_with fail;go_roundw
     case rel=>exact⟨.inr (.inr ⟨rfl,R1.o⟩),K1.o⟩
     case measure=>simp[intOf]
   · have HL:=qH hl
     have HK:=qH hk;clear hl hk;go_wp2_with fail;go_end0;exact⟨rfl,HL.o.congr (λi _=>HEND.o i),HK.o⟩
def z3A(f:Nat->Nat)(X:List Tp)(s:Nat):Nat:=(f s+ct s (X.map (·.1)))%256
theorem z8P{f:Nat->Nat}{X:List Tp}{i:Nat}{x:Tp}(h:X[i]? =some x)(s:Nat):z7u (z3A f (X.take i)) x.1 s=z3A f (X.take (i+1)) s:=by
 unfold z7u z3A;rw[List.take_add_one,h,Nat.mod_add_mod,List.map_append,z1T];simp only[Option.toList_some,List.map_cons,List.map_nil,ct];rw[Nat.add_zero,Nat.add_assoc]
theorem z4X(g n base q c:Nat)(A:Option Addr)(X:List Tp)(f:Nat->Nat)(W:World)(hn:n<=400)(hgb:g<base)(hq:X.length=q)(hq2:q<=1000)(hx:∀b o,A=some ⟨b,o,none⟩->b≠g)(hs:∀x∈X,z9w n x.1)(hw:∀x∈X,x.1.wt<18446744073709551616)(hf:∀i,f i<256)(HX:z0v W base A X)(hb:Br W g n f):
 Calls prog 303 #[.slice (some ⟨g,0,none⟩) n n,.slice A q c] W λx w'=>x=.returned (.tuple #[])/\Br w' g n (z3A f X)/\Kept (One g) W w':=by
 obtain⟨HQ,HH,HS,HW,HF,HA,HB⟩:=qh7 hq HX hs hw hf hx hb;have glt:=hb.lt;clear hq HX hs hw hf hx hb;go_enter func303,ntmps303;go_wp2_with fail
 go_loopw [10] (λi wr=> ∃k:Nat,k<=q/\i=.int .i64 k/\wr.cell? ⟨W.heap.size,0,none⟩=some (.slice (some ⟨g,0,none⟩) n n)/\wr.cell? ⟨W.heap.size+1,0,none⟩=some (.func (.func 323) #[] #[.pointer (some ⟨W.heap.size,0,none⟩),.pointer (some ⟨W.heap.size+1,0,none⟩)])/\Hd (Br wr g n (z3A f (X.take k))/\Kept (One g) W wr)) (λi _=>q - (intOf i).toNat)
 case atStart=>
  refine⟨0,qZ,rfl,by simp,by simp,qH ⟨((HB.o.alloc _).alloc _).congr (λi _=> ?_),((Kept.refl _ _).alloc _).alloc _⟩⟩;unfold z3A;simp only[List.take_zero,List.map_nil,ct,Nat.add_zero];rw[Nat.mod_eq_of_lt (HF.o i)]
 case round=>
  obtain⟨k,hk,rfl,c1,c2,HI⟩:=hrel;by_cases hlt:k<q
  · have hxq:=HQ.o
    obtain⟨b,o,rfl,hbs,ht⟩:=HH.o.1 (by omega);obtain⟨x,hx⟩:∃x,X[k]? =some x:=⟨_,qE (show k<X.length by omega)⟩
    obtain⟨x1,x2,x3⟩:=ht.one hx;have ng:¬One g b:=λe=>HA.o b o rfl e
    have x1:=HI.o.2.cell x1 ng;have x2:=HI.o.2.cell x2 ng;have x3:=HI.o.2.cell x3 ng;have hm:=List.mem_of_getElem? hx;have d1l:=qB c1;have d2l:=qB c2;have hne1:W.heap.size≠g:=(by omega);have hne2:W.heap.size+1≠g:=(by omega);have ba:=(Below.refl wr.heap.size wr).alloc qR (.cells #[.int .u64 x.1.wt,.int .i64 x.1.sy,.pointer x.2] 386);have HU:=qH (((HH.o.2 x hm).write HI.o.2 hgb).below ba);have D1:=qH ((ba.cell d1l).trans c1);have D2:=qH ((ba.cell d2l).trans c2);have L1:=qH (HI.o.1.alloc (.cells #[.int .u64 x.1.wt,.int .i64 x.1.sy,.pointer x.2] 386));have HFF:=qH (show ∀i,z3A f (X.take k) i<256 from λi=>Nat.mod_lt _ (by omega));have SX:=qH (HS.o x hm);have WX:=qH (HW.o x hm);have XX:=qH hx;clear ht hx hm ba ng hxq;go_wp2_with fail;refine(z6U W.heap.size (W.heap.size+1) g n base hn hgb hne1 hne2 x.1 x.2 _ _ HU.o SX.o WX.o HFF.o L1.o D1.o D2.o).mono ?_;rintro e w1 ⟨rfl,l1,k1⟩;have g1:=k1.cell D1.o hne1;have g2:=k1.cell D2.o hne2;have R1:=qH (l1.congr (λi _=>z8P XX.o i));have K1:=qH (((HI.o.2.alloc _).trans k1 (λ_ h=> .inl h)));clear l1 k1 c1 c2;go_wp2_with fail;go_roundw
    case rel=>exact⟨k+1,by omega,by go_num,g1,g2,qH ⟨R1.o,K1.o⟩⟩
    case measure=>simp[intOf];omega
  · obtain rfl:k=q:=by omega
    have HE:=qH (show ∀s,z3A f (X.take k) s=z3A f X s from λs=>by rw[List.take_of_length_le (by rw[HQ.o];exact qR)]);go_wp2_with fail;go_end0;exact⟨rfl,HI.o.1.congr (λi _=>HE.o i),HI.o.2⟩
def bl(x:Nat):Nat:=if x=0 then 0 else Nat.log2 x+1
theorem zeK{x k:Nat}:bl x<=k↔x<2^k:=by
 unfold bl;by_cases h:x=0
 · rw[if_pos h,h];exact⟨λ_=>Nat.two_pow_pos _,λ_=>qZ⟩
 · rw[if_neg h]
   exact Nat.log2_lt h
def nds(n:Nat):Nat:=if n=0 then 0 else max 1 (bl (n - 1))
theorem z41{n k:Nat}(h0:1<=k):nds n<=k↔n<=2^k:=by
 unfold nds;by_cases h:n=0
 · rw[if_pos h,h];exact⟨λ_=>qZ,λ_=>qZ⟩
 · rw[if_neg h]
   have:= @zeK (n - 1) k;constructor
   · intro g;have:=this.1 (by omega);omega
   · intro g;have:=this.2 (by omega);omega
theorem z19(y:Int)(h0:0<=y)(h1:y<=255){hh:y.toNat<Lib.len8tab.size}:((Lib.len8tab[y.toNat]'hh).toNat:Int)=(Lib.bitLen y.toNat:Int):=by
 rw[<-Lib.len8_of y h0 h1];unfold Lib.len8;rw[ByteArray.getElem?_lt' _ _ hh,Option.getD_some]
theorem z1A(k:Nat)(x y:Int)(hk:k<=56)(h0:0<=y)(h1:y<=255)(hb:Lib.bitLen x.toNat=k+Lib.bitLen y.toNat):wrap64 ((k:Int)+wrap64 (Lib.bitLen y.toNat:Int))=(Lib.bitLen x.toNat:Int):=by
 have l:=Lib.bitLen_le8' y h0 h1;rw[IntWalk.wrap64_in (Lib.bitLen y.toNat:Int) (by omega),IntWalk.wrap64_in _ (by omega),hb];omega
theorem zbi(x:Int)(w:World)(h0:0<=x)(h1:x<=1099511627776):Calls prog 340 #[.int .u64 x] w λe w'=>e=.returned (.int .i64 (Lib.bitLen x.toNat))/\w'=w:=by
 go_enter func340,ntmps340;go_wp2
 all_goals first
  |(go_ret
    refine⟨congrArg (λq=>Ending.returned (.int .i64 q)) ?_,rfl⟩
    first
     |(rw[z19 (x/4294967296/65536/256) (by omega) (by omega)]
       exact z1A 56 x _ (by omega) (by omega) (by omega) ((Lib.bitLen_shift56 x.toNat (by omega) (by omega)).trans (by congr 2;omega)))
     |(rw[z19 (x/4294967296/65536) (by omega) (by omega)]
       exact z1A 48 x _ (by omega) (by omega) (by omega) ((Lib.bitLen_shift48 x.toNat (by omega) (by omega)).trans (by congr 2;omega)))
     |(rw[z19 (x/4294967296/256) (by omega) (by omega)]
       exact z1A 40 x _ (by omega) (by omega) (by omega) ((Lib.bitLen_shift40 x.toNat (by omega) (by omega)).trans (by congr 2;omega)))
     |(rw[z19 (x/4294967296) (by omega) (by omega)]
       exact z1A 32 x _ (by omega) (by omega) (by omega) ((Lib.bitLen_shift32 x.toNat (by omega) (by omega)).trans (by congr 2;omega)))
     |(rw[z19 (x/65536/256) (by omega) (by omega)]
       exact z1A 24 x _ (by omega) (by omega) (by omega) ((Lib.bitLen_shift24 x.toNat (by omega) (by omega)).trans (by congr 2;omega)))
     |(rw[z19 (x/65536) (by omega) (by omega)]
       exact z1A 16 x _ (by omega) (by omega) (by omega) ((Lib.bitLen_shift16 x.toNat (by omega) (by omega)).trans (by congr 2;omega)))
     |(rw[z19 (x/256) (by omega) (by omega)]
       exact z1A 8 x _ (by omega) (by omega) (by omega) ((Lib.bitLen_shift8 x.toNat (by omega) (by omega)).trans (by congr 2;omega)))
     |(rw[z19 x (by omega) (by omega)]
       have l:=Lib.bitLen_le8' x (by omega) (by omega);simp only[wrap64];omega))
  |(exfalso
    have hs:=Lib.len8tab_size;omega)
theorem zcn(x:Nat)(h:x<2^64):Lib.bitLen x=bl x:=by
 apply Nat.le_antisymm
 · exact Lib.bitLen_le x (bl x) (zeK.2 h) (zeK.1 qR)
 · refine zeK.2 (Nat.lt_of_not_le λg=> ?_)
   have h1:=Lib.bitLen_shift (Lib.bitLen x) x g h;have h2:1<=x/2^Lib.bitLen x:=(Nat.one_le_div_iff (Nat.two_pow_pos _)).2 g;have h3:=Lib.bitLen_half (x/2^Lib.bitLen x) (by omega) (Nat.lt_of_le_of_lt (Nat.div_le_self _ _) h);omega
theorem zhd(x:Int)(w:World)(h0:0<=x)(h1:x<=1099511627776):Calls prog 322 #[.int .u64 x] w λe w'=>e=.returned (.int .i64 (bl x.toNat))/\w'=w:=by
 have hb:=qH (zcn x.toNat (by have:(2:Nat)^64=18446744073709551616:=rfl;omega));go_enter func322,ntmps322;go_wp2_with fail;refine(zbi x _ h0 h1).mono ?_;rintro e w' ⟨rfl,rfl⟩;rw[hb.o];go_wp2_with fail;go_ret;exact⟨rfl,rfl⟩
theorem zdE{n:Int}(h:n<1):nds n.toNat=0:=by
 have:n.toNat=0:=(by omega);rw[this];rfl
theorem zaX(n:Int)(w:World)(h0: -9223372036854775808<=n)(h1:n<=1099511627776):Calls prog 302 #[.int .i64 n] w λe w'=>e=.returned (.int .i64 (nds n.toNat))/\w=w':=by
 by_cases h:n<1
 · have hv:=qH (zdE h)
   go_enter func302,ntmps302;go_wp2_with fail;go_ret;exact⟨by rw[hv.o];rfl,rfl⟩
 · obtain⟨b,hb⟩:∃b,bl (n - 1).toNat=b:=⟨_,rfl⟩
   have hle:b<=41:=by rw[<-hb];exact zeK.2 (by have:(2:Nat)^41=2199023255552:=rfl;omega)
   have hv:=qH (show nds n.toNat=max 1 b by
    unfold nds;rw[if_neg (by omega),<-hb];congr 2;omega)
   have HC:=qH (zhd (n - 1) w (by omega) (by omega));rw[hb] at HC;clear hb;go_enter func302,ntmps302;go_wp2_with fail;refine HC.o.mono ?_;rintro e w' ⟨rfl,rfl⟩;go_wp2_with fail;go_ret;exact⟨congrArg (λq=>Ending.returned (.int .i64 q)) (by rw[hv.o];omega),rfl⟩
theorem z7Y(P:Nat->Prop)(m:Nat):∀k,k<=m->(∀t,k<=t->t<m->P t)->∃i,i<=k/\(∀t,i<=t->t<m->P t)/\(i=0\/¬P (i - 1))
 |0,_,h=>⟨0,qR,h,.inl rfl⟩
 |k+1,hk,h=>by
  by_cases q:P k
  · obtain⟨i,h1,h2,h3⟩:=z7Y P m k (by omega) (λt g1 g2=>by
     by_cases e:t=k
     · rw[e];exact q
     · exact h t (by omega) g2)
    exact⟨i,by omega,h2,h3⟩
  · exact⟨k+1,qR,h,.inr (by rw[Nat.add_sub_cancel];exact q)⟩
theorem z8X(c:Nat->Nat):∀n,∃m e,z3J c n m e
 |0=>⟨0,λ_=>(0,0),λi j h1 h2 h3=>by omega,λi h=>by omega,λs h=>by omega,qR⟩
 |n+1=>by
  obtain⟨m,e,h⟩:=z8X c n;by_cases h0:c n=0
  · exact⟨m,e,h.ord,λi hi=>by have:=h.is_ i hi;exact⟨by omega,this.2⟩,λs hs hc=>by
     by_cases q:s=n
     · subst q;omega
     · exact h.all s (by omega) hc,by have:=h.le;omega⟩
  · let e1:Nat->Nat×Nat:=λi=>if i=m then(c n,n) else e i
    have he:∀i,i<m->e1 i=e i:=λi hi=>if_neg (by omega)
    have hm:e1 m=(c n,n):=if_pos rfl;have ho:Ord e1 0 m:=h.ord.congr (λi _ hi=>he i hi);obtain⟨i,i1,i2,i3⟩:=z7Y (λt=>(e1 m).1<(e1 t).1) m m qR (λt g1 g2=>by omega);have hs:z3I e1 (mvd e1 i m) 0 (m+1):=z7D e1 qZ i1 (by omega);refine⟨m+1,mvd e1 i m,zaZ ho (λt _ g2 _=> ?_) qZ i1 i2 (by omega),λj hj=> ?_,λs hs' hc=> ?_,by have:=h.le;omega⟩
    · rw[he t g2,hm];exact(h.is_ t g2).1
    · obtain⟨k,_,k2,q⟩:=hs.fro j qZ hj
      rw[q];by_cases r:k=m
      · rw[r,hm];exact⟨Nat.lt_succ_self _,Nat.pos_of_ne_zero h0,rfl⟩
      · rw[he k (by omega)];have:=h.is_ k (by omega);exact⟨by omega,this.2⟩
    · by_cases r:s=n
      · obtain⟨k,_,k2,q⟩:=hs.to m qZ (by omega)
        exact⟨k,k2,by rw[<-q,hm];exact r.symm⟩
      · obtain⟨j,j1,j2⟩:=h.all s (by omega) hc
        obtain⟨k,_,k2,q⟩:=hs.to j qZ (by omega);exact⟨k,k2,by rw[<-q,he j j1];exact j2⟩
theorem ziR{c:Nat->Nat}{n m m':Nat}{e e':Nat->Nat×Nat}(h:z3J c n m e)(h':z3J c n m' e'):m=m'/\∀i,i<m->e i=e' i:=by
 have key:∀ {m m':Nat} {e e':Nat->Nat×Nat},z3J c n m e->z3J c n m' e'->∀i,i<m->∃j,j<m'/\e i=e' j:=by
  intro m m' e e' h h' i hi;obtain⟨a1,a2,a3⟩:=h.is_ i hi;obtain⟨j,j1,j2⟩:=h'.all _ a1 a2;have:=(h'.is_ j j1).2.2;exact⟨j,j1,Prod.ext (by rw[a3,this,j2]) j2.symm⟩
 exact zgU h.ord h'.ord (key h h') (key h' h)
def lw(e:Nat->Nat×Nat)(i:Nat):Nat:=(e i).1
def ly(e:Nat->Nat×Nat)(i:Nat):Nat:=(e i).2
def pl(m:Nat)(e:Nat->Nat×Nat)(L s:Nat):Nat:=
 if m=0 then 0 else if m=1 then(if s=ly e 0 then 1 else 0) else ct s ((row (lvs (lw e) (ly e) m) L).take (2*m - 2))
theorem zb7{c:Nat->Nat}{n m:Nat}{e:Nat->Nat×Nat}(h:z3J c n m e):zkv (lw e) m:=λi j h1 h2=>by
 rcases h.ord.le qZ h1 h2 with q|q
 · unfold lw;rw[q];exact qR
 · unfold lx at q;unfold lw;omega
theorem zfr{c:Nat->Nat}{n m:Nat}{e:Nat->Nat×Nat}(h:z3J c n m e):∀i j,i<m->j<m->ly e i=ly e j->i=j:=λi j hi hj q=>by
 unfold ly at q;have h1:=(h.is_ i hi).2.2;have h2:=(h.is_ j hj).2.2;have he:e i=e j:=Prod.ext (by rw[h1,h2,q]) q;rcases Nat.lt_trichotomy i j with g|g|g
 · have:=h.ord i j qZ g hj
   rw[he] at this;exact this.irr.elim
 · exact g
 · have:=h.ord j i qZ g hi
   rw[he] at this;exact this.irr.elim
theorem z6l{c:Nat->Nat}{n m L:Nat}{e:Nat->Nat×Nat}(h:z3J c n m e)(h2:2<=m)(hL:nds m<=L)(h1:1<=L){i:Nat}(hi:i<m):pl m e L (ly e i)=ln (lvs (lw e) (ly e) m) L (2*m - 2) i:=by
 unfold pl;rw[if_neg (by omega),if_neg (by omega)];have:=z0X (lvs (lw e) (ly e) m) L (by rw[z06];exact(z41 h1).1 hL);rw[z06] at this;exact zfH (zfr h) hi L _ this
theorem zaG{c:Nat->Nat}{n m L s:Nat}{e:Nat->Nat×Nat}(h:z3J c n m e)(hL:nds m<=L)(h1:1<=L)(hs:∀i,i<m->ly e i≠s):pl m e L s=0:=by
 unfold pl;by_cases h0:m=0
 · rw[if_pos h0]
 rw[if_neg h0];by_cases h2:m=1
 · rw[if_pos h2,if_neg (λq=>hs 0 (by omega) q.symm)]
 rw[if_neg h2];have:=z0X (lvs (lw e) (ly e) m) L (by rw[z06];exact(z41 h1).1 hL);rw[z06] at this;exact zbX hs L _ this
theorem zdq{c:Nat->Nat}{n m L:Nat}{e:Nat->Nat×Nat}(h:z3J c n m e)(hL:nds m<=L)(h1:1<=L)(s:Nat):pl m e L s<=L:=by
 by_cases q:∃i,i<m/\ly e i=s
 · obtain⟨i,hi,rfl⟩:=q
   by_cases h2:2<=m
   · rw[z6l h h2 hL h1 hi];exact ziY _ _ _ _
   · unfold pl
     rw[if_neg (by omega),if_pos (by omega)];split<;>omega
 · rw[zaG h hL h1 (λi hi e=>q ⟨i,hi,e⟩)];omega
theorem zds{m L:Nat}{e e':Nat->Nat×Nat}(h:∀i,i<m->e i=e' i)(s:Nat):pl m e L s=pl m e' L s:=by
 unfold pl;by_cases h0:m=0
 · rw[if_pos h0,if_pos h0]
 rw[if_neg h0,if_neg h0];have hl:lvs (lw e) (ly e) m=lvs (lw e') (ly e') m:=by
  unfold lvs;apply List.map_congr_left;intro i hi;unfold lw ly;rw[h i (List.mem_range.1 hi)]
 rw[hl];unfold ly;rw[h 0 (by omega)]
def lvt(m:Nat)(e:Nat->Nat×Nat):List Tp:=(List.range m).map λi=>(.lf (lw e i) (ly e i),none)
theorem z29(m:Nat)(e:Nat->Nat×Nat):(lvt m e).length=m:=by unfold lvt;simp
theorem zh4(m:Nat)(e:Nat->Nat×Nat):(lvt m e).map (·.1)=lvs (lw e) (ly e) m:=by unfold lvt lvs;rw[List.map_map];rfl
theorem zb5(m:Nat)(e:Nat->Nat×Nat){i:Nat}{x:Tp}(h:(lvt m e)[i]? =some x):i<m/\x=(.lf (lw e i) (ly e i),none):=by
 have hi:=(List.getElem?_eq_some_iff.1 h).1;rw[z29] at hi;refine⟨hi,?_⟩;unfold lvt at h;rw[List.getElem?_map,List.getElem?_range hi] at h;exact(Option.some.inj h).symm
theorem z0v.leaves{w:World}{base m:Nat}{A:Option Addr}{e:Nat->Nat×Nat}(h:0<m->∃b,A=some ⟨b,0,none⟩/\Lfs w b m e):z0v w base A (lvt m e):=by
 refine⟨λhn=> ?_,λx hx=> ?_⟩
 · rw[z29] at hn
   obtain⟨b,rfl,hl⟩:=h hn;refine⟨b,0,rfl,hl.lt,λi t hi=> ?_⟩;rw[List.getElem?_map] at hi;cases hq:(lvt m e)[i]? with
   |none=>rw[hq] at hi;cases hi
   |some x=>
    rw[hq] at hi;obtain rfl:tr x=t:=by simpa using hi
    obtain⟨h1,rfl⟩:=zb5 m e hq;rw[Nat.zero_add];exact hl.cells h1
 · obtain⟨i,hi,rfl⟩:=List.getElem_of_mem hx
   obtain⟨_,q⟩:=zb5 m e (qE hi);rw[q];exact rfl
theorem z0v.take{w:World}{base:Nat}{A:Option Addr}{X:List Tp}(h:z0v w base A X)(q:Nat):z0v w base A (X.take q):=by
 refine⟨λhn=> ?_,λx hx=>h.2 x (List.mem_of_mem_take hx)⟩;obtain⟨b,o,e,hl,ht⟩:=h.1 (by rw[List.length_take] at hn;omega);refine⟨b,o,e,hl,λi t hi=>ht i t ?_⟩;rw[List.map_take,List.getElem?_take] at hi
 split at hi
 · exact hi
 · cases hi
theorem zcX{c:Nat->Nat}{n m:Nat}{e:Nat->Nat×Nat}(h:z3J c n m e):∀t∈lvs (lw e) (ly e) m,z9w n t:=by
 intro t ht;unfold lvs at ht;obtain⟨i,hi,rfl⟩:=List.mem_map.1 ht;exact(h.is_ i (List.mem_range.1 hi)).1
theorem z78{L:List Th}{n:Nat}(h:∀t∈L,z9w n t):∀k,∀t∈row L k,z9w n t
 |0,t,ht=>by cases ht
 |k+1,t,ht=>by
  rcases(z4C t _ _).1 ht with g|g
  · exact h t g
  · have key:∀ (R:List Th),(∀u∈R,z9w n u)->∀u∈pks R,z9w n u:=by
     intro R
     induction R using pks.induct with
     |case1 c d r ih2=>
      intro hr u hu;rcases List.mem_cons.1 hu with rfl|hu
      · exact⟨hr c (by simp),hr d (by simp)⟩
      · exact ih2 (λt ht=>hr t (by simp[ht])) u hu
     |case2 r hr=>intro _ u hu;unfold pks at hu;split at hu;exact absurd rfl (hr _ _ _);cases hu
    exact key _ (z78 h k) t g
theorem madeByte(w:World)(n:Nat)(hn:n<=400):
 (Instr.makeSlice 26 (.int .i64 (n:Int)) (.int .i64 (n:Int))).run prog w=.ok (.slice (some ⟨w.heap.size,0,none⟩) n n) (w.alloc (.cells (madeCells #[.int .u8 0] (n*1)) 5)):=
 z2u w underlying26 byteInfo (by decide) n n qR (by omega)
theorem zdJ{c:Nat->Nat}{n:Nat}(hn:n<=320)(hc:∀i,c i<=1073741824):zjy (λi=>(c i:Int)) n:=⟨hn,λi _=>⟨Int.natCast_nonneg _,Int.ofNat_le.2 (hc i)⟩⟩
theorem Br.made1(w:World)(n s:Nat)(hs:s<n):Br (w.alloc (.cells ((madeCells #[.int .u8 0] n).setIfInBounds s (.int .u8 1)) 5)) w.heap.size n (λi=>if i=s then 1 else 0):=by
 have h:=World.rowIs_alloc w ((madeCells #[.int .u8 0] n).setIfInBounds s (.int .u8 1)) 5 (λi=> .int .u8 ((if i=s then 1 else 0:Nat):Int)) (λi hi=>by
  have hi':i<n:=(by simpa [size_madeCells] using hi);rw[Array.getElem?_setIfInBounds];by_cases q:i=s
  · subst q;simp[size_madeCells,hi']
  · rw[if_neg (λr=>q r.symm)]
    simp[madeCells,hi',q,Nat.mod_one])
 rw[Array.size_setIfInBounds,size_madeCells] at h;exact h
def zi0(W:World)(n m L:Nat)(e:Nat->Nat×Nat)(x:Ending)(w':World):Prop:=
 ∃g,x=.returned (.tuple #[.slice (some ⟨g,0,none⟩) n n,.int .i64 0])/\W.heap.size<=g/\Br w' g n (pl m e L)/\Below W.heap.size W w'
theorem zhc(A:Option Addr)(n c' L m:Nat)(c:Nat->Nat)(e:Nat->Nat×Nat)(W:World)(hn:n<=320)(hc:∀i,c i<=1073741824)(H:z0e W .i64 A n (λi=>(c i:Int)))(h1:1<=L)(h2:L<=15)(hl:z3J c n m e)(hb:nds m<=L)(hs:∀m e,Raw c n m e->20<m->zeT):
 Calls prog 274 #[.slice A n c',.int .i64 L] W (zi0 W n m L e):=by
 have hv:=qH (z5D (zdJ hn hc));have HN:=qH (show n<=maxLen by unfold maxLen;omega);obtain⟨HA,HC,HL,HB⟩:=qh4 H hc hl hb;generalize hq:nds m=q at hb;have HQ:=qH hq;have hmk:=λw=>madeByte w n (by omega)
 have d0:decide ((L:Int)<(q:Int))=false:=qF (by omega);clear H hc hl hq;go_enter func274,ntmps274;go_wp2_with fail;refine(zdp A n c' _ _ HN.o HA.o).mono ?_;rintro e0 w' ⟨rfl,rfl⟩;rw[hv.o];go_wp2_with fail;refine(z8Z A n c' c _ hn HC.o HA.o hs).mono ?_;rintro x w1 ⟨A1,cap1,m1,e1,rfl,hmc,l1,f1,b1⟩;obtain⟨rfl,he⟩:=ziR HL.o l1;obtain⟨B1,HE,HL1,HF⟩:=qh4 b1 he l1 f1;have hm:=l1.le;clear l1 f1 b1 he;have NC:=qH (λw=>zaX (m:Int) w (by omega) (by omega));go_wp2_with fail;refine(NC.o _).mono ?_;rintro e0 w' ⟨rfl,rfl⟩;rw[show((m:Int)).toNat=m by omega,HQ.o];clear NC;by_cases c0:m=0
 · subst c0
   go_wp2_with fail;go_ret2;refine⟨_,rfl,B1.o.size,(Br.made' w1 n).congr (f':=pl 0 e L) (λi _=>by unfold pl;rw[if_pos rfl]),B1.o.alloc B1.o.size _⟩
 by_cases c1:m=1
 · subst c1
   obtain⟨b,rfl,hlf⟩:=HF.o (by omega);obtain⟨y1,y2,y3⟩:=hlf.cells (show 0<1 by omega);obtain⟨s,hs⟩:∃s,(e1 0).2=s:=⟨_,rfl⟩
   have hsn:=(HL1.o.is_ 0 (by omega)).1;rw[hs] at y2 hsn;have HS:=qH (show s=ly e 0 by unfold ly;rw[HE.o 0 (by omega)];exact hs.symm);have hbl:=hlf.lt;have hsz:=B1.o.size;have hbr:=Br.made' w1 n;have hcl:=hbr.cell hsn;have hfr:=hbr.frozen s;have HBR:=qH ((Br.made1 w1 n s hsn).congr (f':=pl 1 e L) (λi _=>by
    unfold pl;rw[if_neg (show ¬(1=0) by omega),if_pos (rfl:1=1),<-HS.o]))
   clear hs hlf hbr c0;go_wp2_with fail;go_ret2;exact⟨_,rfl,hsz,HBR.o,B1.o.alloc hsz _⟩
 · have c2:2<=m:=by omega
   have n1:((m:Int)==0)=false:=(by rw[qN];omega);have n2:((m:Int)==1)=false:=(by rw[qN];omega);obtain⟨r,hr⟩:∃r,2*m - 2=r:=⟨_,rfl⟩
   have v1:2*(m:Int) - 2=(r:Int):=(by omega);have hlen:2*m - 2<=(row (lvs (lw e1) (ly e1) m) L).length:=by
    have:=z0X (lvs (lw e1) (ly e1) m) L (by rw[z06];exact(z41 h1).1 HB.o)
    rwa [z06] at this
   obtain⟨HLEN,HR⟩:=qh2 hlen hr;have T0:=qH (λ(B:Nat)=>z0v.leaves (w:=w1) (base:=B) HF.o);clear hlen hr c0 c1;go_wp2_with fail;have HT:=qH ((T0.o (w1.alloc (.cells (madeCells #[.int .u8 0] n) 5)).heap.size).below ((Below.refl w1.heap.size w1).alloc qR (.cells (madeCells #[.int .u8 0] n) 5)));have HWL:=qH (show ∀x∈lvt m e1,x.1.wt<=1073741824 from λx hx=>by
    obtain⟨i,hi,rfl⟩:=List.getElem_of_mem hx;obtain⟨g1,g2⟩:=zb5 m e1 (qE hi);rw[g2];show(e1 i).1<=_
    rw[(HL1.o.is_ i g1).2.2];exact HC.o _)
   refine(zao A1 m cap1 L (lvt m e1) _ (z29 m e1) (by omega) hmc h1 h2 HT.o HWL.o).mono ?_;rintro x w3 ⟨A3,n3,cap3,X,rfl,x1,x2,x3,x4,x5,x6⟩;rw[zh4] at x3;have hrn:r<=n3:=by
    have h3:=HLEN.o;rw[<-x3,List.length_map,x1,HR.o] at h3;exact h3
   have hrc:r<=cap3:=(by omega);have BR3:=qH ((Br.made' w1 n).below x6 (by simp));have TX:=qH (x4.take r);have X1:=qH (show(X.take r).length=r by rw[List.length_take,x1];omega);obtain⟨X3,X6⟩:=qh2 x3 x6;have XF:=qH (show ∀b o,A3=some ⟨b,o,none⟩->b≠w1.heap.size from λb o h=>by
    rcases x5 with g|g
    · rw[h] at g
      obtain⟨b0,q1,q2⟩:=HF.o (by omega);rw[q1] at g;have:=q2.lt;simp at g;omega
    · have:=g b o h
      simp at this;omega)
   have XS:=qH (show ∀x∈X.take r,z9w n x.1 from λx hx=>by
    have h3:x.1∈row (lvs (lw e1) (ly e1) m) L:=(by rw[<-x3];exact List.mem_map_of_mem (List.mem_of_mem_take hx));exact z78 (zcX HL1.o) L _ h3)
   have XW:=qH (show ∀x∈X.take r,x.1.wt<18446744073709551616 from λx hx=>by
    obtain⟨z,rfl⟩:∃z,L=z+1:=⟨L - 1,by omega⟩
    have h3:x.1∈row (lvs (lw e1) (ly e1) m) (z+1):=(by rw[<-x3];exact List.mem_map_of_mem (List.mem_of_mem_take hx));have h4:=zal (M:=1073741824) (λt ht=>by
     unfold lvs at ht;obtain⟨i,hi,rfl⟩:=List.mem_map.1 ht;show(e1 i).1<=_
     rw[(HL1.o.is_ i (List.mem_range.1 hi)).2.2];exact HC.o _) z _ h3
    have h5:1073741824*2^z<=1073741824*2^14:=Nat.mul_le_mul_left _ (Nat.pow_le_pow_right (by omega) (by omega));omega)
   have hgb:w1.heap.size<(w1.alloc (.cells (madeCells #[.int .u8 0] n) 5)).heap.size:=(by simp);have HGB:=qH hgb;have hr1000:r<=1000:=(by omega);clear x1 x3 x4 x5 x6 hrn hgb;go_wp2_with fail;refine(z4X w1.heap.size n (w1.alloc (.cells (madeCells #[.int .u8 0] n) 5)).heap.size r cap3 A3 (X.take r) (λ_=>0) _ (by omega) HGB.o X1.o hr1000 XF.o XS.o XW.o (λi=>by omega) TX.o BR3.o).mono ?_;rintro x w4 ⟨rfl,x7,x8⟩;have F7:=qH (x7.congr (f':=pl m e L) (λi _=>by
    rw[zds HE.o i];have hle:=zdq HL1.o HB.o h1 i;unfold z3A;rw[List.map_take,X3.o];unfold pl at hle ⊢;rw[if_neg (by omega),if_neg (by omega),HR.o] at hle ⊢;rw[Nat.zero_add,Nat.mod_eq_of_lt (by omega)]))
   have F8:=qH (x8.below (B:=W.heap.size) (by have:=X6.o.size;have:=B1.o.size;simp at*;omega) (λj hj=>by have:j=w1.heap.size:=hj;have:=B1.o.size;omega));clear x7 x8;go_wp2_with fail;go_ret2;exact⟨_,rfl,B1.o.size,F7.o,((B1.o.alloc B1.o.size _).trans (X6.o.mono (by have:=B1.o.size;simp;omega))).trans F8.o⟩
def zk6(l:Nat->Nat)(n:Nat):Bool:=decide (May l n)
theorem z0J{l:Nat->Nat}{n:Nat}(h:May l n):zk6 l n=true:=q9T h
theorem z28{l:Nat->Nat}{n:Nat}(h:¬May l n):zk6 l n=false:=qF h
theorem may_any(A:Option Addr)(n c:Nat)(l:Nat->Nat)(w:World)(hn:n<=maxLen)(hl:∀i,l i<=255)(H:z0e w .u8 A n (λi=>(l i:Int))):
 Calls prog 290 #[.slice A n c] w λe w'=>e=.returned (.bool (zk6 l n))/\w=w':=by
 have hn':n<=9223372036854775807:=(by unfold maxLen at hn;omega);clear hn;have HL:=qH hl;clear hl;by_cases h3:n<=320
 · go_enter func290,ntmps290
   go_wp2
   go_loop [10] (λi=> ∃k:Nat,k<=n/\i=.int .i64 k/\Hd (∀j,j<k->l j<=15)) (λi=>n - (intOf i).toNat)
   case atStart=>exact⟨0,qZ,rfl,qH (λj hj=>by omega)⟩
   case round=>
    obtain⟨k,hk,rfl,hsm⟩:=hrel;by_cases hlt:k<n
    · obtain⟨b,o,rfl,hb,hc⟩:=H (by omega)
      have hcell:=hc k hlt;have h255:=HL.o k;clear hc;by_cases h15:l k<=15
      · go_wp2
        go_round
        case rel=>exact⟨k+1,by omega,by go_num,qH (λj hj=>by
         by_cases e:j=k
         · rw[e];exact h15
         · exact hsm.o j (by omega))⟩
        case measure=>simp[intOf];omega
      · have hv:=qH (z28 (l:=l) (n:=n) (λg=>h15 (g.2 k hlt)))
        go_wp2;go_ret;exact⟨by rw[hv.o];rfl,rfl⟩
    · obtain rfl:k=n:=by omega
      have hv:=qH (z0J (l:=l) (n:=k) ⟨h3,hsm.o⟩);go_wp2;go_ret;exact⟨by rw[hv.o];rfl,rfl⟩
 · have hv:=qH (z28 (l:=l) (n:=n) (λg=>h3 g.1))
   go_enter func290,ntmps290;go_wp2;go_ret;exact⟨by rw[hv.o];rfl,rfl⟩
theorem z0K(A:Option Addr)(n c:Nat)(l:Nat->Nat)(W:World)(hm:May l n)(H:z0e W .u8 A n (λi=>(l i:Int))):
 Calls prog 291 #[.slice A n c] W λe w'=>e=.returned (.agg (TV (c0 l n)))/\Below W.heap.size W w':=by
 have hz:=z14;have hn':n<=320:=hm.1;have HL:=qH hm.2;clear hm;go_enter func291,ntmps291;go_wp2_with fail;clear hz
 go_loopw [8] (λi wr=> ∃k:Nat,k<=n/\i=.int .i64 k/\Tb wr W.heap.size (λ_=>0)/\Tb wr (W.heap.size+1) (λs=>cnt l s k)/\Below W.heap.size W wr) (λi _=>n - (intOf i).toNat)
 case atStart=>
  refine⟨0,qZ,rfl,(Tb.made W _).alloc _,?_,(qL).alloc (by simp) _⟩;have h:=Tb.made (W.alloc (.cells (TV λx=>0) 372)) (λx=>0);rw[show(W.alloc (.cells (TV λx=>0) 372)).heap.size=W.heap.size+1 by simp] at h;exact h.congr (λi hi=>rfl)
 case round=>
  obtain⟨k,hk,rfl,ht0,ht1,hb⟩:=hrel;by_cases hlt:k<n
  · obtain⟨b,o,rfl,hbs,hc⟩:=H (by omega)
    have h15:=HL.o k hlt;have hcell:wr.cell? ⟨b,o+k,none⟩=some (.int .u8 (l k)):=(hb.cell hbs).trans (hc k hlt);generalize hx:l k=x at h15 hcell;have hcx:=ht1.cell (show x<16 by omega);have hf:=ht1.frozen x;have hle:=zc2 l x k;obtain⟨HX,HT0,HT1,HB⟩:=qh4 hx ht0 ht1 hb;clear ht0 ht1 hb hx hc;go_wp2_with fail;go_roundw
    case rel=>
     refine⟨k+1,by omega,by go_num,HT0.o.other (by simp) _,(HT1.o.set x (cnt l x k+1)).congr ?_,HB.o.setCell (by simp) _⟩;intro i hi;simp only[cnt,HX.o];by_cases e:i=x
     · subst e;simp
     · rw[if_neg e,if_neg (λg=>e g.symm)];rfl
    case measure=>simp[intOf];omega
  · obtain rfl:k=n:=by omega
    have hcx:=ht1.cell (show 0<16 by omega);have hf:=ht1.frozen 0;have ht2:=(ht1.set 0 0).congr (g:=c0 l k) (λi hi=>by unfold c0;rfl);have ht3:=ht0.other (a:=⟨W.heap.size+1,0,none⟩) (by simp) (.int .u32 (0:Nat));have hb2:=hb.setCell (p:=⟨W.heap.size+1,0,none⟩) (by simp) (.int .u32 (0:Nat));obtain⟨HT1,HT0,HB⟩:=qh3 ht2 ht3 hb2;clear ht0 ht1 ht2 ht3 hb hb2;go_wp2_with (first|(refine z0t _ rfl rfl _ rfl (c0 l k) HT1.o ?_)|(refine z1s rfl _ _ rfl _ _ (c0 l k) rfl rfl HT0.o ?_));have hr:=HT0.o.setRow (c0 l k);refine bodyPost_ret (v:=.agg (TV (c0 l k))) (results_cell_row rfl _ _ _ _ _ _ _ rfl hr.row underlying372 rfl (z2J (c0 l k))) rfl ⟨rfl,below_setRow HB.o _ _ qR⟩
theorem z0W(c:Nat->Nat)(W:World)(hc:∀s,s<16->c s<=320):
 Calls prog 292 #[.agg (TV c)] W λe w'=>e=.returned (.int .u32 (aw c 16))/\Below W.heap.size W w':=by
 have HM:=qH (Tb.made W c);have HB:=qH ((Below.refl W.heap.size W).alloc qR (.cells (TV c) 372));have HC:=qH hc;clear hc;go_enter func292,ntmps292;go_wp2_with (refine z0t _ rfl rfl _ rfl c HM.o ?_)
 go_loop [3,7] (λx i=> ∃k:Nat,k<=16/\i=.int .i64 k/\x=.int .u32 (aw c k)) (λ_ i=>16 - (intOf i).toNat)
 case atStart=>exact⟨0,qZ,rfl,rfl⟩
 case round=>
  obtain⟨k,hk,rfl,rfl⟩:=hrel;by_cases hlt:k<16
  · have h320:=HC.o k hlt
    have hs:=z8h HC.o k hk;have hv:=qH (show aw c (k+1)=aw c k+c k*2^(15 - k) from rfl);have hd:decide ((k:Int)<16)=true:=(by simp;omega);have hidx:=λw=>zkA w c k hlt
    have hq:c k*2^(15 - k)<=320*2^15:=Nat.mul_le_mul h320 (Nat.pow_le_pow_right (by omega) (by omega));generalize hdd:15 - k=d at hq hv
    have HQ:Hd ((((aw c k:Nat):Int)+(c k:Int)*2^d%4294967296)%4294967296=((aw c (k+1):Nat):Int)):=qH (by
     rw[hv.o];have e:(c k:Int)*2^d=((c k*2^d:Nat):Int):=(by push_cast;rfl);rw[e];omega)
    clear hq;go_wp2_with fail
    go_round
    case rel=>exact⟨k+1,by omega,by go_num,congrArg (Value.int .u32) HQ.o⟩
    case measure=>simp[intOf];omega
  · obtain rfl:k=16:=by omega
    go_wp2_with fail;go_ret;exact⟨rfl,HB.o⟩
theorem z9b(c:Nat->Nat)(W:World)(hc:∀s,s<16->c s<=320):
 Calls prog 309 #[.agg (TV c)] W λe w'=>e=.returned (.agg (TV (fs c)))/\Below W.heap.size W w':=by
 have hz:=z14;have HC:=qH hc;clear hc;go_enter func309,ntmps309;go_wp2_with fail;clear hz
 go_loopw [4] (λi wr=> ∃k:Nat,k<=15/\i=.int .i64 ((k:Int)+1)/\Tb wr W.heap.size c/\Tb wr (W.heap.size+1) (λ_=>0)/\Tb wr (W.heap.size+2) (λs=>if s<=k then fs c s else 0)/\Below W.heap.size W wr) (λi _=>16 - (intOf i).toNat)
 case atStart=>
  refine⟨0,qZ,rfl,((Tb.made W _).alloc _).alloc _,?_,?_,((qL).alloc (by simp) _).alloc (by simp;omega) _⟩
  · have h:=Tb.made (W.alloc (.cells (TV c) 372)) (λx=>0)
    rw[show(W.alloc (.cells (TV c) 372)).heap.size=W.heap.size+1 by simp] at h;exact h.alloc _
  · have h:=Tb.made ((W.alloc (.cells (TV c) 372)).alloc (.cells (TV λx=>0) 372)) (λx=>0)
    rw[show((W.alloc (.cells (TV c) 372)).alloc (.cells (TV λx=>0) 372)).heap.size=W.heap.size+2 by simp] at h;refine h.congr (λi hi=> ?_)
    split
    · obtain rfl:i=0:=by omega
      rfl
    · rfl
 case round=>
  obtain⟨k,hk,rfl,ht0,ht1,ht2,hb⟩:=hrel;by_cases hlt:k<15
  · have g1:=ht0.cell (show k<16 by omega)
    have g2:=ht2.cell (show k<16 by omega);simp only[if_pos (Nat.le_refl k)] at g2;have g3:=ht2.frozen (k+1);have g4:=ht2.cell (show k+1<16 by omega);have q1:=HC.o k (by omega);have q2:=z7W HC.o k (by omega);have q3:2^k<=2^15:=Nat.pow_le_pow_right (by omega) (by omega);obtain⟨x,hx⟩:∃x,fs c k=x:=⟨_,rfl⟩
    obtain⟨y,hy⟩:∃y,c k=y:=⟨_,rfl⟩
    obtain⟨z,hz⟩:∃z,(if k+1<=k then fs c (k+1) else 0)=z:=⟨_,rfl⟩
    rw[hx] at g2 q2;rw[hy] at g1 q1;rw[hz] at g4;have w1:IntKind.i64.wrap ((k:Int)+1 - 1)=(k:Int):=(by rw[IntWalk.i64_in _ (by omega)];omega);have w2:IntKind.u32.wrap ((x:Int)+(y:Int))=((x+y:Nat):Int):=(by rw[IntKind.wrap_u32];omega);have w4:((k:Int)).toNat=k:=(by omega);have w5:((k:Int)+1).toNat=k+1:=(by omega);obtain⟨HT0,HT1,HT2,HB⟩:=qh4 ht0 ht1 ht2 hb
    have HV:Hd (((x:Int)+(y:Int))*2%4294967296=((fs c (k+1):Nat):Int)):=qH (by
     simp only[fs];rw[hx,hy];omega)
    clear ht0 ht1 ht2 hb hx hy hz q2 q3;go_wp2_with fail
    go_region
    go_wp2_with fail;go_roundw
    case rel=>
     refine⟨k+1,by omega,by go_num,(HT0.o.other (by simp<;>omega) _),(HT1.o.other (by simp<;>omega) _),?_,(HB.o.setCell (by simp;omega) _).drew⟩;have h:=(HT2.o.set (k+1) (fs c (k+1))).congr (g:=λs=>if s<=k+1 then fs c s else 0) (λi hi=>by
      by_cases e:i=k+1
      · subst e;simp
      · rw[if_neg e]
        by_cases e2:i<=k
        · rw[if_pos e2,if_pos (by omega)]
        · rw[if_neg e2,if_neg (by omega)])
     rw[HV.o];exact h
    case measure=>simp[intOf];omega
  · obtain rfl:k=15:=by omega
    have ht:Tb wr (W.heap.size+2) (fs c):=ht2.congr (λi hi=>by rw[if_pos (by omega)]);obtain⟨HT1,HT,HB⟩:=qh3 ht1 ht hb;clear ht0 ht1 ht2 ht hb;go_wp2_with (first|(refine z0t _ rfl rfl _ rfl (fs c) HT.o ?_)|(refine z1s rfl _ _ rfl _ _ (fs c) rfl rfl HT1.o ?_));have hr:=HT1.o.setRow (fs c);refine bodyPost_ret (v:=.agg (TV (fs c))) (results_cell_row rfl _ _ _ _ _ _ _ rfl hr.row underlying372 rfl (z2J (fs c))) rfl ⟨rfl,below_setRow HB.o _ _ (by omega)⟩
theorem z5I(A:Option Addr)(n c:Nat)(l:Nat->Nat)(W:World)(hn:n<=maxLen)(hl:∀i,l i<=255)(H:z0e W .u8 A n (λi=>(l i:Int)))(hm:¬May l n):
 Calls prog 259 #[.slice A n c] W λe w'=>e=.returned (.int .u8 (kind l n))/\Below W.heap.size W w':=by
 have hv:=qH (z1R hm);have hb:=qH (z28 hm);have HL:=qH hl;clear hm hl;go_enter func259,ntmps259;go_wp2_with fail;refine(may_any A n c l _ hn HL.o H).mono ?_;rintro e w' ⟨rfl,rfl⟩;rw[hb.o];go_wp2_with fail;go_ret;exact⟨by rw[hv.o];rfl,Below.refl _ _⟩
theorem z4G(A:Option Addr)(n c:Nat)(l:Nat->Nat)(W:World)(hl:∀i,l i<=255)(H:z0e W .u8 A n (λi=>(l i:Int)))(hm:May l n)(g x:Nat)(hg:g=z02 l n)(hx:x=c0 l n 1)(e0:g=0):
 Calls prog 259 #[.slice A n c] W λe w'=>e=.returned (.int .u8 0)/\Below W.heap.size W w':=by
 have hz:=z14;obtain⟨HL,HM⟩:=qh2 hl hm;have HN:=qH (show n<=maxLen by have:=hm.1;unfold maxLen;omega);have HX:=qH hx;have HG:=qH (show aw (c0 l n) 16=g by rw[hg];exact z0m l n hm.2);have HC:=qH (show ∀s,s<16->c0 l n s<=320 from λs _=>qK (z6Q l n s) hm.1);have hb:=qH (z0J hm);have d0:((g:Int)==0)=true:=(by rw[beq_iff_eq];omega);clear hm hl hx hg e0;go_enter func259,ntmps259;go_wp2_with fail;refine(may_any A n c l _ HN.o HL.o H).mono ?_;rintro e w' ⟨rfl,rfl⟩;rw[hb.o];go_wp2_with fail;refine(z0K A n c l _ HM.o H).mono ?_;rintro e w1 ⟨rfl,b1⟩;have B1:=qH b1;clear b1;have T1:=qH (Tb.made w1 (c0 l n));go_wp2_with (first|(refine z0w rfl _ _ rfl _ (c0 l n) rfl rfl ?_)|(refine z0t _ rfl rfl _ rfl (c0 l n) T1.o ?_));clear hz;refine(z0W (c0 l n) _ HC.o).mono ?_;rintro e w2 ⟨rfl,b2⟩;rw[HG.o];have B2:=qH b2;have T2:=qH (T1.o.below b2 (by simp));have hc1:=T2.o.cell (show 1<16 by decide);rw[<-HX.o] at hc1;clear b2;go_wp2_with fail;go_ret;exact⟨rfl,(B1.o.alloc B1.o.size _).trans (B2.o.mono (qK B1.o.size (by simp)))⟩
theorem z4F(A:Option Addr)(n c:Nat)(l:Nat->Nat)(W:World)(hl:∀i,l i<=255)(H:z0e W .u8 A n (λi=>(l i:Int)))(hm:May l n)(g x:Nat)(hg:g=z02 l n)(hx:x=c0 l n 1)(e1:32768<g):
 Calls prog 259 #[.slice A n c] W λe w'=>e=.returned (.int .u8 4)/\Below W.heap.size W w':=by
 have hz:=z14;obtain⟨HL,HM⟩:=qh2 hl hm;have HN:=qH (show n<=maxLen by have:=hm.1;unfold maxLen;omega);have HX:=qH hx;have HG:=qH (show aw (c0 l n) 16=g by rw[hg];exact z0m l n hm.2);have HC:=qH (show ∀s,s<16->c0 l n s<=320 from λs _=>qK (z6Q l n s) hm.1);have hb:=qH (z0J hm);have d0:((g:Int)==0)=false:=(by rw[qN];omega);clear hm hl hx hg;go_enter func259,ntmps259;go_wp2_with fail;refine(may_any A n c l _ HN.o HL.o H).mono ?_;rintro e w' ⟨rfl,rfl⟩;rw[hb.o];go_wp2_with fail;refine(z0K A n c l _ HM.o H).mono ?_;rintro e w1 ⟨rfl,b1⟩;have B1:=qH b1;clear b1;have T1:=qH (Tb.made w1 (c0 l n));go_wp2_with (first|(refine z0w rfl _ _ rfl _ (c0 l n) rfl rfl ?_)|(refine z0t _ rfl rfl _ rfl (c0 l n) T1.o ?_));clear hz;refine(z0W (c0 l n) _ HC.o).mono ?_;rintro e w2 ⟨rfl,b2⟩;rw[HG.o];have B2:=qH b2;have T2:=qH (T1.o.below b2 (by simp));have hc1:=T2.o.cell (show 1<16 by decide);rw[<-HX.o] at hc1;clear b2;go_wp2_with fail;go_ret;exact⟨rfl,(B1.o.alloc B1.o.size _).trans (B2.o.mono (qK B1.o.size (by simp)))⟩
theorem z3B(A:Option Addr)(n c:Nat)(l:Nat->Nat)(W:World)(hl:∀i,l i<=255)(H:z0e W .u8 A n (λi=>(l i:Int)))(hm:May l n)(g x:Nat)(hg:g=z02 l n)(hx:x=c0 l n 1)(e2:g=32768):
 Calls prog 259 #[.slice A n c] W λe w'=>e=.returned (.int .u8 2)/\Below W.heap.size W w':=by
 have hz:=z14;obtain⟨HL,HM⟩:=qh2 hl hm;have HN:=qH (show n<=maxLen by have:=hm.1;unfold maxLen;omega);have HX:=qH hx;have HG:=qH (show aw (c0 l n) 16=g by rw[hg];exact z0m l n hm.2);have HC:=qH (show ∀s,s<16->c0 l n s<=320 from λs _=>qK (z6Q l n s) hm.1);have hb:=qH (z0J hm);have d0:((g:Int)==0)=false:=(by rw[qN];omega);have d1:decide (32768<(g:Int))=false:=qF (by omega);have d2:((g:Int)==32768)=true:=(by rw[beq_iff_eq];omega);clear hm hl hx hg e2;go_enter func259,ntmps259;go_wp2_with fail;refine(may_any A n c l _ HN.o HL.o H).mono ?_;rintro e w' ⟨rfl,rfl⟩;rw[hb.o];go_wp2_with fail;refine(z0K A n c l _ HM.o H).mono ?_;rintro e w1 ⟨rfl,b1⟩;have B1:=qH b1;clear b1;have T1:=qH (Tb.made w1 (c0 l n));go_wp2_with (first|(refine z0w rfl _ _ rfl _ (c0 l n) rfl rfl ?_)|(refine z0t _ rfl rfl _ rfl (c0 l n) T1.o ?_));clear hz;refine(z0W (c0 l n) _ HC.o).mono ?_;rintro e w2 ⟨rfl,b2⟩;rw[HG.o];have B2:=qH b2;have T2:=qH (T1.o.below b2 (by simp));have hc1:=T2.o.cell (show 1<16 by decide);rw[<-HX.o] at hc1;clear b2;go_wp2_with fail;go_ret;exact⟨rfl,(B1.o.alloc B1.o.size _).trans (B2.o.mono (qK B1.o.size (by simp)))⟩
theorem z5H(A:Option Addr)(n c:Nat)(l:Nat->Nat)(W:World)(hl:∀i,l i<=255)(H:z0e W .u8 A n (λi=>(l i:Int)))(hm:May l n)(g x:Nat)(hg:g=z02 l n)(hx:x=c0 l n 1)(e3:g=16384)(e4:x=1):
 Calls prog 259 #[.slice A n c] W λe w'=>e=.returned (.int .u8 1)/\Below W.heap.size W w':=by
 have hz:=z14;obtain⟨HL,HM⟩:=qh2 hl hm;have HN:=qH (show n<=maxLen by have:=hm.1;unfold maxLen;omega);have HX:=qH hx;have HG:=qH (show aw (c0 l n) 16=g by rw[hg];exact z0m l n hm.2);have HC:=qH (show ∀s,s<16->c0 l n s<=320 from λs _=>qK (z6Q l n s) hm.1);have hb:=qH (z0J hm);have d0:((g:Int)==0)=false:=(by rw[qN];omega);have d1:decide (32768<(g:Int))=false:=qF (by omega);have d2:((g:Int)==32768)=false:=(by rw[qN];omega);have d3:((x:Int)==1)=true:=(by rw[beq_iff_eq];omega);have d4:((g:Int)==16384)=true:=(by rw[beq_iff_eq];omega);clear hm hl hx hg e3 e4;go_enter func259,ntmps259;go_wp2_with fail;refine(may_any A n c l _ HN.o HL.o H).mono ?_;rintro e w' ⟨rfl,rfl⟩;rw[hb.o];go_wp2_with fail;refine(z0K A n c l _ HM.o H).mono ?_;rintro e w1 ⟨rfl,b1⟩;have B1:=qH b1;clear b1;have T1:=qH (Tb.made w1 (c0 l n));go_wp2_with (first|(refine z0w rfl _ _ rfl _ (c0 l n) rfl rfl ?_)|(refine z0t _ rfl rfl _ rfl (c0 l n) T1.o ?_));clear hz;refine(z0W (c0 l n) _ HC.o).mono ?_;rintro e w2 ⟨rfl,b2⟩;rw[HG.o];have B2:=qH b2;have T2:=qH (T1.o.below b2 (by simp));have hc1:=T2.o.cell (show 1<16 by decide);rw[<-HX.o] at hc1;clear b2;go_wp2_with fail;go_ret;exact⟨rfl,(B1.o.alloc B1.o.size _).trans (B2.o.mono (qK B1.o.size (by simp)))⟩
theorem z3D(A:Option Addr)(n c:Nat)(l:Nat->Nat)(W:World)(hl:∀i,l i<=255)(H:z0e W .u8 A n (λi=>(l i:Int)))(hm:May l n)(g x:Nat)(hg:g=z02 l n)(hx:x=c0 l n 1)(e5:g≠0)(e6:g<32768)(e4:x≠1):
 Calls prog 259 #[.slice A n c] W λe w'=>e=.returned (.int .u8 3)/\Below W.heap.size W w':=by
 have hz:=z14;obtain⟨HL,HM⟩:=qh2 hl hm;have HN:=qH (show n<=maxLen by have:=hm.1;unfold maxLen;omega);have HX:=qH hx;have HG:=qH (show aw (c0 l n) 16=g by rw[hg];exact z0m l n hm.2);have HC:=qH (show ∀s,s<16->c0 l n s<=320 from λs _=>qK (z6Q l n s) hm.1);have hb:=qH (z0J hm);have d0:((g:Int)==0)=false:=(by rw[qN];omega);have d1:decide (32768<(g:Int))=false:=qF (by omega);have d2:((g:Int)==32768)=false:=(by rw[qN];omega);have d3:((x:Int)==1)=false:=(by rw[qN];omega);clear hm hl hx hg e5 e4;go_enter func259,ntmps259;go_wp2_with fail;refine(may_any A n c l _ HN.o HL.o H).mono ?_;rintro e w' ⟨rfl,rfl⟩;rw[hb.o];go_wp2_with fail;refine(z0K A n c l _ HM.o H).mono ?_;rintro e w1 ⟨rfl,b1⟩;have B1:=qH b1;clear b1;have T1:=qH (Tb.made w1 (c0 l n));go_wp2_with (first|(refine z0w rfl _ _ rfl _ (c0 l n) rfl rfl ?_)|(refine z0t _ rfl rfl _ rfl (c0 l n) T1.o ?_));clear hz;refine(z0W (c0 l n) _ HC.o).mono ?_;rintro e w2 ⟨rfl,b2⟩;rw[HG.o];have B2:=qH b2;have T2:=qH (T1.o.below b2 (by simp));have hc1:=T2.o.cell (show 1<16 by decide);rw[<-HX.o] at hc1;clear b2;go_wp2_with fail;go_ret;exact⟨rfl,(B1.o.alloc B1.o.size _).trans (B2.o.mono (qK B1.o.size (by simp)))⟩
theorem z3C(A:Option Addr)(n c:Nat)(l:Nat->Nat)(W:World)(hl:∀i,l i<=255)(H:z0e W .u8 A n (λi=>(l i:Int)))(hm:May l n)(g x:Nat)(hg:g=z02 l n)(hx:x=c0 l n 1)(e5:g≠0)(e6:g<32768)(e4:x=1)(e3:g≠16384):
 Calls prog 259 #[.slice A n c] W λe w'=>e=.returned (.int .u8 3)/\Below W.heap.size W w':=by
 have hz:=z14;obtain⟨HL,HM⟩:=qh2 hl hm;have HN:=qH (show n<=maxLen by have:=hm.1;unfold maxLen;omega);have HX:=qH hx;have HG:=qH (show aw (c0 l n) 16=g by rw[hg];exact z0m l n hm.2);have HC:=qH (show ∀s,s<16->c0 l n s<=320 from λs _=>qK (z6Q l n s) hm.1);have hb:=qH (z0J hm);have d0:((g:Int)==0)=false:=(by rw[qN];omega);have d1:decide (32768<(g:Int))=false:=qF (by omega);have d2:((g:Int)==32768)=false:=(by rw[qN];omega);have d3:((x:Int)==1)=true:=(by rw[beq_iff_eq];omega);have d4:((g:Int)==16384)=false:=(by rw[qN];omega);clear hm hl hx hg e5 e4 e3;go_enter func259,ntmps259;go_wp2_with fail;refine(may_any A n c l _ HN.o HL.o H).mono ?_;rintro e w' ⟨rfl,rfl⟩;rw[hb.o];go_wp2_with fail;refine(z0K A n c l _ HM.o H).mono ?_;rintro e w1 ⟨rfl,b1⟩;have B1:=qH b1;clear b1;have T1:=qH (Tb.made w1 (c0 l n));go_wp2_with (first|(refine z0w rfl _ _ rfl _ (c0 l n) rfl rfl ?_)|(refine z0t _ rfl rfl _ rfl (c0 l n) T1.o ?_));clear hz;refine(z0W (c0 l n) _ HC.o).mono ?_;rintro e w2 ⟨rfl,b2⟩;rw[HG.o];have B2:=qH b2;have T2:=qH (T1.o.below b2 (by simp));have hc1:=T2.o.cell (show 1<16 by decide);rw[<-HX.o] at hc1;clear b2;go_wp2_with fail;go_ret;exact⟨rfl,(B1.o.alloc B1.o.size _).trans (B2.o.mono (qK B1.o.size (by simp)))⟩
theorem z1j(A:Option Addr)(n c:Nat)(l:Nat->Nat)(W:World)(hn:n<=maxLen)(hl:∀i,l i<=255)(H:z0e W .u8 A n (λi=>(l i:Int))):
 Calls prog 259 #[.slice A n c] W λe w'=>e=.returned (.int .u8 (kind l n))/\Below W.heap.size W w':=by
 by_cases hm:May l n
 · have hk:=z0R hm
   obtain⟨g,hg⟩:∃g,g=z02 l n:=⟨_,rfl⟩
   obtain⟨x,hx⟩:∃x,x=c0 l n 1:=⟨_,rfl⟩
   rw[<-hg,<-hx] at hk;by_cases e0:g=0
   · rw[hk,if_pos e0];exact z4G A n c l W hl H hm g x hg hx e0
   rw[if_neg e0] at hk;by_cases e1:32768<g
   · rw[hk,if_pos e1];exact z4F A n c l W hl H hm g x hg hx e1
   rw[if_neg e1] at hk;by_cases e2:g=32768
   · rw[hk,if_pos e2];exact z3B A n c l W hl H hm g x hg hx e2
   rw[if_neg e2] at hk;by_cases e4:x=1
   · by_cases e3:g=16384
     · rw[hk,if_pos ⟨e4,e3⟩];exact z5H A n c l W hl H hm g x hg hx e3 e4
     · rw[hk,if_neg (λq=>e3 q.2)];exact z3C A n c l W hl H hm g x hg hx e0 (by omega) e4 e3
   · rw[hk,if_neg (λq=>e4 q.1)];exact z3D A n c l W hl H hm g x hg hx e0 (by omega) e4
 · exact z5I A n c l W hn hl H hm
theorem za8{m i0 x:Nat}(P:Nat->Prop)[DecidablePred P](h0:i0<m)(hp:P i0)(hu:∀i,i<m->P i->i=i0):sm (λi=>if P i then x else 0) m=x:=by
 induction m with
 |zero=>omega
 |succ m ih=>
  simp only[sm];by_cases q:i0=m
  · subst q
    rw[if_pos hp,sm_congr i0 (g:=λ_=>0) (λi hi=>if_neg (λg=>by have:=hu i (by omega) g;omega)),z1B];omega
  · rw[ih (by omega) (λi hi g=>hu i (by omega) g),if_neg (λg=>q (hu m (by omega) g).symm)];omega
theorem zgs(F:Nat->Nat){n a:Nat}(h:a<n):sm (λs=>if a=s then F s else 0) n=F a:=by
 rw[sm_congr n (g:=λs=>if a=s then F a else 0) (λs _=>by by_cases q:a=s<;>simp[q])];exact za8 (λs=>a=s) h rfl (λi _ g=>g.symm)
section
variable {c:Nat->Nat} {n m L K:Nat} {e:Nat->Nat×Nat}
theorem ziy(h:z3J c n m e)(F:Nat->Nat)(hF:∀s,s<n->c s=0->F s=0):sm F n=sm (λi=>F (ly e i)) m:=by
 have h1:∀s,s<n->sm (λi=>if ly e i=s then F s else 0) m=F s:=by
  intro s hs;by_cases q:c s=0
  · rw[hF s hs q]
    rw[sm_congr m (g:=λ_=>0) (λi _=>by split<;>rfl),z1B]
  · obtain⟨i,hi,r⟩:=h.all s hs (Nat.pos_of_ne_zero q)
    exact za8 (λi=>ly e i=s) hi r (λj hj g=>zfr h j i hj hi (g.trans r.symm))
 rw[<-sm_congr n h1,za7];exact sm_congr m (λi hi=>zgs F (h.is_ i hi).1)
theorem z4v(h:z3J c n m e)(hL:nds m<=L)(h1:1<=L){s:Nat}(hs:s<n):pl m e L s=0↔c s=0:=by
 constructor
 · intro g
   apply Classical.byContradiction
   intro q;obtain⟨i,hi,rfl⟩:=h.all s hs (Nat.pos_of_ne_zero q);by_cases h2:2<=m
   · have hp:=ziX (zfp (g:=ly e) (zb7 h)) (by rw[z06];exact h2) (k:=L) (i:=i) (z0X _ L (by rw[z06];exact(z41 h1).1 hL)) (by rw[z06];exact hi)
     rw[z06] at hp;have:=z6l h h2 hL h1 hi;unfold ly at this;rw[g] at this;unfold ly at hp;omega
   · unfold pl at g
     rw[if_neg (by omega),if_pos (by omega),if_pos (by unfold ly;rw[show i=0 by omega])] at g;omega
 · intro g
   refine zaG h hL h1 (λi hi q=> ?_);have:=(h.is_ i hi).2.1;unfold ly at q;rw[q] at this;omega
theorem zdr(h:z3J c n m e)(h2:2<=m)(hL:nds m<=L)(h1:1<=L):sm (λi=>2^(L - pl m e L (ly e i))) m=2^L:=by
 have hk:=zka (zfp (g:=ly e) (zb7 h)) L (by rw[z06];omega) (z0X _ L (by rw[z06];exact(z41 h1).1 hL));rw[z06] at hk;rw[<-hk];exact sm_congr m (λi hi=>by rw[z6l h h2 hL h1 hi])
theorem zaF{L K x:Nat}(hx:x<=L)(hK:L<=K):2^(K - x)=2^(L - x)*2^(K - L):=by
 rw[<-Nat.pow_add];congr 1;omega
end
theorem z56(l:Nat->Nat):∀n,z02 l n=sm (λs=>wt (l s)) n
 |0=>rfl
 |n+1=>by simp only[z02,sm];rw[z56 l n]
theorem zfJ(l:Nat->Nat)(x:Nat):∀n,cnt l x n=sm (λs=>if l s=x then 1 else 0) n
 |0=>rfl
 |n+1=>by
  have:cnt l x (n+1)=cnt l x n+if l n=x then 1 else 0:=rfl
  rw[this,zfJ l x n];rfl
theorem zfg{c:Nat->Nat}{n m L:Nat}{e:Nat->Nat×Nat}(h:z3J c n m e)(hn:n<=320)(hL:nds m<=L)(h1:1<=L)(h15:L<=15):May (pl m e L) n:=⟨hn,λi _=>qK (zdq h hL h1 i) h15⟩
theorem zgK{c:Nat->Nat}{n m L:Nat}{e:Nat->Nat×Nat}(h:z3J c n m e)(hn:n<=320)(hL:nds m<=L)(h1:1<=L)(h15:L<=15):kind (pl m e L) n=if m=0 then 0 else if m=1 then 1 else 2:=by
 have hw:z02 (pl m e L) n=sm (λi=>wt (pl m e L (ly e i))) m:=by
  rw[z56,ziy h _ (λs hs g=>by rw[(z4v h hL h1 hs).2 g];rfl)]
 rw[z0R (zfg h hn hL h1 h15)];by_cases m0:m=0
 · subst m0
   rw[if_pos rfl,hw];rfl
 rw[if_neg m0];by_cases m1:m=1
 · subst m1
   have hp:pl 1 e L (ly e 0)=1:=(by unfold pl;rw[if_neg m0,if_pos rfl,if_pos rfl]);have w1:z02 (pl 1 e L) n=16384:=(by rw[hw];simp only[sm];rw[hp];rfl);have c1:c0 (pl 1 e L) n 1=1:=by
    unfold c0;rw[if_neg (by omega),zfJ,ziy h _ (λs hs g=>by rw[(z4v h hL h1 hs).2 g,if_neg (by omega)])];simp only[sm];rw[hp];rfl
   rw[if_pos rfl,w1,c1];rfl
 · rw[if_neg m1]
   have h2:2<=m:=(by omega);have w2:z02 (pl m e L) n=32768:=by
    have kr:=zdr h h2 hL h1;rw[hw];have e1:sm (λi=>wt (pl m e L (ly e i))) m=sm (λi=>2^(L - pl m e L (ly e i))) m*2^(15 - L):=by
     rw[<-zf7];refine sm_congr m (λi hi=> ?_);have hne:pl m e L (ly e i)≠0:=λg=>by
      have:=(z4v h hL h1 (h.is_ i hi).1).1 g;have:=(h.is_ i hi).2.1;omega
     unfold M.wt;rw[if_neg hne];exact zaF (zdq h hL h1 _) h15
    rw[e1,kr,<-Nat.pow_add,show L+(15 - L)=15 by omega]
   rw[w2];rfl
variable {ops:Array Oper} {Q:Exit->Act->World->Prop} {md:Region.Mode} {i fuel:Nat} {oi:Oper} {v:Value} {d:Option Tmp} {listed:Array Bool} {a:Act} {w:World} {S:World->Prop}
theorem z04(hi:ops[i]? =some oi)(hd:oi.dst=d)(hs:Region.noSelect ops=true)(hf:Region.free md ops listed i=true)(hr:(Region.ready md ops listed).contains i=true)
 (hQ:∀c a w,Q (.panic c) (a.put oi.dst v) w->Q (.panic c) a w) (hw:Region.wanted oi (yielded ops a.tmps)=true) (hy:∀w,S w->(execOp a.eval oi).run prog w=.ok (.value v) w)
 (hS:S w) (h:wpAnyH prog md ops Q S fuel (listed.setIfInBounds i true) (a.put d v) w):wpAnyH prog md ops Q S (fuel+1) listed a w:=
 wpAnyH_take hi hs hf hr hQ (.inl ⟨hw,hy⟩) hS (by rw[hd];exact h)
theorem z0s(hr:Region.ready md ops listed=[i])(hi:ops[i]? =some oi)
 (h:∀K:Act->World->Prop,Shut (∀a w,S w->(S w->wpAnyH prog md ops Q S fuel (listed.setIfInBounds i true) a w)->K a w)->if Region.wanted oi (yielded ops a.tmps)=true then Oper.wp prog oi a w K Q else K (a.put oi.dst undef) w):
 wpAnyH prog md ops Q S (fuel+1) listed a w:=
 wpAnyH_ready hr (by simp) (AllReadyH.cons hi h AllReadyH.nil)
theorem z10{id:Nat}(S:World->Prop)(hS:S w.drew)(h:S w.drew->wpAnyH prog .any ops Q S ops.size (Array.replicate ops.size false) a w.drew):(Code.region id ops true).wp prog Q a w:=
 wp_region_held_drew (by kernel_rfl) hS h
end Go.Proofs.YthgilhebnlglkaaGreatDoor
namespace Go.Proofs.YthgilhebnlglkaaGreatDoor.C
open Go.RowKit M
def Crow(w:World)(b n:Nat)(F G:Nat->Nat):Prop:=
 ∃c:Array Value,w.heap[b]? =some (.cells c 216 (0,0))/\c.size=n*2/\∀i,i<n->c[i*2]? =some (.int .u32 (F i))/\c[i*2+1]? =some (.int .u8 (G i))
section
variable {w w':World} {b n:Nat} {F G F' G':Nat->Nat}
theorem Crow.lt(h:Crow w b n F G):b<w.heap.size:=by
 obtain⟨c,hb,_⟩:=h;rcases Nat.lt_or_ge b w.heap.size with g|g
 · exact g
 · rw[Array.getElem?_eq_none g] at hb;cases hb
theorem Crow.cell1(h:Crow w b n F G){i:Nat}(hi:i<n):w.cell? ⟨b,i*2,none⟩=some (.int .u32 (F i)):=by
 obtain⟨c,hb,_,hc⟩:=h;rw[cell_of_row w b _ c _ _ hb];exact(hc i hi).1
theorem Crow.cell2(h:Crow w b n F G){i:Nat}(hi:i<n):w.cell? ⟨b,i*2+1,none⟩=some (.int .u8 (G i)):=by
 obtain⟨c,hb,_,hc⟩:=h;rw[cell_of_row w b _ c _ _ hb];exact(hc i hi).2
theorem Crow.frozen(h:Crow w b n F G)(i:Nat):w.frozen? ⟨b,i,none⟩=false:=by
 obtain⟨c,hb,_⟩:=h;simp[World.frozen?,hb]
theorem Crow.congr(h:Crow w b n F G)(e1:∀i,i<n->F i=F' i)(e2:∀i,i<n->G i=G' i):Crow w b n F' G':=by
 obtain⟨c,hb,hs,hc⟩:=h;exact⟨c,hb,hs,λi hi=>by rw[(hc i hi).1,(hc i hi).2,e1 i hi,e2 i hi];exact⟨rfl,rfl⟩⟩
theorem Crow.other(h:Crow w b n F G){a:Addr}(ha:b≠a.block)(v:Value):Crow (w.setCell a v) b n F G:=by
 obtain⟨c,hb,hs,hc⟩:=h;exact⟨c,(Below.heap_setCell w a v b ha).trans hb,hs,hc⟩
theorem Crow.alloc(h:Crow w b n F G)(o:Obj):Crow (w.alloc o) b n F G:=by
 obtain⟨c,hb,hs,hc⟩:=id h;exact⟨c,(Below.heap_alloc w o b h.lt).trans hb,hs,hc⟩
theorem Crow.set(h:Crow w b n F G)(i x y:Nat):Crow ((w.setCell ⟨b,i*2,none⟩ (.int .u32 x)).setCell ⟨b,i*2+1,none⟩ (.int .u8 y)) b n (λj=>if j=i then x else F j) (λj=>if j=i then y else G j):=by
 obtain⟨c,hb,hs,hc⟩:=h;refine⟨(c.setIfInBounds (i*2) (.int .u32 x)).setIfInBounds (i*2+1) (.int .u8 y),?_,by simp[hs],λj hj=> ?_⟩
 · simp[World.setCell,Array.getElem?_modify,hb]
 · obtain⟨h1,h2⟩:=hc j hj
   by_cases e:j=i
   · subst e
     have l1:j*2<c.size:=(by omega);have l2:j*2+1<c.size:=(by omega);constructor
     · rw[Array.getElem?_setIfInBounds,if_neg (by omega),Array.getElem?_setIfInBounds,if_pos rfl,if_pos l1];simp
     · rw[Array.getElem?_setIfInBounds,if_pos rfl,if_pos (by simpa using l2)];simp
   · constructor
     · rw[Array.getElem?_setIfInBounds,if_neg (by omega),Array.getElem?_setIfInBounds,if_neg (by omega),h1];simp[e]
     · rw[Array.getElem?_setIfInBounds,if_neg (by omega),Array.getElem?_setIfInBounds,if_neg (by omega),h2];simp[e]
theorem Crow.cods(h:Crow w b n F G):z6V w (some ⟨b,0,none⟩) n F G:=λhn=>
 ⟨b,0,rfl,h.lt,λi hi=>by rw[Nat.zero_add];exact⟨h.cell1 hi,h.cell2 hi⟩⟩
end
theorem zey:(prog.info? 216).map (λi=>(i.zero,i.size,i.bytes))=some (some (.agg #[.int .u32 0,.int .u8 0]),2,8):=by kernel_rfl
theorem byteInfo:(prog.info? 5).map (λi=>(i.zero,i.size,i.bytes))=some (some (.int .u8 0),1,1):=by kernel_rfl
theorem z1t(w:World){t e:TypeId}{z:Value}{size bytes:Nat}(ht: prog.underlying t=some (.slice e))(hi:(prog.info? e).map (λi=>(i.zero,i.size,i.bytes))=some (some z,size,bytes))(hb:bytes<=8)(n:Nat)(hn:n<=400):
 (Instr.makeSlice t (.int .i64 (n:Int)) (.int .i64 (n:Int))).run prog w=.ok (.slice (some ⟨w.heap.size,0,none⟩) n n) (w.alloc (.cells (madeCells z.cells (n*size)) e)):=by
 obtain⟨i,h1,h2,h3,h4⟩:∃i,prog.info? e=some i/\i.zero=some z/\i.size=size/\i.bytes=bytes:=by
  cases hq: prog.info? e with
  |none=>rw[hq] at hi;cases hi
  |some i=>rw[hq] at hi;simp at hi;exact⟨i,rfl,hi.1,hi.2.1,hi.2.2⟩
 subst h3 h4;have hb':(i.bytes:Int)*(n:Int)<=281474976710656:=by
  have h:i.bytes*n<=8*400:=Nat.mul_le_mul hb hn;have h':((i.bytes*n:Nat):Int)<=281474976710656:=by omega
  rwa [Int.natCast_mul] at h'
 have hr:=run_make (P:= prog) w t e i z ht h1 h2 .i64 .i64 n n (by omega) (Int.le_refl _) hb' (by omega);simp only[Int.toNat_natCast] at hr;exact hr
theorem z7J(w:World)(n:Nat)(hn:n<=400):
 (Instr.makeSlice 207 (.int .i64 (n:Int)) (.int .i64 (n:Int))).run prog w=.ok (.slice (some ⟨w.heap.size,0,none⟩) n n) (w.alloc (.cells (madeCells #[.int .u32 0,.int .u8 0] (n*2)) 216)):=
 z1t w underlying207 zey (by decide) n hn
theorem madeByte(w:World)(n:Nat)(hn:n<=400):
 (Instr.makeSlice 26 (.int .i64 (n:Int)) (.int .i64 (n:Int))).run prog w=.ok (.slice (some ⟨w.heap.size,0,none⟩) n n) (w.alloc (.cells (madeCells #[.int .u8 0] (n*1)) 5)):=
 z1t w underlying26 byteInfo (by decide) n hn
theorem Crow.made(w:World)(n:Nat):Crow (w.alloc (.cells (madeCells #[.int .u32 0,.int .u8 0] (n*2)) 216)) w.heap.size n (λ_=>0) (λ_=>0):=by
 refine⟨_,heap_alloc_new w _,size_madeCells _ _,λi hi=> ?_⟩;have h1:i*2<n*2:=(by omega);have h2:i*2+1<n*2:=(by omega);have m1:i*2%2=0:=(by omega);have m2:(i*2+1)%2=1:=(by omega);constructor
 · simp[madeCells,h1,m1]
 · simp[madeCells,h2,m2]
def zcD(W:World)(n:Nat)(f g:Nat->Nat)(err:Int)(e:Ending)(w':World):Prop:=
 ∃A c,e=.returned (.tuple #[.slice A n c,.int .i64 err])/\n<=c/\c<=400/\z6V w' A n f g/\Below W.heap.size W w'/\(0<n->∃b,A=some ⟨b,0,none⟩/\W.heap.size<=b/\Crow w' b n f g)
theorem z4N(A:Option Addr)(n c:Nat)(l:Nat->Nat)(W:World)(hn:n<=maxLen)(hl:∀i,l i<=255)(H:z0e W .u8 A n (λi=>(l i:Int)))(f g:Nat->Nat)(hk:kind l n=5):
 Calls prog 280 #[.slice A n c] W (zcD W 0 f g 2):=by
 obtain⟨hv,HL⟩:=qh2 hk hl;clear hk hl;go_enter func280,ntmps280;go_wp2_with fail;refine(z1j A n c l _ hn HL.o H).mono ?_;rintro e w1 ⟨rfl,b1⟩;rw[hv.o];have B1:=qH b1;clear b1;go_wp2_with fail;go_ret2;exact⟨none,0,rfl,qR,by omega,z6V.nil _ _ _ _,B1.o,λh=>absurd h (by omega)⟩
theorem z3E(A:Option Addr)(n c:Nat)(l:Nat->Nat)(W:World)(hn:n<=maxLen)(hl:∀i,l i<=255)(H:z0e W .u8 A n (λi=>(l i:Int)))(f g:Nat->Nat)(hk:kind l n=4):
 Calls prog 280 #[.slice A n c] W (zcD W 0 f g 7):=by
 obtain⟨hv,HL⟩:=qh2 hk hl;clear hk hl;go_enter func280,ntmps280;go_wp2_with fail;refine(z1j A n c l _ hn HL.o H).mono ?_;rintro e w1 ⟨rfl,b1⟩;rw[hv.o];have B1:=qH b1;clear b1;go_wp2_with fail;go_ret2;exact⟨none,0,rfl,qR,by omega,z6V.nil _ _ _ _,B1.o,λh=>absurd h (by omega)⟩
theorem z5S(A:Option Addr)(n c:Nat)(l:Nat->Nat)(W:World)(hl:∀i,l i<=255)(H:z0e W .u8 A n (λi=>(l i:Int)))(hm:May l n)(hw:z02 l n<=32768)(K:Nat)(hk:kind l n=K)(k5:K≠5)(k4:K≠4):
 Calls prog 280 #[.slice A n c] W (zcD W n (cod l n) l 0):=by
 have hz:=z14;have h320:=hm.1;obtain⟨hv,HL,HM,HW⟩:=qh4 hk hl hm hw;have HN:=qH (show n<=maxLen by unfold maxLen;omega);have HC:=qH (show ∀s,s<16->c0 l n s<=320 from λs _=>qK (z6Q l n s) hm.1);have d5:((K:Int)==5)=false:=(by rw[qN];omega);have d4:((K:Int)==4)=false:=(by rw[qN];omega);have HH:=qH H;clear hk hl hm hw k5 k4 H;go_enter func280,ntmps280;go_wp2_with fail;refine(z1j A n c l _ HN.o HL.o HH.o).mono ?_;rintro e w1 ⟨rfl,b1⟩;rw[hv.o];have B1:=qH b1;have H1:=qH (HH.o.below b1);clear b1;go_wp2_with fail;refine(z0K A n c l _ HM.o H1.o).mono ?_;rintro e w2 ⟨rfl,b2⟩;have B2:=qbt B1 b2;clear b2;go_wp2_with fail;refine(z9b (c0 l n) _ HC.o).mono ?_;rintro e w3 ⟨rfl,b3⟩;have B3:=qbt B2 b3;clear b3;have hmk:=λw=>z7J w n (by omega)
 go_wp2_with (refine z0w rfl _ _ rfl _ (fs (c0 l n)) rfl rfl ?_);clear hz hmk
 go_loopw [22] (λi wr=> ∃k:Nat,k<=n/\i=.int .i64 k/\Tb wr w3.heap.size (λs=>fs (c0 l n) s+c0 l k s)/\Crow wr (w3.heap.size+1) n (λj=>if j<k then cod l n j else 0) (λj=>if j<k then l j else 0)/\Below W.heap.size W wr) (λi _=>n - (intOf i).toNat)
 case atStart=>
  refine⟨0,qZ,rfl,?_,?_,(B3.o.alloc B3.o.size _).alloc (by have:=B3.o.size;simp;omega) _⟩
  · exact((Tb.made w3 (fs (c0 l n))).alloc _).congr (λi hi=>by unfold c0;simp[cnt])
  · have h:=Crow.made (w3.alloc (.cells (TV (fs (c0 l n))) 372)) n
    rw[show(w3.alloc (.cells (TV (fs (c0 l n))) 372)).heap.size=w3.heap.size+1 by simp] at h;exact h.congr (λi hi=>by simp) (λi hi=>by simp)
 case round=>
  obtain⟨k,hkn,rfl,ht,hr,hb⟩:=hrel;by_cases hlt:k<n
  · obtain⟨b,o,rfl,hbs,hc⟩:=HH.o (by omega)
    have h15:=HM.o.2 k hlt;have hcell:wr.cell? ⟨b,o+k,none⟩=some (.int .u8 (l k)):=(hb.cell hbs).trans (hc k hlt);have hf1:=hr.frozen (k*2);have hf2:=hr.frozen (k*2+1);have hr1:=hr.cell1 hlt;have hr2:=hr.cell2 hlt;have hfl:=zhn (c:=c0 l n) h15 (by rw[z0m l n HM.o.2];exact HW.o);have hcm:=z4P l (l k) (Nat.le_of_lt hlt);have hpw:2^l k<=2^15:=Nat.pow_le_pow_right (by omega) h15;by_cases h0:l k=0
    · have HT:=qH ht
      obtain⟨HR,HB,H0⟩:=qh3 hr hb h0;rw[h0] at hcell;clear ht hr hb hc hfl hcm hpw h0 hr1 hr2 hf1 hf2;go_wp2_with fail;go_roundw
      case rel=>
       refine⟨k+1,by omega,by go_num,HT.o.congr (λi hi=> ?_),HR.o.congr (λi hi=> ?_) (λi hi=> ?_),HB.o⟩
       · unfold c0
         by_cases e:i=0
         · rw[if_pos e,if_pos e]
         · rw[if_neg e,if_neg e]
           simp only[cnt];rw[if_neg (by rw[H0.o];exact λq=>e q.symm)];rfl
       · by_cases e:i<k
         · rw[if_pos e,if_pos (by omega)]
         · rw[if_neg e]
           by_cases e2:i<k+1
           · obtain rfl:i=k:=by omega
             rw[if_pos e2];unfold cod;rw[if_pos H0.o]
           · rw[if_neg e2]
       · by_cases e:i<k
         · rw[if_pos e,if_pos (by omega)]
         · rw[if_neg e]
           by_cases e2:i<k+1
           · obtain rfl:i=k:=by omega
             rw[if_pos e2,H0.o]
           · rw[if_neg e2]
      case measure=>simp[intOf];omega
    · have hk1:(if k<k then cod l n k else 0)=0:=if_neg (Nat.lt_irrefl _)
      have hk2:(if k<k then l k else 0)=0:=if_neg (Nat.lt_irrefl _);rw[hk1] at hr1;rw[hk2] at hr2;have hfr:=ht.frozen (l k);have hcl:=ht.cell (show l k<16 by omega);have hcode:cod l n k=fs (c0 l n) (l k)+c0 l k (l k):=(by unfold cod c0;rw[if_neg h0,if_neg h0]);have e1:c0 l n (l k)=cnt l (l k) n:=(by unfold c0;rw[if_neg h0]);have e2:c0 l k (l k)=cnt l (l k) k:=(by unfold c0;rw[if_neg h0]);rw[<-hcode] at hcl;have hcs:cod l n k<=32768:=(by omega);obtain⟨x,hx⟩:∃x,l k=x:=⟨_,rfl⟩
      obtain⟨y,hy⟩:∃y,cod l n k=y:=⟨_,rfl⟩
      have h0':((x:Int)==0)=false:=(by rw[qN];omega);rw[hx] at hcell hcl hfr h15;rw[hy] at hcs hcl;obtain⟨HT,HR,HB,H0,HX,HY,HCD⟩:=qh7 ht hr hb h0 hx hy hcode;clear ht hr hb hc hfl hcm hpw h0 hx hy hcode e1 e2 hk1 hk2;go_wp2_with fail;go_roundw
      case rel=>
       refine⟨k+1,by omega,by go_num,?_,?_,(((HB.o.setCell (by have:=B3.o.size;simp;omega) _).setCell (by have:=B3.o.size;simp;omega) _).setCell (by have:=B3.o.size;simp;omega) _)⟩
       · refine((((HT.o.other (by simp) _).other (by simp) _).set x (y+1))).congr (λi hi=> ?_)
         have hck:∀j,c0 l (k+1) j=c0 l k j+if j=x then 1 else 0:=λj=>by
          have hx:=HX.o;unfold c0;by_cases e:j=0
          · have e':¬j=x:=by have:=H0.o;omega
            rw[if_pos e,if_pos e,if_neg e']
          · rw[if_neg e,if_neg e]
            simp only[cnt];rw[hx];by_cases e':j=x
            · rw[if_pos e',if_pos e'.symm]
            · rw[if_neg e',if_neg (λq=>e' q.symm)]
         rw[hck];by_cases e:i=x
         · rw[if_pos e,if_pos e,e]
           have h1:=HCD.o;rw[HX.o,HY.o] at h1;omega
         · rw[if_neg e,if_neg e];rfl
       · refine((HR.o.set k y x).other (by simp) _).congr (λi hi=> ?_) (λi hi=> ?_)
         · by_cases e:i=k
           · rw[if_pos e,if_pos (by omega),e,HY.o]
           · rw[if_neg e]
             by_cases e2:i<k
             · rw[if_pos e2,if_pos (by omega)]
             · rw[if_neg e2,if_neg (by omega)]
         · by_cases e:i=k
           · rw[if_pos e,if_pos (by omega),e,HX.o]
           · rw[if_neg e]
             by_cases e2:i<k
             · rw[if_pos e2,if_pos (by omega)]
             · rw[if_neg e2,if_neg (by omega)]
      case measure=>simp[intOf];omega
  · obtain rfl:k=n:=by omega
    have HR:=qH (hr.congr (F':=cod l k) (G':=l) (λi hi=>by rw[if_pos hi]) (λi hi=>by rw[if_pos hi]));have HB:=qH hb;clear ht hr hb;go_wp2_with fail;go_ret2;exact⟨_,_,rfl,qR,by omega,HR.o.cods,HB.o,λ_=>⟨_,rfl,by have:=B3.o.size;omega,HR.o⟩⟩
theorem z3d{l:Nat->Nat}{n:Nat}:(kind l n=5/\erc l n=2/\z32 l n=0)\/(kind l n=4/\erc l n=7/\z32 l n=0)\/(kind l n≠5/\kind l n≠4/\erc l n=0/\z32 l n=n):=by
 by_cases h5:kind l n=5
 · exact .inl ⟨h5,by unfold erc;rw[if_pos h5],by unfold z32 erc;rw[if_pos h5];rfl⟩
 · by_cases h4:kind l n=4
   · exact .inr (.inl ⟨h4,by unfold erc;rw[if_neg h5,if_pos h4],by unfold z32 erc;rw[if_neg h5,if_pos h4];rfl⟩)
   · exact .inr (.inr ⟨h5,h4,by unfold erc;rw[if_neg h5,if_neg h4],by unfold z32 erc;rw[if_neg h5,if_neg h4];rfl⟩)
theorem z5T(A:Option Addr)(n c:Nat)(l:Nat->Nat)(W:World)(hn:n<=maxLen)(hl:∀i,l i<=255)(H:z0e W .u8 A n (λi=>(l i:Int))):
 Calls prog 280 #[.slice A n c] W (zcD W (z32 l n) (cod l n) l (erc l n:Nat)):=by
 rcases z3d (l:=l) (n:=n) with⟨h1,h2,h3⟩|⟨h1,h2,h3⟩|⟨h1,h1',h2,h3⟩
 · rw[h2,h3];exact z4N A n c l W hn hl H _ _ h1
 · rw[h2,h3];exact z3E A n c l W hn hl H _ _ h1
 · rw[h2,h3]
   obtain⟨hm,hw⟩:=z1e h1 h1';exact z5S A n c l W hl H hm hw _ rfl h1 h1'
theorem zdo(x j:Nat)(h:x<=j):2^(j+1 - x)=2*2^(j - x):=by rw[show j+1 - x=(j - x)+1 by omega,Nat.pow_succ];omega
theorem zaq{l:Nat->Nat}{n:Nat}(hm:May l n){g a z:Nat}(hg:z02 l n=g)(ha:nz l n=a)(hz:lst l n=z):
 kind l n=if a=0 then 0 else if 32768<g then 4 else if g=32768 then 2 else if a=1/\z=1 then 1 else 3:=by
 rw[ze1 hm,hg,ha,hz]
theorem rkind_any(A:Option Addr)(n c:Nat)(l:Nat->Nat)(W:World)(hn:n<=maxLen)(hl:∀i,l i<=255)(H:z0e W .u8 A n (λi=>(l i:Int))):
 Calls prog 181 #[.slice A n c] W λe w'=>e=.returned (.int .u8 (kind l n))/\W=w':=by
 have hn':n<=9223372036854775807:=(by unfold maxLen at hn;omega);obtain⟨HL,HH⟩:=qh2 hl H;clear H hn hl;by_cases h320:n<=320
 · go_enter func181,ntmps181
   go_wp2
   go_loop [3,4,5,6] (λg a z i=> ∃k:Nat,k<=n/\i=.int .i64 k/\g=.int .i64 (z02 l k)/\a=.int .i64 (nz l k)/\z=.int .u8 (lst l k)/\Hd (∀j,j<k->l j<=15)) (λ_ _ _ i=>n - (intOf i).toNat)
   case atStart=>exact⟨0,qZ,rfl,rfl,rfl,rfl,qH (λj hj=>by omega)⟩
   case round=>
    obtain⟨k,hkn,rfl,rfl,rfl,rfl,hsm⟩:=hrel;have w1:=z57 l k;have w2:=ziJ l k;have w3:=zfs k hsm.o;obtain⟨g,hg⟩:∃g,z02 l k=g:=⟨_,rfl⟩
    obtain⟨a,ha⟩:∃a,nz l k=a:=⟨_,rfl⟩
    obtain⟨z,hz⟩:∃z,lst l k=z:=⟨_,rfl⟩
    rw[hg] at w1 ⊢;rw[ha] at w2 ⊢;rw[hz] at w3 ⊢;obtain⟨HG,HA,HZ⟩:=qh3 hg ha hz;clear hg ha hz;by_cases hlt:k<n
    · obtain⟨b,o,rfl,hb,hc⟩:=HH.o (by omega)
      have hcell:W.cell? ⟨b,o+k,none⟩=some (.int .u8 (l k)):=hc k hlt;have h255:=HL.o k;generalize hx:l k=x at hcell h255;have HX:=qH hx;clear hc hx;by_cases h15:x<=15
      · by_cases h0:x=0
        · have hx0:((x:Int)==0)=true:=by rw[beq_iff_eq];omega
          have H0:=qH h0;clear h0;go_wp2
          go_round
          case rel=>
           have e0:l k=0:=HX.o.trans H0.o;refine⟨k+1,by omega,by go_num,?_,?_,?_,qH (λj hj=> ?_)⟩
           · simp only[z02];rw[HG.o,e0];rfl
           · simp only[nz];rw[HA.o,if_pos e0];rfl
           · simp only[lst];rw[HZ.o,if_pos e0]
           · by_cases e:j=k
             · rw[e,e0];omega
             · exact hsm.o j (by omega)
          case measure=>simp[intOf];omega
        · have hx0:((x:Int)==0)=false:=by rw[qN];omega
          have H0:=qH h0;clear h0;go_wp2
          go_loop [7,8] (λw j=> ∃m:Nat,x<=m/\m<=15/\j=.int .i64 m/\w=.int .i64 ((2^(m - x):Nat):Int)) (λ_ j=>15 - (intOf j).toNat)
          case atStart=>exact⟨x,qR,h15,rfl,by rw[Nat.sub_self];rfl⟩
          case round=>
           obtain⟨m,hxm,hm15,rfl,rfl⟩:=hrel;have hpw:2^(m - x)<=2^15:=Nat.pow_le_pow_right (by omega) (by omega);have hpn:=qH (zdo x m hxm);generalize hv:2^(m - x)=v at hpw ⊢;have HV:=qH hv;clear hv;by_cases hlm:m<15
           · go_wp2
             go_round
             case rel=>exact⟨m+1,by omega,by omega,by go_num,congrArg (Value.int .i64) (by rw[hpn.o,HV.o];omega)⟩
             case measure=>simp[intOf];omega
           · obtain rfl:m=15:=by omega
             go_wp2
             go_round
             case rel=>
              have e0:¬l k=0:=λq=>H0.o (HX.o▸q)
              refine⟨k+1,by omega,by go_num,?_,?_,?_,qH (λj hj=> ?_)⟩
              · simp only[z02];rw[HG.o];unfold wt;rw[if_neg e0,HX.o,HV.o];go_num
              · simp only[nz];rw[HA.o,if_neg e0];go_num
              · simp only[lst];rw[if_neg e0,HX.o]
              · by_cases e:j=k
                · rw[e,HX.o];exact h15
                · exact hsm.o j (by omega)
             case measure=>simp[intOf];omega
      · have hv:=qH (z1R (l:=l) (n:=n) (λq=>h15 (by rw[<-HX.o];exact q.2 k hlt)))
        go_wp2;go_ret;exact⟨by rw[hv.o];rfl,rfl⟩
    · obtain rfl:k=n:=by omega
      have hk:=zaq ⟨h320,hsm.o⟩ HG.o HA.o HZ.o;by_cases e0:a=0
      · rw[if_pos e0] at hk
        have d0:((a:Int)==0)=true:=(by rw[beq_iff_eq];omega);have HK:=qH hk;clear hk e0;go_wp2;go_ret;exact⟨by rw[HK.o];rfl,rfl⟩
      rw[if_neg e0] at hk;by_cases e1:32768<g
      · rw[if_pos e1] at hk
        have d0:((a:Int)==0)=false:=(by rw[qN];omega);have d1:decide (32768<(g:Int))=true:=q9T (by omega);have HK:=qH hk;clear hk e0;go_wp2;go_ret;exact⟨by rw[HK.o];rfl,rfl⟩
      rw[if_neg e1] at hk;by_cases e2:g=32768
      · rw[if_pos e2] at hk
        have d0:((a:Int)==0)=false:=(by rw[qN];omega);have d1:decide (32768<(g:Int))=false:=qF (by omega);have d2:((g:Int)==32768)=true:=(by rw[beq_iff_eq];omega);have HK:=qH hk;clear hk e0 e2;go_wp2;go_ret;exact⟨by rw[HK.o];rfl,rfl⟩
      rw[if_neg e2] at hk;by_cases e3:a=1
      · by_cases e4:z=1
        · rw[if_pos ⟨e3,e4⟩] at hk
          have d0:((a:Int)==0)=false:=(by rw[qN];omega);have d1:decide (32768<(g:Int))=false:=qF (by omega);have d2:((g:Int)==32768)=false:=(by rw[qN];omega);have d3:((a:Int)==1)=true:=(by rw[beq_iff_eq];omega);have d4:((z:Int)==1)=true:=(by rw[beq_iff_eq];omega);have HK:=qH hk;clear hk e0 e2 e3 e4;go_wp2;go_ret;exact⟨by rw[HK.o];rfl,rfl⟩
        · rw[if_neg (λq=>e4 q.2)] at hk
          have d0:((a:Int)==0)=false:=(by rw[qN];omega);have d1:decide (32768<(g:Int))=false:=qF (by omega);have d2:((g:Int)==32768)=false:=(by rw[qN];omega);have d3:((a:Int)==1)=true:=(by rw[beq_iff_eq];omega);have d4:((z:Int)==1)=false:=(by rw[qN];omega);have HK:=qH hk;clear hk e0 e2 e3 e4;go_wp2;go_ret;exact⟨by rw[HK.o];rfl,rfl⟩
      · rw[if_neg (λq=>e3 q.1)] at hk
        have d0:((a:Int)==0)=false:=(by rw[qN];omega);have d1:decide (32768<(g:Int))=false:=qF (by omega);have d2:((g:Int)==32768)=false:=(by rw[qN];omega);have d3:((a:Int)==1)=false:=(by rw[qN];omega);have HK:=qH hk;clear hk e0 e2 e3;go_wp2;go_ret;exact⟨by rw[HK.o];rfl,rfl⟩
 · have hv:=qH (z1R (l:=l) (n:=n) (λq=>h320 q.1))
   go_enter func181,ntmps181;go_wp2;go_ret;exact⟨by rw[hv.o];rfl,rfl⟩
theorem z3z(A:Option Addr)(n c:Nat)(l:Nat->Nat)(W:World)(hn:n<=maxLen)(hl:∀i,l i<=255)(H:z0e W .u8 A n (λi=>(l i:Int)))(f g:Nat->Nat)(hk:kind l n=5):
 Calls prog 143 #[.slice A n c] W (zcD W 0 f g 2):=by
 obtain⟨hv,HL⟩:=qh2 hk hl;clear hk hl;go_enter func143,ntmps143;go_wp2_with fail;refine(rkind_any A n c l _ hn HL.o H).mono ?_;rintro e w1 ⟨rfl,rfl⟩;rw[hv.o];go_wp2_with fail;go_ret2;exact⟨none,0,rfl,qR,by omega,z6V.nil _ _ _ _,Below.refl _ _,λh=>absurd h (by omega)⟩
theorem z2Z(A:Option Addr)(n c:Nat)(l:Nat->Nat)(W:World)(hn:n<=maxLen)(hl:∀i,l i<=255)(H:z0e W .u8 A n (λi=>(l i:Int)))(f g:Nat->Nat)(hk:kind l n=4):
 Calls prog 143 #[.slice A n c] W (zcD W 0 f g 7):=by
 obtain⟨hv,HL⟩:=qh2 hk hl;clear hk hl;go_enter func143,ntmps143;go_wp2_with fail;refine(rkind_any A n c l _ hn HL.o H).mono ?_;rintro e w1 ⟨rfl,rfl⟩;rw[hv.o];go_wp2_with fail;go_ret2;exact⟨none,0,rfl,qR,by omega,z6V.nil _ _ _ _,Below.refl _ _,λh=>absurd h (by omega)⟩
def dn(l:Nat->Nat)(m k i:Nat):Prop:=l i≠0/\(l i<m\/l i=m/\i<k)
instance (l:Nat->Nat) (m k i:Nat):Decidable (dn l m k i):=inferInstanceAs (Decidable (l i≠0/\(l i<m\/l i=m/\i<k)))
def Fd(l:Nat->Nat)(n m k i:Nat):Nat:=if dn l m k i then cod l n i else 0
def Gd(l:Nat->Nat)(m k i:Nat):Nat:=if dn l m k i then l i else 0
def RN(l:Nat->Nat)(n m k x sz:Nat)(b:Bool):Prop:=
 ∃nx,nx*2^(m - sz)=fs (c0 l n) m+cnt l m k/\sz<=m/\((b=true/\x=nx/\nx=0)\/(b=false/\nx=x+1))
theorem RN.next{l:Nat->Nat}{n m x sz:Nat}{b:Bool}(h:RN l n m n x sz b)(h1:1<=m):RN l n (m+1) 0 x sz b:=by
 obtain⟨nx,e,hs,hb⟩:=h;refine⟨nx,?_,by omega,hb⟩;rw[show m+1 - sz=(m - sz)+1 by omega,Nat.pow_succ,<-Nat.mul_assoc,e];have:c0 l n m=cnt l m n:=(by unfold c0;rw[if_neg (by omega)]);simp only[fs,cnt];rw[this];omega
theorem RN.skip{l:Nat->Nat}{n m k x sz:Nat}{b:Bool}(h:RN l n m k x sz b)(hk:l k≠m):RN l n m (k+1) x sz b:=by
 obtain⟨nx,e,hs,hb⟩:=h;refine⟨nx,?_,hs,hb⟩;simp only[cnt];rw[if_neg hk];exact e
theorem RN.told{l:Nat->Nat}{n m k y:Nat}(hy:y=fs (c0 l n) m+cnt l m k)(hk:l k=m):RN l n m (k+1) y m false:=by
 refine⟨y+1,?_,qR,.inr ⟨rfl,rfl⟩⟩;simp only[cnt];rw[if_pos hk,Nat.sub_self,Nat.pow_zero,Nat.mul_one,hy];omega
theorem RN.start(l:Nat->Nat)(n:Nat):RN l n 1 0 0 0 true:=⟨0,by simp[fs,c0,cnt],by omega,.inl ⟨rfl,rfl,rfl⟩⟩
theorem zbO{l:Nat->Nat}{n m i:Nat}(hi:i<n):dn l (m+1) 0 i↔dn l m n i:=by unfold dn;omega
theorem zbN{l:Nat->Nat}{m k i:Nat}(hk:l k≠m):dn l m (k+1) i↔dn l m k i:=by
 unfold dn;constructor
 · rintro⟨a,b⟩
   refine⟨a,?_⟩;rcases b with b|⟨b,c⟩
   · exact .inl b
   · refine .inr ⟨b,?_⟩
     by_cases e:i=k
     · subst e;exact absurd b hk
     · omega
 · rintro⟨a,b⟩;exact⟨a,by omega⟩
theorem zbM{l:Nat->Nat}{m k i:Nat}(hk:l k=m)(h0:m≠0):dn l m (k+1) i↔(i=k\/dn l m k i):=by
 unfold dn;constructor
 · rintro⟨a,b⟩
   by_cases e:i=k
   · exact .inl e
   · exact .inr ⟨a,by omega⟩
 · rintro(rfl|⟨a,b⟩)
   · exact⟨by omega,.inr ⟨hk,by omega⟩⟩
   · exact⟨a,by omega⟩
theorem zfF{l:Nat->Nat}{i:Nat}(h:l i<=15):dn l 16 0 i↔l i≠0:=by unfold dn;omega
theorem z81(l:Nat->Nat)(i:Nat):¬dn l 1 0 i:=by unfold dn;omega
theorem z4s(A:Option Addr)(n c:Nat)(l:Nat->Nat)(W:World)(hl:∀i,l i<=255)(H:z0e W .u8 A n (λi=>(l i:Int)))(hm:May l n)(hw:z02 l n<=32768)(K:Nat)(hk:kind l n=K)(k5:K≠5)(k4:K≠4):
 Calls prog 143 #[.slice A n c] W (zcD W n (cod l n) l 0):=by
 have h320:=hm.1;obtain⟨hv,HL,HM,HW⟩:=qh4 hk hl hm hw;have HN:=qH (show n<=maxLen by unfold maxLen;omega);have d5:((K:Int)==5)=false:=(by rw[qN];omega);have d4:((K:Int)==4)=false:=(by rw[qN];omega);have HH:=qH H;clear hk hl hm hw k5 k4 H;go_enter func143,ntmps143;go_wp2_with fail;refine(rkind_any A n c l _ HN.o HL.o HH.o).mono ?_;rintro e w1 ⟨rfl,rfl⟩;rw[hv.o];have hmk:=λw=>z7J w n (by omega)
 go_wp2_with fail;clear hmk
 go_loopw [5,6,7,8] (λx s b i wr=> ∃m X S:Nat,∃B:Bool,1<=m/\m<=16/\i=.int .i64 m/\x=.int .u32 X/\s=.int .i64 S/\b=.bool B/\RN l n m 0 X S B/\Crow wr W.heap.size n (Fd l n m 0) (Gd l m 0)/\Below W.heap.size W wr) (λ_ _ _ i _=>16 - (intOf i).toNat)
 case atStart=>
  refine⟨1,0,0,true,qR,by omega,rfl,rfl,rfl,rfl,RN.start l n,?_,qL⟩;exact(Crow.made W n).congr (λi hi=>by unfold Fd;rw[if_neg (z81 l i)]) (λi hi=>by unfold Gd;rw[if_neg (z81 l i)])
 case round=>
  obtain⟨m,X,S,B,hm1,hm16,rfl,rfl,rfl,rfl,hrn,hr,hb⟩:=hrel;obtain⟨HR,HB,HRN⟩:=qh3 hr hb hrn;clear hr hb hrn;by_cases hm15:m<=15
  · go_wp2_with fail
    go_loopw [5,6,7,9] (λx s b i wr=> ∃k X S:Nat,∃B:Bool,k<=n/\i=.int .i64 k/\x=.int .u32 X/\s=.int .i64 S/\b=.bool B/\RN l n m k X S B/\Crow wr W.heap.size n (Fd l n m k) (Gd l m k)/\Below W.heap.size W wr) (λ_ _ _ i _=>n - (intOf i).toNat)
    case atStart=>exact⟨0,X,S,B,qZ,rfl,rfl,rfl,rfl,HRN.o,HR.o,HB.o⟩
    case round=>
     clear HR HB HRN;obtain⟨k,X,S,B,hkn,rfl,rfl,rfl,rfl,hrn,hr,hb⟩:=hrel;by_cases hlt:k<n
     · obtain⟨b,o,rfl,hbs,hc⟩:=HH.o (by omega)
       have hcell:wr.cell? ⟨b,o+k,none⟩=some (.int .u8 (l k)):=(hb.cell hbs).trans (hc k hlt);have h15:=HM.o.2 k hlt;generalize hx:l k=x at hcell h15;have HX:=qH hx;clear hc hx;by_cases hxm:x=m
       · have hsm:((x:Int) !=(m:Int))=false:=by rw[bne_eq_false_iff_eq];omega
         have hf1:=hr.frozen (k*2);have hf2:=hr.frozen (k*2+1);have hr1:=hr.cell1 hlt;have hr2:=hr.cell2 hlt;obtain⟨q1,hq1⟩:∃q,Fd l n m k k=q:=⟨_,rfl⟩
         obtain⟨q2,hq2⟩:∃q,Gd l m k k=q:=⟨_,rfl⟩
         rw[hq1] at hr1;rw[hq2] at hr2;have hrf:=zde HM.o HW.o hm1 hm15 hkn;have hpm:2^m<=2^15:=Nat.pow_le_pow_right (by omega) hm15;have hcd:cod l n k=fs (c0 l n) m+cnt l m k:=(by unfold cod;rw[HX.o,if_neg (by omega),hxm]);obtain⟨nx,e,hs,hbb⟩:=hrn;generalize hV:fs (c0 l n) m+cnt l m k=V at hrf hcd e;have hle:nx<=V:=by
          rw[<-e];exact Nat.le_mul_of_pos_right _ (Nat.two_pow_pos _)
         have hV32:V<=32768:=(by omega);obtain⟨HR,HB,HV,HXM,HCD,HE⟩:=qh6 hr hb hV hxm hcd e;clear hr hb hV hxm hcd e hrf hpm hq1 hq2;rcases hbb with⟨rfl,rfl,h0⟩|⟨rfl,rfl⟩
         case' inl=>clear h0
         all_goals (
          go_wp2_with fail
          go_loop [5,6] (λy j=> ∃J Y:Nat,S<=J/\J<=m/\j=.int .i64 J/\y=.int .u32 Y/\Hd (Y*2^(m - J)=V)) (λ_ j=>m - (intOf j).toNat)
          case atStart=>exact⟨S,_,qR,hs,rfl,by first|rfl|go_num,HE⟩
          case round=>
           obtain⟨J,Y,hSJ,hJm,rfl,rfl,hY⟩:=hrel;have hYle:Y<=V:=by
            rw[<-hY.o];exact Nat.le_mul_of_pos_right _ (Nat.two_pow_pos _)
           by_cases hJ:J<m
           · have hnext:2*Y*2^(m - (J+1))=V:=by
              have:=hY.o;rw[show m - J=(m - (J+1))+1 by omega,Nat.pow_succ] at this;rw[<-this,Nat.mul_comm 2 Y,Nat.mul_assoc,Nat.mul_comm 2]
             have hY2:2*Y<=V:=by
              rw[<-hnext];exact Nat.le_mul_of_pos_right _ (Nat.two_pow_pos _)
             have HN2:=qH hnext;clear hnext;go_wp2_with fail
             go_round
             case rel=>exact⟨J+1,2*Y,by omega,by omega,by go_num,by go_num,HN2⟩
             case measure=>simp[intOf];omega
           · obtain rfl:J=m:=by omega
             have hYV:Y=V:=by
              have:=hY.o
              rwa [Nat.sub_self,Nat.pow_zero,Nat.mul_one] at this
             subst hYV;go_wp2_with fail;go_roundw
             case rel=>
              refine⟨k+1,Y,J,false,by omega,by go_num,rfl,rfl,rfl,RN.told HV.o.symm (HX.o.trans HXM.o),?_,(HB.o.setCell (by simp) _).setCell (by simp) _⟩;refine(HR.o.set k Y x).congr (λi hi=> ?_) (λi hi=> ?_)
              · have hd:=zbM (i:=i) (HX.o.trans HXM.o) (by omega)
                unfold Fd;by_cases e:i=k
                · rw[if_pos e,if_pos (hd.2 (.inl e)),e,HCD.o]
                · rw[if_neg e]
                  by_cases e2:dn l J k i
                  · rw[if_pos e2,if_pos (hd.2 (.inr e2))]
                  · rw[if_neg e2,if_neg (λq=>by rcases hd.1 q with q|q;exact e q;exact e2 q)]
              · have hd:=zbM (i:=i) (HX.o.trans HXM.o) (by omega)
                unfold Gd;by_cases e:i=k
                · rw[if_pos e,if_pos (hd.2 (.inl e)),e,HX.o]
                · rw[if_neg e]
                  by_cases e2:dn l J k i
                  · rw[if_pos e2,if_pos (hd.2 (.inr e2))]
                  · rw[if_neg e2,if_neg (λq=>by rcases hd.1 q with q|q;exact e q;exact e2 q)]
             case measure=>simp[intOf];omega)
       · have hsm:((x:Int) !=(m:Int))=true:=by rw[bne_iff_ne];omega
         obtain⟨HR,HB,HRN,HXM⟩:=qh4 hr hb hrn hxm;clear hr hb hrn hxm;go_wp2_with fail;go_roundw
         case rel=>
          have hne:l k≠m:=(by rw[HX.o];exact HXM.o);refine⟨k+1,X,S,B,by omega,by go_num,rfl,rfl,rfl,HRN.o.skip hne,HR.o.congr (λi hi=> ?_) (λi hi=> ?_),HB.o⟩
          · unfold Fd;simp only[zbN hne]
          · unfold Gd;simp only[zbN hne]
         case measure=>simp[intOf];omega
     · obtain rfl:k=n:=by omega
       obtain⟨HR,HB,HRN⟩:=qh3 hr hb hrn;clear hr hb hrn;go_wp2_with fail;go_roundw
       case rel=>
        refine⟨m+1,X,S,B,by omega,by omega,by go_num,rfl,rfl,rfl,HRN.o.next hm1,HR.o.congr (λi hi=> ?_) (λi hi=> ?_),HB.o⟩
        · unfold Fd;simp only[zbO hi]
        · unfold Gd;simp only[zbO hi]
       case measure=>simp[intOf];omega
  · obtain rfl:m=16:=by omega
    have HR2:=qH (HR.o.congr (F':=cod l n) (G':=l) (λi hi=>by
     unfold Fd;by_cases e:l i=0
     · rw[if_neg (λq=>q.1 e)];unfold cod;rw[if_pos e]
     · rw[if_pos ((zfF (HM.o.2 i hi)).2 e)]) (λi hi=>by
     unfold Gd;by_cases e:l i=0
     · rw[if_neg (λq=>q.1 e),e]
     · rw[if_pos ((zfF (HM.o.2 i hi)).2 e)]))
    go_wp2_with fail;go_ret2;exact⟨_,_,rfl,qR,by omega,HR2.o.cods,HB.o,λ_=>⟨_,rfl,qR,HR2.o⟩⟩
theorem rcodes_any(A:Option Addr)(n c:Nat)(l:Nat->Nat)(W:World)(hn:n<=maxLen)(hl:∀i,l i<=255)(H:z0e W .u8 A n (λi=>(l i:Int))):
 Calls prog 143 #[.slice A n c] W (zcD W (z32 l n) (cod l n) l (erc l n:Nat)):=by
 rcases z3d (l:=l) (n:=n) with⟨h1,h2,h3⟩|⟨h1,h2,h3⟩|⟨h1,h1',h2,h3⟩
 · rw[h2,h3];exact z3z A n c l W hn hl H _ _ h1
 · rw[h2,h3];exact z2Z A n c l W hn hl H _ _ h1
 · rw[h2,h3]
   obtain⟨hm,hw⟩:=z1e h1 h1';exact z4s A n c l W hl H hm hw _ rfl h1 h1'
