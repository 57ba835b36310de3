/- Texts of one place, one behind the other: PkE, PkF, PkG, CnA, CnB, PkM, LwA, OwI, RfN, RfS, RfT, CdR, CdC, CdF, CdG. -/
import Derived.Test.YtacelhaidcmbcaaGreatDoorTMThg
import Derived.Laws.EntriesVeiled
import Derived.Test.YtacelhaidcmbcaaGreatDoorProg
import Derived.Test.YtacelhaidcmbcaaGreatDoorTMMathT
import Derived.WalkKit
import Derived.Lib.Hide
import Derived.IntWalk
import Derived.Lib.Strings
import Derived.Lib.Walk
import Derived.Lib.BitFns
import Derived.RegionTactic
import Derived.BigRegion
import Derived.Deep.QuietTactic
import Derived.BigQuiet
import Derived.ChangeSlices
import Derived.Deep.Slices
import Derived.Laws.MakeOwn
set_option maxHeartbeats 8000000
set_option maxRecDepth 1000000
set_option linter.unusedVariables false
namespace Go.Proofs.YtacelhaidcmbcaaGreatDoor
open Go.Lib (hid)
open Go.RowKit M
def Br(w:World)(g n:Nat)(f:Nat→Nat):Prop:=w.rowIs g 5 n (fun i=> .int .u8 (f i))
section
variable {w w':World} {g n:Nat} {f f':Nat→Nat}
theorem Br.lt(h:Br w g n f):g<w.heap.size:=World.rowIs.lt h
theorem Br.at'(h:Br w g n f)(q:w'.heap[g]? =w.heap[g]?):Br w' g n f:=World.rowIs.of_block h q
theorem Br.alloc(h:Br w g n f)(o:Obj):Br (w.alloc o) g n f:=World.rowIs.alloc h o
theorem Br.drew(h:Br w g n f):Br w.drew g n f:=h
theorem Br.other(h:Br w g n f){a:Addr}(ha:g≠a.block)(v:Value):Br (w.setCell a v) g n f:=World.rowIs.setOther h ha v
theorem Br.below(h:Br w g n f){B:Nat}(hb:Below B w w')(hB:g<B):Br w' g n f:=h.at' (hb.block g hB)
theorem Br.congr(h:Br w g n f)(e:∀i,i<n→f i=f' i):Br w g n f':=World.rowIs.congr h (fun i hi=>by rw[e i hi])
theorem Br.cell(h:Br w g n f){i:Nat}(hi:i<n):w.cell? ⟨g,i,none⟩=some (.int .u8 (f i)):=World.rowIs.cell h hi
theorem Br.frozen(h:Br w g n f)(i:Nat):w.frozen? ⟨g,i,none⟩=false:=World.rowIs.frozen h i
theorem Br.set(h:Br w g n f)(i x:Nat):Br (w.setCell ⟨g,i,none⟩ (.int .u8 x)) g n (fun j=>if j=i then x else f j):=
 World.rowIs.congr (World.rowIs.set h i (.int .u8 x)) (fun j hj=>by by_cases e:j=i<;>simp[e])
theorem Br.made'(w:World)(n:Nat):Br (w.alloc (.cells (madeCells #[.int .u8 0] n) 5)) w.heap.size n (fun _=>0):=World.rowIs_made w (.int .u8 0) n 5
theorem Br.nums(h:Br w g n f):z09 w .u8 (some ⟨g,0,none⟩) n (fun i=>(f i:Int)):=fun hn=>
 ⟨g,0,rfl,h.lt,fun i hi=>by rw[Nat.zero_add];exact h.cell hi⟩
end
def z9E(n:Nat):Th→Prop
 |.lf _ s=>s<n
 |.pk x y=>z9E n x∧z9E n y
theorem z8w.write{w w':World}{base g:Nat}{t:Th}{p:Option Addr}(h:z8w w base t p)(hk:Kept (One g) w w')(hg:g<base):z8w w' base t p:=
 h.kept (fun k hb hl=>hk.block k hl (fun e=>by have:k=g:=e;omega)) hk.size
def z7L(f:Nat→Nat)(t:Th)(s:Nat):Nat:=(f s+t.cn s)%256
def At3(i:Value)(p q r:Prop):Prop:=(i=.int .i64 0∧p)∨(i=.int .i64 1∧q)∨(i=.int .i64 2∧r)
theorem z7i(bl ba g n base:Nat)(hn:n≤400)(hgb:g<base)(h1:bl≠g)(h2:ba≠g):∀ (t:Th) (p:Option Addr) (f:Nat→Nat) (W:World),z8w W base t p→z9E n t→t.wt<18446744073709551616→(∀i,f i<256)→Br W g n f→
 W.cell? ⟨bl,0,none⟩=some (.slice (some ⟨g,0,none⟩) n n)→W.cell? ⟨ba,0,none⟩=some (.func (.func 166) #[] #[.pointer (some ⟨bl,0,none⟩),.pointer (some ⟨ba,0,none⟩)])→
 Calls Tryz.prog 166 #[.agg #[.int .u64 t.wt,.int .i64 t.sy,.pointer p],.pointer (some ⟨bl,0,none⟩),.pointer (some ⟨ba,0,none⟩)] W fun x w'=>x=.returned (.tuple #[])∧Br w' g n (z7L f t)∧Kept (One g) W w'
 |.lf a s,p,f,W,hu,hs,hw,hf,hb,c1,c2=>by
  have hp:p=none:=hu;subst hp;have hsn:s<n:=hs;have hc:=hb.cell hsn;have hfr:=hb.frozen s;have hlt:=hb.lt;have hfs:=hf s;have bl1:=qB c1;have e:∀y:Nat,(((y+1)%256:Nat):Int)=((y:Int)+1)%256:=fun y=>by omega
  have HB:=hid (((hb.set s ((f s+1)%256)).alloc (.cells #[.int .u64 a,.int .i64 s,.pointer none] 238)).congr (f':=z7L f (.lf a s)) (fun i _=>by
   unfold z7L;simp only[Th.cn];by_cases e:i=s
   · rw[if_pos e,if_pos e.symm,e]
   · rw[if_neg e,if_neg (fun q=>e q.symm),Nat.add_zero,Nat.mod_eq_of_lt (hf i)]))
  have HK:=hid (((Kept.refl (One g) W).setCell ⟨g,s,none⟩ (.inl rfl) (.int .u8 (((f s+1)%256:Nat):Int))).alloc (.cells #[.int .u64 a,.int .i64 s,.pointer none] 238));obtain⟨x,hx⟩:∃x,f s=x:=⟨_,rfl⟩
  rw[hx] at hc hfs HB HK;rw[e x] at HB HK;clear hx hb hf hu hs e;go_enter Tryz.func166,Tryz.ntmps166;simp only[Th.wt,Th.sy];go_wp2_with fail;refine bodyPost_ret (results_none rfl _ _ _) rfl ?_
  exact⟨rfl,HB.out,HK.out⟩
 |.pk x y,p,f,W,hu,hs,hw,hf,hb,c1,c2=>by
  obtain⟨gp,o,px,py,rfl,b1,b2,⟨x1,x2,x3⟩,⟨y1,y2,y3⟩,hx,hy⟩:=hu;have IX:=hid (fun f W=>z7i bl ba g n base hn hgb h1 h2 x px f W);have IY:=hid (fun f W=>z7i bl ba g n base hn hgb h1 h2 y py f W);have HSY:=hid (show z9E n x∧z9E n y from hs);have HWT:=hid (show x.wt<18446744073709551616∧y.wt<18446744073709551616 by simp only[Th.wt] at hw;omega);obtain⟨q,hq⟩:∃q,(x.pk y).wt=q:=⟨_,rfl⟩
  have HEND:=hid (show ∀s,z7L (z7L f x) y s=z7L f (x.pk y) s from fun s=>by
   unfold z7L;simp only[Th.cn];rw[Nat.mod_add_mod,Nat.add_assoc])
  have H0:=hid (hb.alloc (.cells #[.int .u64 q,.int .i64 0,.pointer (some ⟨gp,o,none⟩)] 238));clear hs hw hb;go_enter Tryz.func166,Tryz.ntmps166;rw[hq,show(((Th.pk x y).sy:Nat):Int)=0 from rfl];clear hq;go_wp2_with fail
  go_loopw [19] (fun i wr=>At3 i (Br wr g n f) (Br wr g n (z7L f x)) (Br wr g n (z7L (z7L f x) y))∧Kept (One g) W wr) (fun i _=>2 - (intOf i).toNat)
  case atStart=>exact⟨.inl ⟨rfl,H0.out⟩,(Kept.refl _ _).alloc _⟩
  case round=>
   obtain⟨hl,hk⟩:=hrel;rcases hl with⟨rfl,hl⟩|⟨rfl,hl⟩|⟨rfl,hl⟩
   · have HL:=hid hl
     have HK:=hid hk;have ng:¬One g gp:=fun e=>by have:gp=g:=e;omega
     have z1:=hk.cell x1 ng;have z2:=hk.cell x2 ng;have z3:=hk.cell x3 ng;have d1:=hk.cell c1 h1;have d2:=hk.cell c2 h2;have HU:=hid ((hx.write hk hgb).below ((Below.refl wr.heap.size wr).alloc qR (.cells #[.int .u64 x.wt,.int .i64 x.sy,.pointer px] 238)));have D1:=hid ((((Below.refl wr.heap.size wr).alloc qR (.cells #[.int .u64 x.wt,.int .i64 x.sy,.pointer px] 238)).cell (qB d1)).trans d1);have D2:=hid ((((Below.refl wr.heap.size wr).alloc qR (.cells #[.int .u64 x.wt,.int .i64 x.sy,.pointer px] 238)).cell (qB d2)).trans d2);have L1:=hid (hl.alloc (.cells #[.int .u64 x.wt,.int .i64 x.sy,.pointer px] 238));have d1l:=qB d1;have d2l:=qB d2;have HF:=hid (hf);clear hl hk ng;go_wp2_with fail;refine(IX.out f _ HU.out HSY.out.1 HWT.out.1 HF.out L1.out D1.out D2.out).mono ?_;rintro e w1 ⟨rfl,l1,k1⟩;have R1:=hid l1;have K1:=hid (((HK.out.alloc _).trans k1 (fun _ h=> .inl h)));clear l1 k1;go_wp2_with fail;go_roundw
     case rel=>exact⟨.inr (.inl ⟨rfl,R1.out⟩),K1.out⟩
     case measure=>simp[intOf]
   · have HL:=hid hl
     have HK:=hid hk;have ng:¬One g gp:=fun e=>by have:gp=g:=e;omega
     have z1:=hk.cell y1 ng;have z2:=hk.cell y2 ng;have z3:=hk.cell y3 ng;have d1:=hk.cell c1 h1;have d2:=hk.cell c2 h2;have HU:=hid ((hy.write hk hgb).below ((Below.refl wr.heap.size wr).alloc qR (.cells #[.int .u64 y.wt,.int .i64 y.sy,.pointer py] 238)));have D1:=hid ((((Below.refl wr.heap.size wr).alloc qR (.cells #[.int .u64 y.wt,.int .i64 y.sy,.pointer py] 238)).cell (qB d1)).trans d1);have D2:=hid ((((Below.refl wr.heap.size wr).alloc qR (.cells #[.int .u64 y.wt,.int .i64 y.sy,.pointer py] 238)).cell (qB d2)).trans d2);have L1:=hid (hl.alloc (.cells #[.int .u64 y.wt,.int .i64 y.sy,.pointer py] 238));have d1l:=qB d1;have d2l:=qB d2;have HF:=hid (show ∀i,z7L f x i<256 from fun i=>Nat.mod_lt _ (by omega));clear hl hk ng;go_wp2_with fail;refine(IY.out (z7L f x) _ HU.out HSY.out.2 HWT.out.2 HF.out L1.out D1.out D2.out).mono ?_;rintro e w1 ⟨rfl,l1,k1⟩;have R1:=hid l1;have K1:=hid (((HK.out.alloc _).trans k1 (fun _ h=> .inl h)));clear l1 k1;go_wp2_with fail;go_roundw
     case rel=>exact⟨.inr (.inr ⟨rfl,R1.out⟩),K1.out⟩
     case measure=>simp[intOf]
   · have HL:=hid hl
     have HK:=hid hk;clear hl hk;go_wp2_with fail;go_end0;exact⟨rfl,HL.out.congr (fun i _=>HEND.out i),HK.out⟩
def z3J(f:Nat→Nat)(X:List Tp)(s:Nat):Nat:=(f s+ct s (X.map (·.1)))%256
theorem z8Z{f:Nat→Nat}{X:List Tp}{i:Nat}{x:Tp}(h:X[i]? =some x)(s:Nat):z7L (z3J f (X.take i)) x.1 s=z3J f (X.take (i+1)) s:=by
 unfold z7L z3J;rw[List.take_add_one,h,Nat.mod_add_mod,List.map_append,z12];simp only[Option.toList_some,List.map_cons,List.map_nil,ct];rw[Nat.add_zero,Nat.add_assoc]
theorem z5n(g n base q c:Nat)(A:Option Addr)(X:List Tp)(f:Nat→Nat)(W:World)(hn:n≤400)(hgb:g<base)(hq:X.length=q)(hq2:q≤1000)(hx:∀b o,A=some ⟨b,o,none⟩→b≠g)(hs:∀x∈X,z9E n x.1)(hw:∀x∈X,x.1.wt<18446744073709551616)(hf:∀i,f i<256)(HX:z0p W base A X)(hb:Br W g n f):
 Calls Tryz.prog 147 #[.slice (some ⟨g,0,none⟩) n n,.slice A q c] W fun x w'=>x=.returned (.tuple #[])∧Br w' g n (z3J f X)∧Kept (One g) W w':=by
 have HQ:=hid hq;have HH:=hid HX;have HS:=hid hs;have HW:=hid hw;have HF:=hid hf;have HA:=hid hx;have HB:=hid hb;have glt:=hb.lt;clear hq HX hs hw hf hx hb;go_enter Tryz.func147,Tryz.ntmps147;go_wp2_with fail
 go_loopw [10] (fun i wr=> ∃k:Nat,k≤q∧i=.int .i64 k∧wr.cell? ⟨W.heap.size,0,none⟩=some (.slice (some ⟨g,0,none⟩) n n)∧wr.cell? ⟨W.heap.size+1,0,none⟩=some (.func (.func 166) #[] #[.pointer (some ⟨W.heap.size,0,none⟩),.pointer (some ⟨W.heap.size+1,0,none⟩)])∧Hid (Br wr g n (z3J f (X.take k))∧Kept (One g) W wr)) (fun i _=>q - (intOf i).toNat)
 case atStart=>
  refine⟨0,qZ,rfl,by simp,by simp,hid ⟨((HB.out.alloc _).alloc _).congr (fun i _=> ?_),((Kept.refl _ _).alloc _).alloc _⟩⟩;unfold z3J;simp only[List.take_zero,List.map_nil,ct,Nat.add_zero];rw[Nat.mod_eq_of_lt (HF.out i)]
 case round=>
  obtain⟨k,hk,rfl,c1,c2,HI⟩:=hrel;by_cases hlt:k<q
  · have hxq:=HQ.out
    obtain⟨b,o,rfl,hbs,ht⟩:=HH.out.1 (by omega);obtain⟨x,hx⟩:∃x,X[k]? =some x:=⟨_,qE (show k<X.length by omega)⟩
    obtain⟨x1,x2,x3⟩:=ht.one hx;have ng:¬One g b:=fun e=>HA.out b o rfl e
    have x1:=HI.out.2.cell x1 ng;have x2:=HI.out.2.cell x2 ng;have x3:=HI.out.2.cell x3 ng;have hm:=List.mem_of_getElem? hx;have d1l:=qB c1;have d2l:=qB c2;have hne1:W.heap.size≠g:=by omega
    have hne2:W.heap.size+1≠g:=by omega
    have ba:=(Below.refl wr.heap.size wr).alloc qR (.cells #[.int .u64 x.1.wt,.int .i64 x.1.sy,.pointer x.2] 238);have HU:=hid (((HH.out.2 x hm).write HI.out.2 hgb).below ba);have D1:=hid ((ba.cell d1l).trans c1);have D2:=hid ((ba.cell d2l).trans c2);have L1:=hid (HI.out.1.alloc (.cells #[.int .u64 x.1.wt,.int .i64 x.1.sy,.pointer x.2] 238));have HFF:=hid (show ∀i,z3J f (X.take k) i<256 from fun i=>Nat.mod_lt _ (by omega));have SX:=hid (HS.out x hm);have WX:=hid (HW.out x hm);have XX:=hid hx;clear ht hx hm ba ng hxq;go_wp2_with fail;refine(z7i W.heap.size (W.heap.size+1) g n base hn hgb hne1 hne2 x.1 x.2 _ _ HU.out SX.out WX.out HFF.out L1.out D1.out D2.out).mono ?_;rintro e w1 ⟨rfl,l1,k1⟩;have g1:=k1.cell D1.out hne1;have g2:=k1.cell D2.out hne2;have R1:=hid (l1.congr (fun i _=>z8Z XX.out i));have K1:=hid (((HI.out.2.alloc _).trans k1 (fun _ h=> .inl h)));clear l1 k1 c1 c2;go_wp2_with fail;go_roundw
    case rel=>exact⟨k+1,by omega,by go_num,g1,g2,hid ⟨R1.out,K1.out⟩⟩
    case measure=>simp[intOf];omega
  · obtain rfl:k=q:=by omega
    have HE:=hid (show ∀s,z3J f (X.take k) s=z3J f X s from fun s=>by rw[List.take_of_length_le (by rw[HQ.out];exact qR)]);go_wp2_with fail;go_end0;exact⟨rfl,HI.out.1.congr (fun i _=>HE.out i),HI.out.2⟩
def bl(x:Nat):Nat:=if x=0 then 0 else Nat.log2 x+1
theorem zej{x k:Nat}:bl x≤k↔x<2^k:=by
 unfold bl;by_cases h:x=0
 · rw[if_pos h,h];exact⟨fun _=>Nat.two_pow_pos _,fun _=>qZ⟩
 · rw[if_neg h]
   exact Nat.log2_lt h
def nds(n:Nat):Nat:=if n=0 then 0 else max 1 (bl (n - 1))
theorem z1d{n k:Nat}(h0:1≤k):nds n≤k↔n≤2^k:=by
 unfold nds;by_cases h:n=0
 · rw[if_pos h,h];exact⟨fun _=>qZ,fun _=>qZ⟩
 · rw[if_neg h]
   have:= @zej (n - 1) k;constructor
   · intro g;have:=this.1 (by omega);omega
   · intro g;have:=this.2 (by omega);omega
theorem z1g(y:Int)(h0:0≤y)(h1:y≤255){hh:y.toNat<Lib.len8tab.size}:((Lib.len8tab[y.toNat]'hh).toNat:Int)=(Lib.bitLen y.toNat:Int):=by
 rw[←Lib.len8_of y h0 h1];unfold Lib.len8;rw[ByteArray.getElem?_lt' _ _ hh,Option.getD_some]
theorem z1G(k:Nat)(x y:Int)(hk:k≤56)(h0:0≤y)(h1:y≤255)(hb:Lib.bitLen x.toNat=k+Lib.bitLen y.toNat):wrap64 ((k:Int)+wrap64 (Lib.bitLen y.toNat:Int))=(Lib.bitLen x.toNat:Int):=by
 have l:=Lib.bitLen_le8' y h0 h1;rw[IntWalk.wrap64_in (Lib.bitLen y.toNat:Int) (by omega),IntWalk.wrap64_in _ (by omega),hb];omega
theorem zbi(x:Int)(w:World)(h0:0≤x)(h1:x≤1099511627776):Calls Tryz.prog 182 #[.int .u64 x] w fun e w'=>e=.returned (.int .i64 (Lib.bitLen x.toNat))∧w'=w:=by
 go_enter Tryz.func182,Tryz.ntmps182;go_wp2
 all_goals first
  |(go_ret
    refine⟨congrArg (fun q=>Ending.returned (.int .i64 q)) ?_,rfl⟩
    first
     |(rw[z1g (x/4294967296/65536/256) (by omega) (by omega)]
       exact z1G 56 x _ (by omega) (by omega) (by omega) ((Lib.bitLen_shift56 x.toNat (by omega) (by omega)).trans (by congr 2;omega)))
     |(rw[z1g (x/4294967296/65536) (by omega) (by omega)]
       exact z1G 48 x _ (by omega) (by omega) (by omega) ((Lib.bitLen_shift48 x.toNat (by omega) (by omega)).trans (by congr 2;omega)))
     |(rw[z1g (x/4294967296/256) (by omega) (by omega)]
       exact z1G 40 x _ (by omega) (by omega) (by omega) ((Lib.bitLen_shift40 x.toNat (by omega) (by omega)).trans (by congr 2;omega)))
     |(rw[z1g (x/4294967296) (by omega) (by omega)]
       exact z1G 32 x _ (by omega) (by omega) (by omega) ((Lib.bitLen_shift32 x.toNat (by omega) (by omega)).trans (by congr 2;omega)))
     |(rw[z1g (x/65536/256) (by omega) (by omega)]
       exact z1G 24 x _ (by omega) (by omega) (by omega) ((Lib.bitLen_shift24 x.toNat (by omega) (by omega)).trans (by congr 2;omega)))
     |(rw[z1g (x/65536) (by omega) (by omega)]
       exact z1G 16 x _ (by omega) (by omega) (by omega) ((Lib.bitLen_shift16 x.toNat (by omega) (by omega)).trans (by congr 2;omega)))
     |(rw[z1g (x/256) (by omega) (by omega)]
       exact z1G 8 x _ (by omega) (by omega) (by omega) ((Lib.bitLen_shift8 x.toNat (by omega) (by omega)).trans (by congr 2;omega)))
     |(rw[z1g x (by omega) (by omega)]
       have l:=Lib.bitLen_le8' x (by omega) (by omega);simp only[wrap64];omega))
  |(exfalso
    have hs:=Lib.len8tab_size;omega)
theorem zcm(x:Nat)(h:x<2^64):Lib.bitLen x=bl x:=by
 apply Nat.le_antisymm
 · exact Lib.bitLen_le x (bl x) (zej.2 h) (zej.1 qR)
 · refine zej.2 (Nat.lt_of_not_le fun g=> ?_)
   have h1:=Lib.bitLen_shift (Lib.bitLen x) x g h;have h2:1≤x/2^Lib.bitLen x:=(Nat.one_le_div_iff (Nat.two_pow_pos _)).2 g;have h3:=Lib.bitLen_half (x/2^Lib.bitLen x) (by omega) (Nat.lt_of_le_of_lt (Nat.div_le_self _ _) h);omega
theorem zgx(x:Int)(w:World)(h0:0≤x)(h1:x≤1099511627776):Calls Tryz.prog 165 #[.int .u64 x] w fun e w'=>e=.returned (.int .i64 (bl x.toNat))∧w'=w:=by
 have hb:=hid (zcm x.toNat (by have:(2:Nat)^64=18446744073709551616:=rfl;omega));go_enter Tryz.func165,Tryz.ntmps165;go_wp2_with fail;refine(zbi x _ h0 h1).mono ?_;rintro e w' ⟨rfl,rfl⟩;rw[hb.out];go_wp2_with fail;go_ret;exact⟨rfl,rfl⟩
theorem z7W{n:Int}(h:n<1):nds n.toNat=0:=by
 have:n.toNat=0:=by omega
 rw[this];rfl
theorem zaX(n:Int)(w:World)(h0: -9223372036854775808≤n)(h1:n≤1099511627776):Calls Tryz.prog 146 #[.int .i64 n] w fun e w'=>e=.returned (.int .i64 (nds n.toNat))∧w=w':=by
 by_cases h:n<1
 · have hv:=hid (z7W h)
   go_enter Tryz.func146,Tryz.ntmps146;go_wp2_with fail;go_ret;exact⟨by rw[hv.out];rfl,rfl⟩
 · obtain⟨b,hb⟩:∃b,bl (n - 1).toNat=b:=⟨_,rfl⟩
   have hle:b≤41:=by rw[←hb];exact zej.2 (by have:(2:Nat)^41=2199023255552:=rfl;omega)
   have hv:=hid (show nds n.toNat=max 1 b by
    unfold nds;rw[if_neg (by omega),←hb];congr 2;omega)
   have HC:=hid (zgx (n - 1) w (by omega) (by omega));rw[hb] at HC;clear hb;go_enter Tryz.func146,Tryz.ntmps146;go_wp2_with fail;refine HC.out.mono ?_;rintro e w' ⟨rfl,rfl⟩;go_wp2_with fail;go_ret;exact⟨congrArg (fun q=>Ending.returned (.int .i64 q)) (by rw[hv.out];omega),rfl⟩
theorem z8d(P:Nat→Prop)(m:Nat):∀k,k≤m→(∀t,k≤t→t<m→P t)→∃i,i≤k∧(∀t,i≤t→t<m→P t)∧(i=0∨¬P (i - 1))
 |0,_,h=>⟨0,qR,h,.inl rfl⟩
 |k+1,hk,h=>by
  by_cases q:P k
  · obtain⟨i,h1,h2,h3⟩:=z8d P m k (by omega) (fun t g1 g2=>by
     by_cases e:t=k
     · rw[e];exact q
     · exact h t (by omega) g2)
    exact⟨i,by omega,h2,h3⟩
  · exact⟨k+1,qR,h,.inr (by rw[Nat.add_sub_cancel];exact q)⟩
theorem z98(c:Nat→Nat):∀n,∃m e,z2x c n m e
 |0=>⟨0,fun _=>(0,0),fun i j h1 h2 h3=>by omega,fun i h=>by omega,fun s h=>by omega,qR⟩
 |n+1=>by
  obtain⟨m,e,h⟩:=z98 c n;by_cases h0:c n=0
  · exact⟨m,e,h.ord,fun i hi=>by have:=h.is_ i hi;exact⟨by omega,this.2⟩,fun s hs hc=>by
     by_cases q:s=n
     · subst q;omega
     · exact h.all s (by omega) hc,by have:=h.le;omega⟩
  · let e1:Nat→Nat×Nat:=fun i=>if i=m then(c n,n) else e i
    have he:∀i,i<m→e1 i=e i:=fun i hi=>if_neg (by omega)
    have hm:e1 m=(c n,n):=if_pos rfl;have ho:Ord e1 0 m:=h.ord.congr (fun i _ hi=>he i hi);obtain⟨i,i1,i2,i3⟩:=z8d (fun t=>(e1 m).1<(e1 t).1) m m qR (fun t g1 g2=>by omega);have hs:z0O e1 (mvd e1 i m) 0 (m+1):=z2H e1 qZ i1 (by omega);refine⟨m+1,mvd e1 i m,z4T ho (fun t _ g2 _=> ?_) qZ i1 i2 (by omega),fun j hj=> ?_,fun s hs' hc=> ?_,by have:=h.le;omega⟩
    · rw[he t g2,hm];exact(h.is_ t g2).1
    · obtain⟨k,_,k2,q⟩:=hs.fro j qZ hj
      rw[q];by_cases r:k=m
      · rw[r,hm];exact⟨Nat.lt_succ_self _,Nat.pos_of_ne_zero h0,rfl⟩
      · rw[he k (by omega)];have:=h.is_ k (by omega);exact⟨by omega,this.2⟩
    · by_cases r:s=n
      · obtain⟨k,_,k2,q⟩:=hs.to m qZ (by omega)
        exact⟨k,k2,by rw[←q,hm];exact r.symm⟩
      · obtain⟨j,j1,j2⟩:=h.all s (by omega) hc
        obtain⟨k,_,k2,q⟩:=hs.to j qZ (by omega);exact⟨k,k2,by rw[←q,he j j1];exact j2⟩
theorem zeR{c:Nat→Nat}{n m m':Nat}{e e':Nat→Nat×Nat}(h:z2x c n m e)(h':z2x c n m' e'):m=m'∧∀i,i<m→e i=e' i:=by
 have key:∀ {m m':Nat} {e e':Nat→Nat×Nat},z2x c n m e→z2x c n m' e'→∀i,i<m→∃j,j<m'∧e i=e' j:=by
  intro m m' e e' h h' i hi;obtain⟨a1,a2,a3⟩:=h.is_ i hi;obtain⟨j,j1,j2⟩:=h'.all _ a1 a2;have:=(h'.is_ j j1).2.2;exact⟨j,j1,Prod.ext (by rw[a3,this,j2]) j2.symm⟩
 exact zgi h.ord h'.ord (key h h') (key h' h)
def lw(e:Nat→Nat×Nat)(i:Nat):Nat:=(e i).1
def ly(e:Nat→Nat×Nat)(i:Nat):Nat:=(e i).2
def pl(m:Nat)(e:Nat→Nat×Nat)(L s:Nat):Nat:=
 if m=0 then 0 else if m=1 then(if s=ly e 0 then 1 else 0) else ct s ((row (lvs (lw e) (ly e) m) L).take (2*m - 2))
theorem zb8{c:Nat→Nat}{n m:Nat}{e:Nat→Nat×Nat}(h:z2x c n m e):zjk (lw e) m:=fun i j h1 h2=>by
 rcases h.ord.le qZ h1 h2 with q|q
 · unfold lw;rw[q];exact qR
 · unfold lx at q;unfold lw;omega
theorem zb9{c:Nat→Nat}{n m:Nat}{e:Nat→Nat×Nat}(h:z2x c n m e):∀i j,i<m→j<m→ly e i=ly e j→i=j:=fun i j hi hj q=>by
 unfold ly at q;have h1:=(h.is_ i hi).2.2;have h2:=(h.is_ j hj).2.2;have he:e i=e j:=Prod.ext (by rw[h1,h2,q]) q;rcases Nat.lt_trichotomy i j with g|g|g
 · have:=h.ord i j qZ g hj
   rw[he] at this;exact this.irr.elim
 · exact g
 · have:=h.ord j i qZ g hi
   rw[he] at this;exact this.irr.elim
theorem z6G{c:Nat→Nat}{n m L:Nat}{e:Nat→Nat×Nat}(h:z2x c n m e)(h2:2≤m)(hL:nds m≤L)(h1:1≤L){i:Nat}(hi:i<m):pl m e L (ly e i)=ln (lvs (lw e) (ly e) m) L (2*m - 2) i:=by
 unfold pl;rw[if_neg (by omega),if_neg (by omega)];have:=z0x (lvs (lw e) (ly e) m) L (by rw[z05];exact(z1d h1).1 hL);rw[z05] at this;exact zf3 (zb9 h) hi L _ this
theorem zaC{c:Nat→Nat}{n m L s:Nat}{e:Nat→Nat×Nat}(h:z2x c n m e)(hL:nds m≤L)(h1:1≤L)(hs:∀i,i<m→ly e i≠s):pl m e L s=0:=by
 unfold pl;by_cases h0:m=0
 · rw[if_pos h0]
 rw[if_neg h0];by_cases h2:m=1
 · rw[if_pos h2,if_neg (fun q=>hs 0 (by omega) q.symm)]
 rw[if_neg h2];have:=z0x (lvs (lw e) (ly e) m) L (by rw[z05];exact(z1d h1).1 hL);rw[z05] at this;exact z76 hs L _ this
theorem z90{c:Nat→Nat}{n m L:Nat}{e:Nat→Nat×Nat}(h:z2x c n m e)(hL:nds m≤L)(h1:1≤L)(s:Nat):pl m e L s≤L:=by
 by_cases q:∃i,i<m∧ly e i=s
 · obtain⟨i,hi,rfl⟩:=q
   by_cases h2:2≤m
   · rw[z6G h h2 hL h1 hi];exact zi5 _ _ _ _
   · unfold pl
     rw[if_neg (by omega),if_pos (by omega)];split<;>omega
 · rw[zaC h hL h1 (fun i hi e=>q ⟨i,hi,e⟩)];omega
theorem zdl{m L:Nat}{e e':Nat→Nat×Nat}(h:∀i,i<m→e i=e' i)(s:Nat):pl m e L s=pl m e' L s:=by
 unfold pl;by_cases h0:m=0
 · rw[if_pos h0,if_pos h0]
 rw[if_neg h0,if_neg h0]
 have hl:lvs (lw e) (ly e) m=lvs (lw e') (ly e') m:=by
  unfold lvs;apply List.map_congr_left
  intro i hi;unfold lw ly;rw[h i (List.mem_range.1 hi)]
 rw[hl];unfold ly;rw[h 0 (by omega)]
def lvt(m:Nat)(e:Nat→Nat×Nat):List Tp:=(List.range m).map fun i=>(.lf (lw e i) (ly e i),none)
theorem z2m(m:Nat)(e:Nat→Nat×Nat):(lvt m e).length=m:=by unfold lvt;simp
theorem zgt(m:Nat)(e:Nat→Nat×Nat):(lvt m e).map (·.1)=lvs (lw e) (ly e) m:=by unfold lvt lvs;rw[List.map_map];rfl
theorem zb6(m:Nat)(e:Nat→Nat×Nat){i:Nat}{x:Tp}(h:(lvt m e)[i]? =some x):i<m∧x=(.lf (lw e i) (ly e i),none):=by
 have hi:=(List.getElem?_eq_some_iff.1 h).1;rw[z2m] at hi;refine⟨hi,?_⟩;unfold lvt at h;rw[List.getElem?_map,List.getElem?_range hi] at h;exact(Option.some.inj h).symm
theorem z0p.leaves{w:World}{base m:Nat}{A:Option Addr}{e:Nat→Nat×Nat}(h:0<m→∃b,A=some ⟨b,0,none⟩∧Lfs w b m e):z0p w base A (lvt m e):=by
 refine⟨fun hn=> ?_,fun x hx=> ?_⟩
 · rw[z2m] at hn
   obtain⟨b,rfl,hl⟩:=h hn;refine⟨b,0,rfl,hl.lt,fun i t hi=> ?_⟩;rw[List.getElem?_map] at hi;cases hq:(lvt m e)[i]? with
   |none=>rw[hq] at hi;cases hi
   |some x=>
    rw[hq] at hi;obtain rfl:tr x=t:=by simpa using hi
    obtain⟨h1,rfl⟩:=zb6 m e hq;rw[Nat.zero_add];exact hl.cells h1
 · obtain⟨i,hi,rfl⟩:=List.getElem_of_mem hx
   obtain⟨_,q⟩:=zb6 m e (qE hi);rw[q];exact rfl
theorem z0p.take{w:World}{base:Nat}{A:Option Addr}{X:List Tp}(h:z0p w base A X)(q:Nat):z0p w base A (X.take q):=by
 refine⟨fun hn=> ?_,fun x hx=>h.2 x (List.mem_of_mem_take hx)⟩;obtain⟨b,o,e,hl,ht⟩:=h.1 (by rw[List.length_take] at hn;omega);refine⟨b,o,e,hl,fun i t hi=>ht i t ?_⟩;rw[List.map_take,List.getElem?_take] at hi
 split at hi
 · exact hi
 · cases hi
theorem zcN{c:Nat→Nat}{n m:Nat}{e:Nat→Nat×Nat}(h:z2x c n m e):∀t∈lvs (lw e) (ly e) m,z9E n t:=by
 intro t ht;unfold lvs at ht;obtain⟨i,hi,rfl⟩:=List.mem_map.1 ht;exact(h.is_ i (List.mem_range.1 hi)).1
theorem z7t{L:List Th}{n:Nat}(h:∀t∈L,z9E n t):∀k,∀t∈row L k,z9E n t
 |0,t,ht=>by cases ht
 |k+1,t,ht=>by
  rcases(z4V t _ _).1 ht with g|g
  · exact h t g
  · have key:∀ (R:List Th),(∀u∈R,z9E n u)→∀u∈pks R,z9E n u:=by
     intro R
     induction R using pks.induct with
     |case1 c d r ih2=>
      intro hr u hu;rcases List.mem_cons.1 hu with rfl|hu
      · exact⟨hr c (by simp),hr d (by simp)⟩
      · exact ih2 (fun t ht=>hr t (by simp[ht])) u hu
     |case2 r hr=>intro _ u hu;unfold pks at hu;split at hu;exact absurd rfl (hr _ _ _);cases hu
    exact key _ (z7t h k) t g
theorem z19(w:World)(n:Nat)(hn:n≤400):
 (Instr.makeSlice 40 (.int .i64 (n:Int)) (.int .i64 (n:Int))).run Tryz.prog w=.ok (.slice (some ⟨w.heap.size,0,none⟩) n n) (w.alloc (.cells (madeCells #[.int .u8 0] (n*1)) 5)):=
 z1T w Tryz.underlying40 byteInfo (by decide) n n qR (by omega)
theorem zdC{c:Nat→Nat}{n:Nat}(hn:n≤320)(hc:∀i,c i≤1073741824):ziw (fun i=>(c i:Int)) n:=⟨hn,fun i _=>⟨Int.natCast_nonneg _,Int.ofNat_le.2 (hc i)⟩⟩
theorem Br.made1(w:World)(n s:Nat)(hs:s<n):Br (w.alloc (.cells ((madeCells #[.int .u8 0] n).setIfInBounds s (.int .u8 1)) 5)) w.heap.size n (fun i=>if i=s then 1 else 0):=by
 have h:=World.rowIs_alloc w ((madeCells #[.int .u8 0] n).setIfInBounds s (.int .u8 1)) 5 (fun i=> .int .u8 ((if i=s then 1 else 0:Nat):Int)) (fun i hi=>by
  have hi':i<n:=by simpa [size_madeCells] using hi
  rw[Array.getElem?_setIfInBounds];by_cases q:i=s
  · subst q;simp[size_madeCells,hi']
  · rw[if_neg (fun r=>q r.symm)]
    simp[madeCells,hi',q,Nat.mod_one])
 rw[Array.size_setIfInBounds,size_madeCells] at h;exact h
def z3A(W:World)(n m L:Nat)(e:Nat→Nat×Nat)(x:Ending)(w':World):Prop:=
 ∃g,x=.returned (.tuple #[.slice (some ⟨g,0,none⟩) n n,.int .i64 0])∧W.heap.size≤g∧Br w' g n (pl m e L)∧Below W.heap.size W w'
theorem zgw(A:Option Addr)(n c' L m:Nat)(c:Nat→Nat)(e:Nat→Nat×Nat)(W:World)(hn:n≤320)(hc:∀i,c i≤1073741824)(H:z09 W .i64 A n (fun i=>(c i:Int)))(h1:1≤L)(h2:L≤15)(hl:z2x c n m e)(hb:nds m≤L):
 Calls Tryz.prog 129 #[.slice A n c',.int .i64 L] W (z3A W n m L e):=by
 have hv:=hid (z5W (zdC hn hc));have HN:=hid (show n≤maxLen by unfold maxLen;omega);have HA:=hid H;have HC:=hid hc;have HL:=hid hl;have HB:=hid hb;obtain⟨q,hq⟩:∃q,nds m=q:=⟨_,rfl⟩
 rw[hq] at hb;have HQ:=hid hq;have hmk:=fun w=>z19 w n (by omega)
 have d0:decide ((L:Int)<(q:Int))=false:=qF (by omega);clear H hc hl hq;go_enter Tryz.func129,Tryz.ntmps129;go_wp2_with fail;refine(zdj A n c' _ _ HN.out HA.out).mono ?_;rintro e0 w' ⟨rfl,rfl⟩;rw[hv.out];go_wp2_with fail;refine(z9a A n c' c _ hn HC.out HA.out).mono ?_;rintro x w1 ⟨A1,cap1,m1,e1,rfl,hmc,l1,f1,b1⟩;obtain⟨rfl,he⟩:=zeR HL.out l1;have B1:=hid b1;have HE:=hid he;have HL1:=hid l1;have HF:=hid f1;have hm:=l1.le;clear l1 f1 b1 he;have NC:=hid (fun w=>zaX (m:Int) w (by omega) (by omega));go_wp2_with fail;refine(NC.out _).mono ?_;rintro e0 w' ⟨rfl,rfl⟩;rw[show((m:Int)).toNat=m by omega,HQ.out];clear NC;by_cases c0:m=0
 · subst c0
   go_wp2_with fail;go_ret2;refine⟨_,rfl,B1.out.size,(Br.made' w1 n).congr (f':=pl 0 e L) (fun i _=>by unfold pl;rw[if_pos rfl]),B1.out.alloc B1.out.size _⟩
 by_cases c1:m=1
 · subst c1
   obtain⟨b,rfl,hlf⟩:=HF.out (by omega);obtain⟨y1,y2,y3⟩:=hlf.cells (show 0<1 by omega);obtain⟨s,hs⟩:∃s,(e1 0).2=s:=⟨_,rfl⟩
   have hsn:=(HL1.out.is_ 0 (by omega)).1;rw[hs] at y2 hsn;have HS:=hid (show s=ly e 0 by unfold ly;rw[HE.out 0 (by omega)];exact hs.symm);have hbl:=hlf.lt;have hsz:=B1.out.size;have hbr:=Br.made' w1 n;have hcl:=hbr.cell hsn;have hfr:=hbr.frozen s
   have HBR:=hid ((Br.made1 w1 n s hsn).congr (f':=pl 1 e L) (fun i _=>by
    unfold pl;rw[if_neg (show ¬(1=0) by omega),if_pos (rfl:1=1),←HS.out]))
   clear hs hlf hbr c0;go_wp2_with fail;go_ret2;exact⟨_,rfl,hsz,HBR.out,B1.out.alloc hsz _⟩
 · have c2:2≤m:=by omega
   have n1:((m:Int)==0)=false:=by rw[qN];omega
   have n2:((m:Int)==1)=false:=by rw[qN];omega
   obtain⟨r,hr⟩:∃r,2*m - 2=r:=⟨_,rfl⟩
   have v1:2*(m:Int) - 2=(r:Int):=by omega
   have hlen:2*m - 2≤(row (lvs (lw e1) (ly e1) m) L).length:=by
    have:=z0x (lvs (lw e1) (ly e1) m) L (by rw[z05];exact(z1d h1).1 HB.out)
    rwa [z05] at this
   have HLEN:=hid hlen;have HR:=hid hr;have T0:=hid (fun(B:Nat)=>z0p.leaves (w:=w1) (base:=B) HF.out);clear hlen hr c0 c1;go_wp2_with fail;have HT:=hid ((T0.out (w1.alloc (.cells (madeCells #[.int .u8 0] n) 5)).heap.size).below ((Below.refl w1.heap.size w1).alloc qR (.cells (madeCells #[.int .u8 0] n) 5)))
   have HWL:=hid (show ∀x∈lvt m e1,x.1.wt≤1073741824 from fun x hx=>by
    obtain⟨i,hi,rfl⟩:=List.getElem_of_mem hx;obtain⟨g1,g2⟩:=zb6 m e1 (qE hi);rw[g2];show(e1 i).1≤_
    rw[(HL1.out.is_ i g1).2.2];exact HC.out _)
   refine(zab A1 m cap1 L (lvt m e1) _ (z2m m e1) (by omega) hmc h1 h2 HT.out HWL.out).mono ?_;rintro x w3 ⟨A3,n3,cap3,X,rfl,x1,x2,x3,x4,x5,x6⟩;rw[zgt] at x3
   have hrn:r≤n3:=by
    have h3:=HLEN.out;rw[←x3,List.length_map,x1,HR.out] at h3;exact h3
   have hrc:r≤cap3:=by omega
   have BR3:=hid ((Br.made' w1 n).below x6 (by simp));have TX:=hid (x4.take r);have X1:=hid (show(X.take r).length=r by rw[List.length_take,x1];omega);have X3:=hid x3;have X6:=hid x6
   have XF:=hid (show ∀b o,A3=some ⟨b,o,none⟩→b≠w1.heap.size from fun b o h=>by
    rcases x5 with g|g
    · rw[h] at g
      obtain⟨b0,q1,q2⟩:=HF.out (by omega);rw[q1] at g;have:=q2.lt;simp at g;omega
    · have:=g b o h
      simp at this;omega)
   have XS:=hid (show ∀x∈X.take r,z9E n x.1 from fun x hx=>by
    have h3:x.1∈row (lvs (lw e1) (ly e1) m) L:=by rw[←x3];exact List.mem_map_of_mem (List.mem_of_mem_take hx)
    exact z7t (zcN HL1.out) L _ h3)
   have XW:=hid (show ∀x∈X.take r,x.1.wt<18446744073709551616 from fun x hx=>by
    obtain⟨z,rfl⟩:∃z,L=z+1:=⟨L - 1,by omega⟩
    have h3:x.1∈row (lvs (lw e1) (ly e1) m) (z+1):=by rw[←x3];exact List.mem_map_of_mem (List.mem_of_mem_take hx)
    have h4:=z7x (M:=1073741824) (fun t ht=>by
     unfold lvs at ht;obtain⟨i,hi,rfl⟩:=List.mem_map.1 ht;show(e1 i).1≤_
     rw[(HL1.out.is_ i (List.mem_range.1 hi)).2.2];exact HC.out _) z _ h3
    have h5:1073741824*2^z≤1073741824*2^14:=Nat.mul_le_mul_left _ (Nat.pow_le_pow_right (by omega) (by omega));have h6:(2:Nat)^14=16384:=rfl;omega)
   have hgb:w1.heap.size<(w1.alloc (.cells (madeCells #[.int .u8 0] n) 5)).heap.size:=by simp
   have HGB:=hid hgb;have hr1000:r≤1000:=by omega
   clear x1 x3 x4 x5 x6 hrn hgb;go_wp2_with fail;refine(z5n w1.heap.size n (w1.alloc (.cells (madeCells #[.int .u8 0] n) 5)).heap.size r cap3 A3 (X.take r) (fun _=>0) _ (by omega) HGB.out X1.out hr1000 XF.out XS.out XW.out (fun i=>by omega) TX.out BR3.out).mono ?_;rintro x w4 ⟨rfl,x7,x8⟩
   have F7:=hid (x7.congr (f':=pl m e L) (fun i _=>by
    rw[zdl HE.out i];have hle:=z90 HL1.out HB.out h1 i;unfold z3J;rw[List.map_take,X3.out];unfold pl at hle ⊢;rw[if_neg (by omega),if_neg (by omega),HR.out] at hle ⊢;rw[Nat.zero_add,Nat.mod_eq_of_lt (by omega)]))
   have F8:=hid (x8.below (B:=W.heap.size) (by have:=X6.out.size;have:=B1.out.size;simp at*;omega) (fun j hj=>by have:j=w1.heap.size:=hj;have:=B1.out.size;omega));clear x7 x8;go_wp2_with fail;go_ret2;exact⟨_,rfl,B1.out.size,F7.out,((B1.out.alloc B1.out.size _).trans (X6.out.mono (by have:=B1.out.size;simp;omega))).trans F8.out⟩
def zj1(l:Nat→Nat)(n:Nat):Bool:=decide (May l n)
theorem z0F{l:Nat→Nat}{n:Nat}(h:May l n):zj1 l n=true:=q9T h
theorem z2l{l:Nat→Nat}{n:Nat}(h:¬May l n):zj1 l n=false:=qF h
theorem z1I(A:Option Addr)(n c:Nat)(l:Nat→Nat)(w:World)(hn:n≤maxLen)(hl:∀i,l i≤255)(H:z09 w .u8 A n (fun i=>(l i:Int))):
 Calls Tryz.prog 173 #[.slice A n c] w fun e w'=>e=.returned (.bool (zj1 l n))∧w=w':=by
 have hn':n≤9223372036854775807:=by unfold maxLen at hn;omega
 clear hn;have HL:=hid hl;clear hl;by_cases h3:n≤320
 · go_enter Tryz.func173,Tryz.ntmps173
   go_wp2
   go_loop [10] (fun i=> ∃k:Nat,k≤n∧i=.int .i64 k∧Hid (∀j,j<k→l j≤15)) (fun i=>n - (intOf i).toNat)
   case atStart=>exact⟨0,qZ,rfl,hid (fun j hj=>by omega)⟩
   case round=>
    obtain⟨k,hk,rfl,hsm⟩:=hrel;by_cases hlt:k<n
    · obtain⟨b,o,rfl,hb,hc⟩:=H (by omega)
      have hcell:=hc k hlt;have h255:=HL.out k;have HH:=hid hc;clear hc;by_cases h15:l k≤15
      · go_wp2
        go_round
        case rel=>exact⟨k+1,by omega,by go_num,hid (fun j hj=>by
         by_cases e:j=k
         · rw[e];exact h15
         · exact hsm.out j (by omega))⟩
        case measure=>simp[intOf];omega
      · have hv:=hid (z2l (l:=l) (n:=n) (fun g=>h15 (g.2 k hlt)))
        go_wp2;go_ret;exact⟨by rw[hv.out];rfl,rfl⟩
    · obtain rfl:k=n:=by omega
      have hv:=hid (z0F (l:=l) (n:=k) ⟨h3,hsm.out⟩);go_wp2;go_ret;exact⟨by rw[hv.out];rfl,rfl⟩
 · have hv:=hid (z2l (l:=l) (n:=n) (fun g=>h3 g.1))
   go_enter Tryz.func173,Tryz.ntmps173;go_wp2;go_ret;exact⟨by rw[hv.out];rfl,rfl⟩
theorem count_any(A:Option Addr)(n c:Nat)(l:Nat→Nat)(W:World)(hm:May l n)(H:z09 W .u8 A n (fun i=>(l i:Int))):
 Calls Tryz.prog 156 #[.slice A n c] W fun e w'=>e=.returned (.agg (TV (c0 l n)))∧Below W.heap.size W w':=by
 have hz:=z1c;have hn':n≤320:=hm.1;have HL:=hid hm.2;clear hm;go_enter Tryz.func156,Tryz.ntmps156;go_wp2_with fail;clear hz
 go_loopw [8] (fun i wr=> ∃k:Nat,k≤n∧i=.int .i64 k∧Tb wr W.heap.size (fun _=>0)∧Tb wr (W.heap.size+1) (fun s=>cnt l s k)∧Below W.heap.size W wr) (fun i _=>n - (intOf i).toNat)
 case atStart=>
  refine⟨0,qZ,rfl,(Tb.made W _).alloc _,?_,(qL).alloc (by simp) _⟩;have h:=Tb.made (W.alloc (.cells (TV fun x=>0) 250)) (fun x=>0);rw[show(W.alloc (.cells (TV fun x=>0) 250)).heap.size=W.heap.size+1 by simp] at h;exact h.congr (fun i hi=>rfl)
 case round=>
  obtain⟨k,hk,rfl,ht0,ht1,hb⟩:=hrel;by_cases hlt:k<n
  · obtain⟨b,o,rfl,hbs,hc⟩:=H (by omega)
    have h15:=HL.out k hlt;have hcell:wr.cell? ⟨b,o+k,none⟩=some (.int .u8 (l k)):=(hb.cell hbs).trans (hc k hlt);obtain⟨x,hx⟩:∃x,l k=x:=⟨_,rfl⟩
    rw[hx] at h15 hcell;have hcx:=ht1.cell (show x<16 by omega);have hf:=ht1.frozen x;have hle:=zbZ l x k;have HX:=hid hx;have HT0:=hid ht0;have HT1:=hid ht1;have HB:=hid hb;have HC:=hid hc;clear ht0 ht1 hb hx hc;go_wp2_with fail;go_roundw
    case rel=>
     refine⟨k+1,by omega,by go_num,HT0.out.other (by simp) _,(HT1.out.set x (cnt l x k+1)).congr ?_,HB.out.setCell (by simp) _⟩;intro i hi;simp only[cnt,HX.out];by_cases e:i=x
     · subst e;simp
     · rw[if_neg e,if_neg (fun g=>e g.symm)];rfl
    case measure=>simp[intOf];omega
  · obtain rfl:k=n:=by omega
    have hcx:=ht1.cell (show 0<16 by omega);have hf:=ht1.frozen 0;have ht2:=(ht1.set 0 0).congr (g:=c0 l k) (fun i hi=>by unfold c0;rfl);have ht3:=ht0.other (a:=⟨W.heap.size+1,0,none⟩) (by simp) (.int .u32 (0:Nat));have hb2:=hb.setCell (p:=⟨W.heap.size+1,0,none⟩) (by simp) (.int .u32 (0:Nat));have HT1:=hid ht2;have HT0:=hid ht3;have HB:=hid hb2;clear ht0 ht1 ht2 ht3 hb hb2;go_wp2_with (first|(refine z0n _ rfl rfl _ rfl (c0 l k) HT1.out ?_)|(refine z1A rfl _ _ rfl _ _ (c0 l k) rfl rfl HT0.out ?_));have hr:=HT0.out.setRow (c0 l k);refine bodyPost_ret (v:=.agg (TV (c0 l k))) (results_cell_row rfl _ _ _ _ _ _ _ rfl hr.row Tryz.underlying250 rfl (z2R (c0 l k))) rfl ⟨rfl,below_setRow HB.out _ _ qR⟩
theorem z0U(c:Nat→Nat)(W:World)(hc:∀s,s<16→c s≤320):
 Calls Tryz.prog 174 #[.agg (TV c)] W fun e w'=>e=.returned (.int .u32 (aw c 16))∧Below W.heap.size W w':=by
 have HM:=hid (Tb.made W c);have HB:=hid ((Below.refl W.heap.size W).alloc qR (.cells (TV c) 250));have HC:=hid hc;clear hc;go_enter Tryz.func174,Tryz.ntmps174;go_wp2_with (refine z0n _ rfl rfl _ rfl c HM.out ?_)
 go_loop [3,7] (fun x i=> ∃k:Nat,k≤16∧i=.int .i64 k∧x=.int .u32 (aw c k)) (fun _ i=>16 - (intOf i).toNat)
 case atStart=>exact⟨0,qZ,rfl,rfl⟩
 case round=>
  obtain⟨k,hk,rfl,rfl⟩:=hrel;by_cases hlt:k<16
  · have h320:=HC.out k hlt
    have hs:=z8u HC.out k hk;have hv:=hid (show aw c (k+1)=aw c k+c k*2^(15 - k) from rfl);have hd:decide ((k:Int)<16)=true:=by simp;omega
    have hidx:=fun w=>zjm w c k hlt
    have hq:c k*2^(15 - k)≤320*2^15:=Nat.mul_le_mul h320 (Nat.pow_le_pow_right (by omega) (by omega));obtain⟨d,hdd⟩:∃d,15 - k=d:=⟨_,rfl⟩
    rw[hdd] at hq hv
    have HQ:Hid ((((aw c k:Nat):Int)+(c k:Int)*2^d%4294967296)%4294967296=((aw c (k+1):Nat):Int)):=hid (by
     rw[hv.out];have e:(c k:Int)*2^d=((c k*2^d:Nat):Int):=by push_cast;rfl
     rw[e];omega)
    clear hq;go_wp2_with fail
    go_round
    case rel=>exact⟨k+1,by omega,by go_num,congrArg (Value.int .u32) HQ.out⟩
    case measure=>simp[intOf];omega
  · obtain rfl:k=16:=by omega
    have hd:decide ((16:Int)<16)=false:=by decide
    go_wp2_with fail;go_ret;exact⟨rfl,HB.out⟩
theorem z9i(c:Nat→Nat)(W:World)(hc:∀s,s<16→c s≤320):
 Calls Tryz.prog 155 #[.agg (TV c)] W fun e w'=>e=.returned (.agg (TV (fs c)))∧Below W.heap.size W w':=by
 have hz:=z1c;have HC:=hid hc;clear hc;go_enter Tryz.func155,Tryz.ntmps155;go_wp2_with fail;clear hz
 go_loopw [4] (fun i wr=> ∃k:Nat,k≤15∧i=.int .i64 ((k:Int)+1)∧Tb wr W.heap.size c∧Tb wr (W.heap.size+1) (fun _=>0)∧Tb wr (W.heap.size+2) (fun s=>if s≤k then fs c s else 0)∧Below W.heap.size W wr) (fun i _=>16 - (intOf i).toNat)
 case atStart=>
  refine⟨0,qZ,rfl,((Tb.made W _).alloc _).alloc _,?_,?_,((qL).alloc (by simp) _).alloc (by simp;omega) _⟩
  · have h:=Tb.made (W.alloc (.cells (TV c) 250)) (fun x=>0)
    rw[show(W.alloc (.cells (TV c) 250)).heap.size=W.heap.size+1 by simp] at h;exact h.alloc _
  · have h:=Tb.made ((W.alloc (.cells (TV c) 250)).alloc (.cells (TV fun x=>0) 250)) (fun x=>0)
    rw[show((W.alloc (.cells (TV c) 250)).alloc (.cells (TV fun x=>0) 250)).heap.size=W.heap.size+2 by simp] at h;refine h.congr (fun i hi=> ?_)
    split
    · obtain rfl:i=0:=by omega
      rfl
    · rfl
 case round=>
  obtain⟨k,hk,rfl,ht0,ht1,ht2,hb⟩:=hrel;by_cases hlt:k<15
  · have g1:=ht0.cell (show k<16 by omega)
    have g2:=ht2.cell (show k<16 by omega);simp only[if_pos (Nat.le_refl k)] at g2;have g3:=ht2.frozen (k+1);have g4:=ht2.cell (show k+1<16 by omega);have q1:=HC.out k (by omega);have q2:=z8b HC.out k (by omega);have q3:2^k≤2^15:=Nat.pow_le_pow_right (by omega) (by omega);obtain⟨x,hx⟩:∃x,fs c k=x:=⟨_,rfl⟩
    obtain⟨y,hy⟩:∃y,c k=y:=⟨_,rfl⟩
    obtain⟨z,hz⟩:∃z,(if k+1≤k then fs c (k+1) else 0)=z:=⟨_,rfl⟩
    rw[hx] at g2 q2;rw[hy] at g1 q1;rw[hz] at g4;have w1:IntKind.i64.wrap ((k:Int)+1 - 1)=(k:Int):=by rw[IntWalk.i64_in _ (by omega)];omega
    have w2:IntKind.u32.wrap ((x:Int)+(y:Int))=((x+y:Nat):Int):=by rw[IntKind.wrap_u32];omega
    have w3:IntKind.u32.wrap (((x+y:Nat):Int)*2^1)=(((x+y)*2:Nat):Int):=by rw[IntKind.wrap_u32];omega
    have w4:((k:Int)).toNat=k:=by omega
    have w5:((k:Int)+1).toNat=k+1:=by omega
    have HT0:=hid ht0;have HT1:=hid ht1;have HT2:=hid ht2;have HB:=hid hb;have HX:=hid hx;have HY:=hid hy
    have HV:Hid (((x:Int)+(y:Int))*2%4294967296=((fs c (k+1):Nat):Int)):=hid (by
     simp only[fs];rw[hx,hy];omega)
    clear ht0 ht1 ht2 hb hx hy hz q2 q3;go_wp2_with fail
    go_region
    go_wp2_with fail;go_roundw
    case rel=>
     refine⟨k+1,by omega,by go_num,(HT0.out.other (by simp<;>omega) _),(HT1.out.other (by simp<;>omega) _),?_,(HB.out.setCell (by simp;omega) _).drew⟩
     have h:=(HT2.out.set (k+1) (fs c (k+1))).congr (g:=fun s=>if s≤k+1 then fs c s else 0) (fun i hi=>by
      by_cases e:i=k+1
      · subst e;simp
      · rw[if_neg e]
        by_cases e2:i≤k
        · rw[if_pos e2,if_pos (by omega)]
        · rw[if_neg e2,if_neg (by omega)])
     rw[HV.out];exact h
    case measure=>simp[intOf];omega
  · obtain rfl:k=15:=by omega
    have ht:Tb wr (W.heap.size+2) (fs c):=ht2.congr (fun i hi=>by rw[if_pos (by omega)]);have HT1:=hid ht1;have HT:=hid ht;have HB:=hid hb;clear ht0 ht1 ht2 ht hb;go_wp2_with (first|(refine z0n _ rfl rfl _ rfl (fs c) HT.out ?_)|(refine z1A rfl _ _ rfl _ _ (fs c) rfl rfl HT1.out ?_));have hr:=HT1.out.setRow (fs c);refine bodyPost_ret (v:=.agg (TV (fs c))) (results_cell_row rfl _ _ _ _ _ _ _ rfl hr.row Tryz.underlying250 rfl (z2R (fs c))) rfl ⟨rfl,below_setRow HB.out _ _ (by omega)⟩
theorem z61(A:Option Addr)(n c:Nat)(l:Nat→Nat)(W:World)(hn:n≤maxLen)(hl:∀i,l i≤255)(H:z09 W .u8 A n (fun i=>(l i:Int)))(hm:¬May l n):
 Calls Tryz.prog 154 #[.slice A n c] W fun e w'=>e=.returned (.int .u8 (kind l n))∧Below W.heap.size W w':=by
 have hv:=hid (z2M hm);have hb:=hid (z2l hm);have HL:=hid hl;clear hm hl;go_enter Tryz.func154,Tryz.ntmps154;go_wp2_with fail;refine(z1I A n c l _ hn HL.out H).mono ?_;rintro e w' ⟨rfl,rfl⟩;rw[hb.out];go_wp2_with fail;go_ret;exact⟨by rw[hv.out];rfl,Below.refl _ _⟩
theorem z51(A:Option Addr)(n c:Nat)(l:Nat→Nat)(W:World)(hl:∀i,l i≤255)(H:z09 W .u8 A n (fun i=>(l i:Int)))(hm:May l n)(g x:Nat)(hg:g=z03 l n)(hx:x=c0 l n 1)(e0:g=0):
 Calls Tryz.prog 154 #[.slice A n c] W fun e w'=>e=.returned (.int .u8 0)∧Below W.heap.size W w':=by
 have hz:=z1c;have HL:=hid hl;have HM:=hid hm;have HN:=hid (show n≤maxLen by have:=hm.1;unfold maxLen;omega);have HX:=hid hx;have HG:=hid (show aw (c0 l n) 16=g by rw[hg];exact z0l l n hm.2);have HC:=hid (show ∀s,s<16→c0 l n s≤320 from fun s _=>qK (z7c l n s) hm.1);have hb:=hid (z0F hm);have d0:((g:Int)==0)=true:=by rw[beq_iff_eq];omega
 clear hm hl hx hg e0;go_enter Tryz.func154,Tryz.ntmps154;go_wp2_with fail;refine(z1I A n c l _ HN.out HL.out H).mono ?_;rintro e w' ⟨rfl,rfl⟩;rw[hb.out];go_wp2_with fail;refine(count_any A n c l _ HM.out H).mono ?_;rintro e w1 ⟨rfl,b1⟩;have B1:=hid b1;clear b1;have T1:=hid (Tb.made w1 (c0 l n));go_wp2_with (first|(refine z0q rfl _ _ rfl _ (c0 l n) rfl rfl ?_)|(refine z0n _ rfl rfl _ rfl (c0 l n) T1.out ?_));clear hz;refine(z0U (c0 l n) _ HC.out).mono ?_;rintro e w2 ⟨rfl,b2⟩;rw[HG.out];have B2:=hid b2;have T2:=hid (T1.out.below b2 (by simp));have hc1:=T2.out.cell (show 1<16 by decide);rw[←HX.out] at hc1;clear b2;go_wp2_with fail;go_ret;exact⟨rfl,(B1.out.alloc B1.out.size _).trans (B2.out.mono (qK B1.out.size (by simp)))⟩
theorem z50(A:Option Addr)(n c:Nat)(l:Nat→Nat)(W:World)(hl:∀i,l i≤255)(H:z09 W .u8 A n (fun i=>(l i:Int)))(hm:May l n)(g x:Nat)(hg:g=z03 l n)(hx:x=c0 l n 1)(e1:32768<g):
 Calls Tryz.prog 154 #[.slice A n c] W fun e w'=>e=.returned (.int .u8 4)∧Below W.heap.size W w':=by
 have hz:=z1c;have HL:=hid hl;have HM:=hid hm;have HN:=hid (show n≤maxLen by have:=hm.1;unfold maxLen;omega);have HX:=hid hx;have HG:=hid (show aw (c0 l n) 16=g by rw[hg];exact z0l l n hm.2);have HC:=hid (show ∀s,s<16→c0 l n s≤320 from fun s _=>qK (z7c l n s) hm.1);have hb:=hid (z0F hm);have d0:((g:Int)==0)=false:=by rw[qN];omega
 clear hm hl hx hg;go_enter Tryz.func154,Tryz.ntmps154;go_wp2_with fail;refine(z1I A n c l _ HN.out HL.out H).mono ?_;rintro e w' ⟨rfl,rfl⟩;rw[hb.out];go_wp2_with fail;refine(count_any A n c l _ HM.out H).mono ?_;rintro e w1 ⟨rfl,b1⟩;have B1:=hid b1;clear b1;have T1:=hid (Tb.made w1 (c0 l n));go_wp2_with (first|(refine z0q rfl _ _ rfl _ (c0 l n) rfl rfl ?_)|(refine z0n _ rfl rfl _ rfl (c0 l n) T1.out ?_));clear hz;refine(z0U (c0 l n) _ HC.out).mono ?_;rintro e w2 ⟨rfl,b2⟩;rw[HG.out];have B2:=hid b2;have T2:=hid (T1.out.below b2 (by simp));have hc1:=T2.out.cell (show 1<16 by decide);rw[←HX.out] at hc1;clear b2;go_wp2_with fail;go_ret;exact⟨rfl,(B1.out.alloc B1.out.size _).trans (B2.out.mono (qK B1.out.size (by simp)))⟩
theorem z3L(A:Option Addr)(n c:Nat)(l:Nat→Nat)(W:World)(hl:∀i,l i≤255)(H:z09 W .u8 A n (fun i=>(l i:Int)))(hm:May l n)(g x:Nat)(hg:g=z03 l n)(hx:x=c0 l n 1)(e2:g=32768):
 Calls Tryz.prog 154 #[.slice A n c] W fun e w'=>e=.returned (.int .u8 2)∧Below W.heap.size W w':=by
 have hz:=z1c;have HL:=hid hl;have HM:=hid hm;have HN:=hid (show n≤maxLen by have:=hm.1;unfold maxLen;omega);have HX:=hid hx;have HG:=hid (show aw (c0 l n) 16=g by rw[hg];exact z0l l n hm.2);have HC:=hid (show ∀s,s<16→c0 l n s≤320 from fun s _=>qK (z7c l n s) hm.1);have hb:=hid (z0F hm);have d0:((g:Int)==0)=false:=by rw[qN];omega
 have d1:decide (32768<(g:Int))=false:=qF (by omega);have d2:((g:Int)==32768)=true:=by rw[beq_iff_eq];omega
 clear hm hl hx hg e2;go_enter Tryz.func154,Tryz.ntmps154;go_wp2_with fail;refine(z1I A n c l _ HN.out HL.out H).mono ?_;rintro e w' ⟨rfl,rfl⟩;rw[hb.out];go_wp2_with fail;refine(count_any A n c l _ HM.out H).mono ?_;rintro e w1 ⟨rfl,b1⟩;have B1:=hid b1;clear b1;have T1:=hid (Tb.made w1 (c0 l n));go_wp2_with (first|(refine z0q rfl _ _ rfl _ (c0 l n) rfl rfl ?_)|(refine z0n _ rfl rfl _ rfl (c0 l n) T1.out ?_));clear hz;refine(z0U (c0 l n) _ HC.out).mono ?_;rintro e w2 ⟨rfl,b2⟩;rw[HG.out];have B2:=hid b2;have T2:=hid (T1.out.below b2 (by simp));have hc1:=T2.out.cell (show 1<16 by decide);rw[←HX.out] at hc1;clear b2;go_wp2_with fail;go_ret;exact⟨rfl,(B1.out.alloc B1.out.size _).trans (B2.out.mono (qK B1.out.size (by simp)))⟩
theorem z60(A:Option Addr)(n c:Nat)(l:Nat→Nat)(W:World)(hl:∀i,l i≤255)(H:z09 W .u8 A n (fun i=>(l i:Int)))(hm:May l n)(g x:Nat)(hg:g=z03 l n)(hx:x=c0 l n 1)(e3:g=16384)(e4:x=1):
 Calls Tryz.prog 154 #[.slice A n c] W fun e w'=>e=.returned (.int .u8 1)∧Below W.heap.size W w':=by
 have hz:=z1c;have HL:=hid hl;have HM:=hid hm;have HN:=hid (show n≤maxLen by have:=hm.1;unfold maxLen;omega);have HX:=hid hx;have HG:=hid (show aw (c0 l n) 16=g by rw[hg];exact z0l l n hm.2);have HC:=hid (show ∀s,s<16→c0 l n s≤320 from fun s _=>qK (z7c l n s) hm.1);have hb:=hid (z0F hm);have d0:((g:Int)==0)=false:=by rw[qN];omega
 have d1:decide (32768<(g:Int))=false:=qF (by omega);have d2:((g:Int)==32768)=false:=by rw[qN];omega
 have d3:((x:Int)==1)=true:=by rw[beq_iff_eq];omega
 have d4:((g:Int)==16384)=true:=by rw[beq_iff_eq];omega
 clear hm hl hx hg e3 e4;go_enter Tryz.func154,Tryz.ntmps154;go_wp2_with fail;refine(z1I A n c l _ HN.out HL.out H).mono ?_;rintro e w' ⟨rfl,rfl⟩;rw[hb.out];go_wp2_with fail;refine(count_any A n c l _ HM.out H).mono ?_;rintro e w1 ⟨rfl,b1⟩;have B1:=hid b1;clear b1;have T1:=hid (Tb.made w1 (c0 l n));go_wp2_with (first|(refine z0q rfl _ _ rfl _ (c0 l n) rfl rfl ?_)|(refine z0n _ rfl rfl _ rfl (c0 l n) T1.out ?_));clear hz;refine(z0U (c0 l n) _ HC.out).mono ?_;rintro e w2 ⟨rfl,b2⟩;rw[HG.out];have B2:=hid b2;have T2:=hid (T1.out.below b2 (by simp));have hc1:=T2.out.cell (show 1<16 by decide);rw[←HX.out] at hc1;clear b2;go_wp2_with fail;go_ret;exact⟨rfl,(B1.out.alloc B1.out.size _).trans (B2.out.mono (qK B1.out.size (by simp)))⟩
theorem z3N(A:Option Addr)(n c:Nat)(l:Nat→Nat)(W:World)(hl:∀i,l i≤255)(H:z09 W .u8 A n (fun i=>(l i:Int)))(hm:May l n)(g x:Nat)(hg:g=z03 l n)(hx:x=c0 l n 1)(e5:g≠0)(e6:g<32768)(e4:x≠1):
 Calls Tryz.prog 154 #[.slice A n c] W fun e w'=>e=.returned (.int .u8 3)∧Below W.heap.size W w':=by
 have hz:=z1c;have HL:=hid hl;have HM:=hid hm;have HN:=hid (show n≤maxLen by have:=hm.1;unfold maxLen;omega);have HX:=hid hx;have HG:=hid (show aw (c0 l n) 16=g by rw[hg];exact z0l l n hm.2);have HC:=hid (show ∀s,s<16→c0 l n s≤320 from fun s _=>qK (z7c l n s) hm.1);have hb:=hid (z0F hm);have d0:((g:Int)==0)=false:=by rw[qN];omega
 have d1:decide (32768<(g:Int))=false:=qF (by omega);have d2:((g:Int)==32768)=false:=by rw[qN];omega
 have d3:((x:Int)==1)=false:=by rw[qN];omega
 clear hm hl hx hg e5 e4;go_enter Tryz.func154,Tryz.ntmps154;go_wp2_with fail;refine(z1I A n c l _ HN.out HL.out H).mono ?_;rintro e w' ⟨rfl,rfl⟩;rw[hb.out];go_wp2_with fail;refine(count_any A n c l _ HM.out H).mono ?_;rintro e w1 ⟨rfl,b1⟩;have B1:=hid b1;clear b1;have T1:=hid (Tb.made w1 (c0 l n));go_wp2_with (first|(refine z0q rfl _ _ rfl _ (c0 l n) rfl rfl ?_)|(refine z0n _ rfl rfl _ rfl (c0 l n) T1.out ?_));clear hz;refine(z0U (c0 l n) _ HC.out).mono ?_;rintro e w2 ⟨rfl,b2⟩;rw[HG.out];have B2:=hid b2;have T2:=hid (T1.out.below b2 (by simp));have hc1:=T2.out.cell (show 1<16 by decide);rw[←HX.out] at hc1;clear b2;go_wp2_with fail;go_ret;exact⟨rfl,(B1.out.alloc B1.out.size _).trans (B2.out.mono (qK B1.out.size (by simp)))⟩
theorem z3M(A:Option Addr)(n c:Nat)(l:Nat→Nat)(W:World)(hl:∀i,l i≤255)(H:z09 W .u8 A n (fun i=>(l i:Int)))(hm:May l n)(g x:Nat)(hg:g=z03 l n)(hx:x=c0 l n 1)(e5:g≠0)(e6:g<32768)(e4:x=1)(e3:g≠16384):
 Calls Tryz.prog 154 #[.slice A n c] W fun e w'=>e=.returned (.int .u8 3)∧Below W.heap.size W w':=by
 have hz:=z1c;have HL:=hid hl;have HM:=hid hm;have HN:=hid (show n≤maxLen by have:=hm.1;unfold maxLen;omega);have HX:=hid hx;have HG:=hid (show aw (c0 l n) 16=g by rw[hg];exact z0l l n hm.2);have HC:=hid (show ∀s,s<16→c0 l n s≤320 from fun s _=>qK (z7c l n s) hm.1);have hb:=hid (z0F hm);have d0:((g:Int)==0)=false:=by rw[qN];omega
 have d1:decide (32768<(g:Int))=false:=qF (by omega);have d2:((g:Int)==32768)=false:=by rw[qN];omega
 have d3:((x:Int)==1)=true:=by rw[beq_iff_eq];omega
 have d4:((g:Int)==16384)=false:=by rw[qN];omega
 clear hm hl hx hg e5 e4 e3;go_enter Tryz.func154,Tryz.ntmps154;go_wp2_with fail;refine(z1I A n c l _ HN.out HL.out H).mono ?_;rintro e w' ⟨rfl,rfl⟩;rw[hb.out];go_wp2_with fail;refine(count_any A n c l _ HM.out H).mono ?_;rintro e w1 ⟨rfl,b1⟩;have B1:=hid b1;clear b1;have T1:=hid (Tb.made w1 (c0 l n));go_wp2_with (first|(refine z0q rfl _ _ rfl _ (c0 l n) rfl rfl ?_)|(refine z0n _ rfl rfl _ rfl (c0 l n) T1.out ?_));clear hz;refine(z0U (c0 l n) _ HC.out).mono ?_;rintro e w2 ⟨rfl,b2⟩;rw[HG.out];have B2:=hid b2;have T2:=hid (T1.out.below b2 (by simp));have hc1:=T2.out.cell (show 1<16 by decide);rw[←HX.out] at hc1;clear b2;go_wp2_with fail;go_ret;exact⟨rfl,(B1.out.alloc B1.out.size _).trans (B2.out.mono (qK B1.out.size (by simp)))⟩
theorem z52(A:Option Addr)(n c:Nat)(l:Nat→Nat)(W:World)(hn:n≤maxLen)(hl:∀i,l i≤255)(H:z09 W .u8 A n (fun i=>(l i:Int))):
 Calls Tryz.prog 154 #[.slice A n c] W fun e w'=>e=.returned (.int .u8 (kind l n))∧Below W.heap.size W w':=by
 by_cases hm:May l n
 · have hk:=z2o hm
   obtain⟨g,hg⟩:∃g,g=z03 l n:=⟨_,rfl⟩
   obtain⟨x,hx⟩:∃x,x=c0 l n 1:=⟨_,rfl⟩
   rw[←hg,←hx] at hk;by_cases e0:g=0
   · rw[hk,if_pos e0];exact z51 A n c l W hl H hm g x hg hx e0
   rw[if_neg e0] at hk;by_cases e1:32768<g
   · rw[hk,if_pos e1];exact z50 A n c l W hl H hm g x hg hx e1
   rw[if_neg e1] at hk;by_cases e2:g=32768
   · rw[hk,if_pos e2];exact z3L A n c l W hl H hm g x hg hx e2
   rw[if_neg e2] at hk;by_cases e4:x=1
   · by_cases e3:g=16384
     · rw[hk,if_pos ⟨e4,e3⟩];exact z60 A n c l W hl H hm g x hg hx e3 e4
     · rw[hk,if_neg (fun q=>e3 q.2)];exact z3M A n c l W hl H hm g x hg hx e0 (by omega) e4 e3
   · rw[hk,if_neg (fun q=>e4 q.1)];exact z3N A n c l W hl H hm g x hg hx e0 (by omega) e4
 · exact z61 A n c l W hn hl H hm
end Go.Proofs.YtacelhaidcmbcaaGreatDoor
namespace Go.Proofs.YtacelhaidcmbcaaGreatDoor
open Go.RowKit M
theorem za2{m i0 x:Nat}(P:Nat→Prop)[DecidablePred P](h0:i0<m)(hp:P i0)(hu:∀i,i<m→P i→i=i0):sm (fun i=>if P i then x else 0) m=x:=by
 induction m with
 |zero=>omega
 |succ m ih=>
  simp only[sm];by_cases q:i0=m
  · subst q
    rw[if_pos hp,sm_congr i0 (g:=fun _=>0) (fun i hi=>if_neg (fun g=>by have:=hu i (by omega) g;omega)),z1H];omega
  · rw[ih (by omega) (fun i hi g=>hu i (by omega) g),if_neg (fun g=>q (hu m (by omega) g).symm)];omega
theorem zfQ(F:Nat→Nat){n a:Nat}(h:a<n):sm (fun s=>if a=s then F s else 0) n=F a:=by
 rw[sm_congr n (g:=fun s=>if a=s then F a else 0) (fun s _=>by by_cases q:a=s<;>simp[q])];exact za2 (fun s=>a=s) h rfl (fun i _ g=>g.symm)
section
variable {c:Nat→Nat} {n m L K:Nat} {e:Nat→Nat×Nat}
theorem zhG(h:z2x c n m e)(F:Nat→Nat)(hF:∀s,s<n→c s=0→F s=0):sm F n=sm (fun i=>F (ly e i)) m:=by
 have h1:∀s,s<n→sm (fun i=>if ly e i=s then F s else 0) m=F s:=by
  intro s hs;by_cases q:c s=0
  · rw[hF s hs q]
    rw[sm_congr m (g:=fun _=>0) (fun i _=>by split<;>rfl),z1H]
  · obtain⟨i,hi,r⟩:=h.all s hs (Nat.pos_of_ne_zero q)
    exact za2 (fun i=>ly e i=s) hi r (fun j hj g=>zb9 h j i hj hi (g.trans r.symm))
 rw[←sm_congr n h1,za1];exact sm_congr m (fun i hi=>zfQ F (h.is_ i hi).1)
theorem z4N(h:z2x c n m e)(hL:nds m≤L)(h1:1≤L){s:Nat}(hs:s<n):pl m e L s=0↔c s=0:=by
 constructor
 · intro g
   apply Classical.byContradiction
   intro q;obtain⟨i,hi,rfl⟩:=h.all s hs (Nat.pos_of_ne_zero q);by_cases h2:2≤m
   · have hp:=zi4 (zeP (g:=ly e) (zb8 h)) (by rw[z05];exact h2) (k:=L) (i:=i) (z0x _ L (by rw[z05];exact(z1d h1).1 hL)) (by rw[z05];exact hi)
     rw[z05] at hp;have:=z6G h h2 hL h1 hi;unfold ly at this;rw[g] at this;unfold ly at hp;omega
   · unfold pl at g
     rw[if_neg (by omega),if_pos (by omega),if_pos (by unfold ly;rw[show i=0 by omega])] at g;omega
 · intro g
   refine zaC h hL h1 (fun i hi q=> ?_);have:=(h.is_ i hi).2.1;unfold ly at q;rw[q] at this;omega
theorem zdk(h:z2x c n m e)(h2:2≤m)(hL:nds m≤L)(h1:1≤L):sm (fun i=>2^(L - pl m e L (ly e i))) m=2^L:=by
 have hk:=zj6 (zeP (g:=ly e) (zb8 h)) L (by rw[z05];omega) (z0x _ L (by rw[z05];exact(z1d h1).1 hL));rw[z05] at hk;rw[←hk];exact sm_congr m (fun i hi=>by rw[z6G h h2 hL h1 hi])
theorem zaB{L K x:Nat}(hx:x≤L)(hK:L≤K):2^(K - x)=2^(L - x)*2^(K - L):=by
 rw[←Nat.pow_add];congr 1;omega
end
theorem z5u(l:Nat→Nat):∀n,z03 l n=sm (fun s=>wt (l s)) n
 |0=>rfl
 |n+1=>by simp only[z03,sm];rw[z5u l n]
theorem zf5(l:Nat→Nat)(x:Nat):∀n,cnt l x n=sm (fun s=>if l s=x then 1 else 0) n
 |0=>rfl
 |n+1=>by
  have:cnt l x (n+1)=cnt l x n+if l n=x then 1 else 0:=rfl
  rw[this,zf5 l x n];rfl
theorem zaD{c:Nat→Nat}{n m L:Nat}{e:Nat→Nat×Nat}(h:z2x c n m e)(hn:n≤320)(hL:nds m≤L)(h1:1≤L)(h15:L≤15):May (pl m e L) n:=⟨hn,fun i _=>qK (z90 h hL h1 i) h15⟩
theorem zaE{c:Nat→Nat}{n m L:Nat}{e:Nat→Nat×Nat}(h:z2x c n m e)(hn:n≤320)(hL:nds m≤L)(h1:1≤L)(h15:L≤15):kind (pl m e L) n=if m=0 then 0 else if m=1 then 1 else 2:=by
 have hw:z03 (pl m e L) n=sm (fun i=>wt (pl m e L (ly e i))) m:=by
  rw[z5u,zhG h _ (fun s hs g=>by rw[(z4N h hL h1 hs).2 g];rfl)]
 rw[z2o (zaD h hn hL h1 h15)];by_cases m0:m=0
 · subst m0
   rw[if_pos rfl,hw];rfl
 rw[if_neg m0];by_cases m1:m=1
 · subst m1
   have hp:pl 1 e L (ly e 0)=1:=by unfold pl;rw[if_neg m0,if_pos rfl,if_pos rfl]
   have w1:z03 (pl 1 e L) n=16384:=by rw[hw];simp only[sm];rw[hp];rfl
   have c1:c0 (pl 1 e L) n 1=1:=by
    unfold c0;rw[if_neg (by omega),zf5,zhG h _ (fun s hs g=>by rw[(z4N h hL h1 hs).2 g,if_neg (by omega)])];simp only[sm];rw[hp];rfl
   rw[if_pos rfl,w1,c1];rfl
 · rw[if_neg m1]
   have h2:2≤m:=by omega
   have w2:z03 (pl m e L) n=32768:=by
    have kr:=zdk h h2 hL h1;rw[hw]
    have e1:sm (fun i=>wt (pl m e L (ly e i))) m=sm (fun i=>2^(L - pl m e L (ly e i))) m*2^(15 - L):=by
     rw[←zeD];refine sm_congr m (fun i hi=> ?_)
     have hne:pl m e L (ly e i)≠0:=fun g=>by
      have:=(z4N h hL h1 (h.is_ i hi).1).1 g;have:=(h.is_ i hi).2.1;omega
     unfold M.wt;rw[if_neg hne];exact zaB (z90 h hL h1 _) h15
    rw[e1,kr,←Nat.pow_add,show L+(15 - L)=15 by omega]
   rw[w2];rfl
def z0Q(w:World)(b n:Nat)(z:Nat→Int):Prop:=w.rowIs b 3 n (fun i=> .int .i64 (z i))
section
variable {w w':World} {b n:Nat} {z y:Nat→Int}
theorem z0Q.lt(h:z0Q w b n z):b<w.heap.size:=World.rowIs.lt h
theorem z0Q.nums(h:z0Q w b n z):z09 w .i64 (some ⟨b,0,none⟩) n z:=fun hn=>
 ⟨b,0,rfl,World.rowIs.lt h,fun i hi=>by rw[Nat.zero_add];exact World.rowIs.cell h hi⟩
theorem z0Q.cell(h:z0Q w b n z){i:Nat}(hi:i<n):w.cell? ⟨b,i,none⟩=some (.int .i64 (z i)):=World.rowIs.cell h hi
theorem z0Q.frozen(h:z0Q w b n z)(i:Nat):w.frozen? ⟨b,i,none⟩=false:=World.rowIs.frozen h i
theorem z0Q.congr(h:z0Q w b n z)(e:∀i,i<n→z i=y i):z0Q w b n y:=World.rowIs.congr h (fun i hi=>by rw[e i hi])
theorem z0Q.made(w:World)(n:Nat):z0Q (w.alloc (.cells (madeCells #[.int .i64 0] n) 3)) w.heap.size n (fun _=>0):=World.rowIs_made w (.int .i64 0) n 3
theorem z0Q.set(h:z0Q w b n z)(i:Nat)(v:Int):z0Q (w.setCell ⟨b,i,none⟩ (.int .i64 v)) b n (fun j=>if j=i then v else z j):=
 World.rowIs.congr (World.rowIs.set h i (.int .i64 v)) (fun j hj=>by by_cases e:j=i<;>simp[e])
theorem z0Q.other(h:z0Q w b n z){a:Addr}(ha:b≠a.block)(v:Value):z0Q (w.setCell a v) b n z:=World.rowIs.setOther h ha v
theorem z0Q.alloc(h:z0Q w b n z)(o:Obj):z0Q (w.alloc o) b n z:=World.rowIs.alloc h o
theorem z0Q.at'(h:z0Q w b n z)(e:w'.heap[b]? =w.heap[b]?):z0Q w' b n z:=World.rowIs.of_block h e
theorem z0Q.below(h:z0Q w b n z){B:Nat}(hb:Below B w w')(hB:b<B):z0Q w' b n z:=h.at' (hb.block b hB)
end
theorem z6M(w:World)(n:Nat)(hn:n≤400):
 (Instr.makeSlice 130 (.int .i64 (n:Int)) (.int .i64 (n:Int))).run Tryz.prog w=.ok (.slice (some ⟨w.heap.size,0,none⟩) n n) (w.alloc (.cells (madeCells #[.int .i64 0] (n*1)) 3)):=
 z1T w Tryz.underlying130 intInfo (by decide) n n qR (by omega)
def il(n:Nat)(F:Nat→Int):List Value:=(List.range n).map fun i=>Value.int .i64 (F i)
theorem z0k(n:Nat)(F:Nat→Int):(il n F).length=n:=by unfold il;simp
theorem z56(n:Nat)(F:Nat→Int)(i:Nat)(h:i<n):(il n F)[i]? =some (.int .i64 (F i)):=by unfold il;simp[h]
theorem zic(n:Nat)(F:Nat→Int):∀u∈il n F,u.oneCell'=true:=by
 intro u hu;obtain⟨i,_,rfl⟩:=List.mem_map.1 hu;rfl
def zgQ(n:Nat)(F G:Nat→Int)(i:Nat):Int:=if i<n then F i else G (i - n)
theorem zid(n m:Nat)(F G:Nat→Int):il n F++il m G=il (n+m) (zgQ n F G):=by
 apply List.ext_getElem?
 intro i;by_cases h1:i<n
 · rw[List.getElem?_append_left (by rw[z0k];exact h1),z56 n F i h1,z56 _ _ i (by omega)]
   unfold zgQ;rw[if_pos h1]
 · rw[List.getElem?_append_right (by rw[z0k];omega),z0k]
   by_cases h2:i<n+m
   · rw[z56 m G _ (by omega),z56 _ _ i h2]
     unfold zgQ;rw[if_neg h1]
   · rw[List.getElem?_eq_none (by rw[z0k];omega),List.getElem?_eq_none (by rw[z0k];omega)]
theorem zdV{n:Nat}{F G:Nat→Int}(h:∀i,i<n→F i=G i):il n F=il n G:=by
 unfold il;apply List.map_congr_left
 intro i hi;rw[h i (List.mem_range.1 hi)]
def Is(base:Nat)(w:World)(v:Value)(n:Nat)(F:Nat→Int):Prop:=w.ownsRow base 3 1 v n (il n F)
section
variable {base:Nat} {w w':World} {v:Value} {n m:Nat} {F G:Nat→Int}
theorem Is.congr(h:Is base w v n F)(e:∀i,i<n→F i=G i):Is base w v n G:=by
 unfold Is at h ⊢;rw[←zdV e];exact h
theorem Is.alloc(h:Is base w v n F)(o:Obj):Is base (w.alloc o) v n F:=World.ownsRow.alloc h o
theorem Is.drewN(h:Is base w v n F)(k:Nat):Is base (w.drewN k) v n F:=h
theorem Is.nil(base:Nat)(w:World)(F:Nat→Int):Is base w (.slice none 0 0) 0 F:=World.ownsRow_nil w base _ 1
theorem Is.cap{g cap:Nat}(h:Is base w (.slice (some ⟨g,0,none⟩) n cap) n F):n≤cap∧cap≤maxLen:=by
 rcases h.2 with⟨h',_⟩|⟨g',cap',cur,h',_,_,hnc,hcm,_⟩
 · simp at h'
 · simp only[Value.slice.injEq,Option.some.injEq,Addr.mk.injEq,and_true,true_and] at h'
   obtain⟨rfl,rfl⟩:=h';exact⟨hnc,hcm⟩
theorem Is.cell{g cap:Nat}(h:Is base w (.slice (some ⟨g,0,none⟩) n cap) n F){i:Nat}(hi:i<n):w.cell? ⟨g,i,none⟩=some (.int .i64 (F i)):=by
 rw[World.ownsRow.cellAt h i (by omega),z56 n F i hi]
theorem Is.frozen{g cap:Nat}(h:Is base w (.slice (some ⟨g,0,none⟩) n cap) n F)(i:Nat):w.frozen? ⟨g,i,none⟩=false:=World.ownsRow.frozenAt h i
theorem Is.lt{g cap:Nat}(h:Is base w (.slice (some ⟨g,0,none⟩) n cap) n F):base≤g∧g<w.heap.size:=World.ownsRow.lt h g rfl
theorem Is.nums{g cap:Nat}(h:Is base w (.slice (some ⟨g,0,none⟩) n cap) n F):z09 w .i64 (some ⟨g,0,none⟩) n F:=fun hn=>
 ⟨g,0,rfl,h.lt.2,fun i hi=>by rw[Nat.zero_add];exact h.cell hi⟩
theorem Is.set{g cap:Nat}(h:Is base w (.slice (some ⟨g,0,none⟩) n cap) n F)(j:Nat)(x:Int):Is base (w.setCell ⟨g,j,none⟩ (.int .i64 x)) (.slice (some ⟨g,0,none⟩) n cap) n (fun i=>if i=j then x else F i):=by
 have h2:=(World.ownsRow.stored h j (.int .i64 x)).1
 have e:(il n F).set j (.int .i64 x)=il n (fun i=>if i=j then x else F i):=by
  apply List.ext_getElem?
  intro i;rw[List.getElem?_set,z0k];by_cases hi:i<n
  · by_cases e:j=i
    · subst e
      rw[if_pos rfl,if_pos hi,z56 _ _ _ hi,if_pos rfl]
    · rw[if_neg e,z56 _ _ _ hi,z56 _ _ _ hi,if_neg (fun q=>e q.symm)]
  · have h1:(il n F)[i]? =none:=List.getElem?_eq_none (by rw[z0k];omega)
    have h2:(il n fun k=>if k=j then x else F k)[i]? =none:=List.getElem?_eq_none (by rw[z0k];omega);rw[h1,h2];by_cases e:j=i
    · rw[if_pos e,if_neg (by omega)]
    · rw[if_neg e]
 unfold Is;rw[←e];exact h2
end
theorem zfT(w:World)(ty:TypeId)(base:Nat)(v:Value)(n:Nat)(F:Nat→Int)(hown:Is base w v n F)(ad:Addr)(m c:Nat)(G:Nat→Int)(hG:∀j,j<m→w.cell? (ad.add j)=some (.int .i64 (G j)))(hm:n+m≤1000)(hb:base≤w.heap.size):
 ∃v' w',(Builtin.append_ #[130,130] ty #[v,.slice (some ad) m c]).run Tryz.prog w=.ok v' w'∧Is base w' v' (n+m) (zgQ n F G)∧w.grownBy w' v.ownBlock∧Below base w w'∧(v'.ownBlock=v.ownBlock∨v'.ownBlock=some w.heap.size):=by
 obtain⟨i,h1,h2,h3,h4⟩:=info_of intInfo
 obtain⟨v',w',r1,r2,r3,_,r5⟩:=run_append_own_at (P:= Tryz.prog) w base 130 ty 3 i _ 1 8 Tryz.underlying130 h1 h2 h3 h4 rfl (by decide) v n (il n F) hown ad m c (il m G) (by rw[z0k];omega)
  (fun j u hu=>by
   have hj:j<m:=by have:=(List.getElem?_eq_some_iff.1 hu).1;rwa [z0k] at this
   rw[z56 m G j hj] at hu;rw[hG j hj];exact hu) (zic m G) (by unfold maxLen;omega) (by omega) hb
 refine⟨v',w',r1,?_,r3,(Below.refl base w).grown r3 hb (fun k hk=>(World.ownsRow.lt hown k hk).1),r5⟩;unfold Is;rw[←zid];exact r2
theorem zhm{o:Oper}{a:Act}{w:World}{K:Act→World→Prop}{Q:Exit→Act→World→Prop}{d:Option Tmp}(hd:o.dst=d)(s x:Operand)(ho:o.op=.call {callee:=.builtin .append,args:= #[s,x],argTypes:= #[130,130]})
 (base:Nat) (v:Value) (n:Nat) (F:Nat→Int) (hs:a.eval s=v) (hown:Is base w v n F) (ad:Addr) (m c:Nat) (G:Nat→Int) (hx:a.eval x=.slice (some ad) m c) (hG:∀j,j<m→w.cell? (ad.add j)=some (.int .i64 (G j))) (hm:n+m≤1000) (hb:base≤w.heap.size)
 (h:∀v' w',Is base w' v' (n+m) (zgQ n F G)→w.grownBy w' v.ownBlock→Below base w w'→(v'.ownBlock=v.ownBlock∨v'.ownBlock=some w.heap.size)→K (a.put d v') w'):o.wp Tryz.prog a w K Q:=by
 obtain⟨v',w',r1,r2,r3,r4,r5⟩:=zfT w o.type base v n F hown ad m c G hG hm hb;unfold Oper.wp execOp;simp only[ho,resolve,invoke,builtin,Sem.run_bind,Sem.run_pure,Result.andThen_ok,List.map_toArray,List.map_cons,List.map_nil,hs,hx,r1];subst hd;exact h v' w' r2 r3 r4 r5
theorem z8D{ops:Array Oper}{rest:List Oper}{o:Oper}{a:Act}{w:World}{Q:Exit→Act→World→Prop}(hgd:o.guard=none)(s x:Operand)(ho:o.op=.call {callee:=.builtin .append,args:= #[s,x],argTypes:= #[130,130]})
 (base:Nat) (v:Value) (n:Nat) (F:Nat→Int) (hs:a.eval s=v) (hown:Is base w v n F) (ad:Addr) (m c:Nat) (G:Nat→Int) (hx:a.eval x=.slice (some ad) m c) (hG:∀j,j<m→w.cell? (ad.add j)=some (.int .i64 (G j))) (hm:n+m≤1000) (hb:base≤w.heap.size)
 (h:∀v' w',Is base w' v' (n+m) (zgQ n F G)→w.grownBy w' v.ownBlock→Below base w w'→(v'.ownBlock=v.ownBlock∨v'.ownBlock=some w.heap.size)→wpList Tryz.prog ops Q rest (a.put o.dst v') w'):wpList Tryz.prog ops Q (o::rest) a w:=
 wpList_plain hgd fun _ hK=>zhm rfl s x ho base v n F hs hown ad m c G hx hG hm hb fun v' w' h1 h2 h3 h4=>hK _ _ (h v' w' h1 h2 h3 h4)
theorem zgm(w:World)(x:Int):∀j,j<1→(w.alloc (.cells #[.int .i64 x] 3)).cell? ((⟨w.heap.size,0,none⟩:Addr).add j)=some (.int .i64 x):=by
 intro j hj;obtain rfl:j=0:=by omega
 simp[Addr.add]
end Go.Proofs.YtacelhaidcmbcaaGreatDoor
namespace Go.Proofs.YtacelhaidcmbcaaGreatDoor
open Go.Lib (hid)
open Go.RowKit M
theorem zhV{n k:Nat}(h1:1≤k)(h2:n≤2^k)(h3:1≤n)(h4:k=1∨2^(k - 1)<n):nds n=k:=by
 have a:=(z1d h1).2 h2;have b:1≤nds n:=by unfold nds;rw[if_neg (by omega)];exact Nat.le_max_left _ _
 by_cases q:k=1
 · omega
 · have d:=mt (z1d (n:=n) (k:=k - 1) (by omega)).1 (by omega)
   omega
theorem z8W(n:Int)(w:World)(h0: -9223372036854775808≤n)(h1:n≤1099511627776):Calls Tryz.prog 83 #[.int .i64 n] w fun e w'=>e=.returned (.int .i64 (nds n.toNat))∧w=w':=by
 by_cases h:n<1
 · have hv:=hid (z7W h)
   go_enter Tryz.func83,Tryz.ntmps83;go_wp2_with fail;go_ret;exact⟨by rw[hv.out];rfl,rfl⟩
 · go_enter Tryz.func83,Tryz.ntmps83
   go_wp2_with fail
   go_loop [3,4] (fun q r=> ∃k x:Nat,q=.int .i64 k∧r=.int .i64 x∧1≤k∧k≤41∧x≤2199023255552∧Hid (x=2^k∧(k=1∨2^(k - 1)<n.toNat))) (fun q _=>41 - (intOf q).toNat)
   case atStart=>exact⟨1,2,rfl,rfl,by omega,by omega,by omega,hid ⟨rfl,.inl rfl⟩⟩
   case round=>
    obtain⟨k,x,rfl,rfl,k1,k2,x2,HX⟩:=hrel;by_cases hlt:(x:Int)<n
    · have hk:k<40:=by
       have e:=HX.out.1;have g:(2:Nat)^40=1099511627776:=rfl;have:2^k<2^40:=by rw[←e];omega
       exact(Nat.pow_lt_pow_iff_right (by decide)).1 this
      go_wp2_with fail
      go_round
      case rel=>exact⟨k+1,2*x,by go_num,by go_num,by omega,by omega,by omega,hid ⟨by rw[HX.out.1,Nat.pow_succ];omega,.inr (by rw[Nat.add_sub_cancel,←HX.out.1];omega)⟩⟩
      case measure=>simp[intOf];omega
    · have HV:=hid (zhV (n:=n.toNat) k1 (by rw[←HX.out.1];omega) (by omega) HX.out.2)
      go_wp2_with fail;go_ret;exact⟨by rw[HV.out];rfl,rfl⟩
theorem Is.parts{base:Nat}{w:World}{v:Value}{n:Nat}{F:Nat→Int}(h:Is base w v n F):(v=.slice none 0 0∧n=0)∨∃g cap,v=.slice (some ⟨g,0,none⟩) n cap:=by
 rcases h.2 with⟨h1,h2⟩|⟨g,cap,cur,rfl,_⟩
 · exact .inl ⟨h1,h2⟩
 · exact .inr ⟨g,cap,rfl⟩
theorem zfK(e1:Nat→Nat×Nat){j z i:Nat}(hz:j - 1=z)(hj:0<j)(q2:j≤i)(t:Nat):(if t=z then(((mvd e1 j i) j).2:Int) else if t=j then(((mvd e1 j i) z).2:Int) else(((mvd e1 j i) t).2:Int))=((mvd e1 z i t).2:Int):=by
 have h:=z2G e1 hj q2 t;rw[hz] at h;rw[←h];unfold swp;by_cases a:t=z
 · rw[if_pos a]
   by_cases b:t=j
   · omega
   · simp only[if_neg b,if_pos a]
 · rw[if_neg a]
   by_cases b:t=j
   · simp only[if_pos b]
   · simp only[if_neg b,if_neg a]
theorem zd0(A:Option Addr)(n c':Nat)(c:Nat→Nat)(W:World)(hn:n≤320)(hc:∀i,c i≤1073741824)(H:z09 W .i64 A n (fun i=>(c i:Int))):
 Calls Tryz.prog 82 #[.slice A n c'] W fun x w'=> ∃v m e,x=.returned v∧z2x c n m e∧Is W.heap.size w' v m (fun i=>((e i).2:Int))∧Below W.heap.size W w':=by
 have HC:=hid hc;have HA:=hid H;clear hc H;go_enter Tryz.func82,Tryz.ntmps82;go_wp2_with fail
 go_loopw [3,4] (fun v i wr=> ∃ (k m:Nat) (e:Nat→Nat×Nat),i=.int .i64 k∧k≤n∧Hid (Is W.heap.size wr v m (fun i=>((e i).2:Int))∧Raw c k m e∧Below W.heap.size W wr)) (fun v i _=>n - (intOf i).toNat)
 case atStart=>exact⟨0,0,fun _=>(0,0),rfl,qZ,hid ⟨Is.nil _ _ _,Raw.none _ _,Below.refl _ _⟩⟩
 case round=>
  obtain⟨k,m,e,rfl,hk,HB⟩:=hrel;by_cases hlt:k<n
  · obtain⟨b,o,rfl,hb,hc1⟩:=HA.out (by omega)
    have hcell:wr.cell? ⟨b,o+k,none⟩=some (.int .i64 (c k)):=(HB.out.2.2.cell hb).trans (hc1 k hlt);have h30:=HC.out k;clear hc1;obtain⟨x,hx⟩:∃x,c k=x:=⟨_,rfl⟩
    rw[hx] at hcell h30;have HX:=hid hx;clear hx;by_cases h0:0<x
    · have hsz:=HB.out.2.2.size
      have HO:=hid (HB.out.1.alloc (.cells #[.int .i64 k] 3));have HT:=hid (zgm wr k);have HS:=hid (show W.heap.size≤(wr.alloc (.cells #[.int .i64 k] 3)).heap.size by simp;omega);have HM:=hid (show m+1≤1000 by have:=HB.out.2.1.le;omega);clear hsz;go_wp2_with (at_builtin;refine z8D rfl _ _ rfl W.heap.size _ m (fun i=>((e i).2:Int)) rfl HO.out _ 1 1 (fun _=>(k:Int)) rfl HT.out HM.out HS.out ?_;intro v2 w2 o2 g2 b2 q2;have O2:=hid o2;have B2:=hid b2;clear o2 g2 b2 q2);go_roundw
      case rel=>
       refine⟨k+1,m+1,fun i=>if i=m then(c k,k) else e i,by go_num,by omega,hid ⟨O2.out.congr (fun i hi=> ?_),HB.out.2.1.more (k:=k) (by rw[HX.out];exact h0),(HB.out.2.2.alloc HB.out.2.2.size _).trans B2.out⟩⟩;unfold zgQ;by_cases q:i=m
       · rw[if_neg (by omega)];simp only[if_pos q]
       · rw[if_pos (by omega)];simp only[if_neg q]
      case measure=>simp[intOf];omega
    · obtain rfl:x=0:=by omega
      go_wp2_with fail;go_roundw
      case rel=>exact⟨k+1,m,e,by go_num,by omega,hid ⟨HB.out.1,HB.out.2.1.skip HX.out,HB.out.2.2⟩⟩
      case measure=>simp[intOf];omega
  · obtain rfl:k=n:=by omega
    rcases HB.out.1.parts with⟨rfl,rfl⟩|⟨g,cap,rfl⟩
    · have HL:=hid (HB.out.2.1.lv (e':=e) (fun i j h1 h2 h3=>by omega) ⟨fun i h1 h2=>by omega,fun i h1 h2=>by omega⟩)
      go_wp2_with fail
      go_loopw [5] (fun v ws=>v=.int .i64 0∧ws=wr) (fun _ _=>0)
      case atStart=>exact⟨rfl,rfl⟩
      case round=>
       obtain⟨rfl,rfl⟩:=hrel;go_wp2_with fail;go_ret;exact⟨_,0,e,rfl,HL.out,HB.out.1,HB.out.2.2⟩
    · have hm:m≤320:=by have:=HB.out.2.1.le;omega
      have mcap:=HB.out.1.cap.1;have hi1:=HB.out.1;have hb1:=HB.out.2.2;have RW:=hid HB.out.2.1;have hgw:=hi1.lt.1;clear HB;go_wp2_with fail
      go_loopw [5] (fun v wr=> ∃ (i:Nat) (e1:Nat→Nat×Nat),v=.int .i64 i∧i≤m∧Is W.heap.size wr (.slice (some ⟨g,0,none⟩) m cap) m (fun t=>((e1 t).2:Int))∧Hid (Ord e1 0 i∧z0O e e1 0 i∧Below W.heap.size W wr)) (fun v _=>321 - (intOf v).toNat)
      case atStart=>exact⟨0,e,rfl,qZ,hi1,hid ⟨fun i j h1 h2 h3=>by omega,z0O.refl _ _ _,hb1⟩⟩
      case round=>
       clear hi1 hb1;obtain⟨i,e1,rfl,p2,hi,HI⟩:=hrel;by_cases c1:i<m
       · have HL:=hid hi
         clear hi p2
         have HR:Hid (∀t,0≤t→t<i→(e1 t).1=(e1 i).1→(e1 t).2<(e1 i).2):=hid (fun t g1 g2 _=>by
          obtain⟨ho,hs,hk⟩:=HI.out;obtain⟨j,j1,j2,q⟩:=hs.fro t g1 g2;rw[q,hs.out i (.inr qR)];exact RW.out.inc j i j2 c1)
         have HE:Hid (∀t,t<m→(e1 t).2<k∧(e1 t).1=c (e1 t).2):=hid (fun t ht=>by
          obtain⟨ho,hs,hk⟩:=HI.out;obtain⟨j,j1,j2,q⟩:=(hs.wide qR (Nat.le_of_lt c1)).fro t qZ ht;rw[q];have:=RW.out.is_ j j2;exact⟨this.1,this.2.2⟩)
         go_wp2_with fail
         go_loopw [6] (fun v ws=> ∃ (j:Nat),v=.int .i64 j∧j≤i∧Is W.heap.size ws (.slice (some ⟨g,0,none⟩) m cap) m (fun t=>((mvd e1 j i t).2:Int))∧Hid ((∀t,j≤t→t<i→(e1 i).1<(e1 t).1)∧Below W.heap.size W ws)) (fun v _=>(intOf v).toNat)
         case atStart=>exact⟨i,rfl,qR,HL.out.congr (fun t _=>by rw[z4S]),hid ⟨fun t g1 g2=>by omega,HI.out.2.2⟩⟩
         case round=>
          obtain⟨j,rfl,q2,hl,HJ⟩:=hrel;by_cases c2:0<j
          · obtain⟨z,hz⟩:∃z,j - 1=z:=⟨_,rfl⟩
            have hzm:z<m:=by omega
            have hjm:j<m:=by omega
            have hzj:z<j:=by omega
            obtain⟨b,o,rfl,hb,hc1⟩:=HA.out (by have:=RW.out.le;omega);have x1:=hl.cell hjm;have y1:=hl.cell hzm;have fx:=hl.frozen j;have fy:=hl.frozen z;have hv1:mvd e1 j i j=e1 i:=by unfold mvd;rw[if_pos rfl]
            have hv2:mvd e1 j i z=e1 z:=by unfold mvd;rw[if_neg (by omega),if_neg (by omega)]
            have hc2:∀s,s<k→W.cell? ⟨b,o+s,none⟩=some (.int .i64 (c s)):=hc1;have ei:=HE.out i c1;have ez:=HE.out z hzm;have cx:=(HJ.out.2.cell hb).trans (hc2 _ ei.1);have cz:=(HJ.out.2.cell hb).trans (hc2 _ ez.1);simp only[hv1] at x1;simp only[hv2] at y1;rw[←ei.2] at cx;rw[←ez.2] at cz
            have HS3:=hid (((hl.set j ((e1 z).2:Int)).set z ((e1 i).2:Int)).congr (G:=fun t=>((mvd e1 z i t).2:Int)) (fun t _=>by
             have:=zfK e1 hz c2 q2 t;rw[hv1,hv2] at this;exact this))
            have HB3:=hid ((HJ.out.2.setCell (p:=⟨g,j,none⟩) hgw (.int .i64 ((e1 z).2:Int))).setCell (p:=⟨g,z,none⟩) hgw (.int .i64 ((e1 i).2:Int)));obtain⟨u1,hu1⟩:∃u,(e1 i).1=u:=⟨_,rfl⟩
            obtain⟨u2,hu2⟩:∃u,(e1 i).2=u:=⟨_,rfl⟩
            obtain⟨v1,hw1⟩:∃u,(e1 z).1=u:=⟨_,rfl⟩
            obtain⟨v2,hw2⟩:∃u,(e1 z).2=u:=⟨_,rfl⟩
            rw[hu2] at x1 cx HS3 HB3 ei;rw[hw2] at y1 cz HS3 HB3 ez;rw[hu1] at cx;rw[hw1] at cz;have HU:=hid (And.intro hu1 hw1);have HZ:=hid hz;have HL2:=hid hl;have e1n:=ei.1;have e2n:=ez.1;have ez1:IntKind.i64.wrap ((j:Int) - 1)=(z:Int):=by rw[IntWalk.i64_in _ (by omega)];omega
            have ez2:(j:Int) - 1=(z:Int):=by omega
            have hjz:j≠z:=by omega
            clear hl hv1 hv2 hu1 hu2 hw1 hw2 hz ei ez hc1 hc2;have g2:decide (0<j)=true:=q9T c2;by_cases c3:u1<v1
            · have d3:decide ((u1:Int)<(v1:Int))=true:=q9T (by omega)
              have d4:decide (u1<v1)=true:=q9T c3;go_wp2_with fail
              go_quiet (fail)
              go_wp2_with fail;go_roundw
              case rel=>exact⟨z,by go_num,by omega,HS3.out.drewN _,hid ⟨fun t g1 g2=>by
               by_cases q:t=z
               · rw[q,HU.out.1,HU.out.2];exact c3
               · exact HJ.out.1 t (by have:=HZ.out;omega) g2,z00 HB3.out _⟩⟩
              case measure=>simp[intOf];omega
            · have d3:decide ((u1:Int)<(v1:Int))=false:=qF (by omega)
              have d4:decide (u1<v1)=false:=qF c3;have ST:=hid (z54 (a:=0) (d:=i+1) (by omega) (by omega) HI.out.1 (by rw[Nat.min_eq_left (by omega)];exact HI.out.2.1) HR.out qZ q2 HJ.out.1 (.inr (by rw[HZ.out,HU.out.1,HU.out.2];exact c3)));go_wp2_with fail
              go_quiet (fail)
              go_wp2_with fail;go_roundw
              case rel=>exact⟨i+1,_,by go_num,by omega,HL2.out.drewN _,hid ⟨ST.out.1,by have:=ST.out.2;rwa [Nat.min_self] at this,z00 HJ.out.2 _⟩⟩
              case measure=>simp[intOf];omega
          · obtain rfl:j=0:=by omega
            have HL2:=hid hl;have ST:Hid (Ord (mvd e1 0 i) 0 (i+1)∧z0O e (mvd e1 0 i) 0 (i+1)):=hid ⟨z4T HI.out.1 HR.out qZ qZ HJ.out.1 (.inl rfl),(HI.out.2.1.wide qR (by omega)).trans (z2H e1 qZ qZ (by omega))⟩;clear hl;go_wp2_with fail
            go_quiet (fail)
            go_wp2_with fail;go_roundw
            case rel=>exact⟨i+1,_,by go_num,by omega,HL2.out.drewN _,hid ⟨ST.out.1,ST.out.2,z00 HJ.out.2 _⟩⟩
            case measure=>simp[intOf];omega
       · obtain rfl:i=m:=by omega
         have HF:=hid (RW.out.lv (e':=e1) HI.out.1 HI.out.2.1.mem);have HL:=hid hi;clear hi;go_wp2_with fail;go_ret;exact⟨_,i,e1,rfl,HF.out,HL.out,HI.out.2.2⟩
def two(a b:Value)(i:Nat):Value:=if i=0 then a else b
def R2(w:World)(g:Nat)(a b:Value):Prop:=w.rowIs g 174 2 (two a b)
section
variable {w w':World} {g:Nat} {a b:Value}
theorem R2.new(w:World)(a b:Value):R2 (w.alloc (.cells #[a,b] 174)) w.heap.size a b:=⟨#[a,b],heap_alloc_new _ _,rfl,fun i hi=>by
 match i,hi with
 |0,_=>rfl
 |1,_=>rfl⟩
theorem R2.alloc(h:R2 w g a b)(o:Obj):R2 (w.alloc o) g a b:=World.rowIs.alloc h o
theorem R2.drew(h:R2 w g a b):R2 w.drew g a b:=h
theorem R2.other(h:R2 w g a b){x:Addr}(hx:g≠x.block)(u:Value):R2 (w.setCell x u) g a b:=World.rowIs.setOther h hx u
theorem R2.at0(h:R2 w g a b):w.cell? ⟨g,0,none⟩=some a:=World.rowIs.cell h (i:=0) (by omega)
theorem R2.at1(h:R2 w g a b):w.cell? ⟨g,1,none⟩=some b:=World.rowIs.cell h (i:=1) (by omega)
theorem R2.frozen(h:R2 w g a b)(i:Nat):w.frozen? ⟨g,i,none⟩=false:=World.rowIs.frozen h i
theorem R2.put(h:R2 w g a b)(c d:Value):R2 ((w.setCell ⟨g,0,none⟩ c).setCell ⟨g,1,none⟩ d) g c d:=
 World.rowIs.congr (World.rowIs.set (World.rowIs.set h 0 c) 1 d) (fun j hj=>by
  match j,hj with
  |0,_=>rfl
  |1,_=>rfl)
theorem R2.row(h:R2 w g a b):w.heap[g]? =some (.cells #[a,b] 174 (0,0)):=by
 obtain⟨c,h1,h2,h3⟩:=h
 have:c= #[a,b]:=by
  apply Array.ext_getElem?
  intro i
  match i with
  |0=>exact h3 0 (by omega)
  |1=>exact h3 1 (by omega)
  |i+2=>rw[Array.getElem?_eq_none (by omega),Array.getElem?_eq_none (by simp)]
 rw[h1,this]
end
theorem z2b:(Tryz.prog.info? 174).map (fun i=>i.size)=some 2:=by kernel_rfl
theorem z8K:(Tryz.prog.info? 174).map (fun i=>(i.zero,i.size,i.bytes))=some (some (.agg #[.int .i64 0,.slice none 0 0]),2,32):=by kernel_rfl
theorem zai(x k n:Nat)(W:World)(hn:n≤320)(hk:k<n):
 Calls Tryz.prog 84 #[.int .i64 x,.int .i64 k,.int .i64 n] W fun e w'=> ∃g,e=.returned (.agg #[.int .i64 x,.slice (some ⟨g,0,none⟩) n n])∧W.heap.size≤g∧Br w' g n (fun j=>if j=k then 1 else 0)∧Below W.heap.size W w':=by
 have hmk:=fun w=>z19 w n (by omega)
 have mg:(madeCells #[Value.int .u8 0] n)[k]? =some (.int .u8 0):=by simp[madeCells,hk,Nat.mod_one]
 have HB:=hid (Br.made1 (W.alloc (.cells #[.int .i64 x,.slice (some ⟨W.heap.size+1,0,none⟩) n n] 174)) n k hk);have HR:=hid (R2.new W (.int .i64 x) (.slice (some ⟨W.heap.size+1,0,none⟩) n n));go_enter Tryz.func84,Tryz.ntmps84;go_wp2_with fail;refine bodyPost_ret (v:=.agg #[.int .i64 x,.slice (some ⟨W.heap.size+1,0,none⟩) n n]) (results_cell_row rfl _ _ W.heap.size _ _ _ _ rfl ((HR.out.alloc _).alloc _).row Tryz.underlying174 rfl z2b) rfl ⟨_,rfl,by omega,?_,?_⟩
 · have h:=HB.out
   rw[show(W.alloc (.cells #[.int .i64 x,.slice (some ⟨W.heap.size+1,0,none⟩) n n] 174)).heap.size=W.heap.size+1 by simp] at h;exact h.alloc _
 · exact((qL).alloc (by simp) _).alloc (by simp;omega) _
theorem zap(x y ga gb n:Nat)(f h:Nat→Nat)(W:World)(hn:n≤320)(hx:x≤1125899906842624)(hy:y≤1125899906842624)(H1:Br W ga n f)(H2:Br W gb n h):
 Calls Tryz.prog 114 #[.agg #[.int .i64 x,.slice (some ⟨ga,0,none⟩) n n],.agg #[.int .i64 y,.slice (some ⟨gb,0,none⟩) n n]] W fun e w'=> ∃g,e=.returned (.agg #[.int .i64 ((x+y:Nat):Int),.slice (some ⟨g,0,none⟩) n n])∧W.heap.size≤g∧Br w' g n (fun j=>(f j+h j)%256)∧Below W.heap.size W w':=by
 have hmk:=fun w=>z19 w n (by omega)
 have B1:=hid H1;have B2:=hid H2;have hxy:((x+y:Nat):Int)=(x:Int)+(y:Int):=by omega
 clear H1 H2;go_enter Tryz.func114,Tryz.ntmps114;go_wp2_with fail
 go_region
 all_goals go_wp2_with fail
 all_goals clear hmk
 · go_loopw [6] (fun v wr=> ∃i:Nat,v=.int .i64 i∧i≤n∧R2 wr W.heap.size (.int .i64 x) (.slice (some ⟨ga,0,none⟩) n n)∧R2 wr (W.heap.size+1) (.int .i64 y) (.slice (some ⟨gb,0,none⟩) n n)∧R2 wr (W.heap.size+1+1) (.int .i64 0) (.slice none 0 0)
    ∧R2 wr (W.heap.size+1+1+1+1) (.int .i64 ((x:Int)+(y:Int))) (.slice (some ⟨W.heap.size+1+1+1,0,none⟩) n n)∧Br wr (W.heap.size+1+1+1) n (fun j=>if j<i then(f j+h j)%256 else 0)∧Below W.heap.size W wr) (fun v _=>n - (intOf v).toNat)
   case atStart=>
    refine⟨0,rfl,qZ,?_,?_,?_,?_,?_,?_⟩
    · exact((((R2.new W _ _).alloc _).alloc _).alloc _).alloc _
    · have q:=R2.new (W.alloc (.cells #[.int .i64 x,.slice (some ⟨ga,0,none⟩) n n] 174)) (.int .i64 y) (.slice (some ⟨gb,0,none⟩) n n)
      rw[show(W.alloc (.cells #[.int .i64 x,.slice (some ⟨ga,0,none⟩) n n] 174)).heap.size=W.heap.size+1 by simp] at q;exact((q.alloc _).alloc _).alloc _
    · have q:=R2.new ((W.alloc (.cells #[.int .i64 x,.slice (some ⟨ga,0,none⟩) n n] 174)).alloc (.cells #[.int .i64 y,.slice (some ⟨gb,0,none⟩) n n] 174)) (.int .i64 0) (.slice none 0 0)
      rw[show((W.alloc (.cells #[.int .i64 x,.slice (some ⟨ga,0,none⟩) n n] 174)).alloc (.cells #[.int .i64 y,.slice (some ⟨gb,0,none⟩) n n] 174)).heap.size=W.heap.size+1+1 by simp] at q;exact(q.alloc _).alloc _
    · have q:=R2.new ((((W.alloc (.cells #[.int .i64 x,.slice (some ⟨ga,0,none⟩) n n] 174)).alloc (.cells #[.int .i64 y,.slice (some ⟨gb,0,none⟩) n n] 174)).alloc (.cells #[.int .i64 0,.slice none 0 0] 174)).alloc (.cells (madeCells #[.int .u8 0] n) 5)) (.int .i64 ((x:Int)+(y:Int))) (.slice (some ⟨W.heap.size+1+1+1,0,none⟩) n n)
      rw[show((((W.alloc (.cells #[.int .i64 x,.slice (some ⟨ga,0,none⟩) n n] 174)).alloc (.cells #[.int .i64 y,.slice (some ⟨gb,0,none⟩) n n] 174)).alloc (.cells #[.int .i64 0,.slice none 0 0] 174)).alloc (.cells (madeCells #[.int .u8 0] n) 5)).heap.size=W.heap.size+1+1+1+1 by simp] at q;exact q
    · have q:=Br.made' (((W.alloc (.cells #[.int .i64 x,.slice (some ⟨ga,0,none⟩) n n] 174)).alloc (.cells #[.int .i64 y,.slice (some ⟨gb,0,none⟩) n n] 174)).alloc (.cells #[.int .i64 0,.slice none 0 0] 174)) n
      rw[show(((W.alloc (.cells #[.int .i64 x,.slice (some ⟨ga,0,none⟩) n n] 174)).alloc (.cells #[.int .i64 y,.slice (some ⟨gb,0,none⟩) n n] 174)).alloc (.cells #[.int .i64 0,.slice none 0 0] 174)).heap.size=W.heap.size+1+1+1 by simp] at q;exact(q.alloc _).congr (fun i _=>by rw[if_neg (by omega)])
    · exact((((qL).alloc (by simp) _).alloc (by simp;omega) _).alloc (by simp;omega) _).alloc (by simp;omega) _|>.drew
   case round=>
    obtain⟨i,rfl,hi,r1,r2,r3,r4,hb,hw⟩:=hrel;have p0:=r1.at1;have p1:=r2.at1;have p2:=r4.at1;by_cases hlt:i<n
    · have c1:=(B1.out.below hw B1.out.lt).cell hlt
      have c2:=(B2.out.below hw B2.out.lt).cell hlt;have c3:=hb.cell hlt;have f3:=hb.frozen i;obtain⟨u,hu⟩:∃u,f i=u:=⟨_,rfl⟩
      obtain⟨v,hv⟩:∃v,h i=v:=⟨_,rfl⟩
      rw[hu] at c1;rw[hv] at c2
      have HB:=(hb.set i ((u+v)%256)).congr (f':=fun j=>if j<i+1 then(f j+h j)%256 else 0) (fun j _=>by
       by_cases e:j=i
       · rw[if_pos e,if_pos (by omega),e,hu,hv]
       · rw[if_neg e]
         by_cases q:j<i
         · rw[if_pos q,if_pos (by omega)]
         · rw[if_neg q,if_neg (by omega)])
      have e8:(((u+v)%256:Nat):Int)=((u:Int)+(v:Int))%256:=by omega
      have HR1:=hid (r1.other (x:=⟨W.heap.size+1+1+1,i,none⟩) (show W.heap.size≠W.heap.size+1+1+1 by omega) (.int .u8 (((u+v)%256:Nat):Int)));have HR2:=hid (r2.other (x:=⟨W.heap.size+1+1+1,i,none⟩) (show W.heap.size+1≠W.heap.size+1+1+1 by omega) (.int .u8 (((u+v)%256:Nat):Int)));have HR3:=hid (r3.other (x:=⟨W.heap.size+1+1+1,i,none⟩) (show W.heap.size+1+1≠W.heap.size+1+1+1 by omega) (.int .u8 (((u+v)%256:Nat):Int)));have HR4:=hid (r4.other (x:=⟨W.heap.size+1+1+1,i,none⟩) (show W.heap.size+1+1+1+1≠W.heap.size+1+1+1 by omega) (.int .u8 (((u+v)%256:Nat):Int)));have HW:=hid (hw.setCell (p:=⟨W.heap.size+1+1+1,i,none⟩) (show W.heap.size≤W.heap.size+1+1+1 by omega) (.int .u8 (((u+v)%256:Nat):Int)));have HBB:=hid HB;rw[e8] at HR1 HR2 HR3 HR4 HW HBB;clear HB e8 hu hv r1 r2 r3 r4 hb hw;go_wp2_with fail
      go_region
      go_wp2_with fail;go_roundw
      case rel=>exact⟨i+1,by go_num,by omega,HR1.out.drew,HR2.out.drew,HR3.out.drew,HR4.out.drew,HBB.out.drew,HW.out.drew⟩
      case measure=>simp[intOf];omega
    · obtain rfl:i=n:=by omega
      have p3:=r4.at0;have q0:=r3.at0;have q1:=r3.at1;have g0:=r3.frozen 0;have g1:=r3.frozen 1;have HR:=hid (r3.put (.int .i64 ((x:Int)+(y:Int))) (.slice (some ⟨W.heap.size+1+1+1,0,none⟩) i i));have HB:=hid (((hb.other (a:=⟨W.heap.size+1+1,0,none⟩) (show W.heap.size+1+1+1≠W.heap.size+1+1 by omega) (.int .i64 ((x:Int)+(y:Int)))).other (a:=⟨W.heap.size+1+1,1,none⟩) (show W.heap.size+1+1+1≠W.heap.size+1+1 by omega) (.slice (some ⟨W.heap.size+1+1+1,0,none⟩) i i)).congr (f':=fun j=>(f j+h j)%256) (fun j hj=>by rw[if_pos hj]));have HW:=hid ((hw.setCell (p:=⟨W.heap.size+1+1,0,none⟩) (show W.heap.size≤W.heap.size+1+1 by omega) (.int .i64 ((x:Int)+(y:Int)))).setCell (p:=⟨W.heap.size+1+1,1,none⟩) (show W.heap.size≤W.heap.size+1+1 by omega) (.slice (some ⟨W.heap.size+1+1+1,0,none⟩) i i));clear r1 r2 r3 r4 hb hw;go_wp2_with fail;refine bodyPost_ret (v:=.agg #[.int .i64 ((x:Int)+(y:Int)),.slice (some ⟨W.heap.size+1+1+1,0,none⟩) i i]) (results_cell_row rfl _ _ (W.heap.size+1+1) _ _ _ _ rfl HR.out.row Tryz.underlying174 rfl z2b) rfl ⟨_,by rw[hxy],by omega,HB.out,HW.out⟩
 · go_loopw [6] (fun v wr=> ∃i:Nat,v=.int .i64 i∧i≤n∧R2 wr W.heap.size (.int .i64 x) (.slice (some ⟨ga,0,none⟩) n n)∧R2 wr (W.heap.size+1) (.int .i64 y) (.slice (some ⟨gb,0,none⟩) n n)∧R2 wr (W.heap.size+1+1) (.int .i64 0) (.slice none 0 0)
    ∧R2 wr (W.heap.size+1+1+1) (.int .i64 ((x:Int)+(y:Int))) (.slice (some ⟨W.heap.size+1+1+1+1,0,none⟩) n n)∧Br wr (W.heap.size+1+1+1+1) n (fun j=>if j<i then(f j+h j)%256 else 0)∧Below W.heap.size W wr) (fun v _=>n - (intOf v).toNat)
   case atStart=>
    refine⟨0,rfl,qZ,?_,?_,?_,?_,?_,?_⟩
    · exact((((R2.new W _ _).alloc _).alloc _).alloc _).alloc _
    · have q:=R2.new (W.alloc (.cells #[.int .i64 x,.slice (some ⟨ga,0,none⟩) n n] 174)) (.int .i64 y) (.slice (some ⟨gb,0,none⟩) n n)
      rw[show(W.alloc (.cells #[.int .i64 x,.slice (some ⟨ga,0,none⟩) n n] 174)).heap.size=W.heap.size+1 by simp] at q;exact((q.alloc _).alloc _).alloc _
    · have q:=R2.new ((W.alloc (.cells #[.int .i64 x,.slice (some ⟨ga,0,none⟩) n n] 174)).alloc (.cells #[.int .i64 y,.slice (some ⟨gb,0,none⟩) n n] 174)) (.int .i64 0) (.slice none 0 0)
      rw[show((W.alloc (.cells #[.int .i64 x,.slice (some ⟨ga,0,none⟩) n n] 174)).alloc (.cells #[.int .i64 y,.slice (some ⟨gb,0,none⟩) n n] 174)).heap.size=W.heap.size+1+1 by simp] at q;exact(q.alloc _).alloc _
    · have q:=R2.new (((W.alloc (.cells #[.int .i64 x,.slice (some ⟨ga,0,none⟩) n n] 174)).alloc (.cells #[.int .i64 y,.slice (some ⟨gb,0,none⟩) n n] 174)).alloc (.cells #[.int .i64 0,.slice none 0 0] 174)) (.int .i64 ((x:Int)+(y:Int))) (.slice (some ⟨W.heap.size+1+1+1+1,0,none⟩) n n)
      rw[show(((W.alloc (.cells #[.int .i64 x,.slice (some ⟨ga,0,none⟩) n n] 174)).alloc (.cells #[.int .i64 y,.slice (some ⟨gb,0,none⟩) n n] 174)).alloc (.cells #[.int .i64 0,.slice none 0 0] 174)).heap.size=W.heap.size+1+1+1 by simp] at q;exact q.alloc _
    · have q:=Br.made' ((((W.alloc (.cells #[.int .i64 x,.slice (some ⟨ga,0,none⟩) n n] 174)).alloc (.cells #[.int .i64 y,.slice (some ⟨gb,0,none⟩) n n] 174)).alloc (.cells #[.int .i64 0,.slice none 0 0] 174)).alloc (.cells #[.int .i64 ((x:Int)+(y:Int)),.slice (some ⟨W.heap.size+1+1+1+1,0,none⟩) n n] 174)) n
      rw[show((((W.alloc (.cells #[.int .i64 x,.slice (some ⟨ga,0,none⟩) n n] 174)).alloc (.cells #[.int .i64 y,.slice (some ⟨gb,0,none⟩) n n] 174)).alloc (.cells #[.int .i64 0,.slice none 0 0] 174)).alloc (.cells #[.int .i64 ((x:Int)+(y:Int)),.slice (some ⟨W.heap.size+1+1+1+1,0,none⟩) n n] 174)).heap.size=W.heap.size+1+1+1+1 by simp] at q;exact q.congr (fun i _=>by rw[if_neg (by omega)])
    · exact((((qL).alloc (by simp) _).alloc (by simp;omega) _).alloc (by simp;omega) _).alloc (by simp;omega) _|>.drew
   case round=>
    obtain⟨i,rfl,hi,r1,r2,r3,r4,hb,hw⟩:=hrel;have p0:=r1.at1;have p1:=r2.at1;have p2:=r4.at1;by_cases hlt:i<n
    · have c1:=(B1.out.below hw B1.out.lt).cell hlt
      have c2:=(B2.out.below hw B2.out.lt).cell hlt;have c3:=hb.cell hlt;have f3:=hb.frozen i;obtain⟨u,hu⟩:∃u,f i=u:=⟨_,rfl⟩
      obtain⟨v,hv⟩:∃v,h i=v:=⟨_,rfl⟩
      rw[hu] at c1;rw[hv] at c2
      have HB:=(hb.set i ((u+v)%256)).congr (f':=fun j=>if j<i+1 then(f j+h j)%256 else 0) (fun j _=>by
       by_cases e:j=i
       · rw[if_pos e,if_pos (by omega),e,hu,hv]
       · rw[if_neg e]
         by_cases q:j<i
         · rw[if_pos q,if_pos (by omega)]
         · rw[if_neg q,if_neg (by omega)])
      have e8:(((u+v)%256:Nat):Int)=((u:Int)+(v:Int))%256:=by omega
      have HR1:=hid (r1.other (x:=⟨W.heap.size+1+1+1+1,i,none⟩) (show W.heap.size≠W.heap.size+1+1+1+1 by omega) (.int .u8 (((u+v)%256:Nat):Int)));have HR2:=hid (r2.other (x:=⟨W.heap.size+1+1+1+1,i,none⟩) (show W.heap.size+1≠W.heap.size+1+1+1+1 by omega) (.int .u8 (((u+v)%256:Nat):Int)));have HR3:=hid (r3.other (x:=⟨W.heap.size+1+1+1+1,i,none⟩) (show W.heap.size+1+1≠W.heap.size+1+1+1+1 by omega) (.int .u8 (((u+v)%256:Nat):Int)));have HR4:=hid (r4.other (x:=⟨W.heap.size+1+1+1+1,i,none⟩) (show W.heap.size+1+1+1≠W.heap.size+1+1+1+1 by omega) (.int .u8 (((u+v)%256:Nat):Int)));have HW:=hid (hw.setCell (p:=⟨W.heap.size+1+1+1+1,i,none⟩) (show W.heap.size≤W.heap.size+1+1+1+1 by omega) (.int .u8 (((u+v)%256:Nat):Int)));have HBB:=hid HB;rw[e8] at HR1 HR2 HR3 HR4 HW HBB;clear HB e8 hu hv r1 r2 r3 r4 hb hw;go_wp2_with fail
      go_region
      go_wp2_with fail;go_roundw
      case rel=>exact⟨i+1,by go_num,by omega,HR1.out.drew,HR2.out.drew,HR3.out.drew,HR4.out.drew,HBB.out.drew,HW.out.drew⟩
      case measure=>simp[intOf];omega
    · obtain rfl:i=n:=by omega
      have p3:=r4.at0;have q0:=r3.at0;have q1:=r3.at1;have g0:=r3.frozen 0;have g1:=r3.frozen 1;have HR:=hid (r3.put (.int .i64 ((x:Int)+(y:Int))) (.slice (some ⟨W.heap.size+1+1+1+1,0,none⟩) i i));have HB:=hid (((hb.other (a:=⟨W.heap.size+1+1,0,none⟩) (show W.heap.size+1+1+1+1≠W.heap.size+1+1 by omega) (.int .i64 ((x:Int)+(y:Int)))).other (a:=⟨W.heap.size+1+1,1,none⟩) (show W.heap.size+1+1+1+1≠W.heap.size+1+1 by omega) (.slice (some ⟨W.heap.size+1+1+1+1,0,none⟩) i i)).congr (f':=fun j=>(f j+h j)%256) (fun j hj=>by rw[if_pos hj]));have HW:=hid ((hw.setCell (p:=⟨W.heap.size+1+1,0,none⟩) (show W.heap.size≤W.heap.size+1+1 by omega) (.int .i64 ((x:Int)+(y:Int)))).setCell (p:=⟨W.heap.size+1+1,1,none⟩) (show W.heap.size≤W.heap.size+1+1 by omega) (.slice (some ⟨W.heap.size+1+1+1+1,0,none⟩) i i));clear r1 r2 r3 r4 hb hw;go_wp2_with fail;refine bodyPost_ret (v:=.agg #[.int .i64 ((x:Int)+(y:Int)),.slice (some ⟨W.heap.size+1+1+1+1,0,none⟩) i i]) (results_cell_row rfl _ _ (W.heap.size+1+1) _ _ _ _ rfl HR.out.row Tryz.underlying174 rfl z2b) rfl ⟨_,by rw[hxy],by omega,HB.out,HW.out⟩
end Go.Proofs.YtacelhaidcmbcaaGreatDoor
namespace Go.Proofs.YtacelhaidcmbcaaGreatDoor.C
open Go.RowKit M
def Crow(w:World)(b n:Nat)(F G:Nat→Nat):Prop:=
 ∃c:Array Value,w.heap[b]? =some (.cells c 128 (0,0))∧c.size=n*2∧∀i,i<n→c[i*2]? =some (.int .u32 (F i))∧c[i*2+1]? =some (.int .u8 (G i))
section
variable {w w':World} {b n:Nat} {F G F' G':Nat→Nat}
theorem Crow.lt(h:Crow w b n F G):b<w.heap.size:=by
 obtain⟨c,hb,_⟩:=h;rcases Nat.lt_or_ge b w.heap.size with g|g
 · exact g
 · rw[Array.getElem?_eq_none g] at hb;cases hb
theorem Crow.cell1(h:Crow w b n F G){i:Nat}(hi:i<n):w.cell? ⟨b,i*2,none⟩=some (.int .u32 (F i)):=by
 obtain⟨c,hb,_,hc⟩:=h;rw[cell_of_row w b _ c _ _ hb];exact(hc i hi).1
theorem Crow.cell2(h:Crow w b n F G){i:Nat}(hi:i<n):w.cell? ⟨b,i*2+1,none⟩=some (.int .u8 (G i)):=by
 obtain⟨c,hb,_,hc⟩:=h;rw[cell_of_row w b _ c _ _ hb];exact(hc i hi).2
theorem Crow.frozen(h:Crow w b n F G)(i:Nat):w.frozen? ⟨b,i,none⟩=false:=by
 obtain⟨c,hb,_⟩:=h;simp[World.frozen?,hb]
theorem Crow.congr(h:Crow w b n F G)(e1:∀i,i<n→F i=F' i)(e2:∀i,i<n→G i=G' i):Crow w b n F' G':=by
 obtain⟨c,hb,hs,hc⟩:=h;exact⟨c,hb,hs,fun i hi=>by rw[(hc i hi).1,(hc i hi).2,e1 i hi,e2 i hi];exact⟨rfl,rfl⟩⟩
theorem Crow.other(h:Crow w b n F G){a:Addr}(ha:b≠a.block)(v:Value):Crow (w.setCell a v) b n F G:=by
 obtain⟨c,hb,hs,hc⟩:=h;exact⟨c,(Below.heap_setCell w a v b ha).trans hb,hs,hc⟩
theorem Crow.alloc(h:Crow w b n F G)(o:Obj):Crow (w.alloc o) b n F G:=by
 obtain⟨c,hb,hs,hc⟩:=id h;exact⟨c,(Below.heap_alloc w o b h.lt).trans hb,hs,hc⟩
theorem Crow.below(h:Crow w b n F G){B:Nat}(hb:Below B w w')(hB:b<B):Crow w' b n F G:=by
 obtain⟨c,h1,hs,hc⟩:=h;exact⟨c,(hb.block b hB).trans h1,hs,hc⟩
theorem Crow.set(h:Crow w b n F G)(i x y:Nat):Crow ((w.setCell ⟨b,i*2,none⟩ (.int .u32 x)).setCell ⟨b,i*2+1,none⟩ (.int .u8 y)) b n (fun j=>if j=i then x else F j) (fun j=>if j=i then y else G j):=by
 obtain⟨c,hb,hs,hc⟩:=h;refine⟨(c.setIfInBounds (i*2) (.int .u32 x)).setIfInBounds (i*2+1) (.int .u8 y),?_,by simp[hs],fun j hj=> ?_⟩
 · simp[World.setCell,Array.getElem?_modify,hb]
 · obtain⟨h1,h2⟩:=hc j hj
   by_cases e:j=i
   · subst e
     have l1:j*2<c.size:=by omega
     have l2:j*2+1<c.size:=by omega
     constructor
     · rw[Array.getElem?_setIfInBounds,if_neg (by omega),Array.getElem?_setIfInBounds,if_pos rfl,if_pos l1];simp
     · rw[Array.getElem?_setIfInBounds,if_pos rfl,if_pos (by simpa using l2)];simp
   · constructor
     · rw[Array.getElem?_setIfInBounds,if_neg (by omega),Array.getElem?_setIfInBounds,if_neg (by omega),h1];simp[e]
     · rw[Array.getElem?_setIfInBounds,if_neg (by omega),Array.getElem?_setIfInBounds,if_neg (by omega),h2];simp[e]
theorem Crow.cods(h:Crow w b n F G):zew w (some ⟨b,0,none⟩) n F G:=fun hn=>
 ⟨b,0,rfl,h.lt,fun i hi=>by rw[Nat.zero_add];exact⟨h.cell1 hi,h.cell2 hi⟩⟩
end
theorem ze4:(Tryz.prog.info? 128).map (fun i=>(i.zero,i.size,i.bytes))=some (some (.agg #[.int .u32 0,.int .u8 0]),2,8):=by kernel_rfl
theorem z3H(w:World){t e:TypeId}{z:Value}{size bytes:Nat}(ht: Tryz.prog.underlying t=some (.slice e))(hi:(Tryz.prog.info? e).map (fun i=>(i.zero,i.size,i.bytes))=some (some z,size,bytes))(hb:bytes≤8)(n:Nat)(hn:n≤400):
 (Instr.makeSlice t (.int .i64 (n:Int)) (.int .i64 (n:Int))).run Tryz.prog w=.ok (.slice (some ⟨w.heap.size,0,none⟩) n n) (w.alloc (.cells (madeCells z.cells (n*size)) e)):=by
 obtain⟨i,h1,h2,h3,h4⟩:∃i,Tryz.prog.info? e=some i∧i.zero=some z∧i.size=size∧i.bytes=bytes:=by
  cases hq: Tryz.prog.info? e with
  |none=>rw[hq] at hi;cases hi
  |some i=>rw[hq] at hi;simp at hi;exact⟨i,rfl,hi.1,hi.2.1,hi.2.2⟩
 subst h3 h4
 have hb':(i.bytes:Int)*(n:Int)≤281474976710656:=by
  have h:i.bytes*n≤8*400:=Nat.mul_le_mul hb hn;have h':((i.bytes*n:Nat):Int)≤281474976710656:=by omega
  rwa [Int.natCast_mul] at h'
 have hr:=run_make (P:= Tryz.prog) w t e i z ht h1 h2 .i64 .i64 n n (by omega) (Int.le_refl _) hb' (by omega);simp only[Int.toNat_natCast] at hr;exact hr
theorem z80(w:World)(n:Nat)(hn:n≤400):
 (Instr.makeSlice 118 (.int .i64 (n:Int)) (.int .i64 (n:Int))).run Tryz.prog w=.ok (.slice (some ⟨w.heap.size,0,none⟩) n n) (w.alloc (.cells (madeCells #[.int .u32 0,.int .u8 0] (n*2)) 128)):=
 z3H w Tryz.underlying118 ze4 (by decide) n hn
theorem Crow.made(w:World)(n:Nat):Crow (w.alloc (.cells (madeCells #[.int .u32 0,.int .u8 0] (n*2)) 128)) w.heap.size n (fun _=>0) (fun _=>0):=by
 refine⟨_,heap_alloc_new w _,size_madeCells _ _,fun i hi=> ?_⟩;have h1:i*2<n*2:=by omega
 have h2:i*2+1<n*2:=by omega
 have m1:i*2%2=0:=by omega
 have m2:(i*2+1)%2=1:=by omega
 constructor
 · simp[madeCells,h1,m1]
 · simp[madeCells,h2,m2]
end Go.Proofs.YtacelhaidcmbcaaGreatDoor.C
namespace Go.Proofs.YtacelhaidcmbcaaGreatDoor.C
open Go.Lib (hid)
open Go.RowKit M
def GotC(W:World)(n:Nat)(f g:Nat→Nat)(err:Int)(e:Ending)(w':World):Prop:=
 ∃A c,e=.returned (.tuple #[.slice A n c,.int .i64 err])∧n≤c∧c≤400∧zew w' A n f g∧Below W.heap.size W w'∧(0<n→∃b,A=some ⟨b,0,none⟩∧W.heap.size≤b∧Crow w' b n f g)
theorem z5f(A:Option Addr)(n c:Nat)(l:Nat→Nat)(W:World)(hn:n≤maxLen)(hl:∀i,l i≤255)(H:z09 W .u8 A n (fun i=>(l i:Int)))(f g:Nat→Nat)(hk:kind l n=5):
 Calls Tryz.prog 135 #[.slice A n c] W (GotC W 0 f g 2):=by
 have hv:=hid hk;have HL:=hid hl;clear hk hl;go_enter Tryz.func135,Tryz.ntmps135;go_wp2_with fail;refine(z52 A n c l _ hn HL.out H).mono ?_;rintro e w1 ⟨rfl,b1⟩;rw[hv.out];have B1:=hid b1;clear b1;go_wp2_with fail;go_ret2;exact⟨none,0,rfl,qR,by omega,zew.nil _ _ _ _,B1.out,fun h=>absurd h (by omega)⟩
theorem z3P(A:Option Addr)(n c:Nat)(l:Nat→Nat)(W:World)(hn:n≤maxLen)(hl:∀i,l i≤255)(H:z09 W .u8 A n (fun i=>(l i:Int)))(f g:Nat→Nat)(hk:kind l n=4):
 Calls Tryz.prog 135 #[.slice A n c] W (GotC W 0 f g 7):=by
 have hv:=hid hk;have HL:=hid hl;clear hk hl;go_enter Tryz.func135,Tryz.ntmps135;go_wp2_with fail;refine(z52 A n c l _ hn HL.out H).mono ?_;rintro e w1 ⟨rfl,b1⟩;rw[hv.out];have B1:=hid b1;clear b1;go_wp2_with fail;go_ret2;exact⟨none,0,rfl,qR,by omega,zew.nil _ _ _ _,B1.out,fun h=>absurd h (by omega)⟩
theorem z6b(A:Option Addr)(n c:Nat)(l:Nat→Nat)(W:World)(hl:∀i,l i≤255)(H:z09 W .u8 A n (fun i=>(l i:Int)))(hm:May l n)(hw:z03 l n≤32768)(K:Nat)(hk:kind l n=K)(k5:K≠5)(k4:K≠4):
 Calls Tryz.prog 135 #[.slice A n c] W (GotC W n (cod l n) l 0):=by
 have hz:=z1c;have h320:=hm.1;have hv:=hid hk;have HL:=hid hl;have HM:=hid hm;have HW:=hid hw;have HN:=hid (show n≤maxLen by unfold maxLen;omega);have HC:=hid (show ∀s,s<16→c0 l n s≤320 from fun s _=>qK (z7c l n s) hm.1);have d5:((K:Int)==5)=false:=by rw[qN];omega
 have d4:((K:Int)==4)=false:=by rw[qN];omega
 have HH:=hid H;clear hk hl hm hw k5 k4 H;go_enter Tryz.func135,Tryz.ntmps135;go_wp2_with fail;refine(z52 A n c l _ HN.out HL.out HH.out).mono ?_;rintro e w1 ⟨rfl,b1⟩;rw[hv.out];have B1:=hid b1;have H1:=hid (HH.out.below b1);clear b1;go_wp2_with fail;refine(count_any A n c l _ HM.out H1.out).mono ?_;rintro e w2 ⟨rfl,b2⟩;have B2:=hid (B1.out.trans (b2.mono B1.out.size));clear b2;go_wp2_with fail;refine(z9i (c0 l n) _ HC.out).mono ?_;rintro e w3 ⟨rfl,b3⟩;have B3:=hid (B2.out.trans (b3.mono B2.out.size));clear b3;have hmk:=fun w=>z80 w n (by omega)
 go_wp2_with (refine z0q rfl _ _ rfl _ (fs (c0 l n)) rfl rfl ?_);clear hz hmk
 go_loopw [22] (fun i wr=> ∃k:Nat,k≤n∧i=.int .i64 k∧Tb wr w3.heap.size (fun s=>fs (c0 l n) s+c0 l k s)∧Crow wr (w3.heap.size+1) n (fun j=>if j<k then cod l n j else 0) (fun j=>if j<k then l j else 0)∧Below W.heap.size W wr) (fun i _=>n - (intOf i).toNat)
 case atStart=>
  refine⟨0,qZ,rfl,?_,?_,(B3.out.alloc B3.out.size _).alloc (by have:=B3.out.size;simp;omega) _⟩
  · exact((Tb.made w3 (fs (c0 l n))).alloc _).congr (fun i hi=>by unfold c0;simp[cnt])
  · have h:=Crow.made (w3.alloc (.cells (TV (fs (c0 l n))) 250)) n
    rw[show(w3.alloc (.cells (TV (fs (c0 l n))) 250)).heap.size=w3.heap.size+1 by simp] at h;exact h.congr (fun i hi=>by simp) (fun i hi=>by simp)
 case round=>
  obtain⟨k,hkn,rfl,ht,hr,hb⟩:=hrel;by_cases hlt:k<n
  · obtain⟨b,o,rfl,hbs,hc⟩:=HH.out (by omega)
    have h15:=HM.out.2 k hlt;have hcell:wr.cell? ⟨b,o+k,none⟩=some (.int .u8 (l k)):=(hb.cell hbs).trans (hc k hlt);have hf1:=hr.frozen (k*2);have hf2:=hr.frozen (k*2+1);have hr1:=hr.cell1 hlt;have hr2:=hr.cell2 hlt;have hfl:=zgE (c:=c0 l n) h15 (by rw[z0l l n HM.out.2];exact HW.out);have hcm:=z5h l (l k) (Nat.le_of_lt hlt);have hpw:2^l k≤2^15:=Nat.pow_le_pow_right (by omega) h15;by_cases h0:l k=0
    · have HT:=hid ht
      have HR:=hid hr;have HB:=hid hb;have H0:=hid h0;rw[h0] at hcell;clear ht hr hb hc hfl hcm hpw h0 hr1 hr2 hf1 hf2;go_wp2_with fail;go_roundw
      case rel=>
       refine⟨k+1,by omega,by go_num,HT.out.congr (fun i hi=> ?_),HR.out.congr (fun i hi=> ?_) (fun i hi=> ?_),HB.out⟩
       · unfold c0
         by_cases e:i=0
         · rw[if_pos e,if_pos e]
         · rw[if_neg e,if_neg e]
           simp only[cnt];rw[if_neg (by rw[H0.out];exact fun q=>e q.symm)];rfl
       · by_cases e:i<k
         · rw[if_pos e,if_pos (by omega)]
         · rw[if_neg e]
           by_cases e2:i<k+1
           · obtain rfl:i=k:=by omega
             rw[if_pos e2];unfold cod;rw[if_pos H0.out]
           · rw[if_neg e2]
       · by_cases e:i<k
         · rw[if_pos e,if_pos (by omega)]
         · rw[if_neg e]
           by_cases e2:i<k+1
           · obtain rfl:i=k:=by omega
             rw[if_pos e2,H0.out]
           · rw[if_neg e2]
      case measure=>simp[intOf];omega
    · have hk1:(if k<k then cod l n k else 0)=0:=if_neg (Nat.lt_irrefl _)
      have hk2:(if k<k then l k else 0)=0:=if_neg (Nat.lt_irrefl _);rw[hk1] at hr1;rw[hk2] at hr2;have hfr:=ht.frozen (l k);have hcl:=ht.cell (show l k<16 by omega);have hcode:cod l n k=fs (c0 l n) (l k)+c0 l k (l k):=by unfold cod c0;rw[if_neg h0,if_neg h0]
      have e1:c0 l n (l k)=cnt l (l k) n:=by unfold c0;rw[if_neg h0]
      have e2:c0 l k (l k)=cnt l (l k) k:=by unfold c0;rw[if_neg h0]
      rw[←hcode] at hcl;have hcs:cod l n k≤32768:=by omega
      obtain⟨x,hx⟩:∃x,l k=x:=⟨_,rfl⟩
      obtain⟨y,hy⟩:∃y,cod l n k=y:=⟨_,rfl⟩
      have h0':((x:Int)==0)=false:=by rw[qN];omega
      rw[hx] at hcell hcl hfr h15;rw[hy] at hcs hcl;have HT:=hid ht;have HR:=hid hr;have HB:=hid hb;have H0:=hid h0;have HX:=hid hx;have HY:=hid hy;have HCD:=hid hcode;have hne:¬w3.heap.size=w3.heap.size+1:=by omega
      clear ht hr hb hc hfl hcm hpw h0 hx hy hcode e1 e2 hk1 hk2;go_wp2_with fail;go_roundw
      case rel=>
       refine⟨k+1,by omega,by go_num,?_,?_,(((HB.out.setCell (by have:=B3.out.size;simp;omega) _).setCell (by have:=B3.out.size;simp;omega) _).setCell (by have:=B3.out.size;simp;omega) _)⟩
       · refine((((HT.out.other (by simp) _).other (by simp) _).set x (y+1))).congr (fun i hi=> ?_)
         have hck:∀j,c0 l (k+1) j=c0 l k j+if j=x then 1 else 0:=fun j=>by
          have hx:=HX.out;unfold c0;by_cases e:j=0
          · have e':¬j=x:=by have:=H0.out;omega
            rw[if_pos e,if_pos e,if_neg e']
          · rw[if_neg e,if_neg e]
            simp only[cnt];rw[hx];by_cases e':j=x
            · rw[if_pos e',if_pos e'.symm]
            · rw[if_neg e',if_neg (fun q=>e' q.symm)]
         rw[hck];by_cases e:i=x
         · rw[if_pos e,if_pos e,e]
           have h1:=HCD.out;rw[HX.out,HY.out] at h1;omega
         · rw[if_neg e,if_neg e];rfl
       · refine((HR.out.set k y x).other (by simp) _).congr (fun i hi=> ?_) (fun i hi=> ?_)
         · by_cases e:i=k
           · rw[if_pos e,if_pos (by omega),e,HY.out]
           · rw[if_neg e]
             by_cases e2:i<k
             · rw[if_pos e2,if_pos (by omega)]
             · rw[if_neg e2,if_neg (by omega)]
         · by_cases e:i=k
           · rw[if_pos e,if_pos (by omega),e,HX.out]
           · rw[if_neg e]
             by_cases e2:i<k
             · rw[if_pos e2,if_pos (by omega)]
             · rw[if_neg e2,if_neg (by omega)]
      case measure=>simp[intOf];omega
  · obtain rfl:k=n:=by omega
    have HR:=hid (hr.congr (F':=cod l k) (G':=l) (fun i hi=>by rw[if_pos hi]) (fun i hi=>by rw[if_pos hi]));have HB:=hid hb;clear ht hr hb;go_wp2_with fail;go_ret2;exact⟨_,_,rfl,qR,by omega,HR.out.cods,HB.out,fun _=>⟨_,rfl,by have:=B3.out.size;omega,HR.out⟩⟩
theorem zbE{l:Nat→Nat}{n:Nat}:(kind l n=5∧erc l n=2∧z7Q l n=0)∨(kind l n=4∧erc l n=7∧z7Q l n=0)∨(kind l n≠5∧kind l n≠4∧erc l n=0∧z7Q l n=n):=by
 by_cases h5:kind l n=5
 · exact .inl ⟨h5,by unfold erc;rw[if_pos h5],by unfold z7Q erc;rw[if_pos h5];rfl⟩
 · by_cases h4:kind l n=4
   · exact .inr (.inl ⟨h4,by unfold erc;rw[if_neg h5,if_pos h4],by unfold z7Q erc;rw[if_neg h5,if_pos h4];rfl⟩)
   · exact .inr (.inr ⟨h5,h4,by unfold erc;rw[if_neg h5,if_neg h4],by unfold z7Q erc;rw[if_neg h5,if_neg h4];rfl⟩)
theorem zbW(A:Option Addr)(n c:Nat)(l:Nat→Nat)(W:World)(hn:n≤maxLen)(hl:∀i,l i≤255)(H:z09 W .u8 A n (fun i=>(l i:Int))):
 Calls Tryz.prog 135 #[.slice A n c] W (GotC W (z7Q l n) (cod l n) l (erc l n:Nat)):=by
 rcases zbE (l:=l) (n:=n) with⟨h1,h2,h3⟩|⟨h1,h2,h3⟩|⟨h1,h1',h2,h3⟩
 · rw[h2,h3];exact z5f A n c l W hn hl H _ _ h1
 · rw[h2,h3];exact z3P A n c l W hn hl H _ _ h1
 · rw[h2,h3]
   obtain⟨hm,hw⟩:=z3e h1 h1';exact z6b A n c l W hl H hm hw _ rfl h1 h1'
theorem zdi(x j:Nat)(h:x≤j):2^(j+1 - x)=2*2^(j - x):=by rw[show j+1 - x=(j - x)+1 by omega,Nat.pow_succ];omega
theorem zaj{l:Nat→Nat}{n:Nat}(hm:May l n){g a z:Nat}(hg:z03 l n=g)(ha:nz l n=a)(hz:lst l n=z):
 kind l n=if a=0 then 0 else if 32768<g then 4 else if g=32768 then 2 else if a=1∧z=1 then 1 else 3:=by
 rw[zdM hm,hg,ha,hz]
theorem z35(A:Option Addr)(n c:Nat)(l:Nat→Nat)(W:World)(hn:n≤maxLen)(hl:∀i,l i≤255)(H:z09 W .u8 A n (fun i=>(l i:Int))):
 Calls Tryz.prog 77 #[.slice A n c] W fun e w'=>e=.returned (.int .u8 (kind l n))∧W=w':=by
 have hn':n≤9223372036854775807:=by unfold maxLen at hn;omega
 have HL:=hid hl;have HH:=hid H;clear H hn hl;by_cases h320:n≤320
 · go_enter Tryz.func77,Tryz.ntmps77
   go_wp2
   go_loop [3,4,5,6] (fun g a z i=> ∃k:Nat,k≤n∧i=.int .i64 k∧g=.int .i64 (z03 l k)∧a=.int .i64 (nz l k)∧z=.int .u8 (lst l k)∧Hid (∀j,j<k→l j≤15)) (fun _ _ _ i=>n - (intOf i).toNat)
   case atStart=>exact⟨0,qZ,rfl,rfl,rfl,rfl,hid (fun j hj=>by omega)⟩
   case round=>
    obtain⟨k,hkn,rfl,rfl,rfl,rfl,hsm⟩:=hrel;have w1:=z5v l k;have w2:=zhS l k;have w3:=zeS k hsm.out;obtain⟨g,hg⟩:∃g,z03 l k=g:=⟨_,rfl⟩
    obtain⟨a,ha⟩:∃a,nz l k=a:=⟨_,rfl⟩
    obtain⟨z,hz⟩:∃z,lst l k=z:=⟨_,rfl⟩
    rw[hg] at w1 ⊢;rw[ha] at w2 ⊢;rw[hz] at w3 ⊢;have HG:=hid hg;have HA:=hid ha;have HZ:=hid hz;clear hg ha hz;by_cases hlt:k<n
    · obtain⟨b,o,rfl,hb,hc⟩:=HH.out (by omega)
      have hcell:W.cell? ⟨b,o+k,none⟩=some (.int .u8 (l k)):=hc k hlt;have h255:=HL.out k;obtain⟨x,hx⟩:∃x,l k=x:=⟨_,rfl⟩
      rw[hx] at hcell h255;have HX:=hid hx;clear hc hx;by_cases h15:x≤15
      · by_cases h0:x=0
        · have hx0:((x:Int)==0)=true:=by rw[beq_iff_eq];omega
          have H0:=hid h0;clear h0;go_wp2
          go_round
          case rel=>
           have e0:l k=0:=HX.out.trans H0.out;refine⟨k+1,by omega,by go_num,?_,?_,?_,hid (fun j hj=> ?_)⟩
           · simp only[z03];rw[HG.out,e0];rfl
           · simp only[nz];rw[HA.out,if_pos e0];rfl
           · simp only[lst];rw[HZ.out,if_pos e0]
           · by_cases e:j=k
             · rw[e,e0];omega
             · exact hsm.out j (by omega)
          case measure=>simp[intOf];omega
        · have hx0:((x:Int)==0)=false:=by rw[qN];omega
          have H0:=hid h0;clear h0;go_wp2
          go_loop [7,8] (fun w j=> ∃m:Nat,x≤m∧m≤15∧j=.int .i64 m∧w=.int .i64 ((2^(m - x):Nat):Int)) (fun _ j=>15 - (intOf j).toNat)
          case atStart=>exact⟨x,qR,h15,rfl,by rw[Nat.sub_self];rfl⟩
          case round=>
           obtain⟨m,hxm,hm15,rfl,rfl⟩:=hrel;have hpw:2^(m - x)≤2^15:=Nat.pow_le_pow_right (by omega) (by omega);have hpn:=hid (zdi x m hxm);obtain⟨v,hv⟩:∃v,2^(m - x)=v:=⟨_,rfl⟩
           rw[hv] at hpw ⊢;have HV:=hid hv;clear hv;by_cases hlm:m<15
           · go_wp2
             go_round
             case rel=>exact⟨m+1,by omega,by omega,by go_num,congrArg (Value.int .i64) (by rw[hpn.out,HV.out];omega)⟩
             case measure=>simp[intOf];omega
           · obtain rfl:m=15:=by omega
             go_wp2
             go_round
             case rel=>
              have e0:¬l k=0:=fun q=>H0.out (HX.out▸q)
              refine⟨k+1,by omega,by go_num,?_,?_,?_,hid (fun j hj=> ?_)⟩
              · simp only[z03];rw[HG.out];unfold wt;rw[if_neg e0,HX.out,HV.out];go_num
              · simp only[nz];rw[HA.out,if_neg e0];go_num
              · simp only[lst];rw[if_neg e0,HX.out]
              · by_cases e:j=k
                · rw[e,HX.out];exact h15
                · exact hsm.out j (by omega)
             case measure=>simp[intOf];omega
      · have hv:=hid (z2M (l:=l) (n:=n) (fun q=>h15 (by rw[←HX.out];exact q.2 k hlt)))
        go_wp2;go_ret;exact⟨by rw[hv.out];rfl,rfl⟩
    · obtain rfl:k=n:=by omega
      have hk:=zaj ⟨h320,hsm.out⟩ HG.out HA.out HZ.out;by_cases e0:a=0
      · rw[if_pos e0] at hk
        have d0:((a:Int)==0)=true:=by rw[beq_iff_eq];omega
        have HK:=hid hk;clear hk e0;go_wp2;go_ret;exact⟨by rw[HK.out];rfl,rfl⟩
      rw[if_neg e0] at hk;by_cases e1:32768<g
      · rw[if_pos e1] at hk
        have d0:((a:Int)==0)=false:=by rw[qN];omega
        have d1:decide (32768<(g:Int))=true:=q9T (by omega);have HK:=hid hk;clear hk e0;go_wp2;go_ret;exact⟨by rw[HK.out];rfl,rfl⟩
      rw[if_neg e1] at hk;by_cases e2:g=32768
      · rw[if_pos e2] at hk
        have d0:((a:Int)==0)=false:=by rw[qN];omega
        have d1:decide (32768<(g:Int))=false:=qF (by omega);have d2:((g:Int)==32768)=true:=by rw[beq_iff_eq];omega
        have HK:=hid hk;clear hk e0 e2;go_wp2;go_ret;exact⟨by rw[HK.out];rfl,rfl⟩
      rw[if_neg e2] at hk;by_cases e3:a=1
      · by_cases e4:z=1
        · rw[if_pos ⟨e3,e4⟩] at hk
          have d0:((a:Int)==0)=false:=by rw[qN];omega
          have d1:decide (32768<(g:Int))=false:=qF (by omega);have d2:((g:Int)==32768)=false:=by rw[qN];omega
          have d3:((a:Int)==1)=true:=by rw[beq_iff_eq];omega
          have d4:((z:Int)==1)=true:=by rw[beq_iff_eq];omega
          have HK:=hid hk;clear hk e0 e2 e3 e4;go_wp2;go_ret;exact⟨by rw[HK.out];rfl,rfl⟩
        · rw[if_neg (fun q=>e4 q.2)] at hk
          have d0:((a:Int)==0)=false:=by rw[qN];omega
          have d1:decide (32768<(g:Int))=false:=qF (by omega);have d2:((g:Int)==32768)=false:=by rw[qN];omega
          have d3:((a:Int)==1)=true:=by rw[beq_iff_eq];omega
          have d4:((z:Int)==1)=false:=by rw[qN];omega
          have HK:=hid hk;clear hk e0 e2 e3 e4;go_wp2;go_ret;exact⟨by rw[HK.out];rfl,rfl⟩
      · rw[if_neg (fun q=>e3 q.1)] at hk
        have d0:((a:Int)==0)=false:=by rw[qN];omega
        have d1:decide (32768<(g:Int))=false:=qF (by omega);have d2:((g:Int)==32768)=false:=by rw[qN];omega
        have d3:((a:Int)==1)=false:=by rw[qN];omega
        have HK:=hid hk;clear hk e0 e2 e3;go_wp2;go_ret;exact⟨by rw[HK.out];rfl,rfl⟩
 · have hv:=hid (z2M (l:=l) (n:=n) (fun q=>h320 q.1))
   go_enter Tryz.func77,Tryz.ntmps77;go_wp2;go_ret;exact⟨by rw[hv.out];rfl,rfl⟩
theorem z3I(A:Option Addr)(n c:Nat)(l:Nat→Nat)(W:World)(hn:n≤maxLen)(hl:∀i,l i≤255)(H:z09 W .u8 A n (fun i=>(l i:Int)))(f g:Nat→Nat)(hk:kind l n=5):
 Calls Tryz.prog 51 #[.slice A n c] W (GotC W 0 f g 2):=by
 have hv:=hid hk;have HL:=hid hl;clear hk hl;go_enter Tryz.func51,Tryz.ntmps51;go_wp2_with fail;refine(z35 A n c l _ hn HL.out H).mono ?_;rintro e w1 ⟨rfl,rfl⟩;rw[hv.out];go_wp2_with fail;go_ret2;exact⟨none,0,rfl,qR,by omega,zew.nil _ _ _ _,Below.refl _ _,fun h=>absurd h (by omega)⟩
theorem z36(A:Option Addr)(n c:Nat)(l:Nat→Nat)(W:World)(hn:n≤maxLen)(hl:∀i,l i≤255)(H:z09 W .u8 A n (fun i=>(l i:Int)))(f g:Nat→Nat)(hk:kind l n=4):
 Calls Tryz.prog 51 #[.slice A n c] W (GotC W 0 f g 7):=by
 have hv:=hid hk;have HL:=hid hl;clear hk hl;go_enter Tryz.func51,Tryz.ntmps51;go_wp2_with fail;refine(z35 A n c l _ hn HL.out H).mono ?_;rintro e w1 ⟨rfl,rfl⟩;rw[hv.out];go_wp2_with fail;go_ret2;exact⟨none,0,rfl,qR,by omega,zew.nil _ _ _ _,Below.refl _ _,fun h=>absurd h (by omega)⟩
def dn(l:Nat→Nat)(m k i:Nat):Prop:=l i≠0∧(l i<m∨l i=m∧i<k)
instance (l:Nat→Nat) (m k i:Nat):Decidable (dn l m k i):=inferInstanceAs (Decidable (l i≠0∧(l i<m∨l i=m∧i<k)))
def Fd(l:Nat→Nat)(n m k i:Nat):Nat:=if dn l m k i then cod l n i else 0
def Gd(l:Nat→Nat)(m k i:Nat):Nat:=if dn l m k i then l i else 0
def RN(l:Nat→Nat)(n m k x sz:Nat)(b:Bool):Prop:=
 ∃nx,nx*2^(m - sz)=fs (c0 l n) m+cnt l m k∧sz≤m∧((b=true∧x=nx∧nx=0)∨(b=false∧nx=x+1))
theorem RN.next{l:Nat→Nat}{n m x sz:Nat}{b:Bool}(h:RN l n m n x sz b)(h1:1≤m):RN l n (m+1) 0 x sz b:=by
 obtain⟨nx,e,hs,hb⟩:=h;refine⟨nx,?_,by omega,hb⟩;rw[show m+1 - sz=(m - sz)+1 by omega,Nat.pow_succ,←Nat.mul_assoc,e];have:c0 l n m=cnt l m n:=by unfold c0;rw[if_neg (by omega)]
 simp only[fs,cnt];rw[this];omega
theorem RN.skip{l:Nat→Nat}{n m k x sz:Nat}{b:Bool}(h:RN l n m k x sz b)(hk:l k≠m):RN l n m (k+1) x sz b:=by
 obtain⟨nx,e,hs,hb⟩:=h;refine⟨nx,?_,hs,hb⟩;simp only[cnt];rw[if_neg hk];exact e
theorem RN.told{l:Nat→Nat}{n m k y:Nat}(hy:y=fs (c0 l n) m+cnt l m k)(hk:l k=m):RN l n m (k+1) y m false:=by
 refine⟨y+1,?_,qR,.inr ⟨rfl,rfl⟩⟩;simp only[cnt];rw[if_pos hk,Nat.sub_self,Nat.pow_zero,Nat.mul_one,hy];omega
theorem RN.start(l:Nat→Nat)(n:Nat):RN l n 1 0 0 0 true:=⟨0,by simp[fs,c0,cnt],by omega,.inl ⟨rfl,rfl,rfl⟩⟩
theorem zbJ{l:Nat→Nat}{n m i:Nat}(hi:i<n):dn l (m+1) 0 i↔dn l m n i:=by unfold dn;omega
theorem zbI{l:Nat→Nat}{m k i:Nat}(hk:l k≠m):dn l m (k+1) i↔dn l m k i:=by
 unfold dn;constructor
 · rintro⟨a,b⟩
   refine⟨a,?_⟩;rcases b with b|⟨b,c⟩
   · exact .inl b
   · refine .inr ⟨b,?_⟩
     by_cases e:i=k
     · subst e;exact absurd b hk
     · omega
 · rintro⟨a,b⟩;exact⟨a,by omega⟩
theorem zbH{l:Nat→Nat}{m k i:Nat}(hk:l k=m)(h0:m≠0):dn l m (k+1) i↔(i=k∨dn l m k i):=by
 unfold dn;constructor
 · rintro⟨a,b⟩
   by_cases e:i=k
   · exact .inl e
   · exact .inr ⟨a,by omega⟩
 · rintro(rfl|⟨a,b⟩)
   · exact⟨by omega,.inr ⟨hk,by omega⟩⟩
   · exact⟨a,by omega⟩
theorem zf2{l:Nat→Nat}{i:Nat}(h:l i≤15):dn l 16 0 i↔l i≠0:=by unfold dn;omega
theorem z8i(l:Nat→Nat)(i:Nat):¬dn l 1 0 i:=by unfold dn;omega
theorem z4K(A:Option Addr)(n c:Nat)(l:Nat→Nat)(W:World)(hl:∀i,l i≤255)(H:z09 W .u8 A n (fun i=>(l i:Int)))(hm:May l n)(hw:z03 l n≤32768)(K:Nat)(hk:kind l n=K)(k5:K≠5)(k4:K≠4):
 Calls Tryz.prog 51 #[.slice A n c] W (GotC W n (cod l n) l 0):=by
 have h320:=hm.1;have hv:=hid hk;have HL:=hid hl;have HM:=hid hm;have HW:=hid hw;have HN:=hid (show n≤maxLen by unfold maxLen;omega);have d5:((K:Int)==5)=false:=by rw[qN];omega
 have d4:((K:Int)==4)=false:=by rw[qN];omega
 have HH:=hid H;clear hk hl hm hw k5 k4 H;go_enter Tryz.func51,Tryz.ntmps51;go_wp2_with fail;refine(z35 A n c l _ HN.out HL.out HH.out).mono ?_;rintro e w1 ⟨rfl,rfl⟩;rw[hv.out];have hmk:=fun w=>z80 w n (by omega)
 go_wp2_with fail;clear hmk
 go_loopw [5,6,7,8] (fun x s b i wr=> ∃m X S:Nat,∃B:Bool,1≤m∧m≤16∧i=.int .i64 m∧x=.int .u32 X∧s=.int .i64 S∧b=.bool B∧RN l n m 0 X S B∧Crow wr W.heap.size n (Fd l n m 0) (Gd l m 0)∧Below W.heap.size W wr) (fun _ _ _ i _=>16 - (intOf i).toNat)
 case atStart=>
  refine⟨1,0,0,true,qR,by omega,rfl,rfl,rfl,rfl,RN.start l n,?_,qL⟩;exact(Crow.made W n).congr (fun i hi=>by unfold Fd;rw[if_neg (z8i l i)]) (fun i hi=>by unfold Gd;rw[if_neg (z8i l i)])
 case round=>
  obtain⟨m,X,S,B,hm1,hm16,rfl,rfl,rfl,rfl,hrn,hr,hb⟩:=hrel;have HR:=hid hr;have HB:=hid hb;have HRN:=hid hrn;clear hr hb hrn;by_cases hm15:m≤15
  · go_wp2_with fail
    go_loopw [5,6,7,9] (fun x s b i wr=> ∃k X S:Nat,∃B:Bool,k≤n∧i=.int .i64 k∧x=.int .u32 X∧s=.int .i64 S∧b=.bool B∧RN l n m k X S B∧Crow wr W.heap.size n (Fd l n m k) (Gd l m k)∧Below W.heap.size W wr) (fun _ _ _ i _=>n - (intOf i).toNat)
    case atStart=>exact⟨0,X,S,B,qZ,rfl,rfl,rfl,rfl,HRN.out,HR.out,HB.out⟩
    case round=>
     clear HR HB HRN;obtain⟨k,X,S,B,hkn,rfl,rfl,rfl,rfl,hrn,hr,hb⟩:=hrel;by_cases hlt:k<n
     · obtain⟨b,o,rfl,hbs,hc⟩:=HH.out (by omega)
       have hcell:wr.cell? ⟨b,o+k,none⟩=some (.int .u8 (l k)):=(hb.cell hbs).trans (hc k hlt);have h15:=HM.out.2 k hlt;obtain⟨x,hx⟩:∃x,l k=x:=⟨_,rfl⟩
       rw[hx] at hcell h15;have HX:=hid hx;clear hc hx;by_cases hxm:x=m
       · have hsm:((x:Int) !=(m:Int))=false:=by rw[bne_eq_false_iff_eq];omega
         have hf1:=hr.frozen (k*2);have hf2:=hr.frozen (k*2+1);have hr1:=hr.cell1 hlt;have hr2:=hr.cell2 hlt;obtain⟨q1,hq1⟩:∃q,Fd l n m k k=q:=⟨_,rfl⟩
         obtain⟨q2,hq2⟩:∃q,Gd l m k k=q:=⟨_,rfl⟩
         rw[hq1] at hr1;rw[hq2] at hr2;have hrf:=zd9 HM.out HW.out hm1 hm15 hkn;have hpm:2^m≤2^15:=Nat.pow_le_pow_right (by omega) hm15;have hcd:cod l n k=fs (c0 l n) m+cnt l m k:=by unfold cod;rw[HX.out,if_neg (by omega),hxm]
         obtain⟨nx,e,hs,hbb⟩:=hrn;obtain⟨V,hV⟩:∃V,fs (c0 l n) m+cnt l m k=V:=⟨_,rfl⟩
         rw[hV] at hrf hcd e
         have hle:nx≤V:=by
          rw[←e];exact Nat.le_mul_of_pos_right _ (Nat.two_pow_pos _)
         have hV32:V≤32768:=by omega
         have HR:=hid hr;have HB:=hid hb;have HV:=hid hV;have HXM:=hid hxm;have HCD:=hid hcd;have HE:=hid e;clear hr hb hV hxm hcd e hrf hpm hq1 hq2;rcases hbb with⟨rfl,rfl,h0⟩|⟨rfl,rfl⟩
         case' inl=>clear h0
         all_goals (
          go_wp2_with fail
          go_loop [5,6] (fun y j=> ∃J Y:Nat,S≤J∧J≤m∧j=.int .i64 J∧y=.int .u32 Y∧Hid (Y*2^(m - J)=V)) (fun _ j=>m - (intOf j).toNat)
          case atStart=>exact⟨S,_,qR,hs,rfl,by first|rfl|go_num,HE⟩
          case round=>
           obtain⟨J,Y,hSJ,hJm,rfl,rfl,hY⟩:=hrel
           have hYle:Y≤V:=by
            rw[←hY.out];exact Nat.le_mul_of_pos_right _ (Nat.two_pow_pos _)
           by_cases hJ:J<m
           · have hnext:2*Y*2^(m - (J+1))=V:=by
              have:=hY.out;rw[show m - J=(m - (J+1))+1 by omega,Nat.pow_succ] at this;rw[←this,Nat.mul_comm 2 Y,Nat.mul_assoc,Nat.mul_comm 2]
             have hY2:2*Y≤V:=by
              rw[←hnext];exact Nat.le_mul_of_pos_right _ (Nat.two_pow_pos _)
             have HN2:=hid hnext;clear hnext;go_wp2_with fail
             go_round
             case rel=>exact⟨J+1,2*Y,by omega,by omega,by go_num,by go_num,HN2⟩
             case measure=>simp[intOf];omega
           · obtain rfl:J=m:=by omega
             have hYV:Y=V:=by
              have:=hY.out
              rwa [Nat.sub_self,Nat.pow_zero,Nat.mul_one] at this
             subst hYV;go_wp2_with fail;go_roundw
             case rel=>
              refine⟨k+1,Y,J,false,by omega,by go_num,rfl,rfl,rfl,RN.told HV.out.symm (HX.out.trans HXM.out),?_,(HB.out.setCell (by simp) _).setCell (by simp) _⟩;refine(HR.out.set k Y x).congr (fun i hi=> ?_) (fun i hi=> ?_)
              · have hd:=zbH (i:=i) (HX.out.trans HXM.out) (by omega)
                unfold Fd;by_cases e:i=k
                · rw[if_pos e,if_pos (hd.2 (.inl e)),e,HCD.out]
                · rw[if_neg e]
                  by_cases e2:dn l J k i
                  · rw[if_pos e2,if_pos (hd.2 (.inr e2))]
                  · rw[if_neg e2,if_neg (fun q=>by rcases hd.1 q with q|q;exact e q;exact e2 q)]
              · have hd:=zbH (i:=i) (HX.out.trans HXM.out) (by omega)
                unfold Gd;by_cases e:i=k
                · rw[if_pos e,if_pos (hd.2 (.inl e)),e,HX.out]
                · rw[if_neg e]
                  by_cases e2:dn l J k i
                  · rw[if_pos e2,if_pos (hd.2 (.inr e2))]
                  · rw[if_neg e2,if_neg (fun q=>by rcases hd.1 q with q|q;exact e q;exact e2 q)]
             case measure=>simp[intOf];omega)
       · have hsm:((x:Int) !=(m:Int))=true:=by rw[bne_iff_ne];omega
         have HR:=hid hr;have HB:=hid hb;have HRN:=hid hrn;have HXM:=hid hxm;clear hr hb hrn hxm;go_wp2_with fail;go_roundw
         case rel=>
          have hne:l k≠m:=by rw[HX.out];exact HXM.out
          refine⟨k+1,X,S,B,by omega,by go_num,rfl,rfl,rfl,HRN.out.skip hne,HR.out.congr (fun i hi=> ?_) (fun i hi=> ?_),HB.out⟩
          · unfold Fd;simp only[zbI hne]
          · unfold Gd;simp only[zbI hne]
         case measure=>simp[intOf];omega
     · obtain rfl:k=n:=by omega
       have HR:=hid hr;have HB:=hid hb;have HRN:=hid hrn;clear hr hb hrn;go_wp2_with fail;go_roundw
       case rel=>
        refine⟨m+1,X,S,B,by omega,by omega,by go_num,rfl,rfl,rfl,HRN.out.next hm1,HR.out.congr (fun i hi=> ?_) (fun i hi=> ?_),HB.out⟩
        · unfold Fd;simp only[zbJ hi]
        · unfold Gd;simp only[zbJ hi]
       case measure=>simp[intOf];omega
  · obtain rfl:m=16:=by omega
    have HR2:=hid (HR.out.congr (F':=cod l n) (G':=l) (fun i hi=>by
     unfold Fd;by_cases e:l i=0
     · rw[if_neg (fun q=>q.1 e)];unfold cod;rw[if_pos e]
     · rw[if_pos ((zf2 (HM.out.2 i hi)).2 e)]) (fun i hi=>by
     unfold Gd;by_cases e:l i=0
     · rw[if_neg (fun q=>q.1 e),e]
     · rw[if_pos ((zf2 (HM.out.2 i hi)).2 e)]))
    go_wp2_with fail;go_ret2;exact⟨_,_,rfl,qR,by omega,HR2.out.cods,HB.out,fun _=>⟨_,rfl,qR,HR2.out⟩⟩
theorem rcodes_any(A:Option Addr)(n c:Nat)(l:Nat→Nat)(W:World)(hn:n≤maxLen)(hl:∀i,l i≤255)(H:z09 W .u8 A n (fun i=>(l i:Int))):
 Calls Tryz.prog 51 #[.slice A n c] W (GotC W (z7Q l n) (cod l n) l (erc l n:Nat)):=by
 rcases zbE (l:=l) (n:=n) with⟨h1,h2,h3⟩|⟨h1,h2,h3⟩|⟨h1,h1',h2,h3⟩
 · rw[h2,h3];exact z3I A n c l W hn hl H _ _ h1
 · rw[h2,h3];exact z36 A n c l W hn hl H _ _ h1
 · rw[h2,h3]
   obtain⟨hm,hw⟩:=z3e h1 h1';exact z4K A n c l W hl H hm hw _ rfl h1 h1'
end Go.Proofs.YtacelhaidcmbcaaGreatDoor.C
