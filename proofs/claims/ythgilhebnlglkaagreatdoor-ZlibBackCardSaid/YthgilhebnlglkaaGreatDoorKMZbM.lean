import Derived.Test.YthgilhebnlglkaaGreatDoorKMDfD
import Derived.Test.YthgilhebnlglkaaGreatDoorKZdE
set_option linter.all false
set_option maxHeartbeats 0
set_option maxRecDepth 1000000
open Go.Proofs.Tryz
namespace Go.Proofs.YthgilhebnlglkaaGreatDoor
namespace Z
open Go M
theorem _root_.Go.Proofs.YthgilhebnlglkaaGreatDoor.V.blk_nine(k:Nat)(L:List V.Tk)(s:ByteArray)(last:Bool)(o:Nat):9<=(V.blk k L s last o).length:=by
 unfold V.blk
 split
 · rw[V.stb_length];omega
 · split
   · rw[qA,V.hdb_length]
     unfold V.sfx V.sys;rw[AL,qA];have:(List.flatMap (V.wsy V.fxl 288 (λ_=>5) 30) [⟨false,256,0,0⟩]).length=7:=by
      rw[AZ,Dn,Az];unfold V.wsy;rw[A0 (by decide),qA,V.cdb_length,V.put_length];rfl
     omega
   · rw[qA,qA,V.hdb_length]
     unfold V.hdd V.dyb;simp only[qA,V.put_length];omega
theorem _root_.Go.Proofs.YthgilhebnlglkaaGreatDoor.V.dby_two(d t:ByteArray)(k:Nat)(a:t.size<=65535):2<=(V.dby d t k).size:=by
 rw[V.dby_size];have h:9<=(V.dbs d t k).length:=by
  unfold V.dbs V.sbt
  split
  · rw[V.bkm_blk a];exact V.blk_nine _ _ _ _ _
  · cases h:V.pts (V.dtk d t k) t with
    |nil=>
     exfalso;unfold V.pts V.prt at h;simp at h
    |cons q r=>
     simp only[V.prs,qA];have b:=V.blk_nine (V.kp (V.dtk d t k) t q.1 q.2).1 (V.seg (V.dtk d t k) q.1 q.2) (t.extract (V.szt (V.dtk d t k) q.1) (V.szt (V.dtk d t k) q.2)) r.isEmpty 0;unfold V.blq;rw[V.bkm_blk (by rw[Ae];omega)];omega
 omega
theorem pI(X:ByteArray):X++(⟨#[]⟩:ByteArray)=X:=ByteArray.append_empty
theorem jA(s:ByteArray):s.data.toList.length=s.size:=As
theorem eB(a b:ByteArray):(a++b).data.toList=a.data.toList++b.data.toList:=by simp
theorem dZ{a:ByteArray}(b:ByteArray){i:Nat}(h:i<a.size):at8 (a++b) i=at8 a i:=by
 unfold at8;rw[eB,List.getD,List.getD,Dk (by rw[jA];exact h)]
theorem mY(a b:ByteArray)(i:Nat):at8 (a++b) (a.size+i)=at8 b i:=by
 unfold at8;rw[eB,List.getD,List.getD,DL (by rw[jA];omega),jA,Do]
theorem sW(a b:ByteArray)(o:Nat):sa (a++b) (a.size+o) 4=sa b o 4:=by
 have h:=λi=>mY a b (o+i)
 simp only[<-AC] at h;rw[bU,bU,mY,h,h,h]
theorem Kk(n:Nat):at8 (sb n) 0=n/16777216%256/\at8 (sb n) 1=n/65536%256%256/\at8 (sb n) 2=n/256%256%256/\at8 (sb n) 3=n%256%256:=
 ⟨Bu,Bu,Bu,Bu⟩
theorem FQ{n:Nat}(f:n<4294967296)(b:ByteArray):sa (sb n++b) 0 4=n:=by
 obtain⟨a,d,e,c⟩:=Kk n;rw[bU,dZ b (show 0<(sb n).size from(by decide:0<4)),dZ b (show 0+1<(sb n).size from(by decide:0+1<4)),dZ b (show 0+2<(sb n).size from(by decide:0+2<4)),dZ b (show 0+3<(sb n).size from(by decide:0+3<4))];simp only[Aa];omega
theorem Hf(a b:ByteArray):(a++b).extract a.size (a++b).size=b:=by
 apply ByteArray.ext
 apply Array.ext'
 have h:((a++b).extract a.size (a++b).size).data.toList=((a++b).data.toList.drop a.size).take ((a++b).size - a.size):=(by simp[CN]);rw[h,eB,<-jA a,List.drop_left,Aj];rw[<-jA (a++b),eB,qA];omega
def pb(f:Nat):Nat:=(30720+f+(31 - (30720+f)%31))%256
theorem Gh:∀z,z<=3->may 120 (pb (64*z))/\pb (64*z) /32%2=0/\may 120 (pb (64*z+32))/\pb (64*z+32) /32%2=1:=by decide
theorem xS:∀z,z<=3->∀j,j<=4->¬may 120 ((pb (64*z)^^^2^j)%256)/\¬may 120 ((pb (64*z+32)^^^2^j)%256):=by decide
def hf(d:ByteArray)(k:Nat):Nat:=64*zl k+if d.size=0 then 0 else 32
theorem GW(d:ByteArray)(k:Nat):∃r,hdr d k=pr (hf d k)++r:=by
 unfold hdr hf;by_cases h:d.size=0
 · rw[A7 h,A7 h];exact⟨⟨#[]⟩,ByteArray.append_empty.symm⟩
 · rw[A0 h,A0 h];exact⟨_,rfl⟩
theorem L9(f:Nat):at8 (pr f) 0=120/\at8 (pr f) 1=pb f:=by
 refine⟨rfl,?_⟩;have h:at8 (pr f) 1=(UInt8.ofNat (pb f)).toNat:=rfl;rw[h,Bu];unfold pb;omega
theorem uR(d r:ByteArray)(k:Nat):at8 (hdr d k++r) 0=120/\at8 (hdr d k++r) 1=pb (hf d k):=by
 obtain⟨q,e⟩:=GW d k;rw[e,Dq,dZ _ (show 0<(pr (hf d k)).size from(by decide:0<2)),dZ _ (show 1<(pr (hf d k)).size from(by decide:1<2))];exact L9 _
theorem nf(d:ByteArray):adl 1 d<4294967296:=by have:=pJ 1 d;unfold dH at this;exact this
theorem mD(d:ByteArray){k:Nat}(e:k<=9):may 120 (pb (hf d k))/\(pb (hf d k) /32%2=0↔d.size=0)/\∀j,j<=4->¬may 120 ((pb (hf d k)^^^2^j)%256):=by
 have h:=Gh (zl k) (F4 k e);have c:=xS (zl k) (F4 k e);unfold hf;by_cases a:d.size=0
 · rw[A7 a,AI];exact⟨h.1,⟨λ_=>a,λ_=>h.2.1⟩,λj b=>(c j b).1⟩
 · rw[A0 a];exact⟨h.2.2.1,⟨λg=>absurd (h.2.2.2.symm.trans g) (by decide),λg=>absurd g a⟩,λj b=>(c j b).2⟩
theorem Hu(d r:ByteArray)(k:Nat)(f:k<=9):dct (hdr d k++r)=if d.size=0 then(0,false,0) else(adl 1 d,true,0):=by
 have c:=mD d f;have hs:(hdr d k++r).size=(hdr d k).size+r.size:=AM;have a:=uR d r k;have e:=cG d k;unfold dct;by_cases b:d.size=0
 · rw[A7 b] at e ⊢
   rw[A0 (by omega),a.1,a.2,A0 (λh=>h c.1),A7 (c.2.1.2 b)]
 · rw[A0 b] at e ⊢
   rw[A0 (by omega),a.1,a.2,A0 (λh=>h c.1),A0 (λh=>b (c.2.1.1 h)),A0 (by omega)];have h:sa (hdr d k++r) 2 4=adl 1 d:=by
    unfold hdr;rw[A0 b,Dq];exact(sW (pr (64*zl k+32)) (sb (adl 1 d)++r) 0).trans (FQ (nf d) r)
   rw[h]
theorem tp(d r:ByteArray)(k:Nat)(lim:Int)(e:k<=9):rdv d (hdr d k++r) lim=rdt d (hdr d k++r) (rin d r lim)/\ahd (hdr d k++r)=(hdr d k).size:=by
 have b:=Hu d r k e;have g:=cG d k;have c:ahd (hdr d k++r)=(hdr d k).size:=by
  unfold ahd;rw[b,g];by_cases a:d.size=0
  · rw[A7 a,A7 a];rfl
  · rw[A0 a,A0 a];rfl
 have f:dic d (hdr d k++r)=d:=by
  unfold dic;rw[b];by_cases a:d.size=0
  · rw[A7 a];exact(nQ a).symm
  · rw[A0 a];rfl
 refine⟨?_,c⟩;unfold rdv;rw[c,f,Hf];unfold rdz;rw[b];by_cases a:d.size=0
 · rw[A7 a];rfl
 · rw[A0 a,A0 (λq=>q rfl),A0 (λq=>q.2 rfl)]
theorem G0{d t:ByteArray}(v:ByteArray){k:Nat}(a:d.size<=4096)(b:t.size<=10000):rin d (V.dby d t k++v) t.size=(t.data.toList,(V.dby d t k).size,0):=by
 unfold rin;rw[A0 (by omega),Au,I.inf_dby (by omega) (by omega) (by decide) qR,I.ans_yes,V.dby_size];simp only[<-jA d,List.drop_left]
theorem LN(s:ByteArray):(⟨s.data.toList.toArray⟩:ByteArray)=s:=ByteArray.ext (Array.ext' rfl)
theorem lW{d t:ByteArray}(v:ByteArray){k:Nat}(e:k<=9)(f:d.size<=4096)(g:t.size<=10000):rdv d (hdr d k++(V.dby d t k++v)) t.size=if v.size<4 then(⟨#[]⟩,0,6) else if sa v 0 4≠adl 1 t then(⟨#[]⟩,0,172) else(t,(hdr d k).size+(V.dby d t k).size+4,0):=by
 obtain⟨a,h⟩:=tp d (V.dby d t k++v) k t.size e;rw[a,G0 v f g];unfold rdt;rw[h];simp only[LN];have hs:(hdr d k++(V.dby d t k++v)).size=(hdr d k).size+((V.dby d t k).size+v.size):=(by rw[AM,AM]);have b:sa (hdr d k++(V.dby d t k++v)) ((hdr d k).size+(V.dby d t k).size) 4=sa v 0 4:=(sW _ _ _).trans (sW _ v 0);rw[hs,b,A0 (by simp)];by_cases c:v.size<4
 · rw[A7 c,A7 (by omega)]
 · rw[A0 c,A0 (by omega)]
theorem zT(d t:ByteArray)(k:Nat)(u:ByteArray):wr d t k++u=hdr d k++(V.dby d t k++(sb (adl 1 t)++u)):=by
 unfold wr;rw[Dq,Dq]
theorem dK(d t:ByteArray)(k:Nat):(wr d t k).size=(hdr d k).size+(V.dby d t k).size+4:=by
 unfold wr;rw[AM,AM];rfl
theorem wu{d t:ByteArray}(u:ByteArray){k:Nat}(a:k<=9)(b:d.size<=4096)(c:t.size<=10000):rdv d (wr d t k++u) t.size=(t,(wr d t k).size,0):=by
 rw[zT,lW _ a b c,A0 (by rw[AM];show ¬4+u.size<4;omega),FQ (nf t) u,A0 (by simp),dK]
theorem vg(s:ByteArray)(c:Nat):(s.extract 0 c).data.toList=s.data.toList.take c:=by simp
theorem sB{s a b:ByteArray}{c:Nat}(e:s.data.toList=a.data.toList++b.data.toList)(h:a.size<=c):s.extract 0 c=a++b.extract 0 (c - a.size):=by
 apply ByteArray.ext
 apply Array.ext'
 rw[vg,eB,vg,e,List.take_append,jA,Aj (by rw[jA];exact h)]
theorem zK{d t:ByteArray}{k c:Nat}(g:k<=9)(r:d.size<=4096)(s:t.size<=10000)(y:c<(wr d t k).size):rdv d ((wr d t k).extract 0 c) t.size=(⟨#[]⟩,0,6):=by
 have o:(wr d t k).data.toList=(hdr d k).data.toList++(V.dby d t k++sb (adl 1 t)).data.toList:=by
  unfold wr;simp
 by_cases p:(hdr d k).size<=c
 · rw[sB o p]
   generalize x:c - (hdr d k).size=c';by_cases f:(V.dby d t k).size<=c'
   · rw[sB (eB _ _) f,lW _ g r s,A7]
     have:=dK d t k;rw[Ae];omega
   · have v:(V.dby d t k++sb (adl 1 t)).extract 0 c'=(V.dby d t k).extract 0 c':=by
      apply ByteArray.ext
      apply Array.ext'
      rw[vg,vg,eB,CO (by rw[jA];omega)]
     have j:d.data.toList.length=d.size:=jA d;have b:I.inf 1000000 (V.dby d t k) d.size t.size (0,d.data.toList)=.ok ((),((V.dbs d t k).length,d.data.toList++t.data.toList)):=by
      have:=I.inf_dby (d:=d) (t:=t) (u:=⟨#[]⟩) (k:=k) (K:=1000000) (Lim:=t.size) (by omega) (by omega) (by decide) qR
      rwa [pI] at this
     have w:rin d ((V.dby d t k).extract 0 c') t.size=([],0,6):=by
      unfold rin;rw[A0 (by omega),Au,I.inf_cut j b (V.dby_size d t k).symm (by omega) rfl];rfl
     rw[v,(tp d _ k t.size g).1,w];rfl
 · have hs:((wr d t k).extract 0 c).size=c:=by rw[Ae];omega
   have hdc:(dct ((wr d t k).extract 0 c)).2.2=6:=by
    unfold dct;rw[hs];by_cases f:c<2
    · rw[A7 f]
    · have a:∀i,i<2->at8 ((wr d t k).extract 0 c) i=at8 (hdr d k++(V.dby d t k++sb (adl 1 t))) i:=λi hi=>by
       unfold at8;rw[vg,o,eB (hdr d k),List.getD,List.getD,AD,A7 (by omega)]
      have m:=cG d k;have l:¬d.size=0:=λq=>by rw[A7 q] at m;omega
      rw[A0 l] at m;have e:=uR d (V.dby d t k++sb (adl 1 t)) k;have n:=mD d g;rw[A0 f,a 0 (by decide),a 1 (by decide),e.1,e.2,A0 (λh=>h n.1),A0 (λh=>l (n.2.1.1 h)),A7 (by omega)]
   unfold rdv rdz;rw[A7 (by rw[hdc];decide),hdc]
theorem wv{d t:ByteArray}{k j:Nat}(i:k<=9)(l:j<=4)(lim:Int):rdv d ⟨((wr d t k).data.toList.set 1 (UInt8.ofNat (at8 (wr d t k) 1^^^2^j))).toArray⟩ lim=(⟨#[]⟩,0,170):=by
 have n:wr d t k=hdr d k++(V.dby d t k++sb (adl 1 t)):=(by have:=zT d t k ⟨#[]⟩;rwa [pI,pI] at this);have a:=uR d (V.dby d t k++sb (adl 1 t)) k;rw[<-n] at a;have c:=dK d t k;have m:=(mD d i).2.2 j l;have o:=cG d k;obtain⟨y,f⟩:∃y,UInt8.ofNat (at8 (wr d t k) 1^^^2^j)=y:=⟨_,rfl⟩
 have b:y.toNat=(pb (hf d k)^^^2^j)%256:=(by rw[<-f,Bu,a.2]);rw[f];obtain⟨L,e⟩:∃L,(wr d t k).data.toList=L:=⟨_,rfl⟩
 have p:2<=L.length:=(by rw[<-e,jA,c,o];split<;>omega);have h:at8 (⟨(L.set 1 y).toArray⟩:ByteArray) 0=120:=by
  rw[<-a.1];unfold at8;rw[e];show((L.set 1 y).getD 0 0).toNat=_
  rw[List.getD,DO (by decide),List.getD]
 have g:at8 (⟨(L.set 1 y).toArray⟩:ByteArray) 1=y.toNat:=by
  unfold at8;show((L.set 1 y).getD 1 0).toNat=_
  rw[List.getD,DP (by omega)];rfl
 have hs:(⟨(L.set 1 y).toArray⟩:ByteArray).size=L.length:=by
  show(L.set 1 y).toArray.size=_
  simp
 rw[e];have hdc:dct (⟨(L.set 1 y).toArray⟩:ByteArray)=(0,false,170):=by
  unfold dct;rw[A0 (by omega),h,g,b,A7 m]
 unfold rdv rdz;rw[hdc,A7 (by decide)]
theorem ID{a x:Nat}(c:a<256)(d:x<256)(h:x≠0):(a^^^x)%256≠a:=by
 have f:a^^^x<256:=Dp (n:=8) c d;rw[Ar f];intro e;apply h;have b:a^^^(a^^^x)=a^^^a:=(by rw[e]);rw[<-Nat.xor_assoc,Nat.xor_self,Nat.zero_xor] at b;exact b
theorem zJ{d t:ByteArray}{k w x:Nat}(B:k<=9)(E:d.size<=4096)(C:t.size<=10000)(F:w<=3)(u:x<256)(p:x≠0):
 rdv d ⟨((wr d t k).data.toList.set ((wr d t k).size - 1 - w) (UInt8.ofNat (at8 (wr d t k) ((wr d t k).size - 1 - w)^^^x))).toArray⟩ t.size=(⟨#[]⟩,0,172):=by
 have g:wr d t k=(hdr d k++V.dby d t k)++sb (adl 1 t):=rfl;obtain⟨P,c⟩:∃P,hdr d k++V.dby d t k=P:=⟨_,rfl⟩
 have a:P.size=(hdr d k).size+(V.dby d t k).size:=(by rw[<-c,AM]);have n:=dK d t k;rw[<-a] at n;have o:(wr d t k).size - 1 - w=P.size+(3 - w):=(by omega);rw[o];rw[c] at g;rw[g,mY];obtain⟨y,r⟩:∃y,UInt8.ofNat (at8 (sb (adl 1 t)) (3 - w)^^^x)=y:=⟨_,rfl⟩
 have b:y.toNat≠at8 (sb (adl 1 t)) (3 - w):=(by rw[<-r,Bu];exact ID (fX _ _) u p);rw[r];obtain⟨v,j⟩:∃v:ByteArray,(⟨((sb (adl 1 t)).data.toList.set (3 - w) y).toArray⟩:ByteArray)=v:=⟨_,rfl⟩
 have A:v.size=4:=by
  rw[<-j];show((sb (adl 1 t)).data.toList.set (3 - w) y).toArray.size=_
  rw[AE,Cz];rfl
 have D:(⟨((P++sb (adl 1 t)).data.toList.set (P.size+(3 - w)) y).toArray⟩:ByteArray)=hdr d k++(V.dby d t k++v):=by
  apply ByteArray.ext
  apply Array.ext'
  rw[eB,eB,<-j,eB,<-c,eB];show((hdr d k).data.toList++(V.dby d t k).data.toList++(sb (adl 1 t)).data.toList).set _ y=(hdr d k).data.toList++((V.dby d t k).data.toList++(sb (adl 1 t)).data.toList.set (3 - w) y)
  rw[List.set_append_right _ _ (by rw[qA,jA,jA,c,a];omega),qA,jA,jA,c,a,Do,qD]
 have h:∀i,i<4->at8 v i=if i=3 - w then y.toNat else at8 (sb (adl 1 t)) i:=λi hi=>by
  rw[<-j];unfold at8;show(((sb (adl 1 t)).data.toList.set (3 - w) y).getD i 0).toNat=_
  by_cases q:i=3 - w
  · subst q
    rw[A7 rfl,List.getD,DP (by rw[jA];show 3 - w<4;omega)];rfl
  · rw[A0 q,List.getD,DO (λe=>q e.symm),List.getD]
 have m:sa v 0 4≠adl 1 t:=by
  intro e;have f:=bU v 0;have s:=FQ (nf t) ⟨#[]⟩;rw[pI,bU] at s;rw[e] at f;simp only[Aa] at f s;rw[h 0 (by decide),h 1 (by decide),h 2 (by decide),h 3 (by decide)] at f;have l:y.toNat<256:=UInt8.toNat_lt _;generalize G:y.toNat=Y at b f l;have z:w=0\/w=1\/w=2\/w=3:=(by omega);rcases z with rfl|rfl|rfl|rfl<;>simp at f b<;>omega
 rw[D,lW v B E C,A0 (by omega),A7 m]
end Z
namespace Z
open Go Go.RowKit M
theorem DW{w:World}{g f i u:Nat}{d:List UInt8}(h:I.Ry w g f d)(hi:i<d.length)(l:u<=255):I.Ry (w.setCell ⟨g,i,none⟩ (.int .u8 (u:Int))) g f (d.set i (UInt8.ofNat u)):=by
 have k:∀j,j≠i->(w.setCell ⟨g,i,none⟩ (.int .u8 (u:Int))).cell? ⟨g,j,none⟩=w.cell? ⟨g,j,none⟩:=λj a=>World.cell?_setCell_other w _ _ _ (λq=>a (by injection q with _ q _;exact q.symm))
 have hs:(w.setCell ⟨g,i,none⟩ (.int .u8 (u:Int))).cell? ⟨g,i,none⟩=some (.int .u8 (u:Int)):=World.cell?_setCell_same' _ _ _ (h.room i (Ag hi h.nc));refine⟨by rw[Cz];exact h.nc,λj a=> ?_,λj a=>by rw[World.frozen?_setCell];exact h.free j a,λj v b=> ?_,?_⟩
 · by_cases q:j=i
   · subst q;rw[hs];rfl
   · rw[k j q];exact h.room j a
 · by_cases q:j=i
   · subst q
     rw[DP hi] at b;cases b;rw[hs,Bu];congr 2;omega
   · rw[DO (by omega)] at b
     rw[k j q];exact h.byte j v b
 · obtain⟨c,fz,e⟩:=h.typ
   exact⟨_,fz,by rw[setCell_eq_setRow w g i _ _ _ _ e];exact setRow_heap w g c _ _ _ e⟩
theorem pc{w:World}{g a n:Nat}{b:List UInt8}(h:I.Ry w g a b)(d:b.length=n):(convert 26 9 (.slice (some ⟨g,0,none⟩) n a)).run prog w=.ok (.string ⟨b.toArray⟩) w:=
 V.Tx.conv_rb h.rb 0 n d qZ ⟨g,0,none⟩ (c:=a) (λ_=>rfl)
theorem E0{w:World}{g b i:Nat}{s:ByteArray}(h:I.Ry w g b s.data.toList)(hi:i<s.size):w.cell? ⟨g,i,none⟩=some (.int .u8 (at8 s i:Int)):=by
 have a:i<s.data.toList.length:=(by rw[jA];exact hi);rw[h.byte i _ (qE a)];unfold at8;rw[List.getD,qE a];rfl
theorem Jn(a:Nat)(h:a<256):Go.bits .or .u8 (a:Int) 1=((a|||1:Nat):Int):=u8_or_nat a 1 h (by decide)
theorem Gp{a:Nat}(h:a<256):a|||1<256/\a|||1≠0:=by
 refine⟨Nat.or_lt_two_pow (n:=8) h (by decide),λe=> ?_⟩;have:1<=a|||1:=Nat.right_le_or
 omega
structure Dfq(T:World->Prop):Prop where
 yes:∀ (d t:ByteArray) (k:Nat) (most:Int) (w:World),T w->d.size<=100000->t.size<=1024->k<=9->(((V.dbs d t k).length+7) /8:Nat)<=most->
  Calls prog 37 #[.string d,.string t,.int .i64 k,.int .i64 most] w λe w'=>e=.returned (.tuple #[.string (V.dby d t k),.int .i64 0])/\Below w.heap.size w w'
theorem jC{T:World->Prop}(D:Dfq T)(a:∀ {w w':World},T w->Below w.heap.size w w'->T w')(l:∀ {w},T w->Zlv w)(d t:ByteArray)(k:Nat)(most:Int)(w:World)(H:T w)(g:d.size<=100000)(j:t.size<=1024)(c:k<=9)(h:most<=9223372036854775807)(i:((wr d t k).size:Int)<=most):
 Calls prog 13 #[.string d,.string t,.int .i64 k,.int .i64 most] w λe w'=>e=.returned (.tuple #[.string (wr d t k),.int .i64 0])/\Below w.heap.size w w':=
 wO d t k most w (D.yes d t k most w H g j c (by
  have m:=dK d t k;have:=V.dby_size d t k;omega)) (λw' b=>l (a H b)) g (by omega) c h i
theorem zback_law{T:World->Prop}(C:Zs T)(D:Dfq T)(hZ:∀ {w},T w->Zlv w)(d t:ByteArray)(lv cut Q tn:Nat)(W:World)(H:T W)(aA:lv<=255)(ax:cut<=65535)(aJ:Q<=255)(aI:tn<=255):
 Calls prog 5 #[.string d,.string t,.int .u8 lv,.int .u16 cut,.int .u8 Q,.int .u8 tn] W λe w'=>e=.returned (.bool true)/\Below W.heap.size W w':=by
 have HW:=qH (λ(w:World) (b:Below W.heap.size W w)=>Fe C w (C.keep H b));have HH:=qH (λ(w:World)=>mE d t w);generalize M:(decide (4096<d.size\/1024<t.size))=bq at HH;cases bq with
 |true=>
  clear H M;go_enter func5,ntmps5
  go_wp2_with (first
   |(go_at_call 9;(with_reducible refine(HH.o _).mono ?_);rintro e w1 ⟨rfl,rfl⟩)
   |(go_at_call 10;(with_reducible refine(HW.o _ (Below.refl _ _)).mono ?_);rintro e w5 ⟨rfl,b5⟩;have B5:=qH b5;clear b5))
  go_ret;exact⟨rfl,B5.o⟩
 |false=>
  have hd:d.size<=4096:=(by have:=of_decide_eq_false M;omega);have ht:t.size<=1024:=(by have:=of_decide_eq_false M;omega);obtain⟨k,hk⟩:∃k,lv%10=k:=⟨_,rfl⟩
  have ap:(lv:Int)%10=(k:Int):=(by omega);have aN:Int.tmod (lv:Int) 10=(k:Int):=(by rw[BE (by omega)];exact ap);have K:k<=9:=(by omega);have aS:IntKind.i64.wrap (k:Int)=(k:Int):=IntWalk.i64_in _ (by omega);have aL:IntKind.u8.wrap (k:Int)=(k:Int):=(by simp[IntKind.wrap,IntKind.bits,IntKind.signed];omega);obtain⟨q,hq⟩:∃q,Q%4=q:=⟨_,rfl⟩
  have ao:(Q:Int)%4=(q:Int):=(by omega);have aR:Int.tmod (Q:Int) 4=(q:Int):=(by rw[BE (by omega)];exact ao);have ar:q<=3:=(by omega);have aM:IntKind.i64.wrap (q:Int)=(q:Int):=IntWalk.i64_in _ (by omega);have aO:IntKind.u8.wrap (q:Int)=(q:Int):=(by simp[IntKind.wrap,IntKind.bits,IntKind.signed];omega);obtain⟨j,hj⟩:∃j,Q%5=j:=⟨_,rfl⟩
  have al:(Q:Int)%5=(j:Int):=(by omega);have aE:Int.tmod (Q:Int) 5=(j:Int):=(by rw[BE (by omega)];exact al);have a7:j<=4:=(by omega);have aF:IntKind.u8.wrap (j:Int)=(j:Int):=(by simp[IntKind.wrap,IntKind.bits,IntKind.signed];omega);have aj:=Jn tn (by omega);have F:=Gp (a:=tn) (by omega);generalize hx:tn|||1=x at aj F;have ag:=dK d t k;have am:(hdr d k).size<=6/\2<=(hdr d k).size:=(by rw[cG];split<;>omega);have ai:=(V.dby_short d t k (by omega)).1;have ak:=V.dby_two d t k (by omega);have au:V.bnd t.size<=10500:=(by unfold V.bnd;split<;>omega);have a2:=jC D C.keep hZ d t k 16384 W H (by omega) (by omega) K (by decide) (by omega);have N:=λ(u:ByteArray)=>wu (d:=d) (t:=t) u K hd (by omega)
  have L:=λ(c:Nat) (hc:c<(wr d t k).size)=>zK (d:=d) (t:=t) K hd (by omega) hc
  have r:=zJ (d:=d) (t:=t) (k:=k) (w:=q) (x:=x) K hd (by omega) ar F.1 F.2;have B:=wv (d:=d) (t:=t) (k:=k) (j:=j) K a7 (t.size:Int);generalize hS:wr d t k=S at a2 ag r B;simp only[hS] at N L;obtain⟨n,hn⟩:∃n,S.size=n:=⟨_,rfl⟩
  have aP:8<=n/\n<=16384:=(by omega);have E:S.data.toList.length=n:=(by rw[jA,hn]);rw[hn] at r;simp only[hn] at N L;obtain⟨c,hc⟩:∃c,cut%n=c:=⟨_,rfl⟩
  have c1:c<n:=(by rw[<-hc];exact AR _ (by omega));have c2:Int.tmod (cut:Int) (n:Int)=(c:Int):=(by rw[BE (by omega),<-hc];exact(Int.natCast_emod _ _).symm);have aG:(cut:Int)%(n:Int)=(c:Int):=(by rw[<-hc];exact(Int.natCast_emod _ _).symm);have c3:IntKind.i64.wrap (cut:Int)=(cut:Int):=IntWalk.i64_in _ (by omega);have c4:IntKind.i64.wrap (c:Int)=(c:Int):=IntWalk.i64_in _ (by omega);have n0:((n:Int)==0)=false:=(by rw[qN];omega);have aC:(n==0)=false:=(by rw[qN];omega);have aw:decide (n=0)=false:=qF (by omega);have n8:decide ((n:Int)<8)=false:=qF (by omega);have aK:decide (n<8)=false:=qF (by omega);obtain⟨m,hm⟩:∃m,n - 1=m:=⟨_,rfl⟩
  have m1:(n:Int) - 1=(m:Int):=(by omega);obtain⟨l,a6⟩:∃i,n - 1 - q=i:=⟨_,rfl⟩
  have x1:(m:Int) - (q:Int)=(l:Int):=(by omega);have x2:l<n:=(by omega);rw[a6] at r;have ha:=fX S l;have hb:=fX S 1;have O:=u8_xor_nat (at8 S l) x ha F.1;have ad:at8 S l^^^x<256:=Dp (n:=8) ha F.1;have A:2^j<256:=CI (Ak (by decide) a7) (by decide);have v:=u8_xor_nat (at8 S 1) (2^j) hb A;have J:at8 S 1^^^2^j<256:=Dp (n:=8) hb A;have hA:=qH (λ(w:World) (g G:Nat) (h:I.Ry w g G S.data.toList)=>(show w.cell? ⟨g,l,none⟩=some (.int .u8 (at8 S l:Int)) from E0 h (by omega)));have af:=qH (λ(w:World) (g G:Nat) (h:I.Ry w g G S.data.toList)=>(show w.cell? ⟨g,1,none⟩=some (.int .u8 (at8 S 1:Int)) from E0 h (by omega)));have X:=qH (λ(w:World)=>I.run_by w S (by omega));simp only[hn] at X;have HR:=qH (λ(s:ByteArray) (w:World) (b:Below W.heap.size W w) (hs:s.size<=100000)=>read_any C.iz d s (t.size:Int) w (C.keep H b) (by omega) hs (by omega))
  have aq:=qH (λ(w:World) (b:Below W.heap.size W w)=>(show Calls prog 14 #[.string d,.string (S++⟨#[98,101,104,105,110,100]⟩),.int .i64 (t.size:Int)] w λe R=>e=.returned (.tuple #[.string t,.int .i64 (n:Int),.int .i64 0])/\Below w.heap.size w R from by
   have h:=HR.o (S++⟨#[98,101,104,105,110,100]⟩) w b (by rw[AM];show S.size+6<=_;omega);rw[N] at h;exact h))
  have an:=qH (λ(w:World) (b:Below W.heap.size W w)=>(show Calls prog 14 #[.string d,.string (S.extract 0 c),.int .i64 (t.size:Int)] w λe R=>e=.returned (.tuple #[.string ⟨#[]⟩,.int .i64 0,.int .i64 6])/\Below w.heap.size w R from by
   have h:=HR.o (S.extract 0 c) w b (by rw[Ae];omega);rw[L c c1] at h;exact h))
  obtain⟨a,aa⟩:∃a,at8 S l=a:=⟨_,rfl⟩
  obtain⟨a1,P⟩:∃a,at8 S 1=a:=⟨_,rfl⟩
  simp only[aa] at r O ad hA;simp only[P] at B v J af;obtain⟨y,hy⟩:∃y,a^^^x=y:=⟨_,rfl⟩
  obtain⟨z,hz⟩:∃z,2^j=z:=⟨_,rfl⟩
  rw[hz] at B v J A;have aB:(2:Int)^j%256=(z:Int):=by
   have e:(2:Int)^j=((2^j:Nat):Int):=(by rw[Cq];rfl);rw[e,hz];omega
  obtain⟨Y,ac⟩:∃y,a1^^^z=y:=⟨_,rfl⟩
  rw[hy] at r O ad;rw[ac] at B v J;have ae:(⟨(S.data.toList.set l (UInt8.ofNat y)).toArray⟩:ByteArray).size=n:=by
   show(S.data.toList.set l (UInt8.ofNat y)).toArray.size=n
   rw[AE,Cz,E]
  have a9:(⟨(S.data.toList.set 1 (UInt8.ofNat Y)).toArray⟩:ByteArray).size=n:=by
   show(S.data.toList.set 1 (UInt8.ofNat Y)).toArray.size=n
   rw[AE,Cz,E]
  have ab:=qH (λ(w:World) (b:Below W.heap.size W w)=>(show Calls prog 14 #[.string d,.string ⟨(S.data.toList.set l (UInt8.ofNat y)).toArray⟩,.int .i64 (t.size:Int)] w λe R=>e=.returned (.tuple #[.string ⟨#[]⟩,.int .i64 0,.int .i64 172])/\Below w.heap.size w R from by
   have h:=HR.o _ w b (by rw[ae];omega);rw[r] at h;exact h))
  have a4:=qH (λ(w:World) (b:Below W.heap.size W w)=>(show Calls prog 14 #[.string d,.string ⟨(S.data.toList.set 1 (UInt8.ofNat Y)).toArray⟩,.int .i64 (t.size:Int)] w λe R=>e=.returned (.tuple #[.string ⟨#[]⟩,.int .i64 0,.int .i64 170])/\Below w.heap.size w R from by
   have h:=HR.o _ w b (by rw[a9];omega);rw[B] at h;exact h))
  have ah:=qH (λ(w:World) (g G:Nat) (h:I.Ry w g G S.data.toList)=>DW (i:=l) (u:=y) h (by omega) (by omega));have a3:=qH (λ(w:World) (g G:Nat) (h:I.Ry w g G S.data.toList)=>DW (i:=1) (u:=Y) h (by omega) (by omega));have a5:=qH (λ(w:World) (g G:Nat) (h:I.Ry w g G (S.data.toList.set l (UInt8.ofNat y)))=>pc (n:=n) h (by rw[Cz];exact E));have U:=qH (λ(w:World) (g G:Nat) (h:I.Ry w g G (S.data.toList.set 1 (UInt8.ofNat Y)))=>pc (n:=n) h (by rw[Cz];exact E));obtain⟨a8,av⟩:=qh2 E a2;have az:S.size=n:=hn;have aT:n+6<=9223372036854775807:=(by omega);obtain⟨S3,Z⟩:∃S3:ByteArray,(⟨(S.data.toList.set l (UInt8.ofNat y)).toArray⟩:ByteArray)=S3:=⟨_,rfl⟩
  obtain⟨S4,a0⟩:∃S4:ByteArray,(⟨(S.data.toList.set 1 (UInt8.ofNat Y)).toArray⟩:ByteArray)=S4:=⟨_,rfl⟩
  rw[Z] at ab;rw[a0] at a4;simp only[Z] at a5;simp only[a0] at U;clear H M a2 N L r B hS ag ai ak au am hk hq hj hx F hc hm a6 aa P hy ac ae a9 Z a0 ha hb HR E A hz C D hn;go_enter func5,ntmps5
  go_wp2_with (first
   |(go_at_call 9;(with_reducible refine(HH.o _).mono ?_);rintro e w1 ⟨rfl,rfl⟩)
   |(go_at_call 13;(with_reducible refine av.o.mono ?_);rintro e w1 ⟨rfl,b1⟩;have B1:=qH b1;clear b1)
   |(go_at_call 14;(with_reducible refine qcb B1 (aq.o _ B1.o) ?_);intro R B2)
   |(go_at_call 14;(with_reducible refine(an.o _ B2.o).mono ?_);rintro e w3 ⟨rfl,b3⟩
     obtain⟨G,w4,aD,y4,b4,s4⟩:=X.o w3;have B3:=qbt B2 b3;have k3:=hA.o w4 _ _ y4;have k4:=y4.free l (by have:=y4.nc;rw[a8.o] at this;omega);have aQ:=a5.o _ _ _ (ah.o w4 _ _ y4);have B4:=qH ((B3.o.trans (b4.mono B3.o.size)).setCell (p:=⟨w3.heap.size,l,none⟩) B3.o.size (.int .u8 (y:Int)));clear b3 b4 y4 s4)
   |(go_at_call 14;(with_reducible refine(ab.o _ B4.o).mono ?_);rintro e w6 ⟨rfl,b6⟩
     obtain⟨aU,w7,ay,y7,b7,s7⟩:=X.o w6;have B6:=qbt B4 b6;have k7:=af.o w7 _ _ y7;have k8:=y7.free 1 (by have:=y7.nc;rw[a8.o] at this;omega);have aH:=U.o _ _ _ (a3.o w7 _ _ y7);have B7:=qH ((B6.o.trans (b7.mono B6.o.size)).setCell (p:=⟨w6.heap.size,1,none⟩) B6.o.size (.int .u8 (Y:Int)));clear b6 b7 y7 s7)
   |(go_at_call 14;(with_reducible refine qcb B7 (a4.o _ B7.o) ?_);intro w9 B9)
   |(go_at_call 10;(with_reducible refine qcb B9 (HW.o _ B9.o) ?_);intro w5 B5))
  go_ret;exact⟨rfl,B5.o⟩
end Z
namespace Z
open Go Go.RowKit
theorem dfq:Dfq Tabz where
 yes:=λd t k most w H g n j i=>by
  have b:=V.dtk_len d t k;have a:Calls prog 79 #[.string d,.string t,.int .i64 k] w (V.CutR w d t k):=by
   by_cases m:k=0
   · subst m;exact V.cut_zero15 d t w (by omega)
   · exact V.cut_of15 d t k w H.2 (by omega) g (by omega) λA c w' _ _ _ _ _=>V.joined_few A _ c _ t w' rfl (by omega) (by
      have l:=V.dtk_size d t k;unfold V.szt;rw[BK,l];omega)
  exact(V.deflate_of d t k most w H.2 g (by omega) j a).mono λe w' h=>⟨h.2.1 i,h.1⟩
theorem zsb:Zs Tabz where
 keep:=λh b=>h.keep b
 wk:=λw H=>by
  have h:=jC dfq (λh b=>h.keep b) (λh=>h.1) ⟨#[]⟩ ⟨#[]⟩ 6 99 w H (by decide) (by decide) (by decide) (by decide) (by rw[nk];decide);rw[nk] at h;exact h
 iz:=⟨λh b=>h.keep b,λd s L w H c hs a=>I.ifs.yes d s L w H.2.2 c hs a,λd s l w H e=>I.ifs.neg d s l w H.2.2 e⟩
theorem tabz_of_laid{W:World}{a:List (String×DataW Unit)}(b:a=[("platen/parse.levels",Rows.laid_platen_parse_levels),("platen/runs.says",Rows.laid_platen_runs_says),("platen/symbol.lengths",Rows.laid_platen_symbol_lengths),("platen/symbol.distances",Rows.laid_platen_symbol_distances),("platen/zlib.levels",Rows.laid_platen_zlib_levels)])(h:laidMet prog a W):Tabz W:=by
 subst b;exact⟨lz rfl (h.filter λx=>x.1== "platen/zlib.levels"),V.tabx_of_laid rfl (h.filter λx=>x.1 != "platen/zlib.levels")⟩
theorem u8_arg{a:Int}(h:(Lit.int .u8 a).wf=true):∃n:Nat,a=n/\n<=255:=by
 have b:0<=a/\a<=255:=(by simpa [Lit.wf,IntKind.min,IntKind.max,IntKind.signed,IntKind.bits] using h);exact⟨a.toNat,by omega,by omega⟩
theorem u16_arg{a:Int}(h:(Lit.int .u16 a).wf=true):∃n:Nat,a=n/\n<=65535:=by
 have b:0<=a/\a<=65535:=(by simpa [Lit.wf,IntKind.min,IntKind.max,IntKind.signed,IntKind.bits] using h);exact⟨a.toNat,by omega,by omega⟩
