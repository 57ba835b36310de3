import Derived.Test.YthgilhebnlglkaaGreatDoorEMIfR
import Derived.Deep.LoopGhost
set_option linter.all false
set_option maxHeartbeats 8000000
set_option maxRecDepth 1000000
open Go.Proofs.Tryz
namespace Go.Proofs.YthgilhebnlglkaaGreatDoor.I
open Go Go.RowKit M
structure Rin(w:World)(B g r:Nat)(s:ByteArray)(D L e:Nat)(x:St):Prop where
 gb:B<=g
 rb:B<=r
 row:∃cp,w.heap[g]? =some (.cells #[.string s,.int .i64 (x.1:Int),.int .i64 (e:Int),.slice (some ⟨r,0,none⟩) x.2.length cp,.int .i64 (D:Int),.int .i64 (L:Int)] 133 (0,0))/\Ry w r cp x.2
 dl:D<=x.2.length
 ll:x.2.length - D<=L
 al:x.1<=8*s.size
def Cg(g r:Nat):Nat->Prop:=λj=>j=g\/j=r
section
variable {w w':World} {B g r D L e:Nat} {s:ByteArray} {x:St}
theorem Rin.cells(h:Rin w B g r s D L e x):∃cp,w.cell? ⟨g,0,none⟩=some (.string s)/\w.cell? ⟨g,1,none⟩=some (.int .i64 (x.1:Int))/\w.cell? ⟨g,2,none⟩=some (.int .i64 (e:Int))/\
 w.cell? ⟨g,3,none⟩=some (.slice (some ⟨r,0,none⟩) x.2.length cp)/\w.cell? ⟨g,4,none⟩=some (.int .i64 (D:Int))/\w.cell? ⟨g,5,none⟩=some (.int .i64 (L:Int))/\(∀i,w.frozen? ⟨g,i,none⟩=false)/\Ry w r cp x.2:=by
 obtain⟨cp,h1,h2⟩:=h.row;refine⟨cp,?_,?_,?_,?_,?_,?_,λi=> ?_,h2⟩<;>simp[World.cell?,World.frozen?,h1]
theorem Rin.glt(h:Rin w B g r s D L e x):g<w.heap.size:=by
 obtain⟨cp,h1,h2⟩:=h.row;exact(qW.1 h1).1
theorem Rin.rlt(h:Rin w B g r s D L e x):r<w.heap.size:=by
 obtain⟨cp,h1,h2⟩:=h.row;exact h2.lt
theorem Rin.gr(h:Rin w B g r s D L e x):g≠r:=by
 obtain⟨cp,h1,h2⟩:=h.row;obtain⟨c,fz,k⟩:=h2.typ;intro q;subst q;rw[h1] at k;injection k with k
 injection k with _ k _
 exact absurd k (by decide)
theorem Rin.same(h:Rin w B g r s D L e x)(hk:Kept NoB w w'):Rin w' B g r s D L e x:=by
 obtain⟨cp,h1,h2⟩:=h.row;exact⟨h.gb,h.rb,⟨cp,(hk.block g h.glt (λe=>e)).trans h1,h2.kept hk (λe=>e)⟩,h.dl,h.ll,h.al⟩
theorem Rin.below(h:Rin w B g r s D L e x)(hb:Below w.heap.size w w'):Rin w' B g r s D L e x:=h.same (Kept.of_below hb)
theorem Rin.setE(h:Rin w B g r s D L e x)(c:Nat):Rin (w.setCell ⟨g,2,none⟩ (.int .i64 (c:Int))) B g r s D L c x/\Kept (λj=>j=g) w (w.setCell ⟨g,2,none⟩ (.int .i64 (c:Int))):=by
 obtain⟨cp,h1,h2⟩:=h.row;refine⟨⟨h.gb,h.rb,⟨cp,?_,h2.other (x:=⟨g,2,none⟩) (λq=>h.gr q.symm) _⟩,h.dl,h.ll,h.al⟩,(Kept.refl (λj=>j=g) w).setCell ⟨g,2,none⟩ (.inl rfl) _⟩;rw[setCell_eq_setRow w g 2 _ _ _ _ h1,setRow_heap w g _ _ _ _ h1];rfl
theorem Rin.setA(h:Rin w B g r s D L e x)(a:Nat)(ha:a<=8*s.size):Rin (w.setCell ⟨g,1,none⟩ (.int .i64 (a:Int))) B g r s D L e (a,x.2)/\Kept (λj=>j=g) w (w.setCell ⟨g,1,none⟩ (.int .i64 (a:Int))):=by
 obtain⟨cp,h1,h2⟩:=h.row;refine⟨⟨h.gb,h.rb,⟨cp,?_,h2.other (x:=⟨g,1,none⟩) (λq=>h.gr q.symm) _⟩,h.dl,h.ll,ha⟩,(Kept.refl (λj=>j=g) w).setCell ⟨g,1,none⟩ (.inl rfl) _⟩;rw[setCell_eq_setRow w g 1 _ _ _ _ h1,setRow_heap w g _ _ _ _ h1];rfl
theorem cgg(hk:Kept (λj=>j=g) w w'):Kept (Cg g r) w w':=hk.mono λj e=> .inl e
theorem Rin.app(h:Rin w B g r s D L e x){w1 w2:World}(h1:Kept NoB w w1){l:List UInt8}{g' cp':Nat}(hy:Ry w2 g' cp' (x.2++l))(hg:w1.grownBy w2 (some r))(ho:g'=r\/w1.heap.size<=g'){n:Nat}(hn:n=(x.2++l).length)(hL:x.2.length - D+l.length<=L):
 Rin (w2.setCell ⟨g,3,none⟩ (.slice (some ⟨g',0,none⟩) n cp')) B g g' s D L e (x.1,x.2++l)/\Kept (Cg g r) w (w2.setCell ⟨g,3,none⟩ (.slice (some ⟨g',0,none⟩) n cp'))/\(g'=r\/w.heap.size<=g'):=by
 subst hn;obtain⟨cp,e1,e3⟩:=h.row;have hgl:=h.glt;have hdl:=h.dl;have hs1:=h1.size;have ho':g'=r\/w.heap.size<=g':=ho.imp id (λe=>by omega);have hk:Kept (λj=>j=r) w w2:=(h1.none _).grown hg (λk e=>by cases e;exact .inl rfl);have hne:g'≠g:=(by rcases ho' with e|e;exact λq=>h.gr (by rw[<-q,e]);omega);have e2:w2.heap[g]? =_:=(hk.block g hgl h.gr).trans e1;have hb:B<=g':=(by rcases ho' with e|e;rw[e];exact h.rb;have:=h.rb;have:=e3.lt;omega);refine⟨⟨h.gb,hb,⟨cp',?_,hy.other (x:=⟨g,3,none⟩) hne _⟩,?_,?_,h.al⟩,?_,ho'⟩
 · rw[setCell_eq_setRow w2 g 3 _ _ _ _ e2,setRow_heap w2 g _ _ _ _ e2]
   rfl
 · simp only[qA];omega
 · simp only[qA];omega
 · exact(hk.mono (λj e=> .inr e)).trans ((Kept.refl (λj=>j=g) w2).setCell ⟨g,3,none⟩ (.inl rfl) _) (λj e=> .inl (.inl e))
end
structure z08(w:World)(B g r:Nat)(s:ByteArray)(D L e:Nat)(y:St)(w':World):Prop where
 kept:Kept (Cg g r) w w'
 ex:∃r',(r'=r\/w.heap.size<=r')/\Rin w' B g r' s D L e y
def zcy{α:Type}(w:World)(B g r:Nat)(s:ByteArray)(D L:Nat)(res:Except Nat (α×St))(V:α->Ending->World->Prop)(F:Ending->World->Prop)(e:Ending)(w':World):Prop:=
 match res with
 |.ok p=>V p.1 e w'/\z08 w B g r s D L 0 p.2 w'
 |.error c=>F e w'/\c≠0/\∃y,z08 w B g r s D L c y w'
def z9n(a:Nat)(e:Ending)(_:World):Prop:=e=.returned (.int .i64 (a:Int))
def zju{α:Type}(_:α)(e:Ending)(_:World):Prop:=e=.returned (.tuple #[])
def z2g(e:Ending)(_:World):Prop:=e=.returned (.int .i64 0)
def zcz(e:Ending)(_:World):Prop:=e=.returned (.tuple #[])
def Apn(w:World)(g r:Nat)(A:Option Addr)(n:Nat)(l:Nat->Nat):Prop:=
 0<n->∃b o,A=some ⟨b,o,none⟩/\b<w.heap.size/\b≠g/\b≠r/\∀i,i<n->w.cell? ⟨b,o+i,none⟩=some (.int .u8 (l i:Int))
section
variable {w w1 w2 w':World} {B g r r1 D L e:Nat} {s:ByteArray} {x y z:St}
theorem Kept.cg_trans(h:Kept (Cg g r) w w1)(k:Kept (Cg g r1) w1 w2)(hr:r1=r\/w.heap.size<=r1):Kept (Cg g r) w w2:=
 h.trans k λj hj=>by
  rcases hj with e|e
  · exact .inl (.inl e)
  · rcases hr with e'|e'
    · exact .inl (.inr (e.trans e'))
    · exact .inr (by omega)
theorem z08.trans{e2:Nat}(h:Kept (Cg g r) w w1)(hr:r1=r\/w.heap.size<=r1)(k:z08 w1 B g r1 s D L e2 z w2):z08 w B g r s D L e2 z w2:=by
 obtain⟨k1,r2,h2,k2⟩:=k;refine⟨Kept.cg_trans h k1 hr,r2,?_,k2⟩;have:=h.size;rcases h2 with e|e
 · rcases hr with e'|e'
   · exact .inl (e.trans e')
   · exact .inr (by omega)
 · exact .inr (by omega)
theorem Rin.start(h:Rin w B g r s D L e x):z08 w B g r s D L e x w:=⟨Kept.refl _ _,r,.inl rfl,h⟩
theorem Rin.res(h:Rin w B g r s D L e x){e':Nat}(hk:Kept (Cg g r) w w')(h':Rin w' B g r s D L e' y):z08 w B g r s D L e' y w':=⟨hk,r,.inl rfl,h'⟩
theorem Apn.nums{A:Option Addr}{n:Nat}{l:Nat->Nat}(h:Apn w g r A n l):z0e w .u8 A n (λi=>(l i:Int)):=λhn=>by
 obtain⟨b,o,q,hlt,_,_,hc⟩:=h hn;exact⟨b,o,q,hlt,hc⟩
theorem Apn.go{A:Option Addr}{n:Nat}{l:Nat->Nat}(h:Apn w g r A n l)(hk:Kept (Cg g r) w w1)(hr:r1=r\/w.heap.size<=r1):Apn w1 g r1 A n l:=λhn=>by
 obtain⟨b,o,q,hlt,g1,g2,hc⟩:=h hn
 exact⟨b,o,q,Nat.lt_of_lt_of_le hlt hk.size,g1,by rcases hr with e|e;rw[e];exact g2;omega,
  λi hi=>(World.cell?_of_block (a:=⟨b,o+i,none⟩) (hk.block b hlt (λe=>by rcases e with e|e;exact g1 e;exact g2 e))).trans (hc i hi)⟩
theorem z08.lift{α:Type}{V:α->Ending->World->Prop}{F:Ending->World->Prop}{res:Except Nat (α×St)}{f:FuncId}{vs:Array Value}(h:z08 w B g r s D L e x w1)
 (k:∀r1,(r1=r\/w.heap.size<=r1)->Rin w1 B g r1 s D L e x->Calls prog f vs w1 (zcy w1 B g r1 s D L res V F)):Calls prog f vs w1 (zcy w B g r s D L res V F):=by
 obtain⟨hk,r1,hr,hi⟩:=h;refine(k r1 hr hi).mono λe' w' o=> ?_
 cases res with
 |ok p=>exact⟨o.1,z08.trans hk hr o.2⟩
 |error c=>obtain⟨o1,o2,y,o3⟩:=o;exact⟨o1,o2,y,z08.trans hk hr o3⟩
end
theorem zkr(a:Nat)(ha:a<4611686018427387904):(BitVec.ofInt 64 (a:Int)).toNat=a:=by
 rw[BitVec.ofInt_natCast,BitVec.toNat_ofNat];exact Nat.mod_eq_of_lt (by omega)
theorem zky(a b:Nat)(ha:a<4611686018427387904)(hb:b<4611686018427387904):Go.bits .or .i64 (a:Int) (b:Int)=((a|||b:Nat):Int):=by
 have hx:a|||b<2^62:=Nat.or_lt_two_pow (by omega) (by omega);show IntKind.i64.wrap ((BitVec.ofInt 64 (a:Int)|||BitVec.ofInt 64 (b:Int)).toNat:Int)=_
 rw[BitVec.toNat_or,zkr a ha,zkr b hb];exact IntWalk.i64_in _ ⟨by omega,by omega⟩
theorem zgg(s:ByteArray)(i:Nat)(h:i<s.size):M.tx s/256^i%256=s[i].toNat:=by
 unfold M.tx;rw[<-z9D];have hl:i<s.data.toList.length:=(by rw[z09];exact h);rw[List.drop_eq_getElem_cons hl];simp only[vl];have hb:=(s.data.toList[i]).toNat_lt;have e:s.data.toList[i]=s[i]:=zhF s i h;rw[<-e];omega
theorem zeE(s:ByteArray)(m q v:Nat)(hq:m/8=q)(hv:m%8=v)(h:q<s.size):s[q].toNat/2^v%2=M.nb s m 1:=by
 rw[<-zgg s q h];unfold M.nb;rw[show m=8*q+v by omega,Nat.pow_add,<-Nat.div_div_eq_div_mul,z8T,Nat.pow_one];rw[show(256:Nat)=2^v*(2*2^(7 - v)) by rw[<-Nat.pow_succ',<-Nat.pow_add,show v+(7 - v).succ=8 by omega],Nat.mod_mul_right_div_self,Nat.mod_mul_right_mod]
theorem z1U(a v:Nat):(a:Int) /2^v=((a/2^v:Nat):Int):=by
 rw[Int.natCast_ediv];congr 1
theorem or_bit(X b k P:Nat)(hP:2^k=P)(hX:X<P)(hb:b<=1)(hP2:P<=32768):Go.bits .or .i64 (X:Int) (wrap64 (wrap64 (b:Int)*2^k))=((X+b*P:Nat):Int):=by
 have hbp:b*P<=1*32768:=Nat.mul_le_mul hb hP2;have hPi:(2:Int)^k=(P:Int):=(by rw[<-hP];exact(Int.natCast_pow 2 k).symm);have h5:X|||b*P=X+b*P:=by
  have:=Nat.two_pow_add_eq_or_of_lt (i:=k) (b:=X) (by rw[hP];exact hX) b;rw[hP] at this;rw[Nat.or_comm,Nat.mul_comm b P,<-this,Nat.add_comm]
 rw[hPi];clear hPi hP;have e1:wrap64 (b:Int)=(b:Int):=IntWalk.wrap64_in _ ⟨by omega,by omega⟩;obtain⟨Y,hY⟩:∃Y,b*P=Y:=⟨_,rfl⟩
 have e2:(b:Int)*(P:Int)=(Y:Int):=(by rw[<-hY];exact(Int.natCast_mul b P).symm);rw[hY] at hbp h5 ⊢;have e3:wrap64 (Y:Int)=(Y:Int):=IntWalk.wrap64_in _ ⟨by omega,by omega⟩;rw[e1,e2,e3,zky _ _ (by omega) (by omega),h5]
theorem zeQ(s:ByteArray)(x k q v:Nat)(hq:(x+k) /8=q)(hv:(x+k)%8=v)(h:q<s.size)(hk:k<=15):
 Go.bits .or .i64 (M.nb s x k:Int) (wrap64 (wrap64 (Go.bits .and .u8 ((s[q].toNat:Int) /2^v) 1)*2^k))=((M.nb s x (k+1):Nat):Int):=by
 have hb:=s[q].toNat_lt;have h1:s[q].toNat/2^v<256:=Nat.lt_of_le_of_lt (Nat.div_le_self _ _) (by omega);have h2:Go.bits .and .u8 ((s[q].toNat:Int) /2^v) 1=((M.nb s (x+k) 1:Nat):Int):=by
  rw[z1U];have:=u8_and_nat (s[q].toNat/2^v) 1 h1 (by decide);rw[Nat.and_one_is_mod,zeE s (x+k) q v hq hv h] at this;exact this
 rw[h2,zaY];exact or_bit _ _ k _ rfl (M.nb_lt s x k) (Nat.le_of_lt_succ (M.nb_lt s (x+k) 1)) (Nat.pow_le_pow_right (by decide:0<2) hk)
section
variable {w:World} {B g r D L e:Nat} {s:ByteArray} {x:St}
theorem zat(h:Rin w B g r s D L 0 x)(c:Nat):Calls prog 139 #[.pointer (some ⟨g,0,none⟩),.int .i64 (c:Int)] w λe w'=>e=.returned (.tuple #[])/\w'=w.setCell ⟨g,2,none⟩ (.int .i64 (c:Int)):=by
 obtain⟨cp,c0,c1,c2,c3,c4,c5,cf,hy⟩:=h.cells;have hfz:=cf 2;clear h c0 c1 c3 c4 c5 cf hy;go_enter func139,ntmps139;go_wp2;go_end0;exact⟨rfl,rfl⟩
def Rst{α:Type}(w:World)(B g r:Nat)(s:ByteArray)(D L:Nat)(res:Except Nat (α×St))(V:α->Ending->World->Prop)(F:Ending->World->Prop)(e:Ending)(w':World):Prop:=
 match res with
 |.ok p=>V p.1 e w'/\Rin w' B g r s D L 0 p.2/\Kept (λj=>j=g) w w'
 |.error c=>F e w'/\c≠0/\∃y,Rin w' B g r s D L c y/\Kept (λj=>j=g) w w'
theorem Rst.rout{α:Type}{res:Except Nat (α×St)}{V:α->Ending->World->Prop}{F:Ending->World->Prop}{e:Ending}{w':World}(h:Rst w B g r s D L res V F e w'):zcy w B g r s D L res V F e w':=by
 cases res with
 |ok p=>obtain⟨h1,h2,h3⟩:=h;exact⟨h1,cgg h3,r,.inl rfl,h2⟩
 |error c=>obtain⟨h1,h2,y,h3,h4⟩:=h;exact⟨h1,h2,y,cgg h4,r,.inl rfl,h3⟩
theorem z1b(h:Rin w B g r s D L 0 x)(c:Nat)(z:Int)(hz:z=(c:Int)):Calls prog 139 #[.pointer (some ⟨g,0,none⟩),.int .i64 z] w λe w'=>e=.returned (.tuple #[])/\Rin w' B g r s D L c x/\Kept (λj=>j=g) w w':=by
 subst hz;refine(zat h c).mono λe w' o=> ?_
 obtain⟨h1,h2⟩:=h.setE c;obtain⟨o1,o2⟩:=o;subst o2;exact⟨o1,h1,h2⟩
theorem z4r(h:Rin w B g r s D L 0 x)(c:Nat)(z:Int)(hz:z=(c:Int)):Calls prog 139 #[.pointer (some ⟨g,0,none⟩),.int .i64 z] w λe w'=>e=.returned (.tuple #[])/\z08 w B g r s D L c x w':=by
 subst hz;refine(zat h c).mono λe w' o=> ?_
 obtain⟨h1,h2⟩:=h.setE c;obtain⟨o1,o2⟩:=o;subst o2;exact⟨o1,h.res (cgg h2) h1⟩
theorem z6g(h:Rin w B g r s D L e x)(he:e≠0)(n:Nat)(hn:n<=1000):Calls prog 134 #[.pointer (some ⟨g,0,none⟩),.int .i64 (n:Int)] w λe w'=>e=.returned (.int .i64 0)/\Kept NoB w w':=by
 obtain⟨cp,c0,c1,c2,c3,c4,c5,cf,hy⟩:=h.cells;have d0:((e:Int)==0)=false:=(by rw[qN];omega);have d1:((e:Int) !=0)=true:=(by rw[bne_iff_ne];omega);clear h c0 c1 c3 c4 c5 cf hy;by_cases h0:0<n
 · go_enter func134,ntmps134
   go_wp2_with fail
   go_loopw [5,6] (λu i wr=>u=.int .i64 0/\i=.int .i64 0/\wr=w) (λ_ _ _=>0)
   case atStart=>exact⟨rfl,rfl,rfl⟩
   case round=>
    obtain⟨rfl,rfl,rfl⟩:=hrel;go_wp2_with fail;go_ret;exact⟨rfl,Kept.refl _ _⟩
 · obtain rfl:n=0:=by omega
   go_enter func134,ntmps134;go_wp2_with fail
   go_loopw [5,6] (λu i wr=>u=.int .i64 0/\i=.int .i64 0/\wr=w) (λ_ _ _=>0)
   case atStart=>exact⟨rfl,rfl,rfl⟩
   case round=>
    obtain⟨rfl,rfl,rfl⟩:=hrel;go_wp2_with fail;go_ret;exact⟨rfl,Kept.refl _ _⟩
theorem ziD(h:Rin w B g r s D L e x)(he:e≠0)(k:Nat):Calls prog 175 #[.pointer (some ⟨g,0,none⟩),.int .i64 (k:Int)] w λe w'=>e=.returned (.bool false)/\w=w':=by
 obtain⟨cp,c0,c1,c2,c3,c4,c5,cf,hy⟩:=h.cells;have d1:((e:Int) !=0)=true:=(by rw[bne_iff_ne];omega);clear h c0 c1 c3 c4 c5 cf hy;go_enter func175,ntmps175;go_wp2;go_ret;exact⟨rfl,rfl⟩
theorem zgE(h:Rin w B g r s D L 0 x){k:Nat}(hk:k<=100000000)(hx:x.2.length<=1000000000)(hL:L<x.2.length - D+k):Calls prog 175 #[.pointer (some ⟨g,0,none⟩),.int .i64 (k:Int)] w λe w'=>e=.returned (.bool false)/\z08 w B g r s D L 5 x w':=by
 obtain⟨cp,c0,c1,c2,c3,c4,c5,cf,hy⟩:=h.cells;have hdl:=h.dl;generalize hm:x.2.length=m at c3 hL hdl hx;have z1:IntKind.i64.wrap ((m:Int) - (D:Int))=(m:Int) - (D:Int):=IntWalk.i64_in _ ⟨by omega,by omega⟩;have z2:IntKind.i64.wrap ((m:Int) - (D:Int)+(k:Int))=(m:Int) - (D:Int)+(k:Int):=IntWalk.i64_in _ ⟨by omega,by omega⟩;have z3:decide ((L:Int)<(m:Int) - (D:Int)+(k:Int))=true:=q9T (by omega);have HF:=qH (λ(w':World) (hk:Kept NoB w w')=>z4r (h.same hk) 5 5 rfl);clear h hy hm hdl hL;go_enter func175,ntmps175;go_wp2_with fail
 go_quiet (fail)
 go_wp2_with (go_at_call 139;(with_reducible refine(HF.o _ ((Kept.refl NoB w).drewN _)).mono ?_);rintro e w1 ⟨rfl,k1⟩;have K1:=qH k1;clear k1);go_ret;exact⟨rfl,z08.trans (((Kept.refl NoB w).drewN _).none _) (.inl rfl) K1.o⟩
theorem zdi(h:Rin w B g r s D L 0 x){k:Nat}(hk:k<=100000000)(hx:x.2.length<=1000000000)(hL:¬L<x.2.length - D+k):Calls prog 175 #[.pointer (some ⟨g,0,none⟩),.int .i64 (k:Int)] w λe w'=>e=.returned (.bool true)/\∃n,w'=w.drewN n:=by
 obtain⟨cp,c0,c1,c2,c3,c4,c5,cf,hy⟩:=h.cells;have hdl:=h.dl;generalize hm:x.2.length=m at c3 hL hdl hx;have z1:IntKind.i64.wrap ((m:Int) - (D:Int))=(m:Int) - (D:Int):=IntWalk.i64_in _ ⟨by omega,by omega⟩;have z2:IntKind.i64.wrap ((m:Int) - (D:Int)+(k:Int))=(m:Int) - (D:Int)+(k:Int):=IntWalk.i64_in _ ⟨by omega,by omega⟩;have z3:decide ((L:Int)<(m:Int) - (D:Int)+(k:Int))=false:=qF (by omega);clear h hy hm hdl hL;go_enter func175,ntmps175;go_wp2_with fail
 go_quiet (fail)
 go_wp2_with fail;go_ret;exact⟨rfl,_,rfl⟩
theorem Rin.bump(h:Rin w B g r s D L e x)(ha:x.1+1<=8*s.size)(n1:Nat):Rin ((w.drewN n1).setCell ⟨g,1,none⟩ (.int .i64 ((x.1:Int)+1))) B g r s D L e (x.1+1,x.2)/\Kept (λj=>j=g) w ((w.drewN n1).setCell ⟨g,1,none⟩ (.int .i64 ((x.1:Int)+1))):=by
 have hk:=(Kept.refl NoB w).drewN n1;obtain⟨j1,j2⟩:=(h.same hk).setA (x.1+1) ha;have ew:(((x.1+1:Nat):Int))=(x.1:Int)+1:=(by omega);rw[ew] at j1 j2;exact⟨j1,(hk.none _).trans j2 (λ_ e=> .inl e)⟩
theorem z4u(h:Rin w B g r s D L 0 x)(hs:s.size<=100000)(n:Nat)(hn:n<=16):Calls prog 134 #[.pointer (some ⟨g,0,none⟩),.int .i64 (n:Int)] w (Rst w B g r s D L (bits n s D L x) z9n z2g):=by
 generalize hR:bits n s D L x=R;obtain⟨HR,HI⟩:=qh2 hR h;clear h hR;go_enter func134,ntmps134;go_wp2_with fail
 go_loopw [5,6] (λu i wr=> ∃k:Nat,k<=n/\i=.int .i64 k/\u=.int .i64 (M.nb s x.1 k)/\Rin wr B g r s D L 0 (x.1+k,x.2)/\Kept (λj=>j=g) w wr) (λ_ i _=>n - (intOf i).toNat)
 case atStart=>exact⟨0,qZ,rfl,by unfold M.nb;rw[Nat.pow_zero,Nat.mod_one];rfl,HI.o,Kept.refl _ _⟩
 case round=>
  obtain⟨k,hk,rfl,rfl,hI,hK⟩:=hrel;obtain⟨cp,c0,c1,c2,c3,c4,c5,cf,hy⟩:=hI.cells;have hal:=hI.al;obtain⟨HK,HI2⟩:=qh2 hK hI;clear hI hK hy c3 c4 c5 HI;obtain⟨a,ha⟩:∃a,x.1+k=a:=⟨_,rfl⟩
  simp only[ha] at c1 hal;by_cases hlt:k<n
  · by_cases he:8*s.size<=a
    · have e1:decide (8*(s.size:Int)<=(a:Int))=true:=q9T (by omega)
      have HF:=qH (λ(w':World) (hk:Kept NoB wr w')=>z1b (HI2.o.same hk) 6 6 rfl);go_wp2_with fail
      go_quiet (fail)
      go_wp2_with (go_at_call 139;(with_reducible refine(HF.o _ ((Kept.refl NoB wr).drewN _)).mono ?_);rintro e w1 ⟨rfl,k1,k2⟩;obtain⟨K1,K2⟩:=qh2 k1 k2;clear k1 k2);go_ret;have e:R=.error 6:=(by rw[<-HR.o];unfold bits;rw[if_neg (by omega)]);rw[e];exact⟨rfl,by decide,_,K1.o,(HK.o.trans ((Kept.refl NoB wr).drewN _) (λ_ e=>e.elim)).trans K2.o (λ_ e=> .inl e)⟩
    · have e1:decide (8*(s.size:Int)<=(a:Int))=false:=qF (by omega)
      obtain⟨q,hq⟩:∃q,a/8=q:=⟨_,rfl⟩
      obtain⟨v,hv⟩:∃v,a%8=v:=⟨_,rfl⟩
      have hqs:q<s.size:=(by omega);have t1:(a:Int).tdiv 8=(q:Int):=(by rw[Int.tdiv_eq_ediv_of_nonneg (by omega)];omega);have t2:(a:Int).tmod 8=(v:Int):=(by rw[Int.tmod_eq_emod_of_nonneg (by omega)];omega);go_wp2_with fail
      go_quiet (fail)
      go_wp2_with fail
      go_quiet (fail)
      rw[zeQ s x.1 k q v (by omega) (by omega) hqs (by omega)];go_wp2_with fail;go_roundw
      case rel=>
       have hb:=λn1=>HI2.o.bump (by simp only;omega) n1
       simp only[ha] at hb;refine⟨k+1,by omega,by go_num,rfl,?_,HK.o.trans (hb _).2 (λ_ e=> .inl e)⟩;rw[show x.1+(k+1)=a+1 by omega];exact(hb _).1
      case measure=>simp[intOf];omega
  · obtain rfl:k=n:=by omega
    go_wp2_with fail;go_ret;have e:R=.ok (M.nb s x.1 k,(x.1+k,x.2)):=(by rw[<-HR.o];unfold bits;rw[if_pos (by omega)]);rw[e];exact⟨rfl,HI2.o,HK.o⟩
theorem z6h(h:Rin w B g r s D L 0 x)(hs:s.size<=100000)(n:Nat)(hn:n<=16):Calls prog 134 #[.pointer (some ⟨g,0,none⟩),.int .i64 (n:Int)] w (zcy w B g r s D L (bits n s D L x) z9n z2g):=(z4u h hs n hn).mono λ_ _ o=>o.rout
