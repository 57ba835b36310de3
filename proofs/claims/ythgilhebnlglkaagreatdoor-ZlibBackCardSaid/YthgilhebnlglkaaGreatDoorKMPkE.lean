import Derived.Test.YthgilhebnlglkaaGreatDoorKMSoB
import Derived.Laws.EntriesVeiled
import Derived.Lib.Strings
import Derived.Lib.Walk
import Derived.Lib.BitFns
import Derived.Deep.Slices
set_option linter.all false
set_option maxHeartbeats 0
set_option maxRecDepth 1000000
open Go.Proofs.Tryz
namespace Go.Proofs.YthgilhebnlglkaaGreatDoor
section
open Go.RowKit M
def Br(w:World)(g n:Nat)(f:Nat->Nat):Prop:=w.rowIs g 5 n (λi=> .int .u8 (f i))
section
variable {w w':World} {g n:Nat} {f f':Nat->Nat}
theorem Br.lt(h:Br w g n f):g<w.heap.size:=World.rowIs.lt h
theorem Br.at'(h:Br w g n f)(q:w'.heap[g]? =w.heap[g]?):Br w' g n f:=World.rowIs.of_block h q
theorem Br.alloc(h:Br w g n f)(o:Obj):Br (w.alloc o) g n f:=World.rowIs.alloc h o
theorem Br.other(h:Br w g n f){a:Addr}(b:g≠a.block)(v:Value):Br (w.setCell a v) g n f:=World.rowIs.setOther h b v
theorem Br.below(h:Br w g n f){B:Nat}(b:Below B w w')(a:g<B):Br w' g n f:=h.at' (b.block g a)
theorem Br.congr(h:Br w g n f)(e:∀i,i<n->f i=f' i):Br w g n f':=World.rowIs.congr h (λi hi=>by rw[e i hi])
theorem Br.cell(h:Br w g n f){i:Nat}(hi:i<n):w.cell? ⟨g,i,none⟩=some (.int .u8 (f i)):=World.rowIs.cell h hi
theorem Br.frozen(h:Br w g n f)(i:Nat):w.frozen? ⟨g,i,none⟩=false:=World.rowIs.frozen h i
theorem Br.set(h:Br w g n f)(i x:Nat):Br (w.setCell ⟨g,i,none⟩ (.int .u8 x)) g n (λj=>if j=i then x else f j):=
 World.rowIs.congr (World.rowIs.set h i (.int .u8 x)) (λj a=>by by_cases e:j=i<;>simp[e])
theorem Br.made(w:World)(n:Nat):Br (w.alloc (.cells (madeCells #[.int .u8 0] (n*1)) 5)) w.heap.size n (λ_=>0):=by
 rw[Bq];exact World.rowIs_made w (.int .u8 0) n 5
theorem Br.made'(w:World)(n:Nat):Br (w.alloc (.cells (madeCells #[.int .u8 0] n) 5)) w.heap.size n (λ_=>0):=World.rowIs_made w (.int .u8 0) n 5
theorem Br.nums(h:Br w g n f):av w .u8 (some ⟨g,0,none⟩) n (λi=>(f i:Int)):=λa=>
 ⟨g,0,rfl,h.lt,λi hi=>by rw[Aa];exact h.cell hi⟩
end
def rR(n:Nat):Th->Prop
 |.lf _ s=>s<n
 |.pk x y=>rR n x/\rR n y
theorem pK.write{w w':World}{base g:Nat}{t:Th}{p:Option Addr}(h:pK w base t p)(a:Kept (One g) w w')(d:g<base):pK w' base t p:=
 h.kept (λk c b=>a.block k b (λe=>by have:k=g:=e;omega)) a.size
def oc(f:Nat->Nat)(t:Th)(s:Nat):Nat:=(f s+t.cn s)%256
def At3(i:Value)(p q r:Prop):Prop:=(i=.int .i64 0/\p)\/(i=.int .i64 1/\q)\/(i=.int .i64 2/\r)
theorem nh(bl r g n base:Nat)(U:n<=400)(j:g<base)(E:bl≠g)(F:r≠g):∀ (t:Th) (p:Option Addr) (f:Nat->Nat) (W:World),pK W base t p->rR n t->t.wt<18446744073709551616->(∀i,f i<256)->Br W g n f->
 W.cell? ⟨bl,0,none⟩=some (.slice (some ⟨g,0,none⟩) n n)->W.cell? ⟨r,0,none⟩=some (.func (.func 323) #[] #[.pointer (some ⟨bl,0,none⟩),.pointer (some ⟨r,0,none⟩)])->
 Calls prog 323 #[.agg #[.int .u64 t.wt,.int .i64 t.sy,.pointer p],.pointer (some ⟨bl,0,none⟩),.pointer (some ⟨r,0,none⟩)] W λx w'=>x=.returned (.tuple #[])/\Br w' g n (oc f t)/\Kept (One g) W w'
 |.lf a s,p,f,W,hu,hs,hw,hf,hb,c1,c2=>by
  have hp:p=none:=hu;subst hp;have S:s<n:=hs;have hc:=hb.cell S;have a1:=hb.frozen s;have a2:=hb.lt;have R:=hf s;have a0:=qB c1;have e:∀y:Nat,(((y+1)%256:Nat):Int)=((y:Int)+1)%256:=λy=>by omega
  have I:=qH (((hb.set s ((f s+1)%256)).alloc (.cells #[.int .u64 a,.int .i64 s,.pointer none] 386)).congr (f':=oc f (.lf a s)) (λi _=>by
   unfold oc;simp only[Th.cn];by_cases e:i=s
   · rw[A7 e,A7 e.symm,e]
   · rw[A0 e,A0 (λq=>e q.symm),AI,Ar (hf i)]))
  have d:=qH (((Kept.refl (One g) W).setCell ⟨g,s,none⟩ (.inl rfl) (.int .u8 (((f s+1)%256:Nat):Int))).alloc (.cells #[.int .u64 a,.int .i64 s,.pointer none] 386));generalize T:f s=x at hc R I d;rw[e x] at I d;clear T hb hf hu hs e;go_enter func323,ntmps323;simp only[Th.wt,Th.sy];go_wp2_with fail;refine bodyPost_ret (results_none rfl _ _ _) rfl ?_
  exact⟨rfl,I.o,d.o⟩
 |.pk x y,p,f,W,hu,hs,hw,hf,hb,c1,c2=>by
  obtain⟨gp,o,C,D,rfl,b1,b2,⟨x1,x2,x3⟩,⟨y1,y2,y3⟩,T,hy⟩:=hu;have Y:=qH (λf W=>nh bl r g n base U j E F x C f W);have Z:=qH (λf W=>nh bl r g n base U j E F y D f W);have v:=qH (show rR n x/\rR n y from hs);have z:=qH (show x.wt<18446744073709551616/\y.wt<18446744073709551616 by simp only[Th.wt] at hw;omega);obtain⟨q,V⟩:∃q,(x.pk y).wt=q:=⟨_,rfl⟩
  have u:=qH (show ∀s,oc (oc f x) y s=oc f (x.pk y) s from λs=>by
   unfold oc;simp only[Th.cn];rw[Nat.mod_add_mod,AC])
  have X:=qH (hb.alloc (.cells #[.int .u64 q,.int .i64 0,.pointer (some ⟨gp,o,none⟩)] 386));clear hs hw hb;go_enter func323,ntmps323;rw[V,show(((Th.pk x y).sy:Nat):Int)=0 from rfl];clear V;go_wp2_with fail
  go_loopw [19] (λi wr=>At3 i (Br wr g n f) (Br wr g n (oc f x)) (Br wr g n (oc (oc f x) y))/\Kept (One g) W wr) (λi _=>2 - (intOf i).toNat)
  case atStart=>exact⟨.inl ⟨rfl,X.o⟩,(Kept.refl _ _).alloc _⟩
  case round=>
   obtain⟨c,b⟩:=hrel;rcases c with⟨rfl,c⟩|⟨rfl,c⟩|⟨rfl,c⟩
   · have K:=qH c
     have d:=qH b;have k:¬One g gp:=λe=>by have:gp=g:=e;omega
     have z1:=b.cell x1 k;have z2:=b.cell x2 k;have z3:=b.cell x3 k;have l:=b.cell c1 E;have m:=b.cell c2 F;have L:=qH ((T.write b j).below ((Below.refl wr.heap.size wr).alloc qR (.cells #[.int .u64 x.wt,.int .i64 x.sy,.pointer C] 386)));have G:=qH ((((Below.refl wr.heap.size wr).alloc qR (.cells #[.int .u64 x.wt,.int .i64 x.sy,.pointer C] 386)).cell (qB l)).trans l);have H:=qH ((((Below.refl wr.heap.size wr).alloc qR (.cells #[.int .u64 x.wt,.int .i64 x.sy,.pointer C] 386)).cell (qB m)).trans m);have N:=qH (c.alloc (.cells #[.int .u64 x.wt,.int .i64 x.sy,.pointer C] 386));have P:=qB l;have Q:=qB m;have J:=qH (hf);clear c b k;go_wp2_with fail;refine(Y.o f _ L.o v.o.1 z.o.1 J.o N.o G.o H.o).mono ?_;rintro e w1 ⟨rfl,B,A⟩;have O:=qH B;have M:=qH (((d.o.alloc _).trans A (λ_ h=> .inl h)));clear B A;go_wp2_with fail;go_roundw
     case rel=>exact⟨.inr (.inl ⟨rfl,O.o⟩),M.o⟩
     case measure=>simp[intOf]
   · have K:=qH c
     have d:=qH b;have k:¬One g gp:=λe=>by have:gp=g:=e;omega
     have z1:=b.cell y1 k;have z2:=b.cell y2 k;have z3:=b.cell y3 k;have l:=b.cell c1 E;have m:=b.cell c2 F;have L:=qH ((hy.write b j).below ((Below.refl wr.heap.size wr).alloc qR (.cells #[.int .u64 y.wt,.int .i64 y.sy,.pointer D] 386)));have G:=qH ((((Below.refl wr.heap.size wr).alloc qR (.cells #[.int .u64 y.wt,.int .i64 y.sy,.pointer D] 386)).cell (qB l)).trans l);have H:=qH ((((Below.refl wr.heap.size wr).alloc qR (.cells #[.int .u64 y.wt,.int .i64 y.sy,.pointer D] 386)).cell (qB m)).trans m);have N:=qH (c.alloc (.cells #[.int .u64 y.wt,.int .i64 y.sy,.pointer D] 386));have P:=qB l;have Q:=qB m;have J:=qH (show ∀i,oc f x i<256 from λi=>AR _ (by omega));clear c b k;go_wp2_with fail;refine(Z.o (oc f x) _ L.o v.o.2 z.o.2 J.o N.o G.o H.o).mono ?_;rintro e w1 ⟨rfl,B,A⟩;have O:=qH B;have M:=qH (((d.o.alloc _).trans A (λ_ h=> .inl h)));clear B A;go_wp2_with fail;go_roundw
     case rel=>exact⟨.inr (.inr ⟨rfl,O.o⟩),M.o⟩
     case measure=>simp[intOf]
   · have K:=qH c
     have d:=qH b;clear c b;go_wp2_with fail;go_end0;exact⟨rfl,K.o.congr (λi _=>u.o i),d.o⟩
def gz(f:Nat->Nat)(X:List Tp)(s:Nat):Nat:=(f s+ct s (X.map (·.1)))%256
theorem qo{f:Nat->Nat}{X:List Tp}{i:Nat}{x:Tp}(h:X[i]? =some x)(s:Nat):oc (gz f (X.take i)) x.1 s=gz f (X.take (i+1)) s:=by
 unfold oc gz;rw[Bd,h,Nat.mod_add_mod,Aw,dG];simp only[Option.toList_some,Al,Av,ct];rw[AI,AC]
theorem jw(g n base q c:Nat)(A:Option Addr)(X:List Tp)(f:Nat->Nat)(W:World)(hn:n<=400)(m:g<base)(K:X.length=q)(a3:q<=1000)(l:∀b o,A=some ⟨b,o,none⟩->b≠g)(hs:∀x∈X,rR n x.1)(M:∀x∈X,x.1.wt<18446744073709551616)(hf:∀i,f i<256)(J:aK W base A X)(D:Br W g n f):
 Calls prog 303 #[.slice (some ⟨g,0,none⟩) n n,.slice A q c] W λx w'=>x=.returned (.tuple #[])/\Br w' g n (gz f X)/\Kept (One g) W w':=by
 obtain⟨I,H,V,Z,U,R,S⟩:=qh7 K J hs M hf l D;have a0:=D.lt;clear K J hs M hf l D;go_enter func303,ntmps303;go_wp2_with fail
 go_loopw [10] (λi wr=> ∃k:Nat,k<=q/\i=.int .i64 k/\wr.cell? ⟨W.heap.size,0,none⟩=some (.slice (some ⟨g,0,none⟩) n n)/\wr.cell? ⟨W.heap.size+1,0,none⟩=some (.func (.func 323) #[] #[.pointer (some ⟨W.heap.size,0,none⟩),.pointer (some ⟨W.heap.size+1,0,none⟩)])/\Hd (Br wr g n (gz f (X.take k))/\Kept (One g) W wr)) (λi _=>q - (intOf i).toNat)
 case atStart=>
  refine⟨0,qZ,rfl,by simp,by simp,qH ⟨((S.o.alloc _).alloc _).congr (λi _=> ?_),((Kept.refl _ _).alloc _).alloc _⟩⟩;unfold gz;simp only[BX,Av,ct,AI];rw[Ar (U.o i)]
 case round=>
  obtain⟨k,hk,rfl,c1,z,a⟩:=hrel;by_cases a2:k<q
  · have E:=I.o
    obtain⟨b,o,rfl,a1,L⟩:=H.o.1 (by omega);obtain⟨x,l⟩:∃x,X[k]? =some x:=⟨_,qE (show k<X.length by omega)⟩
    obtain⟨O,P,Q⟩:=L.one l;have v:¬One g b:=λe=>R.o b o rfl e
    have O:=a.o.2.cell O v;have P:=a.o.2.cell P v;have Q:=a.o.2.cell Q v;have r:=BP l;have B:=qB c1;have C:=qB z;have d:W.heap.size≠g:=(by omega);have j:W.heap.size+1≠g:=(by omega);have p:=(Below.refl wr.heap.size wr).alloc qR (.cells #[.int .u64 x.1.wt,.int .i64 x.1.sy,.pointer x.2] 386);have Y:=qH (((H.o.2 x r).write a.o.2 m).below p);have F:=qH ((p.cell B).trans c1);have G:=qH ((p.cell C).trans z);have L1:=qH (a.o.1.alloc (.cells #[.int .u64 x.1.wt,.int .i64 x.1.sy,.pointer x.2] 386));have y:=qH (show ∀i,gz f (X.take k) i<256 from λi=>AR _ (by omega));have SX:=qH (V.o x r);have WX:=qH (Z.o x r);have XX:=qH l;clear L l r p v E;go_wp2_with fail;refine(nh W.heap.size (W.heap.size+1) g n base hn m d j x.1 x.2 _ _ Y.o SX.o WX.o y.o L1.o F.o G.o).mono ?_;rintro e w1 ⟨rfl,N,u⟩;have g1:=u.cell F.o d;have g2:=u.cell G.o j;have R1:=qH (N.congr (λi _=>qo XX.o i));have K1:=qH (((a.o.2.alloc _).trans u (λ_ h=> .inl h)));clear N u c1 z;go_wp2_with fail;go_roundw
    case rel=>exact⟨k+1,by omega,by go_num,g1,g2,qH ⟨R1.o,K1.o⟩⟩
    case measure=>simp[intOf];omega
  · obtain rfl:k=q:=by omega
    have T:=qH (show ∀s,gz f (X.take k) s=gz f X s from λs=>by rw[Aj (by rw[I.o];exact qR)]);go_wp2_with fail;go_end0;exact⟨rfl,a.o.1.congr (λi _=>T.o i),a.o.2⟩
def bl(x:Nat):Nat:=if x=0 then 0 else Nat.log2 x+1
theorem zD{x k:Nat}:bl x<=k↔x<2^k:=by
 unfold bl;by_cases h:x=0
 · rw[A7 h,h];exact⟨λ_=>AA _,λ_=>qZ⟩
 · rw[A0 h]
   exact Nat.log2_lt h
def nds(n:Nat):Nat:=if n=0 then 0 else max 1 (bl (n - 1))
theorem ib{n k:Nat}(a:1<=k):nds n<=k↔n<=2^k:=by
 unfold nds;by_cases h:n=0
 · rw[A7 h,h];exact⟨λ_=>qZ,λ_=>qZ⟩
 · rw[A0 h]
   have:= @zD (n - 1) k;constructor
   · intro g;have:=this.1 (by omega);omega
   · intro g;have:=this.2 (by omega);omega
theorem cd(y:Int)(b:0<=y)(c:y<=255){a:y.toNat<Lib.len8tab.size}:((Lib.len8tab[y.toNat]'a).toNat:Int)=(Lib.bitLen y.toNat:Int):=by
 rw[<-Lib.len8_of y b c];unfold Lib.len8;rw[ByteArray.getElem?_lt' _ _ a,DA]
theorem dc(k:Nat)(x y:Int)(d:k<=56)(a:0<=y)(b:y<=255)(c:Lib.bitLen x.toNat=k+Lib.bitLen y.toNat):wrap64 ((k:Int)+wrap64 (Lib.bitLen y.toNat:Int))=(Lib.bitLen x.toNat:Int):=by
 have l:=Lib.bitLen_le8' y a b;rw[IntWalk.wrap64_in (Lib.bitLen y.toNat:Int) (by omega),IntWalk.wrap64_in _ (by omega),c];omega
theorem ux(x:Int)(w:World)(a:0<=x)(b:x<=1099511627776):Calls prog 340 #[.int .u64 x] w λe w'=>e=.returned (.int .i64 (Lib.bitLen x.toNat))/\w'=w:=by
 go_enter func340,ntmps340;go_wp2
 all_goals first
  |(go_ret
    refine⟨congrArg (λq=>Ending.returned (.int .i64 q)) ?_,rfl⟩
    first
     |(rw[cd (x/4294967296/65536/256) (by omega) (by omega)]
       exact dc 56 x _ (by omega) (by omega) (by omega) ((Lib.bitLen_shift56 x.toNat (by omega) (by omega)).trans (by congr 2;omega)))
     |(rw[cd (x/4294967296/65536) (by omega) (by omega)]
       exact dc 48 x _ (by omega) (by omega) (by omega) ((Lib.bitLen_shift48 x.toNat (by omega) (by omega)).trans (by congr 2;omega)))
     |(rw[cd (x/4294967296/256) (by omega) (by omega)]
       exact dc 40 x _ (by omega) (by omega) (by omega) ((Lib.bitLen_shift40 x.toNat (by omega) (by omega)).trans (by congr 2;omega)))
     |(rw[cd (x/4294967296) (by omega) (by omega)]
       exact dc 32 x _ (by omega) (by omega) (by omega) ((Lib.bitLen_shift32 x.toNat (by omega) (by omega)).trans (by congr 2;omega)))
     |(rw[cd (x/65536/256) (by omega) (by omega)]
       exact dc 24 x _ (by omega) (by omega) (by omega) ((Lib.bitLen_shift24 x.toNat (by omega) (by omega)).trans (by congr 2;omega)))
     |(rw[cd (x/65536) (by omega) (by omega)]
       exact dc 16 x _ (by omega) (by omega) (by omega) ((Lib.bitLen_shift16 x.toNat (by omega) (by omega)).trans (by congr 2;omega)))
     |(rw[cd (x/256) (by omega) (by omega)]
       exact dc 8 x _ (by omega) (by omega) (by omega) ((Lib.bitLen_shift8 x.toNat (by omega) (by omega)).trans (by congr 2;omega)))
     |(rw[cd x (by omega) (by omega)]
       have l:=Lib.bitLen_le8' x (by omega) (by omega);simp only[wrap64];omega))
  |(exfalso
    have hs:=Lib.len8tab_size;omega)
theorem wm(x:Nat)(h:x<2^64):Lib.bitLen x=bl x:=by
 apply Nat.le_antisymm
 · exact Lib.bitLen_le x (bl x) (zD.2 h) (zD.1 qR)
 · refine zD.2 (Nat.lt_of_not_le λg=> ?_)
   have a:=Lib.bitLen_shift (Lib.bitLen x) x g h;have b:1<=x/2^Lib.bitLen x:=(Nat.one_le_div_iff (AA _)).2 g;have c:=Lib.bitLen_half (x/2^Lib.bitLen x) (by omega) (CI (CJ _ _) h);omega
theorem GI(x:Int)(w:World)(a:0<=x)(b:x<=1099511627776):Calls prog 322 #[.int .u64 x] w λe w'=>e=.returned (.int .i64 (bl x.toNat))/\w'=w:=by
 have c:=qH (wm x.toNat (by have:(2:Nat)^64=18446744073709551616:=rfl;omega));go_enter func322,ntmps322;go_wp2_with fail;refine(ux x _ a b).mono ?_;rintro e w' ⟨rfl,rfl⟩;rw[c.o];go_wp2_with fail;go_ret;exact⟨rfl,rfl⟩
theorem y9{n:Int}(h:n<1):nds n.toNat=0:=by
 have:n.toNat=0:=(by omega);rw[this];rfl
theorem ua(n:Int)(w:World)(j: -9223372036854775808<=n)(k:n<=1099511627776):Calls prog 302 #[.int .i64 n] w λe w'=>e=.returned (.int .i64 (nds n.toNat))/\w=w':=by
 by_cases h:n<1
 · have c:=qH (y9 h)
   go_enter func302,ntmps302;go_wp2_with fail;go_ret;exact⟨by rw[c.o];rfl,rfl⟩
 · obtain⟨b,a⟩:∃b,bl (n - 1).toNat=b:=⟨_,rfl⟩
   have i:b<=41:=by rw[<-a];exact zD.2 (by have:(2:Nat)^41=2199023255552:=rfl;omega)
   have c:=qH (show nds n.toNat=max 1 b by
    unfold nds;rw[A0 (by omega),<-a];congr 2;omega)
   have d:=qH (GI (n - 1) w (by omega) (by omega));rw[a] at d;clear a;go_enter func302,ntmps302;go_wp2_with fail;refine d.o.mono ?_;rintro e w' ⟨rfl,rfl⟩;go_wp2_with fail;go_ret;exact⟨congrArg (λq=>Ending.returned (.int .i64 q)) (by rw[c.o];omega),rfl⟩
theorem oX(P:Nat->Prop)(m:Nat):∀k,k<=m->(∀t,k<=t->t<m->P t)->∃i,i<=k/\(∀t,i<=t->t<m->P t)/\(i=0\/¬P (i - 1))
 |0,_,h=>⟨0,qR,h,.inl rfl⟩
 |k+1,hk,h=>by
  by_cases q:P k
  · obtain⟨i,j,b,c⟩:=oX P m k (by omega) (λt d a=>by
     by_cases e:t=k
     · rw[e];exact q
     · exact h t (by omega) a)
    exact⟨i,by omega,b,c⟩
  · exact⟨k+1,qR,h,.inr (by rw[Bo];exact q)⟩
theorem qx(c:Nat->Nat):∀n,∃m e,gJ c n m e
 |0=>⟨0,λ_=>(0,0),λi j D E F=>by omega,λi h=>by omega,λs h=>by omega,qR⟩
 |n+1=>by
  obtain⟨m,e,h⟩:=qx c n;by_cases u:c n=0
  · exact⟨m,e,h.ord,λi hi=>by have:=h.is_ i hi;exact⟨by omega,this.2⟩,λs hs l=>by
     by_cases q:s=n
     · subst q;omega
     · exact h.all s (by omega) l,by have:=h.le;omega⟩
  · let e1:Nat->Nat×Nat:=λi=>if i=m then(c n,n) else e i
    have a:∀i,i<m->e1 i=e i:=λi hi=>A0 (by omega)
    have o:e1 m=(c n,n):=A7 rfl;have x:Ord e1 0 m:=h.ord.congr (λi _ hi=>a i hi);obtain⟨i,p,z,G⟩:=oX (λt=>(e1 m).1<(e1 t).1) m m qR (λt C d=>by omega);have hs:bT e1 (mvd e1 i m) 0 (m+1):=j7 e1 qZ p (by omega);refine⟨m+1,mvd e1 i m,mg x (λt _ d _=> ?_) qZ p z (by omega),λj v=> ?_,λs y l=> ?_,by have:=h.le;omega⟩
    · rw[a t d,o];exact(h.is_ t d).1
    · obtain⟨k,_,b,q⟩:=hs.fro j qZ v
      rw[q];by_cases r:k=m
      · rw[r,o];exact⟨D4 _,Da u,rfl⟩
      · rw[a k (by omega)];have:=h.is_ k (by omega);exact⟨by omega,this.2⟩
    · by_cases r:s=n
      · obtain⟨k,_,b,q⟩:=hs.to m qZ (by omega)
        exact⟨k,b,by rw[<-q,o];exact r.symm⟩
      · obtain⟨j,A,B⟩:=h.all s (by omega) l
        obtain⟨k,_,b,q⟩:=hs.to j qZ (by omega);exact⟨k,b,by rw[<-q,a j A];exact B⟩
theorem JB{c:Nat->Nat}{n m b:Nat}{e e':Nat->Nat×Nat}(h:gJ c n m e)(a:gJ c n b e'):m=b/\∀i,i<m->e i=e' i:=by
 have d:∀ {m b:Nat} {e e':Nat->Nat×Nat},gJ c n m e->gJ c n b e'->∀i,i<m->∃j,j<b/\e i=e' j:=by
  intro m b e e' h a i hi;obtain⟨o,p,q⟩:=h.is_ i hi;obtain⟨j,k,l⟩:=a.all _ o p;have:=(a.is_ j k).2.2;exact⟨j,k,Prod.ext (by rw[q,this,l]) l.symm⟩
 exact Gm h.ord a.ord (d h a) (d a h)
def lw(e:Nat->Nat×Nat)(i:Nat):Nat:=(e i).1
def ly(e:Nat->Nat×Nat)(i:Nat):Nat:=(e i).2
def pl(m:Nat)(e:Nat->Nat×Nat)(L s:Nat):Nat:=
 if m=0 then 0 else if m=1 then(if s=ly e 0 then 1 else 0) else ct s ((row (lvs (lw e) (ly e) m) L).take (2*m - 2))
theorem um{c:Nat->Nat}{n m:Nat}{e:Nat->Nat×Nat}(h:gJ c n m e):LL (lw e) m:=λi j a b=>by
 rcases h.ord.le qZ a b with q|q
 · unfold lw;rw[q];exact qR
 · unfold lx at q;unfold lw;omega
theorem Em{c:Nat->Nat}{n m:Nat}{e:Nat->Nat×Nat}(h:gJ c n m e):∀i j,i<m->j<m->ly e i=ly e j->i=j:=λi j hi b q=>by
 unfold ly at q;have d:=(h.is_ i hi).2.2;have k:=(h.is_ j b).2.2;have a:e i=e j:=Prod.ext (by rw[d,k,q]) q;rcases CE i j with g|g|g
 · have:=h.ord i j qZ g b
   rw[a] at this;exact this.irr.elim
 · exact g
 · have:=h.ord j i qZ g hi
   rw[a] at this;exact this.irr.elim
theorem m7{c:Nat->Nat}{n m L:Nat}{e:Nat->Nat×Nat}(h:gJ c n m e)(d:2<=m)(b:nds m<=L)(a:1<=L){i:Nat}(hi:i<m):pl m e L (ly e i)=ln (lvs (lw e) (ly e) m) L (2*m - 2) i:=by
 unfold pl;rw[A0 (by omega),A0 (by omega)];have:=bP (lvs (lw e) (ly e) m) L (by rw[al];exact(ib a).1 b);rw[al] at this;exact EF (Em h) hi L _ this
theorem tH{c:Nat->Nat}{n m L s:Nat}{e:Nat->Nat×Nat}(h:gJ c n m e)(j:nds m<=L)(d:1<=L)(hs:∀i,i<m->ly e i≠s):pl m e L s=0:=by
 unfold pl;by_cases a:m=0
 · rw[A7 a]
 rw[A0 a];by_cases b:m=1
 · rw[A7 b,A0 (λq=>hs 0 (by omega) q.symm)]
 rw[A0 b];have:=bP (lvs (lw e) (ly e) m) L (by rw[al];exact(ib d).1 j);rw[al] at this;exact vz hs L _ this
theorem xN{c:Nat->Nat}{n m L:Nat}{e:Nat->Nat×Nat}(h:gJ c n m e)(b:nds m<=L)(a:1<=L)(s:Nat):pl m e L s<=L:=by
 by_cases q:∃i,i<m/\ly e i=s
 · obtain⟨i,hi,rfl⟩:=q
   by_cases d:2<=m
   · rw[m7 h d b a hi];exact JH _ _ _ _
   · unfold pl
     rw[A0 (by omega),A7 (by omega)];split<;>omega
 · rw[tH h b a (λi hi e=>q ⟨i,hi,e⟩)];omega
theorem xP{m L:Nat}{e e':Nat->Nat×Nat}(h:∀i,i<m->e i=e' i)(s:Nat):pl m e L s=pl m e' L s:=by
 unfold pl;by_cases a:m=0
 · rw[A7 a,A7 a]
 rw[A0 a,A0 a];have b:lvs (lw e) (ly e) m=lvs (lw e') (ly e') m:=by
  unfold lvs;apply BG;intro i hi;unfold lw ly;rw[h i (Ca.1 hi)]
 rw[b];unfold ly;rw[h 0 (by omega)]
def lvt(m:Nat)(e:Nat->Nat×Nat):List Tp:=(List.range m).map λi=>(.lf (lw e i) (ly e i),none)
theorem dU(m:Nat)(e:Nat->Nat×Nat):(lvt m e).length=m:=by unfold lvt;simp
theorem Gx(m:Nat)(e:Nat->Nat×Nat):(lvt m e).map (·.1)=lvs (lw e) (ly e) m:=by unfold lvt lvs;rw[BC];rfl
theorem uj(m:Nat)(e:Nat->Nat×Nat){i:Nat}{x:Tp}(h:(lvt m e)[i]? =some x):i<m/\x=(.lf (lw e i) (ly e i),none):=by
 have hi:=(An.1 h).1;rw[dU] at hi;refine⟨hi,?_⟩;unfold lvt at h;rw[Am,Bj hi] at h;exact(Option.some.inj h).symm
theorem aK.leaves{w:World}{base m:Nat}{A:Option Addr}{e:Nat->Nat×Nat}(h:0<m->∃b,A=some ⟨b,0,none⟩/\Lfs w b m e):aK w base A (lvt m e):=by
 refine⟨λd=> ?_,λx k=> ?_⟩
 · rw[dU] at d
   obtain⟨b,rfl,c⟩:=h d;refine⟨b,0,rfl,c.lt,λi t hi=> ?_⟩;rw[Am] at hi;cases a:(lvt m e)[i]? with
   |none=>rw[a] at hi;cases hi
   |some x=>
    rw[a] at hi;obtain rfl:tr x=t:=by simpa using hi
    obtain⟨j,rfl⟩:=uj m e a;rw[Aa];exact c.cells j
 · obtain⟨i,hi,rfl⟩:=Cm k
   obtain⟨_,q⟩:=uj m e (qE hi);rw[q];exact rfl
theorem aK.take{w:World}{base:Nat}{A:Option Addr}{X:List Tp}(h:aK w base A X)(q:Nat):aK w base A (X.take q):=by
 refine⟨λc=> ?_,λx j=>h.2 x (AO j)⟩;obtain⟨b,o,e,a,d⟩:=h.1 (by rw[Af] at c;omega);refine⟨b,o,e,a,λi t hi=>d i t ?_⟩;rw[CS,AD] at hi
 split at hi
 · exact hi
 · cases hi
theorem xg{c:Nat->Nat}{n m:Nat}{e:Nat->Nat×Nat}(h:gJ c n m e):∀t∈lvs (lw e) (ly e) m,rR n t:=by
 intro t a;unfold lvs at a;obtain⟨i,hi,rfl⟩:=Ay.1 a;exact(h.is_ i (Ca.1 hi)).1
theorem nH{L:List Th}{n:Nat}(h:∀t∈L,rR n t):∀k,∀t∈row L k,rR n t
 |0,t,b=>by cases b
 |k+1,t,b=>by
  rcases(j9 t _ _).1 b with g|g
  · exact h t g
  · have e:∀ (R:List Th),(∀u∈R,rR n u)->∀u∈pks R,rR n u:=by
     intro R
     induction R using pks.induct with
     |case1 c d r ih2=>
      intro a u hu;rcases Ab.1 hu with rfl|hu
      · exact⟨a c (by simp),a d (by simp)⟩
      · exact ih2 (λt b=>a t (by simp[b])) u hu
     |case2 r a=>intro _ u hu;unfold pks at hu;split at hu;exact absurd rfl (a _ _ _);cases hu
    exact e _ (nH h k) t g
theorem jb(w:World)(n:Nat)(a:n<=400):
 (Instr.makeSlice 26 (.int .i64 (n:Int)) (.int .i64 (n:Int))).run prog w=.ok (.slice (some ⟨w.heap.size,0,none⟩) n n) (w.alloc (.cells (madeCells #[.int .u8 0] (n*1)) 5)):=
 eG w underlying26 byteInfo (by decide) n n qR (by omega)
theorem yo{c:Nat->Nat}{n:Nat}(b:n<=320)(a:∀i,c i<=1073741824):Kw (λi=>(c i:Int)) n:=⟨b,λi _=>⟨Int.natCast_nonneg _,Int.ofNat_le.2 (a i)⟩⟩
theorem Br.made1(w:World)(n s:Nat)(hs:s<n):Br (w.alloc (.cells ((madeCells #[.int .u8 0] n).setIfInBounds s (.int .u8 1)) 5)) w.heap.size n (λi=>if i=s then 1 else 0):=by
 have h:=World.rowIs_alloc w ((madeCells #[.int .u8 0] n).setIfInBounds s (.int .u8 1)) 5 (λi=> .int .u8 ((if i=s then 1 else 0:Nat):Int)) (λi hi=>by
  have a:i<n:=(by simpa [size_madeCells] using hi);rw[Ad];by_cases q:i=s
  · subst q;simp[size_madeCells,a]
  · rw[A0 (λr=>q r.symm)]
    simp[madeCells,a,q,CK])
 rw[DB,size_madeCells] at h;exact h
def Iw(W:World)(n m L:Nat)(e:Nat->Nat×Nat)(x:Ending)(w':World):Prop:=
 ∃g,x=.returned (.tuple #[.slice (some ⟨g,0,none⟩) n n,.int .i64 0])/\W.heap.size<=g/\Br w' g n (pl m e L)/\Below W.heap.size W w'
theorem GH(A:Option Addr)(n V L m:Nat)(c:Nat->Nat)(e:Nat->Nat×Nat)(W:World)(hn:n<=320)(Z:∀i,c i<=1073741824)(H:av W .i64 A n (λi=>(c i:Int)))(Y:1<=L)(h2:L<=15)(hl:gJ c n m e)(hb:nds m<=L)(hs:∀m e,Raw c n m e->20<m->wM):
 Calls prog 274 #[.slice A n V,.int .i64 L] W (Iw W n m L e):=by
 have hv:=qH (kB (yo hn Z));have HN:=qH (show n<=maxLen by unfold maxLen;omega);obtain⟨HA,R,HL,HB⟩:=qh4 H Z hl hb;generalize hq:nds m=q at hb;have HQ:=qH hq;have a5:=λw=>jb w n (by omega)
 have d0:decide ((L:Int)<(q:Int))=false:=qF (by omega);clear H Z hl hq;go_enter func274,ntmps274;go_wp2_with fail;refine(xM A n V _ _ HN.o HA.o).mono ?_;rintro e0 w' ⟨rfl,rfl⟩;rw[hv.o];go_wp2_with fail;refine(qz A n V c _ hn R.o HA.o hs).mono ?_;rintro x d ⟨A1,G,m1,a,rfl,a0,O,f1,b1⟩;obtain⟨rfl,he⟩:=JB HL.o O;obtain⟨k,HE,l,S⟩:=qh4 b1 he O f1;have hm:=O.le;clear O f1 b1 he;have NC:=qH (λw=>ua (m:Int) w (by omega) (by omega));go_wp2_with fail;refine(NC.o _).mono ?_;rintro e0 w' ⟨rfl,rfl⟩;rw[show((m:Int)).toNat=m by omega,HQ.o];clear NC;by_cases c0:m=0
 · subst c0
   go_wp2_with fail;go_ret2;refine⟨_,rfl,k.o.size,(Br.made' d n).congr (f':=pl 0 e L) (λi _=>by unfold pl;rw[A7 rfl]),k.o.alloc k.o.size _⟩
 by_cases c1:m=1
 · subst c1
   obtain⟨b,rfl,y⟩:=S.o (by omega);obtain⟨y1,y2,y3⟩:=y.cells (show 0<1 by omega);obtain⟨s,hs⟩:∃s,(a 0).2=s:=⟨_,rfl⟩
   have C:=(l.o.is_ 0 (by omega)).1;rw[hs] at y2 C;have HS:=qH (show s=ly e 0 by unfold ly;rw[HE.o 0 (by omega)];exact hs.symm);have a2:=y.lt;have K:=k.o.size;have v:=Br.made' d n;have a3:=v.cell C;have a4:=v.frozen s;have Q:=qH ((Br.made1 d n s C).congr (f':=pl 1 e L) (λi _=>by
    unfold pl;rw[A0 (show ¬(1=0) by omega),A7 (rfl:1=1),<-HS.o]))
   clear hs y v c0;go_wp2_with fail;go_ret2;exact⟨_,rfl,K,Q.o,k.o.alloc K _⟩
 · have c2:2<=m:=by omega
   have n1:((m:Int)==0)=false:=(by rw[qN];omega);have n2:((m:Int)==1)=false:=(by rw[qN];omega);obtain⟨r,hr⟩:∃r,2*m - 2=r:=⟨_,rfl⟩
   have v1:2*(m:Int) - 2=(r:Int):=(by omega);have u:2*m - 2<=(row (lvs (lw a) (ly a) m) L).length:=by
    have:=bP (lvs (lw a) (ly a) m) L (by rw[al];exact(ib Y).1 HB.o)
    rwa [al] at this
   obtain⟨F,HR⟩:=qh2 u hr;have T0:=qH (λ(B:Nat)=>aK.leaves (w:=d) (base:=B) S.o);clear u hr c0 c1;go_wp2_with fail;have HT:=qH ((T0.o (d.alloc (.cells (madeCells #[.int .u8 0] n) 5)).heap.size).below ((Below.refl d.heap.size d).alloc qR (.cells (madeCells #[.int .u8 0] n) 5)));have U:=qH (show ∀x∈lvt m a,x.1.wt<=1073741824 from λx N=>by
    obtain⟨i,hi,rfl⟩:=Cm N;obtain⟨g1,g2⟩:=uj m a (qE hi);rw[g2];show(a i).1<=_
    rw[(l.o.is_ i g1).2.2];exact R.o _)
   refine(tf A1 m G L (lvt m a) _ (dU m a) (by omega) a0 Y h2 HT.o U.o).mono ?_;rintro x w3 ⟨A3,n3,cap3,X,rfl,x1,x2,E,x4,x5,x6⟩;rw[Gx] at E;have a1:r<=n3:=by
    have D:=F.o;rw[<-E,Ah,x1,HR.o] at D;exact D
   have a6:r<=cap3:=(by omega);have P:=qH ((Br.made' d n).below x6 (by simp));have TX:=qH (x4.take r);have X1:=qH (show(X.take r).length=r by rw[Af,x1];omega);obtain⟨X3,X6⟩:=qh2 E x6;have XF:=qH (show ∀b o,A3=some ⟨b,o,none⟩->b≠d.heap.size from λb o h=>by
    rcases x5 with g|g
    · rw[h] at g
      obtain⟨b0,q1,q2⟩:=S.o (by omega);rw[q1] at g;have:=q2.lt;simp at g;omega
    · have:=g b o h
      simp at this;omega)
   have XS:=qH (show ∀x∈X.take r,rR n x.1 from λx N=>by
    have D:x.1∈row (lvs (lw a) (ly a) m) L:=(by rw[<-E];exact Dy (AO N));exact nH (xg l.o) L _ D)
   have XW:=qH (show ∀x∈X.take r,x.1.wt<18446744073709551616 from λx N=>by
    obtain⟨z,rfl⟩:∃z,L=z+1:=⟨L - 1,by omega⟩
    have D:x.1∈row (lvs (lw a) (ly a) m) (z+1):=(by rw[<-E];exact Dy (AO N));have h4:=tc (M:=1073741824) (λt ht=>by
     unfold lvs at ht;obtain⟨i,hi,rfl⟩:=Ay.1 ht;show(a i).1<=_
     rw[(l.o.is_ i (Ca.1 hi)).2.2];exact R.o _) z _ D
    have h5:1073741824*2^z<=1073741824*2^14:=Dz _ (Ak (by omega) (by omega));omega)
   have I:d.heap.size<(d.alloc (.cells (madeCells #[.int .u8 0] n) 5)).heap.size:=(by simp);have T:=qH I;have p:r<=1000:=(by omega);clear x1 E x4 x5 x6 a1 I;go_wp2_with fail;refine(jw d.heap.size n (d.alloc (.cells (madeCells #[.int .u8 0] n) 5)).heap.size r cap3 A3 (X.take r) (λ_=>0) _ (by omega) T.o X1.o p XF.o XS.o XW.o (λi=>by omega) TX.o P.o).mono ?_;rintro x w4 ⟨rfl,x7,x8⟩;have F7:=qH (x7.congr (f':=pl m e L) (λi _=>by
    rw[xP HE.o i];have J:=xN l.o HB.o Y i;unfold gz;rw[CS,X3.o];unfold pl at J ⊢;rw[A0 (by omega),A0 (by omega),HR.o] at J ⊢;rw[Aa,Ar (by omega)]))
   have F8:=qH (x8.below (B:=W.heap.size) (by have:=X6.o.size;have:=k.o.size;simp at*;omega) (λj hj=>by have:j=d.heap.size:=hj;have:=k.o.size;omega));clear x7 x8;go_wp2_with fail;go_ret2;exact⟨_,rfl,k.o.size,F7.o,((k.o.alloc k.o.size _).trans (X6.o.mono (by have:=k.o.size;simp;omega))).trans F8.o⟩
def Lg(l:Nat->Nat)(n:Nat):Bool:=decide (May l n)
theorem bh{l:Nat->Nat}{n:Nat}(h:May l n):Lg l n=true:=q9T h
theorem dS{l:Nat->Nat}{n:Nat}(h:¬May l n):Lg l n=false:=qF h
theorem may_any(A:Option Addr)(n c:Nat)(l:Nat->Nat)(w:World)(u:n<=maxLen)(t:∀i,l i<=255)(H:av w .u8 A n (λi=>(l i:Int))):
 Calls prog 290 #[.slice A n c] w λe w'=>e=.returned (.bool (Lg l n))/\w=w':=by
 have y:n<=9223372036854775807:=(by unfold maxLen at u;omega);clear u;have v:=qH t;clear t;by_cases r:n<=320
 · go_enter func290,ntmps290
   go_wp2
   go_loop [10] (λi=> ∃k:Nat,k<=n/\i=.int .i64 k/\Hd (∀j,j<k->l j<=15)) (λi=>n - (intOf i).toNat)
   case atStart=>exact⟨0,qZ,rfl,qH (λj x=>by omega)⟩
   case round=>
    obtain⟨k,B,rfl,h⟩:=hrel;by_cases d:k<n
    · obtain⟨b,o,rfl,z,s⟩:=H (by omega)
      have p:=s k d;have q:=v.o k;clear s;by_cases a:l k<=15
      · go_wp2
        go_round
        case rel=>exact⟨k+1,by omega,by go_num,qH (λj x=>by
         by_cases e:j=k
         · rw[e];exact a
         · exact h.o j (by omega))⟩
        case measure=>simp[intOf];omega
      · have m:=qH (dS (l:=l) (n:=n) (λg=>a (g.2 k d)))
        go_wp2;go_ret;exact⟨by rw[m.o];rfl,rfl⟩
    · obtain rfl:k=n:=by omega
      have m:=qH (bh (l:=l) (n:=k) ⟨r,h.o⟩);go_wp2;go_ret;exact⟨by rw[m.o];rfl,rfl⟩
 · have m:=qH (dS (l:=l) (n:=n) (λg=>r g.1))
   go_enter func290,ntmps290;go_wp2;go_ret;exact⟨by rw[m.o];rfl,rfl⟩
theorem bo(A:Option Addr)(n c:Nat)(l:Nat->Nat)(W:World)(I:May l n)(H:av W .u8 A n (λi=>(l i:Int))):
 Calls prog 291 #[.slice A n c] W λe w'=>e=.returned (.agg (TV (c0 l n)))/\Below W.heap.size W w':=by
 have Q:=bW;have O:n<=320:=I.1;have L:=qH I.2;clear I;go_enter func291,ntmps291;go_wp2_with fail;clear Q
 go_loopw [8] (λi wr=> ∃k:Nat,k<=n/\i=.int .i64 k/\Tb wr W.heap.size (λ_=>0)/\Tb wr (W.heap.size+1) (λs=>cnt l s k)/\Below W.heap.size W wr) (λi _=>n - (intOf i).toNat)
 case atStart=>
  refine⟨0,qZ,rfl,(Tb.made W _).alloc _,?_,(qL).alloc (by simp) _⟩;have h:=Tb.made (W.alloc (.cells (TV λx=>0) 372)) (λx=>0);rw[show(W.alloc (.cells (TV λx=>0) 372)).heap.size=W.heap.size+1 by simp] at h;exact h.congr (λi hi=>rfl)
 case round=>
  obtain⟨k,R,rfl,m,d,u⟩:=hrel;by_cases z:k<n
  · obtain⟨b,o,rfl,F,J⟩:=H (by omega)
    have E:=L.o k z;have r:wr.cell? ⟨b,o+k,none⟩=some (.int .u8 (l k)):=(u.cell F).trans (J k z);generalize K:l k=x at E r;have G:=d.cell (show x<16 by omega);have hf:=d.frozen x;have N:=vF l x k;obtain⟨M,j,q,D⟩:=qh4 K m d u;clear m d u K J;go_wp2_with fail;go_roundw
    case rel=>
     refine⟨k+1,by omega,by go_num,j.o.other (by simp) _,(q.o.set x (cnt l x k+1)).congr ?_,D.o.setCell (by simp) _⟩;intro i hi;simp only[cnt,M.o];by_cases e:i=x
     · subst e;simp
     · rw[A0 e,A0 (λg=>e g.symm)];rfl
    case measure=>simp[intOf];omega
  · obtain rfl:k=n:=by omega
    have G:=d.cell (show 0<16 by omega);have hf:=d.frozen 0;have B:=(d.set 0 0).congr (g:=c0 l k) (λi hi=>by unfold c0;rfl);have C:=m.other (a:=⟨W.heap.size+1,0,none⟩) (by simp) (.int .u32 (0:Nat));have y:=u.setCell (p:=⟨W.heap.size+1,0,none⟩) (by simp) (.int .u32 (0:Nat));obtain⟨q,j,D⟩:=qh3 B C y;clear m d B C u y;go_wp2_with (first|(refine aH _ rfl rfl _ rfl (c0 l k) q.o ?_)|(refine cR rfl _ _ rfl _ _ (c0 l k) rfl rfl j.o ?_));have P:=j.o.setRow (c0 l k);refine bodyPost_ret (v:=.agg (TV (c0 l k))) (results_cell_row rfl _ _ _ _ _ _ _ rfl P.row underlying372 rfl (eX (c0 l k))) rfl ⟨rfl,below_setRow D.o _ _ qR⟩
theorem bO(c:Nat->Nat)(W:World)(j:∀s,s<16->c s<=320):
 Calls prog 292 #[.agg (TV c)] W λe w'=>e=.returned (.int .u32 (aw c 16))/\Below W.heap.size W w':=by
 have r:=qH (Tb.made W c);have q:=qH ((Below.refl W.heap.size W).alloc qR (.cells (TV c) 372));have h:=qH j;clear j;go_enter func292,ntmps292;go_wp2_with (refine aH _ rfl rfl _ rfl c r.o ?_)
 go_loop [3,7] (λx i=> ∃k:Nat,k<=16/\i=.int .i64 k/\x=.int .u32 (aw c k)) (λ_ i=>16 - (intOf i).toNat)
 case atStart=>exact⟨0,qZ,rfl,rfl⟩
 case round=>
  obtain⟨k,v,rfl,rfl⟩:=hrel;by_cases b:k<16
  · have a:=h.o k b
    have hs:=pH h.o k v;have p:=qH (show aw c (k+1)=aw c k+c k*2^(15 - k) from rfl);have y:decide ((k:Int)<16)=true:=(by simp;omega);have l:=λw=>LO w c k b
    have m:c k*2^(15 - k)<=320*2^15:=BS a (Ak (by omega) (by omega));generalize hdd:15 - k=d at m p
    have u:Hd ((((aw c k:Nat):Int)+(c k:Int)*2^d%4294967296)%4294967296=((aw c (k+1):Nat):Int)):=qH (by
     rw[p.o];have e:(c k:Int)*2^d=((c k*2^d:Nat):Int):=(by push_cast;rfl);rw[e];omega)
    clear m;go_wp2_with fail
    go_round
    case rel=>exact⟨k+1,by omega,by go_num,congrArg (Value.int .u32) u.o⟩
    case measure=>simp[intOf];omega
  · obtain rfl:k=16:=by omega
    go_wp2_with fail;go_ret;exact⟨rfl,q.o⟩
theorem qU(c:Nat->Nat)(W:World)(E:∀s,s<16->c s<=320):
 Calls prog 309 #[.agg (TV c)] W λe w'=>e=.returned (.agg (TV (fs c)))/\Below W.heap.size W w':=by
 have m:=bW;have B:=qH E;clear E;go_enter func309,ntmps309;go_wp2_with fail;clear m
 go_loopw [4] (λi wr=> ∃k:Nat,k<=15/\i=.int .i64 ((k:Int)+1)/\Tb wr W.heap.size c/\Tb wr (W.heap.size+1) (λ_=>0)/\Tb wr (W.heap.size+2) (λs=>if s<=k then fs c s else 0)/\Below W.heap.size W wr) (λi _=>16 - (intOf i).toNat)
 case atStart=>
  refine⟨0,qZ,rfl,((Tb.made W _).alloc _).alloc _,?_,?_,((qL).alloc (by simp) _).alloc (by simp;omega) _⟩
  · have h:=Tb.made (W.alloc (.cells (TV c) 372)) (λx=>0)
    rw[show(W.alloc (.cells (TV c) 372)).heap.size=W.heap.size+1 by simp] at h;exact h.alloc _
  · have h:=Tb.made ((W.alloc (.cells (TV c) 372)).alloc (.cells (TV λx=>0) 372)) (λx=>0)
    rw[show((W.alloc (.cells (TV c) 372)).alloc (.cells (TV λx=>0) 372)).heap.size=W.heap.size+2 by simp] at h;refine h.congr (λi hi=> ?_)
    split
    · obtain rfl:i=0:=by omega
      rfl
    · rfl
 case round=>
  obtain⟨k,Q,rfl,d,j,a,l⟩:=hrel;by_cases L:k<15
  · have J:=d.cell (show k<16 by omega)
    have D:=a.cell (show k<16 by omega);simp only[A7 (BN k)] at D;have P:=a.frozen (k+1);have K:=a.cell (show k+1<16 by omega);have N:=B.o k (by omega);have G:=oV B.o k (by omega);have O:2^k<=2^15:=Ak (by omega) (by omega);obtain⟨x,u⟩:∃x,fs c k=x:=⟨_,rfl⟩
    obtain⟨y,A⟩:∃y,c k=y:=⟨_,rfl⟩
    obtain⟨z,m⟩:∃z,(if k+1<=k then fs c (k+1) else 0)=z:=⟨_,rfl⟩
    rw[u] at D G;rw[A] at J N;rw[m] at K;have R:IntKind.i64.wrap ((k:Int)+1 - 1)=(k:Int):=(by rw[IntWalk.i64_in _ (by omega)];omega);have S:IntKind.u32.wrap ((x:Int)+(y:Int))=((x+y:Nat):Int):=(by rw[IntKind.wrap_u32];omega);have T:((k:Int)).toNat=k:=(by omega);have U:((k:Int)+1).toNat=k+1:=(by omega);obtain⟨q,b,r,p⟩:=qh4 d j a l
    have I:Hd (((x:Int)+(y:Int))*2%4294967296=((fs c (k+1):Nat):Int)):=qH (by
     simp only[fs];rw[u,A];omega)
    clear d j a l u A m G O;go_wp2_with fail
    go_region
    go_wp2_with fail;go_roundw
    case rel=>
     refine⟨k+1,by omega,by go_num,(q.o.other (by simp<;>omega) _),(b.o.other (by simp<;>omega) _),?_,(p.o.setCell (by simp;omega) _).drew⟩;have h:=(r.o.set (k+1) (fs c (k+1))).congr (g:=λs=>if s<=k+1 then fs c s else 0) (λi hi=>by
      by_cases e:i=k+1
      · subst e;simp
      · rw[A0 e]
        by_cases C:i<=k
        · rw[A7 C,A7 (by omega)]
        · rw[A0 C,A0 (by omega)])
     rw[I.o];exact h
    case measure=>simp[intOf];omega
  · obtain rfl:k=15:=by omega
    have F:Tb wr (W.heap.size+2) (fs c):=a.congr (λi hi=>by rw[A7 (by omega)]);obtain⟨b,H,p⟩:=qh3 j F l;clear d j a F l;go_wp2_with (first|(refine aH _ rfl rfl _ rfl (fs c) H.o ?_)|(refine cR rfl _ _ rfl _ _ (fs c) rfl rfl b.o ?_));have M:=b.o.setRow (fs c);refine bodyPost_ret (v:=.agg (TV (fs c))) (results_cell_row rfl _ _ _ _ _ _ _ rfl M.row underlying372 rfl (eX (fs c))) rfl ⟨rfl,below_setRow p.o _ _ (by omega)⟩
theorem kE(A:Option Addr)(n c:Nat)(l:Nat->Nat)(W:World)(j:n<=maxLen)(b:∀i,l i<=255)(H:av W .u8 A n (λi=>(l i:Int)))(a:¬May l n):
 Calls prog 259 #[.slice A n c] W λe w'=>e=.returned (.int .u8 (kind l n))/\Below W.heap.size W w':=by
 have k:=qH (jf a);have h:=qH (dS a);have d:=qH b;clear a b;go_enter func259,ntmps259;go_wp2_with fail;refine(may_any A n c l _ j d.o H).mono ?_;rintro e w' ⟨rfl,rfl⟩;rw[h.o];go_wp2_with fail;go_ret;exact⟨by rw[k.o];rfl,Below.refl _ _⟩
theorem je(A:Option Addr)(n c:Nat)(l:Nat->Nat)(W:World)(p:∀i,l i<=255)(H:av W .u8 A n (λi=>(l i:Int)))(a:May l n)(g x:Nat)(m:g=aa l n)(q:x=c0 l n 1)(D:g=0):
 Calls prog 259 #[.slice A n c] W λe w'=>e=.returned (.int .u8 0)/\Below W.heap.size W w':=by
 have F:=bW;obtain⟨v,y⟩:=qh2 p a;have z:=qH (show n<=maxLen by have:=a.1;unfold maxLen;omega);have B:=qH q;have u:=qH (show aw (c0 l n) 16=g by rw[m];exact aE l n a.2);have t:=qH (show ∀s,s<16->c0 l n s<=320 from λs _=>qK (mT l n s) a.1);have E:=qH (bh a);have I:((g:Int)==0)=true:=(by rw[AG];omega);clear a p q m D;go_enter func259,ntmps259;go_wp2_with fail;refine(may_any A n c l _ z.o v.o H).mono ?_;rintro e w' ⟨rfl,rfl⟩;rw[E.o];go_wp2_with fail;refine(bo A n c l _ y.o H).mono ?_;rintro e G ⟨rfl,k⟩;have b:=qH k;clear k;have j:=qH (Tb.made G (c0 l n));go_wp2_with (first|(refine aL rfl _ _ rfl _ (c0 l n) rfl rfl ?_)|(refine aH _ rfl rfl _ rfl (c0 l n) j.o ?_));clear F;refine(bO (c0 l n) _ t.o).mono ?_;rintro e J ⟨rfl,d⟩;rw[u.o];have r:=qH d;have C:=qH (j.o.below d (by simp));have h:=C.o.cell (show 1<16 by decide);rw[<-B.o] at h;clear d;go_wp2_with fail;go_ret;exact⟨rfl,(b.o.alloc b.o.size _).trans (r.o.mono (qK b.o.size (by simp)))⟩
theorem jd(A:Option Addr)(n c:Nat)(l:Nat->Nat)(W:World)(p:∀i,l i<=255)(H:av W .u8 A n (λi=>(l i:Int)))(a:May l n)(g x:Nat)(m:g=aa l n)(q:x=c0 l n 1)(I:32768<g):
 Calls prog 259 #[.slice A n c] W λe w'=>e=.returned (.int .u8 4)/\Below W.heap.size W w':=by
 have E:=bW;obtain⟨v,y⟩:=qh2 p a;have z:=qH (show n<=maxLen by have:=a.1;unfold maxLen;omega);have B:=qH q;have u:=qH (show aw (c0 l n) 16=g by rw[m];exact aE l n a.2);have t:=qH (show ∀s,s<16->c0 l n s<=320 from λs _=>qK (mT l n s) a.1);have D:=qH (bh a);have G:((g:Int)==0)=false:=(by rw[qN];omega);clear a p q m;go_enter func259,ntmps259;go_wp2_with fail;refine(may_any A n c l _ z.o v.o H).mono ?_;rintro e w' ⟨rfl,rfl⟩;rw[D.o];go_wp2_with fail;refine(bo A n c l _ y.o H).mono ?_;rintro e F ⟨rfl,k⟩;have b:=qH k;clear k;have j:=qH (Tb.made F (c0 l n));go_wp2_with (first|(refine aL rfl _ _ rfl _ (c0 l n) rfl rfl ?_)|(refine aH _ rfl rfl _ rfl (c0 l n) j.o ?_));clear E;refine(bO (c0 l n) _ t.o).mono ?_;rintro e J ⟨rfl,d⟩;rw[u.o];have r:=qH d;have C:=qH (j.o.below d (by simp));have h:=C.o.cell (show 1<16 by decide);rw[<-B.o] at h;clear d;go_wp2_with fail;go_ret;exact⟨rfl,(b.o.alloc b.o.size _).trans (r.o.mono (qK b.o.size (by simp)))⟩
theorem gA(A:Option Addr)(n c:Nat)(l:Nat->Nat)(W:World)(p:∀i,l i<=255)(H:av W .u8 A n (λi=>(l i:Int)))(a:May l n)(g x:Nat)(m:g=aa l n)(q:x=c0 l n 1)(D:g=32768):
 Calls prog 259 #[.slice A n c] W λe w'=>e=.returned (.int .u8 2)/\Below W.heap.size W w':=by
 have F:=bW;obtain⟨v,y⟩:=qh2 p a;have z:=qH (show n<=maxLen by have:=a.1;unfold maxLen;omega);have B:=qH q;have u:=qH (show aw (c0 l n) 16=g by rw[m];exact aE l n a.2);have t:=qH (show ∀s,s<16->c0 l n s<=320 from λs _=>qK (mT l n s) a.1);have E:=qH (bh a);have I:((g:Int)==0)=false:=(by rw[qN];omega);have J:decide (32768<(g:Int))=false:=qF (by omega);have K:((g:Int)==32768)=true:=(by rw[AG];omega);clear a p q m D;go_enter func259,ntmps259;go_wp2_with fail;refine(may_any A n c l _ z.o v.o H).mono ?_;rintro e w' ⟨rfl,rfl⟩;rw[E.o];go_wp2_with fail;refine(bo A n c l _ y.o H).mono ?_;rintro e G ⟨rfl,k⟩;have b:=qH k;clear k;have j:=qH (Tb.made G (c0 l n));go_wp2_with (first|(refine aL rfl _ _ rfl _ (c0 l n) rfl rfl ?_)|(refine aH _ rfl rfl _ rfl (c0 l n) j.o ?_));clear F;refine(bO (c0 l n) _ t.o).mono ?_;rintro e L ⟨rfl,d⟩;rw[u.o];have r:=qH d;have C:=qH (j.o.below d (by simp));have h:=C.o.cell (show 1<16 by decide);rw[<-B.o] at h;clear d;go_wp2_with fail;go_ret;exact⟨rfl,(b.o.alloc b.o.size _).trans (r.o.mono (qK b.o.size (by simp)))⟩
theorem kD(A:Option Addr)(n c:Nat)(l:Nat->Nat)(W:World)(p:∀i,l i<=255)(H:av W .u8 A n (λi=>(l i:Int)))(a:May l n)(g x:Nat)(m:g=aa l n)(q:x=c0 l n 1)(D:g=16384)(E:x=1):
 Calls prog 259 #[.slice A n c] W λe w'=>e=.returned (.int .u8 1)/\Below W.heap.size W w':=by
 have G:=bW;obtain⟨v,y⟩:=qh2 p a;have z:=qH (show n<=maxLen by have:=a.1;unfold maxLen;omega);have B:=qH q;have u:=qH (show aw (c0 l n) 16=g by rw[m];exact aE l n a.2);have t:=qH (show ∀s,s<16->c0 l n s<=320 from λs _=>qK (mT l n s) a.1);have F:=qH (bh a);have J:((g:Int)==0)=false:=(by rw[qN];omega);have K:decide (32768<(g:Int))=false:=qF (by omega);have L:((g:Int)==32768)=false:=(by rw[qN];omega);have M:((x:Int)==1)=true:=(by rw[AG];omega);have N:((g:Int)==16384)=true:=(by rw[AG];omega);clear a p q m D E;go_enter func259,ntmps259;go_wp2_with fail;refine(may_any A n c l _ z.o v.o H).mono ?_;rintro e w' ⟨rfl,rfl⟩;rw[F.o];go_wp2_with fail;refine(bo A n c l _ y.o H).mono ?_;rintro e I ⟨rfl,k⟩;have b:=qH k;clear k;have j:=qH (Tb.made I (c0 l n));go_wp2_with (first|(refine aL rfl _ _ rfl _ (c0 l n) rfl rfl ?_)|(refine aH _ rfl rfl _ rfl (c0 l n) j.o ?_));clear G;refine(bO (c0 l n) _ t.o).mono ?_;rintro e O ⟨rfl,d⟩;rw[u.o];have r:=qH d;have C:=qH (j.o.below d (by simp));have h:=C.o.cell (show 1<16 by decide);rw[<-B.o] at h;clear d;go_wp2_with fail;go_ret;exact⟨rfl,(b.o.alloc b.o.size _).trans (r.o.mono (qK b.o.size (by simp)))⟩
theorem gC(A:Option Addr)(n c:Nat)(l:Nat->Nat)(W:World)(p:∀i,l i<=255)(H:av W .u8 A n (λi=>(l i:Int)))(a:May l n)(g x:Nat)(m:g=aa l n)(q:x=c0 l n 1)(E:g≠0)(N:g<32768)(D:x≠1):
 Calls prog 259 #[.slice A n c] W λe w'=>e=.returned (.int .u8 3)/\Below W.heap.size W w':=by
 have G:=bW;obtain⟨v,y⟩:=qh2 p a;have z:=qH (show n<=maxLen by have:=a.1;unfold maxLen;omega);have B:=qH q;have u:=qH (show aw (c0 l n) 16=g by rw[m];exact aE l n a.2);have t:=qH (show ∀s,s<16->c0 l n s<=320 from λs _=>qK (mT l n s) a.1);have F:=qH (bh a);have J:((g:Int)==0)=false:=(by rw[qN];omega);have K:decide (32768<(g:Int))=false:=qF (by omega);have L:((g:Int)==32768)=false:=(by rw[qN];omega);have M:((x:Int)==1)=false:=(by rw[qN];omega);clear a p q m E D;go_enter func259,ntmps259;go_wp2_with fail;refine(may_any A n c l _ z.o v.o H).mono ?_;rintro e w' ⟨rfl,rfl⟩;rw[F.o];go_wp2_with fail;refine(bo A n c l _ y.o H).mono ?_;rintro e I ⟨rfl,k⟩;have b:=qH k;clear k;have j:=qH (Tb.made I (c0 l n));go_wp2_with (first|(refine aL rfl _ _ rfl _ (c0 l n) rfl rfl ?_)|(refine aH _ rfl rfl _ rfl (c0 l n) j.o ?_));clear G;refine(bO (c0 l n) _ t.o).mono ?_;rintro e O ⟨rfl,d⟩;rw[u.o];have r:=qH d;have C:=qH (j.o.below d (by simp));have h:=C.o.cell (show 1<16 by decide);rw[<-B.o] at h;clear d;go_wp2_with fail;go_ret;exact⟨rfl,(b.o.alloc b.o.size _).trans (r.o.mono (qK b.o.size (by simp)))⟩
theorem gB(A:Option Addr)(n c:Nat)(l:Nat->Nat)(W:World)(p:∀i,l i<=255)(H:av W .u8 A n (λi=>(l i:Int)))(a:May l n)(g x:Nat)(m:g=aa l n)(q:x=c0 l n 1)(F:g≠0)(P:g<32768)(E:x=1)(D:g≠16384):
 Calls prog 259 #[.slice A n c] W λe w'=>e=.returned (.int .u8 3)/\Below W.heap.size W w':=by
 have I:=bW;obtain⟨v,y⟩:=qh2 p a;have z:=qH (show n<=maxLen by have:=a.1;unfold maxLen;omega);have B:=qH q;have u:=qH (show aw (c0 l n) 16=g by rw[m];exact aE l n a.2);have t:=qH (show ∀s,s<16->c0 l n s<=320 from λs _=>qK (mT l n s) a.1);have G:=qH (bh a);have K:((g:Int)==0)=false:=(by rw[qN];omega);have L:decide (32768<(g:Int))=false:=qF (by omega);have M:((g:Int)==32768)=false:=(by rw[qN];omega);have N:((x:Int)==1)=true:=(by rw[AG];omega);have O:((g:Int)==16384)=false:=(by rw[qN];omega);clear a p q m F E D;go_enter func259,ntmps259;go_wp2_with fail;refine(may_any A n c l _ z.o v.o H).mono ?_;rintro e w' ⟨rfl,rfl⟩;rw[G.o];go_wp2_with fail;refine(bo A n c l _ y.o H).mono ?_;rintro e J ⟨rfl,k⟩;have b:=qH k;clear k;have j:=qH (Tb.made J (c0 l n));go_wp2_with (first|(refine aL rfl _ _ rfl _ (c0 l n) rfl rfl ?_)|(refine aH _ rfl rfl _ rfl (c0 l n) j.o ?_));clear I;refine(bO (c0 l n) _ t.o).mono ?_;rintro e Q ⟨rfl,d⟩;rw[u.o];have r:=qH d;have C:=qH (j.o.below d (by simp));have h:=C.o.cell (show 1<16 by decide);rw[<-B.o] at h;clear d;go_wp2_with fail;go_ret;exact⟨rfl,(b.o.alloc b.o.size _).trans (r.o.mono (qK b.o.size (by simp)))⟩
theorem cE(A:Option Addr)(n c:Nat)(l:Nat->Nat)(W:World)(s:n<=maxLen)(h:∀i,l i<=255)(H:av W .u8 A n (λi=>(l i:Int))):
 Calls prog 259 #[.slice A n c] W λe w'=>e=.returned (.int .u8 (kind l n))/\Below W.heap.size W w':=by
 by_cases b:May l n
 · have a:=bj b
   obtain⟨g,d⟩:∃g,g=aa l n:=⟨_,rfl⟩
   obtain⟨x,j⟩:∃x,x=c0 l n 1:=⟨_,rfl⟩
   rw[<-d,<-j] at a;by_cases k:g=0
   · rw[a,A7 k];exact je A n c l W h H b g x d j k
   rw[A0 k] at a;by_cases p:32768<g
   · rw[a,A7 p];exact jd A n c l W h H b g x d j p
   rw[A0 p] at a;by_cases r:g=32768
   · rw[a,A7 r];exact gA A n c l W h H b g x d j r
   rw[A0 r] at a;by_cases m:x=1
   · by_cases o:g=16384
     · rw[a,A7 ⟨m,o⟩];exact kD A n c l W h H b g x d j o m
     · rw[a,A0 (λq=>o q.2)];exact gB A n c l W h H b g x d j k (by omega) m o
   · rw[a,A0 (λq=>m q.1)];exact gC A n c l W h H b g x d j k (by omega) m
 · exact kE A n c l W s h H b
theorem sR{m a x:Nat}(P:Nat->Prop)[DecidablePred P](d:a<m)(c:P a)(b:∀i,i<m->P i->i=a):sm (λi=>if P i then x else 0) m=x:=by
 induction m with
 |zero=>omega
 |succ m ih=>
  simp only[sm];by_cases q:a=m
  · subst q
    rw[A7 c,sm_congr a (g:=λ_=>0) (λi hi=>A0 (λg=>by have:=b i (by omega) g;omega)),dd];omega
  · rw[ih (by omega) (λi hi g=>b i (by omega) g),A0 (λg=>q (b m (by omega) g).symm)];omega
theorem FN(F:Nat->Nat){n a:Nat}(h:a<n):sm (λs=>if a=s then F s else 0) n=F a:=by
 rw[sm_congr n (g:=λs=>if a=s then F a else 0) (λs _=>by by_cases q:a=s<;>simp[q])];exact sR (λs=>a=s) h rfl (λi _ g=>g.symm)
section
variable {c:Nat->Nat} {n m L K:Nat} {e:Nat->Nat×Nat}
theorem J6(h:gJ c n m e)(F:Nat->Nat)(b:∀s,s<n->c s=0->F s=0):sm F n=sm (λi=>F (ly e i)) m:=by
 have a:∀s,s<n->sm (λi=>if ly e i=s then F s else 0) m=F s:=by
  intro s hs;by_cases q:c s=0
  · rw[b s hs q]
    rw[sm_congr m (g:=λ_=>0) (λi _=>by split<;>rfl),dd]
  · obtain⟨i,hi,r⟩:=h.all s hs (Da q)
    exact sR (λi=>ly e i=s) hi r (λj d g=>Em h j i d hi (g.trans r.symm))
 rw[<-sm_congr n a,sQ];exact sm_congr m (λi hi=>FN F (h.is_ i hi).1)
theorem de(h:gJ c n m e)(b:nds m<=L)(a:1<=L){s:Nat}(hs:s<n):pl m e L s=0↔c s=0:=by
 constructor
 · intro g
   apply Classical.byContradiction
   intro q;obtain⟨i,hi,rfl⟩:=h.all s hs (Da q);by_cases d:2<=m
   · have j:=JG (Ek (g:=ly e) (um h)) (by rw[al];exact d) (k:=L) (i:=i) (bP _ L (by rw[al];exact(ib a).1 b)) (by rw[al];exact hi)
     rw[al] at j;have:=m7 h d b a hi;unfold ly at this;rw[g] at this;unfold ly at j;omega
   · unfold pl at g
     rw[A0 (by omega),A7 (by omega),A7 (by unfold ly;rw[show i=0 by omega])] at g;omega
 · intro g
   refine tH h b a (λi hi q=> ?_);have:=(h.is_ i hi).2.1;unfold ly at q;rw[q] at this;omega
theorem xO(h:gJ c n m e)(j:2<=m)(b:nds m<=L)(a:1<=L):sm (λi=>2^(L - pl m e L (ly e i))) m=2^L:=by
 have d:=Lm (Ek (g:=ly e) (um h)) L (by rw[al];omega) (bP _ L (by rw[al];exact(ib a).1 b));rw[al] at d;rw[<-d];exact sm_congr m (λi hi=>by rw[m7 h j b a hi])
theorem tG{L K x:Nat}(b:x<=L)(a:L<=K):2^(K - x)=2^(L - x)*2^(K - L):=by
 rw[<-AJ];congr 1;omega
end
theorem jH(l:Nat->Nat):∀n,aa l n=sm (λs=>wt (l s)) n
 |0=>rfl
 |n+1=>by simp only[aa,sm];rw[jH l n]
theorem EH(l:Nat->Nat)(x:Nat):∀n,cnt l x n=sm (λs=>if l s=x then 1 else 0) n
 |0=>rfl
 |n+1=>by
  have:cnt l x (n+1)=cnt l x n+if l n=x then 1 else 0:=rfl
  rw[this,EH l x n];rfl
theorem E9{c:Nat->Nat}{n m L:Nat}{e:Nat->Nat×Nat}(h:gJ c n m e)(j:n<=320)(d:nds m<=L)(b:1<=L)(a:L<=15):May (pl m e L) n:=⟨j,λi _=>qK (xN h d b i) a⟩
theorem m8{c:Nat->Nat}{n m L:Nat}{e:Nat->Nat×Nat}(h:gJ c n m e)(t:n<=320)(b:nds m<=L)(a:1<=L)(d:L<=15):kind (pl m e L) n=if m=0 then 0 else if m=1 then 1 else 2:=by
 have k:aa (pl m e L) n=sm (λi=>wt (pl m e L (ly e i))) m:=by
  rw[jH,J6 h _ (λs hs g=>by rw[(de h b a hs).2 g];rfl)]
 rw[bj (E9 h t b a d)];by_cases l:m=0
 · subst l
   rw[A7 rfl,k];rfl
 rw[A0 l];by_cases p:m=1
 · subst p
   have o:pl 1 e L (ly e 0)=1:=(by unfold pl;rw[A0 l,A7 rfl,A7 rfl]);have v:aa (pl 1 e L) n=16384:=(by rw[k];simp only[sm];rw[o];rfl);have c1:c0 (pl 1 e L) n 1=1:=by
    unfold c0;rw[A0 (by omega),EH,J6 h _ (λs hs g=>by rw[(de h b a hs).2 g,A0 (by omega)])];simp only[sm];rw[o];rfl
   rw[A7 rfl,v,c1];rfl
 · rw[A0 p]
   have r:2<=m:=(by omega);have x:aa (pl m e L) n=32768:=by
    have u:=xO h r b a;rw[k];have q:sm (λi=>wt (pl m e L (ly e i))) m=sm (λi=>2^(L - pl m e L (ly e i))) m*2^(15 - L):=by
     rw[<-DV];refine sm_congr m (λi hi=> ?_);have j:pl m e L (ly e i)≠0:=λg=>by
      have:=(de h b a (h.is_ i hi).1).1 g;have:=(h.is_ i hi).2.1;omega
     unfold M.wt;rw[A0 j];exact tG (xN h b a _) d
    rw[q,u,<-AJ,show L+(15 - L)=15 by omega]
   rw[x];rfl
variable {ops:Array Oper} {Q:Exit->Act->World->Prop} {md:Region.Mode} {i fuel:Nat} {oi:Oper} {v:Value} {d:Option Tmp} {listed:Array Bool} {a:Act} {w:World} {S:World->Prop}
theorem af(hi:ops[i]? =some oi)(k:oi.dst=d)(hs:Region.noSelect ops=true)(hf:Region.free md ops listed i=true)(l:(Region.ready md ops listed).contains i=true)
 (b:∀c a w,Q (.panic c) (a.put oi.dst v) w->Q (.panic c) a w) (o:Region.wanted oi (yielded ops a.tmps)=true) (p:∀w,S w->(execOp a.eval oi).run prog w=.ok (.value v) w)
 (j:S w) (h:wpAnyH prog md ops Q S fuel (listed.setIfInBounds i true) (a.put d v) w):wpAnyH prog md ops Q S (fuel+1) listed a w:=
 wpAnyH_take hi hs hf l b (.inl ⟨o,p⟩) j (by rw[k];exact h)
theorem ar(b:Region.ready md ops listed=[i])(hi:ops[i]? =some oi)
 (h:∀K:Act->World->Prop,Shut (∀a w,S w->(S w->wpAnyH prog md ops Q S fuel (listed.setIfInBounds i true) a w)->K a w)->if Region.wanted oi (yielded ops a.tmps)=true then Oper.wp prog oi a w K Q else K (a.put oi.dst undef) w):
 wpAnyH prog md ops Q S (fuel+1) listed a w:=
 wpAnyH_ready b (by simp) (AllReadyH.cons hi h AllReadyH.nil)
theorem aW{j:Nat}(S:World->Prop)(b:S w.drew)(h:S w.drew->wpAnyH prog .any ops Q S ops.size (Array.replicate ops.size false) a w.drew):(Code.region j ops true).wp prog Q a w:=
 wp_region_held_drew (by kernel_rfl) b h
end
namespace C
open Go.RowKit M
def Crow(w:World)(b n:Nat)(F G:Nat->Nat):Prop:=
 ∃c:Array Value,w.heap[b]? =some (.cells c 216 (0,0))/\c.size=n*2/\∀i,i<n->c[i*2]? =some (.int .u32 (F i))/\c[i*2+1]? =some (.int .u8 (G i))
section
variable {w w':World} {b n:Nat} {F G F' G':Nat->Nat}
theorem Crow.lt(h:Crow w b n F G):b<w.heap.size:=by
 obtain⟨c,j,_⟩:=h;rcases By b w.heap.size with g|g
 · exact g
 · rw[AT g] at j;cases j
theorem Crow.cell1(h:Crow w b n F G){i:Nat}(hi:i<n):w.cell? ⟨b,i*2,none⟩=some (.int .u32 (F i)):=by
 obtain⟨c,j,_,k⟩:=h;rw[cell_of_row w b _ c _ _ j];exact(k i hi).1
theorem Crow.cell2(h:Crow w b n F G){i:Nat}(hi:i<n):w.cell? ⟨b,i*2+1,none⟩=some (.int .u8 (G i)):=by
 obtain⟨c,j,_,k⟩:=h;rw[cell_of_row w b _ c _ _ j];exact(k i hi).2
theorem Crow.frozen(h:Crow w b n F G)(i:Nat):w.frozen? ⟨b,i,none⟩=false:=by
 obtain⟨c,j,_⟩:=h;simp[World.frozen?,j]
theorem Crow.congr(h:Crow w b n F G)(k:∀i,i<n->F i=F' i)(l:∀i,i<n->G i=G' i):Crow w b n F' G':=by
 obtain⟨c,o,hs,j⟩:=h;exact⟨c,o,hs,λi hi=>by rw[(j i hi).1,(j i hi).2,k i hi,l i hi];exact⟨rfl,rfl⟩⟩
theorem Crow.other(h:Crow w b n F G){a:Addr}(j:b≠a.block)(v:Value):Crow (w.setCell a v) b n F G:=by
 obtain⟨c,k,hs,l⟩:=h;exact⟨c,(Below.heap_setCell w a v b j).trans k,hs,l⟩
theorem Crow.alloc(h:Crow w b n F G)(o:Obj):Crow (w.alloc o) b n F G:=by
 obtain⟨c,j,hs,k⟩:=id h;exact⟨c,(Below.heap_alloc w o b h.lt).trans j,hs,k⟩
theorem Crow.set(h:Crow w b n F G)(i x y:Nat):Crow ((w.setCell ⟨b,i*2,none⟩ (.int .u32 x)).setCell ⟨b,i*2+1,none⟩ (.int .u8 y)) b n (λj=>if j=i then x else F j) (λj=>if j=i then y else G j):=by
 obtain⟨c,o,hs,p⟩:=h;refine⟨(c.setIfInBounds (i*2) (.int .u32 x)).setIfInBounds (i*2+1) (.int .u8 y),?_,by simp[hs],λj q=> ?_⟩
 · simp[World.setCell,BT,o]
 · obtain⟨k,l⟩:=p j q
   by_cases e:j=i
   · subst e
     have r:j*2<c.size:=(by omega);have s:j*2+1<c.size:=(by omega);constructor
     · rw[Ad,A0 (by omega),Ad,A7 rfl,A7 r];simp
     · rw[Ad,A7 rfl,A7 (by simpa using s)];simp
   · constructor
     · rw[Ad,A0 (by omega),Ad,A0 (by omega),k];simp[e]
     · rw[Ad,A0 (by omega),Ad,A0 (by omega),l];simp[e]
theorem Crow.cods(h:Crow w b n F G):rS w (some ⟨b,0,none⟩) n F G:=λj=>
 ⟨b,0,rfl,h.lt,λi hi=>by rw[Aa];exact⟨h.cell1 hi,h.cell2 hi⟩⟩
end
theorem zk:(prog.info? 216).map (λi=>(i.zero,i.size,i.bytes))=some (some (.agg #[.int .u32 0,.int .u8 0]),2,8):=by kernel_rfl
theorem gw(w:World){t e:TypeId}{z:Value}{size bytes:Nat}(y: prog.underlying t=some (.slice e))(hi:(prog.info? e).map (λi=>(i.zero,i.size,i.bytes))=some (some z,size,bytes))(u:bytes<=8)(n:Nat)(x:n<=400):
 (Instr.makeSlice t (.int .i64 (n:Int)) (.int .i64 (n:Int))).run prog w=.ok (.slice (some ⟨w.heap.size,0,none⟩) n n) (w.alloc (.cells (madeCells z.cells (n*size)) e)):=by
 obtain⟨i,p,q,r,s⟩:∃i,prog.info? e=some i/\i.zero=some z/\i.size=size/\i.bytes=bytes:=by
  cases k: prog.info? e with
  |none=>rw[k] at hi;cases hi
  |some i=>rw[k] at hi;simp at hi;exact⟨i,rfl,hi.1,hi.2.1,hi.2.2⟩
 subst r s;have j:(i.bytes:Int)*(n:Int)<=281474976710656:=by
  have h:i.bytes*n<=8*400:=BS u x;have o:((i.bytes*n:Nat):Int)<=281474976710656:=by omega
  rwa [Cc] at o
 have l:=run_make (P:= prog) w t e i z y p q .i64 .i64 n n (by omega) (CL _) j (by omega);simp only[Au] at l;exact l
theorem yt(w:World)(n:Nat)(h:n<=400):
 (Instr.makeSlice 207 (.int .i64 (n:Int)) (.int .i64 (n:Int))).run prog w=.ok (.slice (some ⟨w.heap.size,0,none⟩) n n) (w.alloc (.cells (madeCells #[.int .u32 0,.int .u8 0] (n*2)) 216)):=
 gw w underlying207 zk (by decide) n h
theorem Crow.made(w:World)(n:Nat):Crow (w.alloc (.cells (madeCells #[.int .u32 0,.int .u8 0] (n*2)) 216)) w.heap.size n (λ_=>0) (λ_=>0):=by
 refine⟨_,heap_alloc_new w _,size_madeCells _ _,λi hi=> ?_⟩;have h:i*2<n*2:=(by omega);have j:i*2+1<n*2:=(by omega);have k:i*2%2=0:=(by omega);have l:(i*2+1)%2=1:=(by omega);constructor
 · simp[madeCells,h,k]
 · simp[madeCells,j,l]
def IB(W:World)(n:Nat)(f g:Nat->Nat)(err:Int)(e:Ending)(w':World):Prop:=
 ∃A c,e=.returned (.tuple #[.slice A n c,.int .i64 err])/\n<=c/\c<=400/\rS w' A n f g/\Below W.heap.size W w'/\(0<n->∃b,A=some ⟨b,0,none⟩/\W.heap.size<=b/\Crow w' b n f g)
theorem jn(A:Option Addr)(n c:Nat)(l:Nat->Nat)(W:World)(s:n<=maxLen)(p:∀i,l i<=255)(H:av W .u8 A n (λi=>(l i:Int)))(f g:Nat->Nat)(k:kind l n=5):
 Calls prog 280 #[.slice A n c] W (IB W 0 f g 2):=by
 obtain⟨t,r⟩:=qh2 k p;clear k p;go_enter func280,ntmps280;go_wp2_with fail;refine(cE A n c l _ s r.o H).mono ?_;rintro e u ⟨rfl,j⟩;rw[t.o];have q:=qH j;clear j;go_wp2_with fail;go_ret2;exact⟨none,0,rfl,qR,by omega,rS.nil _ _ _ _,q.o,λh=>absurd h (by omega)⟩
theorem gF(A:Option Addr)(n c:Nat)(l:Nat->Nat)(W:World)(s:n<=maxLen)(p:∀i,l i<=255)(H:av W .u8 A n (λi=>(l i:Int)))(f g:Nat->Nat)(k:kind l n=4):
 Calls prog 280 #[.slice A n c] W (IB W 0 f g 7):=by
 obtain⟨t,r⟩:=qh2 k p;clear k p;go_enter func280,ntmps280;go_wp2_with fail;refine(cE A n c l _ s r.o H).mono ?_;rintro e u ⟨rfl,j⟩;rw[t.o];have q:=qH j;clear j;go_wp2_with fail;go_ret2;exact⟨none,0,rfl,qR,by omega,rS.nil _ _ _ _,q.o,λh=>absurd h (by omega)⟩
theorem kU(A:Option Addr)(n c:Nat)(l:Nat->Nat)(W:World)(hl:∀i,l i<=255)(H:av W .u8 A n (λi=>(l i:Int)))(hm:May l n)(hw:aa l n<=32768)(K:Nat)(hk:kind l n=K)(k5:K≠5)(k4:K≠4):
 Calls prog 280 #[.slice A n c] W (IB W n (cod l n) l 0):=by
 have hz:=bW;have a8:=hm.1;obtain⟨hv,HL,HM,HW⟩:=qh4 hk hl hm hw;have HN:=qH (show n<=maxLen by unfold maxLen;omega);have HC:=qH (show ∀s,s<16->c0 l n s<=320 from λs _=>qK (mT l n s) hm.1);have d5:((K:Int)==5)=false:=(by rw[qN];omega);have d4:((K:Int)==4)=false:=(by rw[qN];omega);have HH:=qH H;clear hk hl hm hw k5 k4 H;go_enter func280,ntmps280;go_wp2_with fail;refine(cE A n c l _ HN.o HL.o HH.o).mono ?_;rintro e w1 ⟨rfl,b1⟩;rw[hv.o];have B1:=qH b1;have H1:=qH (HH.o.below b1);clear b1;go_wp2_with fail;refine(bo A n c l _ HM.o H1.o).mono ?_;rintro e w2 ⟨rfl,b2⟩;have B2:=qbt B1 b2;clear b2;go_wp2_with fail;refine(qU (c0 l n) _ HC.o).mono ?_;rintro e O ⟨rfl,b3⟩;have D:=qbt B2 b3;clear b3;have a7:=λw=>yt w n (by omega)
 go_wp2_with (refine aL rfl _ _ rfl _ (fs (c0 l n)) rfl rfl ?_);clear hz a7
 go_loopw [22] (λi wr=> ∃k:Nat,k<=n/\i=.int .i64 k/\Tb wr O.heap.size (λs=>fs (c0 l n) s+c0 l k s)/\Crow wr (O.heap.size+1) n (λj=>if j<k then cod l n j else 0) (λj=>if j<k then l j else 0)/\Below W.heap.size W wr) (λi _=>n - (intOf i).toNat)
 case atStart=>
  refine⟨0,qZ,rfl,?_,?_,(D.o.alloc D.o.size _).alloc (by have:=D.o.size;simp;omega) _⟩
  · exact((Tb.made O (fs (c0 l n))).alloc _).congr (λi hi=>by unfold c0;simp[cnt])
  · have h:=Crow.made (O.alloc (.cells (TV (fs (c0 l n))) 372)) n
    rw[show(O.alloc (.cells (TV (fs (c0 l n))) 372)).heap.size=O.heap.size+1 by simp] at h;exact h.congr (λi hi=>by simp) (λi hi=>by simp)
 case round=>
  obtain⟨k,ab,rfl,M,B,I⟩:=hrel;by_cases z:k<n
  · obtain⟨b,o,rfl,a1,hc⟩:=HH.o (by omega)
    have E:=HM.o.2 k z;have u:wr.cell? ⟨b,o+k,none⟩=some (.int .u8 (l k)):=(I.cell a1).trans (hc k z);have a4:=B.frozen (k*2);have a5:=B.frozen (k*2+1);have Y:=B.cell1 z;have Z:=B.cell2 z;have hfl:=JS (c:=c0 l n) E (by rw[aE l n HM.o.2];exact HW.o);have T:=ph l (l k) (Nat.le_of_lt z);have X:2^l k<=2^15:=Ak (by omega) E;by_cases C:l k=0
    · have HT:=qH M
      obtain⟨N,R,P⟩:=qh3 B I C;rw[C] at u;clear M B I hc hfl T X C Y Z a4 a5;go_wp2_with fail;go_roundw
      case rel=>
       refine⟨k+1,by omega,by go_num,HT.o.congr (λi hi=> ?_),N.o.congr (λi hi=> ?_) (λi hi=> ?_),R.o⟩
       · unfold c0
         by_cases e:i=0
         · rw[A7 e,A7 e]
         · rw[A0 e,A0 e]
           simp only[cnt];rw[A0 (by rw[P.o];exact λq=>e q.symm)];rfl
       · by_cases e:i<k
         · rw[A7 e,A7 (by omega)]
         · rw[A0 e]
           by_cases r:i<k+1
           · obtain rfl:i=k:=by omega
             rw[A7 r];unfold cod;rw[A7 P.o]
           · rw[A0 r]
       · by_cases e:i<k
         · rw[A7 e,A7 (by omega)]
         · rw[A0 e]
           by_cases r:i<k+1
           · obtain rfl:i=k:=by omega
             rw[A7 r,P.o]
           · rw[A0 r]
      case measure=>simp[intOf];omega
    · have U:(if k<k then cod l n k else 0)=0:=A0 (Db _)
      have V:(if k<k then l k else 0)=0:=A0 (Db _);rw[U] at Y;rw[V] at Z;have a6:=M.frozen (l k);have J:=M.cell (show l k<16 by omega);have p:cod l n k=fs (c0 l n) (l k)+c0 l k (l k):=(by unfold cod c0;rw[A0 C,A0 C]);have e1:c0 l n (l k)=cnt l (l k) n:=(by unfold c0;rw[A0 C]);have r:c0 l k (l k)=cnt l (l k) k:=(by unfold c0;rw[A0 C]);rw[<-p] at J;have a3:cod l n k<=32768:=(by omega);obtain⟨x,hx⟩:∃x,l k=x:=⟨_,rfl⟩
      obtain⟨y,hy⟩:∃y,cod l n k=y:=⟨_,rfl⟩
      have a9:((x:Int)==0)=false:=(by rw[qN];omega);rw[hx] at u J a6 E;rw[hy] at a3 J;obtain⟨HT,N,R,P,HX,HY,a0⟩:=qh7 M B I C hx hy p;clear M B I hc hfl T X C hx hy p e1 r U V;go_wp2_with fail;go_roundw
      case rel=>
       refine⟨k+1,by omega,by go_num,?_,?_,(((R.o.setCell (by have:=D.o.size;simp;omega) _).setCell (by have:=D.o.size;simp;omega) _).setCell (by have:=D.o.size;simp;omega) _)⟩
       · refine((((HT.o.other (by simp) _).other (by simp) _).set x (y+1))).congr (λi hi=> ?_)
         have a2:∀j,c0 l (k+1) j=c0 l k j+if j=x then 1 else 0:=λj=>by
          have hx:=HX.o;unfold c0;by_cases e:j=0
          · have e':¬j=x:=by have:=P.o;omega
            rw[A7 e,A7 e,A0 e']
          · rw[A0 e,A0 e]
            simp only[cnt];rw[hx];by_cases e':j=x
            · rw[A7 e',A7 e'.symm]
            · rw[A0 e',A0 (λq=>e' q.symm)]
         rw[a2];by_cases e:i=x
         · rw[A7 e,A7 e,e]
           have h1:=a0.o;rw[HX.o,HY.o] at h1;omega
         · rw[A0 e,A0 e];rfl
       · refine((N.o.set k y x).other (by simp) _).congr (λi hi=> ?_) (λi hi=> ?_)
         · by_cases e:i=k
           · rw[A7 e,A7 (by omega),e,HY.o]
           · rw[A0 e]
             by_cases r:i<k
             · rw[A7 r,A7 (by omega)]
             · rw[A0 r,A0 (by omega)]
         · by_cases e:i=k
           · rw[A7 e,A7 (by omega),e,HX.o]
           · rw[A0 e]
             by_cases r:i<k
             · rw[A7 r,A7 (by omega)]
             · rw[A0 r,A0 (by omega)]
      case measure=>simp[intOf];omega
  · obtain rfl:k=n:=by omega
    have N:=qH (B.congr (F':=cod l k) (G':=l) (λi hi=>by rw[A7 hi]) (λi hi=>by rw[A7 hi]));have R:=qH I;clear M B I;go_wp2_with fail;go_ret2;exact⟨_,_,rfl,qR,by omega,N.o.cods,R.o,λ_=>⟨_,rfl,by have:=D.o.size;omega,N.o⟩⟩
theorem ij{l:Nat->Nat}{n:Nat}:(kind l n=5/\erc l n=2/\hH l n=0)\/(kind l n=4/\erc l n=7/\hH l n=0)\/(kind l n≠5/\kind l n≠4/\erc l n=0/\hH l n=n):=by
 by_cases h:kind l n=5
 · exact .inl ⟨h,by unfold erc;rw[A7 h],by unfold hH erc;rw[A7 h];rfl⟩
 · by_cases j:kind l n=4
   · exact .inr (.inl ⟨j,by unfold erc;rw[A0 h,A7 j],by unfold hH erc;rw[A0 h,A7 j];rfl⟩)
   · exact .inr (.inr ⟨h,j,by unfold erc;rw[A0 h,A0 j],by unfold hH erc;rw[A0 h,A0 j];rfl⟩)
theorem kV(A:Option Addr)(n c:Nat)(l:Nat->Nat)(W:World)(q:n<=maxLen)(p:∀i,l i<=255)(H:av W .u8 A n (λi=>(l i:Int))):
 Calls prog 280 #[.slice A n c] W (IB W (hH l n) (cod l n) l (erc l n:Nat)):=by
 rcases ij (l:=l) (n:=n) with⟨h,k,o⟩|⟨h,k,o⟩|⟨h,j,k,o⟩
 · rw[k,o];exact jn A n c l W q p H _ _ h
 · rw[k,o];exact gF A n c l W q p H _ _ h
 · rw[k,o]
   obtain⟨r,s⟩:=dz h j;exact kU A n c l W p H r s _ rfl h j
