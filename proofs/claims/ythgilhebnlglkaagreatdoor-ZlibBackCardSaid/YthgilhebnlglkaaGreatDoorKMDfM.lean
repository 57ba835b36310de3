import Derived.Test.YthgilhebnlglkaaGreatDoorKMSpK
import Derived.Test.YthgilhebnlglkaaGreatDoorKMBlN
import Derived.Test.YthgilhebnlglkaaGreatDoorKMP8Lvl
import Derived.Test.YthgilhebnlglkaaGreatDoorKMIfR
set_option linter.all false
set_option maxHeartbeats 0
set_option maxRecDepth 1000000
open Go.Proofs.Tryz
namespace Go.Proofs.YthgilhebnlglkaaGreatDoor
namespace V
open Go Go.RowKit M U
noncomputable def blq(L:List Tk)(s:ByteArray)(q:Nat×Nat)(last:Bool)(o:Nat):List Nat:=bkm (kp L s q.1 q.2).1 (seg L q.1 q.2) (s.extract (szt L q.1) (szt L q.2)) last o
noncomputable def prs(L:List Tk)(s:ByteArray):List (Nat×Nat)->Nat->List Nat
 |[],_=> []
 |q::r,o=>blq L s q r.isEmpty o++prs L s r (o+(blq L s q r.isEmpty o).length)
noncomputable def sbt(L:List Tk)(s:ByteArray)(lv:Nat):List Nat:=if lv=0 then bkm 0 [] s true 0 else prs L s (pts L s) 0
theorem zE{k:Nat}{L:List Tk}{s:ByteArray}{last:Bool}{o:Nat}(b:k<=2)(hs:s.size<=65535):(bkm k L s last o).length<=b3 L s k+2:=by
 unfold b3;rw[bkm_blk hs,bkm_blk hs];have a:k=0\/k=1\/k=2:=(by omega);rcases a with rfl|rfl|rfl
 · unfold blk
   rw[A7 rfl,A7 rfl,stb_length,stb_length];unfold pd;omega
 · unfold blk
   rw[A0 (by decide),A7 rfl,A0 (by decide),A7 rfl,qA,qA,hdb_length,hdb_length];omega
 · unfold blk
   rw[A0 (by decide),A0 (by decide),A0 (by decide),A0 (by decide),qA,qA,qA,qA,hdb_length,hdb_length];omega
theorem zy{L:List Tk}{s:ByteArray}{q:Nat×Nat}{last:Bool}{o:Nat}(hs:s.size<=65535):(blq L s q last o).length<=(kp L s q.1 q.2).2+2:=by
 have h:=zE (k:=(kp L s q.1 q.2).1) (L:=seg L q.1 q.2) (s:=s.extract (szt L q.1) (szt L q.2)) (last:=last) (o:=o) (kd_kind _ _) (by rw[Ae];omega);unfold blq;have e:(kp L s q.1 q.2).2=b3 (seg L q.1 q.2) (s.extract (szt L q.1) (szt L q.2)) (kp L s q.1 q.2).1:=uH _ _;rw[e];exact h
theorem nZ{L:List Tk}{s:ByteArray}(hs:s.size<=65535):∀ (l:List (Nat×Nat)) (o:Nat),(prs L s l o).length<=cO (kp L s) l+2*l.length
 |[],o=>by simp[prs,cO]
 |q::r,o=>by
  have a:=zy (L:=L) (q:=q) (last:=r.isEmpty) (o:=o) hs;have b:=nZ (L:=L) hs r (o+(blq L s q r.isEmpty o).length);simp only[prs,qA,cO,qC];omega
theorem uz{L:List Tk}{s:ByteArray}{f t:Nat}(a:f<=t)(hs:s.size<=65535):(kp L s f t).2<=40+8*(szt L t - szt L f):=by
 have h:=yN (seg L f t) (s.extract (szt L f) (szt L t)) (k:=0) (by omega);have b:(s.extract (szt L f) (szt L t)).size<=szt L t - szt L f:=(by rw[Ae];omega);have e:b3 (seg L f t) (s.extract (szt L f) (szt L t)) 0=3+pd 3+32+(s.extract (szt L f) (szt L t)).size*8:=by
  unfold b3;rw[bkm_blk (by rw[Ae];omega)];unfold blk;rw[A7 rfl,stb_length]
 have c:pd 3=5:=rfl;unfold kp;omega
theorem eA{L:List Tk}{s:ByteArray}(hs:s.size<=65535)(c:Nat->Nat)(a:∀i,c i<=c (i+1)):∀k,gH (kp L s) c k<=40*k+8*(szt L (c k) - szt L (c 0))
 |0=>by simp[gH]
 |k+1=>by
  have b:=eA (L:=L) hs c a k;have h:=uz (L:=L) (s:=s) (a k) hs;have d:=szt_mono L (a k)
  have e:szt L (c 0)<=szt L (c k):=szt_mono L (by
   clear b h d
   induction k with
   |zero=>exact qR
   |succ k ihk=>exact qK ihk (a k))
  simp only[gH];omega
theorem pts_length(L:List Tk)(s:ByteArray):(pts L s).length<=cnk L.length+1:=dO _ _ _
theorem tF{L:List Tk}{s:ByteArray}(hs:s.size<=65535):(prs L s (pts L s) 0).length<=42*(cnk L.length+1)+8*Tx.szs L:=by
 have b:=nZ (L:=L) hs (pts L s) 0;have c:=xL L s;have d:=pts_length L s;have a:=eA (L:=L) hs (cut L.length) (jk L.length) (cnk L.length+1);rw[vx,dF,szt_all qR,szt_zero] at a;omega
def bnd(n:Nat):Nat:=if n=0 then 6 else n+6*((n - 1) /1024+1)+5*((n - 1) /65535)
theorem jS{s:ByteArray}(hs:s.size<=65535):((bkm 0 [] s true 0).length+7) /8=s.size+5:=by
 rw[bkm_blk hs];unfold blk;rw[A7 rfl,stb_length];have:pd (0+3)=5:=rfl;omega
theorem xK(s:ByteArray):pts [] s=[(0,0)]:=tD [] s (by simp)
theorem sV{L:List Tk}{s:ByteArray}{lv:Nat}(hs:s.size<=65535)(d:L.length<=s.size)(c:Tx.szs L=s.size):((sbt L s lv).length+7) /8<=bnd s.size:=by
 unfold sbt bnd;by_cases a:lv=0
 · rw[A7 a,jS hs]
   split<;>omega
 · rw[A0 a]
   have h:=tF (L:=L) hs;rw[c] at h;unfold cnk at h;have b:(L.length - 1) /1024<=(s.size - 1) /1024:=Nat.div_le_div_right (by omega)
   split
   · rename_i e
     rw[e] at h b;omega
   · omega
theorem pB(k:Nat)(L:List Tk)(s:ByteArray)(last:Bool)(o:Nat)(hs:s.size<=65535):3<=(bkm k L s last o).length:=by
 rw[bkm_blk hs];unfold blk
 split
 · rw[stb_length];omega
 · split
   · rw[qA,hdb_length];omega
   · rw[qA,qA,hdb_length];omega
theorem xo{L:List Tk}{s:ByteArray}{lv:Nat}(hs:s.size<=65535):3<=(sbt L s lv).length:=by
 unfold sbt
 split
 · exact pB _ _ _ _ _ hs
 · cases h:pts L s with
   |nil=>
    exfalso;unfold pts prt at h;simp at h
   |cons q r=>
    simp only[prs,qA];have:=pB (kp L s q.1 q.2).1 (seg L q.1 q.2) (s.extract (szt L q.1) (szt L q.2)) r.isEmpty 0 (by rw[Ae];omega);unfold blq;omega
theorem xb(s:ByteArray):∀n,Tx.szs (Px.Q.lits s n)=n:=λn=>by
 unfold Px.Q.lits
 induction n with
 |zero=>rfl
 |succ n ih=>
  rw[Bi,Aw,Tx.szs_append,ih];have:Tx.szs (List.map (Px.lit s) [n])=1:=by
   simp only[Al,Av,Tx.szs];rw[Tx.szo_byte (Px.lit_byte s n)]
  rw[this]
theorem KX(s:ByteArray)(r:Px.Lv)(k:Nat)(m:Nat×Nat)(c:k<=s.size)(b:m.1≠0->Px.Mt s k m):Tx.szs (Px.G s r k m)=s.size - k:=by
 induction k,m using Px.G.induct s r with
 |case1 k m hlt hz hq ih=>
  rw[Px.G_lit hlt hz hq];have h:=ih (by omega) (λq=>absurd rfl q);simp only[Tx.szs];rw[h,Tx.szo_byte (Px.lit_byte s k)];omega
 |case2 k m hlt hz hq ih=>
  rw[Px.G_look hlt hz hq];exact ih c (λ_=>(Px.mt_is hq).1)
 |case3 k m hlt hz hc hq ih=>
  rw[Px.G_stay hlt hz hc hq];have a:=b hz;have h:=ih a.fits (λq=>absurd rfl q);have hf:=a.fits;simp only[Tx.szs];rw[h,Tx.szo_match (Px.mtk_match a)];have:(Px.mtk m).n.toNat=m.1:=(by show((m.1:Int)).toNat=m.1;omega);omega
 |case4 k m hlt hz hc hq ih=>
  rw[Px.G_lazy hlt hz hc hq];have h:=ih (by omega) (λ_=>(Px.mt_is hq).1);simp only[Tx.szs];rw[h,Tx.szo_byte (Px.lit_byte s k)];omega
 |case5 k m hlt hz hc ih=>
  rw[Px.G_take hlt hz hc];have a:=b hz;have h:=ih a.fits (λq=>absurd rfl q);have hf:=a.fits;simp only[Tx.szs];rw[h,Tx.szo_match (Px.mtk_match a)];have:(Px.mtk m).n.toNat=m.1:=(by show((m.1:Int)).toNat=m.1;omega);omega
 |case6 k m hlt=>
  rw[Px.G_end (by omega)];show 0=_
  omega
end V
namespace V
open Go Go.RowKit
def Tabx(w:World):Prop:=Px.Lvs w/\Tabs w
theorem Tabx.keep{w w':World}(h:Tabx w)(a:Below w.heap.size w w'):Tabx w':=⟨h.1.below a qR,h.2.keep a⟩
theorem tabx_of_laid{W:World}{a:List (String×DataW Unit)}(b:a=[("platen/parse.levels",Rows.laid_platen_parse_levels),("platen/runs.says",Rows.laid_platen_runs_says),("platen/symbol.lengths",Rows.laid_platen_symbol_lengths),("platen/symbol.distances",Rows.laid_platen_symbol_distances)])(h:laidMet prog a W):Tabx W:=by
 subst b;exact⟨Px.lvs_of_laid rfl (h.filter λx=>x.1== "platen/parse.levels"),jO rfl (h.filter λx=>x.1 != "platen/parse.levels")⟩
end V
namespace V
open Go Go.RowKit M U
noncomputable def dtk(d t:ByteArray)(k:Nat):List Tk:=if k=0 then Px.Q.lits t t.size else Px.G (Px.cutd d++t) (Px.Q.lv k) (Px.cutd d).size (0,0)
noncomputable def dbs(d t:ByteArray)(k:Nat):List Nat:=sbt (dtk d t k) t k
noncomputable def dby(d t:ByteArray)(k:Nat):ByteArray:=c7 (nb (dbs d t k)) (dbs d t k).length
theorem textR_size(V L:Nat):(c7 V L).size=(L+7) /8:=by
 unfold c7;rw[M.bstr_size,M.le_length]
theorem dby_size(d t:ByteArray)(k:Nat):(dby d t k).size=((dbs d t k).length+7) /8:=textR_size _ _
theorem dtk_size(d t:ByteArray)(k:Nat):Tx.szs (dtk d t k)=t.size:=by
 unfold dtk
 split
 · exact xb t t.size
 · have h:=KX (Px.cutd d++t) (Px.Q.lv k) (Px.cutd d).size (0,0) (by rw[AM];omega) (λh=>absurd rfl h)
   rw[h,AM];omega
theorem dtk_len(d t:ByteArray)(k:Nat):(dtk d t k).length<=t.size:=by
 unfold dtk
 split
 · rw[Px.Q.lits_length];exact qR
 · have h:=Px.G_len (Px.cutd d++t) (Px.Q.lv k) (Px.cutd d).size (0,0) (λh=>absurd rfl h)
   rw[AM] at h;omega
theorem dby_short(d t:ByteArray)(k:Nat)(a:t.size<=65535):(dby d t k).size<=bnd t.size/\1<=(dby d t k).size:=by
 rw[dby_size];refine⟨sV a (dtk_len d t k) (dtk_size d t k),?_⟩;have:=xo (L:=dtk d t k) (lv:=k) a;unfold dbs;omega
theorem vu(t:ByteArray):Px.cutd ⟨#[]⟩++t=t:=by
 rw[Px.cutd_all (by decide)];exact ByteArray.empty_append
theorem ze{t:ByteArray}{k:Nat}(a:k≠0):dtk ⟨#[]⟩ t k=Px.G t (Px.Q.lv k) 0 (0,0):=by
 unfold dtk;rw[A0 a,vu,Px.cutd_all (by decide)];rfl
theorem vq:dbs ⟨#[]⟩ ⟨#[]⟩ 6=[1,1,0,0,0,0,0,0,0,0]:=by
 have a:dtk ⟨#[]⟩ ⟨#[]⟩ 6=[]:=(by rw[ze (by decide)];exact Px.G_end (by decide));have b:(kp [] ⟨#[]⟩ 0 0).1=1:=by
  unfold kp;rw[show seg [] 0 0=[] from rfl,show(⟨#[]⟩:ByteArray).extract (szt [] 0) (szt [] 0)=⟨#[]⟩ by simp[szt,Tx.szs];rfl,JM]
 unfold dbs sbt;rw[a,A0 (by decide),xK];simp only[prs,Az];unfold blq;simp only[b];rw[show seg [] 0 0=[] from rfl,show(⟨#[]⟩:ByteArray).extract (szt [] 0) (szt [] 0)=⟨#[]⟩ by simp[szt,Tx.szs];rfl];rw[bkm_blk (by decide)];unfold blk;rw[A0 (by decide),A7 rfl];decide+kernel
theorem dby_empty:dby ⟨#[]⟩ ⟨#[]⟩ 6=⟨#[3,0]⟩:=by
 unfold dby;rw[vq];decide+kernel
end V
namespace Z
open Go Go.RowKit
def zl(i:Nat):Nat:=[0,0,1,1,1,1,2,3,3,3].getD i 0
theorem F4:∀i,i<=9->zl i<=3:=by decide
structure Zlv(w:World):Prop where
 at_:∀i,i<10->w.cell? ⟨0,i,none⟩=some (.int .u8 (zl i:Nat))
theorem Zlv.lt{w:World}(h:Zlv w): 0 <w.heap.size:=qB (h.at_ 0 (by omega))
theorem Zlv.keep{w w':World}(h:Zlv w)(a:Below w.heap.size w w'):Zlv w':=⟨λi hi=>(a.cell (p:=⟨0,i,none⟩) h.lt).trans (h.at_ i hi)⟩
theorem gLev: prog.globalNamed "platen/zlib.levels" =some 0 :=by kernel_rfl
theorem tLev:(prog.globals[0]?).map (·.type)=some 111 :=by kernel_rfl
theorem vN: prog.cellsOf 5 =1:=by kernel_rfl
theorem lz{W:World}{d:List (String×DataW Unit)}(D:d=[("platen/zlib.levels",Rows.laid_platen_zlib_levels)])(h:laidMet prog d W):Zlv W:=by
 subst D;obtain⟨ps,⟨E,H,g,I,G,F,k,s,w,r,_,_⟩,_⟩:=h;obtain rfl:=Option.some.inj (gLev.symm.trans k);obtain rfl:=Option.some.inj (tLev.symm.trans s);obtain⟨f,m,_,x,y,J,o⟩:=DataW.trod_array underlying111 r;simp only[Prod.mk.injEq] at x;have b:=x.1;have q:f.map (·.1)=(List.range 10).map (λi=>(DataW.lit (.int .u8 (zl i:Nat)):DataW Unit)):=by
  unfold Rows.laid_platen_zlib_levels at b;injection b with b
  rw[<-b];rfl
 have e:=λj=>World.var?_cell k w j
 refine⟨λi hi=> ?_⟩;have p:=o i hi;rw[vN,Bq] at p;have z:f[i]? =some f[i]:=qE (by omega);rw[z] at p;have c:(f.map (·.1))[i]? =some (f[i]).1:=(by rw[Am,z];rfl);rw[q,Am,Bj hi] at c;injection c with c
 obtain⟨n,a,u,_⟩:=DataW.trod_int underlying5 p;have C:(f[i]).1=.lit (.int .u8 n):=(by rw[u]);rw[C] at c;injection c with c
 injection c with _ c
 rw[e i];have A:(g.toList.drop i).head? =some (.int .u8 n):=by
  cases B:g.toList.drop i with
  |nil=>rw[B] at a;simp at a
  |cons v l=>rw[B] at a;simp at a;simp[a]
 rw[List.head?_drop,BM] at A;rw[A,<-c]
def Tabz(w:World):Prop:=Zlv w/\V.Tabx w
theorem Tabz.keep{w w':World}(h:Tabz w)(a:Below w.heap.size w w'):Tabz w':=⟨h.1.keep a,h.2.keep a⟩
def pr(f:Nat):ByteArray:=⟨#[120,UInt8.ofNat ((30720+f+(31 - (30720+f)%31))%256)]⟩
def hdr(d:ByteArray)(k:Nat):ByteArray:=if d.size=0 then pr (64*zl k) else pr (64*zl k+32)++sb (adl 1 d)
noncomputable def wr(d t:ByteArray)(k:Nat):ByteArray:=hdr d k++V.dby d t k++sb (adl 1 t)
theorem Lw(w:World)(a b:Nat)(h:a<256)(i:b<256):
 (convert 26 9 (.slice (some ⟨w.heap.size,0,none⟩) 2 2)).run prog (w.alloc (.cells #[.int .u8 (a:Int),.int .u8 (b:Int)] 5))=.ok (.string ⟨#[UInt8.ofNat a,UInt8.ofNat b]⟩) (w.alloc (.cells #[.int .u8 (a:Int),.int .u8 (b:Int)] 5)):=by
 have e:=heap_alloc_new w (.cells #[.int .u8 (a:Int),.int .u8 (b:Int)] 5);generalize n:w.alloc (.cells #[.int .u8 (a:Int),.int .u8 (b:Int)] 5)=W at e ⊢;have d:∀j,W.cell? ⟨w.heap.size,j,none⟩= #[Value.int .u8 (a:Int),.int .u8 (b:Int)][j]? :=λj=>by
  unfold World.cell?;simp only[e];rfl
 have l:I.Ry W w.heap.size 2 [UInt8.ofNat a,UInt8.ofNat b]:=by
  refine⟨qR,λj k=> ?_,λj _=> ?_,λj u f=> ?_,_,_,e⟩
  · rw[d]
    have:j=0\/j=1:=(by omega);rcases this with rfl|rfl<;>rfl
  · simp[World.frozen?,e]
  · rw[d]
    have k:j<2:=(An.1 f).1;have:j=0\/j=1:=(by omega);have g:∀x,x<256->((UInt8.ofNat x).toNat:Int)=(x:Int):=λx m=>by rw[Bu];omega
    rcases this with rfl|rfl
    · cases f;rw[g a h];rfl
    · cases f;rw[g b i];rfl
 exact V.Tx.conv_rb l.rb 0 2 rfl (by decide) ⟨w.heap.size,0,none⟩ (c:=2) (λ_=>rfl)
theorem om(f:Nat)(w:World)(hf:f<=224):Calls prog 82 #[.int .u8 f] w λe w'=>e=.returned (.string (pr f))/\Below w.heap.size w w':=by
 have i:=qH (λw=>(show Calls prog 98 #[.int .u8 120,.int .u8 f] w λe w'=>e=.returned (.int .u32 ((120*256+f:Nat):Int))/\w=w' from ia 120 f w (by decide) (by omega)));obtain⟨N,d⟩:∃N,120*256+f=N:=⟨_,rfl⟩
 obtain⟨q,b⟩:∃q,N%31=q:=⟨_,rfl⟩
 obtain⟨p,c⟩:∃p,31 - q=p:=⟨_,rfl⟩
 obtain⟨M,g⟩:∃M,N+p=M:=⟨_,rfl⟩
 obtain⟨y,h⟩:∃y,M%256=y:=⟨_,rfl⟩
 have a:pr f=⟨#[UInt8.ofNat 120,UInt8.ofNat y]⟩:=by
  unfold pr;rw[show 30720+f=N by omega,b,c,g,h];rfl
 rw[a];have u:(convert 26 9 (.slice (some ⟨w.heap.size,0,none⟩) 2 2)).run prog (w.alloc (.cells #[.int .u8 120,.int .u8 (y:Int)] 5))=.ok (.string ⟨#[UInt8.ofNat 120,UInt8.ofNat y]⟩) (w.alloc (.cells #[.int .u8 120,.int .u8 (y:Int)] 5)):=Lw w 120 y (by decide) (by omega);rw[d] at i;have m:(N:Int)%31=(q:Int):=(by omega);have r:Int.tmod (N:Int) 31=(q:Int):=(by rw[BE (by omega)];exact m);have x:IntKind.u32.wrap (31 - (q:Int))=(p:Int):=(by rw[IntKind.wrap_u32'];omega);have j:(31:Int) - (q:Int)=(p:Int):=(by omega);have l:(N:Int)+(p:Int)=(M:Int):=(by omega);have A:(M:Int) /2^8=120:=(by rw[show(2:Int)^8=256 from rfl];omega);have s:(M:Int) /256=120:=(by omega);have v:IntKind.u8.wrap (M:Int)=(y:Int):=(by rw[IntKind.wrap_u8'];omega);have k:=qH ((Below.refl w.heap.size w).alloc qR (.cells #[.int .u8 120,.int .u8 (y:Int)] 5));have n:M<30976:=(by omega);clear d b c g h a;go_enter func82,ntmps82;go_wp2_with (go_at_call 98;(with_reducible refine(i.o _).mono ?_);rintro e z ⟨rfl,rfl⟩);go_ret;exact⟨rfl,k.o⟩
theorem ep(s:ByteArray)(w:World)(hs:s.size<=maxLen):Calls prog 39 #[.string s] w λe w'=>e=.returned (.string (sb (adl 1 s)))/\Below w.heap.size w w':=by
 have h:=qH (λw=>gd s w hs);have m:adl 1 s<4294967296:=(by have:=pJ 1 s;unfold dH at this;exact this);generalize a:adl 1 s=n at m ⊢;simp only[a] at h;obtain⟨z,u,v,y⟩:=rj n m;have c:=Lu w _ _ _ _ z u v y;have b:(⟨#[UInt8.ofNat (n/16777216),UInt8.ofNat (n/65536%256),UInt8.ofNat (n/256%256),UInt8.ofNat (n%256)]⟩:ByteArray)=sb n:=rfl;rw[b] at c;obtain⟨p0,j⟩:∃p0,n/16777216=p0:=⟨_,rfl⟩
 obtain⟨q1,d⟩:∃q1,n/65536=q1:=⟨_,rfl⟩
 obtain⟨q2,i⟩:∃q2,n/256=q2:=⟨_,rfl⟩
 rw[j,d,i] at c;obtain⟨p1,g⟩:∃p1,q1%256=p1:=⟨_,rfl⟩
 obtain⟨p2,k⟩:∃p2,q2%256=p2:=⟨_,rfl⟩
 obtain⟨p3,l⟩:∃p3,n%256=p3:=⟨_,rfl⟩
 rw[g,k,l] at c;have x:(n:Int) /16777216=(p0:Int):=(by omega);have q:(n:Int) /65536=(q1:Int):=(by omega);have p:(n:Int) /256=(q2:Int):=(by omega);have B:IntKind.u8.wrap (p0:Int)=(p0:Int):=(by rw[IntKind.wrap_u8'];omega);have D:IntKind.u8.wrap (q1:Int)=(p1:Int):=(by rw[IntKind.wrap_u8'];omega);have A:IntKind.u8.wrap (q2:Int)=(p2:Int):=(by rw[IntKind.wrap_u8'];omega);have E:IntKind.u8.wrap (n:Int)=(p3:Int):=(by rw[IntKind.wrap_u8'];omega);have r:=qH ((Below.refl w.heap.size w).alloc qR (.cells #[.int .u8 (p0:Int),.int .u8 (p1:Int),.int .u8 (p2:Int),.int .u8 (p3:Int)] 5));clear j d i g k l b a;go_enter func39,ntmps39;go_wp2_with (go_at_call 40;(with_reducible refine(h.o _).mono ?_);rintro e C ⟨rfl,rfl⟩);go_ret;exact⟨rfl,r.o⟩
theorem LM(x:Nat)(h:x<=3):Go.bits .or .u8 ((64*x:Nat):Int) 32=((64*x+32:Nat):Int):=by
 have a:∀x:Fin 4,(64*x.val)|||32=64*x.val+32:=(by decide);have:=u8_or_nat (64*x) 32 (by omega) (by decide);rw[a ⟨x,by omega⟩] at this;exact this
theorem KE(d:ByteArray)(h:d.size≠0):(d.toList==(⟨#[]⟩:ByteArray).toList)=false:=by
 rw[qN];intro q;rw[DN,DN] at q;apply h;show d.data.size=0
 rw[<-As,q];rfl
theorem sS(d:ByteArray)(h:d.size≠0):d.toList.isEmpty=false:=by
 rw[DN];cases q:d.data.toList with
 |nil=>
  exfalso;apply h;show d.data.size=0
  rw[<-As,q];rfl
 |cons x l=>rfl
theorem nQ{d:ByteArray}(h:d.size=0):d=⟨#[]⟩:=ByteArray.ext (Array.eq_empty_of_size_eq_zero h)
theorem yU(d:ByteArray)(k:Nat)(w:World)(H:Zlv w)(y:k<=9)(C:d.size<=maxLen):Calls prog 38 #[.string d,.int .i64 k] w λe w'=>e=.returned (.string (hdr d k))/\Below w.heap.size w w':=by
 have c0:=H.at_ k (by omega);have t:=F4 k y;unfold hdr;generalize i:zl k=z at c0 t ⊢;have j:IntKind.u8.wrap ((z:Int)*2^6)=((64*z:Nat):Int):=(by rw[IntKind.wrap_u8',show(2:Int)^6=64 from rfl];omega);have g:IntKind.u8.wrap ((z:Int)*64)=((64*z:Nat):Int):=(by rw[IntKind.wrap_u8'];omega);have p:(z:Int)*64%256=((64*z:Nat):Int):=(by omega);by_cases c:d.size=0
 · rw[A7 c]
   obtain rfl:=nQ c;have b:=qH (λw=>om (64*z) w (by omega));obtain⟨F,a⟩:∃F,64*z=F:=⟨_,rfl⟩
   rw[a] at j g p;simp only[a] at b ⊢;have B:(z:Int)*64=(F:Int):=(by omega);clear H i c a;go_enter func38,ntmps38;go_wp2_with (go_at_call 82;(with_reducible refine(b.o _).mono ?_);rintro e j ⟨rfl,h⟩;have l:=qH h;clear h);go_ret;exact⟨rfl,l.o⟩
 · rw[A0 c]
   have r:d.toList.isEmpty=false:=sS d c;have A:=LM z t;have b:=qH (λw=>om (64*z+32) w (by omega));have s:=qH (λw=>ep d w C);obtain⟨G,n⟩:∃G,64*z+32=G:=⟨_,rfl⟩
   obtain⟨F,a⟩:∃F,64*z=F:=⟨_,rfl⟩
   rw[n,a] at A;rw[a] at j g p;simp only[n] at b ⊢;obtain⟨P,m⟩:∃P,pr G=P:=⟨_,rfl⟩
   obtain⟨S,q⟩:∃S,sb (adl 1 d)=S:=⟨_,rfl⟩
   have v:P.size=2:=(by rw[<-m];rfl);have u:S.size=4:=(by rw[<-q];rfl);simp only[m] at b ⊢;simp only[q] at s ⊢;have B:(z:Int)*64=(F:Int):=(by omega);clear H i c a n m q;go_enter func38,ntmps38
   go_wp2_with (first
    |(go_at_call 82;(with_reducible refine(b.o _).mono ?_);rintro e j ⟨rfl,h⟩;have l:=qH h;clear h)
    |(go_at_call 39;(with_reducible refine qcb l (s.o _) ?_);intro p x))
   go_ret;exact⟨rfl,x.o⟩
theorem cG(d:ByteArray)(k:Nat):(hdr d k).size=if d.size=0 then 2 else 6:=by
 unfold hdr
 split
 · rfl
 · rw[AM];rfl
theorem wO(d t:ByteArray)(k:Nat)(most:Int)(w:World)(x:Calls prog 37 #[.string d,.string t,.int .i64 k,.int .i64 most] w λe w'=>e=.returned (.tuple #[.string (V.dby d t k),.int .i64 0])/\Below w.heap.size w w')(y:∀w',Below w.heap.size w w'->Zlv w')(M:d.size<=100000)(I:t.size<=30000)(B:k<=9)(F:most<=9223372036854775807)(m:((wr d t k).size:Int)<=most):
 Calls prog 13 #[.string d,.string t,.int .i64 k,.int .i64 most] w λe w'=>e=.returned (.tuple #[.string (wr d t k),.int .i64 0])/\Below w.heap.size w w':=by
 have a:(wr d t k).size=(hdr d k).size+(V.dby d t k).size+4:=(by unfold wr;rw[AM,AM];rfl);have r:=cG d k;have c:=(V.dby_short d t k (by omega)).1;have l:V.bnd t.size<=40000:=(by unfold V.bnd;split<;>omega);have n:(hdr d k).size<=6:=(by rw[r];split<;>omega);have v:=qH x;have q:=qH (λ(w':World) (b:Below w.heap.size w w')=>yU d k w' (y w' b) B (by unfold maxLen;omega));have u:=qH (λw=>ep t w (by unfold maxLen;omega));have g:wr d t k=hdr d k++V.dby d t k++sb (adl 1 t):=rfl;obtain⟨X,j⟩:∃X,V.dby d t k=X:=⟨_,rfl⟩
 obtain⟨Y,i⟩:∃Y,hdr d k=Y:=⟨_,rfl⟩
 obtain⟨S,h⟩:∃S,sb (adl 1 t)=S:=⟨_,rfl⟩
 have z:S.size=4:=(by rw[<-h];rfl);rw[g] at m a ⊢;rw[j,i,h] at m a ⊢;rw[j] at v c;rw[i] at n;simp only[i] at q;simp only[h] at u;have G:Y.size+X.size<=9223372036854775807:=(by omega);have D:(Y++X).size+S.size<=9223372036854775807:=(by rw[AM];omega);have H:(Y++X++S).size=Y.size+X.size+S.size:=(by rw[AM,AM]);have E:decide (most<(Y.size:Int)+(X.size:Int)+4)=false:=qF (by omega);clear x y a r c l g j i h m;go_enter func13,ntmps13
 go_wp2_with (first
  |(go_at_call 37;(with_reducible refine v.o.mono ?_);rintro e J ⟨rfl,s⟩;have p:=qH s;clear s)
  |(go_at_call 38;(with_reducible refine qcb p (q.o _ p.o) ?_);intro L A)
  |(go_at_call 39;(with_reducible refine qcb A (u.o _) ?_);intro K C))
 go_ret2;exact⟨rfl,C.o⟩
