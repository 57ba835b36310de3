import Derived.Test.YthgilhebnlglkaaGreatDoorEMSpK
import Derived.Test.YthgilhebnlglkaaGreatDoorEMBlA
import Derived.Test.YthgilhebnlglkaaGreatDoorEMP8Lvl
import Derived.Test.YthgilhebnlglkaaGreatDoorEMIfR
set_option linter.all false
set_option maxHeartbeats 8000000
set_option maxRecDepth 1000000
open Go.Proofs.Tryz
namespace Go.Proofs.YthgilhebnlglkaaGreatDoor.V
open Go Go.RowKit M U
noncomputable def blq(L:List Tk)(s:ByteArray)(q:Nat×Nat)(last:Bool)(o:Nat):List Nat:=bkm (kp L s q.1 q.2).1 (seg L q.1 q.2) (s.extract (szt L q.1) (szt L q.2)) last o
noncomputable def prs(L:List Tk)(s:ByteArray):List (Nat×Nat)->Nat->List Nat
 |[],_=> []
 |q::r,o=>blq L s q r.isEmpty o++prs L s r (o+(blq L s q r.isEmpty o).length)
noncomputable def sbt(L:List Tk)(s:ByteArray)(lv:Nat):List Nat:=if lv=0 then bkm 0 [] s true 0 else prs L s (pts L s) 0
theorem zeL{k:Nat}{L:List Tk}{s:ByteArray}{last:Bool}{o:Nat}(hk:k<=2)(hs:s.size<=65535):(bkm k L s last o).length<=b3 L s k+2:=by
 unfold b3;rw[z0S hs,z0S hs];have hc:k=0\/k=1\/k=2:=(by omega);rcases hc with rfl|rfl|rfl
 · unfold blk
   rw[if_pos rfl,if_pos rfl,z0g,z0g];unfold pd;omega
 · unfold blk
   rw[if_neg (by decide),if_pos rfl,if_neg (by decide),if_pos rfl,qA,qA,z0d,z0d];omega
 · unfold blk
   rw[if_neg (by decide),if_neg (by decide),if_neg (by decide),if_neg (by decide),qA,qA,qA,qA,z0d,z0d];omega
theorem zeH{L:List Tk}{s:ByteArray}{q:Nat×Nat}{last:Bool}{o:Nat}(hs:s.size<=65535):(blq L s q last o).length<=(kp L s q.1 q.2).2+2:=by
 have h:=zeL (k:=(kp L s q.1 q.2).1) (L:=seg L q.1 q.2) (s:=s.extract (szt L q.1) (szt L q.2)) (last:=last) (o:=o) (z6B _ _) (by rw[ByteArray.size_extract];omega);unfold blq;have e:(kp L s q.1 q.2).2=b3 (seg L q.1 q.2) (s.extract (szt L q.1) (szt L q.2)) (kp L s q.1 q.2).1:=zbr _ _;rw[e];exact h
theorem z7r{L:List Tk}{s:ByteArray}(hs:s.size<=65535):∀ (l:List (Nat×Nat)) (o:Nat),(prs L s l o).length<=z1q (kp L s) l+2*l.length
 |[],o=>by simp[prs,z1q]
 |q::r,o=>by
  have h1:=zeH (L:=L) (q:=q) (last:=r.isEmpty) (o:=o) hs;have h2:=z7r (L:=L) hs r (o+(blq L s q r.isEmpty o).length);simp only[prs,qA,z1q,qC];omega
theorem zbk{L:List Tk}{s:ByteArray}{f t:Nat}(hft:f<=t)(hs:s.size<=65535):(kp L s f t).2<=40+8*(szt L t - szt L f):=by
 have h:=ze4 (seg L f t) (s.extract (szt L f) (szt L t)) (k:=0) (by omega);have hz:(s.extract (szt L f) (szt L t)).size<=szt L t - szt L f:=(by rw[ByteArray.size_extract];omega);have e:b3 (seg L f t) (s.extract (szt L f) (szt L t)) 0=3+pd 3+32+(s.extract (szt L f) (szt L t)).size*8:=by
  unfold b3;rw[z0S (by rw[ByteArray.size_extract];omega)];unfold blk;rw[if_pos rfl,z0g]
 have e2:pd 3=5:=rfl;unfold kp;omega
theorem z2p{L:List Tk}{s:ByteArray}(hs:s.size<=65535)(c:Nat->Nat)(hc:∀i,c i<=c (i+1)):∀k,z3G (kp L s) c k<=40*k+8*(szt L (c k) - szt L (c 0))
 |0=>by simp[z3G]
 |k+1=>by
  have ih:=z2p (L:=L) hs c hc k;have h:=zbk (L:=L) (s:=s) (hc k) hs;have h1:=z1L L (hc k)
  have h0:szt L (c 0)<=szt L (c k):=z1L L (by
   clear ih h h1
   induction k with
   |zero=>exact qR
   |succ k ihk=>exact qK ihk (hc k))
  simp only[z3G];omega
theorem z8O(L:List Tk)(s:ByteArray):(pts L s).length<=cnk L.length+1:=z25 _ _ _
theorem zaE{L:List Tk}{s:ByteArray}(hs:s.size<=65535):(prs L s (pts L s) 0).length<=42*(cnk L.length+1)+8*Tx.szs L:=by
 have h1:=z7r (L:=L) hs (pts L s) 0;have h2:=zdn L s;have h3:=z8O L s;have h4:=z2p (L:=L) hs (cut L.length) (z4K L.length) (cnk L.length+1);rw[zbV,z2E,z6a qR,z75] at h4;omega
def bnd(n:Nat):Nat:=if n=0 then 6 else n+6*((n - 1) /1024+1)+5*((n - 1) /65535)
theorem z5f{s:ByteArray}(hs:s.size<=65535):((bkm 0 [] s true 0).length+7) /8=s.size+5:=by
 rw[z0S hs];unfold blk;rw[if_pos rfl,z0g];have:pd (0+3)=5:=rfl;omega
theorem zdm(s:ByteArray):pts [] s=[(0,0)]:=z6k [] s (by simp)
theorem zab{L:List Tk}{s:ByteArray}{lv:Nat}(hs:s.size<=65535)(hl:L.length<=s.size)(hz:Tx.szs L=s.size):((sbt L s lv).length+7) /8<=bnd s.size:=by
 unfold sbt bnd;by_cases h0:lv=0
 · rw[if_pos h0,z5f hs]
   split<;>omega
 · rw[if_neg h0]
   have h:=zaE (L:=L) hs;rw[hz] at h;unfold cnk at h;have hc:(L.length - 1) /1024<=(s.size - 1) /1024:=Nat.div_le_div_right (by omega)
   split
   · rename_i e
     rw[e] at h hc;omega
   · omega
theorem z8b(k:Nat)(L:List Tk)(s:ByteArray)(last:Bool)(o:Nat)(hs:s.size<=65535):3<=(bkm k L s last o).length:=by
 rw[z0S hs];unfold blk
 split
 · rw[z0g];omega
 · split
   · rw[qA,z0d];omega
   · rw[qA,qA,z0d];omega
theorem zd2{L:List Tk}{s:ByteArray}{lv:Nat}(hs:s.size<=65535):3<=(sbt L s lv).length:=by
 unfold sbt
 split
 · exact z8b _ _ _ _ _ hs
 · cases h:pts L s with
   |nil=>
    exfalso;unfold pts prt at h;simp at h
   |cons q r=>
    simp only[prs,qA];have:=z8b (kp L s q.1 q.2).1 (seg L q.1 q.2) (s.extract (szt L q.1) (szt L q.2)) r.isEmpty 0 (by rw[ByteArray.size_extract];omega);unfold blq;omega
theorem zcU(s:ByteArray):∀n,Tx.szs (Px.Q.lits s n)=n:=λn=>by
 unfold Px.Q.lits
 induction n with
 |zero=>rfl
 |succ n ih=>
  rw[List.range_succ,List.map_append,Tx.szs_append,ih];have:Tx.szs (List.map (Px.lit s) [n])=1:=by
   simp only[List.map_cons,List.map_nil,Tx.szs];rw[Tx.szo_byte (Px.lit_byte s n)]
  rw[this]
theorem zjV(s:ByteArray)(r:Px.Lv)(k:Nat)(m:Nat×Nat)(hk:k<=s.size)(hm:m.1≠0->Px.Mt s k m):Tx.szs (Px.G s r k m)=s.size - k:=by
 induction k,m using Px.G.induct s r with
 |case1 k m hlt hz hq ih=>
  rw[Px.G_lit hlt hz hq];have h:=ih (by omega) (λq=>absurd rfl q);simp only[Tx.szs];rw[h,Tx.szo_byte (Px.lit_byte s k)];omega
 |case2 k m hlt hz hq ih=>
  rw[Px.G_look hlt hz hq];exact ih hk (λ_=>(Px.mt_is hq).1)
 |case3 k m hlt hz hc hq ih=>
  rw[Px.G_stay hlt hz hc hq];have hv:=hm hz;have h:=ih hv.fits (λq=>absurd rfl q);have hf:=hv.fits;simp only[Tx.szs];rw[h,Tx.szo_match (Px.mtk_match hv)];have:(Px.mtk m).n.toNat=m.1:=(by show((m.1:Int)).toNat=m.1;omega);omega
 |case4 k m hlt hz hc hq ih=>
  rw[Px.G_lazy hlt hz hc hq];have h:=ih (by omega) (λ_=>(Px.mt_is hq).1);simp only[Tx.szs];rw[h,Tx.szo_byte (Px.lit_byte s k)];omega
 |case5 k m hlt hz hc ih=>
  rw[Px.G_take hlt hz hc];have hv:=hm hz;have h:=ih hv.fits (λq=>absurd rfl q);have hf:=hv.fits;simp only[Tx.szs];rw[h,Tx.szo_match (Px.mtk_match hv)];have:(Px.mtk m).n.toNat=m.1:=(by show((m.1:Int)).toNat=m.1;omega);omega
 |case6 k m hlt=>
  rw[Px.G_end (by omega)];show 0=_
  omega
end Go.Proofs.YthgilhebnlglkaaGreatDoor.V
namespace Go.Proofs.YthgilhebnlglkaaGreatDoor.V
open Go Go.RowKit
def Tabx(w:World):Prop:=Px.Lvs w/\Tabs w
theorem Tabx.keep{w w':World}(h:Tabx w)(hb:Below w.heap.size w w'):Tabx w':=⟨h.1.below hb qR,h.2.keep hb⟩
theorem tabx_of_laid{W:World}{laid:List (String×DataW Unit)}(hl:laid=[("platen/parse.levels",Rows.laid_platen_parse_levels),("platen/runs.says",Rows.laid_platen_runs_says),("platen/symbol.lengths",Rows.laid_platen_symbol_lengths),("platen/symbol.distances",Rows.laid_platen_symbol_distances)])(h:laidMet prog laid W):Tabx W:=by
 subst hl;exact⟨Px.lvs_of_laid rfl (h.filter λx=>x.1== "platen/parse.levels"),z5c rfl (h.filter λx=>x.1 != "platen/parse.levels")⟩
end Go.Proofs.YthgilhebnlglkaaGreatDoor.V
namespace Go.Proofs.YthgilhebnlglkaaGreatDoor.V
open Go Go.RowKit M U
noncomputable def dtk(d t:ByteArray)(k:Nat):List Tk:=if k=0 then Px.Q.lits t t.size else Px.G (Px.cutd d++t) (Px.Q.lv k) (Px.cutd d).size (0,0)
noncomputable def dbs(d t:ByteArray)(k:Nat):List Nat:=sbt (dtk d t k) t k
noncomputable def dby(d t:ByteArray)(k:Nat):ByteArray:=z1y (nb (dbs d t k)) (dbs d t k).length
theorem z8y(V L:Nat):(z1y V L).size=(L+7) /8:=by
 unfold z1y;rw[M.bstr_size,M.le_length]
theorem zeq(d t:ByteArray)(k:Nat):(dby d t k).size=((dbs d t k).length+7) /8:=z8y _ _
theorem zem(d t:ByteArray)(k:Nat):Tx.szs (dtk d t k)=t.size:=by
 unfold dtk
 split
 · exact zcU t t.size
 · have h:=zjV (Px.cutd d++t) (Px.Q.lv k) (Px.cutd d).size (0,0) (by rw[ByteArray.size_append];omega) (λh=>absurd rfl h)
   rw[h,ByteArray.size_append];omega
theorem zhs(d t:ByteArray)(k:Nat):(dtk d t k).length<=t.size:=by
 unfold dtk
 split
 · rw[Px.Q.lits_length];exact qR
 · have h:=Px.G_len (Px.cutd d++t) (Px.Q.lv k) (Px.cutd d).size (0,0) (λh=>absurd rfl h)
   rw[ByteArray.size_append] at h;omega
theorem dby_short(d t:ByteArray)(k:Nat)(ht:t.size<=65535):(dby d t k).size<=bnd t.size/\1<=(dby d t k).size:=by
 rw[zeq];refine⟨zab ht (zhs d t k) (zem d t k),?_⟩;have:=zd2 (L:=dtk d t k) (lv:=k) ht;unfold dbs;omega
theorem zbU(t:ByteArray):Px.cutd ⟨#[]⟩++t=t:=by
 rw[Px.cutd_all (by decide)];exact ByteArray.empty_append
theorem zen{t:ByteArray}{k:Nat}(h0:k≠0):dtk ⟨#[]⟩ t k=Px.G t (Px.Q.lv k) 0 (0,0):=by
 unfold dtk;rw[if_neg h0,zbU,Px.cutd_all (by decide)];rfl
theorem zbT:dbs ⟨#[]⟩ ⟨#[]⟩ 6=[1,1,0,0,0,0,0,0,0,0]:=by
 have h1:dtk ⟨#[]⟩ ⟨#[]⟩ 6=[]:=(by rw[zen (by decide)];exact Px.G_end (by decide));have h2:(kp [] ⟨#[]⟩ 0 0).1=1:=by
  unfold kp;rw[show seg [] 0 0=[] from rfl,show(⟨#[]⟩:ByteArray).extract (szt [] 0) (szt [] 0)=⟨#[]⟩ by simp[szt,Tx.szs];rfl,zfz]
 unfold dbs sbt;rw[h1,if_neg (by decide),zdm];simp only[prs,List.append_nil];unfold blq;simp only[h2];rw[show seg [] 0 0=[] from rfl,show(⟨#[]⟩:ByteArray).extract (szt [] 0) (szt [] 0)=⟨#[]⟩ by simp[szt,Tx.szs];rfl];rw[z0S (by decide)];unfold blk;rw[if_neg (by decide),if_pos rfl];decide+kernel
theorem dby_empty:dby ⟨#[]⟩ ⟨#[]⟩ 6=⟨#[3,0]⟩:=by
 unfold dby;rw[zbT];decide+kernel
end Go.Proofs.YthgilhebnlglkaaGreatDoor.V
namespace Go.Proofs.YthgilhebnlglkaaGreatDoor.Z
open Go Go.RowKit
def zl(i:Nat):Nat:=[0,0,1,1,1,1,2,3,3,3].getD i 0
theorem zjJ:∀i,i<=9->zl i<=3:=by decide
structure Zlv(w:World):Prop where
 at_:∀i,i<10->w.cell? ⟨0,i,none⟩=some (.int .u8 (zl i:Nat))
theorem Zlv.lt{w:World}(h:Zlv w): 0 <w.heap.size:=qB (h.at_ 0 (by omega))
theorem Zlv.keep{w w':World}(h:Zlv w)(hb:Below w.heap.size w w'):Zlv w':=⟨λi hi=>(hb.cell (p:=⟨0,i,none⟩) h.lt).trans (h.at_ i hi)⟩
theorem gLev: prog.globalNamed "platen/zlib.levels" =some 0 :=by kernel_rfl
theorem tLev:(prog.globals[0]?).map (·.type)=some 111 :=by kernel_rfl
theorem zca: prog.cellsOf 5 =1:=by kernel_rfl
theorem z62{W:World}{laid:List (String×DataW Unit)}(hl:laid=[("platen/zlib.levels",Rows.laid_platen_zlib_levels)])(h:laidMet prog laid W):Zlv W:=by
 subst hl;obtain⟨ps,⟨g0,t0,cs0,f0,p0,q0,hg0,ht0,hv0,hd0,_,_⟩,_⟩:=h;obtain rfl:=Option.some.inj (gLev.symm.trans hg0);obtain rfl:=Option.some.inj (tLev.symm.trans ht0);obtain⟨xs,m,_,hx,hlen,hn,hel⟩:=DataW.trod_array underlying111 hd0;simp only[Prod.mk.injEq] at hx;have hx1:=hx.1;have hxs:xs.map (·.1)=(List.range 10).map (λi=>(DataW.lit (.int .u8 (zl i:Nat)):DataW Unit)):=by
  unfold Rows.laid_platen_zlib_levels at hx1;injection hx1 with hx1
  rw[<-hx1];rfl
 have hcell:=λj=>World.var?_cell hg0 hv0 j
 refine⟨λi hi=> ?_⟩;have h1:=hel i hi;rw[zca,Nat.mul_one] at h1;have hy:xs[i]? =some xs[i]:=qE (by omega);rw[hy] at h1;have h2:(xs.map (·.1))[i]? =some (xs[i]).1:=(by rw[List.getElem?_map,hy];rfl);rw[hxs,List.getElem?_map,List.getElem?_range hi] at h2;injection h2 with h2
 obtain⟨n,hn1,hn2,_⟩:=DataW.trod_int underlying5 h1;have hq:(xs[i]).1=.lit (.int .u8 n):=(by rw[hn2]);rw[hq] at h2;injection h2 with h2
 injection h2 with _ h2
 rw[hcell i];have h3:(cs0.toList.drop i).head? =some (.int .u8 n):=by
  cases hz:cs0.toList.drop i with
  |nil=>rw[hz] at hn1;simp at hn1
  |cons v l=>rw[hz] at hn1;simp at hn1;simp[hn1]
 rw[List.head?_drop,Array.getElem?_toList] at h3;rw[h3,<-h2]
def Tabz(w:World):Prop:=Zlv w/\V.Tabx w
theorem Tabz.keep{w w':World}(h:Tabz w)(hb:Below w.heap.size w w'):Tabz w':=⟨h.1.keep hb,h.2.keep hb⟩
def pr(f:Nat):ByteArray:=⟨#[120,UInt8.ofNat ((30720+f+(31 - (30720+f)%31))%256)]⟩
def hdr(d:ByteArray)(k:Nat):ByteArray:=if d.size=0 then pr (64*zl k) else pr (64*zl k+32)++sb (adl 1 d)
noncomputable def wr(d t:ByteArray)(k:Nat):ByteArray:=hdr d k++V.dby d t k++sb (adl 1 t)
theorem zkk(w:World)(a b:Nat)(ha:a<256)(hb:b<256):
 (convert 26 9 (.slice (some ⟨w.heap.size,0,none⟩) 2 2)).run prog (w.alloc (.cells #[.int .u8 (a:Int),.int .u8 (b:Int)] 5))=.ok (.string ⟨#[UInt8.ofNat a,UInt8.ofNat b]⟩) (w.alloc (.cells #[.int .u8 (a:Int),.int .u8 (b:Int)] 5)):=by
 have hn:=heap_alloc_new w (.cells #[.int .u8 (a:Int),.int .u8 (b:Int)] 5);generalize hW:w.alloc (.cells #[.int .u8 (a:Int),.int .u8 (b:Int)] 5)=W at hn ⊢;have hc4:∀j,W.cell? ⟨w.heap.size,j,none⟩= #[Value.int .u8 (a:Int),.int .u8 (b:Int)][j]? :=λj=>by
  unfold World.cell?;simp only[hn];rfl
 have hR:I.Ry W w.heap.size 2 [UInt8.ofNat a,UInt8.ofNat b]:=by
  refine⟨qR,λj hj=> ?_,λj _=> ?_,λj u hu=> ?_,_,_,hn⟩
  · rw[hc4]
    have:j=0\/j=1:=(by omega);rcases this with rfl|rfl<;>rfl
  · simp[World.frozen?,hn]
  · rw[hc4]
    have hj:j<2:=(List.getElem?_eq_some_iff.1 hu).1;have:j=0\/j=1:=(by omega);have hq:∀x,x<256->((UInt8.ofNat x).toNat:Int)=(x:Int):=λx hx=>by rw[UInt8.toNat_ofNat'];omega
    rcases this with rfl|rfl
    · cases hu;rw[hq a ha];rfl
    · cases hu;rw[hq b hb];rfl
 exact V.Tx.conv_rb hR.rb 0 2 rfl (by decide) ⟨w.heap.size,0,none⟩ (c:=2) (λ_=>rfl)
theorem z7y(f:Nat)(w:World)(hf:f<=224):Calls prog 82 #[.int .u8 f] w λe w'=>e=.returned (.string (pr f))/\Below w.heap.size w w':=by
 have HN:=qH (λw=>(show Calls prog 98 #[.int .u8 120,.int .u8 f] w λe w'=>e=.returned (.int .u32 ((120*256+f:Nat):Int))/\w=w' from z40 120 f w (by decide) (by omega)));obtain⟨N,hN⟩:∃N,120*256+f=N:=⟨_,rfl⟩
 obtain⟨q,hq⟩:∃q,N%31=q:=⟨_,rfl⟩
 obtain⟨p,hp⟩:∃p,31 - q=p:=⟨_,rfl⟩
 obtain⟨M,hM⟩:∃M,N+p=M:=⟨_,rfl⟩
 obtain⟨y,hy⟩:∃y,M%256=y:=⟨_,rfl⟩
 have hpr:pr f=⟨#[UInt8.ofNat 120,UInt8.ofNat y]⟩:=by
  unfold pr;rw[show 30720+f=N by omega,hq,hp,hM,hy];rfl
 rw[hpr];have hc:(convert 26 9 (.slice (some ⟨w.heap.size,0,none⟩) 2 2)).run prog (w.alloc (.cells #[.int .u8 120,.int .u8 (y:Int)] 5))=.ok (.string ⟨#[UInt8.ofNat 120,UInt8.ofNat y]⟩) (w.alloc (.cells #[.int .u8 120,.int .u8 (y:Int)] 5)):=zkk w 120 y (by decide) (by omega);rw[hN] at HN;have h1:(N:Int)%31=(q:Int):=(by omega);have h1':Int.tmod (N:Int) 31=(q:Int):=(by rw[Int.tmod_eq_emod_of_nonneg (by omega)];exact h1);have h2:IntKind.u32.wrap (31 - (q:Int))=(p:Int):=(by rw[IntKind.wrap_u32'];omega);have h2':(31:Int) - (q:Int)=(p:Int):=(by omega);have h3':(N:Int)+(p:Int)=(M:Int):=(by omega);have h4:(M:Int) /2^8=120:=(by rw[show(2:Int)^8=256 from rfl];omega);have h4':(M:Int) /256=120:=(by omega);have h5:IntKind.u8.wrap (M:Int)=(y:Int):=(by rw[IntKind.wrap_u8'];omega);have HB:=qH ((Below.refl w.heap.size w).alloc qR (.cells #[.int .u8 120,.int .u8 (y:Int)] 5));have hM2:M<30976:=(by omega);clear hN hq hp hM hy hpr;go_enter func82,ntmps82;go_wp2_with (go_at_call 98;(with_reducible refine(HN.o _).mono ?_);rintro e w1 ⟨rfl,rfl⟩);go_ret;exact⟨rfl,HB.o⟩
theorem z2j(s:ByteArray)(w:World)(hs:s.size<=maxLen):Calls prog 39 #[.string s] w λe w'=>e=.returned (.string (sb (adl 1 s)))/\Below w.heap.size w w':=by
 have HA:=qH (λw=>z3u s w hs);have hn:adl 1 s<4294967296:=(by have:=z4f 1 s;unfold z13 at this;exact this);generalize hne:adl 1 s=n at hn ⊢;simp only[hne] at HA;obtain⟨h0,h1,h2,h3⟩:=z2e n hn;have hc:=zhy w _ _ _ _ h0 h1 h2 h3;have hs':(⟨#[UInt8.ofNat (n/16777216),UInt8.ofNat (n/65536%256),UInt8.ofNat (n/256%256),UInt8.ofNat (n%256)]⟩:ByteArray)=sb n:=rfl;rw[hs'] at hc;obtain⟨p0,e0⟩:∃p0,n/16777216=p0:=⟨_,rfl⟩
 obtain⟨q1,f1⟩:∃q1,n/65536=q1:=⟨_,rfl⟩
 obtain⟨q2,f2⟩:∃q2,n/256=q2:=⟨_,rfl⟩
 rw[e0,f1,f2] at hc;obtain⟨p1,e1⟩:∃p1,q1%256=p1:=⟨_,rfl⟩
 obtain⟨p2,e2⟩:∃p2,q2%256=p2:=⟨_,rfl⟩
 obtain⟨p3,e3⟩:∃p3,n%256=p3:=⟨_,rfl⟩
 rw[e1,e2,e3] at hc;have d0':(n:Int) /16777216=(p0:Int):=(by omega);have d1':(n:Int) /65536=(q1:Int):=(by omega);have d2':(n:Int) /256=(q2:Int):=(by omega);have u0:IntKind.u8.wrap (p0:Int)=(p0:Int):=(by rw[IntKind.wrap_u8'];omega);have u1:IntKind.u8.wrap (q1:Int)=(p1:Int):=(by rw[IntKind.wrap_u8'];omega);have u2:IntKind.u8.wrap (q2:Int)=(p2:Int):=(by rw[IntKind.wrap_u8'];omega);have u3:IntKind.u8.wrap (n:Int)=(p3:Int):=(by rw[IntKind.wrap_u8'];omega);have HB:=qH ((Below.refl w.heap.size w).alloc qR (.cells #[.int .u8 (p0:Int),.int .u8 (p1:Int),.int .u8 (p2:Int),.int .u8 (p3:Int)] 5));clear e0 f1 f2 e1 e2 e3 hs' hne;go_enter func39,ntmps39;go_wp2_with (go_at_call 40;(with_reducible refine(HA.o _).mono ?_);rintro e w1 ⟨rfl,rfl⟩);go_ret;exact⟨rfl,HB.o⟩
theorem zkz(x:Nat)(h:x<=3):Go.bits .or .u8 ((64*x:Nat):Int) 32=((64*x+32:Nat):Int):=by
 have h1:∀x:Fin 4,(64*x.val)|||32=64*x.val+32:=(by decide);have:=u8_or_nat (64*x) 32 (by omega) (by decide);rw[h1 ⟨x,by omega⟩] at this;exact this
theorem zjD(d:ByteArray)(h:d.size≠0):(d.toList==(⟨#[]⟩:ByteArray).toList)=false:=by
 rw[qN];intro q;rw[ByteArray.toList_eq,ByteArray.toList_eq] at q;apply h;show d.data.size=0
 rw[<-Array.length_toList,q];rfl
theorem za9(d:ByteArray)(h:d.size≠0):d.toList.isEmpty=false:=by
 rw[ByteArray.toList_eq];cases q:d.data.toList with
 |nil=>
  exfalso;apply h;show d.data.size=0
  rw[<-Array.length_toList,q];rfl
 |cons x l=>rfl
theorem zd1{d:ByteArray}(h:d.size=0):d=⟨#[]⟩:=ByteArray.ext (Array.eq_empty_of_size_eq_zero h)
theorem zea(d:ByteArray)(k:Nat)(w:World)(H:Zlv w)(hk:k<=9)(hd:d.size<=maxLen):Calls prog 38 #[.string d,.int .i64 k] w λe w'=>e=.returned (.string (hdr d k))/\Below w.heap.size w w':=by
 have c0:=H.at_ k (by omega);have hz:=zjJ k hk;unfold hdr;generalize hze:zl k=z at c0 hz ⊢;have w1:IntKind.u8.wrap ((z:Int)*2^6)=((64*z:Nat):Int):=(by rw[IntKind.wrap_u8',show(2:Int)^6=64 from rfl];omega);have w1':IntKind.u8.wrap ((z:Int)*64)=((64*z:Nat):Int):=(by rw[IntKind.wrap_u8'];omega);have w2:(z:Int)*64%256=((64*z:Nat):Int):=(by omega);by_cases h0:d.size=0
 · rw[if_pos h0]
   obtain rfl:=zd1 h0;have HP:=qH (λw=>z7y (64*z) w (by omega));obtain⟨F,hF⟩:∃F,64*z=F:=⟨_,rfl⟩
   rw[hF] at w1 w1' w2;simp only[hF] at HP ⊢;have w3:(z:Int)*64=(F:Int):=(by omega);clear H hze h0 hF;go_enter func38,ntmps38;go_wp2_with (go_at_call 82;(with_reducible refine(HP.o _).mono ?_);rintro e w1 ⟨rfl,b1⟩;have B1:=qH b1;clear b1);go_ret;exact⟨rfl,B1.o⟩
 · rw[if_neg h0]
   have hne2:d.toList.isEmpty=false:=za9 d h0;have ho:=zkz z hz;have HP:=qH (λw=>z7y (64*z+32) w (by omega));have HS:=qH (λw=>z2j d w hd);obtain⟨G,hG⟩:∃G,64*z+32=G:=⟨_,rfl⟩
   obtain⟨F,hF⟩:∃F,64*z=F:=⟨_,rfl⟩
   rw[hG,hF] at ho;rw[hF] at w1 w1' w2;simp only[hG] at HP ⊢;obtain⟨P,hP⟩:∃P,pr G=P:=⟨_,rfl⟩
   obtain⟨S,hS⟩:∃S,sb (adl 1 d)=S:=⟨_,rfl⟩
   have hPs:P.size=2:=(by rw[<-hP];rfl);have hSs:S.size=4:=(by rw[<-hS];rfl);simp only[hP] at HP ⊢;simp only[hS] at HS ⊢;have w3:(z:Int)*64=(F:Int):=(by omega);clear H hze h0 hF hG hP hS;go_enter func38,ntmps38
   go_wp2_with (first
    |(go_at_call 82;(with_reducible refine(HP.o _).mono ?_);rintro e w1 ⟨rfl,b1⟩;have B1:=qH b1;clear b1)
    |(go_at_call 39;(with_reducible refine qcb B1 (HS.o _) ?_);intro w2 B2))
   go_ret;exact⟨rfl,B2.o⟩
theorem zeb(d:ByteArray)(k:Nat):(hdr d k).size=if d.size=0 then 2 else 6:=by
 unfold hdr
 split
 · rfl
 · rw[ByteArray.size_append];rfl
theorem zcF(d t:ByteArray)(k:Nat)(most:Int)(w:World)(hD:Calls prog 37 #[.string d,.string t,.int .i64 k,.int .i64 most] w λe w'=>e=.returned (.tuple #[.string (V.dby d t k),.int .i64 0])/\Below w.heap.size w w')(hZ:∀w',Below w.heap.size w w'->Zlv w')(hd:d.size<=100000)(ht:t.size<=30000)(hk:k<=9)(hm:most<=9223372036854775807)(hw:((wr d t k).size:Int)<=most):
 Calls prog 13 #[.string d,.string t,.int .i64 k,.int .i64 most] w λe w'=>e=.returned (.tuple #[.string (wr d t k),.int .i64 0])/\Below w.heap.size w w':=by
 have hsz:(wr d t k).size=(hdr d k).size+(V.dby d t k).size+4:=(by unfold wr;rw[ByteArray.size_append,ByteArray.size_append];rfl);have hh:=zeb d k;have hsh:=(V.dby_short d t k (by omega)).1;have hbn:V.bnd t.size<=40000:=(by unfold V.bnd;split<;>omega);have hh6:(hdr d k).size<=6:=(by rw[hh];split<;>omega);have HD:=qH hD;have HH:=qH (λ(w':World) (b:Below w.heap.size w w')=>zea d k w' (hZ w' b) hk (by unfold maxLen;omega));have HS:=qH (λw=>z2j t w (by unfold maxLen;omega));have hwr:wr d t k=hdr d k++V.dby d t k++sb (adl 1 t):=rfl;obtain⟨X,hX⟩:∃X,V.dby d t k=X:=⟨_,rfl⟩
 obtain⟨Y,hY⟩:∃Y,hdr d k=Y:=⟨_,rfl⟩
 obtain⟨S,hS⟩:∃S,sb (adl 1 t)=S:=⟨_,rfl⟩
 have hSs:S.size=4:=(by rw[<-hS];rfl);rw[hwr] at hw hsz ⊢;rw[hX,hY,hS] at hw hsz ⊢;rw[hX] at HD hsh;rw[hY] at hh6;simp only[hY] at HH;simp only[hS] at HS;have x1:Y.size+X.size<=9223372036854775807:=(by omega);have x2:(Y++X).size+S.size<=9223372036854775807:=(by rw[ByteArray.size_append];omega);have x4:(Y++X++S).size=Y.size+X.size+S.size:=(by rw[ByteArray.size_append,ByteArray.size_append]);have x6:decide (most<(Y.size:Int)+(X.size:Int)+4)=false:=qF (by omega);clear hD hZ hsz hh hsh hbn hwr hX hY hS hw;go_enter func13,ntmps13
 go_wp2_with (first
  |(go_at_call 37;(with_reducible refine HD.o.mono ?_);rintro e w1 ⟨rfl,b1⟩;have B1:=qH b1;clear b1)
  |(go_at_call 38;(with_reducible refine qcb B1 (HH.o _ B1.o) ?_);intro w2 B2)
  |(go_at_call 39;(with_reducible refine qcb B2 (HS.o _) ?_);intro w3 B3))
 go_ret2;exact⟨rfl,B3.o⟩
