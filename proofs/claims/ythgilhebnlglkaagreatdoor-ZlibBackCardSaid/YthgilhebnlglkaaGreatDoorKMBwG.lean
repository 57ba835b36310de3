import Derived.Test.YthgilhebnlglkaaGreatDoorKMRns
import Derived.Test.YthgilhebnlglkaaGreatDoorKMPkE
import Derived.Lib.ConvBytes
import Derived.StillTailTactics
import Derived.Deep.CutRange
set_option linter.all false
open Go.Proofs.Tryz
namespace Go.Proofs.YthgilhebnlglkaaGreatDoor
namespace V
open Go Go.RowKit M U
def two(a b:Value)(i:Nat):Value:=if i=0 then a else b
def C2(w:World)(g:Nat)(a b:Value):Prop:=w.rowIs g 149 2 (two a b)
section
variable {w w':World} {g:Nat} {a b:Value}
theorem C2.new(w:World)(a b:Value):C2 (w.alloc (.cells #[a,b] 149)) w.heap.size a b:=⟨#[a,b],heap_alloc_new _ _,rfl,λi hi=>by
 match i,hi with
 |0,_=>rfl
 |1,_=>rfl⟩
theorem C2.at0(h:C2 w g a b):w.cell? ⟨g,0,none⟩=some a:=World.rowIs.cell h (i:=0) (by omega)
theorem C2.at1(h:C2 w g a b):w.cell? ⟨g,1,none⟩=some b:=World.rowIs.cell h (i:=1) (by omega)
theorem C2.frozen(h:C2 w g a b)(i:Nat):w.frozen? ⟨g,i,none⟩=false:=World.rowIs.frozen h i
theorem C2.put(h:C2 w g a b)(c d:Value):C2 ((w.setCell ⟨g,0,none⟩ c).setCell ⟨g,1,none⟩ d) g c d:=
 World.rowIs.congr (World.rowIs.set (World.rowIs.set h 0 c) 1 d) (λj e=>by
  match j,e with
  |0,_=>rfl
  |1,_=>rfl)
theorem C2.row(h:C2 w g a b):w.heap[g]? =some (.cells #[a,b] 149 (0,0)):=by
 obtain⟨c,e,f,d⟩:=h;have:c= #[a,b]:=by
  apply Cl
  intro i
  match i with
  |0=>exact d 0 (by omega)
  |1=>exact d 1 (by omega)
  |i+2=>rw[AT (by omega),AT (by simp)]
 rw[e,this]
end
theorem kW:(prog.info? 149).map (λi=>i.size)=some 2:=by kernel_rfl
def fxl(j:Nat):Nat:=if j<144 then 8 else if j<256 then 9 else if j<280 then 7 else 8
section
variable {w0 w:World} {cb la da:Nat} {f g:Nat->Nat}
end
def cs(b:Bool):List Sy->Nat->Nat
 |[],_=>0
 |y::S,j=>cs b S j+if y.d=b/\y.n=j then 1 else 0
theorem fI(b:Bool):∀ (S T:List Sy) (j:Nat),cs b (S++T) j=cs b S j+cs b T j
 |[],T,j=>by simp[cs]
 |y::S,T,j=>by simp only[Ac,cs,fI b S T j];omega
theorem kS(b:Bool):∀ (S:List Sy) (j:Nat),cs b S j<=S.length
 |[],j=>qR
 |y::S,j=>by have:=kS b S j;simp only[cs,qC];split<;>omega
theorem sJ{L:List Tk}(j:∀t∈L,may t=true)(k:∀t∈L,t.ok):∀y∈sys L,(y.d=false->y.n<286)/\(y.d=true->y.n<30):=by
 intro y hy;unfold sys at hy;rw[AH,Cg] at hy;rcases hy with⟨t,e,hy⟩|hy
 · have c:=j t e
   have s:=(k t e).l;unfold sy1 at hy
   split at hy
   · simp only[Bc] at hy
     subst hy;exact⟨λ_=>by simp only;omega,λh=>by cases h⟩
   · rename_i m
     have o:isM t=true:=by
      unfold may at c;rw[Cp] at c;rcases c with q|q
      · exact absurd (isB_iff.1 q).1 m
      · exact q
     have i:=isM_iff.1 o;have r:=(fA (n:=t.n.toNat) (by omega)).1;have p:=(dh (n:=t.d.toNat) (by omega)).1;simp only[Ab,BH,BI] at hy;rcases hy with rfl|rfl
     · exact⟨λ_=>by simp only;omega,λh=>by cases h⟩
     · exact⟨λh=>(by cases h),λ_=>by simp only;omega⟩
 · simp only[Bc] at hy
   subst hy;exact⟨λ_=>by simp only;omega,λh=>by cases h⟩
theorem fj(L:List Tk):(sys L).length<=2*L.length+1:=by
 unfold sys;rw[qA,Bn];have:=uW L;omega
theorem aX{P:Program}{fn:Func}{p u:Tmp}{ty:TypeId}(h:fn.results= #[.cell p ty,.tmp u])(tmps:Array Value)(w:World)(g:Nat)(t:TypeId)(cs:Array Value)(fr:Nat×Nat)(d:TypeDesc)
 (e:tmps.getD p undef=.pointer (some ⟨g,0,none⟩)) (i:w.heap[g]? =some (.cells cs t fr))
 (k:P.underlying ty=some d) (j:(match d with|.struct _|.array _ _=>true|_=>false)=true) (hi:(P.info? ty).map (·.size)=some cs.size):
 (results fn tmps).run P w=.ok (.tuple #[.agg cs,tmps.getD u undef]) w:=by
 have c:tmps[p]?.getD undef=.pointer (some ⟨g,0,none⟩):=(by simpa using e);simp[results,h,c,asAddr,run_loadVar_row w g t ty cs fr d i k j hi,Sem.run_bind]
section
variable {w0 w:World} {lb db bs:Nat} {v:Value} {S:List Sy} {f g:Nat->Nat}
end
def wsy(l1:Nat->Nat)(n1:Nat)(l2:Nat->Nat)(n2:Nat)(y:Sy):List Nat:=(if y.d=true then cdb (cod l2 n2 y.n) (l2 y.n) else cdb (cod l1 n1 y.n) (l1 y.n))++put y.e y.b
structure rK(l:Nat->Nat)(n:Nat):Prop where
 may:May l n
 wt:aa l n<=32768
 byte:∀i,l i<=255
theorem rK.erc{l:Nat->Nat}{n:Nat}(h:rK l n):M.erc l n=0/\hH l n=n:=by
 have e:=bj h.may;have i:=h.wt;have d:kind l n≠5/\kind l n≠4:=by
  rw[e];constructor
  · split
    · omega
    · split
      · omega
      · split
        · omega
        · split<;>omega
  · split
    · omega
    · split
      · omega
      · split
        · omega
        · split<;>omega
 have c:M.erc l n=0:=(by unfold M.erc;rw[A0 d.1,A0 d.2]);exact⟨c,by unfold hH;rw[A7 c]⟩
theorem Crow.at'{w w':World}{b n:Nat}{F G:Nat->Nat}(h:C.Crow w b n F G)(e:w'.heap[b]? =w.heap[b]?):C.Crow w' b n F G:=by
 obtain⟨c,d,i⟩:=h;exact⟨c,e.trans d,i⟩
section
variable {B P ba n1 bb n2 Z sb q c:Nat} {w w':World} {v v':Value} {bs bs':List Nat} {l1 l2:Nat->Nat} {S:List Sy}
end
theorem xd{L:List Tk}(k:∀t∈L,may t=true):∀y∈sys L,y.b<=13/\y.e<=32768:=by
 intro y hy;unfold sys at hy;rw[AH,Cg] at hy;rcases hy with⟨t,m,hy⟩|hy
 · have h:=k t m
   unfold sy1 at hy
   split at hy
   · simp only[Bc] at hy
     subst hy;simp
   · rename_i p
     have l:isM t=true:=by
      unfold may at h;rw[Cp] at h;rcases h with q|q
      · exact absurd (isB_iff.1 q).1 p
      · exact q
     have j:=isM_iff.1 l;have o:=(fA (n:=t.n.toNat) (by omega)).1;have i:=(dh (n:=t.d.toNat) (by omega)).1;have r:=GP _ o;have u:=Hv _ i;have s:lex t.n.toNat<=t.n.toNat:=Nat.sub_le _ _;have x:dex t.d.toNat<=t.d.toNat:=Nat.sub_le _ _;simp only[Ab,BH,BI] at hy;rcases hy with rfl|rfl
     · exact⟨by simp only;omega,by simp only;omega⟩
     · exact⟨by simp only;omega,by simp only;omega⟩
 · simp only[Bc] at hy
   subst hy;simp
theorem Fb(l1:Nat->Nat)(n1:Nat)(l2:Nat->Nat)(n2:Nat)(y:Sy)(d:l1 y.n<=255)(e:l2 y.n<=255)(h:y.b<=13):(wsy l1 n1 l2 n2 y).length<=268:=by
 unfold wsy;rw[qA,put_length]
 split<;>rw[cdb_length]<;>omega
theorem iE(l1:Nat->Nat)(n1:Nat)(l2:Nat->Nat)(n2:Nat)(d:∀i,l1 i<=255)(e:∀i,l2 i<=255):∀ (S:List Sy),(∀y∈S,y.b<=13)->(S.flatMap (wsy l1 n1 l2 n2)).length<=268*S.length
 |[],_=>by simp
 |y::S,hS=>by
  rw[AZ,qA,qC];have:=Fb l1 n1 l2 n2 y (d _) (e _) (hS y (by simp));have:=iE l1 n1 l2 n2 d e S (λz h=>hS z (by simp[h]));omega
def Rok(r:Rn):Prop:=r.s<=18/\r.e<=127
theorem IC(n:Nat):∀r∈zrs n,Rok r:=by
 induction n using Nat.strongRecOn with
 |_ n ih=>
  intro r hr;by_cases h:11<=n
  · rw[bB h,Ab] at hr
    rcases hr with rfl|hr
    · exact⟨qR,by simp only;omega⟩
    · exact ih _ (by omega) r hr
  · by_cases d:3<=n
    · rw[bA h d,Bc] at hr
      subst hr;exact⟨by simp only;omega,by simp only;omega⟩
    · rw[aV d] at hr
      rw[BD hr];exact⟨by simp only;omega,by simp only;omega⟩
theorem Gk(v:Nat)(d:v<=15)(n:Nat):∀r∈qs v n,Rok r:=by
 induction n using Nat.strongRecOn with
 |_ n ih=>
  intro r hr;by_cases h:3<=n
  · rw[bf h,Ab] at hr
    rcases hr with rfl|hr
    · exact⟨by simp only;omega,by simp only;omega⟩
    · exact ih _ (by omega) r hr
  · rw[bE h] at hr
    rw[BD hr];exact⟨by simp only;omega,by simp only;omega⟩
theorem pk_ok:∀l:List Nat,(∀v∈l,v<=15)->∀r∈pk l,Rok r:=by
 intro l;generalize h:l.length=n
 induction n using Nat.strongRecOn generalizing l with
 |_ n ih=>
  cases l with
  |nil=>intro _ r hr;rw[gY] at hr;cases hr
  |cons v l=>
   intro d r hr;rw[aZ,AH] at hr;have i:=d v (by simp);rcases hr with hr|hr
   · unfold one at hr
     split at hr
     · exact IC _ r hr
     · unfold oth at hr
       rw[Ab] at hr;rcases hr with rfl|hr
       · exact⟨by simp only;omega,by simp only;omega⟩
       · exact Gk v i _ r hr
   · rw[qC] at h
     exact ih (l.drop (ru v l)).length (by rw[AF];omega) _ rfl (λx e=>d x (by simp[BV e])) r hr
def rbn(s:Nat):Nat:=if s<16 then 0 else if s=16 then 2 else if s=17 then 3 else 7
theorem ts(s:Nat):rbn s<=7:=by
 unfold rbn
 repeat' split
 all_goals omega
theorem Jc{s:Nat}(h:s<=18):rbs s=((rbn s:Nat):Int):=by
 unfold rbs rbn
 split
 · rfl
 · split
   · rfl
   · split
     · rfl
     · rw[A7 (by omega)];rfl
def rc:List Rn->Nat->Nat
 |[],_=>0
 |y::S,j=>rc S j+if y.s=j then 1 else 0
theorem kj:∀ (S T:List Rn) (j:Nat),rc (S++T) j=rc S j+rc T j
 |[],T,j=>by simp[rc]
 |y::S,T,j=>by simp only[Ac,rc,kj S T j];omega
theorem Ga:∀ (S:List Rn) (j:Nat),rc S j<=S.length
 |[],j=>qR
 |y::S,j=>by have:=Ga S j;simp only[rc,qC];split<;>omega
theorem G9(S:List Rn)(k:Nat)(d:k<S.length)(j:Nat):rc (S.take (k+1)) j=rc (S.take k) j+if(S.getD k default).s=j then 1 else 0:=by
 rw[Bd,List.getD,qE d,kj];simp[rc]
def wrn(l:Nat->Nat)(x:Rn):List Nat:=cdb (cod l 19 x.s) (l x.s)++put x.e (rbn x.s)
def inl(l:Nat->Nat):List Nat:=ord.map l
def dyb(x1 x2:List Nat)(r:List Rn)(l:Nat->Nat):List Nat:=
 put (upt x1 257 - 257) 5++put (upt x2 1 - 1) 5++put (upt (inl l) 4 - 4) 4++((inl l).take (upt (inl l) 4)).flatMap (λx=>put x 3)++r.flatMap (wrn l)
theorem upt_le(l:List Nat)(a:Nat):a<=upt l a/\upt l a<=max a l.length:=by
 have:=jJ l a l.length;unfold upt;exact this
section
variable {B P Zi Zr gl:Nat} {w w':World} {v v' vi vr:Value} {bs bs' l:List Nat} {r:List Rn} {f:Nat->Nat}
end
theorem Fc(l:Nat->Nat)(d:∀s,l s<=7)(r:List Rn):(r.flatMap (wrn l)).length<=14*r.length:=by
 induction r with
 |nil=>simp
 |cons x r ih=>
  rw[AZ,qA,qC];have:(wrn l x).length<=14:=by
   unfold wrn;rw[qA,cdb_length,put_length];have:=d x.s;have:=ts x.s;omega
  omega
theorem put3_len(l:List Nat):(l.flatMap (λx=>put x 3)).length=3*l.length:=by
 induction l with
 |nil=>rfl
 |cons x r ih=>rw[AZ,qA,qC,put_length,ih];omega
theorem rK.of_kind{l:Nat->Nat}{n:Nat}(d:May l n)(h:∀i,l i<=255)(e:kind l n<=2):rK l n:=by
 refine⟨d,?_,h⟩;rcases By 32768 (aa l n) with g|g
 · rw[bj d,A0 (by omega),A7 g] at e
   omega
 · exact g
theorem ie(f:Nat->Nat):(inl f).length=19:=by unfold inl;rw[Ah];rfl
noncomputable def hfl(c:Nat->Nat)(n L:Nat):Nat->Nat:=pl (qx c n).choose (qx c n).choose_spec.choose L
noncomputable def hfm(c:Nat->Nat)(n:Nat):Nat:=(qx c n).choose
noncomputable def hfe(c:Nat->Nat)(n:Nat):Nat->Nat×Nat:=(qx c n).choose_spec.choose
theorem hfl_eq(c:Nat->Nat)(n L:Nat):hfl c n L=pl (hfm c n) (hfe c n) L:=rfl
theorem hf_lv(c:Nat->Nat)(n:Nat):gJ c n (hfm c n) (hfe c n):=(qx c n).choose_spec.choose_spec
theorem hf_nds(c:Nat->Nat){n L:Nat}(d:1<=L)(e:n<=2^L):nds (hfm c n)<=L:=(ib d).2 (qK (hf_lv c n).le e)
theorem hfl_le(c:Nat->Nat){n L:Nat}(d:1<=L)(e:n<=2^L)(s:Nat):hfl c n L s<=L:=xN (hf_lv c n) (hf_nds c d e) d s
theorem hfl_fine(c:Nat->Nat){n L:Nat}(e:1<=L)(h:L<=15)(j:n<=2^L)(d:n<=320):rK (hfl c n L) n:=
 rK.of_kind (E9 (hf_lv c n) d (hf_nds c e j) e h) (λi=>qK (hfl_le c e j i) (by omega)) (by
  rw[hfl_eq,m8 (hf_lv c n) d (hf_nds c e j) e h]
  split
  · omega
  · split<;>omega)
theorem oU:rK fxl 288:=⟨⟨by decide,λi _=>by unfold fxl;split<;>(try split)<;>(try split)<;>omega⟩,by decide+kernel,λi=>by unfold fxl;split<;>(try split)<;>(try split)<;>omega⟩
theorem qS:rK (λ_=>5) 30:=⟨⟨by decide,λi _=>by show 5<=15;decide⟩,by decide+kernel,λi=>by show 5<=255;decide⟩
noncomputable def ll1(L:List Tk):Nat->Nat:=hfl (cs false (sys L)) 286 15
noncomputable def ll2(L:List Tk):Nat->Nat:=hfl (cs true (sys L)) 30 15
noncomputable def lx1(L:List Tk):List Nat:=(List.range 286).map (ll1 L)
noncomputable def lx2(L:List Tk):List Nat:=(List.range 30).map (ll2 L)
noncomputable def rrs(L:List Tk):List Rn:=pk ((lx1 L).take (upt (lx1 L) 257)++(lx2 L).take (upt (lx2 L) 1))
noncomputable def ll3(L:List Tk):Nat->Nat:=hfl (rc (rrs L)) 19 7
noncomputable def hdd(L:List Tk):List Nat:=dyb (lx1 L) (lx2 L) (rrs L) (ll3 L)
def sfx(L:List Tk):List Nat:=(sys L).flatMap (wsy fxl 288 (λ_=>5) 30)
noncomputable def sbs(L:List Tk):List Nat:=(sys L).flatMap (wsy (ll1 L) 286 (ll2 L) 30)
noncomputable def blk(k:Nat)(L:List Tk)(raw:ByteArray)(last:Bool)(o:Nat):List Nat:=
 if k=0 then stb o raw last else if k=1 then hdb 1 last++sfx L else hdb 2 last++hdd L++sbs L
noncomputable def bkm(k:Nat)(L:List Tk)(raw:ByteArray)(last:Bool)(o:Nat):List Nat:=if k=0 then stm o raw last else blk k L raw last o
theorem zG{k:Nat}{L:List Tk}{d:ByteArray}{last:Bool}{o:Nat}(h:k=0->d.size<=65535):bkm k L d last o=blk k L d last o:=by
 unfold bkm
 split
 · rename_i e;rw[e,lN (h e)];unfold blk;rw[A7 rfl]
 · rfl
theorem bkm_blk{k:Nat}{L:List Tk}{d:ByteArray}{last:Bool}{o:Nat}(h:d.size<=65535):bkm k L d last o=blk k L d last o:=zG (λ_=>h)
theorem IsBys.of_br{w:World}{g n:Nat}{f:Nat->Nat}(h:Br w g n f)(e:n<=1000)(hf:∀i,f i<=255):IsBys w (some ⟨g,0,none⟩) n ((List.range n).map f):=
 ⟨by simp,by unfold maxLen;omega,λx d=>by
  obtain⟨i,_,rfl⟩:=Ay.1 d;exact hf i,.inr ⟨g,0,rfl,h.lt,λi x d=>by
  have hi:i<n:=by
   have:=(An.1 d).1
   simpa using this
  rw[Am,Bj hi] at d;simp only[Option.map_some,Option.some.injEq] at d;rw[<-d,Aa];exact h.cell hi⟩⟩
theorem rrs_len(L:List Tk):(rrs L).length<=316:=by
 unfold rrs;refine qK (og _) ?_
 rw[qA,Af,Af];have d:(lx1 L).length=286:=(by unfold lx1;simp);have e:(lx2 L).length=30:=(by unfold lx2;simp);omega
theorem GX(L:List Tk):(hdd L).length<=5000:=by
 unfold hdd dyb;simp only[qA,put_length,put3_len,Af];have d:=Fc (ll3 L) (λs=>hfl_le _ (by decide) (by decide) s) (rrs L);have e:=rrs_len L;have h:=ie (ll3 L);omega
def smb:List Sy->Nat
 |[]=>0
 |y::S=>y.b+smb S
theorem pM(l1:Nat->Nat)(n1:Nat)(l2:Nat->Nat)(n2:Nat)(y:Sy):(wsy l1 n1 l2 n2 y).length=(if y.d=true then l2 y.n else l1 y.n)+y.b:=by
 unfold wsy;rw[qA,put_length]
 split<;>rw[cdb_length]
theorem jh(l1:Nat->Nat)(n1:Nat)(l2:Nat->Nat)(n2:Nat):∀S:List Sy,(S.flatMap (wsy l1 n1 l2 n2)).length=wgh l1 l2 S
 |[]=>rfl
 |y::S=>by rw[AZ,qA,pM,jh l1 n1 l2 n2 S];rfl
theorem jG(l1 l2:Nat->Nat):∀S:List Sy,(∀y∈S,(y.d=false->y.n<286)/\(y.d=true->y.n<30))->wgh l1 l2 S=sm (λs=>l1 s*cs false S s) 286+sm (λs=>l2 s*cs true S s) 30+smb S
 |[],_=>by simp[wgh,smb,cs,dd]
 |y::S,h=>by
  have k:=jG l1 l2 S (λz m=>h z (AK _ m));have e:=h y Aq;have j:∀b (l:Nat->Nat) n,sm (λs=>l s*cs b (y::S) s) n=sm (λs=>l s*cs b S s) n+sm (λs=>if y.n=s then(if y.d=b then l s else 0) else 0) n:=λb l n=>by
   rw[<-jV];refine sm_congr n (λs _=> ?_);simp only[cs];by_cases q:y.n=s
   · by_cases r:y.d=b
     · rw[A7 ⟨r,q⟩,A7 q,A7 r,BR,Bq]
     · rw[A0 (λg=>r g.1),A7 q,A0 r,AI,AI]
   · rw[A0 (λg=>q g.2),A0 q,AI,AI]
  rw[j,j];unfold wgh smb;rw[k];cases i:y.d with
  |false=>
   rw[FN (λs=>if(false:Bool)=false then l1 s else 0) (e.1 i)];simp only[if_true,Bool.false_eq_true,if_false,ite_self,dd];omega
  |true=>
   rw[FN (λs=>if(true:Bool)=true then l2 s else 0) (e.2 i)];simp only[if_true,Bool.true_eq_false,if_false,ite_self,dd];omega
theorem fxl_in(s:Nat):1<=fxl s/\fxl s<=15:=by unfold fxl;split<;>(try split)<;>(try split)<;>omega
theorem vC(b:Bool):∀ (S:List Sy) (y:Sy),y∈S->y.d=b->0<cs b S y.n
 |x::S,y,h,hb=>by
  simp only[cs];rcases Ab.1 h with rfl|g
  · rw[A7 ⟨hb,rfl⟩];omega
  · have:=vC b S y g hb;omega
theorem has_code(L:List Tk)(j:∀t∈L,may t=true)(i:∀t∈L,t.ok){y:Sy}(e:y∈sys L):(y.d=false->ll1 L y.n≠0)/\(y.d=true->ll2 L y.n≠0):=by
 have hs:=sJ j i y e;refine⟨λh q=> ?_,λh q=> ?_⟩
 · have:=(de (hf_lv (cs false (sys L)) 286) (hf_nds _ (by decide) (by decide)) (by decide:1<=15) (hs.1 h)).1 q
   have:=vC false _ y e h;omega
 · have:=(de (hf_lv (cs true (sys L)) 30) (hf_nds _ (by decide) (by decide)) (by decide:1<=15) (hs.2 h)).1 q
   have:=vC true _ y e h;omega
theorem rc_pos:∀ (S:List Rn) (y:Rn),y∈S->0<rc S y.s
 |x::S,y,h=>by
  simp only[rc];rcases Ab.1 h with rfl|g
  · rw[A7 rfl];omega
  · have:=rc_pos S y g;omega
theorem xx(L:List Tk):∃r S,rrs L=r::S/\r.s<19:=by
 obtain⟨l,h⟩:∃l,(lx1 L).take (upt (lx1 L) 257)++(lx2 L).take (upt (lx2 L) 1)=l:=⟨_,rfl⟩
 have k:(lx1 L).length=286:=(by unfold lx1;simp);have d:∀v∈l,v<=15:=λv d=>by
  rw[<-h] at d;rcases AH.1 d with g|g
  · obtain⟨i,_,rfl⟩:=Ay.1 (AO g)
    exact hfl_le _ (by decide) (by decide) i
  · obtain⟨i,_,rfl⟩:=Ay.1 (AO g)
    exact hfl_le _ (by decide) (by decide) i
 have j:257<=l.length:=by
  rw[<-h,qA,Af,k];have:=(upt_le (lx1 L) 257).1;omega
 have o:rrs L=pk l:=(by unfold rrs;rw[h]);have e:=zW (n:=l.length) (L:=[]) l [] (λv g=>by have:=d v g;omega) (by simp);have m:=pk_ok l d;rw[o]
 match hq:pk l with
 |[]=>
  rw[hq] at e;simp only[Az,Ap,unp,AB] at e;rw[A7 (by omega),A0 (by omega)] at e;cases e
 |r::S=>exact⟨r,S,rfl,by have:=(m r (by rw[hq];exact Aq)).1;omega⟩
theorem yV(L:List Tk):14+4*3<(hdd L).length:=by
 have h:=ie (ll3 L);have k:=upt_le (inl (ll3 L)) 4;obtain⟨r,S,d,hs⟩:=xx L;have e:0<rc (rrs L) r.s:=rc_pos _ _ (by rw[d];exact Aq);have i:ll3 L r.s≠0:=λq=>by
  have:=(de (hf_lv (rc (rrs L)) 19) (hf_nds _ (by decide) (by decide)) (by decide:1<=7) hs).1 q;omega
 have j:1<=((rrs L).flatMap (wrn (ll3 L))).length:=by
  rw[d,AZ,qA];unfold wrn;rw[qA,cdb_length];omega
 unfold hdd dyb;simp only[qA,put_length,put3_len,Af];omega
def nb:List Nat->Nat
 |[]=>0
 |b::l=>b+2*nb l
theorem nb_append:∀l r:List Nat,nb (l++r)=nb l+nb r*2^l.length
 |[],r=>by simp[nb]
 |b::l,r=>by
  simp only[Ac,nb,nb_append l r,qC,AN];rw[BR,<-Ba,Ao 2 (nb r),Ba,Ao 2 (2^l.length)];omega
theorem nb_lt:∀l:List Nat,(∀x∈l,x<=1)->nb l<2^l.length
 |[],_=>by simp[nb]
 |b::l,h=>by
  have e:=h b Aq;have i:=nb_lt l (λx d=>h x (AK _ d));simp only[nb,qC,AN];omega
theorem p8(i:Nat):(256:Nat)^i=2^(8*i):=by rw[Nat.pow_mul]
theorem nb_put(n:Nat):∀k,nb (put n k)=n%2^k
 |0=>by simp[put,nb,CK]
 |k+1=>by
  rw[xH,nb_append,nb_put n k,put_length,Nat.mod_pow_succ];simp only[nb,Nat.mul_zero,AI];rw[Ao (2^k)]
theorem aY(n k:Nat):∀x∈put n k,x<=1:=λx d=>by
 obtain⟨i,_,rfl⟩:=Ay.1 d;have:=AR (n/2^i) (show 0<2 by decide);omega
theorem vO(c s:Nat):∀x∈cdb c s,x<=1:=λx d=>by
 obtain⟨i,_,rfl⟩:=Ay.1 d;have:=AR (c/2^(s - 1 - i)) (show 0<2 by decide);omega
theorem mF(kind:Nat)(last:Bool):∀x∈hdb kind last,x<=1:=λx d=>by
 unfold hdb at d;rcases AH.1 d with g|g
 · exact aY _ _ x g
 · exact aY _ _ x g
theorem sN:∀ (f:Nat) (o:Nat) (s:ByteArray) (last:Bool),s.size<=65535*(f+1)->(stm o s last).length<=8*s.size+42*(f+1)
 |f,o,s,last,h=>by
  have d:∀n,pd n<=7:=λn=>by unfold pd;omega
  by_cases e:s.size<=65535
  · rw[lN e,stb_length]
    have:=d (o+3);omega
  · have k:(s.extract 0 65535).size=65535:=by rw[Ae];omega
    have j:(s.extract 65535 s.size).size=s.size - 65535:=(by rw[Ae];omega);have:=d (o+3);rw[nM e,qA];have m:(stb o (s.extract 0 65535) false).length=3+pd (o+3)+32+65535*8:=by rw[stb_length,k]
    match f with
    |0=>omega
    |f+1=>
     have i:=sN f (o+(stb o (s.extract 0 65535) false).length) (s.extract 65535 s.size) last (by omega);rw[j] at i;omega
theorem zB(k:Nat)(L:List Tk)(d:ByteArray)(last:Bool)(o:Nat)(p:k=0->d.size<=70000)(s:L.length<=30000)(m:k≠0->∀t∈L,may t=true):(blk k L d last o).length<=20000000:=by
 have hs:=fj L;unfold blk;by_cases e:k=0
 · rw[A7 e,stb_length]
   have n:=p e;have:pd (o+3)<=7:=(by unfold pd;omega);omega
 · rw[A0 e]
   have h:∀y∈sys L,y.b<=13:=λy j=>(xd (m e) y j).1
   split
   · unfold sfx
     rw[qA,hdb_length];have:=iE fxl 288 (λ_=>5) 30 oU.byte (λ_=>by show 5<=255;decide) (sys L) h;omega
   · unfold sbs
     rw[qA,qA,hdb_length];have n:=GX L;have:=iE (ll1 L) 286 (ll2 L) 30 (λi=>qK (hfl_le _ (by decide) (by decide) i) (by decide)) (λi=>qK (hfl_le _ (by decide) (by decide) i) (by decide)) (sys L) h;omega
theorem zF(k:Nat)(L:List Tk)(d:ByteArray)(last:Bool)(o:Nat)(h:k=0->d.size<=70000)(i:L.length<=30000)(j:k≠0->∀t∈L,may t=true):(bkm k L d last o).length<=20000000:=by
 unfold bkm
 split
 · rename_i e
   have:=sN 1 o d last (by have:=h e;omega);have:=h e;omega
 · exact zB k L d last o h i j
noncomputable def b3(L:List Tk)(s:ByteArray)(k:Nat):Nat:=(bkm k L s false 0).length
noncomputable def kd(L:List Tk)(s:ByteArray):Nat×Nat:=
 if b3 L s 1<b3 L s 0 then(if b3 L s 2<b3 L s 1 then(2,b3 L s 2) else(1,b3 L s 1)) else(if b3 L s 2<b3 L s 0 then(2,b3 L s 2) else(0,b3 L s 0))
theorem kd_kind(L:List Tk)(s:ByteArray):(kd L s).1<=2:=by
 unfold kd
 split<;>split<;>simp
theorem uH(L:List Tk)(s:ByteArray):(kd L s).2=b3 L s (kd L s).1:=by
 unfold kd
 split<;>split<;>rfl
theorem yN(L:List Tk)(s:ByteArray){k:Nat}(h:k<=2):(kd L s).2<=b3 L s k:=by
 have d:k=0\/k=1\/k=2:=(by omega);unfold kd
 split<;>split<;>(rcases d with rfl|rfl|rfl<;>(simp only;omega))
theorem wy{L:List Tk}{s:ByteArray}{k:Nat}(hs:s.size<=70000)(d:L.length<=30000)(e:∀t∈L,may t=true):b3 L s k<=20000000:=zF k L s false 0 (λ_=>hs) d (λ_=>e)
theorem JN{L:List Tk}{s:ByteArray}(hs:s.size<=70000)(d:L.length<=30000)(e:∀t∈L,may t=true):(kd L s).2<=20000000:=by rw[uH];exact wy hs d e
def seg(L:List Tk)(f t:Nat):List Tk:=(L.drop f).take (t - f)
theorem seg_length{L:List Tk}{f t:Nat}(h:t<=L.length):(seg L f t).length=t - f:=by
 unfold seg;rw[Af,AF];omega
theorem seg_mem{L:List Tk}{f t:Nat}{x:Tk}(h:x∈seg L f t):x∈L:=BV (AO h)
theorem take_seg(L:List Tk){f t:Nat}(h:f<=t):L.take t=L.take f++seg L f t:=by
 unfold seg
 conv=>lhs;rw[show t=f+(t - f) by omega,List.take_add]
def szt(L:List Tk)(i:Nat):Nat:=Tx.szs (L.take i)
theorem szt_zero(L:List Tk):szt L 0=0:=rfl
theorem sE(L:List Tk){f t:Nat}(h:f<=t):szt L f+Tx.szs (seg L f t)=szt L t:=by
 unfold szt;rw[take_seg L h,Tx.szs_append]
theorem szt_mono(L:List Tk){f t:Nat}(h:f<=t):szt L f<=szt L t:=by
 have:=sE L h;omega
theorem szt_all{L:List Tk}{n:Nat}(h:L.length<=n):szt L n=Tx.szs L:=by
 unfold szt;rw[Aj h]
noncomputable def kp(L:List Tk)(s:ByteArray)(f t:Nat):Nat×Nat:=kd (seg L f t) (s.extract (szt L f) (szt L t))
def pst(K:Nat->Nat->Nat×Nat)(c:Nat->Nat):Nat->List (Nat×Nat)×(Nat×Nat)
 |0=>([],(c 0,c 1))
 |k+1=>if(K (pst K c k).2.1 (c (k+2))).2<=(K (pst K c k).2.1 (c (k+1))).2+(K (c (k+1)) (c (k+2))).2 then((pst K c k).1,((pst K c k).2.1,c (k+2))) else((pst K c k).1++[(pst K c k).2],(c (k+1),c (k+2)))
def prt(K:Nat->Nat->Nat×Nat)(c:Nat->Nat)(k:Nat):List (Nat×Nat):=(pst K c k).1++[(pst K c k).2]
theorem ks(K:Nat->Nat->Nat×Nat)(c:Nat->Nat):∀k,(pst K c k).2.2=c (k+1)
 |0=>rfl
 |k+1=>by rw[pst];split<;>rfl
theorem dO(K:Nat->Nat->Nat×Nat)(c:Nat->Nat):∀k,(prt K c k).length<=k+1
 |0=>by simp[prt,pst]
 |k+1=>by
  have d:=dO K c k;unfold prt at d ⊢;rw[qA] at d;rw[pst]
  split<;>(simp only[qA,qC,AB] at d ⊢;omega)
def Chn:Nat->List (Nat×Nat)->Nat->Prop
 |a,[],b=>a=b
 |a,q::l,b=>q.1=a/\a<=q.2/\Chn q.2 l b
theorem Chn.append:∀ {l:List (Nat×Nat)} {r:List (Nat×Nat)} {a b d:Nat},Chn a l b->Chn b r d->Chn a (l++r) d
 |[],_,_,_,_,h,h2=>by cases h;exact h2
 |q::l,_,_,_,_,h,h2=>⟨h.1,h.2.1,Chn.append h.2.2 h2⟩
theorem Chn.le:∀ {l:List (Nat×Nat)} {a b:Nat},Chn a l b->a<=b
 |[],_,_,h=>CH h
 |q::l,_,_,h=>qK h.2.1 (Chn.le h.2.2)
def cO(K:Nat->Nat->Nat×Nat):List (Nat×Nat)->Nat
 |[]=>0
 |q::l=>(K q.1 q.2).2+cO K l
theorem aS(K:Nat->Nat->Nat×Nat):∀l r,cO K (l++r)=cO K l+cO K r
 |[],r=>by simp[cO]
 |q::l,r=>by simp only[Ac,cO,aS K l r];omega
def gH(K:Nat->Nat->Nat×Nat)(c:Nat->Nat):Nat->Nat
 |0=>0
 |k+1=>gH K c k+(K (c k) (c (k+1))).2
theorem tE(K:Nat->Nat->Nat×Nat)(c:Nat->Nat)(d:∀i,c i<=c (i+1)):∀k,Chn (c 0) (pst K c k).1 (pst K c k).2.1/\(pst K c k).2.1<=c k
 |0=>⟨rfl,qR⟩
 |k+1=>by
  obtain⟨e,h⟩:=tE K c d k;rw[pst]
  split
  · exact⟨e,qK h (d k)⟩
  · refine⟨Chn.append e ⟨rfl,?_,?_⟩,qR⟩
    · rw[ks];exact qK h (d k)
    · exact ks K c k
theorem Gc(K:Nat->Nat->Nat×Nat)(c:Nat->Nat)(d:∀i,c i<=c (i+1))(k:Nat):Chn (c 0) (prt K c k) (c (k+1)):=by
 obtain⟨e,h⟩:=tE K c d k;refine Chn.append e ⟨rfl,?_,ks K c k⟩;rw[ks];exact qK h (d k)
theorem nY(K:Nat->Nat->Nat×Nat)(c:Nat->Nat):∀k,cO K (prt K c k)<=gH K c (k+1)
 |0=>by simp[prt,pst,cO,gH]
 |k+1=>by
  have d:=nY K c k;have i:=ks K c k;unfold prt at d ⊢;rw[aS] at d;rw[gH];have e:cO K [(pst K c k).2]=(K (pst K c k).2.1 (c (k+1))).2:=(by rw[<-i];simp[cO]);rw[e] at d;rw[pst]
  split
  · rename_i h
    rw[aS];show cO K (pst K c k).1+((K (pst K c k).2.1 (c (k+2))).2+0)<=gH K c (k+1)+(K (c (k+1)) (c (k+2))).2
    omega
  · rw[aS,aS,e]
    show cO K (pst K c k).1+(K (pst K c k).2.1 (c (k+1))).2+((K (c (k+1)) (c (k+2))).2+0)<=gH K c (k+1)+(K (c (k+1)) (c (k+2))).2
    omega
def cut(n i:Nat):Nat:=min (1024*i) n
theorem jk(n i:Nat):cut n i<=cut n (i+1):=by unfold cut;omega
theorem dF(n:Nat):cut n 0=0:=by unfold cut;omega
def cnk(n:Nat):Nat:=(n - 1) /1024
theorem vx(n:Nat):cut n (cnk n+1)=n:=by unfold cut cnk;omega
noncomputable def pts(L:List Tk)(s:ByteArray):List (Nat×Nat):=prt (kp L s) (cut L.length) (cnk L.length)
theorem pts_chn(L:List Tk)(s:ByteArray):Chn 0 (pts L s) L.length:=by
 have h:=Gc (kp L s) (cut L.length) (jk L.length) (cnk L.length);rw[dF,vx] at h;exact h
theorem xL(L:List Tk)(s:ByteArray):cO (kp L s) (pts L s)<=gH (kp L s) (cut L.length) (cnk L.length+1):=nY _ _ _
theorem tD(L:List Tk)(s:ByteArray)(h:L.length<=1024):pts L s=[(0,L.length)]:=by
 have e:cnk L.length=0:=(by unfold cnk;omega);unfold pts;rw[e];simp only[prt,pst,Ap,dF];rw[show cut L.length 1=L.length by unfold cut;omega]
