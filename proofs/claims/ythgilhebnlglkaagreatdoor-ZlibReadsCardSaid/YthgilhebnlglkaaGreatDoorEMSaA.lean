import Derived.Test.YthgilhebnlglkaaGreatDoorEMRns
import Derived.Test.YthgilhebnlglkaaGreatDoorRows
import Derived.OpenShut
import Derived.LaidMore
import Derived.Deep.DeepHandedRow
import Derived.LoopNIn
set_option linter.all false
set_option maxHeartbeats 8000000
set_option maxRecDepth 1000000
open Go.Proofs.Tryz
namespace Go.Proofs.YthgilhebnlglkaaGreatDoor.U
open Go Go.RowKit M
def sl(i:Nat):Nat:=if i<16 then 1 else if i<18 then 3 else 11
def sm(i:Nat):Nat:=if i<16 then 0 else if i<17 then 2 else if i<18 then 3 else 7
theorem zio(i:Nat):1<=sl i/\sl i<=11:=by
 unfold sl
 split
 · omega
 · split<;>omega
theorem zgr(i:Nat):sm i<=7:=by
 unfold sm
 split
 · omega
 · split
   · omega
   · split<;>omega
structure Tab(w:World):Prop where
 at0:∀i,i<19->w.cell? ⟨4,i*2,none⟩=some (.int .i64 (sl i:Nat))
 at1:∀i,i<19->w.cell? ⟨4,i*2+1,none⟩=some (.int .i64 (sm i:Nat))
theorem Tab.lt{w:World}(h:Tab w): 4 <w.heap.size:=qB (h.at0 0 (by omega))
theorem Tab.below{w w':World}{n:Nat}(h:Tab w)(hb:Below n w w')(hn:w.heap.size<=n):Tab w':=
 ⟨λi hi=>(hb.cell (p:=⟨4,i*2,none⟩) (Nat.lt_of_lt_of_le h.lt hn)).trans (h.at0 i hi),λi hi=>(hb.cell (p:=⟨4,i*2+1,none⟩) (Nat.lt_of_lt_of_le h.lt hn)).trans (h.at1 i hi)⟩
theorem zkf: prog.globalNamed "platen/runs.says" =some 4 :=by kernel_rfl
theorem zjT:(prog.globals[4]?).map (·.type)=some 369 :=by kernel_rfl
theorem z5W: prog.cellsOf 368 =2:=by kernel_rfl
theorem cellsInt: prog.cellsOf 3 =1:=by kernel_rfl
theorem zaP{H:Type}{enc:TypeId×Value->H}{w:World}{base:Nat}{spare:Nat->Bool}{held:Bool}{m:Nat}{cs:List Value}{x:DataW H×List MemPlace}(h:DataW.trod enc prog w base spare held m 368 cs=some x){a b:Int}(hx:x.1=.agg [.lit (.int .i64 a),.lit (.int .i64 b)]):
 cs=[.int .i64 a,.int .i64 b]:=by
 obtain⟨xs,k,_,rfl,hl,hxl,hf⟩:=DataW.trod_array underlying368 h;rw[z5W] at hl
 match cs,hl with
 |[v0,v1],_=>
  match xs,hxl with
  |[y0,y1],_=>
   have e0:=hf 0 (by omega);have e1:=hf 1 (by omega);rw[cellsInt] at e0 e1;simp only[Nat.zero_mul,Nat.one_mul,List.drop_zero,List.drop_succ_cons,List.take_succ_cons,List.take_zero,List.getElem?_cons_zero,List.getElem?_cons_succ] at e0 e1;obtain⟨n0,h0,q0,_⟩:=DataW.trod_int underlying3 e0;obtain⟨n1,h1,q1,_⟩:=DataW.trod_int underlying3 e1;simp only[List.cons.injEq,and_true] at h0 h1;simp only[List.map_cons,List.map_nil,DataW.agg.injEq,List.cons.injEq,and_true] at hx;subst q0 q1;simp only[DataW.lit.injEq,Lit.int.injEq,true_and] at hx;obtain⟨rfl,rfl⟩:=hx;rw[h0,h1]
theorem tab_of_laid{W:World}{laid:List (String×DataW Unit)}(hl:laid=[("platen/runs.says",Rows.laid_platen_runs_says)])(h:laidMet prog laid W):Tab W:=by
 subst hl;obtain⟨ps,⟨g0,t0,cs0,f0,p0,q0,hg0,ht0,hv0,hd0,_,_⟩,_⟩:=h;obtain rfl:=Option.some.inj (zkf.symm.trans hg0);obtain rfl:=Option.some.inj (zjT.symm.trans ht0);obtain⟨xs,m,_,hx,hlen,hn,hel⟩:=DataW.trod_array underlying369 hd0;simp only[Prod.mk.injEq] at hx;have hx1:=hx.1;have hxs:xs.map (·.1)=(List.range 19).map (λi=>(DataW.agg [.lit (.int .i64 (sl i:Nat)),.lit (.int .i64 (sm i:Nat))]:DataW Unit)):=by
  unfold Rows.laid_platen_runs_says at hx1;injection hx1 with hx1
  rw[<-hx1];rfl
 have hcell:=λj=>World.var?_cell hg0 hv0 j
 have each:∀i,i<19->(cs0.toList.drop (i*2)).take 2=[.int .i64 (sl i:Nat),.int .i64 (sm i:Nat)]:=λi hi=>by
  have h1:=hel i hi;rw[z5W] at h1;have hy:xs[i]? =some xs[i]:=qE (by omega);rw[hy] at h1;refine zaP h1 ?_
  have h2:(xs.map (·.1))[i]? =some (xs[i]).1:=(by rw[List.getElem?_map,hy];rfl);rw[hxs,List.getElem?_map,List.getElem?_range hi] at h2;injection h2 with h2
  exact h2.symm
 have cell:∀i k,i<19->k<2->cs0[i*2+k]? =[Value.int .i64 (sl i:Nat),.int .i64 (sm i:Nat)][k]? :=λi k hi hk=>by
  rw[<-each i hi,List.getElem?_take,if_pos hk,List.getElem?_drop,Array.getElem?_toList]
 exact⟨λi hi=>by have:=hcell (i*2);rw[show i*2=i*2+0 from rfl,cell i 0 hi (by omega)] at this;exact this,λi hi=>by have:=hcell (i*2+1);rw[cell i 1 hi (by omega)] at this;exact this⟩
theorem zfe{s:Nat}(h:s<19):rbs s=((sm s:Nat):Int):=by
 by_cases h1:s<16
 · unfold rbs sm;rw[if_pos h1,if_pos h1];rfl
 · have h2:s=16\/s=17\/s=18:=by omega
   rcases h2 with rfl|rfl|rfl<;>rfl
theorem zff{s:Nat}(h:¬s<19):rbs s= -1:=by
 unfold rbs;rw[if_neg (by omega),if_neg (by omega),if_neg (by omega),if_neg (by omega)]
theorem zgh{s e:Nat}(h:s<19)(he:e<2^sm s):tms ⟨s,e⟩=sl s+e:=by
 by_cases h1:s<16
 · have h2:sm s=0:=by unfold sm;rw[if_pos h1]
   rw[h2] at he;obtain rfl:e=0:=by omega
   rw[z67 h1];unfold sl;rw[if_pos h1]
 · have h2:s=16\/s=17\/s=18:=by omega
   rcases h2 with rfl|rfl|rfl
   · rw[z9P (by simpa [sm] using he)];simp[sl]
   · rw[z9O (by simpa [sm] using he)];simp[sl]
   · rw[z9N (by simpa [sm] using he)];simp[sl]
theorem zid{s e:Nat}(h:s<19)(he:¬e<2^sm s):tms ⟨s,e⟩=0:=by
 unfold tms;simp only;by_cases h1:s<16
 · have h2:sm s=0:=by unfold sm;rw[if_pos h1]
   rw[h2] at he;rw[if_neg (by omega),if_neg (by omega),if_neg (by omega),if_neg (by omega)]
 · have h2:s=16\/s=17\/s=18:=by omega
   rcases h2 with rfl|rfl|rfl
   · have:¬e<4:=by simpa [sm] using he
     rw[if_neg (by omega),if_neg (by omega),if_neg (by omega),if_neg (by omega)]
   · have:¬e<8:=by simpa [sm] using he
     rw[if_neg (by omega),if_neg (by omega),if_neg (by omega),if_neg (by omega)]
   · have:¬e<128:=by simpa [sm] using he
     rw[if_neg (by omega),if_neg (by omega),if_neg (by omega),if_neg (by omega)]
theorem z9M{s e:Nat}(h:¬s<19):tms ⟨s,e⟩=0:=by
 unfold tms;simp only;rw[if_neg (by omega),if_neg (by omega),if_neg (by omega),if_neg (by omega)]
theorem z3p{w w':World}{B:Nat}(h:Below B w w')(n:Nat):Below B w (w'.drewN n):=⟨h.os,h.tape,h.output,h.size,h.block⟩
theorem bits_any(s:Nat)(w:World)(H:Tab w)(hs:s<=255):Calls prog 279 #[.int .u8 s] w λx w'=>x=.returned (.tuple #[.int .i64 (max (rbs s) 0),.bool (decide (0<=rbs s))])/\w=w':=by
 by_cases h:s<19
 · have c1:=H.at1 s h
   have hm:=zgr s;have hr:=zfe h;rw[hr,show max ((sm s:Nat):Int) 0=((sm s:Nat):Int) by omega,show decide ((0:Int)<=((sm s:Nat):Int))=true from q9T (by omega)];generalize hb:sm s=b at c1 ⊢;have d1:decide ((19:Int)<=(s:Int))=false:=qF (by omega);clear hm hr hb H;go_enter func279,ntmps279;go_wp2_with fail;exact bodyPost_ret (v:=.tuple #[.int .i64 b,.bool true]) (by simp[results,results279,go_sem]) rfl ⟨rfl,rfl⟩
 · rw[zff h]
   have d1:decide ((19:Int)<=(s:Int))=true:=q9T (by omega);clear h H;go_enter func279,ntmps279;go_wp2_with fail;exact bodyPost_ret (v:=.tuple #[.int .i64 0,.bool false]) (by simp[results,results279,go_sem]) rfl ⟨rfl,rfl⟩
theorem times_any(s e:Nat)(w:World)(H:Tab w)(hs:s<=255)(he:e<=255):Calls prog 256 #[.agg #[.int .u8 s,.int .u8 e]] w λx w'=>x=.returned (.tuple #[.int .i64 (tms ⟨s,e⟩:Nat),.bool (decide (0<tms ⟨s,e⟩))])/\Below w.heap.size w w':=by
 have HB:=qH (λw' (b:Below w.heap.size w w')=>bits_any s w' (H.below b qR) hs);by_cases h:s<19
 · have hr:=zfe h
   rw[hr,show max ((sm s:Nat):Int) 0=((sm s:Nat):Int) by omega,show decide ((0:Int)<=((sm s:Nat):Int))=true from q9T (by omega)] at HB;have hm:=zgr s;by_cases hx:e<2^sm s
   · rw[zgh h hx]
     have hl:=zio s;rw[show decide (0<sl s+e)=true from q9T (by omega)];have c0:=(H.below ((Below.refl _ w).alloc qR (.cells #[.int .u8 s,.int .u8 e] 225)) qR).at0 s h;have hq:e/2^sm s=0:=Nat.div_eq_of_lt hx;obtain⟨b,hb⟩:∃b,sm s=b:=⟨_,rfl⟩
     obtain⟨l,hl'⟩:∃l,sl s=l:=⟨_,rfl⟩
     rw[hb] at hm hq HB;rw[hl'] at c0 hl ⊢;have hd:(((e:Int) /2^b) !=0)=false:=by
      have:((e:Int) /2^b)=((e/2^b:Nat):Int):=(by simp);rw[this,hq];rfl
     have hw1:IntKind.i64.wrap (e:Int)=(e:Int):=(by rw[IntKind.wrap_i64];omega);have hw2:IntKind.i64.wrap ((l:Int)+(e:Int))=((l+e:Nat):Int):=(by rw[IntKind.wrap_i64];omega);clear hr hb hl' H hx hq;go_enter func256,ntmps256;go_wp2_with (go_at_call 279;(with_reducible refine(HB.o _ ((Below.refl _ w).alloc qR _)).mono ?_);rintro e w1 ⟨rfl,rfl⟩)
     go_quiet (fail)
     go_wp2_with fail;exact bodyPost_ret (v:=.tuple #[.int .i64 (l+e:Nat),.bool true]) (by simp[results,results256,go_sem]) rfl ⟨rfl,z3p (qL) _⟩
   · rw[zid h hx]
     have hq:0<e/2^sm s:=Nat.div_pos (by omega) (Nat.pos_of_ne_zero (by simp));generalize hb:sm s=b at hm hq HB;have hd:(((e:Int) /2^b) !=0)=true:=by
      have:((e:Int) /2^b)=((e/2^b:Nat):Int):=(by simp);rw[this];rw[bne_iff_ne];omega
     clear hr hb H hx hq;go_enter func256,ntmps256;go_wp2_with (go_at_call 279;(with_reducible refine(HB.o _ ((Below.refl _ w).alloc qR _)).mono ?_);rintro e w1 ⟨rfl,rfl⟩);exact bodyPost_ret (v:=.tuple #[.int .i64 0,.bool false]) (by simp[results,results256,go_sem]) rfl ⟨rfl,(qL)⟩
 · rw[zff h] at HB
   rw[z9M h];clear h H;go_enter func256,ntmps256;go_wp2_with (go_at_call 279;(with_reducible refine(HB.o _ ((Below.refl _ w).alloc qR _)).mono ?_);rintro e w1 ⟨rfl,rfl⟩);exact bodyPost_ret (v:=.tuple #[.int .i64 0,.bool false]) (by simp[results,results256,go_sem]) rfl ⟨rfl,(qL)⟩
theorem ze6(x:Nat)(w:World):Calls prog 306 #[.int .u8 x] w λe w'=>e=.returned (.bool (decide (15<x)))/\w=w':=by
 by_cases h:15<x
 · have d1:decide ((15:Int)<(x:Int))=true:=q9T (by omega)
   rw[q9T h];clear h;go_enter func306,ntmps306;go_wp2_with fail;go_ret;exact⟨rfl,rfl⟩
 · have d1:decide ((15:Int)<(x:Int))=false:=qF (by omega)
   rw[qF h];clear h;go_enter func306,ntmps306;go_wp2_with fail;go_ret;exact⟨rfl,rfl⟩
def zcA(W:World)(l:List Nat)(n:Nat)(e:Ending)(w':World):Prop:=∃i:Int,e=.returned (.int .i64 i)/\(0<=i↔∃j,j<n/\15<l.getD j 0)/\Below W.heap.size W w'
theorem zbw(A:Option Addr)(n c:Nat)(l:List Nat)(w:World)(H:IsBys w A n l)(hn:n<=2000):Calls prog 326 #[.slice A n c,.func (.func 306) #[] #[]] w (zcA w l n):=by
 obtain⟨HH,HNo⟩:=qh2 H ze6;clear H;unfold zcA;go_enter func326,ntmps326;go_wp2_with fail
 go_loopw [8] (λx wr=> ∃k:Nat,k<=n/\x=.int .i64 k/\(∀j,j<k->¬15<l.getD j 0)/\Below w.heap.size w wr) (λx _=>n - (intOf x).toNat)
 case atStart=>exact⟨0,qZ,rfl,λj hj=>absurd hj (by omega),Below.refl _ _⟩
 case round=>
  obtain⟨k,hk,rfl,hA,hb⟩:=hrel;obtain⟨HA,HB⟩:=qh2 hA hb;by_cases hlt:k<n
  · obtain⟨d1,d1'⟩:=qdT hlt;obtain⟨b,o,rfl,hbb,hc⟩:=(HH.o.below hb).at (by omega);have c0:=hc k hlt;obtain⟨x,hx⟩:∃x,l.getD k 0=x:=⟨_,rfl⟩
    rw[hx] at c0;have HX:=qH hx;clear hA hb hc hx;by_cases hy:15<x
    · have hd:decide (15<x)=true:=q9T hy
      have HN:=qH (λw=>HNo.o x w);rw[hd] at HN;have HY:=qH hy;clear hd hy;go_wp2_with (go_at_call 306;(with_reducible refine(HN.o _).mono ?_);rintro e w3 ⟨rfl,rfl⟩);go_ret;exact⟨k,rfl,⟨λ_=>⟨k,hlt,by rw[HX.o];exact HY.o⟩,λ_=>by omega⟩,HB.o⟩
    · have hd:decide (15<x)=false:=qF hy
      have HN:=qH (λw=>HNo.o x w);rw[hd] at HN;have HY:=qH hy;clear hd hy;go_wp2_with (go_at_call 306;(with_reducible refine(HN.o _).mono ?_);rintro e w3 ⟨rfl,rfl⟩);exact⟨⟨k+1,by omega,by go_num,λj hj=>by
       by_cases q:j<k
       · exact HA.o j q
       · obtain rfl:j=k:=by omega
         rw[HX.o];exact HY.o,HB.o⟩,by simp[intOf];omega⟩
  · obtain rfl:k=n:=by omega
    clear hA hb;go_wp2_with fail;go_ret;exact⟨-1,rfl,⟨λq=>absurd q (by decide),λ⟨j,h1,h2⟩=>absurd h2 (HA.o j h1)⟩,HB.o⟩
def zhV(W:World)(b:Bool)(e:Ending)(w':World):Prop:=e=.returned (.bool b)/\Below W.heap.size W w'
theorem z5R(A:Option Addr)(n c:Nat)(l:List Nat)(w:World)(b:Bool)(hb:b=true↔∃j,j<n/\15<l.getD j 0)(H:IsBys w A n l)(hn:n<=2000):Calls prog 305 #[.slice A n c,.func (.func 306) #[] #[]] w (zhV w b):=by
 have HI:=qH (zbw A n c l w H hn);unfold zcA at HI;unfold zhV;have HB:=qH hb;clear hb H;go_enter func305,ntmps305;go_wp2_with (go_at_call 326;(with_reducible refine HI.o.mono ?_);rintro e w3 ⟨i,rfl,hi,b3⟩;have hdi:decide ((0:Int)<=i)=b:=(by rw[Bool.eq_iff_iff,decide_eq_true_eq,hi,HB.o]);have B3:=qH b3;clear hi b3);go_ret;exact⟨rfl,B3.o⟩
theorem zjX(v:Nat):∀ (l:List Nat) (k:Nat),(∀j,j<k->l.getD j 0=v)->k<=l.length->(k=l.length\/l.getD k 0≠v)->ru v l=k
 |[],k,h1,h2,h3=>by simp only[List.length_nil] at h2;unfold ru;omega
 |x::l,0,h1,h2,h3=>by
  rcases h3 with e|e
  · simp at e
  · unfold ru
    rw[if_neg]
    simpa using e
 |x::l,k+1,h1,h2,h3=>by
  have h0:=h1 0 (by omega);simp at h0;unfold ru;rw[if_pos h0,zjX v l k (λj hj=>by simpa using h1 (j+1) (by omega)) (by simpa using h2) (by simpa using h3)]
theorem alike_any(A:Option Addr)(n c:Nat)(l:List Nat)(v:Nat)(w:World)(H:IsBys w A n (v::l))(hn:n<=2000):Calls prog 307 #[.slice A n c] w λe w'=>e=.returned (.int .i64 (ru v l+1:Nat))/\Below w.heap.size w w':=by
 have hlen:l.length+1=n:=(by have:=H.leng;simpa using this);obtain⟨b,o,rfl,hbb,hc⟩:=H.at (by omega);have c0:w.cell? ⟨b,o,none⟩=some (.int .u8 (v:Nat)):=(by have:=hc 0 (by omega);simpa using this);obtain⟨HC,HLen⟩:=qh2 hc hlen;have h1n:1<=n:=(by omega);clear H hc hlen;go_enter func307,ntmps307;go_wp2_with fail
 go_loopw [3] (λx wr=> ∃k q:Nat,k+1<=n/\x=.int .i64 (k+1:Nat)/\(∀j,j<k->l.getD j 0=v)/\wr=w.drewN q) (λx _=>n - (intOf x).toNat)
 case atStart=>exact⟨0,0,by omega,rfl,λj hj=>absurd hj (by omega),rfl⟩
 case round=>
  obtain⟨k,q,hk,rfl,hA,rfl⟩:=hrel;have HA:=qH hA;clear hA;generalize hz:k+1=z at hk ⊢;have HZ:=qH hz;clear hz;by_cases hlt:z<n
  · have c1:=HC.o z hlt
    obtain⟨x,hx⟩:∃x,(v::l).getD z 0=x:=⟨_,rfl⟩
    rw[hx] at c1;have HX:=qH (show l.getD k 0=x by rw[<-hx,<-HZ.o];simp);clear hx;by_cases hy:x=v
    · have hd:((x:Int)==(v:Int))=true:=by rw[beq_iff_eq];omega
      have HY:=qH hy;clear hy;go_wp2_with fail
      go_quiet (fail)
      go_wp2_with fail;exact⟨⟨z,_,by omega,by go_num,λj hj=>by
       have hz:=HZ.o;by_cases c:j<k
       · exact HA.o j c
       · obtain rfl:j=k:=by omega
         rw[HX.o];exact HY.o,rfl⟩,by simp[intOf];omega⟩
    · have hd:((x:Int)==(v:Int))=false:=by rw[qN];omega
      have HY:=qH hy;clear hy;go_wp2_with fail
      go_quiet (fail)
      go_wp2_with fail;have hr:ru v l+1=z:=by
       rw[zjX v l k HA.o (by have:=HLen.o;have:=HZ.o;omega) (.inr (by rw[HX.o];exact HY.o)),HZ.o]
      rw[hr];go_ret;exact⟨rfl,z3p (z3p (Below.refl _ _) _) _⟩
  · go_wp2_with fail
    go_quiet (fail)
    go_wp2_with fail;have hr:ru v l+1=z:=by
     rw[zjX v l k HA.o (by have:=HLen.o;have:=HZ.o;omega) (.inl (by have:=HLen.o;have:=HZ.o;omega)),HZ.o]
    rw[hr];go_ret;exact⟨rfl,z3p (z3p (Below.refl _ _) _) _⟩
def sof(v n:Nat)(ahead:Bool):Nat:=if v=0/\11<=n then 18 else if v=0/\3<=n then 17 else if v≠0/\ahead=true/\3<=n then 16 else v
theorem zgp(v n:Nat)(ahead:Bool)(w:World)(H:Tab w)(hv:v<=15)(hn:n<=2000):Calls prog 328 #[.int .u8 v,.int .i64 n,.bool ahead] w λe w'=>e=.returned (.int .u8 (sof v n ahead:Nat))/\w=w':=by
 have c18:w.cell? ⟨4,36,none⟩=some (.int .i64 11):=H.at0 18 (by omega);have c17:w.cell? ⟨4,34,none⟩=some (.int .i64 3):=H.at0 17 (by omega);have c16:w.cell? ⟨4,32,none⟩=some (.int .i64 3):=H.at0 16 (by omega);clear H;by_cases h0:v=0
 · have z1:((v:Int)==0)=true:=by rw[beq_iff_eq];omega
   have z2:((v:Int) !=0)=false:=(by rw[bne_eq_false_iff_eq];omega);by_cases h11:11<=n
   · have d1:decide ((11:Int)<=(n:Int))=true:=q9T (by omega)
     rw[show sof v n ahead=18 by unfold sof;rw[if_pos ⟨h0,h11⟩]];clear h0 h11;go_enter func328,ntmps328;go_wp2_with fail;go_ret;exact⟨rfl,rfl⟩
   · have d1:decide ((11:Int)<=(n:Int))=false:=qF (by omega)
     by_cases h3:3<=n
     · have d2:decide ((3:Int)<=(n:Int))=true:=q9T (by omega)
       rw[show sof v n ahead=17 by unfold sof;rw[if_neg (λq=>h11 q.2),if_pos ⟨h0,h3⟩]];clear h0 h11 h3;go_enter func328,ntmps328;go_wp2_with fail;go_ret;exact⟨rfl,rfl⟩
     · have d2:decide ((3:Int)<=(n:Int))=false:=qF (by omega)
       rw[show sof v n ahead=v by unfold sof;rw[if_neg (λq=>h11 q.2),if_neg (λq=>h3 q.2),if_neg (λq=>q.1 h0)]];clear h0 h11 h3;go_enter func328,ntmps328;go_wp2_with fail;go_ret;exact⟨rfl,rfl⟩
 · have z1:((v:Int)==0)=false:=by rw[qN];omega
   have z2:((v:Int) !=0)=true:=(by rw[bne_iff_ne];omega);cases ahead with
   |false=>
    rw[show sof v n false=v by unfold sof;rw[if_neg (λq=>h0 q.1),if_neg (λq=>h0 q.1),if_neg (λq=>by cases q.2.1)]];clear h0;go_enter func328,ntmps328;go_wp2_with fail;go_ret;exact⟨rfl,rfl⟩
   |true=>
    by_cases h3:3<=n
    · have d2:decide ((3:Int)<=(n:Int))=true:=q9T (by omega)
      rw[show sof v n true=16 by unfold sof;rw[if_neg (λq=>h0 q.1),if_neg (λq=>h0 q.1),if_pos ⟨h0,rfl,h3⟩]];clear h0 h3;go_enter func328,ntmps328;go_wp2_with fail;go_ret;exact⟨rfl,rfl⟩
    · have d2:decide ((3:Int)<=(n:Int))=false:=qF (by omega)
      rw[show sof v n true=v by unfold sof;rw[if_neg (λq=>h0 q.1),if_neg (λq=>h0 q.1),if_neg (λq=>h3 q.2.2)]];clear h0 h3;go_enter func328,ntmps328;go_wp2_with fail;go_ret;exact⟨rfl,rfl⟩
def smo(s:Nat):Nat:=sl s+2^sm s - 1
theorem zdH(s:Nat)(w:World)(H:Tab w)(hs:s<19):Calls prog 329 #[.int .u8 s] w λe w'=>e=.returned (.int .i64 (smo s:Nat))/\∃q,w'=w.drewN q:=by
 have c0:=H.at0 s hs;have c1:=H.at1 s hs;have hl:=zio s;have hm:=zgr s;unfold smo;clear H;obtain⟨b,hb⟩:∃b,sm s=b:=⟨_,rfl⟩
 obtain⟨l,hl'⟩:∃l,sl s=l:=⟨_,rfl⟩
 rw[hb] at c1 hm ⊢;rw[hl'] at c0 hl ⊢;have h4:b=0\/b=2\/b=3\/b=7:=(by rw[<-hb];unfold sm;split;omega;split;omega;split<;>omega);clear hb hl' hm;rcases h4 with rfl|rfl|rfl|rfl
 all_goals
  have hw1:IntKind.i64.wrap (s:Int)=(s:Int):=(by rw[IntKind.wrap_i64];omega);go_enter func329,ntmps329;go_wp2_with fail
  go_quiet (fail)
  go_wp2_with fail;go_ret;exact⟨by go_num,_,rfl⟩
theorem z5F(A:Option Addr)(n c:Nat)(l:List Nat)(s:Nat)(w:World)(H:IsBys w A n l)(hs:s<19)(hn:s=16->0<n)(hn2:n<=1000000):Calls prog 289 #[.int .u8 s,.slice A n c] w λe w'=>e=.returned (.int .u8 (vlr l ⟨s,0⟩:Nat))/\w=w':=by
 by_cases h16:s=16
 · subst h16
   obtain⟨q,hq⟩:∃q,n=q+1:=⟨n - 1,by have:=hn rfl;omega⟩
   obtain⟨b,o,rfl,hbb,hc⟩:=H.at (by omega);have c0:=hc q (by omega);have hv:vlr l ⟨16,0⟩=l.getD q 0:=by
    unfold vlr;rw[if_pos rfl];rw[List.getLastD_eq_getLast?,List.getLast?_eq_getElem?,List.getD,H.leng,hq,Nat.add_sub_cancel]
   rw[hv];generalize hx:l.getD q 0=x at c0 ⊢;subst hq;have e1:(((q+1:Nat):Int) - 1)=(q:Int):=(by omega);clear hv hx hc H hn;go_enter func289,ntmps289;go_wp2_with fail;go_ret;exact⟨rfl,rfl⟩
 · have e1:((s:Int)==16)=false:=by rw[qN];omega
   have e1':(s==16)=false:=(by rw[qN];exact h16);clear hn H;by_cases h17:s=17
   · subst h17
     clear h16 e1 e1';go_enter func289,ntmps289;go_wp2_with fail;go_ret;exact⟨rfl,rfl⟩
   · by_cases h18:s=18
     · subst h18
       clear h16 e1 e1' h17;go_enter func289,ntmps289;go_wp2_with fail;go_ret;exact⟨rfl,rfl⟩
     · have hv:vlr l ⟨s,0⟩=s:=by unfold vlr;simp only;rw[if_neg h16,if_neg (by omega)]
       rw[hv];have e2:((s:Int)==17)=false:=(by rw[qN];omega);have e3:((s:Int)==18)=false:=(by rw[qN];omega);clear h16 h17 h18 hv;go_enter func289,ntmps289;go_wp2_with fail;go_ret;exact⟨rfl,rfl⟩
