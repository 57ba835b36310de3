import Derived.Test.YthgilhebnlglkaaGreatDoorEMMathT
import Derived.Test.YthgilhebnlglkaaGreatDoorChecked
import Derived.Deep.RegionLaw
import Derived.BigQuiet
import Derived.WalkSpells
set_option linter.all false
set_option maxHeartbeats 8000000
set_option maxRecDepth 1000000
open Go.Proofs.Tryz
namespace Go.Proofs.YthgilhebnlglkaaGreatDoor
open Go Go.RowKit M
def LLs(w:World)(g:Nat):Prop:=w.heap[g]? =some (.cells #[.int .i64 3,.int .i64 4,.int .i64 5,.int .i64 6,.int .i64 7,.int .i64 8,.int .i64 9,.int .i64 10,.int .i64 11,.int .i64 13,.int .i64 15,.int .i64 17,.int .i64 19,.int .i64 23,.int .i64 27,.int .i64 31,.int .i64 35,.int .i64 43,.int .i64 51,.int .i64 59,.int .i64 67,.int .i64 83,.int .i64 99,.int .i64 115,.int .i64 131,.int .i64 163,.int .i64 195,.int .i64 227,.int .i64 258] 3 (0,0))
def DLs(w:World)(g:Nat):Prop:=w.heap[g]? =some (.cells #[.int .i64 1,.int .i64 2,.int .i64 3,.int .i64 4,.int .i64 5,.int .i64 7,.int .i64 9,.int .i64 13,.int .i64 17,.int .i64 25,.int .i64 33,.int .i64 49,.int .i64 65,.int .i64 97,.int .i64 129,.int .i64 193,.int .i64 257,.int .i64 385,.int .i64 513,.int .i64 769,.int .i64 1025,.int .i64 1537,.int .i64 2049,.int .i64 3073,.int .i64 4097,.int .i64 6145,.int .i64 8193,.int .i64 12289,.int .i64 16385,.int .i64 24577] 3 (0,0))
theorem LLs.cell{w:World}{g:Nat}(h:LLs w g){i:Nat}(hi:i<=28):w.cell? ⟨g,i,none⟩=some (.int .i64 (ll i:Nat)):=by
 have e:(#[.int .i64 3,.int .i64 4,.int .i64 5,.int .i64 6,.int .i64 7,.int .i64 8,.int .i64 9,.int .i64 10,.int .i64 11,.int .i64 13,.int .i64 15,.int .i64 17,.int .i64 19,.int .i64 23,.int .i64 27,.int .i64 31,.int .i64 35,.int .i64 43,.int .i64 51,.int .i64 59,.int .i64 67,.int .i64 83,.int .i64 99,.int .i64 115,.int .i64 131,.int .i64 163,.int .i64 195,.int .i64 227,.int .i64 258]:Array Value)=(lls.map λx:Nat=>Value.int .i64 (x:Int)).toArray:=rfl;have hl:lls.length=29:=rfl;unfold LLs at h;rw[e] at h;simp only[World.cell?,h];rw[List.getElem?_toArray,List.getElem?_map,qE (by rw[hl];omega)];unfold ll;rw[List.getD,qE (by rw[hl];omega)];rfl
theorem DLs.cell{w:World}{g:Nat}(h:DLs w g){i:Nat}(hi:i<=29):w.cell? ⟨g,i,none⟩=some (.int .i64 (dl i:Nat)):=by
 have e:(#[.int .i64 1,.int .i64 2,.int .i64 3,.int .i64 4,.int .i64 5,.int .i64 7,.int .i64 9,.int .i64 13,.int .i64 17,.int .i64 25,.int .i64 33,.int .i64 49,.int .i64 65,.int .i64 97,.int .i64 129,.int .i64 193,.int .i64 257,.int .i64 385,.int .i64 513,.int .i64 769,.int .i64 1025,.int .i64 1537,.int .i64 2049,.int .i64 3073,.int .i64 4097,.int .i64 6145,.int .i64 8193,.int .i64 12289,.int .i64 16385,.int .i64 24577]:Array Value)=(dls.map λx:Nat=>Value.int .i64 (x:Int)).toArray:=rfl;have hl:dls.length=30:=rfl;unfold DLs at h;rw[e] at h;simp only[World.cell?,h];rw[List.getElem?_toArray,List.getElem?_map,qE (by rw[hl];omega)];unfold dl;rw[List.getD,qE (by rw[hl];omega)];rfl
theorem z2m(w:World):Calls prog 223 #[] w λe w'=>e=.returned (.slice (some ⟨w.heap.size,0,none⟩) 29 29)/\LLs w' w.heap.size/\Below w.heap.size w w':=by
 go_enter func223,ntmps223;go_wp2;go_ret;exact⟨rfl,heap_alloc_new _ _,qL⟩
theorem z8J(w:World):Calls prog 224 #[] w λe w'=>e=.returned (.slice (some ⟨w.heap.size,0,none⟩) 30 30)/\DLs w' w.heap.size/\Below w.heap.size w w':=by
 go_enter func224,ntmps224;go_wp2;go_ret;exact⟨rfl,heap_alloc_new _ _,qL⟩
theorem zap(i:Nat)(w:World)(hi:i<=28):Calls prog 177 #[.int .i64 (257+i:Int)] w λe w'=>e=.returned (.int .i64 (lb i:Nat))/\w=w':=by
 obtain⟨x,hx⟩:∃x:Int,257+(i:Int)=x:=⟨_,rfl⟩
 rw[hx];have d1:decide (x<257)=false:=qF (by omega);have d2:decide (285<x)=false:=qF (by omega);by_cases h:i<8
 · have hl:lb i=0:=by unfold lb;rw[if_pos (.inl h)]
   rw[hl];have d3:decide (x<265)=true:=q9T (by omega);clear hx hi h;go_enter func177,ntmps177;go_wp2;go_ret;exact⟨rfl,rfl⟩
 have d3:decide (x<265)=false:=qF (by omega);by_cases h28:i=28
 · have hl:lb i=0:=by unfold lb;rw[if_pos (.inr h28)]
   rw[hl];have d4:(x==285)=true:=(by rw[beq_iff_eq];omega);clear hx hi h h28;go_enter func177,ntmps177;go_wp2;go_ret;exact⟨rfl,rfl⟩
 have d4:(x==285)=false:=(by rw[qN];omega);have hl:lb i=(i - 4) /4:=(by unfold lb;rw[if_neg (by omega)]);generalize hb:lb i=b at hl ⊢;have e1:(x - 261) /4=(b:Int):=(by omega);have e2:(x - 261).tdiv 4=(b:Int):=(by rw[Int.tdiv_eq_ediv_of_nonneg (by omega)];exact e1);have hx1:0<=x:=(by omega);have hx2:x<=285:=(by omega);clear hx hi h h28 hl hb;go_enter func177,ntmps177;go_wp2;go_ret;exact⟨rfl,rfl⟩
theorem zax(i:Nat)(w:World)(hi:i<=29):Calls prog 179 #[.int .i64 i] w λe w'=>e=.returned (.int .i64 (db i:Nat))/\w=w':=by
 have d1:decide ((i:Int)<0)=false:=qF (by omega);have d2:decide (29<(i:Int))=false:=qF (by omega);by_cases h:i<4
 · have hl:db i=0:=by unfold db;rw[if_pos h]
   rw[hl];have d3:decide ((i:Int)<4)=true:=q9T (by omega);clear hi h;go_enter func179,ntmps179;go_wp2;go_ret;exact⟨rfl,rfl⟩
 have d3:decide ((i:Int)<4)=false:=qF (by omega);have hl:db i=(i - 2) /2:=(by unfold db;rw[if_neg h]);generalize hb:db i=b at hl ⊢;have e1:((i:Int) - 2) /2=(b:Int):=(by omega);have e2:((i:Int) - 2).tdiv 2=(b:Int):=(by rw[Int.tdiv_eq_ediv_of_nonneg (by omega)];exact e1);have hi2:i<=29:=hi;clear hi h hl hb;go_enter func179,ntmps179;go_wp2;go_ret;exact⟨rfl,rfl⟩
theorem z4l{e b:Nat}(h:e<2^b):(e:Int) /2^b=0:=by
 have e1:((2:Int)^b)=((2^b:Nat):Int):=(by rw[Int.natCast_pow];rfl);rw[e1,<-Int.natCast_ediv,Nat.div_eq_of_lt h];rfl
theorem z4m{e b:Nat}(h:¬e<2^b):(((e:Int) /2^b) !=0)=true:=by
 have e1:((2:Int)^b)=((2^b:Nat):Int):=(by rw[Int.natCast_pow];rfl);rw[e1,<-Int.natCast_ediv];have h1:0<e/2^b:=Nat.div_pos (by omega) (Nat.two_pow_pos b);rw[bne_iff_ne];omega
theorem zdb(i e:Nat)(w:World)(hi:i<=28)(he:e<4294967296):Calls prog 178 #[.int .i64 (257+i:Int),.int .u32 e] w λx w'=>x=.returned (.int .i64 (lof i e:Nat))/\Below w.heap.size w w':=by
 have HB:=qH (zap i w hi);have hb:=zdY i hi;have hll:=ziZ i hi;have hls:=zfu (i:=i) (e:=e) hi;generalize hb':lb i=b at HB hb hls;have d0:decide ((b:Int)<0)=false:=qF (by omega);obtain⟨x,hx⟩:∃x:Int,257+(i:Int)=x:=⟨_,rfl⟩
 rw[hx] at HB ⊢;by_cases h1:e<2^b
 · have hq:=z4l h1
   by_cases h2:i=27
   · have e2:(x==284)=true:=by rw[beq_iff_eq];omega
     by_cases h3:e=31
     · have hl:lof i e=0:=by unfold lof;rw[if_neg (λq=>(hls.2 q.2).2 ⟨h2,h3⟩)]
       rw[hl];have e3:((e:Int)==31)=true:=(by rw[beq_iff_eq];omega);clear hl h1 h2 h3 hls hx hb' hi;go_enter func178,ntmps178;go_wp2_with (go_at_call 177;(with_reducible refine HB.o.mono ?_);rintro e w1 ⟨rfl,rfl⟩);go_ret;exact⟨rfl,Below.refl _ _⟩
     · have hl:lof i e=ll i+e:=by unfold lof;rw[if_pos ⟨hi,hls.1 ⟨h1,λq=>h3 q.2⟩⟩]
       rw[hl];have e3:((e:Int)==31)=false:=(by rw[qN];omega);have ex:x - 257=(i:Int):=(by omega);obtain⟨v,hv⟩:∃v,ll i=v:=⟨_,rfl⟩
       have HV:=qH hv;rw[hv] at hll ⊢;clear hl h1 h2 h3 hls hx hb' hv;go_enter func178,ntmps178
       go_wp2_with (first
        |(go_at_call 177;(with_reducible refine HB.o.mono ?_);rintro e w1 ⟨rfl,rfl⟩)
        |(go_at_call 223;(with_reducible refine(z2m _).mono ?_);rintro e w1 ⟨rfl,l1,b1⟩;have c0:=l1.cell hi;rw[HV.o] at c0;have B1:=qH b1;clear l1 b1))
       go_ret;exact⟨by simp,B1.o⟩
   · have e2:(x==284)=false:=by rw[qN];omega
     have hl:lof i e=ll i+e:=(by unfold lof;rw[if_pos ⟨hi,hls.1 ⟨h1,λq=>h2 q.1⟩⟩]);rw[hl];have ex:x - 257=(i:Int):=(by omega);obtain⟨v,hv⟩:∃v,ll i=v:=⟨_,rfl⟩
     have HV:=qH hv;rw[hv] at hll ⊢;clear hl h1 h2 hls hx hb' hv;go_enter func178,ntmps178
     go_wp2_with (first
      |(go_at_call 177;(with_reducible refine HB.o.mono ?_);rintro e w1 ⟨rfl,rfl⟩)
      |(go_at_call 223;(with_reducible refine(z2m _).mono ?_);rintro e w1 ⟨rfl,l1,b1⟩;have c0:=l1.cell hi;rw[HV.o] at c0;have B1:=qH b1;clear l1 b1))
     go_ret;exact⟨by simp,B1.o⟩
 · have hq:=z4m h1
   have hl:lof i e=0:=(by unfold lof;rw[if_neg (λq=>h1 (hls.2 q.2).1)]);rw[hl];clear hl h1 hls hx hb' hi;go_enter func178,ntmps178;go_wp2_with (go_at_call 177;(with_reducible refine HB.o.mono ?_);rintro e w1 ⟨rfl,rfl⟩);go_ret;exact⟨rfl,Below.refl _ _⟩
theorem zdg(i e:Nat)(w:World)(hi:i<=29)(he:e<4294967296):Calls prog 180 #[.int .i64 i,.int .u32 e] w λx w'=>x=.returned (.int .i64 (dof i e:Nat))/\Below w.heap.size w w':=by
 have HB:=qH (zax i w hi);have hb:=zer i hi;have hll:=zjf i hi;have hd2:ds i=2^db i:=rfl;generalize hb':db i=b at HB hb hd2;have d0:decide ((b:Int)<0)=false:=qF (by omega);by_cases h1:e<2^b
 · have hq:=z4l h1
   have hl:dof i e=dl i+e:=(by unfold dof;rw[if_pos ⟨hi,by rw[hd2];exact h1⟩]);rw[hl];obtain⟨v,hv⟩:∃v,dl i=v:=⟨_,rfl⟩
   have HV:=qH hv;rw[hv] at hll ⊢;clear hl h1 hd2 hb' hv;go_enter func180,ntmps180
   go_wp2_with (first
    |(go_at_call 179;(with_reducible refine HB.o.mono ?_);rintro e w1 ⟨rfl,rfl⟩)
    |(go_at_call 224;(with_reducible refine(z8J _).mono ?_);rintro e w1 ⟨rfl,l1,b1⟩;have c0:=l1.cell hi;rw[HV.o] at c0;have B1:=qH b1;clear l1 b1))
   go_ret;exact⟨by simp,B1.o⟩
 · have hq:=z4m h1
   have hl:dof i e=0:=(by unfold dof;rw[if_neg (λq=>h1 (by rw[<-hd2];exact q.2))]);rw[hl];clear hl h1 hd2 hb';go_enter func180,ntmps180;go_wp2_with (go_at_call 179;(with_reducible refine HB.o.mono ?_);rintro e w1 ⟨rfl,rfl⟩);go_ret;exact⟨rfl,Below.refl _ _⟩
end Go.Proofs.YthgilhebnlglkaaGreatDoor
namespace Go.Proofs.YthgilhebnlglkaaGreatDoor.Y
open Go Go.RowKit M
def bt(g p:Nat):Nat:=p/2^g - 1
def lt(l g p:Nat):Nat:=l+(p - bt g p*2^g)*2^bt g p
theorem ziG{g:Nat}(h:g=1\/g=2):(2:Int)^g=((2^g:Nat):Int):=by rw[Int.natCast_pow];rfl
theorem zhG{g p:Nat}(hg:g=1\/g=2)(hp:p<32):bt g p<=15:=by
 rcases hg with rfl|rfl<;>(unfold bt;omega)
theorem zjl{g p:Nat}(hg:g=1\/g=2)(hp:p<32):bt g p*2^g<=p:=by
 rcases hg with rfl|rfl<;>(unfold bt;omega)
theorem z4c(a c l m g p:Nat)(w:World)(hg:g=1\/g=2)(hp:p<32):Calls prog 296 #[.agg #[.int .i64 a,.int .i64 c,.int .i64 l,.int .i64 m,.int .i64 g],.int .i64 p] w λe w'=>e=.returned (.int .i64 (bt g p:Nat))/\Below w.heap.size w w':=by
 have d1:((g:Int)<64):=(by omega);obtain⟨q,hq⟩:∃q,p/2^g=q:=⟨_,rfl⟩
 have hb:bt g p=q - 1:=(by unfold bt;rw[hq]);have h1:(p:Int) /2^g=(q:Int):=(by rw[ziG hg,<-Int.natCast_ediv,hq]);have h2:q<=32:=(by rw[<-hq];exact qK (Nat.div_le_self _ _) (by omega));have h3:wrap64 ((q:Int) - 1)=(q:Int) - 1:=(by exact IntWalk.wrap64_in _ ⟨by omega,by omega⟩);rw[hb];clear hb hq;go_enter func296,ntmps296;go_wp2_with fail
 · go_ret
   exact⟨by simp;omega,qL⟩
 · go_ret
   exact⟨by simp;omega,qL⟩
theorem z6x(a c l m g p:Nat)(w:World)(hl:l<=3)(hg:g=1\/g=2)(hp:p<32):Calls prog 297 #[.agg #[.int .i64 a,.int .i64 c,.int .i64 l,.int .i64 m,.int .i64 g],.int .i64 p] w λe w'=>e=.returned (.int .i64 (lt l g p:Nat))/\Below w.heap.size w w':=by
 have d1:((g:Int)<64):=(by omega);have HB:=qH (λw=>z4c a c l m g p w hg hp);have hb:=zhG hg hp;have hm:=zjl hg hp;obtain⟨b,hbe⟩:∃b,bt g p=b:=⟨_,rfl⟩
 have hv:lt l g p=l+(p - b*2^g)*2^b:=(by unfold lt;rw[hbe]);rw[hv];rw[hbe] at HB hb hm;generalize hk:b*2^g=k at hm ⊢;have h1:wrap64 ((b:Int)*2^g)=(k:Int):=(by rw[ziG hg,<-Int.natCast_mul,hk];exact IntWalk.wrap64_in _ ⟨by omega,by omega⟩);have h2:wrap64 ((p:Int) - k)=((p - k:Nat):Int):=(by rw[Int.ofNat_sub hm];exact IntWalk.wrap64_in _ ⟨by omega,by omega⟩);have e2:(2:Int)^b=((2^b:Nat):Int):=(by rw[Int.natCast_pow];rfl);have hp2:2^b<=32768:=qK (Nat.pow_le_pow_right (by decide) hb) (by decide);have hp3:p - k<=31:=(by omega);have hlt:(p - k)*2^b<=31*32768:=Nat.mul_le_mul hp3 hp2;generalize hz:(p - k)*2^b=z at hlt ⊢;have h3:wrap64 (((p - k:Nat):Int)*2^b)=(z:Int):=(by rw[e2,<-Int.natCast_mul,hz];exact IntWalk.wrap64_in _ ⟨by omega,by omega⟩);have h4:wrap64 ((l:Int)+z)=((l+z:Nat):Int):=(by clear h1 h2 h3 e2 hz;rw[Int.natCast_add];exact IntWalk.wrap64_in _ ⟨by omega,by omega⟩);have h5:wrap64 ((l:Int)+wrap64 (wrap64 ((p:Int) - wrap64 ((b:Int)*2^g))*2^b))=((l+z:Nat):Int):=(by rw[h1,h2,h3,h4]);have HH:=qH h5;clear hv hbe hm hk h1 h2 e2 hlt hz h3 h4 h5 hp2 hp3;go_enter func297,ntmps297;go_wp2_with (go_at_call 296;(with_reducible refine(HB.o _).mono ?_);rintro e w1 ⟨rfl,b1⟩;have hb0:=(b1.block w.heap.size (by simp)).trans (heap_alloc_new w _);have k2:w1.cell? ⟨w.heap.size,2,none⟩=some (.int .i64 l):=(by rw[cell_of_row w1 _ _ _ _ _ hb0];rfl);have k4:w1.cell? ⟨w.heap.size,4,none⟩=some (.int .i64 g):=(by rw[cell_of_row w1 _ _ _ _ _ hb0];rfl);have B1:=qH b1;clear b1 hb0)
 go_quiet (fail)
 go_wp2_with fail;go_ret;exact⟨by rw[<-HH.o];rfl,z0b ((qL).trans (B1.o.mono (by simp))) _⟩
section
variable {w w':World} {br bn a c l m g n:Nat}
end
theorem z3o(a c l m g:Nat)(x:Int)(W:World)(ha:a<=257)(hc:c<=32)(hx:x<a\/(a:Int)+c<=x):
 Calls prog 261 #[.agg #[.int .i64 a,.int .i64 c,.int .i64 l,.int .i64 m,.int .i64 g],.int .i64 x] W λe w'=>e=.returned (.tuple #[.int .i64 0,.bool false])/\Below W.heap.size W w':=by
 have v1:wrap64 ((a:Int)+c)=(a:Int)+c:=IntWalk.wrap64_in _ ⟨by omega,by omega⟩;by_cases h:x<a
 · have d0:decide (x<(a:Int))=true:=q9T h
   clear hx h;go_enter func261,ntmps261;go_wp2_with fail;exact bodyPost_ret (v:=.tuple #[.int .i64 0,.bool false]) (by simp[results,results261,go_sem]) rfl ⟨rfl,qL⟩
 · have d0:decide (x<(a:Int))=false:=qF h
   have d1:decide ((a:Int)+c<=x)=true:=q9T (by omega);clear hx h;go_enter func261,ntmps261;go_wp2_with fail;exact bodyPost_ret (v:=.tuple #[.int .i64 0,.bool false]) (by simp[results,results261,go_sem]) rfl ⟨rfl,qL⟩
theorem z1o(a c l m g i:Nat)(x:Int)(W:World)(ha:a<=257)(hc:c<=32)(hg:g=1\/g=2)(hi:i<c)(hx:x=a+i):
 Calls prog 261 #[.agg #[.int .i64 a,.int .i64 c,.int .i64 l,.int .i64 m,.int .i64 g],.int .i64 x] W λe w'=>e=.returned (.tuple #[.int .i64 (bt g i:Nat),.bool true])/\Below W.heap.size W w':=by
 have hi32:i<32:=(by omega);have BA:=qH (λw=>z4c a c l m g i w hg hi32);generalize hz:bt g i=z at BA ⊢;have v1:wrap64 ((a:Int)+c)=(a:Int)+c:=IntWalk.wrap64_in _ ⟨by omega,by omega⟩;have d0:decide (x<(a:Int))=false:=qF (by omega);have d1:decide ((a:Int)+c<=x)=false:=qF (by omega);have v2:x - a=(i:Int):=(by omega);have v3:wrap64 (i:Int)=(i:Int):=IntWalk.wrap64_in _ ⟨by omega,by omega⟩;have hx1:0<=x:=(by omega);have hx2:x<=300:=(by omega);clear hz hx hg;go_enter func261,ntmps261;go_wp2_with (go_at_call 296;(with_reducible refine(BA.o _).mono ?_);rintro e w2 ⟨rfl,b2⟩;have B2:=qH ((qL).trans (b2.mono (by simp)));clear b2);exact bodyPost_ret (v:=.tuple #[.int .i64 z,.bool true]) (by simp[results,results261,go_sem]) rfl ⟨rfl,B2.o⟩
theorem z1D(a c l m g:Nat)(x e:Int)(W:World)(ha:a<=257)(hc:c<=32)(hx:x<a\/(a:Int)+c<=x):
 Calls prog 262 #[.agg #[.int .i64 a,.int .i64 c,.int .i64 l,.int .i64 m,.int .i64 g],.int .i64 x,.int .u32 e] W λy w'=>y=.returned (.tuple #[.int .i64 0,.bool false])/\Below W.heap.size W w':=by
 have BO:=qH (λw=>z3o a c l m g x w ha hc hx);clear hx;go_enter func262,ntmps262;go_wp2_with (go_at_call 261;(with_reducible refine(BO.o _).mono ?_);rintro y w2 ⟨rfl,b2⟩;have hb2:=(b2.block W.heap.size (by simp)).trans (heap_alloc_new W _);have k0:w2.cell? ⟨W.heap.size,0,none⟩=some (.int .i64 a):=(by rw[cell_of_row w2 _ _ _ _ _ hb2];rfl);have k1:w2.cell? ⟨W.heap.size,1,none⟩=some (.int .i64 c):=(by rw[cell_of_row w2 _ _ _ _ _ hb2];rfl);have k2:w2.cell? ⟨W.heap.size,2,none⟩=some (.int .i64 l):=(by rw[cell_of_row w2 _ _ _ _ _ hb2];rfl);have k3:w2.cell? ⟨W.heap.size,3,none⟩=some (.int .i64 m):=(by rw[cell_of_row w2 _ _ _ _ _ hb2];rfl);have k4:w2.cell? ⟨W.heap.size,4,none⟩=some (.int .i64 g):=(by rw[cell_of_row w2 _ _ _ _ _ hb2];rfl);have B2:=qH ((qL).trans (b2.mono (by simp)));clear b2 hb2);exact bodyPost_ret (v:=.tuple #[.int .i64 0,.bool false]) (by simp[results,results262,go_sem]) rfl ⟨rfl,B2.o⟩
theorem z1N(a c l m g i e:Nat)(x:Int)(W:World)(ha:a<=257)(hc:c<=32)(hg:g=1\/g=2)(hi:i<c)(hx:x=a+i)(he:¬e<2^bt g i):
 Calls prog 262 #[.agg #[.int .i64 a,.int .i64 c,.int .i64 l,.int .i64 m,.int .i64 g],.int .i64 x,.int .u32 e] W λy w'=>y=.returned (.tuple #[.int .i64 0,.bool false])/\Below W.heap.size W w':=by
 have BO:=qH (λw=>z1o a c l m g i x w ha hc hg hi hx);have hz15:=zhG hg (show i<32 by omega);have hs:=z4m he;generalize hz:bt g i=z at BO hz15 hs;clear hx hz he;go_enter func262,ntmps262;go_wp2_with (go_at_call 261;(with_reducible refine(BO.o _).mono ?_);rintro y w2 ⟨rfl,b2⟩;have hb2:=(b2.block W.heap.size (by simp)).trans (heap_alloc_new W _);have k0:w2.cell? ⟨W.heap.size,0,none⟩=some (.int .i64 a):=(by rw[cell_of_row w2 _ _ _ _ _ hb2];rfl);have k1:w2.cell? ⟨W.heap.size,1,none⟩=some (.int .i64 c):=(by rw[cell_of_row w2 _ _ _ _ _ hb2];rfl);have k2:w2.cell? ⟨W.heap.size,2,none⟩=some (.int .i64 l):=(by rw[cell_of_row w2 _ _ _ _ _ hb2];rfl);have k3:w2.cell? ⟨W.heap.size,3,none⟩=some (.int .i64 m):=(by rw[cell_of_row w2 _ _ _ _ _ hb2];rfl);have k4:w2.cell? ⟨W.heap.size,4,none⟩=some (.int .i64 g):=(by rw[cell_of_row w2 _ _ _ _ _ hb2];rfl);have B2:=qH ((qL).trans (b2.mono (by simp)));clear b2 hb2);exact bodyPost_ret (v:=.tuple #[.int .i64 0,.bool false]) (by simp[results,results262,go_sem]) rfl ⟨rfl,B2.o⟩
theorem z2n(a c l m g i e:Nat)(x:Int)(W:World)(ha:a<=257)(hc:c<=32)(hl:l<=3)(hg:g=1\/g=2)(hm:m<=32768)(hi:i<c)(hx:x=a+i)(he:e<2^bt g i)(hu:lt l g i<=32768):
 Calls prog 262 #[.agg #[.int .i64 a,.int .i64 c,.int .i64 l,.int .i64 m,.int .i64 g],.int .i64 x,.int .u32 e] W λy w'=>y=.returned (.tuple #[.int .i64 (if lt l g i+e<=m then lt l g i+e else 0:Nat),.bool (decide (lt l g i+e<=m))])/\Below W.heap.size W w':=by
 have hi32:i<32:=(by omega);have hz15:=zhG hg hi32;have he2:e<32768:=Nat.lt_of_lt_of_le he (qK (Nat.pow_le_pow_right (by decide) hz15) (by decide));have BO:=qH (λw=>z1o a c l m g i x w ha hc hg hi hx);have LA:=qH (λw=>z6x a c l m g i w hl hg hi32);have hs:=z4l he;clear he;obtain⟨z,hz⟩:∃z,bt g i=z:=⟨_,rfl⟩
 obtain⟨u,hue⟩:∃u,lt l g i=u:=⟨_,rfl⟩
 rw[hz] at BO hz15 hs;have HSS:=qH hs;clear hs;rw[hue] at LA hu ⊢;have v2:x - a=(i:Int):=(by omega);clear hx hz hue hg;by_cases h:u+e<=m
 · have e1:decide (u+e<=m)=true:=q9T h
   have e3:decide ((m:Int)<(u:Int)+(e:Int))=false:=qF (by omega);rw[if_pos h,e1];clear h;have hs:=HSS.o;go_enter func262,ntmps262;go_wp2_with (first|(go_at_call 261;(with_reducible refine(BO.o _).mono ?_);rintro y w2 ⟨rfl,b2⟩;have hb2:=(b2.block W.heap.size (by simp)).trans (heap_alloc_new W _);have k0:w2.cell? ⟨W.heap.size,0,none⟩=some (.int .i64 a):=(by rw[cell_of_row w2 _ _ _ _ _ hb2];rfl);have k1:w2.cell? ⟨W.heap.size,1,none⟩=some (.int .i64 c):=(by rw[cell_of_row w2 _ _ _ _ _ hb2];rfl);have k2:w2.cell? ⟨W.heap.size,2,none⟩=some (.int .i64 l):=(by rw[cell_of_row w2 _ _ _ _ _ hb2];rfl);have k3:w2.cell? ⟨W.heap.size,3,none⟩=some (.int .i64 m):=(by rw[cell_of_row w2 _ _ _ _ _ hb2];rfl);have k4:w2.cell? ⟨W.heap.size,4,none⟩=some (.int .i64 g):=(by rw[cell_of_row w2 _ _ _ _ _ hb2];rfl);have B2:=qH ((qL).trans (b2.mono (by simp)));clear b2 hb2)|(go_at_call 297;(with_reducible refine(LA.o _).mono ?_);rintro y w3 ⟨rfl,b3⟩;have j3:=(b3.cell (qB k3)).trans k3;have B3:=qbt B2 b3;clear b3));exact bodyPost_ret (v:=.tuple #[.int .i64 ((u+e:Nat):Int),.bool true]) (by simp[results,results262,go_sem]) rfl ⟨rfl,B3.o⟩
 · have e1:decide (u+e<=m)=false:=qF h
   have e3:decide ((m:Int)<(u:Int)+(e:Int))=true:=q9T (by omega);rw[if_neg h,e1];clear h;have hs:=HSS.o;go_enter func262,ntmps262;go_wp2_with (first|(go_at_call 261;(with_reducible refine(BO.o _).mono ?_);rintro y w2 ⟨rfl,b2⟩;have hb2:=(b2.block W.heap.size (by simp)).trans (heap_alloc_new W _);have k0:w2.cell? ⟨W.heap.size,0,none⟩=some (.int .i64 a):=(by rw[cell_of_row w2 _ _ _ _ _ hb2];rfl);have k1:w2.cell? ⟨W.heap.size,1,none⟩=some (.int .i64 c):=(by rw[cell_of_row w2 _ _ _ _ _ hb2];rfl);have k2:w2.cell? ⟨W.heap.size,2,none⟩=some (.int .i64 l):=(by rw[cell_of_row w2 _ _ _ _ _ hb2];rfl);have k3:w2.cell? ⟨W.heap.size,3,none⟩=some (.int .i64 m):=(by rw[cell_of_row w2 _ _ _ _ _ hb2];rfl);have k4:w2.cell? ⟨W.heap.size,4,none⟩=some (.int .i64 g):=(by rw[cell_of_row w2 _ _ _ _ _ hb2];rfl);have B2:=qH ((qL).trans (b2.mono (by simp)));clear b2 hb2)|(go_at_call 297;(with_reducible refine(LA.o _).mono ?_);rintro y w3 ⟨rfl,b3⟩;have j3:=(b3.cell (qB k3)).trans k3;have B3:=qbt B2 b3;clear b3));exact bodyPost_ret (v:=.tuple #[.int .i64 0,.bool false]) (by simp[results,results262,go_sem]) rfl ⟨rfl,B3.o⟩
