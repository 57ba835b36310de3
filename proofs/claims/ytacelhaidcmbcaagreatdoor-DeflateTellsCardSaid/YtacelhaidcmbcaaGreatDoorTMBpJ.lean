/- Texts of one place, one behind the other: BpJ, BpU, BpK, BpL, BpM, BpN, BpP, BpO, BpQ, BpR. -/
import Derived.Test.YtacelhaidcmbcaaGreatDoorTMBpE
import Derived.Test.YtacelhaidcmbcaaGreatDoorTMBlA
import Derived.Test.YtacelhaidcmbcaaGreatDoorTBpB
import Derived.Test.YtacelhaidcmbcaaGreatDoorTMSaC
import Derived.Lib.AppendZeros
set_option maxHeartbeats 8000000
set_option maxRecDepth 1000000
set_option linter.unusedVariables false
set_option linter.unusedSimpArgs false
namespace Go.Proofs.YtacelhaidcmbcaaGreatDoor.V
open Go.Lib (hid)
open Go Go.RowKit M U
theorem z4h(A:Option Addr)(n c:Nat)(L:List Tk)(w:World)(H:z5p w)(hL:IsTks w A n L)(hn:n≤100000)(hm:∀t∈L,may t=true):
 Calls Tryz.prog 70 #[.int .u8 2,.slice A n c] w (z4t w (sys L) 286 (ll1 L) (ll2 L) (tbl (lx1 L) (lx2 L))):=by
 have hz:=z85;have hb:Below w.heap.size w (w.alloc (.cells (KV (fun _=>0) (fun _=>0) 0 (.slice none 0 0) (.slice none 0 0) (.slice none 0 0)) 160)):=qL;have HR0:=hid (Kd.new w (fun _=>0) (fun _=>0) 0 (.slice none 0 0) (.slice none 0 0) (.slice none 0 0));have HB0:=hid hb;have HCo:=hid (count_any A n c L _ (H.keep hb).2 (hL.below hb) hn hm);have HBs:=hid (fun w1=>zgZ L w1 (by have:=z1h L;have:=hL.leng;omega));obtain⟨S,hS⟩:∃S,sys L=S:=⟨_,rfl⟩
 obtain⟨T,hT⟩:∃T,tbl (lx1 L) (lx2 L)=T:=⟨_,rfl⟩
 have HTb:=hid (show ∀W a z,Below w.heap.size w W→Br W a 286 (ll1 L)→Br W z 30 (ll2 L)→Calls Tryz.prog 106 #[.agg #[.slice (some ⟨a,0,none⟩) 286 286,.slice (some ⟨z,0,none⟩) 30 30]] W (ziF W T) from fun W a z b ra rz=>by
  have h:=z8N (some ⟨a,0,none⟩) (some ⟨z,0,none⟩) 286 30 (lx1 L) (lx2 L) W (H.keep b).1 (IsBys.of_br ra (by omega) (fun i=>qK (z0e _ (by omega) (by decide) i) (by omega))) (IsBys.of_br rz (by omega) (fun i=>qK (z0e _ (by omega) (by decide) i) (by omega))) (by omega) (by omega)
   (fun x hx=>by obtain⟨i,_,rfl⟩:=List.mem_map.1 hx;exact z0e _ (by omega) (by decide) i) (fun x hx=>by obtain⟨i,_,rfl⟩:=List.mem_map.1 hx;exact z0e _ (by omega) (by decide) i)
  rw[hT] at h;exact h)
 obtain⟨l1,hl1⟩:∃l1,ll1 L=l1:=⟨_,rfl⟩
 obtain⟨l2,hl2⟩:∃l2,ll2 L=l2:=⟨_,rfl⟩
 rw[hS] at HCo HBs;rw[hl1,hl2] at HBs HTb;rw[hS,hT,hl1,hl2];unfold z8x at HBs;unfold ziF at HTb
 have HSt:=hid (fun w1:World=>by
  have h:=(Kd.new w1 (fun _=>0) (fun _=>0) 0 (.slice none 0 0) (.slice none 0 0) (.slice none 0 0)).store (cs false S) (cs true S) (smb S) (.slice none 0 0) (.slice none 0 0) (.slice none 0 0) rfl rfl rfl;rw[World.setRow_alloc_new] at h;exact h)
 have HLc:=hid (fun w1:World=>(Kd.new w1 (cs false S) (cs true S) (smb S) (.slice none 0 0) (.slice none 0 0) (.slice none 0 0)).counts);clear hb H hL hm hS hT hl1 hl2;go_enter Tryz.func70,Tryz.ntmps70
 go_wp2_with (first
  |(go_at_call 103;(with_reducible refine HCo.out.mono ?_);rintro e w1 ⟨rfl,b1⟩;have R1:=hid (HR0.out.below b1);have B1:=hid (HB0.out.trans (b1.mono HB0.out.size));clear b1)
  |refine z1L rfl _ rfl _ _ _ rfl ?_
  |refine z0g rfl 160 _ _ rfl _ _ rfl _ rfl (HSt.out w1) ?_
  |refine z0J rfl 158 _ rfl _ _ rfl _ (HLc.out w1) ?_
  |(go_at_call 105;(with_reducible refine(HBs.out _).mono ?_);rintro e w2 ⟨a,z,rfl,na,nz,ra,rz,b2⟩
    have kd:=((Kd.new w1 (cs false S) (cs true S) (smb S) (.slice none 0 0) (.slice none 0 0) (.slice none 0 0)).below b2).alloc (.cells #[.slice (some ⟨a,0,none⟩) 286 286,.slice (some ⟨z,0,none⟩) 30 30] 74);have k7:=kd.at1;have k8:=kd.at2;have f7:=kd.free 317;have f8:=kd.free 318;have KA:=hid ((kd.set 317 (.slice (some ⟨a,0,none⟩) 286 286) (.slice (some ⟨a,0,none⟩) 286 286) (.slice none 0 0) (.slice none 0 0) (kF1 _)).set 318 (.slice (some ⟨z,0,none⟩) 30 30) (.slice (some ⟨a,0,none⟩) 286 286) (.slice (some ⟨z,0,none⟩) 30 30) (.slice none 0 0) (kF2 _));have U1:=hid (show w.heap.size≤a from by have:=B1.out.size;simp at na;omega);have U2:=hid (show w.heap.size≤z from by have:=B1.out.size;simp at nz;omega);have hX:w.heap.size≠w1.heap.size:=by have:=R1.out.lt;omega
    have haX:a≠w1.heap.size:=by simp at na;omega
    have hzX:z≠w1.heap.size:=by simp at nz;omega
    have r2:=((R1.out.alloc (.cells (KV (cs false S) (cs true S) (smb S) (.slice none 0 0) (.slice none 0 0) (.slice none 0 0)) 160)).below b2).alloc (.cells #[.slice (some ⟨a,0,none⟩) 286 286,.slice (some ⟨z,0,none⟩) 30 30] 74);have R2:=hid ((r2.other (a:=⟨w1.heap.size,317,none⟩) hX (.slice (some ⟨a,0,none⟩) 286 286)).other (a:=⟨w1.heap.size,318,none⟩) hX (.slice (some ⟨z,0,none⟩) 30 30));have N1:=hid (((ra.alloc (.cells #[.slice (some ⟨a,0,none⟩) 286 286,.slice (some ⟨z,0,none⟩) 30 30] 74)).other (a:=⟨w1.heap.size,317,none⟩) haX (.slice (some ⟨a,0,none⟩) 286 286)).other (a:=⟨w1.heap.size,318,none⟩) haX (.slice (some ⟨z,0,none⟩) 30 30));have N2:=hid (((rz.alloc (.cells #[.slice (some ⟨a,0,none⟩) 286 286,.slice (some ⟨z,0,none⟩) 30 30] 74)).other (a:=⟨w1.heap.size,317,none⟩) hzX (.slice (some ⟨a,0,none⟩) 286 286)).other (a:=⟨w1.heap.size,318,none⟩) hzX (.slice (some ⟨z,0,none⟩) 30 30));have bb:=((B1.out.alloc B1.out.size (.cells (KV (cs false S) (cs true S) (smb S) (.slice none 0 0) (.slice none 0 0) (.slice none 0 0)) 160)).trans (b2.mono (B1.out.alloc B1.out.size _).size));have B2:=hid (((bb.alloc bb.size (.cells #[.slice (some ⟨a,0,none⟩) 286 286,.slice (some ⟨z,0,none⟩) 30 30] 74)).setCell (p:=⟨w1.heap.size,317,none⟩) B1.out.size (.slice (some ⟨a,0,none⟩) 286 286)).setCell (p:=⟨w1.heap.size,318,none⟩) B1.out.size (.slice (some ⟨z,0,none⟩) 30 30));clear kd r2 ra rz na nz b2 hX haX hzX bb)
  |(go_at_call 106;(with_reducible refine(HTb.out _ _ _ B2.out N1.out N2.out).mono ?_);rintro e w3 ⟨A3,c3,rfl,i3,b3⟩
    have kd:=KA.out.below b3;have k9:=kd.at3;have f9:=kd.free 319;have KB:=hid (kd.set 319 (.slice A3 T.length c3) (.slice (some ⟨a,0,none⟩) 286 286) (.slice (some ⟨z,0,none⟩) 30 30) (.slice A3 T.length c3) (kF3 _));have hX:w.heap.size≠w1.heap.size:=by have:=R1.out.lt;omega
    have R3:=hid ((R2.out.below b3).other (a:=⟨w1.heap.size,319,none⟩) hX (.slice A3 T.length c3));have M1:=hid ((Off.cellSet w1.heap.size 319 w3 (.slice A3 T.length c3)).nums (z7g (z0I N1.out b3)) (fun o=>kd.no (by decide) o _));have M2:=hid ((Off.cellSet w1.heap.size 319 w3 (.slice A3 T.length c3)).nums (z7g (z0I N2.out b3)) (fun o=>kd.no (by decide) o _));have M3:=hid ((Off.cellSet w1.heap.size 319 w3 (.slice A3 T.length c3)).cds i3 (fun o x=>kd.no (by decide) o x));have B3:=hid ((B2.out.trans (b3.mono B2.out.size)).setCell (p:=⟨w1.heap.size,319,none⟩) B1.out.size (.slice A3 T.length c3));have LD:=hid KB.out.load;have ST:=hid (R3.out.store (cs false S) (cs true S) (smb S) (.slice (some ⟨a,0,none⟩) 286 286) (.slice (some ⟨z,0,none⟩) 30 30) (.slice A3 T.length c3) rfl rfl rfl);clear kd i3 b3 hX)
  |refine z0J rfl 160 _ rfl _ _ rfl _ LD.out ?_
  |refine z0g rfl 160 _ _ rfl _ _ rfl _ rfl ST.out ?_)
 have hF:=R3.out.setRow (cs false S) (cs true S) (smb S) (.slice (some ⟨a,0,none⟩) 286 286) (.slice (some ⟨z,0,none⟩) 30 30) (.slice A3 T.length c3);refine bodyPost_ret (v:=.tuple #[.agg (KV (cs false S) (cs true S) (smb S) (.slice (some ⟨a,0,none⟩) 286 286) (.slice (some ⟨z,0,none⟩) 30 30) (.slice A3 T.length c3)),.int .i64 0]) (z0f (p:=4) (u:=5) (ty:= 160) rfl _ _ w.heap.size _ _ _ _ rfl hF Tryz.underlying160 rfl (by rw[z0P];exact z86)) rfl ⟨_,286,_,30,A3,c3,rfl,?_,?_,?_,?_,fun b o e=>(by cases e;exact U1.out),fun b o e=>(by cases e;exact U2.out)⟩
 · exact(Off.rowSet w.heap.size _ _).nums M1.out (fun o=>R3.out.no (by decide) o _)
 · exact(Off.rowSet w.heap.size _ _).nums M2.out (fun o=>R3.out.no (by decide) o _)
 · exact(Off.rowSet w.heap.size _ _).cds M3.out (fun o x=>R3.out.no (by decide) o x)
 · exact below_setRow B3.out w.heap.size _ qR
end Go.Proofs.YtacelhaidcmbcaaGreatDoor.V
namespace Go.Proofs.YtacelhaidcmbcaaGreatDoor.V
open Go Go.RowKit M U
def szc:List Cd→Nat
 |[]=>0
 |c::l=>c.2+szc l
theorem z3Z:∀l r:List Cd,szc (l++r)=szc l+szc r
 |[],r=>by simp[szc]
 |c::l,r=>by simp only[List.cons_append,szc,z3Z l r];omega
theorem zcM(l:List Cd)(k:Nat)(hk:k<l.length):szc (l.take (k+1))=szc (l.take k)+(l.getD k default).2:=by
 rw[List.take_add_one,List.getD,qE hk,z3Z];simp[szc]
theorem zeA{l:List Cd}(h:∀c∈l,c.2≤255):szc l≤255*l.length:=by
 induction l with
 |nil=>simp[szc]
 |cons c l ih=>
  have h1:=ih (fun z hz=>h z (List.mem_cons_of_mem _ hz));have h2:=h c List.mem_cons_self;simp only[szc,qC];omega
theorem zde(n k:Nat):put n (k+1)=n%2::put (n/2) k:=by
 unfold put;rw[List.range_succ_eq_map,List.map_cons,List.map_map];congr 1
 · simp
 · apply List.map_congr_left
   intro i _;show n/2^(i+1)%2=n/2/2^i%2
   rw[Nat.pow_succ,Nat.mul_comm,Nat.div_div_eq_div_mul]
theorem z7H(c:Nat):∀s,put (rv c s) s=cdb c s
 |0=>rfl
 |s+1=>by
  rw[zde,ze7,←z7H c s];have h:rv c (s+1)=2*rv c s+c/2^s%2:=rfl;rw[h];have h2:c/2^s%2<2:=Nat.mod_lt _ (by decide);rw[show(2*rv c s+c/2^s%2)%2=c/2^s%2 by omega,show(2*rv c s+c/2^s%2) /2=rv c s by omega]
def cbs(c:Cd):List Nat:=put c.1 c.2
theorem z3r:∀l:List Cd,(l.flatMap cbs).length=szc l
 |[]=>rfl
 |c::l=>by rw[List.flatMap_cons,qA,z3r l];show(put c.1 c.2).length+_=_;rw[z02];rfl
theorem zcD(f:Nat→Nat)(y:Rn):(tr1 f y).flatMap cbs=wrn f y:=by
 unfold tr1 wrn cbs;simp only[List.flatMap_cons,List.flatMap_nil,List.append_nil];rw[←z7H];rfl
theorem z7p(f:Nat→Nat):∀r:List Rn,(tbr f r).flatMap cbs=r.flatMap (wrn f)
 |[]=>rfl
 |y::r=>by
  have ih:=z7p f r;unfold tbr at ih ⊢;rw[List.flatMap_cons,List.flatMap_append,zcD,ih,List.flatMap_cons]
theorem zcI(x1 x2:List Nat):(tbl x1 x2).flatMap cbs=dyb x1 x2 (rrn x1 x2) (rrf x1 x2):=by
 obtain⟨f,hf⟩:∃f,rrf x1 x2=f:=⟨_,rfl⟩
 have h1:(tb3 x1 x2 f).flatMap cbs=put (upt x1 257 - 257) 5++put (upt x2 1 - 1) 5++put (upt (inl f) 4 - 4) 4:=by simp[tb3,cbs]
 have h2:(tbi f).flatMap cbs=((inl f).take (upt (inl f) 4)).flatMap (fun x=>put x 3):=by
  unfold tbi;rw[List.flatMap_map];rfl
 unfold tbl dyb;rw[hf,List.flatMap_append,List.flatMap_append,z7p,h1,h2]
def Rft(r:Rn):Prop:=r.e<2^rbn r.s
theorem zhg(n:Nat):∀r∈zrs n,Rft r:=by
 induction n using Nat.strongRecOn with
 |_ n ih=>
  intro r hr;by_cases h:11≤n
  · rw[z1n h,List.mem_cons] at hr
    rcases hr with rfl|hr
    · show _<128;simp only;omega
    · exact ih _ (by omega) r hr
  · by_cases h3:3≤n
    · rw[z1m h h3,List.mem_singleton] at hr
      subst hr;show _<8;simp only;omega
    · rw[z17 h3] at hr
      rw[List.eq_of_mem_replicate hr];show 0<1;omega
theorem zaq{v:Nat}(hv:v≤15):rbn v=0:=by unfold rbn;rw[if_pos (by omega)]
theorem zge(v:Nat)(hv:v≤15)(n:Nat):∀r∈z6H v n,Rft r:=by
 induction n using Nat.strongRecOn with
 |_ n ih=>
  intro r hr;by_cases h:3≤n
  · rw[z11 h,List.mem_cons] at hr
    rcases hr with rfl|hr
    · show _<4;simp only;omega
    · exact ih _ (by omega) r hr
  · rw[z0L h] at hr
    rw[List.eq_of_mem_replicate hr];unfold Rft;rw[zaq hv];show 0<1;omega
theorem ziX:∀l:List Nat,(∀v∈l,v≤15)→∀r∈pk l,Rft r:=by
 intro l;generalize hn:l.length=n
 induction n using Nat.strongRecOn generalizing l with
 |_ n ih=>
  cases l with
  |nil=>intro _ r hr;rw[z4b] at hr;cases hr
  |cons v l=>
   intro hl r hr;rw[z2g,List.mem_append] at hr;have hv:=hl v (by simp);rcases hr with hr|hr
   · unfold one at hr
     split at hr
     · exact zhg _ r hr
     · unfold oth at hr
       rw[List.mem_cons] at hr;rcases hr with rfl|hr
       · unfold Rft;rw[zaq hv];show 0<1;omega
       · exact zge v hv _ r hr
   · rw[qC] at hn
     exact ih (l.drop (ru v l)).length (by rw[List.length_drop];omega) _ rfl (fun x hx=>hl x (by simp[List.mem_of_mem_drop hx])) r hr
theorem z9V(L:List Tk):(tbl (lx1 L) (lx2 L)).flatMap cbs=hdd L:=zcI _ _
theorem z5y(L:List Tk):(tbl (lx1 L) (lx2 L)).length≤1000∧∀c∈tbl (lx1 L) (lx2 L),c.2≤15∧c.1<2^c.2:=by
 have hr:rrn (lx1 L) (lx2 L)=rrs L:=rfl;have hf:rrf (lx1 L) (lx2 L)=ll3 L:=rfl;have hl:=za9 L
 have hall:∀v∈(lx1 L).take (upt (lx1 L) 257)++(lx2 L).take (upt (lx2 L) 1),v≤15:=fun v hv=>by
  rcases List.mem_append.1 hv with q|q
  · obtain⟨i,_,rfl⟩:=List.mem_map.1 (List.mem_of_mem_take q);exact z0e _ (by omega) (by decide) i
  · obtain⟨i,_,rfl⟩:=List.mem_map.1 (List.mem_of_mem_take q);exact z0e _ (by omega) (by decide) i
 have hft:∀y∈rrs L,Rft y:=ziX _ hall;have h7:∀i,ll3 L i≤7:=fun i=>z0e _ (by omega) (by decide) i
 unfold tbl;rw[hr,hf];refine⟨?_,fun c hc=> ?_⟩
 · rw[qA,qA,z6v]
   have h1:(tbi (ll3 L)).length≤19:=by
    unfold tbi;rw[List.length_map,List.length_take];have:(inl (ll3 L)).length=19:=by simp[inl,ord]
    omega
   have h2:(tb3 (lx1 L) (lx2 L) (ll3 L)).length=3:=rfl;omega
 · rcases List.mem_append.1 hc with hc|hc
   · rcases List.mem_append.1 hc with hc|hc
     · have u1:=z1f (lx1 L) 257
       have u2:=z1f (lx2 L) 1;have u3:=z1f (inl (ll3 L)) 4;have l1:(lx1 L).length=286:=by unfold lx1;simp
       have l2:(lx2 L).length=30:=by unfold lx2;simp
       have l3:(inl (ll3 L)).length=19:=by simp[inl,ord]
       unfold tb3 at hc;simp only[List.mem_cons,List.not_mem_nil,or_false] at hc;rcases hc with rfl|rfl|rfl
       · exact⟨by simp,by show _<32;simp only;omega⟩
       · exact⟨by simp,by show _<32;simp only;omega⟩
       · exact⟨by simp,by show _<16;simp only;omega⟩
     · unfold tbi at hc
       obtain⟨x,hx,rfl⟩:=List.mem_map.1 hc;have:=zbu (ll3 L) h7 x (List.mem_of_mem_take hx);exact⟨by simp,by show x<8;omega⟩
   · unfold tbr at hc
     obtain⟨y,hy,hc⟩:=List.mem_flatMap.1 hc;have hy2:=hft y hy;unfold tr1 at hc;simp only[List.mem_cons,List.not_mem_nil,or_false] at hc;rcases hc with rfl|rfl
     · exact⟨qK (h7 _) (by omega),C.rc_lt _ _ _⟩
     · exact⟨qK (z7F _) (by omega),hy2⟩
end Go.Proofs.YtacelhaidcmbcaaGreatDoor.V
namespace Go.Proofs.YtacelhaidcmbcaaGreatDoor.V
open Go.Lib (hid)
open Go Go.RowKit M U
theorem z7v{f:Nat→Nat}{c:Nat}:∀n,(∀i,i<n→f i≤c)→M.sm f n≤n*c
 |0,_=>by simp[M.sm]
 |n+1,h=>by
  have:=z7v n (fun i hi=>h i (by omega));have:=h n (by omega);simp only[M.sm];rw[Nat.succ_mul];omega
theorem z3V(A B:Option Addr)(n c m d:Nat)(f g:Nat→Nat)(w:World)(H1:z09 w .i64 A n (fun i=>(f i:Int)))(H2:z09 w .u8 B m (fun i=>(g i:Int)))(hnm:n≤m)(hn:n≤400)(hf:∀i,f i≤200001)(hg:∀i,g i≤255):
 Calls Tryz.prog 121 #[.slice A n c,.slice B m d] w fun e w'=>e=.returned (.int .i64 (M.sm (fun i=>f i*g i) n:Nat))∧w'=w:=by
 have HN1:=hid H1;have HN2:=hid H2;have hp:∀i,f i*g i≤51000255:=fun i=>Nat.mul_le_mul (hf i) (hg i)
 have hcap:∀k,M.sm (fun i=>f i*g i) k≤k*51000255:=fun k=>z7v k (fun i _=>hp i)
 have HP:=hid hp;have HCap:=hid hcap;have HF:=hid hf;have HG:=hid hg;clear H1 H2 hp hcap hf hg;go_enter Tryz.func121,Tryz.ntmps121;go_wp2_with fail
 go_loopw [5,10] (fun s x wr=> ∃k:Nat,k≤n∧x=.int .i64 k∧s=.int .i64 (M.sm (fun i=>f i*g i) k:Nat)∧w=wr) (fun _ x _=>n - (intOf x).toNat)
 case atStart=>exact⟨0,qZ,rfl,rfl,rfl⟩
 case round=>
  obtain⟨k,hk,rfl,rfl,rfl⟩:=hrel;by_cases hlt:k<n
  · have d1:decide ((k:Int)<(n:Int))=true:=q9T (by omega)
    have d1':decide (k<n)=true:=q9T hlt;obtain⟨b1,o1,rfl,_hb1,hc1⟩:=HN1.out (by omega);obtain⟨b2,o2,rfl,_hb2,hc2⟩:=HN2.out (by omega);have c0:=hc1 k hlt;have c1:=hc2 k (by omega);simp only at c0 c1;have hs:M.sm (fun i=>f i*g i) (k+1)=M.sm (fun i=>f i*g i) k+f k*g k:=rfl;have hq:=HP.out k;have hS:=HCap.out k;have hS2:M.sm (fun i=>f i*g i) k≤400*51000255:=qK hS (Nat.mul_le_mul_right _ (by omega));obtain⟨a,ha⟩:∃a,f k=a:=⟨_,rfl⟩
    obtain⟨z,hz⟩:∃z,g k=z:=⟨_,rfl⟩
    have ha2:a≤200001:=by rw[←ha];exact HF.out k
    have hz2:z≤255:=by rw[←hz];exact HG.out k
    rw[ha,hz] at hs hq;rw[ha] at c0;rw[hz] at c1;obtain⟨p,hp⟩:∃p,a*z=p:=⟨_,rfl⟩
    rw[hp] at hs hq;have e1:(a:Int)*(z:Int)=(p:Int):=by rw[←hp];exact(Int.natCast_mul a z).symm
    obtain⟨s,hse⟩:∃s,M.sm (fun i=>f i*g i) k=s:=⟨_,rfl⟩
    rw[hse] at hs hS2;have HS:=hid hs;have hkm:k<m:=by omega
    have hk4:k≤400:=by omega
    simp only[hse];clear hc1 hc2 hs hS ha hz hp hse;go_wp2_with fail;go_roundw
    case rel=>exact⟨k+1,by omega,by go_num,by rw[HS.out];go_num,trivial⟩
    case measure=>(simp[intOf];try omega)
  · obtain rfl:k=n:=by omega
    have d1:decide ((k:Int)<(k:Int))=false:=qF (by omega);have d1':decide (k<k)=false:=qF (by omega);go_wp2_with fail;go_ret;exact⟨rfl,rfl⟩
theorem zbU(S:List Sy)(A1 A2 A3:Option Addr)(n1 c1 c2 N c3:Nat)(l1 l2:Nat→Nat)(T:List Cd)(w:World)(hS:S.length≤200001)(hSb:smb S≤3000000)(H1:z09 w .u8 A1 n1 (fun i=>(l1 i:Int)))(H2:z09 w .u8 A2 30 (fun i=>(l2 i:Int)))(H3:z0b w A3 N T)(h1:286≤n1)(hN:N≤1000)(hT:∀c∈T,c.2≤255)(hl1:∀i,l1 i≤255)(hl2:∀i,l2 i≤255):
 Calls Tryz.prog 96 #[.agg (KV (cs false S) (cs true S) (smb S) (.slice A1 n1 c1) (.slice A2 30 c2) (.slice A3 N c3))] w fun e w'=>e=.returned (.int .i64 ((3+szc T+(M.sm (fun i=>cs false S i*l1 i) 286+M.sm (fun i=>cs true S i*l2 i) 30)+smb S:Nat):Int))∧Below w.heap.size w w':=by
 have HK:=hid (Kd.new w (cs false S) (cs true S) (smb S) (.slice A1 n1 c1) (.slice A2 30 c2) (.slice A3 N c3));have HB0:=hid ((Below.refl w.heap.size w).alloc qR (.cells (KV (cs false S) (cs true S) (smb S) (.slice A1 n1 c1) (.slice A2 30 c2) (.slice A3 N c3)) 160))
 have HW1:=hid (show ∀W,Below (w.heap.size+1) (w.alloc (.cells (KV (cs false S) (cs true S) (smb S) (.slice A1 n1 c1) (.slice A2 30 c2) (.slice A3 N c3)) 160)) W→∀q,Calls Tryz.prog 121 #[.slice (some ⟨w.heap.size,0,none⟩) 286 286,.slice A1 n1 c1] (W.drewN q) fun e w'=>e=.returned (.int .i64 (M.sm (fun i=>cs false S i*l1 i) 286:Nat))∧w'=W.drewN q from fun W b q=>by
  have hk:Kd W w.heap.size (cs false S) (cs true S) (smb S) (.slice A1 n1 c1) (.slice A2 30 c2) (.slice A3 N c3):=(Kd.new w _ _ _ _ _ _).below (b.mono (by simp));exact z3V _ _ 286 286 n1 c1 (cs false S) l1 (W.drewN q) (hk.nums.drewN q) ((H1.below (HB0.out.trans (b.mono (by omega)))).drewN q) h1 (by omega) (fun i=>qK (z2y false S i) hS) hl1)
 have HW2:=hid (show ∀W,Below (w.heap.size+1) (w.alloc (.cells (KV (cs false S) (cs true S) (smb S) (.slice A1 n1 c1) (.slice A2 30 c2) (.slice A3 N c3)) 160)) W→∀q,Calls Tryz.prog 121 #[.slice (some ⟨w.heap.size,286,none⟩) 30 30,.slice A2 30 c2] (W.drewN q) fun e w'=>e=.returned (.int .i64 (M.sm (fun i=>cs true S i*l2 i) 30:Nat))∧w'=W.drewN q from fun W b q=>by
  have hk:Kd W w.heap.size (cs false S) (cs true S) (smb S) (.slice A1 n1 c1) (.slice A2 30 c2) (.slice A3 N c3):=(Kd.new w _ _ _ _ _ _).below (b.mono (by simp));exact z3V _ _ 30 30 30 c2 (cs true S) l2 (W.drewN q) (hk.numsd.drewN q) ((H2.below (HB0.out.trans (b.mono (by omega)))).drewN q) (by omega) (by omega) (fun i=>qK (z2y true S i) hS) hl2)
 have H3':=hid H3
 have hT2:∀k,szc (T.take k)≤255000:=fun k=>by
  have h:=zeA (l:=T.take k) (fun c hc=>hT c (List.mem_of_mem_take hc));have:(T.take k).length≤1000:=by rw[List.length_take,H3.leng];omega
  omega
 have HT2:=hid hT2;have HTg:=hid (show ∀k,k<N→(T.getD k default).2≤255 from fun k hk=>hT _ (by rw[List.getD,qE (by rw[H3.leng];exact hk)];exact List.getElem_mem _));have HLen:=hid H3.leng;have e1:M.sm (fun i=>cs false S i*l1 i) 286≤286*51000255:=z7v 286 (fun i _=>Nat.mul_le_mul (qK (z2y false S i) hS) (hl1 i));have e2:M.sm (fun i=>cs true S i*l2 i) 30≤30*51000255:=z7v 30 (fun i _=>Nat.mul_le_mul (qK (z2y true S i) hS) (hl2 i));obtain⟨X1,hX1⟩:∃X1,M.sm (fun i=>cs false S i*l1 i) 286=X1:=⟨_,rfl⟩
 obtain⟨X2,hX2⟩:∃X2,M.sm (fun i=>cs true S i*l2 i) 30=X2:=⟨_,rfl⟩
 obtain⟨b,hb⟩:∃b,smb S=b:=⟨_,rfl⟩
 rw[hX1] at HW1 e1;rw[hX2] at HW2 e2;rw[hb] at HK HB0 HW1 HW2 hSb;rw[hX1,hX2,hb];clear H1 H2 H3 hT hT2 hl1 hl2 hX1 hX2 hb h1 hS;go_enter Tryz.func96,Tryz.ntmps96;have k9:=HK.out.at3;go_wp2_with fail
 go_loopw [3,9] (fun s x wr=> ∃k:Nat,k≤N∧x=.int .i64 k∧s=.int .i64 (3+szc (T.take k):Nat)∧Below (w.heap.size+1) (w.alloc (.cells (KV (cs false S) (cs true S) b (.slice A1 n1 c1) (.slice A2 30 c2) (.slice A3 N c3)) 160)) wr) (fun _ x _=>N - (intOf x).toNat)
 case atStart=>exact⟨0,qZ,rfl,rfl,Below.refl _ _⟩
 case round=>
  obtain⟨k,hk,rfl,rfl,hb⟩:=hrel;by_cases hlt:k<N
  · have d1:decide ((k:Int)<(N:Int))=true:=q9T (by omega)
    have d1':decide (k<N)=true:=q9T hlt;obtain⟨b3,o3,rfl,hb3,hc3⟩:=H3'.out.at (by omega);obtain⟨g0,g1⟩:=hc3 k hlt;have hbw:Below w.heap.size w wr:=HB0.out.trans (hb.mono (by omega));have c0:=(hbw.cell (p:=⟨b3,o3+k*2,none⟩) hb3).trans g0;have y1:=(hbw.cell (p:=⟨b3,o3+k*2+1,none⟩) hb3).trans g1;have hz:=HTg.out k hlt;have hs:=zcM T k (by rw[HLen.out];exact hlt);have hc:=HT2.out k;obtain⟨t,ht⟩:∃t,T.getD k default=t:=⟨_,rfl⟩
    rw[ht] at c0 y1 hz hs;obtain⟨t0,t1⟩:=t;simp only at c0 y1 hz hs;obtain⟨s,hse⟩:∃s,szc (T.take k)=s:=⟨_,rfl⟩
    rw[hse] at hs hc;simp only[hse];have HS:=hid hs;have HB:=hid hb;have hk2:k≤1000:=by omega
    clear hb hbw hc3 hs ht hse g0 g1;go_wp2_with fail;go_roundw
    case rel=>exact⟨k+1,by omega,by go_num,by rw[HS.out];go_num,HB.out.alloc (by have:=HB.out.size;simp at this;omega) _⟩
    case measure=>(simp[intOf];try omega)
  · obtain rfl:k=N:=by omega
    have d1:decide ((k:Int)<(k:Int))=false:=qF (by omega);have d1':decide (k<k)=false:=qF (by omega);have kd:=HK.out.below (hb.mono (by simp));have k7:=kd.at1;have k8:=kd.at2;have k6:=kd.bits;have hc:=HT2.out k;rw[List.take_of_length_le (by rw[HLen.out];exact qR)] at hc;simp only[List.take_of_length_le (show T.length≤k by rw[HLen.out];exact qR)];obtain⟨s,hse⟩:∃s,szc T=s:=⟨_,rfl⟩
    rw[hse] at hc;simp only[hse];have HSe:=hid (show((3+szc T+(X1+X2)+b:Nat):Int)=3+(s:Int)+((X1:Int)+(X2:Int))+(b:Int) by rw[hse];omega);have HBw:=hid (HB0.out.trans (hb.mono (by omega)));have HQ1:=hid (HW1.out wr hb);have HQ2:=hid (HW2.out wr hb);clear kd hb hse;go_wp2_with fail
    go_quiet (first
     |(go_at_call 121;with_reducible refine Calls.quiet_of_same (HQ1.out _))
     |(go_at_call 121;with_reducible refine Calls.quiet_of_same (HQ2.out _)))
    go_wp2_with fail;go_ret;exact⟨by rw[HSe.out];rfl,z00 HBw.out nq⟩
attribute [local go_sem] Oper.semAt_some
abbrev Pz:={x:ByteArray×Bool//x.1.size≤65535}
def zhc(x:Pz):Array Value:= #[.string x.1.1,.bool x.1.2]
def pcs(s:ByteArray):List Pz:=
 if h:s.size≤65535 then[⟨(s,true),h⟩] else⟨(s.extract 0 65535,false),by simp only[ByteArray.size_extract];omega⟩::pcs (s.extract 65535 s.size)
termination_by s.size
decreasing_by
 rw[ByteArray.size_extract];omega
theorem z4Q{s:ByteArray}(h:s.size≤65535):pcs s=[⟨(s,true),h⟩]:=by rw[pcs,dif_pos h]
theorem z2E{s:ByteArray}(h:¬s.size≤65535):pcs s=⟨(s.extract 0 65535,false),by simp only[ByteArray.size_extract];omega⟩::pcs (s.extract 65535 s.size):=by rw[pcs,dif_neg h]
theorem zaJ(s:ByteArray):(pcs s).length≤s.size/65535+1:=by
 generalize hn:s.size=n
 induction n using Nat.strongRecOn generalizing s with
 |_ n ih=>
  by_cases h:s.size≤65535
  · rw[z4Q h];simp
  · rw[z2E h,qC]
    have:=ih (n - 65535) (by omega) (s.extract 65535 s.size) (by rw[ByteArray.size_extract];omega);omega
def stp(last:Bool):Nat→List Pz→List Nat
 |_,[]=> []
 |o,x::l=>stb o x.1.1 (last&&x.1.2)++stp last (o+(stb o x.1.1 (last&&x.1.2)).length) l
theorem z4B(last:Bool)(x:Pz):∀ (l:List Pz) (o:Nat),stp last o (l++[x])=stp last o l++stb (o+(stp last o l).length) x.1.1 (last&&x.1.2)
 |[],o=>by simp[stp]
 |y::l,o=>by
  simp only[List.cons_append,stp,z4B last x l];rw[qD,qA,Nat.add_assoc]
theorem z9Z(last:Bool)(s:ByteArray)(o:Nat):stp last o (pcs s)=stm o s last:=by
 generalize hn:s.size=n
 induction n using Nat.strongRecOn generalizing s o with
 |_ n ih=>
  by_cases h:s.size≤65535
  · rw[z4Q h,z4C h];simp[stp]
  · rw[z2E h,z4D h]
    simp only[stp,Bool.and_false];rw[ih (n - 65535) (by omega) (s.extract 65535 s.size) _ (by rw[ByteArray.size_extract];omega)]
theorem z7u(last:Bool):∀ (l:List Pz) (o:Nat),(stp last o l).length≤524322*l.length
 |[],o=>by simp[stp]
 |x::l,o=>by
  have:=z7u last l (o+(stb o x.1.1 (last&&x.1.2)).length);have h:=x.2;have hp:pd (o+3)≤7:=by unfold pd;omega
  simp only[stp,qA,qC];rw[z07] at*;omega
theorem z92(m l Bs:Nat)(s:ByteArray)(hm:1≤m)(hs:s.size≤1000000)(Kp:World→World→Prop)(W0:World)(J Jx:List Pz→World→Prop)
 (hY:∀pre x W,J pre W→pre.length<(pcs s).length→YieldAt Fence.wide (m - 1) Tryz.prog l (zhc x) W fun e W'=>
  (e=.returned (.bool true)∧J (pre++[x]) W'∧Kp W W')∨(e=.returned (.bool false)∧Jx (pre++[x]) W'))
 (hBs:W0.cell? ⟨Bs,0,none⟩=some (.string s)) (h0:J [] W0):
 CallsIn Fence.wide m Tryz.prog 124 #[.func (.yield l) #[] #[],.pointer (some ⟨Bs,0,none⟩)] W0 fun e W'=>(∃v,e=.returned v)∧
  ((∃ys:List Pz,ys=pcs s∧J ys W')∨(∃pre:List Pz,(∃r,pre++r=pcs s)∧Jx pre W')):=by
 refine callsIn_of_wp Tryz.func124 rfl trivial ?_ rfl;simp only[Tryz.ntmps124,List.size_toArray,qC,List.length_nil,Nat.reduceAdd,Nat.reduceSub,Array.replicate_succ,Array.replicate_zero,List.push_toArray,List.append_toArray,List.nil_append,List.cons_append];have HY:=hid hY;clear hY;gi_wp2
 gi_loopw [3] (fun v wr=> ∃ (t:ByteArray) (pre:List Pz),v=.string t∧t.size≤1000000∧pre++pcs t=pcs s∧J pre wr)
  (fun v _=>match v with|.string t=>t.size|_=>0)
 case atStart=>exact⟨s,[],rfl,hs,rfl,h0⟩
 case round=>
  obtain⟨t,pre,rfl,ht,hp,hJs⟩:=hrel;by_cases hlt:t.size≤65535
  · have d1:decide ((65535:Int)<(t.size:Int))=false:=qF (by omega)
    have d1':decide (65535<t.size)=false:=qF (by omega);rw[z4Q hlt] at hp;obtain⟨fn,tmps,asg,body,hy,hR⟩:=HY.out pre ⟨(t,true),hlt⟩ wr hJs (by rw[←hp];simp);unfold zhc at hy;dsimp only at hy;have HP:=hid hp;clear hp hJs h0;gi_wp2;refine hR.mono ?_
    rintro e W3 (⟨rfl,hJ3,hk3⟩|⟨rfl,hJx3⟩)
    · gi_wp2
      go_end0;exact⟨⟨_,rfl⟩,.inl ⟨_,HP.out,hJ3⟩⟩
    · gi_wp2
      go_end0;exact⟨⟨_,rfl⟩,.inr ⟨_,⟨[],by rw[List.append_nil];exact HP.out⟩,hJx3⟩⟩
  · have d1:decide ((65535:Int)<(t.size:Int))=true:=q9T (by omega)
    have d1':decide (65535<t.size)=true:=q9T (by omega);have hts:65535≤t.size:=by omega
    rw[z2E hlt] at hp;obtain⟨fn,tmps,asg,body,hy,hR⟩:=HY.out pre ⟨(t.extract 0 65535,false),by simp only[ByteArray.size_extract];omega⟩ wr hJs (by rw[←hp];simp);unfold zhc at hy;dsimp only at hy;have HP:=hid hp;clear hp hJs h0;gi_wp2;refine hR.mono ?_
    rintro e W3 (⟨rfl,hJ3,hk3⟩|⟨rfl,hJx3⟩)
    · gi_wp2
      go_roundw
      case rel=>exact⟨t.extract 65535 t.size,_,rfl,by rw[ByteArray.size_extract];omega,by rw[qD];exact HP.out,hJ3⟩
      case measure=>(simp;try omega)
    · gi_wp2
      refine bodyPost_ret (results_none rfl _ _ _) rfl ?_
      exact⟨⟨_,rfl⟩,.inr ⟨_,⟨_,by rw[qD];exact HP.out⟩,hJx3⟩⟩
theorem z4d(s:ByteArray)(w:World):Calls Tryz.prog 101 #[.string s] w fun e w'=>
 e=.returned (.func (.func 124) #[] #[.pointer (some ⟨w.heap.size,0,none⟩)])∧w'=w.alloc (.cells #[.string s] 9):=by
 go_enter Tryz.func101,Tryz.ntmps101;go_wp2;go_ret;exact⟨by simp,rfl⟩
theorem z2u(m Bs:Nat)(s:ByteArray)(hm:1≤m)(hs:s.size≤1000000)(Kp:World→World→Prop)(w:World)(hBs:w.cell? ⟨Bs,0,none⟩=some (.string s)):
 SeqStopsK Fence.wide m Tryz.prog 124 #[.pointer (some ⟨Bs,0,none⟩)] zhc Kp (fun ys=>ys=pcs s) (fun pre=> ∃r,pre++r=pcs s) (pcs s).length w:=fun l J Jx W hW hJ _ hY h0=>
 z92 m l Bs s hm hs Kp W J Jx hY ((hW.cell (p:=⟨Bs,0,none⟩) (qB hBs)).trans hBs) h0
end Go.Proofs.YtacelhaidcmbcaaGreatDoor.V
namespace Go.Proofs.YtacelhaidcmbcaaGreatDoor.V
open Go.Lib (hid)
open Go Go.RowKit M U
attribute [local go_sem] Oper.semAt_some
def ziv(w2:World)(E n₁ o:Nat)(pre:List Pz)(W:World):Prop:=
 W.heap[E]? =some (.cells #[.int .i64 ((o+(stp false o pre).length:Nat):Int)] 3 (0,0))∧Kept (Sx E E n₁) w2 W
theorem ziv.own{w2:World}{E n₁ o:Nat}(h0:E<n₁):OwnFrom n₁ (ziv w2 E n₁ o):=fun pre W W' row hs hg hr=>by
 obtain⟨h1,h2⟩:=hs;exact⟨(hg.block E (qW.1 h1).1 (fun e=>by have:=(hr E e.symm).1;omega)).trans h1,h2.grown hg (fun r e=> .inl (.inr (.inr (hr r e).1)))⟩
theorem z3F(s:ByteArray)(p:Nat)(w:World)(hs:s.size≤1000000)(hp:p≤1000000):
 Calls Tryz.prog 95 #[.string s,.int .i64 p] w fun e w'=>e=.returned (.int .i64 ((stm (p%8) s false).length:Nat))∧Below w.heap.size w w':=by
 obtain⟨o,ho⟩:∃o,p%8=o:=⟨_,rfl⟩
 have ho8:o≤7:=by omega
 have m1:(p:Int)%8=(o:Int):=by omega
 have m2:(p:Int).tmod 8=(o:Int):=by rw[Int.tmod_eq_emod_of_nonneg (by omega)];omega
 have HN:=hid (show(pcs s).length≤17 from by have:=zaJ s;omega);have HPc:=hid (show stp false o (pcs s)=stm o s false from z9Z false s o);rw[ho];clear ho;refine(callsIn_wide (n:=5)).1 ?_
 refine callsIn_of_wp_marks Tryz.func95 rfl trivial ?_ rfl;simp only[Tryz.ntmps95,List.size_toArray,qC,List.length_nil,Nat.reduceAdd,Nat.reduceSub,Array.replicate_succ,Array.replicate_zero,List.push_toArray,List.append_toArray,List.nil_append,List.cons_append]
 gi_wp2_with (refine⟨trivial,?_⟩;gi_at_call 101;refine(callsIn_wide.2 (z4d _ _)).mono ?_;rintro e w' ⟨rfl,rfl⟩)
 have hz2:((w.alloc (.cells #[.int .i64 o] 3)).alloc (.cells #[.string s] 9)).heap.size=w.heap.size+1+1:=by simp
 have hb2:Below w.heap.size w ((w.alloc (.cells #[.int .i64 o] 3)).alloc (.cells #[.string s] 9)):=((Below.refl _ w).alloc qR _).alloc (by simp) _;have g0:((w.alloc (.cells #[.int .i64 o] 3)).alloc (.cells #[.string s] 9)).heap[w.heap.size]? =some (.cells #[.int .i64 o] 3 (0,0)):=old_at _ (new_at _ _)
 have g1:((w.alloc (.cells #[.int .i64 o] 3)).alloc (.cells #[.string s] 9)).heap[w.heap.size+1]? =some (.cells #[.string s] 9 (0,0)):=by
  have:=new_at (w.alloc (.cells #[.int .i64 o] 3)) (.cells #[.string s] 9);rw[World.size_alloc] at this;exact this
 obtain⟨w2,hw2⟩:∃w2,(w.alloc (.cells #[.int .i64 o] 3)).alloc (.cells #[.string s] 9)=w2:=⟨_,rfl⟩
 rw[hw2] at hz2 hb2 g0 g1 ⊢;clear hw2;have HB2:=hid hb2;have hEw:w.heap.size<w2.heap.size:=by omega
 have HFd:=hid (show ∀W,Kept (Sx w.heap.size w.heap.size w2.heap.size) w2 W→Below w.heap.size w W from fun W hk=>
  HB2.out.trans (hk.below (by omega) (fun j hj=>by rcases hj with hj|hj|hj<;>omega)))
 clear hb2 hz2 m1 m2
 refine wpIn_rangeFunc_ownF rfl (by omega) (gf:= 124) (lb:= #[.pointer (some ⟨w.heap.size+1,0,none⟩)]) rfl trivial (enters_of Tryz.func124 (by kernel_rfl) rfl)
  (z2u 4 (w.heap.size+1) s (by omega) hs (Kept (Sx w.heap.size w.heap.size w2.heap.size)) w2 (one_cell g1))
  (fun h k=>keptSx_t h k) (fun W l o o' hl h _ _=>keptSx_b W l o o' hl h) (Below.refl _ _) (fun _=>rfl)
  (ziv w2 w.heap.size w2.heap.size o) (fun _ _ _=>False) (ziv.own hEw) (fun _ _ _ _ _ hs _ _=>hs)
  ⟨by simpa [stp] using g0,Kept.refl _ _⟩
  (fun x=> {tmps:= #[.string s,.int .i64 p,undef,undef,.int .i64 0,.int .i64 o,.pointer (some ⟨w.heap.size,0,none⟩),.string x.1.1,.int .i64 p,.int .i64 o,.int .i64 o,.string s,.func (.func 124) #[] #[.pointer (some ⟨w.heap.size+1,0,none⟩)],.string x.1.1,.bool x.1.2,undef,undef,undef,undef,undef,undef,undef,undef,undef,undef,undef,undef,undef,undef,undef,undef,undef],defers:=[]})
  ?assign ?body ?done ?stop
 case assign=>
  intro l x W K hK;unfold zhc;gi_wp2;exact hK
 case body=>
  rintro l pre x W ⟨hm1,hm2⟩ hlt;obtain⟨⟨t,lb⟩,ht⟩:=x;have hsn:=z4B false ⟨(t,lb),ht⟩ pre o;have hle:=z7u false pre o;have hN:=HN.out;simp only at ht
  have hlen:(stp false o (pre++[⟨(t,lb),ht⟩])).length=(stp false o pre).length+(3+pd (o+(stp false o pre).length+3)+32+t.size*8):=by
   rw[hsn,qA,z07]
  obtain⟨e,he⟩:∃e,o+(stp false o pre).length=e:=⟨_,rfl⟩
  have hMid:∀W',W'.heap[w.heap.size]? =some (.cells #[.int .i64 ((e+3+pd (e+3)+(32+8*t.size):Nat):Int)] 3 (0,0))→Kept (Sx w.heap.size w.heap.size w2.heap.size) w2 W'→ziv w2 w.heap.size w2.heap.size o (pre++[⟨(t,lb),ht⟩]) W':=fun W' h1 h2=>⟨by
   rw[hlen];rw[he];rw[show o+((stp false o pre).length+(3+pd (e+3)+32+t.size*8))=e+3+pd (e+3)+(32+8*t.size) by omega];exact h1,h2⟩
  have HMid:=hid hMid;rw[he] at hm1;have he2:e≤10000000:=by omega
  have s0:=one_cell hm1;have f0:=one_free hm1;have H1:=hid hm1;have H2:=hid hm2;obtain⟨q,hq⟩:∃q,pd (e+3)=q:=⟨_,rfl⟩
  have hq7:q≤7:=by rw[←hq];unfold pd;omega
  obtain⟨r,hr⟩:∃r,(e+3)%8=r:=⟨_,rfl⟩
  have r1:((e:Int)+3)%8=(r:Int):=by omega
  have r2:((e:Int)+3).tmod 8=(r:Int):=by rw[Int.tmod_eq_emod_of_nonneg (by omega)];omega
  have r3:((8:Int) - (r:Int))%8=(q:Int):=by rw[←hq];unfold pd;omega
  have r4:((8:Int) - (r:Int)).tmod 8=(q:Int):=by rw[Int.tmod_eq_emod_of_nonneg (by omega)];rw[←hq];unfold pd;omega
  have hr7:r≤7:=by omega
  rw[hq] at HMid;dsimp only;clear hm1 hm2 hsn hle hlen hMid he hq hr hN g0 g1 hlt;gi_wp2;exact⟨((KeepsOthers.setCell _ _ _).trans (KeepsOthers.setCell _ _ _)).trans (KeepsOthers.setCell _ _ _),(((Kept.refl _ W).setCell ⟨w.heap.size,0,none⟩ (.inl (.inl rfl)) _).setCell ⟨w.heap.size,0,none⟩ (.inl (.inl rfl)) _).setCell ⟨w.heap.size,0,none⟩ (.inl (.inl rfl)) _,HMid.out _ (one_set (one_set (one_set H1.out _) _) _) (((H2.out.setCell ⟨w.heap.size,0,none⟩ (.inl (.inl rfl)) _).setCell ⟨w.heap.size,0,none⟩ (.inl (.inl rfl)) _).setCell ⟨w.heap.size,0,none⟩ (.inl (.inl rfl)) _)⟩
 case done=>
  rintro D ys W hD rfl ⟨hm1,hm2⟩ hK;rw[HPc.out] at hm1;have s0:=one_cell hm1;have HKd:=hid hK;have HB:=hid (HFd.out W hm2);have hle:=z7u false (pcs s) o;rw[HPc.out] at hle;have hN:=HN.out;obtain⟨Z,hZ⟩:∃Z,(stm o s false).length=Z:=⟨_,rfl⟩
  rw[hZ] at s0 hle;have hZ2:Z≤10000000:=by omega
  have HZe:=hid hZ;clear hm1 hm2 hK hZ hle hN g0 g1;gi_wp2;have hK':=HKd.out;refine⟨by simp,.inl ⟨_,_,rfl,run_takeDeferred hK',?_⟩⟩;exact⟨_,results_tmp rfl _ _ _,by rw[HZe.out,show(o:Int)+(Z:Int) - (o:Int)=(Z:Int) by omega];rfl,HB.out.trans (belowK_b (w:=w) qR _ D _ _ (by omega) hK' rfl rfl)⟩
 case stop=>
  rintro D c pre W _ _ h _;exact h.elim
end Go.Proofs.YtacelhaidcmbcaaGreatDoor.V
namespace Go.Proofs.YtacelhaidcmbcaaGreatDoor.V
open Go.Lib (hid)
open Go Go.RowKit M U
theorem z9M(l1 l2:Nat→Nat){S:List Sy}(h:∀y∈S,(y.d=false→y.n<286)∧(y.d=true→y.n<30)):M.sm (fun i=>cs false S i*l1 i) 286+M.sm (fun i=>cs true S i*l2 i) 30+smb S=wgh l1 l2 S:=by
 rw[z5t l1 l2 S h];congr 2
 · exact M.sm_congr _ (fun i _=>Nat.mul_comm _ _)
 · exact M.sm_congr _ (fun i _=>Nat.mul_comm _ _)
theorem zfP{L:List Tk}{n:Nat}(hl:L.length=n)(hn:n≤100000)(hm:∀t∈L,may t=true):(sys L).length≤200001∧smb (sys L)≤3000000:=by
 have h1:=z1h L;have h2:=zeB (S:=sys L) (fun y hy=>(z8O hm y hy).1);omega
theorem z7w(k:Nat)(A:Option Addr)(n c:Nat)(L:List Tk)(raw:ByteArray)(p:Nat)(n1:Nat)(l1 l2:Nat→Nat)(T:List Cd)(w:World)(hk0:k≠0)(hk2:k≤2)(hL:IsTks w A n L)(hn:n≤100000)(hr:raw.size≤1000000)(hp:p≤1000000)(hm:∀t∈L,may t=true)
 (HC:∀w1,Below w.heap.size w w1→Calls Tryz.prog 70 #[.int .u8 k,.slice A n c] w1 (z4t w1 (sys L) n1 l1 l2 T)) (h1:286≤n1) (hT:T.length≤1000∧∀c∈T,c.2≤255) (hl1:∀i,l1 i≤255) (hl2:∀i,l2 i≤255):
 Calls Tryz.prog 65 #[.int .u8 k,.slice A n c,.string raw,.int .i64 p] w fun e w'=>e=.returned (.tuple #[.int .i64 ((3+szc T+wgh l1 l2 (sys L):Nat):Int),.int .i64 0])∧Below w.heap.size w w':=by
 have hz:=z85;have hrf:=z0W k A n c L raw p w hL hn hr (by omega) (by omega);rw[show rfs k L=0 by unfold rfs;rw[if_neg (by rw[z4r hm];simp;omega)]] at hrf;have HR:=hid hrf;have HCo:=hid HC;obtain⟨hs1,hs2⟩:=zfP hL.leng hn hm;have hin:=z7r hm hL.good;have hw:=z9M l1 l2 hin;obtain⟨S,hS⟩:∃S,sys L=S:=⟨_,rfl⟩
 rw[hS] at HCo hs1 hs2 hw;have HSz:=hid (fun(A1 A2 A3:Option Addr) (c1 c2 c3:Nat) (w:World) (q1:z09 w .u8 A1 n1 (fun i=>(l1 i:Int))) (q2:z09 w .u8 A2 30 (fun i=>(l2 i:Int))) (q3:z0b w A3 T.length T)=>zbU S A1 A2 A3 n1 c1 c2 T.length c3 l1 l2 T w hs1 hs2 q1 q2 q3 h1 hT.1 hT.2 hl1 hl2);rw[show(3+szc T+(M.sm (fun i=>cs false S i*l1 i) 286+M.sm (fun i=>cs true S i*l2 i) 30)+smb S:Nat)=3+szc T+wgh l1 l2 S by rw[←hw];omega] at HSz;rw[hS];obtain⟨Z,hZ⟩:∃Z,3+szc T+wgh l1 l2 S=Z:=⟨_,rfl⟩
 rw[hZ] at HSz ⊢
 have HSt:=hid (fun(w1:World) (A1 A2 A3:Option Addr) (c1 c2 c3:Nat)=>by
  have h:=(Kd.new w1 (fun _=>0) (fun _=>0) 0 (.slice none 0 0) (.slice none 0 0) (.slice none 0 0)).store (cs false S) (cs true S) (smb S) (.slice A1 n1 c1) (.slice A2 30 c2) (.slice A3 T.length c3) rfl rfl rfl;rw[World.setRow_alloc_new] at h;exact h)
 have HLd:=hid (fun(w1:World) (A1 A2 A3:Option Addr) (c1 c2 c3:Nat)=>(Kd.new w1 (cs false S) (cs true S) (smb S) (.slice A1 n1 c1) (.slice A2 30 c2) (.slice A3 T.length c3)).load);have e1:((k:Int)==0)=false:=by rw[qN];omega
 have e2:decide ((k:Int)=0)=false:=qF (by omega);unfold z4t at HCo;clear hrf HC hL hm hin hw hS hZ hs1 hs2 hT hl1 hl2 h1;go_enter Tryz.func65,Tryz.ntmps65
 go_wp2_with (first
  |(go_at_call 67;(with_reducible refine HR.out.mono ?_);rintro e w1 ⟨rfl,b1⟩;have B1:=hid b1;clear b1)
  |(go_at_call 70;(with_reducible refine(HCo.out _ B1.out).mono ?_);rintro e w2 ⟨A1,c1,A2,c2,A3,c3,rfl,q1,q2,q3,b2, -, -⟩
    have bb:Below w2.heap.size w2 (w2.alloc (.cells (KV (cs false S) (cs true S) (smb S) (.slice A1 n1 c1) (.slice A2 30 c2) (.slice A3 T.length c3)) 160)):=qL;have Q1:=hid (q1.below bb);have Q2:=hid (q2.below bb);have Q3:=hid (q3.below bb);have B2:=hid ((B1.out.trans (b2.mono B1.out.size)).trans (bb.mono (B1.out.trans (b2.mono B1.out.size)).size));clear q1 q2 q3 b2 bb)
  |refine z0g rfl 160 _ _ rfl _ _ rfl _ rfl (HSt.out _ _ _ _ _ _ _) ?_
  |refine z0J rfl 160 _ rfl _ _ rfl _ (HLd.out _ _ _ _ _ _ _) ?_
  |(go_at_call 96;(with_reducible refine(HSz.out _ _ _ _ _ _ _ Q1.out Q2.out Q3.out).mono ?_);rintro e w3 ⟨rfl,b3⟩;have B3:=hid (B2.out.trans (b3.mono B2.out.size));clear b3))
 exact bodyPost_ret (v:=.tuple #[.int .i64 Z,.int .i64 0]) (by simp[results,Tryz.results65,go_sem]) rfl ⟨rfl,B3.out⟩
theorem zci(L:List Tk)(raw:ByteArray)(last:Bool)(o:Nat):bkm 1 L raw last o=hdb 1 last++sfx L:=rfl
theorem zch(L:List Tk)(raw:ByteArray)(last:Bool)(o:Nat):bkm 2 L raw last o=hdb 2 last++hdd L++sbs L:=rfl
theorem zhy(k:Nat)(A:Option Addr)(n c:Nat)(L:List Tk)(raw:ByteArray)(p:Nat)(w:World)(H:z5p w)(hL:IsTks w A n L)(hn:n≤100000)(hr:raw.size≤1000000)(hp:p≤1000000)(hk:k≤2)(hm:k≠0→∀t∈L,may t=true):
 Calls Tryz.prog 65 #[.int .u8 k,.slice A n c,.string raw,.int .i64 p] w fun e w'=>e=.returned (.tuple #[.int .i64 ((bkm k L raw false (p%8)).length:Nat),.int .i64 0])∧Below w.heap.size w w':=by
 by_cases h0:k=0
 · subst h0
   have hrf:=z0W 0 A n c L raw p w hL hn hr (by omega) (by omega);rw[show rfs 0 L=0 by unfold rfs;rw[if_neg (by omega)]] at hrf;have HR:=hid hrf;have HS:=hid (fun w1=>z3F raw p w1 hr hp);show Calls Tryz.prog 65 #[.int .u8 0,.slice A n c,.string raw,.int .i64 p] w fun e w'=>e=.returned (.tuple #[.int .i64 ((stm (p%8) raw false).length:Nat),.int .i64 0])∧Below w.heap.size w w'
   obtain⟨Z,hZ⟩:∃Z,(stm (p%8) raw false).length=Z:=⟨_,rfl⟩
   rw[hZ] at HS ⊢;clear hrf hL hm H hZ;go_enter Tryz.func65,Tryz.ntmps65
   go_wp2_with (first
    |(go_at_call 67;refine HR.out.mono ?_;rintro e w1 ⟨rfl,b1⟩;have B1:=hid b1;clear b1)
    |(go_at_call 95;(with_reducible refine(HS.out _).mono ?_);rintro e w2 ⟨rfl,b2⟩;have B2:=hid (B1.out.trans (b2.mono B1.out.size));clear b2))
   exact bodyPost_ret (v:=.tuple #[.int .i64 Z,.int .i64 0]) (by simp[results,Tryz.results65,go_sem]) rfl ⟨rfl,B2.out⟩
 · have hm':=hm h0
   by_cases h1:k=1
   · subst h1
     have h:=z7w 1 A n c L raw p 288 fxl (fun _=>5) [] w (by omega) (by omega) hL hn hr hp hm' (fun w1 b=>z3l A n c L w1 (H.keep b).2 (hL.below b) hn hm') (by omega) ⟨by simp,fun c hc=>absurd hc (by simp)⟩ (fun i=>qK (zeZ i).2 (by omega)) (fun _=>by omega);rw[zci,qA,z04];unfold sfx;rw[z59];exact h
   · obtain rfl:k=2:=by omega
     have ht:=z5y L;have h:=z7w 2 A n c L raw p 286 (ll1 L) (ll2 L) (tbl (lx1 L) (lx2 L)) w (by omega) (by omega) hL hn hr hp hm' (fun w1 b=>z4h A n c L w1 (H.keep b) (hL.below b) hn hm') (by omega) ⟨ht.1,fun c hc=>qK (ht.2 c hc).1 (by omega)⟩ (fun i=>qK (z0e _ (by omega) (by decide) i) (by omega)) (fun i=>qK (z0e _ (by omega) (by decide) i) (by omega));rw[←z3r,z9V] at h;rw[zch,qA,qA,z04];unfold sbs;rw[z59];exact h
theorem zhz(k:Nat)(A:Option Addr)(n c:Nat)(L:List Tk)(raw:ByteArray)(p:Nat)(w:World)(hL:IsTks w A n L)(hn:n≤100000)(hr:raw.size≤1000000)(hp:p≤1000000)(hk:k≤255)(hb:2<k∨(k≠0∧∃i,i<n∧may (L.getD i default)=false)):
 Calls Tryz.prog 65 #[.int .u8 k,.slice A n c,.string raw,.int .i64 p] w fun e w'=>e=.returned (.tuple #[.int .i64 0,.int .i64 2])∧Below w.heap.size w w':=by
 have hrf:=z0W k A n c L raw p w hL hn hr (by omega) hk
 rw[show rfs k L=2 by
  unfold rfs;rw[if_pos];rcases hb with h|⟨h1,h2⟩
  · exact .inl h
  · exact .inr ⟨h1,zcr hL.leng h2⟩] at hrf
 have HR:=hid (show Calls Tryz.prog 67 #[.int .u8 k,.slice A n c,.string raw,.int .i64 p] w fun e w'=>e=.returned (.int .i64 2)∧Below w.heap.size w w' from hrf);clear hrf hL hb;go_enter Tryz.func65,Tryz.ntmps65;go_wp2_with (go_at_call 67;(with_reducible refine HR.out.mono ?_);rintro e w1 ⟨rfl,b1⟩;have B1:=hid b1;clear b1);exact bodyPost_ret (v:=.tuple #[.int .i64 0,.int .i64 2]) (by simp[results,Tryz.results65,go_sem]) rfl ⟨rfl,B1.out⟩
theorem zgh(w:World):Calls Tryz.prog 153 #[] w fun e w'=> ∃A c,e=.returned (.slice A 19 c)∧z09 w' .u8 A 19 (fun i=>((ord.getD i 0:Nat):Int))∧Below w.heap.size w w':=
 (zgg w).mono fun e w' ⟨h1,h2,h3⟩=>⟨_,19,h1,IsBys.nums' h2,h3⟩
theorem bks:Bks z5p where
 keep:=fun h b=>h.keep b
 fixed:=fun w _=>zgG w
 order:=fun w _=>zgh w
 size:=fun k A n c L raw p w H hL hn hr hp hk hm=>zhy k A n c L raw p w H hL hn hr hp hk hm
 sizeNo:=fun k A n c L raw p w H hL hn hr hp hk hb=>zhz k A n c L raw p w hL hn hr hp hk hb
theorem z32{w:World}(ty:TypeId){B:Nat}{v:Value}{l:List Cd}(h:Owc B w v l){A:Option Addr}{n c:Nat}{r:List Cd}(hr:z0b w A n r)(hL:l.length+r.length≤3000000)(hB:B≤w.heap.size):
 ∃v' w',(Builtin.append_ #[118,118] ty #[v,.slice A n c]).run Tryz.prog w=.ok v' w'∧Owc B w' v' (l++r)∧Below B w w':=by
 by_cases hn:0<n
 · obtain⟨v',w',r1,r2,r3,_⟩:=z0M (c:=c) ty h hr hn hL hB
   exact⟨v',w',r1,r2,r3⟩
 · obtain rfl:n=0:=by omega
   obtain rfl:r=[]:=List.eq_nil_of_length_eq_zero hr.leng;rw[List.append_nil];obtain⟨i,h1,h2,h3,h4⟩:=info_of z3m;rcases A with _|a
   · refine⟨v,w,?_,h,Below.refl _ _⟩
     rcases h.2 with⟨rfl,q0⟩|⟨g,cap,cur,rfl,hg,hh,hcap,hm,hs,ht⟩
     · simp[Builtin.append_,run_underlying Tryz.underlying118,sizeOf,typeInfo,h1,Builtin.lenOf,Builtin.firstCells]
     · simp[Builtin.append_,run_underlying Tryz.underlying118,sizeOf,typeInfo,h1,Builtin.lenOf,Builtin.firstCells]
       rw[if_pos hcap];simp[storeCells]
   · obtain⟨v',w',r1,r2,r3,_⟩:=run_append_own (P:= Tryz.prog) w B 118 ty 128 i _ 2 8 Tryz.underlying118 h1 h2 h3 h4 rfl (by decide) v l.length (clc l) h a 0 c [] rfl (fun j u hu=>by simp at hu) (by simp) (by unfold maxLen;omega) (by omega) hB
     rw[List.append_nil] at r2;exact⟨v',w',r1,r2,(Below.refl _ w).grown r3 hB (fun k hk=>(World.ownsRow.lt h k hk).1)⟩
theorem z6r{ops:Array Oper}{rest:List Oper}{o:Oper}{a:Act}{w:World}{Q:Exit→Act→World→Prop}(hgd:o.guard=none)(s x:Operand)
 (ho:o.op=.call {callee:=.builtin .append,args:= #[s,x],argTypes:= #[118,118]}) (B:Nat) (v:Value) (l:List Cd) (hs:a.eval s=v) (h:Owc B w v l) (A:Option Addr) (n c:Nat) (r:List Cd)
 (hx:a.eval x=.slice A n c) (hr:z0b w A n r) (hL:l.length+r.length≤3000000) (hB:B≤w.heap.size)
 (hK:∀v' w',Owc B w' v' (l++r)→Below B w w'→wpList Tryz.prog ops Q rest (a.put o.dst v') w'):wpList Tryz.prog ops Q (o::rest) a w:=
 wpList_plain hgd fun K hK'=>by
  obtain⟨v',w',r1,r2,r3⟩:=z32 (c:=c) o.type h hr hL hB;unfold Oper.wp execOp;simp only[ho,resolve,invoke,builtin,Sem.run_bind,Sem.run_pure,Result.andThen_ok,List.map_toArray,List.map_cons,List.map_nil,hs,hx,r1];exact hK' _ _ (hK v' w' r2 r3)
theorem zbw(n:Nat)(w:World)(h0:0<n)(hn:n≤2000):
 Calls Tryz.prog 108 #[.slice none 0 0,.int .i64 n] w fun e w'=> ∃v,e=.returned v∧Owc w.heap.size w' v []∧Below w.heap.size w w':=by
 obtain⟨i,h1,h2,h3,h4⟩:=info_of z3m;have hr:=fun ty=>Lib.run_append_nil_zeros (P:= Tryz.prog) w 118 3 ty 128 i _ .i64 .i64 Tryz.underlying118 (by kernel_rfl) h1 h2 n h0 (by omega) (by omega) (by rw[h4];omega)
 have hG:=grownCap_ge w n 0 128;have hG2:=grownCap_le_maxLen w n 0 128 (by unfold maxLen;omega);obtain⟨G,hGe⟩:∃G,grownCap w n 0 128 =G:=⟨_,rfl⟩
 rw[hGe] at hr hG hG2
 have hsz:(Builtin.zeroCells (Value.agg #[.int .u32 0,.int .u8 0]).cells n++Builtin.zeroCells (Value.agg #[.int .u32 0,.int .u8 0]).cells (G - n)).size=G*2:=by
  rw[Array.size_append,size_zeroCells,size_zeroCells];show n*2+(G - n)*2=G*2
  omega
 obtain⟨cs,hcs⟩:∃cs,Builtin.zeroCells (Value.agg #[.int .u32 0,.int .u8 0]).cells n++Builtin.zeroCells (Value.agg #[.int .u32 0,.int .u8 0]).cells (G - n)=cs:=⟨_,rfl⟩
 rw[hcs] at hr hsz;have hown:=World.ownsRow_made (base:=w.heap.size) (e:= 128) (size:=2) w.drew cs G qR hG2 hsz;have HO:=hid hown;have d1:decide (0<(n:Int))=true:=q9T (by omega);have d1':decide (0<n)=true:=q9T h0;have e1:¬(G=0):=by omega
 have hG63:G≤9223372036854775807:=by unfold maxLen at hG2;omega
 clear hown hGe hG2 hcs hsz h1 h2 h3 h4;go_enter Tryz.func108,Tryz.ntmps108;go_wp2_with (at_builtin;refine Lib.wpList_append_run _ rfl _ _ _ _ rfl _ _ rfl rfl _ _ (hr _) ?_);go_ret;exact⟨_,rfl,HO.out,(Below.refl _ _).drew.alloc qR _⟩
structure Prk where
 A:Option Addr
 n:Nat
 c:Nat
 l:List Cd
instance:Inhabited Prk:=⟨⟨none,0,0,[]⟩⟩
def z5q(Ps:List Prk):List Cd:=Ps.flatMap (·.l)
theorem z64{Ps:List Prk}{k:Nat}(hk:k<Ps.length):z5q (Ps.take (k+1))=z5q (Ps.take k)++(Ps.getD k default).l:=by
 unfold z5q;rw[List.take_add_one,List.flatMap_append,List.getD,qE hk];simp
theorem zgF(Ps:List Prk)(k:Nat):(z5q (Ps.take k)).length≤(z5q Ps).length:=by
 unfold z5q
 conv=>rhs;rw[←List.take_append_drop k Ps,List.flatMap_append,qA]
 omega
def Cck(w:World)(l:List Cd)(e:Ending)(w':World):Prop:=∃A c,e=.returned (.slice A l.length c)∧(∀b o,A=some ⟨b,o,none⟩→w.heap.size≤b)∧z0b w' A l.length l∧Below w.heap.size w w'
theorem z77(z m:Nat)(Ps:List Prk)(w:World)(hm:Ps.length=m)(hm2:m≤100)(hz:z<w.heap.size)(hc:∀i,i<m→w.cell? ⟨z,i,none⟩=some (.slice (Ps.getD i default).A (Ps.getD i default).n (Ps.getD i default).c))
 (hp:∀i,i<m→z0b w (Ps.getD i default).A (Ps.getD i default).n (Ps.getD i default).l) (h0:0<(z5q Ps).length) (ht:(z5q Ps).length≤2000):
 Calls Tryz.prog 72 #[.slice (some ⟨z,0,none⟩) m m] w (Cck w (z5q Ps)):=by
 have HC:=hid hc;have HP:=hid hp;have HGr:=hid (fun w=>zbw (z5q Ps).length w h0 ht);have HLe:=hid (fun k=>zgF Ps k);obtain⟨T,hT⟩:∃T,(z5q Ps).length=T:=⟨_,rfl⟩
 rw[hT] at HGr h0 ht;have HTe:=hid hT;unfold Cck;clear hc hp hT;go_enter Tryz.func72,Tryz.ntmps72;go_wp2
 go_loopw [3,11] (fun s i wr=> ∃k t:Nat,k≤m∧s=.int .i64 t∧i=.int .i64 k∧t=(z5q (Ps.take k)).length∧w=wr) (fun _ i _=>m - (intOf i).toNat)
 case atStart=>exact⟨0,0,qZ,rfl,rfl,rfl,rfl⟩
 case round=>
  obtain⟨k,t,hk,rfl,rfl,ht2,rfl⟩:=hrel;by_cases hlt:k<m
  · have d1:decide ((k:Int)<(m:Int))=true:=q9T (by omega)
    have d1':decide (k<m)=true:=q9T hlt;have c0:=HC.out k hlt;have pl:=(HP.out k hlt).leng;have hs:=z64 (Ps:=Ps) (k:=k) (by omega);have hle:=HLe.out (k+1);rw[HTe.out] at hle;have hs2:=congrArg List.length hs;rw[qA,pl,←ht2] at hs2;obtain⟨A,hA⟩:∃A,(Ps.getD k default).A=A:=⟨_,rfl⟩
    obtain⟨n,hn⟩:∃n,(Ps.getD k default).n=n:=⟨_,rfl⟩
    obtain⟨c,hcc⟩:∃c,(Ps.getD k default).c=c:=⟨_,rfl⟩
    rw[hA,hn,hcc] at c0;rw[hn] at hs2;have HS:=hid hs2;have b1:t+n≤2000:=by omega
    have d2:decide (((t+n:Nat):Int)<0)=false:=qF (by omega);have k2:k≤100:=by omega
    clear hs hs2 ht2 hA hn hcc pl hle;go_wp2;go_roundw
    case rel=>exact⟨k+1,t+n,by omega,by go_num,by go_num,HS.out.symm,trivial⟩
    case measure=>(simp[intOf];try omega)
  · obtain rfl:k=m:=by omega
    have d1:decide ((k:Int)<(k:Int))=false:=qF (by omega);have d1':decide (k<k)=false:=qF (by omega);have htT:t=T:=by rw[←HTe.out,ht2,List.take_of_length_le (by omega)]
    subst htT;clear ht2;go_wp2_with (go_at_call 108;(with_reducible refine(HGr.out _).mono ?_);rintro e w1 ⟨v,rfl,o1,b1⟩;have O1:=hid o1;have B1:=hid b1;clear o1 b1)
    go_loopw [6,27] (fun v i wr=> ∃j:Nat,j≤k∧i=.int .i64 j∧Owc w.heap.size wr v (z5q (Ps.take j))∧Below w.heap.size w wr) (fun _ i _=>k - (intOf i).toNat)
    case atStart=>exact⟨0,qZ,rfl,O1.out,B1.out⟩
    case round=>
     obtain⟨j,hj,rfl,ho,hb⟩:=hrel;by_cases hlt2:j<k
     · have d2:decide ((j:Int)<(k:Int))=true:=q9T (by omega)
       have d2':decide (j<k)=true:=q9T hlt2;have c0:=(hb.cell (p:=⟨z,j,none⟩) hz).trans (HC.out j hlt2);have hi:=(HP.out j hlt2).below hb;have hs:=z64 (Ps:=Ps) (k:=j) (by omega);have hle:=HLe.out (j+1);rw[HTe.out,hs,qA] at hle;obtain⟨A,hA⟩:∃A,(Ps.getD j default).A=A:=⟨_,rfl⟩
       obtain⟨n,hn⟩:∃n,(Ps.getD j default).n=n:=⟨_,rfl⟩
       obtain⟨c,hcc⟩:∃c,(Ps.getD j default).c=c:=⟨_,rfl⟩
       obtain⟨l,hll⟩:∃l,(Ps.getD j default).l=l:=⟨_,rfl⟩
       rw[hA,hn,hcc] at c0;rw[hA,hn,hll] at hi;rw[hll] at hs hle;have HS:=hid hs;have HI:=hid hi;have HO:=hid ho;have HB:=hid hb;have HL:=hid (show(z5q (Ps.take j)).length+l.length≤3000000 by omega);have k2:j≤100:=by omega
       clear hs hi ho hb hA hn hcc hll hle;go_wp2_with (at_builtin;refine z6r rfl _ _ rfl w.heap.size _ (z5q (Ps.take j)) rfl HO.out _ _ _ l rfl HI.out HL.out HB.out.size ?_;intro v2 w2 o2 b2;have O2:=hid o2;have B2:=hid b2;clear o2 b2);go_roundw
       case rel=>exact⟨j+1,by omega,by go_num,by rw[HS.out];exact O2.out,HB.out.trans B2.out⟩
       case measure=>(simp[intOf];try omega)
     · obtain rfl:j=k:=by omega
       have d2:decide ((j:Int)<(j:Int))=false:=qF (by omega);have d2':decide (j<j)=false:=qF (by omega);rw[List.take_of_length_le (by omega)] at ho;obtain⟨A,c,hv,hb2⟩:=ho.cds;have HNew:=hid (show ∀b o,A=some ⟨b,o,none⟩→w.heap.size≤b from fun b o e=>(ho.lt b (by rw[hv,e];rfl)).1);have HV:=hid hv;have HI:=hid hb2;have HB:=hid hb;clear ho hv hb2 hb;go_wp2;go_ret;exact⟨A,c,by rw[HV.out];rfl,HNew.out,HI.out,HB.out⟩
def Put(w:World)(B p:Nat)(S:Nat→Prop)(most:Int)(V o:Nat)(X Y:List Nat)(e:Ending)(w':World):Prop:=
 ((((o+(X++Y).length+7) /8:Nat):Int)≤most→Did w B p S most (0,V+nb (X++Y)*2^o,o+(X++Y).length) e w')∧
 (¬(((o+(X++Y).length+7) /8:Nat):Int)≤most→e=.returned (.int .i64 4)∧Kept S w w')
theorem z5b{w w':World}{B p:Nat}{S:Nat→Prop}{most:Int}{r:Int×Nat×Nat}{e:Ending}(hd:Did w B p S most r e w'):Kept S w w':=by
 obtain⟨_,S',_,hk,_⟩:=hd;exact hk
theorem z68{w w':World}{B p:Nat}{S:Nat→Prop}{most:Int}{r:Int×Nat×Nat}{e:Ending}{V L:Nat}(h:Wt w B p S most V L)(hd:Did w B p S most r e w'):Below B w w':=by
 obtain⟨_,S',_,hk,_⟩:=hd;exact hk.below (by have:=h.lt h.self;omega) (fun j hj=>(h.lt hj).1)
section
variable {w:World} {B p:Nat} {S:Nat→Prop} {most:Int} {V o:Nat} {X:List Nat}
theorem zbX(h:Wt w B p S most (V+nb X*2^o) (o+X.length))(c1 c2:Nat)(hc:c1<2^c2)(hs:c2≤16)(hL:o+X.length≤900000000):
 Calls Tryz.prog 107 #[.pointer (some ⟨p,0,none⟩),.agg #[.int .u32 c1,.int .u8 c2]] w (Put w B p S most V o X (cbs (c1,c2))):=by
 have h16:2^c2≤2^16:=Nat.pow_le_pow_right (by decide) hs;have g:=Go.Proofs.YtacelhaidcmbcaaGreatDoor.code_any h (c1:Nat) c2 (by omega) (by omega) hL;rw[Int.toNat_natCast] at g;have hlen:(X++cbs (c1,c2)).length=X.length+c2:=by rw[qA];unfold cbs;rw[z02]
 by_cases hm:(((o+(X++cbs (c1,c2)).length+7) /8:Nat):Int)≤most
 · rw[z3v (by omega) hc (by rw[hlen,←Nat.add_assoc] at hm;exact hm)] at g
   refine g.mono fun e w' hd=>⟨fun _=> ?_,fun q=>absurd hm q⟩
   have e1:nb (cbs (c1,c2))=c1:=by unfold cbs;rw[zaY,Nat.mod_eq_of_lt hc]
   rw[z6J,e1,hlen,←Nat.add_assoc];exact hd
 · rw[z2r (by omega) hc (by rw[hlen,←Nat.add_assoc] at hm;exact hm)] at g
   exact g.mono fun e w' hd=>⟨fun q=>absurd q hm,fun _=>⟨hd.1,z5b hd⟩⟩
end
theorem z65{o:Nat}{m:Int}{X Y:List Nat}(h:(((o+(X++Y).length+7) /8:Nat):Int)≤m):(((o+X.length+7) /8:Nat):Int)≤m:=by
 rw[qA] at h;omega
theorem z0X{w:World}{B p:Nat}{S:Nat→Prop}{most:Int}{V o:Nat}{X:List Nat}(A:Option Addr)(n c:Nat)(l:List Cd)(h:Wt w B p S most (V+nb X*2^o) (o+X.length))(hl:z0b w A n l)(hA:∀b q,A=some ⟨b,q,none⟩→¬S b)
 (hc:∀c∈l,c.1<2^c.2∧c.2≤16) (h0:0<n) (hn:n≤2000) (hL:o+X.length≤800000000):
 Calls Tryz.prog 71 #[.pointer (some ⟨p,0,none⟩),.slice A n c] w (Put w B p S most V o X (l.flatMap cbs)):=by
 obtain⟨b,q,rfl,hb,hcs⟩:=hl.at h0;have hS:=hA b q rfl;have hleng:=hl.leng;have HH:=hid h;have HCs:=hid hcs;have HSb:=hid hS;have HC:=hid (show ∀k,k<n→(l.getD k default).1<2^(l.getD k default).2∧(l.getD k default).2≤16 from fun k hk=>hc _ (by rw[List.getD,qE (by omega)];exact List.getElem_mem _))
 have HSucc:=hid (show ∀k,k<n→X++(l.take (k+1)).flatMap cbs=(X++(l.take k).flatMap cbs)++cbs (l.getD k default) from fun k hk=>by
  rw[List.take_add_one,List.getD,qE (by omega),List.flatMap_append,qD];simp)
 have HTot:=hid (show ∀k,k≤n→(X++(l.take k).flatMap cbs).length≤(X++l.flatMap cbs).length from fun k hk=>by
  conv=>rhs;rw[←List.take_append_drop k l,List.flatMap_append,←qD,qA]
  omega)
 have HLen:=hid (show ∀k,k≤n→o+(X++(l.take k).flatMap cbs).length≤900000000 from fun k hk=>by
  have:((l.take k).flatMap cbs).length≤32000:=by
   rw[z3r]
   have h1:∀r:List Cd,(∀c∈r,c.2≤16)→szc r≤16*r.length:=fun r=>by
    induction r with
    |nil=>intro _;simp[szc]
    |cons y r ih=>
     intro hr;have:=ih (fun z hz=>hr z (List.mem_cons_of_mem _ hz));have:=hr y List.mem_cons_self;simp only[szc,qC];omega
   have:=h1 (l.take k) (fun y hy=>(hc y (List.mem_of_mem_take hy)).2);rw[List.length_take] at this;omega
  rw[qA];omega)
 clear h hl hA hc hcs hS;go_enter Tryz.func71,Tryz.ntmps71;go_wp2_with fail
 go_loopw [10] (fun x wr=> ∃ (k:Nat) (S':Nat→Prop),k≤n∧x=.int .i64 k∧Wt wr B p S' most (V+nb (X++(l.take k).flatMap cbs)*2^o) (o+(X++(l.take k).flatMap cbs).length)∧Kept S w wr∧(∀j,S' j→S j∨w.heap.size≤j)∧(0<k→(((o+(X++(l.take k).flatMap cbs).length+7) /8:Nat):Int)≤most)) (fun x _=>n - (intOf x).toNat)
 case atStart=>exact⟨0,S,qZ,rfl,by simpa using HH.out,Kept.refl _ _,fun j hj=> .inl hj,fun q=>absurd q (by omega)⟩
 case round=>
  obtain⟨k,S',hk,rfl,hw,hkp,hsub,hfit⟩:=hrel;by_cases hlt:k<n
  · have d1:decide ((k:Int)<(n:Int))=true:=q9T (by omega)
    have d1':decide (k<n)=true:=q9T hlt;obtain⟨g0,g1⟩:=HCs.out k hlt;have c0:=hkp.cell g0 HSb.out;have y1:=hkp.cell g1 HSb.out;have hcc:=HC.out k hlt;have hsucc:=HSucc.out k hlt;have hlen:=HLen.out k hk;have htot:=HTot.out (k+1) hlt;obtain⟨t,ht⟩:∃t,l.getD k default=t:=⟨_,rfl⟩
    rw[ht] at c0 y1 hcc hsucc;obtain⟨t1,t2⟩:=t;simp only at c0 y1 hcc;obtain⟨Y,hY⟩:∃Y,X++(l.take k).flatMap cbs=Y:=⟨_,rfl⟩
    rw[hY] at hw hsucc hlen;have hk2:k≤2000:=by omega
    have hw2:=hw.keep (((Kept.refl NoB wr).alloc (.cells #[.int .u32 t1,.int .u8 t2] 128))) (fun j _ q=>q);have HW:=hid (zbX hw2 t1 t2 hcc.1 hcc.2 hlen);have HKa:=hid (hkp.alloc (.cells #[.int .u32 t1,.int .u8 t2] 128));have HSub:=hid hsub;have HSu:=hid hsucc;have HW2:=hid hw2;have HTt:=hid htot;unfold Put at HW;by_cases hm:(((o+(Y++cbs (t1,t2)).length+7) /8:Nat):Int)≤most
    · have HM:=hid hm
      clear g0 g1 hcc hsucc hlen htot ht hY hw hw2 hkp hsub hfit hm;go_wp2_with (go_at_call 107;(with_reducible refine HW.out.mono ?_);rintro e w1 ⟨hd,hno⟩;obtain⟨rfl,S2,h2,k2,i2⟩:=hd HM.out;have H2:=hid h2;have K2:=hid k2;have I2:=hid i2;clear hd hno h2 k2 i2);go_roundw
      case rel=>exact⟨k+1,S2,by omega,by go_num,by rw[HSu.out];exact H2.out,HKa.out.trans K2.out HSub.out,fun j hj=>by
       rcases I2.out j hj with q|q
       · exact HSub.out j q
       · right;have:=HKa.out.size;omega,fun _=>by rw[HSu.out];exact HM.out⟩
      case measure=>(simp[intOf];try omega)
    · have HM:=hid hm
      clear g0 g1 hcc hsucc hlen htot ht hY hw hw2 hkp hsub hfit hm;go_wp2_with (go_at_call 107;(with_reducible refine HW.out.mono ?_);rintro e w1 ⟨hd,hno⟩;obtain⟨rfl,hbl⟩:=hno HM.out;have HBl:=hid hbl;clear hd hno hbl);go_ret;have h3:=HTt.out;rw[HSu.out] at h3;have h4:=HM.out;exact⟨fun q=>absurd q (by omega),fun _=>⟨rfl,HKa.out.trans HBl.out HSub.out⟩⟩
  · obtain rfl:k=n:=by omega
    have d1:decide ((k:Int)<(k:Int))=false:=qF (by omega);have d1':decide (k<k)=false:=qF (by omega);rw[List.take_of_length_le (by omega)] at hw hfit;have HW:=hid hw;have HK:=hid hkp;have HSub:=hid hsub;have HF:=hid (hfit h0);clear hw hkp hsub hfit;go_wp2_with fail;go_ret;exact⟨fun _=>⟨rfl,S',HW.out,HK.out,HSub.out⟩,fun q=>absurd HF.out q⟩
def hdc(k:Nat)(last:Bool):List Cd:=[(if last then 1 else 0,1),(k,2)]
theorem z87(k:Nat)(last:Bool):(hdc k last).flatMap cbs=hdb k last:=by
 unfold hdc hdb cbs;simp
theorem zeY{k:Nat}(hk:k≤3)(last:Bool):∀c∈hdc k last,c.1<2^c.2∧c.2≤16:=by
 intro c hc;unfold hdc at hc;simp only[List.mem_cons,List.not_mem_nil,or_false] at hc;rcases hc with rfl|rfl
 · cases last<;>exact⟨by decide,by decide⟩
 · exact⟨by show k<4;omega,by show 2≤16;omega⟩
theorem z5R(k:Nat)(last:Bool)(w:World)(hk:k≤255):Calls Tryz.prog 73 #[.int .u8 k,.bool last] w fun e w'=> ∃g,e=.returned (.slice (some ⟨g,0,none⟩) 2 2)∧w.heap.size≤g∧z0b w' (some ⟨g,0,none⟩) 2 (hdc k last)∧Below w.heap.size w w':=by
 have HB1:=hid (show ∀ (n:Int) (W:World),Calls Tryz.prog 109 #[.int .u32 n,.int .i64 1] W fun e w'=>e=.returned (.agg #[.int .u32 n,.int .u8 1])∧Below W.heap.size W w' from fun n W=>z1v n 1 W (by omega));have HB2:=hid (show ∀ (n:Int) (W:World),Calls Tryz.prog 109 #[.int .u32 n,.int .i64 2] W fun e w'=>e=.returned (.agg #[.int .u32 n,.int .u8 2])∧Below W.heap.size W w' from fun n W=>z1v n 2 W (by omega));cases last
 · go_enter Tryz.func73,Tryz.ntmps73
   go_wp2_with (first
    |(go_at_call 109;(with_reducible refine(HB1.out _ _).mono ?_);rintro e w1 ⟨rfl,b1⟩;have B1:=hid b1;clear b1)
    |(go_at_call 109;(with_reducible refine(HB2.out _ _).mono ?_);rintro e w2 ⟨rfl,b2⟩;have B2:=hid (B1.out.trans (b2.mono B1.out.size));clear b2))
   go_ret;exact⟨w2.heap.size,rfl,B2.out.size,z0b.of_row (heap_alloc_new _ _) rfl rfl,B2.out.alloc B2.out.size _⟩
 · go_enter Tryz.func73,Tryz.ntmps73
   go_wp2_with (first
    |(go_at_call 109;(with_reducible refine(HB1.out _ _).mono ?_);rintro e w1 ⟨rfl,b1⟩;have B1:=hid b1;clear b1)
    |(go_at_call 109;(with_reducible refine(HB2.out _ _).mono ?_);rintro e w2 ⟨rfl,b2⟩;have B2:=hid (B1.out.trans (b2.mono B1.out.size));clear b2))
   go_ret;exact⟨w2.heap.size,rfl,B2.out.size,z0b.of_row (heap_alloc_new _ _) rfl rfl,B2.out.alloc B2.out.size _⟩
theorem ziG(n:Nat)(h:n≤65535):bits .xor .u16 65535 (n:Int)=((65535 - n:Nat):Int):=by
 show IntKind.u16.wrap ((BitVec.ofInt 16 65535^^^BitVec.ofInt 16 (n:Int)).toNat:Int)=_
 rw[BitVec.ofInt_natCast,show BitVec.ofInt 16 65535=BitVec.allOnes 16 from by decide,BitVec.allOnes_xor,BitVec.toNat_not,BitVec.toNat_ofNat,Nat.mod_eq_of_lt (by omega)];have e:(2^16 - 1 - n:Nat)=65535 - n:=rfl;rw[e];exact IntWalk.u16_in _ ⟨by omega,by omega⟩
theorem ziS:IntKind.u16.signed=false:=rfl
theorem zj2:IntKind.u16.max=65535:=by decide
theorem Did.go{w w1 w2:World}{B p:Nat}{S S1:Nat→Prop}{most:Int}{r:Int×Nat×Nat}{e:Ending}(k:Kept S w w1)(s:∀j,S1 j→S j∨w.heap.size≤j)(d:Did w1 B p S1 most r e w2):Did w B p S most r e w2:=by
 obtain⟨h1,S2,h2,h3,h4⟩:=d
 exact⟨h1,S2,h2,k.trans h3 s,fun j hj=>by
  rcases h4 j hj with q|q
  · exact s j q
  · right;have:=k.size;omega⟩
theorem zdO{w w1:World}{B p:Nat}{S:Nat→Prop}{most:Int}{V L:Nat}(h:Wt w B p S most V L)(k:Kept S w w1):Below B w w1:=k.below (by have:=h.lt h.self;omega) (fun j hj=>(h.lt hj).1)
theorem z4R{w:World}{B p:Nat}{S:Nat→Prop}{most:Int}{V L:Nat}(h:Wt w B p S most V L){g:Nat}(hg:w.heap.size≤g):∀b q,(some ⟨g,0,none⟩:Option Addr)=some ⟨b,q,none⟩→¬S b:=fun b q e hs=>by
 simp only[Option.some.injEq,Addr.mk.injEq,and_true] at e;have:=(h.lt hs).2;omega
theorem z06{w w1:World}(S:Nat→Prop)(b:Below w.heap.size w w1):Kept S w w1:=(Kept.of_below b).none S
theorem z8z{w:World}{B p:Nat}{S:Nat→Prop}{most:Int}{V o:Nat}{X:List Nat}(t:ByteArray)(last:Bool)(h:Wt w B p S most (V+nb X*2^o) (o+X.length))(ht:t.size≤65535)(hL:o+X.length≤200000000):
 Calls Tryz.prog 102 #[.pointer (some ⟨p,0,none⟩),.string t,.bool last] w (Put w B p S most V o X (stb (o+X.length) t last)):=by
 obtain⟨n,hn⟩:∃n,t.size=n:=⟨_,rfl⟩
 obtain⟨m,hm⟩:∃m,65535 - n=m:=⟨_,rfl⟩
 rw[hn] at ht;obtain⟨X1,hX1⟩:∃X1,X++hdb 0 last=X1:=⟨_,rfl⟩
 have l1:X1.length=X.length+3:=by rw[←hX1,qA,z04]
 obtain⟨X2,hX2⟩:∃X2,X1++List.replicate (pd (o+X1.length)) 0=X2:=⟨_,rfl⟩
 have l2:X2.length=X1.length+pd (o+X1.length):=by rw[←hX2,qA,List.length_replicate]
 obtain⟨X3,hX3⟩:∃X3,X2++[(n,16),(m,16)].flatMap cbs=X3:=⟨_,rfl⟩
 have l3:X3.length=X2.length+32:=by rw[←hX3,qA,z3r];rfl
 obtain⟨X4,hX4⟩:∃X4,X3++byb t t.size=X4:=⟨_,rfl⟩
 have l4:X4.length=X3.length+n*8:=by rw[←hX4,qA,z0j,hn]
 have hpd:pd (o+X1.length)≤7:=by unfold pd;omega
 have h8:(o+X3.length)%8=0:=by
  have:(o+X1.length+pd (o+X1.length))%8=0:=by unfold pd;omega
  omega
 have hAll:X++stb (o+X.length) t last=X4:=by
  rw[←hX4,←hX3,←hX2,←hX1];unfold stb;rw[qA,z04,hn,hm,←Nat.add_assoc];simp[cbs]
 have HX1:=hid hX1;have HX2:=hid hX2;have HX3:=hid hX3;have HX4:=hid hX4;have HAll:=hid hAll;have HH:=hid h;have HHd:=hid (show ∀W,Calls Tryz.prog 73 #[.int .u8 0,.bool last] W fun e w'=> ∃g,e=.returned (.slice (some ⟨g,0,none⟩) 2 2)∧W.heap.size≤g∧z0b w' (some ⟨g,0,none⟩) 2 (hdc 0 last)∧Below W.heap.size W w' from fun W=>z5R 0 last W (by omega));have HB16:=hid (show ∀ (n:Int) (W:World),Calls Tryz.prog 109 #[.int .u32 n,.int .i64 16] W fun e w'=>e=.returned (.agg #[.int .u32 n,.int .u8 16])∧Below W.heap.size W w' from fun n W=>z1v n 16 W (by omega));have hx:=ziG n (by omega);rw[hm] at hx;have hsg:=ziS;have hmx:=zj2;have hm2:m≤65535:=by omega
 have HL1:=hid (show o+X1.length≤900000000 by omega);have HL2:=hid (show o+X2.length≤800000000 by omega);have HL3:=hid (show o+X3.length≤900000000 by omega);have HL0:=hid (show o+X.length≤800000000 by omega);have H8:=hid h8;have HN:=hid hn;have HHc:=hid (zeY (k:=0) (by omega) last)
 have HPc:=hid (show ∀c∈([(n,16),(m,16)]:List Cd),c.1<2^c.2∧c.2≤16 from fun c hc=>by
  simp only[List.mem_cons,List.not_mem_nil,or_false] at hc;rcases hc with rfl|rfl
  · exact⟨by show n<65536;omega,qR⟩
  · exact⟨by show m<65536;omega,qR⟩)
 unfold Put;rw[hAll];rcases(show((((o+X1.length+7) /8:Nat):Int)≤most∧(((o+X3.length+7) /8:Nat):Int)≤most∧(((o+X4.length+7) /8:Nat):Int)≤most)∨((((o+X1.length+7) /8:Nat):Int)≤most∧(((o+X3.length+7) /8:Nat):Int)≤most∧¬(((o+X4.length+7) /8:Nat):Int)≤most)∨((((o+X1.length+7) /8:Nat):Int)≤most∧¬(((o+X3.length+7) /8:Nat):Int)≤most∧¬(((o+X4.length+7) /8:Nat):Int)≤most)∨(¬(((o+X1.length+7) /8:Nat):Int)≤most∧¬(((o+X3.length+7) /8:Nat):Int)≤most∧¬(((o+X4.length+7) /8:Nat):Int)≤most) by omega) with⟨m1,m3,m4⟩|⟨m1,m3,m4⟩|⟨m1,m3,m4⟩|⟨m1,m3,m4⟩
 all_goals
  have M1:=hid m1;have M3:=hid m3;have M4:=hid m4;clear h l1 l2 l3 l4 hpd h8 hm hAll hX1 hX2 hX3 hX4 m4 m3 m1;go_enter Tryz.func102,Tryz.ntmps102
  go_wp2_with (first
   |(go_at_call 73;(with_reducible refine(HHd.out _).mono ?_);rintro e w1 ⟨g1,rfl,n1,i1,b1⟩
     have P1:=hid (z0X (some ⟨g1,0,none⟩) 2 2 (hdc 0 last) (HH.out.keep (Kept.of_below b1) (fun j _ q=>q)) i1 (z4R HH.out n1) HHc.out (by omega) (by omega) HL0.out);have K1:=hid (z06 S b1);rw[z87] at P1;unfold Put at P1;rw[HX1.out] at P1;clear n1 i1 b1)
   |(go_at_call 71;(with_reducible refine P1.out.mono ?_);rintro e w2 ⟨hd,hno⟩;
     first
     |(have q:=hd M1.out
       obtain⟨rfl,S2,h2,k2,i2⟩:=q;have H2:=hid h2;have K2:=hid (K1.out.trans k2 (fun j hj=> .inl hj))
       have I2:=hid (show ∀j,S2 j→S j∨w.heap.size≤j from fun j hj=>by
        rcases i2 j hj with q|q
        · exact .inl q
        · right;have:=K1.out.size;omega)
       clear hd hno h2 k2 i2)
     |(have q:=hno (by have:=M1.out;omega);obtain⟨rfl,hbl⟩:=q;have BL:=hid (K1.out.trans hbl (fun j hj=> .inl hj));clear hd hno hbl))
   |(go_at_call 125;(with_reducible refine(z9A H2.out HL1.out).mono ?_);rintro e w3 ⟨rfl,S3,h3,k3,i3⟩
     have H3:=hid (show Wt w3 B p S3 most (V+nb X2*2^o) (o+X2.length) by have q:=h3;rw[HX2.out] at q;exact q);have K3:=hid (K2.out.trans k3 I2.out)
     have I3:=hid (show ∀j,S3 j→S j∨w.heap.size≤j from fun j hj=>by
      rcases i3 j hj with q|q
      · exact I2.out j q
      · right;have:=K2.out.size;omega)
     clear h3 k3 i3)
   |(go_at_call 109;(with_reducible refine(HB16.out (n:Int) w3).mono ?_);rintro e w4 ⟨rfl,b4⟩;have B4:=hid b4;clear b4)
   |(go_at_call 109;(with_reducible refine(HB16.out (m:Int) w4).mono ?_);rintro e w5 ⟨rfl,b5⟩
     have bb:=(B4.out.trans (b5.mono B4.out.size)).alloc (B4.out.trans (b5.mono B4.out.size)).size (.cells #[.int .u32 (n:Int),.int .u8 16,.int .u32 (m:Int),.int .u8 16] 128);have P5:=hid (z0X (some ⟨w5.heap.size,0,none⟩) 2 2 [(n,16),(m,16)] (H3.out.keep (Kept.of_below bb) (fun j _ q=>q)) (z0b.of_row (heap_alloc_new _ _) rfl rfl) (z4R H3.out (B4.out.trans (b5.mono B4.out.size)).size) HPc.out (by omega) (by omega) HL2.out);have K5:=hid (K3.out.trans (z06 S3 bb) I3.out);have Z5:=hid (show ∀j,S3 j→S j∨w.heap.size≤j from I3.out);unfold Put at P5;rw[HX3.out] at P5;clear b5 bb)
   |(go_at_call 71;(with_reducible refine P5.out.mono ?_);rintro e w6 ⟨hd,hno⟩;
     first
     |(have q:=hd M3.out
       obtain⟨rfl,S6,h6,k6,i6⟩:=q;have H6:=hid h6;have K6:=hid (K5.out.trans k6 I3.out)
       have I6:=hid (show ∀j,S6 j→S j∨w.heap.size≤j from fun j hj=>by
        rcases i6 j hj with q|q
        · exact I3.out j q
        · right;have:=K5.out.size;omega)
       clear hd hno h6 k6 i6)
     |(have q:=hno (by have:=M3.out;omega);obtain⟨rfl,hbl⟩:=q;have BL:=hid (K5.out.trans hbl I3.out);clear hd hno hbl))
   |(go_at_call 126;(with_reducible refine(z9r H6.out t (by rw[HN.out];omega) HL3.out H8.out (by rw[HX4.out];exact M4.out)).mono ?_);rintro e w7 hd;have hd7:=Did.go K6.out I6.out hd;rw[HX4.out] at hd7;obtain⟨rfl,hd8⟩:=hd7;have D7:=hid hd8;clear hd hd8)
   |(go_at_call 126;(with_reducible refine(z7d H6.out t (by rw[HN.out];omega) HL3.out H8.out (by rw[HX4.out];have:=M4.out;omega)).mono ?_);rintro e w7 hd;have hb7:=z5b hd;obtain⟨rfl,hd2⟩:=hd;have BL:=hid (K6.out.trans hb7 I6.out);clear hb7 hd2))
  go_ret;have h4:=M4.out
  first|exact⟨fun _=>⟨rfl,D7.out⟩,fun q=>absurd h4 (by omega)⟩|exact⟨fun q=>absurd q (by omega),fun _=>⟨rfl,BL.out⟩⟩
attribute [local go_sem] Oper.semAt_some
theorem z1K{w:World}{B p:Nat}{S:Nat→Prop}{most:Int}{V L:Nat}(h:Wt w B p S most V L){j:Nat}(hj:S j):∃o,w.heap[j]? =some o∧o.isCells=true:=by
 obtain⟨ao,c,hw,hS⟩:=h;rcases(hS j).1 hj with rfl|⟨a,ha,rfl⟩
 · have c0:=hw.c0
   unfold World.cell? at c0;cases e:w.heap[j]? with
   |none=>simp[e] at c0
   |some o=>
    cases o with
    |cells cs T fz=>exact⟨_,rfl,rfl⟩
    |_=>simp[e] at c0
 · subst ha
   rcases hw.own.2 with⟨e,_⟩|⟨g,cap,cur,e,_,hh,_⟩
   · simp at e
   · simp only[Value.slice.injEq,Option.some.injEq] at e
     obtain⟨rfl,_,_⟩:=e;exact⟨_,hh,rfl⟩
theorem z2z{w w':World}{B p:Nat}{S:Nat→Prop}{most:Int}{V L:Nat}(h:Wt w B p S most V L){row:Option Nat}(hg:w.grownBy w' row)(hr:∀r,row=some r→∃o:Obj,w.heap[r]? =some o∧o.isCells=false):Wt w' B p S most V L:=by
 refine h.keep (Kept.of_grown hg) (fun j hj q=> ?_);obtain⟨o,ho,hc⟩:=z1K h hj;obtain⟨o2,ho2,hc2⟩:=hr j q;rw[ho] at ho2;cases ho2
 rw[hc] at hc2;cases hc2
theorem z1a{w w':World}{B p:Nat}{S:Nat→Prop}{most:Int}{V L:Nat}(h:Wt w B p S most V L)(k:Kept S w w'):KeepsOthers w w':=⟨k.size,fun j o hj ho=>by
 refine(k.block j (qW.1 hj).1 (fun q=> ?_)).trans hj;obtain⟨o2,ho2,hc⟩:=z1K h q;rw[hj] at ho2;cases ho2
 rw[hc] at ho;cases ho⟩
structure MidS(w2:World)(B p:Nat)(S:Nat→Prop)(most:Int)(V o:Nat)(X:List Nat)(last:Bool)(pre:List Pz)(W:World):Prop where
 wr:∃S',Wt W B p S' most (V+nb (X++stp last (o+X.length) pre)*2^o) (o+(X++stp last (o+X.length) pre).length)∧∀j,S' j→S j∨w2.heap.size≤j
 kp:Kept (fun j=>S j∨w2.heap.size≤j) w2 W
 fit:pre≠[]→(((o+(X++stp last (o+X.length) pre).length+7) /8:Nat):Int)≤most
theorem MidS.own{w2:World}{B p:Nat}{S:Nat→Prop}{most:Int}{V o:Nat}{X:List Nat}{last:Bool}:OwnFrom w2.heap.size (MidS w2 B p S most V o X last):=fun pre W W' row hs hg hr=>by
 obtain⟨⟨S',h1,h2⟩,h3,h4⟩:=hs;exact⟨⟨S',z2z h1 hg (fun r e=>(hr r e).2),h2⟩,h3.grown hg (fun r e=> .inl (.inr (hr r e).1)),h4⟩
structure IxS(w2:World)(M:Nat)(S:Nat→Prop)(most:Int)(o:Nat)(X:List Nat)(last:Bool)(c:Code)(pre:List Pz)(W:World):Prop where
 ret:c=.ret
 res:W.heap[M+1+1]? =some (.cells #[.int .i64 4] 24 (0,0))
 kp:Kept (fun j=>S j∨M≤j) w2 W
 no:¬(((o+(X++stp last (o+X.length) pre).length+7) /8:Nat):Int)≤most
theorem IxS.own{w2:World}{M:Nat}{S:Nat→Prop}{most:Int}{o:Nat}{X:List Nat}{last:Bool}{c:Code}(hM:M+1+1<w2.heap.size):OwnFrom w2.heap.size (IxS w2 M S most o X last c):=fun pre W W' row hs hg hr=>by
 obtain⟨h1,h2,h3,h4⟩:=hs;exact⟨h1,(hg.block (M+1+1) (qW.1 h2).1 (fun e=>by have:=(hr (M+1+1) e.symm).1;omega)).trans h2,h3.grown hg (fun r e=> .inl (.inr (by have:=(hr r e).1;omega))),h4⟩
theorem z5B(last:Bool):∀ (l r:List Pz) (o:Nat),(stp last o l).length≤(stp last o (l++r)).length
 |[],r,o=>by simp[stp]
 |x::l,r,o=>by
  have:=z5B last l r (o+(stb o x.1.1 (last&&x.1.2)).length);simp only[List.cons_append,stp,qA];omega
theorem zhO(s:ByteArray):pcs s≠[]:=by
 by_cases h:s.size≤65535
 · rw[z4Q h];simp
 · rw[z2E h];simp
theorem z6o{w:World}{B p:Nat}{S:Nat→Prop}{most:Int}{V o:Nat}{X:List Nat}(s:ByteArray)(last:Bool)(h:Wt w B p S most (V+nb X*2^o) (o+X.length))(hs:s.size≤1000000)(hL:o+X.length≤100000000):
 Calls Tryz.prog 69 #[.pointer (some ⟨p,0,none⟩),.string s,.bool last] w (Put w B p S most V o X (stm (o+X.length) s last)):=by
 have HH:=hid h;have HN:=hid (show(pcs s).length≤17 from by have:=zaJ s;omega);have HPc:=hid (show stp last (o+X.length) (pcs s)=stm (o+X.length) s last from z9Z last s _);have hBw:B≤w.heap.size:=by have:=h.lt h.self;omega
 clear h;refine(callsIn_wide (n:=5)).1 ?_
 refine callsIn_of_wp_marks Tryz.func69 rfl trivial ?_ rfl;simp only[Tryz.ntmps69,List.size_toArray,qC,List.length_nil,Nat.reduceAdd,Nat.reduceSub,Array.replicate_succ,Array.replicate_zero,List.push_toArray,List.append_toArray,List.nil_append,List.cons_append]
 gi_wp2_with (refine⟨trivial,?_⟩;gi_at_call 101;refine(callsIn_wide.2 (z4d _ _)).mono ?_;rintro e w' ⟨rfl,rfl⟩)
 obtain⟨w2,hw2⟩:∃w2,(((w.alloc (.cells #[.pointer (some ⟨p,0,none⟩)] 53)).alloc (.cells #[.bool last] 4)).alloc (.cells #[.int .i64 0] 24)).alloc (.cells #[.string s] 9)=w2:=⟨_,rfl⟩
 have hz2:w2.heap.size=w.heap.size+1+1+1+1:=by rw[←hw2];simp
 have hb2:Below w.heap.size w w2:=by rw[←hw2];exact((((Below.refl _ w).alloc qR _).alloc (by simp) _).alloc (by simp;omega) _).alloc (by simp;omega) _
 have g0:w2.heap[w.heap.size]? =some (.cells #[.pointer (some ⟨p,0,none⟩)] 53 (0,0)):=by rw[←hw2];exact old_at _ (old_at _ (old_at _ (new_at _ _)))
 have g1:w2.heap[w.heap.size+1]? =some (.cells #[.bool last] 4 (0,0)):=by
  rw[←hw2];have:=old_at (.cells #[.string s] 9) (old_at (.cells #[.int .i64 0] 24) (new_at (w.alloc (.cells #[.pointer (some ⟨p,0,none⟩)] 53)) (.cells #[.bool last] 4)));rw[World.size_alloc] at this;exact this
 have g2:w2.heap[w.heap.size+1+1]? =some (.cells #[.int .i64 0] 24 (0,0)):=by
  rw[←hw2];have:=old_at (.cells #[.string s] 9) (new_at ((w.alloc (.cells #[.pointer (some ⟨p,0,none⟩)] 53)).alloc (.cells #[.bool last] 4)) (.cells #[.int .i64 0] 24));rw[World.size_alloc,World.size_alloc] at this;exact this
 have g3:w2.heap[w.heap.size+1+1+1]? =some (.cells #[.string s] 9 (0,0)):=by
  rw[←hw2];have:=new_at (((w.alloc (.cells #[.pointer (some ⟨p,0,none⟩)] 53)).alloc (.cells #[.bool last] 4)).alloc (.cells #[.int .i64 0] 24)) (.cells #[.string s] 9);rw[World.size_alloc,World.size_alloc,World.size_alloc] at this;exact this
 rw[hw2];clear hw2;obtain⟨M,hM⟩:∃M,w.heap.size=M:=⟨_,rfl⟩
 rw[hM] at hz2 g0 g1 g2 g3 hb2;have HB2:=hid hb2;have HM:=hid hM;have HSl:=hid (show ∀j,S j→B≤j∧j<M from fun j hj=>by have:=HH.out.lt hj;omega);have HWt2:=hid (HH.out.keep (Kept.of_below (by rw[hM];exact hb2)) (fun j _ q=>q));have HG0:=hid g0;have HG1:=hid g1;have HG2:=hid g2;have hBM:B≤M:=by omega
 have HZ2:=hid hz2;have HKf:=hid (show ∀W',Kept (fun j=>S j∨M≤j) w2 W'→Kept S w W' from fun W' k=>(z06 S (by rw[hM];exact hb2)).trans k (fun j hj=>hj.imp_right (fun q=>by omega)));rw[hM];clear hz2 hb2 g0 g1 g2
 refine wpIn_rangeFunc_ownF rfl (by omega) (gf:= 124) (lb:= #[.pointer (some ⟨M+1+1+1,0,none⟩)]) rfl trivial (enters_of Tryz.func124 (by kernel_rfl) rfl)
  (z2u 4 (M+1+1+1) s (by omega) hs (fun _ _=>True) w2 (one_cell g3))
  (fun _ _=>trivial) (fun _ _ _ _ _ _ _ _=>trivial) (Below.refl _ _) (fun _=>rfl)
  (MidS w2 B p S most V o X last) (IxS w2 M S most o X last) MidS.own (fun c=>IxS.own (by have:=HZ2.out;omega))
  ⟨⟨S,by simpa [stp] using HWt2.out,fun j hj=> .inl hj⟩,Kept.refl _ _,fun q=>absurd rfl q⟩
  (fun x=> {tmps:= #[.pointer (some ⟨p,0,none⟩),.string s,.bool last,.pointer (some ⟨M,0,none⟩),undef,.pointer (some ⟨M+1,0,none⟩),.pointer (some ⟨M+1+1,0,none⟩),.string x.1.1,.bool x.1.2,undef,.string s,.func (.func 124) #[] #[.pointer (some ⟨M+1+1+1,0,none⟩)],.string x.1.1,.bool x.1.2,undef,undef,undef,undef,undef,undef,undef,undef,undef,undef],defers:=[]})
  ?assign ?body ?done ?stop
 case assign=>
  intro l x W K hK;unfold zhc;gi_wp2;exact hK
 case body=>
  rintro l pre x W hmid hlt;obtain⟨⟨S',hw,hsub⟩,hkp,hfit⟩:=hmid;have hz:=HZ2.out
  have hns:∀j,j<w2.heap.size→M≤j→¬(S j∨w2.heap.size≤j):=fun j h1 h2 q=>by
   rcases q with q|q
   · have:=HSl.out j q;omega
   · omega
  have c0:=one_cell ((hkp.block M (by omega) (hns M (by omega) (by omega))).trans HG0.out);have c1:=one_cell ((hkp.block (M+1) (by omega) (hns (M+1) (by omega) (by omega))).trans HG1.out);have HG2W:=hid ((hkp.block (M+1+1) (by omega) (hns (M+1+1) (by omega) (by omega))).trans HG2.out)
  have HNs:=hid (show ¬S' (M+1+1) from fun q=>by
   rcases hsub _ q with q|q
   · have:=HSl.out _ q;omega
   · omega)
  have HWz:=hid (show w2.heap.size≤W.heap.size from hkp.size);have hle:=z7u last pre (o+X.length);have hN:=HN.out;have hsn:=z4B last x pre (o+X.length);obtain⟨⟨t,lb⟩,ht⟩:=x;simp only at ht hsn;obtain⟨Xp,hXp⟩:∃Xp,X++stp last (o+X.length) pre=Xp:=⟨_,rfl⟩
  have hlen:Xp.length=X.length+(stp last (o+X.length) pre).length:=by rw[←hXp,qA]
  have hnx:X++stp last (o+X.length) (pre++[⟨(t,lb),ht⟩])=Xp++stb (o+Xp.length) t (last&&lb):=by
   rw[hsn,←qD,hXp,hlen,Nat.add_assoc]
  rw[hXp] at hw;obtain⟨z,hzz⟩:∃z,(last&&lb)=z:=⟨_,rfl⟩
  rw[hzz] at hnx;have HW:=hid (z8z t z hw ht (by omega));have HWt:=hid hw;have HSub:=hid hsub;have HKp:=hid hkp;have HNx:=hid hnx;unfold Put at HW;dsimp only;by_cases hm:(((o+(Xp++stb (o+Xp.length) t z).length+7) /8:Nat):Int)≤most
  · have HM1:=hid hm
    have HMid:=hid (show ∀w1 S2,Wt w1 B p S2 most (V+nb (Xp++stb (o+Xp.length) t z)*2^o) (o+(Xp++stb (o+Xp.length) t z).length)→Kept S' W w1→(∀j,S2 j→S' j∨W.heap.size≤j)→KeepsOthers W w1∧True∧MidS w2 B p S most V o X last (pre++[⟨(t,lb),ht⟩]) w1 from fun w1 S2 h2 k2 i2=>⟨z1a HWt.out k2,trivial,⟨S2,by rw[HNx.out];exact h2,fun j hj=>by
     rcases i2 j hj with q|q
     · exact HSub.out j q
     · right;have:=HWz.out;omega⟩,HKp.out.trans k2 (fun j hj=> .inl (HSub.out j hj)),fun _=>by rw[HNx.out];exact HM1.out⟩)
    clear hw hsub hkp hfit hz hns hle hN hsn hXp hlen hnx hm hlt;cases last
    · obtain rfl:false=z:=by simpa using hzz
      clear hzz
      gi_wp2_with (refine⟨trivial,?_⟩;gi_at_call 102;refine(CallsIn.inRound l (callsIn_wide.2 HW.out)).mono ?_;rintro e w1 ⟨hd,hno⟩;obtain⟨rfl,S2,h2,k2,i2⟩:=hd HM1.out;have HR:=hid (HMid.out w1 S2 h2 k2 i2);clear hd hno h2 k2 i2)
      exact HR.out
    · obtain rfl:lb=z:=by simpa using hzz
      clear hzz
      gi_wp2_with (refine⟨trivial,?_⟩;gi_at_call 102;refine(CallsIn.inRound l (callsIn_wide.2 HW.out)).mono ?_;rintro e w1 ⟨hd,hno⟩;obtain⟨rfl,S2,h2,k2,i2⟩:=hd HM1.out;have HR:=hid (HMid.out w1 S2 h2 k2 i2);clear hd hno h2 k2 i2)
      exact HR.out
  · have HM1:=hid hm
    have HEnd:=hid (show ∀w1,Kept S' W w1→w1.heap[M+1+1]? =some (.cells #[.int .i64 0] 24 (0,0))∧∀v,v=Value.int .i64 4→KeepsOthers W (w1.setCell ⟨M+1+1,0,none⟩ v)∧IxS w2 M S most o X last .ret (pre++[⟨(t,lb),ht⟩]) (w1.setCell ⟨M+1+1,0,none⟩ v) from fun w1 k1=>by
     have hz3:=HZ2.out;have hz4:=HWz.out;have g:=(k1.block (M+1+1) (by omega) HNs.out).trans HG2W.out;refine⟨g,fun v hv=>⟨(z1a HWt.out k1).trans (KeepsOthers.setCell _ _ _),rfl,by rw[hv];exact one_set g _,?_,by rw[HNx.out];have:=HM1.out;omega⟩⟩
     have hk3:Kept (fun j=>S j∨M≤j) w2 w1:=(HKp.out.mono (fun j hj=>hj.imp_right (fun q=>by omega))).trans k1 (fun j hj=>by
      rcases HSub.out j hj with q|q
      · exact .inl (.inl q)
      · exact .inr q)
     exact hk3.setCell ⟨M+1+1,0,none⟩ (.inl (.inr (by show M≤M+1+1;omega))) _)
    clear hw hsub hkp hfit hz hns hle hN hsn hXp hlen hnx hm hlt;cases last
    · obtain rfl:false=z:=by simpa using hzz
      clear hzz
      gi_wp2_with (refine⟨trivial,?_⟩;gi_at_call 102;refine(CallsIn.inRound l (callsIn_wide.2 HW.out)).mono ?_;rintro e w1 ⟨hd,hno⟩;obtain⟨rfl,k1⟩:=hno (by have:=HM1.out;omega);obtain⟨g,hR⟩:=HEnd.out w1 k1;have g1:=one_cell g;have g2:=one_free g;have HR:=hid hR;clear hd hno k1 hR)
      exact HR.out _ rfl
    · obtain rfl:lb=z:=by simpa using hzz
      clear hzz
      gi_wp2_with (refine⟨trivial,?_⟩;gi_at_call 102;refine(CallsIn.inRound l (callsIn_wide.2 HW.out)).mono ?_;rintro e w1 ⟨hd,hno⟩;obtain⟨rfl,k1⟩:=hno (by have:=HM1.out;omega);obtain⟨g,hR⟩:=HEnd.out w1 k1;have g1:=one_cell g;have g2:=one_free g;have HR:=hid hR;clear hd hno k1 hR)
      exact HR.out _ rfl
 case done=>
  rintro D ys W hD rfl hmid hK;obtain⟨⟨S',hw,hsub⟩,hkp,hfit⟩:=hmid;have hz:=HZ2.out;have hD2:M+1+1+1+1≤D:=by omega
  have g:=(hkp.block (M+1+1) (by omega) (fun q=>by
   rcases q with q|q
   · have:=HSl.out _ q;omega
   · omega)).trans HG2.out
  have g1:=one_cell g;have g2:=one_free g;rw[HPc.out] at hw hfit;have HWt:=hid hw;have HSub:=hid hsub;have HKp:=hid hkp;have HF:=hid (hfit (zhO s));have HKd:=hid hK;have HGr:=hid g;clear hw hsub hkp hfit hz g hK;gi_wp2;have hK':(W.setCell ⟨M+1+1,0,none⟩ (.int .i64 0)).heap[D]? =some (.deferred (some [])):=(KeepsOthers.setCell W ⟨M+1+1,0,none⟩ (.int .i64 0)).same D _ HKd.out rfl;refine⟨by simp,.inl ⟨_,_,rfl,run_takeDeferred hK',?_⟩⟩;have hc5:=cell_kept (one_cell (one_set HGr.out (.int .i64 0))) (grownBy_putObj' _ D (.deferred none)) (fun r e=>by cases e;exact⟨_,hK',rfl⟩)
  have h1:Wt (W.setCell ⟨M+1+1,0,none⟩ (.int .i64 0)) B p S' most (V+nb (X++stm (o+X.length) s last)*2^o) (o+(X++stm (o+X.length) s last).length):=HWt.out.keep ((Kept.refl (fun j=>j=M+1+1) W).setCell ⟨M+1+1,0,none⟩ (.inl rfl) _) (fun j hj q=>by
   rcases HSub.out j hj with r|r
   · have:=HSl.out j r;omega
   · have:=HZ2.out;omega)
  have h2:=z2z h1 (grownBy_putObj' _ D (.deferred none)) (fun r e=>by cases e;exact⟨_,hK',rfl⟩);have hk3:Kept (fun j=>S j∨M≤j) w2 W:=HKp.out.mono (fun j hj=>hj.imp_right (fun q=>by have:=HZ2.out;omega));have hk4:=(hk3.setCell ⟨M+1+1,0,none⟩ (.inl (.inr (by show M≤M+1+1;omega))) (.int .i64 0)).grown (grownBy_putObj' _ D (.deferred none)) (fun r e=>by cases e;exact .inl (.inr (by omega)))
  refine⟨.int .i64 0,?_,fun _=>⟨rfl,S',h2,HKf.out _ hk4,fun j hj=>by
   rcases HSub.out j hj with q|q
   · exact .inl q
   · right;have:=HZ2.out;have:=HM.out;omega⟩,fun q=>absurd HF.out q⟩
  simp[results,Tryz.f69,go_sem,hc5]
 case stop=>
  rintro D c pre W hD ⟨r,hr⟩ ⟨rfl,hres,hkp,hno⟩ hK;have g1:=one_cell hres;have g2:=one_free hres;have HKd:=hid hK;have HKp:=hid hkp;have hsp:=z5B last pre r (o+X.length);rw[hr,HPc.out] at hsp
  have HNo:=hid (show ¬(((o+(X++stm (o+X.length) s last).length+7) /8:Nat):Int)≤most from fun q=>hno (by
   rw[qA] at q ⊢;omega))
  clear hK hkp hsp hno hr;gi_wp2;have hK':=HKd.out;refine⟨by simp,.inl ⟨_,_,rfl,run_takeDeferred hK',?_⟩⟩;have hc5:=cell_kept g1 (grownBy_putObj' _ D (.deferred none)) (fun r e=>by cases e;exact⟨_,hK',rfl⟩);have hk4:=HKp.out.grown (grownBy_putObj' _ D (.deferred none)) (fun r e=>by cases e;exact .inl (.inr (by have:=HZ2.out;omega)));have hno:=HNo.out;refine⟨.int .i64 4,?_,fun q=>absurd q (by omega),fun _=>⟨rfl,HKf.out _ hk4⟩⟩;simp[results,Tryz.f69,go_sem,hc5]
end Go.Proofs.YtacelhaidcmbcaaGreatDoor.V
