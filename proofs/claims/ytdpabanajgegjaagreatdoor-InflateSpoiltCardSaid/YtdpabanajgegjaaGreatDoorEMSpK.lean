/- Texts of one place, one behind the other: SpK, SpO, SpP, SpT. -/
import Derived.Test.YtdpabanajgegjaaGreatDoorEMBwQ
import Derived.Test.YtdpabanajgegjaaGreatDoorEMT9Tok
import Derived.Test.YtdpabanajgegjaaGreatDoorEMRns
import Derived.Deep.RegionHeld3
import Derived.Maps.AppendAt
import Derived.Maps.RangeWalk
import Derived.Maps.OwnSet
import Derived.DeepKeys4
set_option linter.unusedVariables false
set_option linter.unusedSimpArgs false
set_option maxRecDepth 1000000
namespace Go.Proofs.YtdpabanajgegjaaGreatDoor.V
open Go.Lib (hid)
open Go Go.RowKit M U
noncomputable def kds(L:List Tk)(s:ByteArray):Nat→Nat×Nat
 |0=>(0,b3 L s 0)
 |j+1=>if b3 L s (j+1)<(kds L s j).2 then(j+1,b3 L s (j+1)) else kds L s j
theorem kds_two(L:List Tk)(s:ByteArray):kds L s 2=kd L s:=by
 unfold kd;simp only[kds];by_cases h1:b3 L s 1<b3 L s 0
 · simp only[Nat.zero_add,h1,if_true]
 · simp only[Nat.zero_add,h1,if_false]
theorem kds_le{L:List Tk}{s:ByteArray}(hs:s.size≤70000)(hn:L.length≤10000)(hm:∀t∈L,may t=true):∀j,(kds L s j).2≤6000000∧(kds L s j).1≤j
 |0=>⟨b3_le hs hn hm,Nat.le_refl _⟩
 |j+1=>by
  have ih:=kds_le hs hn hm j;rw[kds]
  split
  · exact⟨by show b3 L s (j+1)≤_;omega,Nat.le_refl _⟩
  · exact⟨ih.1,by omega⟩
set_option maxRecDepth 1000000 in
theorem rkind14_any(A:Option Addr)(n c:Nat)(L:List Tk)(s:ByteArray)(w:World)(h:IsTks w A n L)(hn:n≤10000)(hs:s.size≤70000)(hm:∀t∈L,may t=true):
 Calls Tryz.prog 45 #[.slice A n c,.string s] w fun e w'=>e=.returned (.tuple #[.int .u8 ((kd L s).1:Nat),.int .i64 ((kd L s).2:Nat)])∧Below w.heap.size w w':=by
 have hl:=h.leng
 have HSz:=hid (fun(k:Nat) (hk:k≤2) (w':World) (b:Below w.heap.size w w')=>(show Calls Tryz.prog 70 #[.int .u8 k,.slice A n c,.string s,.int .i64 0] w' (fun e w2=>e=.returned (.int .i64 ((b3 L s k:Nat):Int))∧Below w'.heap.size w' w2) from
  sizem_any k hk A n c L s 0 w' (fun _=>hs) (fun w2 b2=>h.below (b.trans (b2.mono b.size))) hn (fun _=>hm) (Nat.le_trans (bkm_len k L s false (0%8) (fun _=>hs) (by omega) (fun _=>hm)) (by omega))))
 have HB:=hid (fun k=>(b3_le (k:=k) hs (by omega:L.length≤10000) hm));have HK:=hid (fun j=>kds_le hs (by omega:L.length≤10000) hm j);have HE:=hid (kds_two L s);have HD:=hid (fun j=>(show kds L s (j+1)=if b3 L s (j+1)<(kds L s j).2 then(j+1,b3 L s (j+1)) else kds L s j from rfl));have h0:=HSz.out 0 (by omega) w (Below.refl _ _);have H0:=hid (show Calls Tryz.prog 70 #[.int .u8 0,.slice A n c,.string s,.int .i64 0] w (fun e w2=>e=.returned (.int .i64 ((b3 L s 0:Nat):Int))∧Below w.heap.size w w2) from h0);clear h hl hm h0 hs hn;obtain⟨F,hF⟩:∃F,b3 L s=F:=⟨_,rfl⟩
 obtain⟨G,hG⟩:∃G,kds L s=G:=⟨_,rfl⟩
 have hG0:G 0=(0,F 0):=by rw[←hG,←hF];rfl
 have HG0:=hid hG0;rw[←HE.out];rw[hF] at H0 HSz HB HD;rw[hG] at HK HD ⊢;clear hF hG HE hG0;go_enter Tryz.func45,Tryz.ntmps45;go_wp2_with (go_at_call 70;(with_reducible refine H0.out.mono ?_);rintro e w1 ⟨rfl,b1⟩;have B1:=hid b1;clear b1)
 go_loopw [6,7,8] (fun x y z wr=> ∃j:Nat,j≤2∧x=.int .u8 ((G j).1:Nat)∧y=.int .i64 ((G j).2:Nat)∧z=.int .u8 ((j+1:Nat):Int)∧Below w.heap.size w wr) (fun _ _ z _=>3 - (intOf z).toNat)
 case atStart=>exact⟨0,by omega,by rw[HG0.out];rfl,by rw[HG0.out],rfl,B1.out⟩
 case round=>
  obtain⟨j,hj,rfl,rfl,rfl,hb⟩:=hrel;have HBw:=hid hb;have hd:=HD.out j;obtain⟨k,hk⟩:∃k,j+1=k:=⟨_,rfl⟩
  rw[hk] at hd ⊢;have hgb:=HK.out j;obtain⟨g1,hg1⟩:∃g1,(G j).1=g1:=⟨_,rfl⟩
  obtain⟨g2,hg2⟩:∃g2,(G j).2=g2:=⟨_,rfl⟩
  rw[hg1,hg2] at hgb;rw[hg2] at hd;rw[hg1,hg2];by_cases hk3:k<3
  · have d1:decide ((k:Int)<3)=true:=decide_eq_true (by omega)
    have d1':decide (k<3)=true:=decide_eq_true hk3;have hfb:=HB.out k;have HS:=hid (HSz.out k (by omega) _ HBw.out);obtain⟨f,hf⟩:∃f,F k=f:=⟨_,rfl⟩
    rw[hf] at hfb hd HS;have HDd:=hid hd;have e8:IntKind.u8.wrap ((k:Int)+1)=((k+1:Nat):Int):=by rcases(by omega:k=0∨k=1∨k=2) with rfl|rfl|rfl<;>rfl
    by_cases hlt:f<g2
    · have d2:decide ((f:Int)<(g2:Int))=true:=decide_eq_true (by omega)
      have d2':decide (f<g2)=true:=decide_eq_true hlt;have HR:=hid (show G k=(k,f) by rw[hd];exact if_pos hlt);have HJ:=hid (show j+1=k∧k≤2 from⟨hk,by omega⟩);clear hd hlt hb hk hk3 hg1 hg2 hf hj;go_wp2_with (go_at_call 70;(with_reducible refine HS.out.mono ?_);rintro e w2 ⟨rfl,b2⟩;have B2:=hid (HBw.out.trans (b2.mono HBw.out.size));clear b2);go_roundw
      case rel=>exact⟨k,HJ.out.2,by rw[HR.out],by rw[HR.out],by go_num,B2.out⟩
      case measure=>(have:=HJ.out;simp[intOf];try omega)
    · have d2:decide ((f:Int)<(g2:Int))=false:=decide_eq_false (by omega)
      have d2':decide (f<g2)=false:=decide_eq_false hlt;have HR:=hid (show G k=G j by rw[hd];exact if_neg hlt);have HJ:=hid (show j+1=k∧k≤2∧(G j).1=g1∧(G j).2=g2 from⟨hk,by omega,hg1,hg2⟩);clear hd hlt hb hk hk3 hg1 hg2 hf hj;go_wp2_with (go_at_call 70;(with_reducible refine HS.out.mono ?_);rintro e w2 ⟨rfl,b2⟩;have B2:=hid (HBw.out.trans (b2.mono HBw.out.size));clear b2);go_roundw
      case rel=>exact⟨k,HJ.out.2.1,by rw[HR.out,HJ.out.2.2.1],by rw[HR.out,HJ.out.2.2.2],by go_num,B2.out⟩
      case measure=>(have:=HJ.out;simp[intOf];try omega)
  · obtain rfl:j=2:=by omega
    have d1:decide ((k:Int)<3)=false:=decide_eq_false (by omega);have d1':decide (k<3)=false:=decide_eq_false hk3;rw[←hg1,←hg2];obtain⟨p1,hp1⟩:∃p1,(G 2).1=p1:=⟨_,rfl⟩
    obtain⟨p2,hp2⟩:∃p2,(G 2).2=p2:=⟨_,rfl⟩
    rw[hp1,hp2];clear hg1 hg2 hb hd;go_wp2_with fail;go_ret2;refine⟨?_,HBw.out⟩
    (rw[hp1,hp2])<;>rfl
end Go.Proofs.YtdpabanajgegjaaGreatDoor.V
namespace Go.Proofs.YtdpabanajgegjaaGreatDoor.V
open Go Go.RowKit M U
open Go.ChangeShapes Go.WideShapes Go.Deep
structure Pv where
 f:Nat
 t:Nat
 z:Nat
 k:Nat
deriving DecidableEq
instance:Inhabited Pv:=⟨⟨0,0,0,0⟩⟩
def clp:List Pv→List Value
 |[]=> []
 |q::l=> .int .i64 q.f::.int .i64 q.t::.int .i64 q.z::.int .u8 q.k::clp l
theorem clp_length:∀l,(clp l).length=l.length*4
 |[]=>rfl
 |q::l=>by simp only[clp,List.length_cons,clp_length l];omega
theorem clp_append:∀l r,clp (l++r)=clp l++clp r
 |[],r=>rfl
 |q::l,r=>by simp only[List.cons_append,clp,clp_append l r]
theorem clp_at:∀ (l:List Pv) (i:Nat) (q:Pv),l[i]? =some q→(clp l)[i*4]? =some (.int .i64 q.f)∧(clp l)[i*4+1]? =some (.int .i64 q.t)∧(clp l)[i*4+2]? =some (.int .i64 q.z)∧(clp l)[i*4+3]? =some (.int .u8 q.k)
 |[],i,q,h=>by simp at h
 |x::l,0,q,h=>by simp at h;subst h;exact⟨rfl,rfl,rfl,rfl⟩
 |x::l,i+1,q,h=>by
  simp at h;have ih:=clp_at l i q h;rw[show(i+1)*4=i*4+1+1+1+1 by omega];exact ih
theorem clp_one:∀ (l:List Pv),∀u∈clp l,u.oneCell'=true
 |[],u,h=>by simp[clp] at h
 |q::l,u,h=>by
  simp only[clp,List.mem_cons] at h;rcases h with rfl|rfl|rfl|rfl|h
  · rfl
  · rfl
  · rfl
  · rfl
  · exact clp_one l u h
def Owp(B:Nat)(w:World)(v:Value)(l:List Pv):Prop:=w.ownsRow B 46 4 v l.length (clp l)
theorem Owp.nil(B:Nat)(w:World):Owp B w (.slice none 0 0) []:=World.ownsRow_nil w B _ 4
theorem Owp.alloc{B:Nat}{w:World}{v:Value}{L:List Pv}(h:Owp B w v L)(o:Obj):Owp B (w.alloc o) v L:=World.ownsRow.alloc h o
theorem Owp.at{B:Nat}{w w':World}{v:Value}{L:List Pv}(h:Owp B w v L)(e:∀g,v.ownBlock=some g→w'.heap[g]? =w.heap[g]?):Owp B w' v L:=ownsRow_at h e
theorem Owp.lt{B:Nat}{w:World}{v:Value}{L:List Pv}(h:Owp B w v L):∀g,v.ownBlock=some g→B≤g∧g<w.heap.size:=World.ownsRow.lt h
theorem Owp.below{B:Nat}{w w':World}{v:Value}{L:List Pv}(h:Owp B w v L)(hb:Below w.heap.size w w'):Owp B w' v L:=h.at fun g hg=>hb.block g (h.lt g hg).2
theorem Owp.form{B:Nat}{w:World}{v:Value}{L:List Pv}(h:Owp B w v L)(hn:0<L.length):∃g c,v=.slice (some ⟨g,0,none⟩) L.length c∧L.length≤c:=by
 obtain⟨_,hh⟩:=h;rcases hh with⟨h1,h2⟩|⟨g,c,cs,h1,h2,h3,h4,h5,h6,h7⟩
 · omega
 · exact⟨g,c,h1,by omega⟩
theorem Owp.form'{B:Nat}{w:World}{v:Value}{L:List Pv}(h:Owp B w v L):∃A c,v=.slice A L.length c:=by
 obtain⟨_,hh⟩:=h;rcases hh with⟨h1,h2⟩|⟨g,c,cs,h1,h2,h3,h4,h5,h6,h7⟩
 · exact⟨none,0,by rw[h2,h1]⟩
 · exact⟨_,c,h1⟩
theorem Owp.cell{B:Nat}{w:World}{g n c:Nat}{L:List Pv}(h:Owp B w (.slice (some ⟨g,0,none⟩) n c) L){i:Nat}{q:Pv}(hn:L.length=n)(hi:L[i]? =some q):w.cell? ⟨g,i*4,none⟩=some (.int .i64 q.f)∧w.cell? ⟨g,i*4+1,none⟩=some (.int .i64 q.t)∧w.cell? ⟨g,i*4+2,none⟩=some (.int .i64 q.z)∧w.cell? ⟨g,i*4+3,none⟩=some (.int .u8 q.k):=by
 have hl:i<L.length:=(List.getElem?_eq_some_iff.1 hi).1;obtain⟨a1,a2,a3,a4⟩:=clp_at L i q hi;unfold Owp at h;rw[hn] at h;exact⟨(h.cellAt (i*4) (by omega)).trans a1,(h.cellAt (i*4+1) (by omega)).trans a2,(h.cellAt (i*4+2) (by omega)).trans a3,(h.cellAt (i*4+3) (by omega)).trans a4⟩
theorem Owp.frozen{B:Nat}{w:World}{g n c:Nat}{L:List Pv}(h:Owp B w (.slice (some ⟨g,0,none⟩) n c) L)(hn:L.length=n)(j:Nat):w.frozen? ⟨g,j,none⟩=false:=by
 unfold Owp at h;rw[hn] at h;exact h.frozenAt j
theorem set_four(A:List Value)(a b c d a' b' c' d':Value):((((A++[a,b,c,d]).set A.length a').set (A.length+1) b').set (A.length+2) c').set (A.length+3) d'=A++[a',b',c',d']:=by
 induction A with
 |nil=>rfl
 |cons x A ih=>
  simp only[List.cons_append,List.length_cons];rw[show A.length+1+1=(A.length+1)+1 from rfl,show A.length+1+2=(A.length+2)+1 by omega,show A.length+1+3=(A.length+3)+1 by omega];simp only[List.set_cons_succ];rw[ih]
theorem Owp.last{B:Nat}{w:World}{g n c:Nat}{L:List Pv}{q:Pv}(h:Owp B w (.slice (some ⟨g,0,none⟩) n c) (L++[q]))(hn:L.length+1=n)(hB:B≤w.heap.size)(q':Pv):
 Owp B ((((w.setCell ⟨g,L.length*4,none⟩ (.int .i64 q'.f)).setCell ⟨g,L.length*4+1,none⟩ (.int .i64 q'.t)).setCell ⟨g,L.length*4+2,none⟩ (.int .i64 q'.z)).setCell ⟨g,L.length*4+3,none⟩ (.int .u8 q'.k)) (.slice (some ⟨g,0,none⟩) n c) (L++[q'])
 ∧Below B w ((((w.setCell ⟨g,L.length*4,none⟩ (.int .i64 q'.f)).setCell ⟨g,L.length*4+1,none⟩ (.int .i64 q'.t)).setCell ⟨g,L.length*4+2,none⟩ (.int .i64 q'.z)).setCell ⟨g,L.length*4+3,none⟩ (.int .u8 q'.k)):=by
 have hg:∀k,(some g:Option Nat)=some k→B≤k:=fun k e=>by cases e;exact(h.lt g rfl).1
 unfold Owp at h ⊢;have hl:(L++[q]).length=n:=by rw[List.length_append];exact hn
 have hl':(L++[q']).length=n:=by rw[List.length_append];exact hn
 rw[hl] at h;rw[hl'];have s1:=h.stored (L.length*4) (.int .i64 q'.f);have s2:=s1.1.stored (L.length*4+1) (.int .i64 q'.t);have s3:=s2.1.stored (L.length*4+2) (.int .i64 q'.z);have s4:=s3.1.stored (L.length*4+3) (.int .u8 q'.k)
 have e:((((clp (L++[q])).set (L.length*4) (.int .i64 q'.f)).set (L.length*4+1) (.int .i64 q'.t)).set (L.length*4+2) (.int .i64 q'.z)).set (L.length*4+3) (.int .u8 q'.k)=clp (L++[q']):=by
  rw[clp_append,clp_append,←clp_length];exact set_four _ _ _ _ _ _ _ _ _
 rw[e] at s4;have b1:=(Below.refl B w).grown s1.2 hB hg;have b2:=b1.trans ((Below.refl B _).grown s2.2 (Nat.le_trans hB b1.size) hg);have b3:=b2.trans ((Below.refl B _).grown s3.2 (Nat.le_trans hB b2.size) hg);have b4:=b3.trans ((Below.refl B _).grown s4.2 (Nat.le_trans hB b3.size) hg);exact⟨s4.1,b4⟩
theorem partInfo:(Tryz.prog.info? 46).map (fun i=>(i.zero,i.size,i.bytes))=some (some (.agg #[.int .i64 0,.int .i64 0,.int .i64 0,.int .u8 0]),4,32):=by kernel_rfl
theorem lies_clp{w:World}{b:Nat}{q:Pv}(hc:w.cell? ⟨b,0,none⟩=some (.int .i64 q.f)∧w.cell? ⟨b,1,none⟩=some (.int .i64 q.t)∧w.cell? ⟨b,2,none⟩=some (.int .i64 q.z)∧w.cell? ⟨b,3,none⟩=some (.int .u8 q.k)):∀j u,(clp [q])[j]? =some u→w.cell? ((⟨b,0,none⟩:Addr).add j)=some u:=fun j u hu=>by
 rw[cadd_at]
 match j,hu with
 |0,hu=>simp[clp] at hu;subst hu;simpa using hc.1
 |1,hu=>simp[clp] at hu;subst hu;simpa using hc.2.1
 |2,hu=>simp[clp] at hu;subst hu;simpa using hc.2.2.1
 |3,hu=>simp[clp] at hu;subst hu;simpa using hc.2.2.2
 |(k+4),hu=>simp[clp] at hu
theorem wpList_pa{ops:Array Oper}{rest:List Oper}{o:Oper}{a:Act}{w:World}{Q:Exit→Act→World→Prop}(hgd:o.guard=none)(s x:Operand)
 (ho:o.op=.call {callee:=.builtin .append,args:= #[s,x],argTypes:= #[43,43]}) (B:Nat) (v:Value) (L:List Pv) (hs:a.eval s=v) (h:Owp B w v L) (b c:Nat) (q:Pv)
 (hx:a.eval x=.slice (some ⟨b,0,none⟩) 1 c) (hc:w.cell? ⟨b,0,none⟩=some (.int .i64 q.f)∧w.cell? ⟨b,1,none⟩=some (.int .i64 q.t)∧w.cell? ⟨b,2,none⟩=some (.int .i64 q.z)∧w.cell? ⟨b,3,none⟩=some (.int .u8 q.k)) (hL:L.length≤1000000) (hB:B≤w.heap.size)
 (hK:∀v' w',Owp B w' v' (L++[q])→Below B w w'→wpList Tryz.prog ops Q rest (a.put o.dst v') w'):wpList Tryz.prog ops Q (o::rest) a w:=
 wpList_plain hgd fun K hK'=>by
  obtain⟨i,h1,h2,h3,h4⟩:=info_of partInfo
  obtain⟨v',w',r1,r2,r3,_⟩:=run_append_own (P:= Tryz.prog) w B 43 o.type 46 i _ 4 32 Tryz.underlying43 h1 h2 h3 h4 rfl (by decide) v L.length (clp L) h ⟨b,0,none⟩ 1 c (clp [q]) rfl
   (lies_clp hc) (clp_one _) (by unfold maxLen;omega) (by omega) hB
  unfold Oper.wp execOp;simp only[ho,resolve,invoke,builtin,Sem.run_bind,Sem.run_pure,Result.andThen_ok,List.map_toArray,List.map_cons,List.map_nil,hs,hx,r1];refine hK' _ _ (hK v' w' ?_ ((Below.refl _ w).grown r3 hB (fun k hk=>(World.ownsRow.lt h k hk).1)));unfold Owp;rw[List.length_append,clp_append];exact r2
theorem IsTks.sub{w:World}{A:Option Addr}{n c:Nat}{L:List Tk}(h:IsTks w A n L)(hc:n≤c){f t:Nat}(hf:f≤t)(ht:t≤n):
 IsTks w (if c=f then A else Option.map (fun x=>x.add (f*3)) A) (t - f) (seg L f t):=by
 refine⟨by rw[seg_length (by have:=h.leng;omega)],by have:=h.most;omega,fun x hx=>h.good x (seg_mem hx),?_⟩;by_cases h0:t - f=0
 · exact .inl h0
 · right
   rcases h.cells with q|⟨b,o,rfl,hb,hcs⟩
   · omega
   · rw[if_neg (by omega)]
     refine⟨b,o+f*3,by simp[cadd_at],hb,fun i x hx=> ?_⟩
     have hx':L[f+i]? =some x:=by
      unfold seg at hx;rw[List.getElem?_take] at hx
      split at hx
      · rw[List.getElem?_drop] at hx;exact hx
      · cases hx
     have k:=hcs (f+i) x hx';have e:o+(f+i)*3=o+f*3+i*3:=by omega
     exact⟨by rw[←e];exact k.l,by rw[←e];exact k.n,by rw[←e];exact k.d⟩
theorem IsTks.subm{w:World}{A:Option Addr}{n:Nat}{L:List Tk}(h:IsTks w A n L){f t:Nat}(hf:f≤t)(ht:t≤n):
 IsTks w (Option.map (fun x=>x.add (f*3)) A) (t - f) (seg L f t):=by
 by_cases h0:t - f=0
 · refine⟨by rw[seg_length (by have:=h.leng;omega)],by have:=h.most;omega,fun x hx=>h.good x (seg_mem hx),.inl h0⟩
 · have g:=h.sub (c:=n) (Nat.le_refl _) hf ht
   rwa [if_neg (by omega)] at g
end Go.Proofs.YtdpabanajgegjaaGreatDoor.V
namespace Go.Proofs.YtdpabanajgegjaaGreatDoor.V
open Go.Lib (hid)
open Go Go.RowKit M U
noncomputable def pvo(L:List Tk)(s:ByteArray)(q:Nat×Nat):Pv:=⟨q.1,q.2,szt L q.2 - szt L q.1,(kp L s q.1 q.2).1⟩
noncomputable def pvs(L:List Tk)(s:ByteArray)(l:List (Nat×Nat)):List Pv:=l.map (pvo L s)
noncomputable def prk(L:List Tk)(s:ByteArray):Nat→List (Nat×Nat)
 |0=> []
 |k+1=>prt (kp L s) (cut L.length) k
theorem prk_next(L:List Tk)(s:ByteArray){n a b j:Nat}(hn:L.length=n)(ha:cut n (j+1)=a)(hb:cut n (j+1+1)=b):
 ∃I f,prk L s (j+1)=I++[(f,a)]∧f≤cut n j∧((kp L s f b).2≤(kp L s f a).2+(kp L s a b).2→prk L s (j+1+1)=I++[(f,b)])∧(¬(kp L s f b).2≤(kp L s f a).2+(kp L s a b).2→prk L s (j+1+1)=(I++[(f,a)])++[(a,b)]):=by
 subst hn;have hto:=pst_to (kp L s) (cut L.length) j;obtain⟨hc1,hc2⟩:=pst_chn (kp L s) (cut L.length) (cut_mono _) j;rw[ha] at hto;have hq:(pst (kp L s) (cut L.length) j).2=((pst (kp L s) (cut L.length) j).2.1,a):=by rw[←hto]
 refine⟨(pst (kp L s) (cut L.length) j).1,(pst (kp L s) (cut L.length) j).2.1,?_,hc2,fun h=> ?_,fun h=> ?_⟩
 · show prt (kp L s) (cut L.length) j=_
   unfold prt;rw[←hq]
 · show prt (kp L s) (cut L.length) (j+1)=_
   unfold prt;rw[pst];rw[show cut L.length (j+2)=b from hb,ha,if_pos h]
 · show prt (kp L s) (cut L.length) (j+1)=_
   unfold prt;rw[pst];rw[show cut L.length (j+2)=b from hb,ha,if_neg h,←hq]
theorem pvs_append(L:List Tk)(s:ByteArray)(l r:List (Nat×Nat)):pvs L s (l++r)=pvs L s l++pvs L s r:=List.map_append
set_option maxHeartbeats 4000000 in
theorem rparts_any(A:Option Addr)(n c:Nat)(L:List Tk)(s:ByteArray)(w:World)(h:IsTks w A n L)(hnc:n≤c)(hn:n≤10000)(hs:s.size≤70000)(hm:∀t∈L,may t=true)(hz:Tx.szs L=s.size):
 Calls Tryz.prog 20 #[.slice A n c,.string s] w fun e w'=> ∃v,e=.returned v∧Owp w.heap.size w' v (pvs L s (pts L s))∧Below w.heap.size w w':=by
 have hl:=h.leng
 have HKi:=hid (fun(f t:Nat) (hf:f≤t) (ht:t≤n) (X:Option Addr) (cx:Nat) (w':World) (hx:IsTks w' X (t - f) (seg L f t))=>(show Calls Tryz.prog 45 #[.slice X (t - f:Nat) cx,.string (s.extract (szt L f) (szt L t))] w' (fun e w2=>e=.returned (.tuple #[.int .u8 ((kp L s f t).1:Nat),.int .i64 ((kp L s f t).2:Nat)])∧Below w'.heap.size w' w2) from
  rkind14_any X (t - f) cx (seg L f t) _ w' hx (by omega) (by rw[ByteArray.size_extract];omega) (fun x hx=>hm x (seg_mem hx))))
 have HSz:=hid (fun(f t:Nat) (hf:f≤t) (ht:t≤n) (X:Option Addr) (cx:Nat) (w':World) (hx:IsTks w' X (t - f) (seg L f t))=>(show Calls Tryz.prog 44 #[.slice X (t - f:Nat) cx] w' (fun e w2=>e=.returned (.int .i64 ((Tx.szs (seg L f t):Nat):Int))∧Below w'.heap.size w' w2) from
  Tx.rsize_any X (t - f) cx (seg L f t) w' hx (by omega)))
 have HKB:=hid (fun(f t:Nat) (ht:t≤n)=>(show(kp L s f t).2≤6000000 from kd_le (by rw[ByteArray.size_extract];omega) (by rw[seg_length (by omega)];omega) (fun x hx=>hm x (seg_mem hx))));have HH:=hid h;have HL:=hid hl;clear h hm;go_enter Tryz.func20,Tryz.ntmps20;go_wp2_with fail
 go_loopw [5,6,7] (fun v x y wr=> ∃k:Nat,k≤cnk n+1∧x=.int .i64 (cut n k:Nat)∧y=.int .i64 (szt L (cut n k):Nat)∧Owp w.heap.size wr v (pvs L s (prk L s k))∧(n=0→k=0)∧Below w.heap.size w wr) (fun _ x _ _=>n - (intOf x).toNat)
 case atStart=>exact⟨0,Nat.zero_le _,rfl,rfl,Owp.nil _ _,fun _=>rfl,Below.refl _ _⟩
 case round=>
  obtain⟨k,hk,rfl,rfl,hO,hn0,hb⟩:=hrel;have HO:=hid hO;have HB:=hid hb;obtain⟨N,hN⟩:∃N,(pvs L s (prk L s k)).length=N:=⟨_,rfl⟩
  obtain⟨A1,c1,rfl⟩:=hO.form';rw[hN];by_cases hn1:n=0
  · subst hn1
    obtain rfl:=hn0 rfl;have hL:L=[]:=List.eq_nil_of_length_eq_zero hl;subst hL;have hN0:N=0:=by rw[←hN];rfl
    subst hN0;have hs0:s.size=0:=hz.symm;have e0:cut 0 0=0:=rfl;have e1:szt [] 0=0:=rfl;have HK1:=hid (fun(X:Option Addr) (cx:Nat) (w':World)=>(show Calls Tryz.prog 45 #[.slice X 0 cx,.string (s.extract 0 0)] w' (fun e w2=>e=.returned (.tuple #[.int .u8 ((kp [] s 0 0).1:Nat),.int .i64 ((kp [] s 0 0).2:Nat)])∧Below w'.heap.size w' w2) from HKi.out 0 0 (Nat.le_refl _) (Nat.le_refl _) X cx w' ⟨rfl,Nat.zero_le _,fun c hc=>absurd hc (by simp[seg]),.inl rfl⟩));have HS1:=hid (fun(X:Option Addr) (cx:Nat) (w':World)=>(show Calls Tryz.prog 44 #[.slice X 0 cx] w' (fun e w2=>e=.returned (.int .i64 0)∧Below w'.heap.size w' w2) from HSz.out 0 0 (Nat.le_refl _) (Nat.le_refl _) X cx w' ⟨rfl,Nat.zero_le _,fun c hc=>absurd hc (by simp[seg]),.inl rfl⟩));have hpt:pvs [] s (prk [] s 0)++[⟨0,0,0,(kp [] s 0 0).1⟩]=pvs [] s (pts [] s):=by rw[pts_few [] s (by simp)];rfl
    have HPt:=hid hpt;obtain⟨kk,hkk⟩:∃kk,(kp [] s 0 0).1=kk:=⟨_,rfl⟩
    obtain⟨kb,hkb⟩:∃kb,(kp [] s 0 0).2=kb:=⟨_,rfl⟩
    rw[hkk,hkb] at HK1;rw[hkk] at HPt;rw[show s.extract 0 0=ByteArray.empty by simp] at HK1;have d1:decide ((0:Int)<((0:Nat):Int))=false:=decide_eq_false (by omega);have m0:min (1024:Int) 0=0:=by decide
    have hw0:IntKind.i64.wrap 0=0:=by rw[IntKind.wrap_i64];rfl
    clear hpt hkk hkb hO hN hb hz hl hk
    go_upto_region 6 with(go_at_call 44;(with_reducible refine(HS1.out _ _ _).mono ?_);rintro e w1 ⟨rfl,b1⟩;have B1:=hid (HB.out.trans (b1.mono HB.out.size));have O1:=hid (HO.out.below b1);clear b1)
    go_region_law (rw[if_pos (by rfl)];go_simp;(with_reducible refine(HK1.out _ _ _).mono ?_);rintro e w2 ⟨rfl,b2'⟩;have b2:=(Below.refl _ w1).drew.trans b2';have B2:=hid (B1.out.trans (b2.mono B1.out.size));have O2:=hid (O1.out.below b2);clear b2 b2';dsimp only)
    go_wp2_with (at_builtin;refine wpList_pa rfl (.tmp 126) (.tmp 128) rfl w.heap.size _ (pvs [] s (prk [] s 0)) rfl ((O2.out.alloc _).alloc _) (w2.heap.size+1) 1 ⟨0,0,0,kk⟩ rfl ⟨by simp,by simp,by simp,by simp⟩ (by show 0≤_;omega) (by have:=B2.out.size;simp;omega) ?_;intro v4 w4 o4 b4;have O4:=hid o4;have B4:=hid (((B2.out.alloc B2.out.size _).alloc (by have:=B2.out.size;simp;omega) _).trans b4);clear o4 b4);go_ret;exact⟨_,rfl,by rw[←HPt.out];exact O4.out,B4.out⟩
  · by_cases hkc:k≤cnk n
    · obtain⟨h1,h2⟩:=cut_some hkc (by omega)
      have h3:cut n (k+1)=min (1024*(k+1)) n:=rfl;obtain⟨a,ha⟩:∃a,cut n k=a:=⟨_,rfl⟩
      obtain⟨b,hbe⟩:∃b,cut n (k+1)=b:=⟨_,rfl⟩
      rw[ha] at h1 h2 ⊢;rw[hbe] at h3;have hab:a<b:=by omega
      have hbn:b≤n:=by omega
      have hzs:=szs_seg L (show a≤b by omega);have hzn:szt L b≤s.size:=by rw[←hz,←szt_all (show L.length≤n by omega)];exact szt_mono L hbn
      have HS1:=hid (HSz.out a b (by omega) hbn);have HK1:=hid (HKi.out a b (by omega) hbn);obtain⟨x,hx⟩:∃x,szt L a=x:=⟨_,rfl⟩
      obtain⟨y,hy⟩:∃y,szt L b=y:=⟨_,rfl⟩
      obtain⟨z,hze⟩:∃z,Tx.szs (seg L a b)=z:=⟨_,rfl⟩
      rw[hx,hy,hze] at hzs;rw[hx] at HK1 ⊢;rw[hy] at HK1 hzn;rw[hze] at HS1;have m1:min ((a:Int)+1024) (n:Int)=(b:Int):=by omega
      have m2:(if(n:Int)<(a:Int)+1024 then(n:Int) else(a:Int)+1024)=(b:Int):=by split<;>omega
      have d1:decide ((a:Int)<(n:Int))=true:=decide_eq_true (by omega);have d1':decide (a<n)=true:=decide_eq_true (by omega);have hx7:x≤70000:=by omega
      have hz7:z≤70000:=by omega
      have hxz:(x:Int)+(z:Int)=(y:Int):=by omega
      have hac:a≤c:=by omega
      have hbc:b≤c:=by omega
      have hab2:a≤b:=by omega
      have hca:¬c=a:=by omega
      have hxy:x≤y:=by omega
      have hys:y≤s.size:=hzn;have HXY:=hid (And.intro hx hy);have HAB:=hid (And.intro ha hbe);have HN:=hid hN;clear h1 h2 h3 ha hbe hx hy hze hzs hn0 hO hb hN hk;have hw1:IntKind.i64.wrap (y:Int)=(y:Int):=by rw[IntKind.wrap_i64];omega
      have hy7:y≤70000:=by omega
      obtain⟨kk,hkk⟩:∃kk,(kp L s a b).1=kk:=⟨_,rfl⟩
      obtain⟨kb,hkb⟩:∃kb,(kp L s a b).2=kb:=⟨_,rfl⟩
      rw[hkk,hkb] at HK1;have HKK:=hid (And.intro hkk hkb);obtain⟨TX,hTX⟩:∃TX,s.extract x y=TX:=⟨_,rfl⟩
      rw[hTX] at HK1;clear hkk hkb
      have hpv:pvo L s (a,b)=⟨a,b,z,kk⟩:=by
       unfold pvo;simp only[HXY.out.1,HXY.out.2,HKK.out.1];congr 1;omega
      have HPv:=hid hpv;clear hpv;by_cases hk0:k=0
      · subst hk0
        have hN0:N=0:=by rw[←HN.out];rfl
        subst hN0
        have hp1:pvs L s (prk L s 0)++[⟨a,b,z,kk⟩]=pvs L s (prk L s 1):=by
         rw[←HPv.out];show[]++[pvo L s (a,b)]=[pvo L s (cut L.length 0,cut L.length 1)]
         rw[hl,HAB.out.1,HAB.out.2];rfl
        have HP1:=hid hp1;clear hp1
        go_upto_region 6 with(go_at_call 44;(with_reducible refine(HS1.out _ _ _ ((HH.out.below HB.out).subm (by omega) hbn)).mono ?_);rintro e w1 ⟨rfl,b1⟩;have B1:=hid (HB.out.trans (b1.mono HB.out.size));have O1:=hid (HO.out.below b1);clear b1)
        go_region_law (rw[if_pos (by rfl)];go_simp;(with_reducible refine(HK1.out _ _ _ (((HH.out.below B1.out).below (Below.refl _ _).drew).subm (by omega) hbn)).mono ?_);rintro e w2 ⟨rfl,b2'⟩;have b2:=(Below.refl _ w1).drew.trans b2';have B2:=hid (B1.out.trans (b2.mono B1.out.size));have O2:=hid (O1.out.below b2);clear b2 b2';dsimp only)
        have HC:=hid (And.intro hab hbn);clear hca hxy hys hab2 hac hbc hzn hw1;go_wp2_with (at_builtin;refine wpList_pa rfl (.tmp 126) (.tmp 128) rfl w.heap.size _ (pvs L s (prk L s 0)) rfl ((O2.out.alloc _).alloc _) (w2.heap.size+1) 1 ⟨a,b,z,kk⟩ rfl ⟨by simp,by simp,by simp,by simp⟩ (by show 0≤_;omega) (by have:=B2.out.size;simp;omega) ?_;intro v4 w4 o4 b4;have O4:=hid o4;have B4:=hid (((B2.out.alloc B2.out.size _).alloc (by have:=B2.out.size;simp;omega) _).trans b4);clear o4 b4);go_roundw
        case rel=>exact⟨1,by omega,by rw[HAB.out.2],by rw[HAB.out.2,HXY.out.2],by rw[←HP1.out];exact O4.out,fun e=>absurd e hn1,B4.out⟩
        case measure=>(have:=HC.out;simp[intOf];try omega)
      · obtain⟨j,rfl⟩:∃j,k=j+1:=⟨k - 1,by omega⟩
        obtain⟨I,f,hI,hfj,hJoin,hApp⟩:=prk_next L s hl HAB.out.1 HAB.out.2
        have hcj:cut n j<a:=by
         have h1:=(cut_some (show j≤cnk n by omega) (show 0<n by omega)).2;have h2:=(cut_some hkc (show 0<n by omega)).2;have h3:=HAB.out.1;omega
        have hfa:f<a:=by omega
        have hfb:f≤b:=by omega
        have hus:=szs_seg L (show f≤a by omega);have huy:=szt_mono L (show f≤a by omega);obtain⟨u,hu⟩:∃u,szt L f=u:=⟨_,rfl⟩
        rw[hu,HXY.out.1] at huy;have HK2:=hid (HKi.out f a (by omega) (by omega));have HK3:=hid (HKi.out f b (by omega) hbn);rw[hu,HXY.out.1] at HK2;rw[hu,HXY.out.2] at HK3;obtain⟨g0,hg0⟩:∃g0,x - u=g0:=⟨_,rfl⟩
        obtain⟨qk,hqk⟩:∃qk,(kp L s f a).1=qk:=⟨_,rfl⟩
        obtain⟨qb,hqb⟩:∃qb,(kp L s f a).2=qb:=⟨_,rfl⟩
        obtain⟨bk,hbk⟩:∃bk,(kp L s f b).1=bk:=⟨_,rfl⟩
        obtain⟨bb,hbb⟩:∃bb,(kp L s f b).2=bb:=⟨_,rfl⟩
        have hqb7:=HKB.out f a (by omega);have hbb7:=HKB.out f b hbn;have hkb7:=HKB.out a b hbn;rw[hqb] at hqb7;rw[hbb] at hbb7;rw[HKK.out.2] at hkb7;rw[hqk,hqb] at HK2;rw[hbk,hbb] at HK3;rw[hqb,hbb,HKK.out.2] at hJoin hApp;have hpq:pvo L s (f,a)=⟨f,a,g0,qk⟩:=by unfold pvo;simp only[HXY.out.1,hu,hg0,hqk]
        have hpb:pvo L s (f,b)=⟨f,b,g0+z,bk⟩:=by
         unfold pvo;simp only[HXY.out.2,hu,hbk];congr 1;omega
        have hpr:pvs L s (prk L s (j+1))=pvs L s I++[⟨f,a,g0,qk⟩]:=by rw[hI,pvs_append,←hpq];rfl
        have hJoin2:bb≤qb+kb→pvs L s (prk L s (j+1+1))=pvs L s I++[⟨f,b,g0+z,bk⟩]:=fun h=>by rw[hJoin h,pvs_append,←hpb];rfl
        have hApp2:¬bb≤qb+kb→pvs L s (prk L s (j+1+1))=(pvs L s I++[⟨f,a,g0,qk⟩])++[⟨a,b,z,kk⟩]:=fun h=>by rw[hApp h,pvs_append,pvs_append,←hpq,←HPv.out];rfl
        obtain⟨gz,hgz⟩:∃gz,g0+z=gz:=⟨_,rfl⟩
        rw[hgz] at hJoin2;have hgz2:(g0:Int)+(z:Int)=(gz:Int):=by omega
        have hxu:(x:Int) - (g0:Int)=(u:Int):=by omega
        have hg7:g0≤70000:=by omega
        have hu7:u≤70000:=by omega
        have hux:u≤x:=huy;have hxs:x≤s.size:=by omega
        have huy2:u≤y:=by omega
        have hcf:¬c=f:=by omega
        have hfa2:f≤a:=by omega
        clear hg0 hgz;obtain⟨PI,hPI⟩:∃PI,pvs L s I=PI:=⟨_,rfl⟩
        rw[hPI] at hpr hJoin2 hApp2;have HJ:=hid hJoin2;have HA:=hid hApp2;have hO2:=HO.out;rw[hpr] at hO2;have hNl:=HN.out;rw[hpr,List.length_append] at hNl;obtain⟨M,hM⟩:∃M,PI.length=M:=⟨_,rfl⟩
        have hNM:N=M+1:=by rw[←hNl,hM];rfl
        subst hNM;obtain⟨gg,c1',hgg,hc1'⟩:=hO2.form (by simp);simp only[Value.slice.injEq] at hgg;obtain⟨rfl,_,rfl⟩:=hgg
        have hO3:Owp w.heap.size wr (.slice (some ⟨gg,0,none⟩) (M+1) c1) (PI++[⟨f,a,g0,qk⟩]):=by
         have:=hO2;rw[List.length_append,hM] at this;exact this
        have HO3:=hid hO3;have HM:=hid hM
        have hMn:M≤10000:=by
         have h1:=prt_length (kp L s) (cut L.length) j;have h2:(prk L s (j+1)).length=M+1:=by have:=congrArg List.length hpr;rw[List.length_append,hM] at this;unfold pvs at this;rw[List.length_map] at this;exact this
         have h3:(prk L s (j+1)).length≤j+1:=h1;have h4:j+1≤cnk n:=hkc;unfold cnk at h4;omega
        clear hI hJoin hApp hpq hpb hpr hJoin2 hApp2 hPI hO2 hNl hM hO3 HO hqk hqb hbk hbb hus hfj hcj hc1';have d2:decide ((0:Int)<((M+1:Nat):Int))=true:=decide_eq_true (by omega);have d2':decide (0<M+1)=true:=decide_eq_true (by omega)
        go_upto_region 6 with(go_at_call 44;(with_reducible refine(HS1.out _ _ _ ((HH.out.below HB.out).subm (by omega) hbn)).mono ?_);rintro e w1 ⟨rfl,b1⟩;have B1:=hid (HB.out.trans (b1.mono HB.out.size));have O1:=hid (HO3.out.below b1);clear b1)
        go_region_law (rw[if_pos (by rfl)];go_simp;(with_reducible refine(HK1.out _ _ _ (((HH.out.below B1.out).below (Below.refl _ _).drew).subm (by omega) hbn)).mono ?_);rintro e w2 ⟨rfl,b2'⟩;have b2:=(Below.refl _ w1).drew.trans b2';have B2:=hid (B1.out.trans (b2.mono B1.out.size));have O2:=hid (O1.out.below b2);clear b2 b2';dsimp only)
        have q0:=fun o=>(O2.out.alloc o).cell (i:=M) (q:=⟨f,a,g0,qk⟩) (by rw[List.length_append,HM.out];rfl) (by rw[List.getElem?_append_right (by rw[HM.out];exact Nat.le_refl _),HM.out,Nat.sub_self];rfl)
        have q00:=fun o=>(q0 o).1
        have q01:=fun o=>(q0 o).2.1
        have q02:=fun o=>(q0 o).2.2.1
        have q03:=fun o=>(q0 o).2.2.2
        clear q0
        go_upto_region 12 with fail
        have bq:Below w2.heap.size w2 ((w2.alloc (.cells #[.int .i64 a,.int .i64 b,.int .i64 z,.int .u8 kk] 46)).alloc (.cells #[.int .i64 f,.int .i64 a,.int .i64 g0,.int .u8 qk] 46)):=((Below.refl _ _).alloc (Nat.le_refl _) _).alloc (by simp) _;have OQ:=hid (O2.out.below bq);have BQ:=hid (B2.out.trans (bq.mono B2.out.size));obtain⟨X,hX⟩:∃X,w2.heap.size=X:=⟨_,rfl⟩
        have HX:=hid hX;have r0:((w2.alloc (.cells #[.int .i64 a,.int .i64 b,.int .i64 z,.int .u8 kk] 46)).alloc (.cells #[.int .i64 f,.int .i64 a,.int .i64 g0,.int .u8 qk] 46)).heap.size=X+1+1:=by simp[hX]
        have s0:∀i,((w2.alloc (.cells #[.int .i64 a,.int .i64 b,.int .i64 z,.int .u8 kk] 46)).alloc (.cells #[.int .i64 f,.int .i64 a,.int .i64 g0,.int .u8 qk] 46)).cell? ⟨X,i,none⟩=(#[.int .i64 a,.int .i64 b,.int .i64 z,.int .u8 kk]:Array Value)[i]? :=fun i=>by
         rw[←hX];have e:=Below.cell ((Below.refl (w2.heap.size+1) _).alloc (w:=(w2.alloc (.cells #[.int .i64 a,.int .i64 b,.int .i64 z,.int .u8 kk] 46))) (by simp) (.cells #[.int .i64 f,.int .i64 a,.int .i64 g0,.int .u8 qk] 46)) (p:=⟨w2.heap.size,i,none⟩) (by simp);rw[e];simp
        have s1:∀i,((w2.alloc (.cells #[.int .i64 a,.int .i64 b,.int .i64 z,.int .u8 kk] 46)).alloc (.cells #[.int .i64 f,.int .i64 a,.int .i64 g0,.int .u8 qk] 46)).cell? ⟨X+1,i,none⟩=(#[.int .i64 f,.int .i64 a,.int .i64 g0,.int .u8 qk]:Array Value)[i]? :=fun i=>by
         rw[←hX];have:=World.cell?_alloc_new (w2.alloc (.cells #[.int .i64 a,.int .i64 b,.int .i64 z,.int .u8 kk] 46));simp
        rw[hX];obtain⟨wq,hwq⟩:∃wq,((w2.alloc (.cells #[.int .i64 a,.int .i64 b,.int .i64 z,.int .u8 kk] 46)).alloc (.cells #[.int .i64 f,.int .i64 a,.int .i64 g0,.int .u8 qk] 46))=wq:=⟨_,rfl⟩
        rw[hwq] at OQ BQ r0 s0 s1 ⊢;have p00:wq.cell? ⟨X,0,none⟩=some (.int .i64 a):=s0 0;have p01:wq.cell? ⟨X,1,none⟩=some (.int .i64 b):=s0 1;have p02:wq.cell? ⟨X,2,none⟩=some (.int .i64 z):=s0 2;have p03:wq.cell? ⟨X,3,none⟩=some (.int .u8 kk):=s0 3;have p10:wq.cell? ⟨X+1,0,none⟩=some (.int .i64 f):=s1 0;have p11:wq.cell? ⟨X+1,1,none⟩=some (.int .i64 a):=s1 1;have p12:wq.cell? ⟨X+1,2,none⟩=some (.int .i64 g0):=s1 2;have p13:wq.cell? ⟨X+1,3,none⟩=some (.int .u8 qk):=s1 3;have hXq:X+1<wq.heap.size:=by omega
        have HZ2:=hid (show X+1+1=wq.heap.size from r0.symm);clear s0 s1 r0 hwq hX bq
        go_region_held3 (fun w'=>w'.cell? ⟨X+1,0,none⟩=some (.int .i64 f)∧w'.cell? ⟨X+1,1,none⟩=some (.int .i64 a)) (first|exact⟨l0,l1⟩|exact⟨p10,p11⟩) (first|(go_at_call 45;(with_reducible refine(HK2.out _ _ _ (by first|exact((HH.out.below BQ.out).below (Below.refl _ _).drew).subm hfa2 (by omega)|exact(HH.out.below BQ.out).subm hfa2 (by omega))).mono ?_);rintro e w3 ⟨rfl,b3'⟩;have D3:=hid ((by first|exact(Below.refl _ wq).trans b3'|exact(Below.refl _ wq).drew.trans b3'):Below wq.heap.size wq w3);have l0:=(D3.out.cell (p:=⟨X+1,0,none⟩) hXq).trans p10;have l1:=(D3.out.cell (p:=⟨X+1,1,none⟩) hXq).trans p11;clear b3'))
        have B3:=hid (BQ.out.trans (D3.out.mono BQ.out.size));have O3:=hid (OQ.out.below D3.out);have q00:w3.cell? ⟨X,0,none⟩=some (.int .i64 a):=(D3.out.cell (p:=⟨X,0,none⟩) (by show X<_;omega)).trans p00;have q01:w3.cell? ⟨X,1,none⟩=some (.int .i64 b):=(D3.out.cell (p:=⟨X,1,none⟩) (by show X<_;omega)).trans p01;have q02:w3.cell? ⟨X,2,none⟩=some (.int .i64 z):=(D3.out.cell (p:=⟨X,2,none⟩) (by show X<_;omega)).trans p02;have q03:w3.cell? ⟨X,3,none⟩=some (.int .u8 kk):=(D3.out.cell (p:=⟨X,3,none⟩) (by show X<_;omega)).trans p03;have q10:w3.cell? ⟨X+1,0,none⟩=some (.int .i64 f):=(D3.out.cell (p:=⟨X+1,0,none⟩) (by show X+1<_;omega)).trans p10;have q11:w3.cell? ⟨X+1,1,none⟩=some (.int .i64 a):=(D3.out.cell (p:=⟨X+1,1,none⟩) (by show X+1<_;omega)).trans p11;have q12:w3.cell? ⟨X+1,2,none⟩=some (.int .i64 g0):=(D3.out.cell (p:=⟨X+1,2,none⟩) (by show X+1<_;omega)).trans p12;have q13:w3.cell? ⟨X+1,3,none⟩=some (.int .u8 qk):=(D3.out.cell (p:=⟨X+1,3,none⟩) (by show X+1<_;omega)).trans p13;have hX3:X+1<w3.heap.size:=Nat.lt_of_lt_of_le hXq D3.out.size;clear p00 p01 p02 p03 p10 p11 p12 p13 l0 l1
        go_upto_region 13 with fail
        go_region_held3 (fun w'=>w'.cell? ⟨X+1,0,none⟩=some (.int .i64 f)) (first|exact l2|exact q10) (first|(go_at_call 45;(with_reducible refine(HK3.out _ _ _ (by first|exact((HH.out.below B3.out).below (Below.refl _ _).drew).subm hfb hbn|exact(HH.out.below B3.out).subm hfb hbn)).mono ?_);rintro e w4 ⟨rfl,b4'⟩;have D4:=hid ((by first|exact(Below.refl _ w3).trans b4'|exact(Below.refl _ w3).drew.trans b4'):Below w3.heap.size w3 w4);have l2:=(D4.out.cell (p:=⟨X+1,0,none⟩) hX3).trans q10;clear b4'))
        have B4:=hid (B3.out.trans (D4.out.mono B3.out.size));have O4:=hid (O3.out.below D4.out);have r00:w4.cell? ⟨X,0,none⟩=some (.int .i64 a):=(D4.out.cell (p:=⟨X,0,none⟩) (by show X<_;omega)).trans q00;have r01:w4.cell? ⟨X,1,none⟩=some (.int .i64 b):=(D4.out.cell (p:=⟨X,1,none⟩) (by show X<_;omega)).trans q01;have r02:w4.cell? ⟨X,2,none⟩=some (.int .i64 z):=(D4.out.cell (p:=⟨X,2,none⟩) (by show X<_;omega)).trans q02;have r03:w4.cell? ⟨X,3,none⟩=some (.int .u8 kk):=(D4.out.cell (p:=⟨X,3,none⟩) (by show X<_;omega)).trans q03;have r10:w4.cell? ⟨X+1,0,none⟩=some (.int .i64 f):=(D4.out.cell (p:=⟨X+1,0,none⟩) (by show X+1<_;omega)).trans q10;have r11:w4.cell? ⟨X+1,1,none⟩=some (.int .i64 a):=(D4.out.cell (p:=⟨X+1,1,none⟩) (by show X+1<_;omega)).trans q11;have r12:w4.cell? ⟨X+1,2,none⟩=some (.int .i64 g0):=(D4.out.cell (p:=⟨X+1,2,none⟩) (by show X+1<_;omega)).trans q12;have r13:w4.cell? ⟨X+1,3,none⟩=some (.int .u8 qk):=(D4.out.cell (p:=⟨X+1,3,none⟩) (by show X+1<_;omega)).trans q13;clear q00 q01 q02 q03 q10 q11 q12 q13 l2;have HE:=hid (And.intro hab hbn);by_cases hle:bb≤qb+kb
        · have d3:decide ((bb:Int)≤(qb:Int)+(kb:Int))=true:=decide_eq_true (by omega)
          have hla:=O4.out.last (by rw[HM.out]) B4.out.size ⟨f,b,gz,bk⟩;rw[HM.out] at hla;simp only at hla;obtain⟨hla1,hla2⟩:=hla;have HLa:=hid hla1;have HLb:=hid (B4.out.trans hla2);have fz:=fun j=>O4.out.frozen (by rw[List.length_append,HM.out];rfl) j
          have w0:=O4.out.cell (i:=M) (q:=⟨f,a,g0,qk⟩) (by rw[List.length_append,HM.out];rfl) (by rw[List.getElem?_append_right (by rw[HM.out];exact Nat.le_refl _),HM.out,Nat.sub_self];rfl);obtain⟨y0,y1,y2,y3⟩:=w0;have HLe:=hid hle;clear hla1 hla2 hle hab hbn hca hxy hys hab2 hac hbc hw1 hcf hfa2 hux hxs huy2 huy hfb hfa hXq hX3;go_wp2_with fail;go_roundw
          case rel=>exact⟨j+1+1,by omega,by rw[HAB.out.2],by rw[HAB.out.2,HXY.out.2],by rw[HJ.out HLe.out];exact HLa.out,fun e=>absurd e hn1,HLb.out⟩
          case measure=>(have:=HE.out;simp[intOf];try omega)
        · have d3:decide ((bb:Int)≤(qb:Int)+(kb:Int))=false:=decide_eq_false (by omega)
          have HLe:=hid hle;clear hle hab hbn hca hxy hys hab2 hac hbc hw1 hcf hfa2 hux hxs huy2 huy hfb hfa hXq hX3;go_wp2_with (at_builtin;refine wpList_pa rfl (.tmp 122) (.tmp 124) rfl w.heap.size _ (PI++[⟨f,a,g0,qk⟩]) (by show _=Value.slice (some ⟨gg,0,none⟩) (M+1) c1;rfl) (O4.out.alloc _) w4.heap.size 1 ⟨a,b,z,kk⟩ rfl ⟨by simp,by simp,by simp,by simp⟩ (by rw[List.length_append,HM.out];show M+1≤_;omega) (by have:=B4.out.size;simp;omega) ?_;intro v5 w5 o5 b5;have O5:=hid o5;have B5:=hid ((B4.out.alloc B4.out.size _).trans b5);clear o5 b5);go_roundw
          case rel=>exact⟨j+1+1,by omega,by rw[HAB.out.2],by rw[HAB.out.2,HXY.out.2],by rw[HA.out HLe.out];exact O5.out,fun e=>absurd e hn1,B5.out⟩
          case measure=>(have:=HE.out;simp[intOf];try omega)
    · obtain rfl:k=cnk n+1:=by omega
      have hpt:pts L s=prk L s (cnk n+1):=by unfold pts;rw[hl];show _=prt (kp L s) (cut L.length) (cnk n);rw[hl]
      have hO4:=hO;rw[hN,←hpt] at hO4;have HO4:=hid hO4;rw[cut_end];have hzn:szt L n≤70000:=by rw[szt_all (by omega),hz];exact hs
      obtain⟨y,hy⟩:∃y,szt L n=y:=⟨_,rfl⟩
      rw[hy] at hzn ⊢;have d1:decide ((n:Int)<(n:Int))=false:=decide_eq_false (by omega);have d1':decide (n<n)=false:=decide_eq_false (by omega);have d0:((n:Int)==0)=false:=by rw[beq_eq_false_iff_ne];omega
      have d0':decide (n=0)=false:=decide_eq_false hn1;have d0'':decide ((n:Int)=0)=false:=decide_eq_false (by omega);clear hO hO4 hN hb hpt hn0 hkc hk hy;go_wp2_with fail;go_ret;exact⟨_,rfl,HO4.out,HB.out⟩
end Go.Proofs.YtdpabanajgegjaaGreatDoor.V
namespace Go.Proofs.YtdpabanajgegjaaGreatDoor.V
open Go Go.RowKit M U
def pk(a b c d:Nat):Lit:=.string (keyBytes [.int .i64 a,.int .i64 b,.int .i64 c,.int .i64 d])
section
variable {w w':World} {m N:Nat} {K:Nat→Nat→Nat→Nat→Nat×Nat}
end
end Go.Proofs.YtdpabanajgegjaaGreatDoor.V
