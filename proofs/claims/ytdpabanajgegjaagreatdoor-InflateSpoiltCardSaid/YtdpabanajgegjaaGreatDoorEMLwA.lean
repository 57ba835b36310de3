/- Texts of one place, one behind the other: LwA, OwI, RfS. -/
import Derived.Test.YtdpabanajgegjaaGreatDoorEMPkE
import Derived.Test.YtdpabanajgegjaaGreatDoorEIsr
import Derived.BigQuiet
import Derived.Deep.QuietTactic
set_option linter.unusedVariables false
namespace Go.Proofs.YtdpabanajgegjaaGreatDoor
open Go.RowKit M
def Irow(w:World)(b n:Nat)(z:Nat→Int):Prop:=w.rowIs b 3 n (fun i=> .int .i64 (z i))
section
variable {w w':World} {b n:Nat} {z y:Nat→Int}
theorem Irow.lt(h:Irow w b n z):b<w.heap.size:=World.rowIs.lt h
theorem Irow.nums(h:Irow w b n z):Nums w .i64 (some ⟨b,0,none⟩) n z:=fun hn=>
 ⟨b,0,rfl,World.rowIs.lt h,fun i hi=>by rw[Nat.zero_add];exact World.rowIs.cell h hi⟩
theorem Irow.cell(h:Irow w b n z){i:Nat}(hi:i<n):w.cell? ⟨b,i,none⟩=some (.int .i64 (z i)):=World.rowIs.cell h hi
theorem Irow.frozen(h:Irow w b n z)(i:Nat):w.frozen? ⟨b,i,none⟩=false:=World.rowIs.frozen h i
theorem Irow.congr(h:Irow w b n z)(e:∀i,i<n→z i=y i):Irow w b n y:=World.rowIs.congr h (fun i hi=>by rw[e i hi])
theorem Irow.made(w:World)(n:Nat):Irow (w.alloc (.cells (madeCells #[.int .i64 0] n) 3)) w.heap.size n (fun _=>0):=World.rowIs_made w (.int .i64 0) n 3
theorem Irow.set(h:Irow w b n z)(i:Nat)(v:Int):Irow (w.setCell ⟨b,i,none⟩ (.int .i64 v)) b n (fun j=>if j=i then v else z j):=
 World.rowIs.congr (World.rowIs.set h i (.int .i64 v)) (fun j hj=>by by_cases e:j=i<;>simp[e])
theorem Irow.other(h:Irow w b n z){a:Addr}(ha:b≠a.block)(v:Value):Irow (w.setCell a v) b n z:=World.rowIs.setOther h ha v
theorem Irow.alloc(h:Irow w b n z)(o:Obj):Irow (w.alloc o) b n z:=World.rowIs.alloc h o
theorem Irow.at'(h:Irow w b n z)(e:w'.heap[b]? =w.heap[b]?):Irow w' b n z:=World.rowIs.of_block h e
theorem Irow.below(h:Irow w b n z){B:Nat}(hb:Below B w w')(hB:b<B):Irow w' b n z:=h.at' (hb.block b hB)
end
theorem madeInt(w:World)(n:Nat)(hn:n≤400):
 (Instr.makeSlice 89 (.int .i64 (n:Int)) (.int .i64 (n:Int))).run Tryz.prog w=.ok (.slice (some ⟨w.heap.size,0,none⟩) n n) (w.alloc (.cells (madeCells #[.int .i64 0] (n*1)) 3)):=
 run_made w Tryz.underlying89 intInfo (by decide) n n (Nat.le_refl _) (by omega)
def il(n:Nat)(F:Nat→Int):List Value:=(List.range n).map fun i=>Value.int .i64 (F i)
theorem il_length(n:Nat)(F:Nat→Int):(il n F).length=n:=by unfold il;simp
theorem il_at(n:Nat)(F:Nat→Int)(i:Nat)(h:i<n):(il n F)[i]? =some (.int .i64 (F i)):=by unfold il;simp[h]
theorem il_one(n:Nat)(F:Nat→Int):∀u∈il n F,u.oneCell'=true:=by
 intro u hu;obtain⟨i,_,rfl⟩:=List.mem_map.1 hu;rfl
def catI(n:Nat)(F G:Nat→Int)(i:Nat):Int:=if i<n then F i else G (i - n)
theorem il_cat(n m:Nat)(F G:Nat→Int):il n F++il m G=il (n+m) (catI n F G):=by
 apply List.ext_getElem?
 intro i;by_cases h1:i<n
 · rw[List.getElem?_append_left (by rw[il_length];exact h1),il_at n F i h1,il_at _ _ i (by omega)]
   unfold catI;rw[if_pos h1]
 · rw[List.getElem?_append_right (by rw[il_length];omega),il_length]
   by_cases h2:i<n+m
   · rw[il_at m G _ (by omega),il_at _ _ i h2]
     unfold catI;rw[if_neg h1]
   · rw[List.getElem?_eq_none (by rw[il_length];omega),List.getElem?_eq_none (by rw[il_length];omega)]
theorem il_congr{n:Nat}{F G:Nat→Int}(h:∀i,i<n→F i=G i):il n F=il n G:=by
 unfold il;apply List.map_congr_left
 intro i hi;rw[h i (List.mem_range.1 hi)]
def Is(base:Nat)(w:World)(v:Value)(n:Nat)(F:Nat→Int):Prop:=w.ownsRow base 3 1 v n (il n F)
section
variable {base:Nat} {w w':World} {v:Value} {n m:Nat} {F G:Nat→Int}
theorem Is.congr(h:Is base w v n F)(e:∀i,i<n→F i=G i):Is base w v n G:=by
 unfold Is at h ⊢;rw[←il_congr e];exact h
theorem Is.alloc(h:Is base w v n F)(o:Obj):Is base (w.alloc o) v n F:=World.ownsRow.alloc h o
theorem Is.drewN(h:Is base w v n F)(k:Nat):Is base (w.drewN k) v n F:=h
theorem Is.nil(base:Nat)(w:World)(F:Nat→Int):Is base w (.slice none 0 0) 0 F:=World.ownsRow_nil w base _ 1
theorem Is.cap{g cap:Nat}(h:Is base w (.slice (some ⟨g,0,none⟩) n cap) n F):n≤cap∧cap≤maxLen:=by
 rcases h.2 with⟨h',_⟩|⟨g',cap',cur,h',_,_,hnc,hcm,_⟩
 · simp at h'
 · simp only[Value.slice.injEq,Option.some.injEq,Addr.mk.injEq,and_true,true_and] at h'
   obtain⟨rfl,rfl⟩:=h';exact⟨hnc,hcm⟩
theorem Is.cell{g cap:Nat}(h:Is base w (.slice (some ⟨g,0,none⟩) n cap) n F){i:Nat}(hi:i<n):w.cell? ⟨g,i,none⟩=some (.int .i64 (F i)):=by
 rw[World.ownsRow.cellAt h i (by omega),il_at n F i hi]
theorem Is.frozen{g cap:Nat}(h:Is base w (.slice (some ⟨g,0,none⟩) n cap) n F)(i:Nat):w.frozen? ⟨g,i,none⟩=false:=World.ownsRow.frozenAt h i
theorem Is.lt{g cap:Nat}(h:Is base w (.slice (some ⟨g,0,none⟩) n cap) n F):base≤g∧g<w.heap.size:=World.ownsRow.lt h g rfl
theorem Is.nums{g cap:Nat}(h:Is base w (.slice (some ⟨g,0,none⟩) n cap) n F):Nums w .i64 (some ⟨g,0,none⟩) n F:=fun hn=>
 ⟨g,0,rfl,h.lt.2,fun i hi=>by rw[Nat.zero_add];exact h.cell hi⟩
theorem Is.set{g cap:Nat}(h:Is base w (.slice (some ⟨g,0,none⟩) n cap) n F)(j:Nat)(x:Int):Is base (w.setCell ⟨g,j,none⟩ (.int .i64 x)) (.slice (some ⟨g,0,none⟩) n cap) n (fun i=>if i=j then x else F i):=by
 have h2:=(World.ownsRow.stored h j (.int .i64 x)).1
 have e:(il n F).set j (.int .i64 x)=il n (fun i=>if i=j then x else F i):=by
  apply List.ext_getElem?
  intro i;rw[List.getElem?_set,il_length];by_cases hi:i<n
  · by_cases e:j=i
    · subst e
      rw[if_pos rfl,if_pos hi,il_at _ _ _ hi,if_pos rfl]
    · rw[if_neg e,il_at _ _ _ hi,il_at _ _ _ hi,if_neg (fun q=>e q.symm)]
  · have h1:(il n F)[i]? =none:=List.getElem?_eq_none (by rw[il_length];omega)
    have h2:(il n fun k=>if k=j then x else F k)[i]? =none:=List.getElem?_eq_none (by rw[il_length];omega);rw[h1,h2];by_cases e:j=i
    · rw[if_pos e,if_neg (by omega)]
    · rw[if_neg e]
 unfold Is;rw[←e];exact h2
end
theorem run_api(w:World)(ty:TypeId)(base:Nat)(v:Value)(n:Nat)(F:Nat→Int)(hown:Is base w v n F)(ad:Addr)(m c:Nat)(G:Nat→Int)(hG:∀j,j<m→w.cell? (ad.add j)=some (.int .i64 (G j)))(hm:n+m≤1000)(hb:base≤w.heap.size):
 ∃v' w',(Builtin.append_ #[89,89] ty #[v,.slice (some ad) m c]).run Tryz.prog w=.ok v' w'∧Is base w' v' (n+m) (catI n F G)∧w.grownBy w' v.ownBlock∧Below base w w'∧(v'.ownBlock=v.ownBlock∨v'.ownBlock=some w.heap.size):=by
 obtain⟨i,h1,h2,h3,h4⟩:=info_of intInfo
 obtain⟨v',w',r1,r2,r3,_,r5⟩:=run_append_own_at (P:= Tryz.prog) w base 89 ty 3 i _ 1 8 Tryz.underlying89 h1 h2 h3 h4 rfl (by decide) v n (il n F) hown ad m c (il m G) (by rw[il_length];omega)
  (fun j u hu=>by
   have hj:j<m:=by have:=(List.getElem?_eq_some_iff.1 hu).1;rwa [il_length] at this
   rw[il_at m G j hj] at hu;rw[hG j hj];exact hu) (il_one m G) (by unfold maxLen;omega) (by omega) hb
 refine⟨v',w',r1,?_,r3,(Below.refl base w).grown r3 hb (fun k hk=>(World.ownsRow.lt hown k hk).1),r5⟩;unfold Is;rw[←il_cat];exact r2
theorem wp_api{o:Oper}{a:Act}{w:World}{K:Act→World→Prop}{Q:Exit→Act→World→Prop}{d:Option Tmp}(hd:o.dst=d)(s x:Operand)(ho:o.op=.call {callee:=.builtin .append,args:= #[s,x],argTypes:= #[89,89]})
 (base:Nat) (v:Value) (n:Nat) (F:Nat→Int) (hs:a.eval s=v) (hown:Is base w v n F) (ad:Addr) (m c:Nat) (G:Nat→Int) (hx:a.eval x=.slice (some ad) m c) (hG:∀j,j<m→w.cell? (ad.add j)=some (.int .i64 (G j))) (hm:n+m≤1000) (hb:base≤w.heap.size)
 (h:∀v' w',Is base w' v' (n+m) (catI n F G)→w.grownBy w' v.ownBlock→Below base w w'→(v'.ownBlock=v.ownBlock∨v'.ownBlock=some w.heap.size)→K (a.put d v') w'):o.wp Tryz.prog a w K Q:=by
 obtain⟨v',w',r1,r2,r3,r4,r5⟩:=run_api w o.type base v n F hown ad m c G hG hm hb;unfold Oper.wp execOp;simp only[ho,resolve,invoke,builtin,Sem.run_bind,Sem.run_pure,Result.andThen_ok,List.map_toArray,List.map_cons,List.map_nil,hs,hx,r1];subst hd;exact h v' w' r2 r3 r4 r5
theorem wpList_api{ops:Array Oper}{rest:List Oper}{o:Oper}{a:Act}{w:World}{Q:Exit→Act→World→Prop}(hgd:o.guard=none)(s x:Operand)(ho:o.op=.call {callee:=.builtin .append,args:= #[s,x],argTypes:= #[89,89]})
 (base:Nat) (v:Value) (n:Nat) (F:Nat→Int) (hs:a.eval s=v) (hown:Is base w v n F) (ad:Addr) (m c:Nat) (G:Nat→Int) (hx:a.eval x=.slice (some ad) m c) (hG:∀j,j<m→w.cell? (ad.add j)=some (.int .i64 (G j))) (hm:n+m≤1000) (hb:base≤w.heap.size)
 (h:∀v' w',Is base w' v' (n+m) (catI n F G)→w.grownBy w' v.ownBlock→Below base w w'→(v'.ownBlock=v.ownBlock∨v'.ownBlock=some w.heap.size)→wpList Tryz.prog ops Q rest (a.put o.dst v') w'):wpList Tryz.prog ops Q (o::rest) a w:=
 wpList_plain hgd fun _ hK=>wp_api rfl s x ho base v n F hs hown ad m c G hx hG hm hb fun v' w' h1 h2 h3 h4=>hK _ _ (h v' w' h1 h2 h3 h4)
theorem one_int(w:World)(x:Int):∀j,j<1→(w.alloc (.cells #[.int .i64 x] 3)).cell? ((⟨w.heap.size,0,none⟩:Addr).add j)=some (.int .i64 x):=by
 intro j hj;obtain rfl:j=0:=by omega
 simp[Addr.add]
end Go.Proofs.YtdpabanajgegjaaGreatDoor
namespace Go.Proofs.YtdpabanajgegjaaGreatDoor
open Go.Lib (hid)
open Go.RowKit M
theorem Is.parts{base:Nat}{w:World}{v:Value}{n:Nat}{F:Nat→Int}(h:Is base w v n F):(v=.slice none 0 0∧n=0)∨∃g cap,v=.slice (some ⟨g,0,none⟩) n cap:=by
 rcases h.2 with⟨h1,h2⟩|⟨g,cap,cur,rfl,_⟩
 · exact .inl ⟨h1,h2⟩
 · exact .inr ⟨g,cap,rfl⟩
theorem swp_two(e1:Nat→Nat×Nat){j z i:Nat}(hz:j - 1=z)(hj:0<j)(q2:j≤i)(t:Nat):(if t=z then(((mvd e1 j i) j).2:Int) else if t=j then(((mvd e1 j i) z).2:Int) else(((mvd e1 j i) t).2:Int))=((mvd e1 z i t).2:Int):=by
 have h:=mvd_step e1 hj q2 t;rw[hz] at h;rw[←h];unfold swp;by_cases a:t=z
 · rw[if_pos a]
   by_cases b:t=j
   · omega
   · simp only[if_neg b,if_pos a]
 · rw[if_neg a]
   by_cases b:t=j
   · simp only[if_pos b]
   · simp only[if_neg b,if_neg a]
set_option maxHeartbeats 1000000 in
set_option maxRecDepth 1000000 in
theorem rsym_any(A:Option Addr)(n c':Nat)(c:Nat→Nat)(W:World)(hn:n≤320)(hc:∀i,c i≤1073741824)(H:Nums W .i64 A n (fun i=>(c i:Int))):
 Calls Tryz.prog 102 #[.slice A n c'] W fun x w'=> ∃v m e,x=.returned v∧IsLv c n m e∧Is W.heap.size w' v m (fun i=>((e i).2:Int))∧Below W.heap.size W w':=by
 have HC:=hid hc;have HA:=hid H;clear hc H;go_enter Tryz.func102,Tryz.ntmps102;go_wp2_with fail
 go_loopw [3,4] (fun v i wr=> ∃ (k m:Nat) (e:Nat→Nat×Nat),i=.int .i64 k∧k≤n∧Hid (Is W.heap.size wr v m (fun i=>((e i).2:Int))∧Raw c k m e∧Below W.heap.size W wr)) (fun v i _=>n - (intOf i).toNat)
 case atStart=>exact⟨0,0,fun _=>(0,0),rfl,Nat.zero_le _,hid ⟨Is.nil _ _ _,Raw.none _ _,Below.refl _ _⟩⟩
 case round=>
  obtain⟨k,m,e,rfl,hk,HB⟩:=hrel;by_cases hlt:k<n
  · obtain⟨b,o,rfl,hb,hc1⟩:=HA.out (by omega)
    have hcell:wr.cell? ⟨b,o+k,none⟩=some (.int .i64 (c k)):=(HB.out.2.2.cell hb).trans (hc1 k hlt);have h30:=HC.out k;clear hc1;obtain⟨x,hx⟩:∃x,c k=x:=⟨_,rfl⟩
    rw[hx] at hcell h30;have HX:=hid hx;clear hx;by_cases h0:0<x
    · have hsz:=HB.out.2.2.size
      have HO:=hid (HB.out.1.alloc (.cells #[.int .i64 k] 3));have HT:=hid (one_int wr k);have HS:=hid (show W.heap.size≤(wr.alloc (.cells #[.int .i64 k] 3)).heap.size by simp;omega);have HM:=hid (show m+1≤1000 by have:=HB.out.2.1.le;omega);clear hsz;go_wp2_with (at_builtin;refine wpList_api rfl _ _ rfl W.heap.size _ m (fun i=>((e i).2:Int)) rfl HO.out _ 1 1 (fun _=>(k:Int)) rfl HT.out HM.out HS.out ?_;intro v2 w2 o2 g2 b2 q2;have O2:=hid o2;have B2:=hid b2;clear o2 g2 b2 q2);go_roundw
      case rel=>
       refine⟨k+1,m+1,fun i=>if i=m then(c k,k) else e i,by go_num,by omega,hid ⟨O2.out.congr (fun i hi=> ?_),HB.out.2.1.more (k:=k) (by rw[HX.out];exact h0),(HB.out.2.2.alloc HB.out.2.2.size _).trans B2.out⟩⟩;unfold catI;by_cases q:i=m
       · rw[if_neg (by omega)];simp only[if_pos q]
       · rw[if_pos (by omega)];simp only[if_neg q]
      case measure=>simp[intOf];omega
    · obtain rfl:x=0:=by omega
      go_wp2_with fail;go_roundw
      case rel=>exact⟨k+1,m,e,by go_num,by omega,hid ⟨HB.out.1,HB.out.2.1.skip HX.out,HB.out.2.2⟩⟩
      case measure=>simp[intOf];omega
  · obtain rfl:k=n:=by omega
    rcases HB.out.1.parts with⟨rfl,rfl⟩|⟨g,cap,rfl⟩
    · have HL:=hid (HB.out.2.1.lv (e':=e) (fun i j h1 h2 h3=>by omega) ⟨fun i h1 h2=>by omega,fun i h1 h2=>by omega⟩)
      go_wp2_with fail
      go_loopw [5] (fun v ws=>v=.int .i64 0∧ws=wr) (fun _ _=>0)
      case atStart=>exact⟨rfl,rfl⟩
      case round=>
       obtain⟨rfl,rfl⟩:=hrel;go_wp2_with fail;go_ret;exact⟨_,0,e,rfl,HL.out,HB.out.1,HB.out.2.2⟩
    · have hm:m≤320:=by have:=HB.out.2.1.le;omega
      have mcap:=HB.out.1.cap.1;have hi1:=HB.out.1;have hb1:=HB.out.2.2;have RW:=hid HB.out.2.1;have hgw:=hi1.lt.1;clear HB;go_wp2_with fail
      go_loopw [5] (fun v wr=> ∃ (i:Nat) (e1:Nat→Nat×Nat),v=.int .i64 i∧i≤m∧Is W.heap.size wr (.slice (some ⟨g,0,none⟩) m cap) m (fun t=>((e1 t).2:Int))∧Hid (Ord e1 0 i∧Same e e1 0 i∧Below W.heap.size W wr)) (fun v _=>321 - (intOf v).toNat)
      case atStart=>exact⟨0,e,rfl,Nat.zero_le _,hi1,hid ⟨fun i j h1 h2 h3=>by omega,Same.refl _ _ _,hb1⟩⟩
      case round=>
       clear hi1 hb1;obtain⟨i,e1,rfl,p2,hi,HI⟩:=hrel;by_cases c1:i<m
       · have HL:=hid hi
         clear hi p2
         have HR:Hid (∀t,0≤t→t<i→(e1 t).1=(e1 i).1→(e1 t).2<(e1 i).2):=hid (fun t g1 g2 _=>by
          obtain⟨ho,hs,hk⟩:=HI.out;obtain⟨j,j1,j2,q⟩:=hs.fro t g1 g2;rw[q,hs.out i (.inr (Nat.le_refl _))];exact RW.out.inc j i j2 c1)
         have HE:Hid (∀t,t<m→(e1 t).2<k∧(e1 t).1=c (e1 t).2):=hid (fun t ht=>by
          obtain⟨ho,hs,hk⟩:=HI.out;obtain⟨j,j1,j2,q⟩:=(hs.wide (Nat.le_refl _) (Nat.le_of_lt c1)).fro t (Nat.zero_le _) ht;rw[q];have:=RW.out.is_ j j2;exact⟨this.1,this.2.2⟩)
         go_wp2_with fail
         go_loopw [6] (fun v ws=> ∃ (j:Nat),v=.int .i64 j∧j≤i∧Is W.heap.size ws (.slice (some ⟨g,0,none⟩) m cap) m (fun t=>((mvd e1 j i t).2:Int))∧Hid ((∀t,j≤t→t<i→(e1 i).1<(e1 t).1)∧Below W.heap.size W ws)) (fun v _=>(intOf v).toNat)
         case atStart=>exact⟨i,rfl,Nat.le_refl _,HL.out.congr (fun t _=>by rw[mvd_self]),hid ⟨fun t g1 g2=>by omega,HI.out.2.2⟩⟩
         case round=>
          obtain⟨j,rfl,q2,hl,HJ⟩:=hrel;by_cases c2:0<j
          · obtain⟨z,hz⟩:∃z,j - 1=z:=⟨_,rfl⟩
            have hzm:z<m:=by omega
            have hjm:j<m:=by omega
            have hzj:z<j:=by omega
            obtain⟨b,o,rfl,hb,hc1⟩:=HA.out (by have:=RW.out.le;omega);have x1:=hl.cell hjm;have y1:=hl.cell hzm;have fx:=hl.frozen j;have fy:=hl.frozen z;have hv1:mvd e1 j i j=e1 i:=by unfold mvd;rw[if_pos rfl]
            have hv2:mvd e1 j i z=e1 z:=by unfold mvd;rw[if_neg (by omega),if_neg (by omega)]
            have hc2:∀s,s<k→W.cell? ⟨b,o+s,none⟩=some (.int .i64 (c s)):=hc1;have ei:=HE.out i c1;have ez:=HE.out z hzm;have cx:=(HJ.out.2.cell hb).trans (hc2 _ ei.1);have cz:=(HJ.out.2.cell hb).trans (hc2 _ ez.1);simp only[hv1] at x1;simp only[hv2] at y1;rw[←ei.2] at cx;rw[←ez.2] at cz
            have HS3:=hid (((hl.set j ((e1 z).2:Int)).set z ((e1 i).2:Int)).congr (G:=fun t=>((mvd e1 z i t).2:Int)) (fun t _=>by
             have:=swp_two e1 hz c2 q2 t;rw[hv1,hv2] at this;exact this))
            have HB3:=hid ((HJ.out.2.setCell (p:=⟨g,j,none⟩) hgw (.int .i64 ((e1 z).2:Int))).setCell (p:=⟨g,z,none⟩) hgw (.int .i64 ((e1 i).2:Int)));obtain⟨u1,hu1⟩:∃u,(e1 i).1=u:=⟨_,rfl⟩
            obtain⟨u2,hu2⟩:∃u,(e1 i).2=u:=⟨_,rfl⟩
            obtain⟨v1,hw1⟩:∃u,(e1 z).1=u:=⟨_,rfl⟩
            obtain⟨v2,hw2⟩:∃u,(e1 z).2=u:=⟨_,rfl⟩
            rw[hu2] at x1 cx HS3 HB3 ei;rw[hw2] at y1 cz HS3 HB3 ez;rw[hu1] at cx;rw[hw1] at cz;have HU:=hid (And.intro hu1 hw1);have HZ:=hid hz;have HL2:=hid hl;have e1n:=ei.1;have e2n:=ez.1;have ez1:IntKind.i64.wrap ((j:Int) - 1)=(z:Int):=by rw[IntWalk.i64_in _ (by omega)];omega
            have ez2:(j:Int) - 1=(z:Int):=by omega
            have hjz:j≠z:=by omega
            clear hl hv1 hv2 hu1 hu2 hw1 hw2 hz ei ez hc1 hc2;have g2:decide (0<j)=true:=decide_eq_true c2;by_cases c3:u1<v1
            · have d3:decide ((u1:Int)<(v1:Int))=true:=decide_eq_true (by omega)
              have d4:decide (u1<v1)=true:=decide_eq_true c3;go_wp2_with fail
              go_quiet (fail)
              go_wp2_with fail;go_roundw
              case rel=>exact⟨z,by go_num,by omega,HS3.out.drewN _,hid ⟨fun t g1 g2=>by
               by_cases q:t=z
               · rw[q,HU.out.1,HU.out.2];exact c3
               · exact HJ.out.1 t (by have:=HZ.out;omega) g2,below_drewN HB3.out _⟩⟩
              case measure=>simp[intOf];omega
            · have d3:decide ((u1:Int)<(v1:Int))=false:=decide_eq_false (by omega)
              have d4:decide (u1<v1)=false:=decide_eq_false c3;have ST:=hid (ins_stop (a:=0) (d:=i+1) (by omega) (by omega) HI.out.1 (by rw[Nat.min_eq_left (by omega)];exact HI.out.2.1) HR.out (Nat.zero_le _) q2 HJ.out.1 (.inr (by rw[HZ.out,HU.out.1,HU.out.2];exact c3)));go_wp2_with fail
              go_quiet (fail)
              go_wp2_with fail;go_roundw
              case rel=>exact⟨i+1,_,by go_num,by omega,HL2.out.drewN _,hid ⟨ST.out.1,by have:=ST.out.2;rwa [Nat.min_self] at this,below_drewN HJ.out.2 _⟩⟩
              case measure=>simp[intOf];omega
          · obtain rfl:j=0:=by omega
            have HL2:=hid hl;have ST:Hid (Ord (mvd e1 0 i) 0 (i+1)∧Same e (mvd e1 0 i) 0 (i+1)):=hid ⟨mvd_ord HI.out.1 HR.out (Nat.zero_le _) (Nat.zero_le _) HJ.out.1 (.inl rfl),(HI.out.2.1.wide (Nat.le_refl _) (by omega)).trans (mvd_same e1 (Nat.zero_le _) (Nat.zero_le _) (by omega))⟩;clear hl;go_wp2_with fail
            go_quiet (fail)
            go_wp2_with fail;go_roundw
            case rel=>exact⟨i+1,_,by go_num,by omega,HL2.out.drewN _,hid ⟨ST.out.1,ST.out.2,below_drewN HJ.out.2 _⟩⟩
            case measure=>simp[intOf];omega
       · obtain rfl:i=m:=by omega
         have HF:=hid (RW.out.lv (e':=e1) HI.out.1 HI.out.2.1.mem);have HL:=hid hi;clear hi;go_wp2_with fail;go_ret;exact⟨_,i,e1,rfl,HF.out,HL.out,HI.out.2.2⟩
end Go.Proofs.YtdpabanajgegjaaGreatDoor
