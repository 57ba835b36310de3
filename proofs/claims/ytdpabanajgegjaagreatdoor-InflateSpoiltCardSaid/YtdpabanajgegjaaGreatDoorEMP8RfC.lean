/- Texts of one place, one behind the other: P8RfC, P8RfD, P8RfE, P8RfF, P8RfG, P8RfH. -/
import Derived.Test.YtdpabanajgegjaaGreatDoorEMP8MathC
import Derived.Maps.AppendAt
set_option maxRecDepth 1000000
set_option linter.unusedVariables false
set_option linter.unusedSimpArgs false
namespace Go.Proofs.YtdpabanajgegjaaGreatDoor.V.Px
open Go.Lib (hid)
namespace Q
open Go Go.RowKit M
def isC(s:ByteArray)(k p:Nat):Bool:=at3 s p (byt s k) (byt s (k+1)) (byt s (k+2))
def scan(s:ByteArray)(k j:Nat):List Nat:=((List.range j).map fun i=>k - 1 - i).filter (isC s k)
theorem scan_succ(s:ByteArray)(k j:Nat):scan s k (j+1)=scan s k j++(if isC s k (k - 1 - j)=true then[k - 1 - j] else[]):=by
 unfold scan;rw[List.range_succ,List.map_append,List.filter_append];congr 1;simp only[List.map_cons,List.map_nil,List.filter_cons,List.filter_nil]
theorem scan_pre(s:ByteArray)(k:Nat){j j':Nat}(h:j≤j'):∃t,scan s k j'=scan s k j++t:=by
 obtain⟨d,rfl⟩:=Nat.exists_eq_add_of_le h;clear h
 induction d with
 |zero=>exact⟨[],by simp⟩
 |succ d ih=>
  obtain⟨t,ht⟩:=ih;exact⟨t++(if isC s k (k - 1 - (j+d))=true then[k - 1 - (j+d)] else[]),by rw[←Nat.add_assoc,scan_succ,ht,List.append_assoc]⟩
theorem range_rev(k:Nat):(List.range k).reverse=(List.range k).map fun i=>k - 1 - i:=by
 apply List.ext_getElem?
 intro i;by_cases c:i<k
 · rw[List.getElem?_reverse (by rw[List.length_range];exact c),List.length_range,List.getElem?_range (by omega),List.getElem?_map,List.getElem?_range c];rfl
 · rw[List.getElem?_eq_none (by simp;omega),List.getElem?_eq_none (by simp;omega)]
theorem scan_cnd{s:ByteArray}{k:Nat}(hk:k+3≤s.size):(cnd s (List.range k) k).reverse=scan s k (min k 32768):=by
 unfold cnd scan grp;rw[if_pos hk,←List.filter_reverse,←List.filter_reverse,range_rev,List.filter_filter]
 have e:(fun p:Nat=>(decide (p<k)&&decide (k≤p+32768))&&at3 s p (byt s k) (byt s (k+1)) (byt s (k+2)))=(fun p=>isC s k p&& (decide (p<k)&&decide (k≤p+32768))):=by
  funext p;rw[Bool.and_comm];rfl
 rw[e,←List.filter_filter];congr 1;rw[List.filter_map]
 have e2:(List.range k).filter ((fun p:Nat=>decide (p<k)&&decide (k≤p+32768)) ∘ fun i=>k - 1 - i)=List.range (min k 32768):=by
  have e3:(List.range k).filter ((fun p:Nat=>decide (p<k)&&decide (k≤p+32768)) ∘ fun i=>k - 1 - i)=(List.range k).filter (fun i=>decide (i<32768)):=by
   apply List.filter_congr
   intro i hi;have:=List.mem_range.1 hi;show(decide (k - 1 - i<k)&&decide (k≤k - 1 - i+32768))=decide (i<32768)
   rw[decide_eq_true (show k - 1 - i<k by omega),Bool.true_and,decide_eq_decide];omega
  rw[e3,filt_take (i:=32768) (fun j y hj hlt=> ?_) (fun j y hj hle=> ?_),List.take_range]
  · rw[Nat.min_comm]
  · rw[List.getElem?_eq_some_iff] at hj
    obtain⟨_,rfl⟩:=hj
    simpa using hlt
  · rw[List.getElem?_eq_some_iff] at hj
    obtain⟨_,rfl⟩:=hj
    simpa using hle
 rw[e2]
theorem nr_scan{s:ByteArray}{k:Nat}(hk:k+3≤s.size)(d:Int):nr s (List.range k) k d=(scan s k (min k 32768)).take d.toNat:=by
 unfold nr;rw[scan_cnd hk]
theorem nr_done{s:ByteArray}{k:Nat}(hk:k+3≤s.size)(d:Int)(h:(scan s k (min k 32768)).length≤d.toNat):nr s (List.range k) k d=scan s k (min k 32768):=by
 rw[nr_scan hk,List.take_of_length_le h]
theorem nr_full{s:ByteArray}{k j:Nat}(hk:k+3≤s.size)(d:Int)(hj:j≤min k 32768)(h:(scan s k j).length=d.toNat):nr s (List.range k) k d=scan s k j:=by
 obtain⟨t,ht⟩:=scan_pre s k hj;rw[nr_scan hk,ht,←h,List.take_left]
theorem nr_none{s:ByteArray}{L:List Nat}{k:Nat}(hk:¬k+3≤s.size)(d:Int):nr s L k d=[]:=by
 unfold nr cnd;rw[if_neg hk];simp
def Owi(B:Nat)(w:World)(v:Value)(l:List Nat):Prop:=w.ownsRow B 3 1 v l.length (l.map fun p:Nat=>Value.int .i64 (p:Int))
theorem Owi.nil(B:Nat)(w:World):Owi B w (.slice none 0 0) []:=World.ownsRow_nil w B _ 1
theorem Owi.alloc{B:Nat}{w:World}{v:Value}{l:List Nat}(h:Owi B w v l)(o:Obj):Owi B (w.alloc o) v l:=World.ownsRow.alloc h o
theorem Owi.drewN{B:Nat}{w:World}{v:Value}{l:List Nat}(h:Owi B w v l)(n:Nat):Owi B (w.drewN n) v l:=h
theorem Owi.form{B:Nat}{w:World}{v:Value}{l:List Nat}(h:Owi B w v l):∃A c,v=.slice A l.length c:=by
 rcases h.2 with⟨h1,h2⟩|⟨g,cap,cur,rfl,_⟩
 · exact⟨none,0,by rw[h1,h2]⟩
 · exact⟨_,cap,rfl⟩
theorem cellN(w:World)(n:Nat)(v:Value)(T:TypeId):((w.drewN n).alloc (.cells #[v] T)).cell? ⟨w.heap.size,0,none⟩=some v:=by
 have h:((w.drewN n).alloc (.cells #[v] T)).heap[w.heap.size]? =some (.cells #[v] T (0,0)):=new_at (w.drewN n) (.cells #[v] T);simp only[World.cell?,h];rfl
theorem sizeN(w:World)(n:Nat)(o:Obj):((w.drewN n).alloc o).heap.size=w.heap.size+1:=World.size_alloc (w.drewN n) o
theorem belowN{B:Nat}{w w':World}(h:Below B w w')(n:Nat):Below B w (w'.drewN n):=⟨h.os,h.tape,h.output,h.size,h.block⟩
theorem intInfo:(Tryz.prog.info? 3).map (fun i=>(i.zero,i.size,i.bytes))=some (some (.int .i64 0),1,8):=by kernel_rfl
theorem wpList_int{ops:Array Oper}{rest:List Oper}{o:Oper}{a:Act}{w:World}{Q:Exit→Act→World→Prop}(hgd:o.guard=none)(s x:Operand)
 (ho:o.op=.call {callee:=.builtin .append,args:= #[s,x],argTypes:= #[89,89]}) (B:Nat) (v:Value) (l:List Nat) (hs:a.eval s=v) (h:Owi B w v l) (b c p:Nat)
 (hx:a.eval x=.slice (some ⟨b,0,none⟩) 1 c) (hc:w.cell? ⟨b,0,none⟩=some (.int .i64 (p:Int))) (hL:l.length≤1000000) (hB:B≤w.heap.size)
 (hK:∀v' w',Owi B w' v' (l++[p])→w.grownBy w' v.ownBlock→Below B w w'→wpList Tryz.prog ops Q rest (a.put o.dst v') w'):wpList Tryz.prog ops Q (o::rest) a w:=
 wpList_plain hgd fun K hK'=>by
  obtain⟨i,h1,h2,h3,h4⟩:=info_of intInfo
  obtain⟨v',w',r1,r2,r3,_⟩:=run_append_own (P:= Tryz.prog) w B 89 o.type 3 i _ 1 8 Tryz.underlying89 h1 h2 h3 h4 rfl (by decide) v l.length (l.map fun p:Nat=>Value.int .i64 (p:Int)) h ⟨b,0,none⟩ 1 c [.int .i64 (p:Int)] rfl
   (fun j u hu=>by
    match j,hu with
    |0,hu=>simp at hu;subst hu;rw[cadd_at];exact hc) (by intro u hu;simp at hu;subst hu;rfl) (by unfold maxLen;omega) (by omega) hB
  unfold Oper.wp execOp;simp only[ho,resolve,invoke,builtin,Sem.run_bind,Sem.run_pure,Result.andThen_ok,List.map_toArray,List.map_cons,List.map_nil,hs,hx,r1];refine hK' _ _ (hK v' w' ?_ r3 ((Below.refl _ w).grown r3 hB (fun k hk=>(World.ownsRow.lt h k hk).1)));unfold Owi;rw[List.length_append,List.map_append];exact r2
def PlP(W:World)(l:List Nat)(e:Ending)(w':World):Prop:=∃v,e=.returned v∧Owi W.heap.size w' v l∧Below W.heap.size W w'
set_option maxRecDepth 1000000 in
set_option maxHeartbeats 2000000 in
theorem rplaces_any{W:World}{B F b:Nat}{s:ByteArray}{k:Nat}(H:Rf W B F b s k)(d:Int)(hd: -9223372036854775808≤d∧d≤9223372036854775807):
 Calls Tryz.prog 95 #[.pointer (some ⟨F,0,none⟩),.int .i64 k,.int .i64 d] W (PlP W (nr s (List.range k) k d)):=by
 have h0:=H.fd.at0;have h1:=H.fd.at1;have hlen:=H.len;have hkle:=H.le;have d0:decide ((k:Int)<0)=false:=decide_eq_false (by omega);by_cases hk:k+3≤s.size
 · have d1:decide ((s.size:Int) - 3<(k:Int))=false:=decide_eq_false (by omega)
   have HH:=hid H;clear H h1;obtain⟨Z,hZ⟩:∃Z,nr s (List.range k) k d=Z:=⟨_,rfl⟩
   rw[hZ];have HZ:=hid hZ;clear hZ;go_enter Tryz.func95,Tryz.ntmps95;go_wp2_with fail;clear h0
   go_loopw [7,8] (fun v pv wr=> ∃j,j≤min k 32768∧pv=.int .i64 ((k:Int) - 1 - (j:Nat))∧Owi W.heap.size wr v (scan s k j)∧(scan s k j).length≤d.toNat∧Below W.heap.size W wr) (fun _ pv _=>(intOf pv+1).toNat)
   case atStart=>exact⟨0,Nat.zero_le _,by rw[Int.natCast_zero,Int.sub_zero],Owi.nil _ _,Nat.zero_le _,Below.refl _ _⟩
   case round=>
    obtain⟨j,hj,rfl,hO,hl,hb⟩:=hrel
    have hsl:(scan s k j).length≤j:=by
     unfold scan;exact Nat.le_trans (List.length_filter_le _ _) (by simp)
    obtain⟨A,c,rfl⟩:=hO.form;obtain⟨n0,hn0⟩:∃n0,(scan s k j).length=n0:=⟨_,rfl⟩
    rw[hn0] at hl hsl hO ⊢;have HN:=hid hn0;have HO:=hid (show Owi W.heap.size wr (.slice A n0 c) (scan s k j) from by unfold Owi;rw[hn0];unfold Owi at hO;rw[hn0] at hO;exact hO);have HB:=hid hb;clear hO hb hn0;by_cases hjk:j<k
    · obtain⟨P,hP⟩:∃P,k - 1 - j=P:=⟨_,rfl⟩
      have hPi:(k:Int) - 1 - (j:Nat)=(P:Int):=by omega
      rw[hPi];have hPk:(P:Int)+(j:Int)+1=(k:Int):=by omega
      have d2:decide (0≤(P:Int))=true:=decide_eq_true (by omega);obtain⟨j1,hj1⟩:∃j1,j+1=j1:=⟨_,rfl⟩
      have e1:(k:Int) - (P:Int)=(j1:Int):=by omega
      clear hPi;by_cases hjw:j<32768
      · have d3:decide ((j1:Int)≤32768)=true:=decide_eq_true (by omega)
        have d3':decide (j1≤32768)=true:=decide_eq_true (by omega);by_cases hd3:(n0:Int)<d
        · have d4:decide ((n0:Int)<d)=true:=decide_eq_true hd3
          obtain⟨P1,hP1⟩:∃P1,P+1=P1:=⟨_,rfl⟩
          obtain⟨P2,hP2⟩:∃P2,P+2=P2:=⟨_,rfl⟩
          obtain⟨k1,hk1⟩:∃k1,k+1=k1:=⟨_,rfl⟩
          obtain⟨k2,hk2⟩:∃k2,k+2=k2:=⟨_,rfl⟩
          have i0:P<s.size:=by omega
          have i1:P1<s.size:=by omega
          have i2:P2<s.size:=by omega
          have m0:k<s.size:=by omega
          have m1:k1<s.size:=by omega
          have m2:k2<s.size:=by omega
          have b0:=byt_eq i0;have b1:=byt_eq i1;have b2:=byt_eq i2;have n0':=byt_eq m0;have n1':=byt_eq m1;have n2':=byt_eq m2;have v1:IntKind.i64.wrap ((P:Int)+1)=(P1:Int):=by rw[IntWalk.i64_in _ (by omega)];omega
          have v2:IntKind.i64.wrap ((P:Int)+2)=(P2:Int):=by rw[IntWalk.i64_in _ (by omega)];omega
          have v3:IntKind.i64.wrap ((k:Int)+1)=(k1:Int):=by rw[IntWalk.i64_in _ (by omega)];omega
          have v4:IntKind.i64.wrap ((k:Int)+2)=(k2:Int):=by rw[IntWalk.i64_in _ (by omega)];omega
          have u1:(P:Int)+1=(P1:Int):=by omega
          have u2:(P:Int)+2=(P2:Int):=by omega
          have u3:(k:Int)+1=(k1:Int):=by omega
          have u4:(k:Int)+2=(k2:Int):=by omega
          have hRr:=HH.out.below HB.out;have r0:=hRr.fd.at0;have r1:=hRr.fd.at1;have rb:=(World.rowIs.cell hRr.row (i:=P) i0).trans (by rw[decide_eq_true (show P<k by omega)]);have hsc:=scan_succ s k j;rw[hP] at hsc
          have hi3:isC s k P=true↔byt s P=byt s k∧byt s P1=byt s k1∧byt s P2=byt s k2:=by
           unfold isC;rw[at3_iff,hP1,hP2,hk1,hk2];exact⟨fun q=>q.2,fun q=>⟨by omega,q⟩⟩
          by_cases e0q:byt s P=byt s k
          · have q0:(((s[P]'i0).toNat:Int)==((s[k]'m0).toNat:Int))=true:=by rw[b0,n0',e0q];simp
            by_cases e1q:byt s P1=byt s k1
            · have q1:(((s[P1]'i1).toNat:Int)==((s[k1]'m1).toNat:Int))=true:=by rw[b1,n1',e1q];simp
              by_cases e2q:byt s P2=byt s k2
              · have q2:(((s[P2]'i2).toNat:Int)==((s[k2]'m2).toNat:Int))=true:=by rw[b2,n2',e2q];simp
                rw[hi3.2 ⟨e0q,e1q,e2q⟩,if_pos rfl] at hsc;have HSC:=hid hsc;have hn9:n0≤1000000:=by omega
                clear hsc hi3 b0 b1 b2 n0' n1' n2' hRr hP hP1 hP2 hk1 hk2 e0q e1q e2q;go_wp2_with fail
                go_quiet (fail)
                clear r0 r1 rb v1 v2 v3 v4 u1 u2 u3 u4;go_wp2_with (at_builtin;refine wpList_int rfl (.tmp 95) (.tmp 97) rfl W.heap.size (.slice A n0 c) (scan s k j) rfl ((HO.out.drewN _).alloc _) wr.heap.size 1 P rfl (cellN wr nq _ _) (by rw[HN.out];exact hn9) (by have:=HB.out.size;rw[sizeN];omega) ?_;intro v' w' o' g' b';have HO2:=hid o';have HB2:=hid (((belowN HB.out nq).alloc HB.out.size _).trans b');clear o' b' g');go_roundw
                case rel=>exact⟨j+1,by omega,by rw[show(P:Int) - 1=(k:Int) - 1 - ((j+1:Nat):Int) by omega],by rw[HSC.out];exact HO2.out,by rw[HSC.out,List.length_append,HN.out,List.length_singleton];omega,HB2.out⟩
                case measure=>(simp[intOf];try omega)
              · have q2:(((s[P2]'i2).toNat:Int)==((s[k2]'m2).toNat:Int))=false:=by rw[b2,n2',beq_eq_false_iff_ne];omega
                have hc3:isC s k P=false:=by cases q:isC s k P with|false=>rfl|true=>(have:=hi3.1 q;omega)
                rw[hc3,if_neg (by decide),List.append_nil] at hsc;have HSC:=hid hsc;clear hsc hi3 hc3 b0 b1 b2 n0' n1' n2' hRr hP hP1 hP2 hk1 hk2 e0q e1q e2q;go_wp2_with fail
                go_quiet (fail)
                clear r0 r1 rb v1 v2 v3 v4 u1 u2 u3 u4;go_wp2_with fail;go_roundw
                case rel=>exact⟨j+1,by omega,by rw[show(P:Int) - 1=(k:Int) - 1 - ((j+1:Nat):Int) by omega],by rw[HSC.out];exact HO.out.drewN _,by rw[HSC.out,HN.out];exact hl,((Kept.of_below HB.out).drewN _).below (Nat.le_refl _) (fun _ g=>g.elim)⟩
                case measure=>(simp[intOf];try omega)
            · have q1:(((s[P1]'i1).toNat:Int)==((s[k1]'m1).toNat:Int))=false:=by rw[b1,n1',beq_eq_false_iff_ne];omega
              have hc3:isC s k P=false:=by cases q:isC s k P with|false=>rfl|true=>(have:=hi3.1 q;omega)
              rw[hc3,if_neg (by decide),List.append_nil] at hsc;have HSC:=hid hsc;clear hsc hi3 hc3 b0 b1 b2 n0' n1' n2' hRr hP hP1 hP2 hk1 hk2 e0q e1q;go_wp2_with fail
              go_quiet (fail)
              clear r0 r1 rb v1 v2 v3 v4 u1 u2 u3 u4;go_wp2_with fail;go_roundw
              case rel=>exact⟨j+1,by omega,by rw[show(P:Int) - 1=(k:Int) - 1 - ((j+1:Nat):Int) by omega],by rw[HSC.out];exact HO.out.drewN _,by rw[HSC.out,HN.out];exact hl,((Kept.of_below HB.out).drewN _).below (Nat.le_refl _) (fun _ g=>g.elim)⟩
              case measure=>(simp[intOf];try omega)
          · have q0:(((s[P]'i0).toNat:Int)==((s[k]'m0).toNat:Int))=false:=by rw[b0,n0',beq_eq_false_iff_ne];omega
            have hc3:isC s k P=false:=by cases q:isC s k P with|false=>rfl|true=>(have:=hi3.1 q;omega)
            rw[hc3,if_neg (by decide),List.append_nil] at hsc;have HSC:=hid hsc;clear hsc hi3 hc3 b0 b1 b2 n0' n1' n2' hRr hP hP1 hP2 hk1 hk2 e0q;go_wp2_with fail
            go_quiet (fail)
            clear r0 r1 rb v1 v2 v3 v4 u1 u2 u3 u4;go_wp2_with fail;go_roundw
            case rel=>exact⟨j+1,by omega,by rw[show(P:Int) - 1=(k:Int) - 1 - ((j+1:Nat):Int) by omega],by rw[HSC.out];exact HO.out.drewN _,by rw[HSC.out,HN.out];exact hl,((Kept.of_below HB.out).drewN _).below (Nat.le_refl _) (fun _ g=>g.elim)⟩
            case measure=>(simp[intOf];try omega)
        · have d4:decide ((n0:Int)<d)=false:=decide_eq_false hd3
          have hZ2:=nr_full hk d hj (by rw[HN.out];omega);rw[HZ.out] at hZ2;have HZ2:=hid hZ2;clear hZ2 hP;go_wp2_with fail;go_ret;exact⟨_,rfl,by rw[HZ2.out];exact HO.out,HB.out⟩
      · have d3:decide ((j1:Int)≤32768)=false:=decide_eq_false (by omega)
        have d3':decide (j1≤32768)=false:=decide_eq_false (by omega);have hjm:j=min k 32768:=by omega
        have hZ2:=nr_done hk d (by rw[←hjm,HN.out];omega);rw[HZ.out,←hjm] at hZ2;have HZ2:=hid hZ2;clear hZ2 hP hjm;go_wp2_with fail;go_ret;exact⟨_,rfl,by rw[HZ2.out];exact HO.out,HB.out⟩
    · have hPi:(k:Int) - 1 - (j:Nat)= -1:=by omega
      rw[hPi];have hjm:j=min k 32768:=by omega
      have hZ2:=nr_done hk d (by rw[←hjm,HN.out];omega);rw[HZ.out,←hjm] at hZ2;have HZ2:=hid hZ2;clear hZ2 hjm hPi;go_wp2_with fail;go_ret;exact⟨_,rfl,by rw[HZ2.out];exact HO.out,HB.out⟩
 · have d1:decide ((s.size:Int) - 3<(k:Int))=true:=decide_eq_true (by omega)
   rw[nr_none hk];clear H h1;go_enter Tryz.func95,Tryz.ntmps95;go_wp2_with fail;go_ret;exact⟨_,rfl,Owi.nil _ _,Below.refl _ _⟩
end Q
end Go.Proofs.YtdpabanajgegjaaGreatDoor.V.Px
namespace Go.Proofs.YtdpabanajgegjaaGreatDoor.V.Px
open Go.Lib (hid)
namespace Q
open Go Go.RowKit M
theorem Owi.cells{B:Nat}{w:World}{v:Value}{l:List Nat}(h:Owi B w v l){j:Nat}(hj:j<l.length):∃g c,v=.slice (some ⟨g,0,none⟩) l.length c∧B≤g∧∀i (hi:i<l.length),w.cell? ⟨g,i,none⟩=some (.int .i64 ((l.getD i 0:Nat):Int)):=by
 have hc:=fun g (hg:v.ownBlock=some g)=>World.ownsRow.cells h hg
 rcases h.2 with⟨h1,h2⟩|⟨g,cap,cur,rfl,hg,_⟩
 · omega
 · refine⟨g,cap,rfl,hg,fun i hi=> ?_⟩
   have:=hc g rfl i (.int .i64 ((l.getD i 0:Nat):Int)) (by rw[List.getElem?_map,List.getElem?_eq_getElem hi,List.getD,List.getElem?_eq_getElem hi];rfl);rw[cadd_at,Nat.zero_add] at this;exact this
theorem fnd_step{s:ByteArray}{k:Nat}{nice over:Int}{l:List Nat}{j:Nat}{mm:Nat×Nat}(hj:j<l.length):fnd s k nice over (l.drop j) mm=if nice≤(lng s (l.getD j 0) k:Int) then stp s k over mm (l.getD j 0) else fnd s k nice over (l.drop (j+1)) (stp s k over mm (l.getD j 0)):=by
 rw[List.drop_eq_getElem_cons hj,fnd];have e:l[j]=l.getD j 0:=by rw[List.getD,List.getElem?_eq_getElem hj];rfl
 rw[e]
theorem matchSize:(Tryz.prog.info? 71).map (fun i=>i.size)=some 2:=by kernel_rfl
set_option maxRecDepth 1000000 in
set_option maxHeartbeats 2000000 in
theorem rfind_any{W:World}{B F b:Nat}{s:ByteArray}{k:Nat}(H:Rf W B F b s k)(d nice over:Int)(hd: -9223372036854775808≤d∧d≤9223372036854775807):
 Calls Tryz.prog 59 #[.pointer (some ⟨F,0,none⟩),.int .i64 k,.int .i64 d,.int .i64 nice,.int .i64 over] W fun e w'=>e=.returned (.agg #[.int .i64 ((fnd s k nice over (nr s (List.range k) k d) (0,0)).1:Nat),.int .i64 ((fnd s k nice over (nr s (List.range k) k d) (0,0)).2:Nat)])∧Below W.heap.size W w':=by
 have HH:=hid H;have hkle:=H.le;have hlen:=H.len;obtain⟨l,hl⟩:∃l,nr s (List.range k) k d=l:=⟨_,rfl⟩
 have HMem:=hid (show ∀j,j<l.length→l.getD j 0<k from fun j hj=>by
  have hm:l.getD j 0∈nr s (List.range k) k d:=by rw[hl,List.getD,List.getElem?_eq_getElem hj];exact List.getElem_mem _
  exact(cnd_mem (nr_mem hm)).2.1)
 have HLen:=hid (show l.length≤2000000 from by
  rw[←hl,nr_len]
  have h1:(cnd s (List.range k) k).length≤k:=by
   unfold cnd grp
   split
   · exact Nat.le_trans (List.length_filter_le _ _) (Nat.le_trans (List.length_filter_le _ _) (by rw[List.length_range];exact Nat.le_refl _))
   · exact Nat.zero_le _
  omega)
 obtain⟨X,Y,hXY⟩:∃X Y,fnd s k nice over l (0,0)=(X,Y):=⟨_,_,rfl⟩
 rw[hl,hXY]
 have HP:=hid (fun w (hb:Below W.heap.size W w)=>(show Calls Tryz.prog 95 #[.pointer (some ⟨F,0,none⟩),.int .i64 k,.int .i64 d] w (PlP w l) from by
  have:=rplaces_any (H.below hb) d hd;rw[hl] at this;exact this))
 have HXY:=hid hXY;clear H hl hXY;go_enter Tryz.func59,Tryz.ntmps59;go_wp2_with (go_at_call 95;refine(HP.out _ (((Below.refl _ W).alloc (Nat.le_refl _) _).alloc (by simp) _)).mono ?_;rintro e w1 ⟨v,rfl,hv,hb⟩);obtain⟨A,c,rfl⟩:=hv.form;have hz2:((W.alloc (.cells #[.int .i64 0,.int .i64 0] 71)).alloc (.cells #[.int .i64 0,.int .i64 0] 71)).heap.size=W.heap.size+2:=by simp
 have hg0:B2 w1 71 W.heap.size (.int .i64 0) (.int .i64 0):=(hb.block W.heap.size (by rw[hz2];omega)).trans (old_at _ (new_at _ _))
 have hm0:B2 w1 71 (W.heap.size+1) (.int .i64 ((0:Nat):Int)) (.int .i64 ((0:Nat):Int)):=(hb.block (W.heap.size+1) (by rw[hz2];omega)).trans (by
  have:=new_at (W.alloc (.cells #[.int .i64 0,.int .i64 0] 71)) (.cells #[.int .i64 0,.int .i64 0] 71);rw[World.size_alloc] at this;exact this)
 rw[hz2] at hv hb;have hb1:Below W.heap.size W w1:=(((Below.refl _ W).alloc (Nat.le_refl _) _).alloc (by simp) _).trans (hb.mono (by omega));have HV:=hid hv;have HG0:=hid hg0;have HM0:=hid hm0;have HB1:=hid hb1;obtain⟨n,hn⟩:∃n,l.length=n:=⟨_,rfl⟩
 have HN:=hid hn;rw[hn];have hn9:n≤2000000:=by have:=HLen.out;omega
 clear hv hg0 hm0 hb1 hb hz2 hn HP
 go_loopw [13] (fun i wr=> ∃j m1 m2:Nat,j≤n∧i=.int .i64 j∧B2 wr 71 W.heap.size (.int .i64 0) (.int .i64 0)∧B2 wr 71 (W.heap.size+1) (.int .i64 m1) (.int .i64 m2)∧Owi (W.heap.size+2) wr (.slice A n c) l∧Below W.heap.size W wr∧fnd s k nice over (l.drop j) (m1,m2)=(X,Y)) (fun i _=>n - (intOf i).toNat)
 case atStart=>exact⟨0,0,0,Nat.zero_le _,rfl,HG0.out,HM0.out,by have:=HV.out;rw[HN.out] at this;exact this,HB1.out,HXY.out⟩
 case round=>
  obtain⟨j,m1,m2,hj,rfl,hG,hM,hO,hb,hf⟩:=hrel;have g0:=hG.at0;have g1:=hG.at1;have gf0:=hG.free 0;have gf1:=hG.free 1;have a0:=hM.at0;have a1:=hM.at1;have af0:=hM.free 0;have af1:=hM.free 1;have HG:=hid hG;have HM:=hid hM;have HO:=hid hO;have HB:=hid hb;by_cases hlt:j<n
  · obtain⟨gg,cc,hvv,hgg,hcc⟩:=hO.cells (j:=j) (by rw[HN.out];exact hlt)
    have hfs:=fnd_step (s:=s) (k:=k) (nice:=nice) (over:=over) (l:=l) (mm:=(m1,m2)) (j:=j) (by rw[HN.out];exact hlt);rw[hf] at hfs;have hpk:=HMem.out j (by rw[HN.out];exact hlt);have hcj:=hcc j (by rw[HN.out];exact hlt);obtain⟨p,hp⟩:∃p,l.getD j 0=p:=⟨_,rfl⟩
    rw[hp] at hfs hpk hcj;obtain⟨rfl,hl2,rfl⟩:A=some ⟨gg,0,none⟩∧n=l.length∧c=cc:=by simpa using hvv
    have HL:=hid (rlong_any (HH.out.below HB.out) p k hpk hkle);obtain⟨z,hz⟩:∃z,lng s p k=z:=⟨_,rfl⟩
    rw[hz] at HL hfs;have hz9:=(lng_le s p k).1;rw[hz] at hz9;obtain⟨y,hy⟩:∃y,k - p=y:=⟨_,rfl⟩
    have ey:(k:Int) - (p:Int)=(y:Int):=by omega
    have hstp:stp s k over (m1,m2) p=if over<(z:Int)∧m1<z then(z,y) else(m1,m2):=by
     unfold stp;rw[hz,hy]
    rw[hstp] at hfs;clear hG hM hO hb hf hvv hgg hcc hp hz hl2 hy hstp;by_cases q1:over<(z:Int)
    · have e1:decide (over<(z:Int))=true:=decide_eq_true q1
      by_cases q2:m1<z
      · have e2:decide ((m1:Int)<(z:Int))=true:=decide_eq_true (by omega)
        have e2':decide (m1<z)=true:=decide_eq_true q2;by_cases q3:nice≤(z:Int)
        · have e3:decide (nice≤(z:Int))=true:=decide_eq_true q3
          rw[if_pos q3,if_pos (show over<(z:Int)∧m1<z from⟨q1,q2⟩)] at hfs;obtain⟨rfl,rfl⟩:X=z∧Y=y:=by injection hfs with a b;exact⟨a,b⟩
          clear hfs;go_wp2_with (go_at_call 96;(with_reducible refine HL.out.mono ?_);rintro e w3 ⟨rfl,nq,rfl⟩);have HR:=hid (B2.set (B2.of_block (w':=(((wr.drewN nq).setCell ⟨W.heap.size+1,0,none⟩ (.int .i64 (X:Int))).setCell ⟨W.heap.size+1,1,none⟩ (.int .i64 (Y:Int)))) HG.out ((Below.heap_setCell _ _ _ _ (by show W.heap.size≠W.heap.size+1;omega)).trans (Below.heap_setCell _ _ _ _ (by show W.heap.size≠W.heap.size+1;omega)))) (.int .i64 (X:Int)) (.int .i64 (Y:Int)));refine bodyPost_ret (v:=.agg #[.int .i64 (X:Int),.int .i64 (Y:Int)]) (results_cell_row rfl _ _ W.heap.size _ _ _ _ rfl HR.out Tryz.underlying71 rfl matchSize) rfl ⟨rfl,((((belowN HB.out nq).setCell (p:=⟨W.heap.size+1,0,none⟩) (by simp) _).setCell (p:=⟨W.heap.size+1,1,none⟩) (by simp) _).setCell (p:=⟨W.heap.size,0,none⟩) (Nat.le_refl _) _).setCell (p:=⟨W.heap.size,1,none⟩) (Nat.le_refl _) _⟩
        · have e3:decide (nice≤(z:Int))=false:=decide_eq_false q3
          rw[if_neg q3,if_pos (show over<(z:Int)∧m1<z from⟨q1,q2⟩)] at hfs;have HFS:=hid hfs.symm;clear hfs;go_wp2_with (go_at_call 96;(with_reducible refine HL.out.mono ?_);rintro e w3 ⟨rfl,nq,rfl⟩);go_roundw
          case rel=>exact⟨j+1,z,y,by omega,by go_num,B2.of_block HG.out ((Below.heap_setCell _ _ _ _ (by show W.heap.size≠W.heap.size+1;omega)).trans (Below.heap_setCell _ _ _ _ (by show W.heap.size≠W.heap.size+1;omega))),(B2.set (B2.of_block (w':=wr.drewN nq) HM.out rfl) _ _),ownsRow_at HO.out (fun g hg=>by have:=(World.ownsRow.lt HO.out g hg).1;exact(Below.heap_setCell _ _ _ _ (by show g≠W.heap.size+1;omega)).trans (Below.heap_setCell _ _ _ _ (by show g≠W.heap.size+1;omega))),((belowN HB.out nq).setCell (p:=⟨W.heap.size+1,0,none⟩) (by simp) _).setCell (p:=⟨W.heap.size+1,1,none⟩) (by simp) _,HFS.out⟩
          case measure=>(simp[intOf];try omega)
      · have e2:decide ((m1:Int)<(z:Int))=false:=decide_eq_false (by omega)
        have e2':decide (m1<z)=false:=decide_eq_false q2;by_cases q3:nice≤(z:Int)
        · have e3:decide (nice≤(z:Int))=true:=decide_eq_true q3
          rw[if_pos q3,if_neg (show ¬(over<(z:Int)∧m1<z) from fun q=>q2 q.2)] at hfs;obtain⟨rfl,rfl⟩:X=m1∧Y=m2:=by injection hfs with a b;exact⟨a,b⟩
          clear hfs;go_wp2_with (go_at_call 96;(with_reducible refine HL.out.mono ?_);rintro e w3 ⟨rfl,nq,rfl⟩);have HR:=hid (B2.set (B2.of_block (w':=wr.drewN nq) HG.out rfl) (.int .i64 (X:Int)) (.int .i64 (Y:Int)));refine bodyPost_ret (v:=.agg #[.int .i64 (X:Int),.int .i64 (Y:Int)]) (results_cell_row rfl _ _ W.heap.size _ _ _ _ rfl HR.out Tryz.underlying71 rfl matchSize) rfl ⟨rfl,((belowN HB.out nq).setCell (p:=⟨W.heap.size,0,none⟩) (Nat.le_refl _) _).setCell (p:=⟨W.heap.size,1,none⟩) (Nat.le_refl _) _⟩
        · have e3:decide (nice≤(z:Int))=false:=decide_eq_false q3
          rw[if_neg q3,if_neg (show ¬(over<(z:Int)∧m1<z) from fun q=>q2 q.2)] at hfs;have HFS:=hid hfs.symm;clear hfs;go_wp2_with (go_at_call 96;(with_reducible refine HL.out.mono ?_);rintro e w3 ⟨rfl,nq,rfl⟩);go_roundw
          case rel=>exact⟨j+1,m1,m2,by omega,by go_num,B2.of_block HG.out rfl,B2.of_block HM.out rfl,HO.out.drewN _,belowN HB.out _,HFS.out⟩
          case measure=>(simp[intOf];try omega)
    · have e1:decide (over<(z:Int))=false:=decide_eq_false q1
      by_cases q3:nice≤(z:Int)
      · have e3:decide (nice≤(z:Int))=true:=decide_eq_true q3
        rw[if_pos q3,if_neg (show ¬(over<(z:Int)∧m1<z) from fun q=>q1 q.1)] at hfs;obtain⟨rfl,rfl⟩:X=m1∧Y=m2:=by injection hfs with a b;exact⟨a,b⟩
        clear hfs;go_wp2_with (go_at_call 96;(with_reducible refine HL.out.mono ?_);rintro e w3 ⟨rfl,nq,rfl⟩);have HR:=hid (B2.set (B2.of_block (w':=wr.drewN nq) HG.out rfl) (.int .i64 (X:Int)) (.int .i64 (Y:Int)));refine bodyPost_ret (v:=.agg #[.int .i64 (X:Int),.int .i64 (Y:Int)]) (results_cell_row rfl _ _ W.heap.size _ _ _ _ rfl HR.out Tryz.underlying71 rfl matchSize) rfl ⟨rfl,((belowN HB.out nq).setCell (p:=⟨W.heap.size,0,none⟩) (Nat.le_refl _) _).setCell (p:=⟨W.heap.size,1,none⟩) (Nat.le_refl _) _⟩
      · have e3:decide (nice≤(z:Int))=false:=decide_eq_false q3
        rw[if_neg q3,if_neg (show ¬(over<(z:Int)∧m1<z) from fun q=>q1 q.1)] at hfs;have HFS:=hid hfs.symm;clear hfs;go_wp2_with (go_at_call 96;(with_reducible refine HL.out.mono ?_);rintro e w3 ⟨rfl,nq,rfl⟩);go_roundw
        case rel=>exact⟨j+1,m1,m2,by omega,by go_num,B2.of_block HG.out rfl,B2.of_block HM.out rfl,HO.out.drewN _,belowN HB.out _,HFS.out⟩
        case measure=>(simp[intOf];try omega)
  · obtain rfl:j=n:=by omega
    rw[List.drop_eq_nil_of_le (by rw[HN.out];exact Nat.le_refl _)] at hf;obtain⟨rfl,rfl⟩:m1=X∧m2=Y:=by simpa [fnd] using hf
    have HR:=hid (HG.out.set (.int .i64 (m1:Int)) (.int .i64 (m2:Int)));clear hG hM hO hb hf;go_wp2_with fail;refine bodyPost_ret (v:=.agg #[.int .i64 (m1:Int),.int .i64 (m2:Int)]) (results_cell_row rfl _ _ W.heap.size _ _ _ _ rfl HR.out Tryz.underlying71 rfl matchSize) rfl ⟨rfl,(HB.out.setCell (p:=⟨W.heap.size,0,none⟩) (Nat.le_refl _) _).setCell (p:=⟨W.heap.size,1,none⟩) (Nat.le_refl _) _⟩
end Q
end Go.Proofs.YtdpabanajgegjaaGreatDoor.V.Px
namespace Go.Proofs.YtdpabanajgegjaaGreatDoor.V.Px
open Go.Lib (hid)
namespace Q
open Go Go.RowKit M
def lastOf(F:Nat)(w:World):Int:=match w.cell? ⟨F,2,none⟩ with
 |some v=>intOf v
 |none=>0
theorem Rf.last{w:World}{B F b k:Nat}{s:ByteArray}(h:Rf w B F b s k):lastOf F w=(k:Int) - 1:=by
 unfold lastOf;rw[h.fd.at2];rfl
def FdS(F b:Nat):Nat→Prop:=fun j=>j=F∨j=b
theorem kfd{F b:Nat}{A C D:World}(h:Kept (FdS F b) A C)(k:Kept (FdS F b) C D):Kept (FdS F b) A D:=h.trans k fun j hj=> .inl hj
set_option maxRecDepth 1000000 in
set_option maxHeartbeats 2000000 in
theorem look_any{W:World}{B F b:Nat}{s:ByteArray}{k:Nat}(H:Rf W B F b s k)(r:Lv)(t:Nat)(over:Int)(hkt:k≤t)(hts:t≤s.size)(hd:r.d≤1000000):
 Calls Tryz.prog 37 #[.pointer (some ⟨F,0,none⟩),.int .i64 t,.agg #[.int .i64 r.d,.int .i64 r.n,.int .i64 r.z],.int .i64 over] W fun e w'=>e=.returned (.agg #[.int .i64 ((mt s r t over).1:Nat),.int .i64 ((mt s r t over).2:Nat)])∧Rf w' B F b s t∧Kept (FdS F b) W w':=by
 obtain⟨X,Y,hXY⟩:∃X Y,mt s r t over=(X,Y):=⟨_,_,rfl⟩
 rw[hXY];obtain⟨d,n,z⟩:=r;simp only at hd ⊢
 have HF:=hid (show ∀w,Rf w B F b s t→Calls Tryz.prog 59 #[.pointer (some ⟨F,0,none⟩),.int .i64 t,.int .i64 d,.int .i64 n,.int .i64 over] w fun e w'=>e=.returned (.agg #[.int .i64 (X:Nat),.int .i64 (Y:Nat)])∧Below w.heap.size w w' from fun w h=>by
  have:=rfind_any h (d:Int) (n:Int) over ⟨by omega,by omega⟩;unfold mt at hXY;simp only at hXY;rw[hXY] at this;exact this)
 have HH:=hid H;have hlen:=H.len;have hFlt:=H.fd.lt;have hblt:=World.rowIs.lt H.row;have hw0:Rf ((W.alloc (.cells #[.int .i64 d,.int .i64 n,.int .i64 z] 63)).alloc (.cells #[.int .i64 0,.int .i64 0] 71)) B F b s k:=H.below (((Below.refl _ W).alloc (Nat.le_refl _) _).alloc (by simp) _);have hk0:Kept (FdS F b) W ((W.alloc (.cells #[.int .i64 d,.int .i64 n,.int .i64 z] 63)).alloc (.cells #[.int .i64 0,.int .i64 0] 71)):=((Kept.refl _ W).alloc _).alloc _;have hr0:B3 ((W.alloc (.cells #[.int .i64 d,.int .i64 n,.int .i64 z] 63)).alloc (.cells #[.int .i64 0,.int .i64 0] 71)) 63 W.heap.size (.int .i64 d) (.int .i64 n) (.int .i64 z):=old_at _ (new_at _ _)
 have hm0:B2 ((W.alloc (.cells #[.int .i64 d,.int .i64 n,.int .i64 z] 63)).alloc (.cells #[.int .i64 0,.int .i64 0] 71)) 71 (W.heap.size+1) (.int .i64 0) (.int .i64 0):=by
  have:=new_at (W.alloc (.cells #[.int .i64 d,.int .i64 n,.int .i64 z] 63)) (.cells #[.int .i64 0,.int .i64 0] 71);rw[World.size_alloc] at this;exact this
 have HW0:=hid hw0;have HK0:=hid hk0;have HR0:=hid hr0;have HM0:=hid hm0;clear H hXY hw0 hk0 hr0 hm0;go_enter Tryz.func37,Tryz.ntmps37;go_wp2_with fail
 go_loopw [22] (fun _ wr=> ∃j,k≤j∧j≤t∧Rf wr B F b s j∧Kept (FdS F b) W wr∧B3 wr 63 W.heap.size (.int .i64 d) (.int .i64 n) (.int .i64 z)∧B2 wr 71 (W.heap.size+1) (.int .i64 0) (.int .i64 0)) (fun _ wr=>((t:Int) - 1 - lastOf F wr).toNat)
 case atStart=>exact⟨k,Nat.le_refl _,hkt,HW0.out,HK0.out,HR0.out,HM0.out⟩
 case round=>
  obtain⟨j,hj1,hj2,hRf,hk,hR,hM⟩:=hrel;have f0:=hRf.fd.at2;have hls:=hRf.last;by_cases hlt:j<t
  · have d1:decide ((j:Int) - 1<(t:Int) - 1)=true:=decide_eq_true (by omega)
    have e1:(j:Int) - 1+1=(j:Int):=by omega
    have HP:=hid (rput_any hRf (by omega:j<s.size));have HK:=hid hk;have HR:=hid hR;have HM:=hid hM;have HLs:=hid hls;clear hRf hk hR hM hls;go_wp2_with (go_at_call 58;(with_reducible refine HP.out.mono ?_);rintro e w2 ⟨rfl,hr2,hk2⟩;have HR2:=hid hr2;have HK2:=hid hk2;clear hr2 hk2);go_roundw
    case rel=>exact⟨j+1,by omega,by omega,HR2.out,kfd HK.out HK2.out,B3.of_block HR.out (HK2.out.block _ HR.out.lt (fun g=>by rcases g with g|g<;>omega)),B2.of_block HM.out (HK2.out.block _ HM.out.lt (fun g=>by rcases g with g|g<;>omega))⟩
    case measure=>rw[HR2.out.last,HLs.out];omega
  · obtain rfl:j=t:=by omega
    have d1:decide ((j:Int) - 1<(j:Int) - 1)=false:=decide_eq_false (by omega);have r0:=hR.at0;have r1:=hR.at1;have HP:=hid (HF.out wr hRf);have HRf:=hid hRf;have HK:=hid hk;have HM:=hid hM;clear hRf hk hR hM hls HF;go_wp2_with (go_at_call 59;(with_reducible refine HP.out.mono ?_);rintro e w2 ⟨rfl,hb2⟩;have hM2:=B2.of_block HM.out (hb2.block _ HM.out.lt);have m0:=hM2.at0;have m1:=hM2.at1;have mf0:=hM2.free 0;have mf1:=hM2.free 1;have HM2:=hid hM2;have HRf2:=hid (HRf.out.below hb2);have HK2:=hid (kfd HK.out ((Kept.of_below hb2).none _));clear hb2 hM2);have HR:=hid (HM2.out.set (.int .i64 (X:Int)) (.int .i64 (Y:Int)));refine bodyPost_ret (v:=.agg #[.int .i64 (X:Int),.int .i64 (Y:Int)]) (results_cell_row rfl _ _ (W.heap.size+1) _ _ _ _ rfl HR.out Tryz.underlying71 rfl matchSize) rfl ⟨rfl,HRf2.out.of_blocks ((Below.heap_setCell _ _ _ _ (by show F≠W.heap.size+1;omega)).trans (Below.heap_setCell _ _ _ _ (by show F≠W.heap.size+1;omega))) ((Below.heap_setCell _ _ _ _ (by show b≠W.heap.size+1;omega)).trans (Below.heap_setCell _ _ _ _ (by show b≠W.heap.size+1;omega))),(HK2.out.setCell ⟨W.heap.size+1,0,none⟩ (.inr (by simp)) _).setCell ⟨W.heap.size+1,1,none⟩ (.inr (by simp)) _⟩
end Q
end Go.Proofs.YtdpabanajgegjaaGreatDoor.V.Px
namespace Go.Proofs.YtdpabanajgegjaaGreatDoor.V.Px
namespace Q
open Go Go.RowKit M
def lvs:List Lv:=[⟨0,0,0⟩,⟨4,8,0⟩,⟨8,16,0⟩,⟨16,32,0⟩,⟨8,16,4⟩,⟨16,32,16⟩,⟨64,128,16⟩,⟨128,128,32⟩,⟨512,258,128⟩,⟨2048,258,258⟩]
def lv(i:Nat):Lv:=lvs.getD i ⟨0,0,0⟩
theorem lv_row(w:World)(i:Nat)(hi:i≤9):((w.alloc (.cells #[.int .i64 0,.int .i64 0,.int .i64 0] 63)).alloc (.cells #[.int .i64 0,.int .i64 0,.int .i64 0,.int .i64 4,.int .i64 8,.int .i64 0,.int .i64 8,.int .i64 16,.int .i64 0,.int .i64 16,.int .i64 32,.int .i64 0,.int .i64 8,.int .i64 16,.int .i64 4,.int .i64 16,.int .i64 32,.int .i64 16,.int .i64 64,.int .i64 128,.int .i64 16,.int .i64 128,.int .i64 128,.int .i64 32,.int .i64 512,.int .i64 258,.int .i64 128,.int .i64 2048,.int .i64 258,.int .i64 258] 63)).cell? ⟨w.heap.size+1,i*3,none⟩=some (.int .i64 (lv i).d)∧((w.alloc (.cells #[.int .i64 0,.int .i64 0,.int .i64 0] 63)).alloc (.cells #[.int .i64 0,.int .i64 0,.int .i64 0,.int .i64 4,.int .i64 8,.int .i64 0,.int .i64 8,.int .i64 16,.int .i64 0,.int .i64 16,.int .i64 32,.int .i64 0,.int .i64 8,.int .i64 16,.int .i64 4,.int .i64 16,.int .i64 32,.int .i64 16,.int .i64 64,.int .i64 128,.int .i64 16,.int .i64 128,.int .i64 128,.int .i64 32,.int .i64 512,.int .i64 258,.int .i64 128,.int .i64 2048,.int .i64 258,.int .i64 258] 63)).cell? ⟨w.heap.size+1,i*3+1,none⟩=some (.int .i64 (lv i).n)∧((w.alloc (.cells #[.int .i64 0,.int .i64 0,.int .i64 0] 63)).alloc (.cells #[.int .i64 0,.int .i64 0,.int .i64 0,.int .i64 4,.int .i64 8,.int .i64 0,.int .i64 8,.int .i64 16,.int .i64 0,.int .i64 16,.int .i64 32,.int .i64 0,.int .i64 8,.int .i64 16,.int .i64 4,.int .i64 16,.int .i64 32,.int .i64 16,.int .i64 64,.int .i64 128,.int .i64 16,.int .i64 128,.int .i64 128,.int .i64 32,.int .i64 512,.int .i64 258,.int .i64 128,.int .i64 2048,.int .i64 258,.int .i64 258] 63)).cell? ⟨w.heap.size+1,i*3+2,none⟩=some (.int .i64 (lv i).z):=by
 have h:=new_at (w.alloc (.cells #[.int .i64 0,.int .i64 0,.int .i64 0] 63)) (.cells #[.int .i64 0,.int .i64 0,.int .i64 0,.int .i64 4,.int .i64 8,.int .i64 0,.int .i64 8,.int .i64 16,.int .i64 0,.int .i64 16,.int .i64 32,.int .i64 0,.int .i64 8,.int .i64 16,.int .i64 4,.int .i64 16,.int .i64 32,.int .i64 16,.int .i64 64,.int .i64 128,.int .i64 16,.int .i64 128,.int .i64 128,.int .i64 32,.int .i64 512,.int .i64 258,.int .i64 128,.int .i64 2048,.int .i64 258,.int .i64 258] 63);rw[World.size_alloc] at h;have h9:i=0∨i=1∨i=2∨i=3∨i=4∨i=5∨i=6∨i=7∨i=8∨i=9:=by omega
 simp only[World.cell?,h];rcases h9 with rfl|rfl|rfl|rfl|rfl|rfl|rfl|rfl|rfl|rfl<;>exact⟨rfl,rfl,rfl⟩
set_option maxRecDepth 1000000 in
set_option maxHeartbeats 2000000 in
theorem rlevel_any(i:Nat)(w:World)(hi:i≤9):
 Calls Tryz.prog 35 #[.int .i64 i] w fun e w'=>e=.returned (.tuple #[.agg #[.int .i64 (lv i).d,.int .i64 (lv i).n,.int .i64 (lv i).z],.bool true])∧Below w.heap.size w w':=by
 obtain⟨c0,c1,c2⟩:=lv_row w i hi;obtain⟨d,hd⟩:∃d:Int,((lv i).d:Int)=d:=⟨_,rfl⟩
 obtain⟨n,hn⟩:∃d:Int,((lv i).n:Int)=d:=⟨_,rfl⟩
 obtain⟨z,hz⟩:∃d:Int,((lv i).z:Int)=d:=⟨_,rfl⟩
 rw[hd,hn,hz];rw[hd] at c0;rw[hn] at c1;rw[hz] at c2;have d0:decide ((i:Int)<0)=false:=decide_eq_false (by omega);have d9:decide (9<(i:Int))=false:=decide_eq_false (by omega);have d9':decide (9<i)=false:=decide_eq_false (by omega);clear hd hn hz;go_enter Tryz.func35,Tryz.ntmps35;go_wp2_with fail;clear c0 c1 c2;generalize Obj.cells #[Value.int IntKind.i64 0,Value.int IntKind.i64 0,Value.int IntKind.i64 0,Value.int IntKind.i64 4,Value.int IntKind.i64 8,Value.int IntKind.i64 0,Value.int IntKind.i64 8,Value.int IntKind.i64 16,Value.int IntKind.i64 0,Value.int IntKind.i64 16,Value.int IntKind.i64 32,Value.int IntKind.i64 0,Value.int IntKind.i64 8,Value.int IntKind.i64 16,Value.int IntKind.i64 4,Value.int IntKind.i64 16,Value.int IntKind.i64 32,Value.int IntKind.i64 16,Value.int IntKind.i64 64,Value.int IntKind.i64 128,Value.int IntKind.i64 16,Value.int IntKind.i64 128,Value.int IntKind.i64 128,Value.int IntKind.i64 32,Value.int IntKind.i64 512,Value.int IntKind.i64 258,Value.int IntKind.i64 128,Value.int IntKind.i64 2048,Value.int IntKind.i64 258,Value.int IntKind.i64 258] 63 =O;have hB:B3 ((w.alloc (.cells #[.int .i64 d,.int .i64 n,.int .i64 z] 63)).alloc O) 63 w.heap.size (.int .i64 d) (.int .i64 n) (.int .i64 z):=old_at _ (new_at _ _);have h0:=hB.at0;have h1:=hB.at1;have h2:=hB.at2;refine bodyPost_ret (v:=.tuple #[.agg #[.int .i64 d,.int .i64 n,.int .i64 z],.bool true]) ?_ rfl ⟨rfl,((Below.refl _ _).alloc (Nat.le_refl _) _).alloc (by simp) _⟩;simp[results,Tryz.f35,go_sem,h0,h1,h2]
end Q
end Go.Proofs.YtdpabanajgegjaaGreatDoor.V.Px
namespace Go.Proofs.YtdpabanajgegjaaGreatDoor.V.Px
open Go.Lib (hid)
namespace Q
open Go Go.RowKit M
def clq:List Tk→List Value
 |[]=> []
 |t::l=> .int .u8 t.l::.int .i64 t.n::.int .i64 t.d::clq l
theorem clq_append:∀l r,clq (l++r)=clq l++clq r
 |[],_=>rfl
 |t::l,r=>by simp only[List.cons_append,clq];rw[clq_append l r]
def Owq(B:Nat)(w:World)(v:Value)(L:List Tk):Prop:=w.ownsRow B 67 3 v L.length (clq L)
section
variable {B:Nat} {w w':World} {v:Value} {L:List Tk}
theorem Owq.nil(B:Nat)(w:World):Owq B w (.slice none 0 0) []:=World.ownsRow_nil w B _ 3
theorem Owq.alloc(h:Owq B w v L)(o:Obj):Owq B (w.alloc o) v L:=World.ownsRow.alloc h o
theorem Owq.at(h:Owq B w v L)(e:∀g,v.ownBlock=some g→w'.heap[g]? =w.heap[g]?):Owq B w' v L:=ownsRow_at h e
theorem Owq.lt(h:Owq B w v L):∀g,v.ownBlock=some g→B≤g∧g<w.heap.size:=World.ownsRow.lt h
end
theorem tokInfo:(Tryz.prog.info? 67).map (fun i=>(i.zero,i.size,i.bytes))=some (some (.agg #[.int .u8 0,.int .i64 0,.int .i64 0]),3,24):=by kernel_rfl
theorem wpList_tq{ops:Array Oper}{rest:List Oper}{o:Oper}{a:Act}{w:World}{Q:Exit→Act→World→Prop}(hgd:o.guard=none)(s x:Operand)
 (ho:o.op=.call {callee:=.builtin .append,args:= #[s,x],argTypes:= #[36,36]}) (B:Nat) (v:Value) (L:List Tk) (hs:a.eval s=v) (h:Owq B w v L) (b c:Nat) (l n d:Int)
 (hx:a.eval x=.slice (some ⟨b,0,none⟩) 1 c) (hc:w.cell? ⟨b,0,none⟩=some (.int .u8 l)∧w.cell? ⟨b,1,none⟩=some (.int .i64 n)∧w.cell? ⟨b,2,none⟩=some (.int .i64 d)) (hL:L.length≤3000000) (hB:B≤w.heap.size)
 (hK:∀v' w',Owq B w' v' (L++[⟨l,n,d⟩])→w.grownBy w' v.ownBlock→Below B w w'→wpList Tryz.prog ops Q rest (a.put o.dst v') w'):wpList Tryz.prog ops Q (o::rest) a w:=
 wpList_plain hgd fun K hK'=>by
  obtain⟨i,h1,h2,h3,h4⟩:=info_of tokInfo
  obtain⟨v',w',r1,r2,r3,_⟩:=run_append_own (P:= Tryz.prog) w B 36 o.type 67 i _ 3 24 Tryz.underlying36 h1 h2 h3 h4 rfl (by decide) v L.length (clq L) h ⟨b,0,none⟩ 1 c (clq [⟨l,n,d⟩]) rfl
   (fun j u hu=>by
    rw[cadd_at,Nat.zero_add]
    match j,hu with
    |0,hu=>simp[clq] at hu;subst hu;exact hc.1
    |1,hu=>simp[clq] at hu;subst hu;exact hc.2.1
    |2,hu=>simp[clq] at hu;subst hu;exact hc.2.2
    |j+3,hu=>simp[clq] at hu) (by intro u hu;simp[clq] at hu;rcases hu with rfl|rfl|rfl<;>rfl) (by unfold maxLen;omega) (by omega) hB
  unfold Oper.wp execOp;simp only[ho,resolve,invoke,builtin,Sem.run_bind,Sem.run_pure,Result.andThen_ok,List.map_toArray,List.map_cons,List.map_nil,hs,hx,r1];refine hK' _ _ (hK v' w' ?_ r3 ((Below.refl _ w).grown r3 hB (fun k hk=>(World.ownsRow.lt h k hk).1)));unfold Owq;rw[List.length_append,clq_append];exact r2
def TkP(W:World)(L:List Tk)(e:Ending)(w':World):Prop:=∃v,e=.returned (.tuple #[v,.int .i64 0])∧Owq W.heap.size w' v L∧Below W.heap.size W w'
def lits(s:ByteArray)(j:Nat):List Tk:=(List.range j).map (lit s)
theorem lits_succ(s:ByteArray)(j:Nat):lits s (j+1)=lits s j++[lit s j]:=by simp[lits,List.range_succ]
theorem lits_length(s:ByteArray)(j:Nat):(lits s j).length=j:=by simp[lits]
set_option maxRecDepth 1000000 in
set_option maxHeartbeats 2000000 in
theorem rtokens_zero(dict text:ByteArray)(W:World)(ht:text.size≤1000000):
 Calls Tryz.prog 18 #[.string dict,.string text,.int .i64 0] W (TkP W (lits text text.size)):=by
 have HL:=hid (fun w=>rlevel_any 0 w (by omega));have dT:decide (1048576<(text.size:Int))=false:=decide_eq_false (by omega);have dT':decide (1048576<text.size)=false:=decide_eq_false (by omega);go_enter Tryz.func18,Tryz.ntmps18;go_wp2_with (go_at_call 35;(refine(HL.out _).mono ?_);rintro e w1 ⟨rfl,b1⟩;have B1:=hid b1;clear b1);have HB0:=hid (show Below W.heap.size W (w1.alloc (.cells #[.int .i64 (lv 0).d,.int .i64 (lv 0).n,.int .i64 (lv 0).z] 63)) from B1.out.alloc B1.out.size _);clear dT dT'
 go_loopw [10,11] (fun v i wr=> ∃j:Nat,j≤text.size∧i=.int .i64 j∧Owq W.heap.size wr v (lits text j)∧Below W.heap.size W wr) (fun _ i _=>text.size - (intOf i).toNat)
 case atStart=>exact⟨0,Nat.zero_le _,rfl,Owq.nil _ _,HB0.out⟩
 case round=>
  obtain⟨j,hj,rfl,hO,hb⟩:=hrel;have HO:=hid hO;have HB:=hid hb;clear hO hb;by_cases hlt:j<text.size
  · have d1:decide ((j:Int)<(text.size:Int))=true:=decide_eq_true (by omega)
    have d1':decide (j<text.size)=true:=decide_eq_true hlt;have hbt:=hid (byt_eq hlt);go_wp2_with (at_builtin;refine wpList_tq rfl (.tmp 35) (.tmp 40) rfl W.heap.size _ (lits text j) rfl (HO.out.alloc _) wr.heap.size 1 ((text[j]'hlt).toNat:Int) 0 0 rfl ⟨by simp,by simp,by simp⟩ (by rw[lits_length];omega) (by have:=HB.out.size;simp;omega) ?_;intro v' w' o' g' b';have HO2:=hid o';have HB2:=hid ((HB.out.alloc HB.out.size _).trans b');clear o' b' g');go_roundw
    case rel=>exact⟨j+1,by omega,by go_num,by rw[lits_succ];have:=HO2.out;rw[hbt.out] at this;exact this,HB2.out⟩
    case measure=>(simp[intOf];try omega)
  · have d1:decide ((j:Int)<(text.size:Int))=false:=decide_eq_false (by omega)
    have d1':decide (j<text.size)=false:=decide_eq_false hlt;have hjn:j=text.size:=by omega
    have HJ:=hid hjn;clear hjn;go_wp2_with fail;go_ret2;exact⟨_,rfl,by rw[←HJ.out];exact HO.out,HB.out⟩
end Q
end Go.Proofs.YtdpabanajgegjaaGreatDoor.V.Px
namespace Go.Proofs.YtdpabanajgegjaaGreatDoor.V.Px
open Go.Lib (hid)
namespace Q
open Go Go.RowKit M
theorem Owq.ty{B:Nat}{w:World}{v:Value}{L:List Tk}(h:Owq B w v L):∀g,v.ownBlock=some g→∃cs,w.heap[g]? =some (.cells cs 67 (0,0)):=by
 intro g hg;rcases h.2 with⟨rfl,_⟩|⟨g',cap,cur,rfl,_,hh,_⟩
 · simp[Value.ownBlock] at hg
 · simp[Value.ownBlock] at hg
   subst hg;exact⟨cur,hh⟩
theorem ty_ne{w:World}{g f:Nat}{cs cs':Array Value}{T T':TypeId}{z z':Nat×Nat}(h:w.heap[g]? =some (.cells cs T z))(h':w.heap[f]? =some (.cells cs' T' z'))(hne:T≠T'):g≠f:=fun e=>by
 subst e;rw[h] at h';injection h' with e1
 injection e1 with _ e2 _
 exact hne e2
structure S10(W wr:World)(F b Rr:Nat)(s:ByteArray)(r:Lv)(v:Value)(L:List Tk)(k:Nat):Prop where
 rf:Rf wr W.heap.size F b s k
 ow:Owq W.heap.size wr v L
 row:B3 wr 63 Rr (.int .i64 r.d) (.int .i64 r.n) (.int .i64 r.z)
 bl:Below W.heap.size W wr
 rF:Rr≠F
 rb:Rr≠b
section
variable {W wr w':World} {F b Rr k:Nat} {s:ByteArray} {r:Lv} {v v':Value} {L L':List Tk}
theorem S10.apart(h:S10 W wr F b Rr s r v L k):∀g,v.ownBlock=some g→g≠F∧g≠b∧g≠Rr:=fun g hg=>by
 obtain⟨cs,hc⟩:=h.ow.ty g hg;obtain⟨cur,hb,_⟩:=h.rf.row;exact⟨ty_ne hc h.rf.fd (by decide),ty_ne hc hb (by decide),ty_ne hc h.row (by decide)⟩
theorem S10.below(h:S10 W wr F b Rr s r v L k)(hb:Below wr.heap.size wr w'):S10 W w' F b Rr s r v L k:=
 ⟨h.rf.below hb,h.ow.at fun g hg=>hb.block g (h.ow.lt g hg).2,h.row.of_block (hb.block _ h.row.lt),h.bl.trans (hb.mono h.bl.size),h.rF,h.rb⟩
theorem S10.alloc(h:S10 W wr F b Rr s r v L k)(o:Obj):S10 W (wr.alloc o) F b Rr s r v L k:=h.below ((Below.refl _ _).alloc (Nat.le_refl _) o)
theorem S10.app(h:S10 W wr F b Rr s r v L k)(hg:wr.grownBy w' v.ownBlock)(ho:Owq W.heap.size w' v' L')(hb:Below W.heap.size wr w'):S10 W w' F b Rr s r v' L' k:=by
 have ha:=h.apart;have hF:v.ownBlock≠some F:=fun e=>(ha F e).1 rfl
 have hB:v.ownBlock≠some b:=fun e=>(ha b e).2.1 rfl
 have hR:v.ownBlock≠some Rr:=fun e=>(ha Rr e).2.2 rfl
 exact⟨h.rf.of_blocks (hg.block F h.rf.fd.lt fun e=>hF e.symm) (hg.block b (World.rowIs.lt h.rf.row) fun e=>hB e.symm),ho,h.row.of_block (hg.block Rr h.row.lt fun e=>hR e.symm),h.bl.trans hb,h.rF,h.rb⟩
theorem S10.look{t:Nat}(h:S10 W wr F b Rr s r v L k)(hr:Rf w' W.heap.size F b s t)(hk:Kept (FdS F b) wr w'):S10 W w' F b Rr s r v L t:=
 ⟨hr,h.ow.at fun g hg=>hk.block g (h.ow.lt g hg).2 (fun q=>by have:=h.apart g hg;rcases q with q|q;exact this.1 q;exact this.2.1 q),h.row.of_block (hk.block _ h.row.lt (fun q=>by rcases q with q|q;exact h.rF q;exact h.rb q)),h.bl.trans (hk.below h.bl.size (fun j hj=>by rcases hj with hj|hj;rw[hj];exact h.rf.hF;rw[hj];exact h.rf.hb)),h.rF,h.rb⟩
theorem S10.mb{Mb:Nat}{x y:Value}(h:S10 W wr F b Rr s r v L k)(hM:B2 wr 71 Mb x y):Mb≠F∧Mb≠b∧Mb≠Rr∧v.ownBlock≠some Mb:=by
 obtain⟨cur,hb,_⟩:=h.rf.row;refine⟨ty_ne hM h.rf.fd (by decide),ty_ne hM hb (by decide),ty_ne hM h.row (by decide),fun e=> ?_⟩;obtain⟨cs,hc⟩:=h.ow.ty Mb e;exact ty_ne hc hM (by decide) rfl
theorem S10.set{Mb:Nat}{x y u z:Value}(h:S10 W wr F b Rr s r v L k)(hM:B2 wr 71 Mb x y)(hW:W.heap.size≤Mb):S10 W ((wr.setCell ⟨Mb,0,none⟩ u).setCell ⟨Mb,1,none⟩ z) F b Rr s r v L k:=by
 obtain⟨h1,h2,h3,h4⟩:=h.mb hM;have e:∀g,g≠Mb→((wr.setCell ⟨Mb,0,none⟩ u).setCell ⟨Mb,1,none⟩ z).heap[g]? =wr.heap[g]? :=fun g hg=>(Below.heap_setCell _ _ _ _ hg).trans (Below.heap_setCell _ _ _ _ hg)
 exact⟨h.rf.of_blocks (e F h1.symm) (e b h2.symm),h.ow.at fun g hg=>e g (fun q=>h4 (by rw[hg,q])),h.row.of_block (e Rr h3.symm),(h.bl.setCell (p:=⟨Mb,0,none⟩) hW _).setCell (p:=⟨Mb,1,none⟩) hW _,h.rF,h.rb⟩
theorem B2.apart{Mb:Nat}{x y:Value}(h:S10 W wr F b Rr s r v L k)(hM:B2 wr 71 Mb x y)(hg:wr.grownBy w' v.ownBlock):B2 w' 71 Mb x y:=
 hM.of_block (hg.block Mb hM.lt fun e=>(h.mb hM).2.2.2 e.symm)
theorem B2.keptFd{Mb:Nat}{x y:Value}(h:S10 W wr F b Rr s r v L k)(hM:B2 wr 71 Mb x y)(hk:Kept (FdS F b) wr w'):B2 w' 71 Mb x y:=
 hM.of_block (hk.block Mb hM.lt fun q=>by rcases q with q|q;exact(h.mb hM).1 q;exact(h.mb hM).2.1 q)
end
theorem lv_le(i:Nat)(hi:i≤9):(lv i).d≤1000000∧(lv i).n≤258∧(lv i).z≤258:=by
 have h9:i=0∨i=1∨i=2∨i=3∨i=4∨i=5∨i=6∨i=7∨i=8∨i=9:=by omega
 rcases h9 with rfl|rfl|rfl|rfl|rfl|rfl|rfl|rfl|rfl|rfl<;>decide
set_option maxRecDepth 1000000 in
set_option maxHeartbeats 2000000 in
theorem rtokens_any(dict text:ByteArray)(i:Nat)(W:World)(hi:1≤i∧i≤9)(hd:dict.size≤32768)(ht:text.size≤1000000):
 Calls Tryz.prog 18 #[.string dict,.string text,.int .i64 i] W (TkP W (G (dict++text) (lv i) dict.size (0,0))):=by
 have HL:=hid (fun w=>rlevel_any i w hi.2);obtain⟨hl1,hl2,hl3⟩:=lv_le i hi.2;obtain⟨r,hr⟩:∃r,lv i=r:=⟨_,rfl⟩
 rw[hr] at HL hl1 hl2 hl3 ⊢;have hsz:(dict++text).size=dict.size+text.size:=ByteArray.size_append;have s1:dict.size+text.size≤9223372036854775807:=by omega
 have dT:decide (1048576<(text.size:Int))=false:=decide_eq_false (by omega);have dT':decide (1048576<text.size)=false:=decide_eq_false (by omega);have dD:decide (32768<(dict.size:Int))=false:=decide_eq_false (by omega);have dD':decide (32768<dict.size)=false:=decide_eq_false (by omega);have di:((i:Int)==0)=false:=by rw[beq_eq_false_iff_ne];omega
 have di2:(i==0)=false:=by rw[beq_eq_false_iff_ne];omega
 have di3:¬i=0:=by omega
 obtain⟨s,hs⟩:∃s,dict++text=s:=⟨_,rfl⟩
 obtain⟨q,hq⟩:∃q,dict.size=q:=⟨_,rfl⟩
 have hq1:(dict.size:Int)=(q:Int):=by rw[hq]
 rw[hs] at hsz ⊢;rw[hq];have hs2:s.size≤2000000:=by omega
 have hqs:q≤s.size:=by omega
 obtain⟨T,hT⟩:∃T,G s r q (0,0)=T:=⟨_,rfl⟩
 rw[hT];have HTL:=hid (show T.length≤2000000 from by rw[←hT];have:=G_len s r q (0,0) (fun q=>absurd rfl q);omega);have HT:=hid hT;have HQ:=hid hq;have HSZ:=hid hsz;clear hT hr hq hsz;go_enter Tryz.func18,Tryz.ntmps18
 go_wp2_with (first
  |(go_at_call 35;(with_reducible refine(HL.out _).mono ?_);rintro e w1 ⟨rfl,b1⟩;have B1:=hid b1;clear b1)
  |(go_at_call 36;(with_reducible refine(rnew_any s _ hs2).mono ?_);rintro e w3 ⟨rfl,r3,b3⟩;have R3:=hid r3;have B3':=hid b3;clear r3 b3))
 have HS0:=hid (show S10 W w3 (w1.heap.size+1+1) (w1.heap.size+1) w1.heap.size s r (.slice none 0 0) [] 0 from by
  have h1:=R3.out;have h2:=B3'.out;rw[World.size_alloc] at h1 h2;have hb3:Below W.heap.size W w3:=(B1.out.alloc B1.out.size _).trans (h2.mono (by have:=B1.out.size;omega));exact⟨h1.base (by have:=B1.out.size;omega),Owq.nil _ _,(h2.block w1.heap.size (by omega)).trans (new_at _ _),hb3,by omega,by omega⟩)
 clear R3 B3' dT dT' dD dD' di di2 di3 s1 HL
 go_loopw [10,14] (fun v x wr=> ∃ (k k':Nat) (L:List Tk),k≤s.size∧x=.int .i64 k∧k'≤k∧S10 W wr (w1.heap.size+1+1) (w1.heap.size+1) w1.heap.size s r v L k'∧L++G s r k (0,0)=T) (fun _ x _=>s.size - (intOf x).toNat)
 case atStart=>exact⟨q,0,[],hqs,rfl,Nat.zero_le _,HS0.out,HT.out⟩
 case round=>
  obtain⟨k,k',L,hk,rfl,hk',hS,hTt⟩:=hrel;have hLl:L.length≤2000000:=by have:=HTL.out;rw[←hTt,List.length_append] at this;omega
  by_cases hlt:k<s.size
  · have d1:decide ((k:Int)<(s.size:Int))=true:=decide_eq_true (by omega)
    have d1':decide (k<s.size)=true:=decide_eq_true hlt;have a0:=hS.row.at0;have a1:=hS.row.at1;have a2:=hS.row.at2;have hlk:=look_any hS.rf r k 2 hk' hk hl1;obtain⟨X,Y,hXY⟩:∃X Y,mt s r k 2=(X,Y):=⟨_,_,rfl⟩
    rw[hXY] at hlk;have HLk:=hid hlk;have HS:=hid hS;have HTt:=hid hTt;have HXY:=hid hXY;have hbt:=hid (byt_eq hlt);clear hlk hS hTt hXY;by_cases hX:X=0
    · have e0:((X:Int)==0)=true:=by rw[beq_iff_eq];omega
      have e0':(X==0)=true:=by rw[beq_iff_eq];exact hX
      have hG:=G_lit (s:=s) (r:=r) (k:=k) (m:=(0,0)) hlt rfl (by rw[HXY.out];exact hX);have HG:=hid (show(L++[lit s k])++G s r (k+1) (0,0)=T from by rw[List.append_assoc];have:=HTt.out;rw[hG] at this;exact this);clear hG hX
      go_wp2_with (first
       |(go_at_call 37;(with_reducible refine HLk.out.mono ?_);rintro e w4 ⟨rfl,r4,k4⟩;have HS4:=hid (HS.out.look r4 k4);clear r4 k4)
       |(at_builtin;refine wpList_tq rfl (.tmp 69) (.tmp 74) rfl W.heap.size _ L rfl ((HS4.out.alloc (.cells #[.int .i64 X,.int .i64 Y] 71)).ow.alloc _) (w4.heap.size+1) 1 ((s[k]'hlt).toNat:Int) 0 0 rfl ⟨by simp,by simp,by simp⟩ (by omega) (by have:=HS4.out.bl.size;simp;omega) ?_;intro v' w' o' g' b';have HS5:=hid (((HS4.out.alloc (.cells #[.int .i64 X,.int .i64 Y] 71)).alloc _).app g' o' b');clear o' g' b'))
      go_roundw
      case rel=>exact⟨k+1,k,L++[lit s k],by omega,by go_num,by omega,by have:=HS5.out;rw[hbt.out] at this;exact this,HG.out⟩
      case measure=>(simp[intOf];try omega)
    · have hMt:=(mt_is (s:=s) (r:=r) (k:=k) (over:=2) (by rw[HXY.out];exact hX)).1
      rw[HXY.out] at hMt;have hG:=G_look (s:=s) (r:=r) (k:=k) (m:=(0,0)) hlt rfl (by rw[HXY.out];exact hX);rw[HXY.out] at hG;have HG0:=hid (show L++G s r k (X,Y)=T from by rw[←hG];exact HTt.out);have HMt0:=hid hMt;have e0:((X:Int)==0)=false:=by rw[beq_eq_false_iff_ne];omega
      have e0':(X==0)=false:=by rw[beq_eq_false_iff_ne];exact hX
      clear hG hMt hX;go_wp2_with (go_at_call 37;(with_reducible refine HLk.out.mono ?_);rintro e w4 ⟨rfl,r4,k4⟩;have HS4:=hid ((HS.out.look r4 k4).alloc (.cells #[.int .i64 X,.int .i64 Y] 71));have HB4:=hid (show B2 (w4.alloc (.cells #[.int .i64 X,.int .i64 Y] 71)) 71 w4.heap.size (.int .i64 X) (.int .i64 Y) from new_at _ _);have HWM:=hid (show W.heap.size≤w4.heap.size from(HS.out.look r4 k4).bl.size);obtain⟨Mb,hMb⟩:∃Mb,w4.heap.size=Mb:=⟨_,rfl⟩;clear r4 k4);clear a0 a1 a2
      go_loopw [10,14] (fun v x wr=> ∃ (k2 k3 m1 m2:Nat) (L2:List Tk),k2<s.size∧x=.int .i64 k2∧k3≤k2+1∧S10 W wr (w1.heap.size+1+1) (w1.heap.size+1) w1.heap.size s r v L2 k3∧B2 wr 71 Mb (.int .i64 m1) (.int .i64 m2)∧Mt s k2 (m1,m2)∧k≤k2∧L2++G s r k2 (m1,m2)=T) (fun _ x _=>s.size - (intOf x).toNat)
      case atStart=>exact⟨k,k,X,Y,L,hlt,rfl,by omega,HS4.out,by have:=HB4.out;rw[hMb] at this;exact this,HMt0.out,Nat.le_refl _,HG0.out⟩
      case round=>
       obtain⟨k2,k3,m1,m2,L2,hk2,rfl,hk3,hSi,hMi,hMt,hkk,hTi⟩:=hrel;have hW4:=HWM.out;rw[hMb] at hW4;have hL2:L2.length≤2000000:=by have:=HTL.out;rw[←hTi,List.length_append] at this;omega
       have hm3:3≤m1:=hMt.len.1;have hm258:m1≤258:=hMt.len.2;have hmf:k2+m1≤s.size:=hMt.fits;have a0:=hSi.row.at0;have a1:=hSi.row.at1;have a2:=hSi.row.at2;have c0:=hMi.at0;have c1:=hMi.at1;have cf0:=hMi.free 0;have cf1:=hMi.free 1;have HSi:=hid hSi;have HM:=hid hMi;have HTi:=hid hTi;have hk2b:k2≤2000000:=by omega
       obtain⟨kn,hkn⟩:∃kn,k2+1=kn:=⟨_,rfl⟩
       have ekn:(k2:Int)+1=(kn:Int):=by omega
       have hm0:(m1,m2).1≠0:=by simp only;omega
       by_cases hz:m1<r.z
       · have z1:decide ((m1:Int)<(r.z:Int))=true:=decide_eq_true (by omega)
         have z1':decide (m1<r.z)=true:=decide_eq_true hz;by_cases h1:kn<s.size
         · have z2:decide ((kn:Int)<(s.size:Int))=true:=decide_eq_true (by omega)
           have z2':decide (kn<s.size)=true:=decide_eq_true h1;have hlk2:=look_any hSi.rf r kn (m1:Int) (by omega) (by omega) hl1;obtain⟨X2,Y2,hXY2⟩:∃X Y,mt s r kn (m1:Int)=(X,Y):=⟨_,_,rfl⟩
           rw[hXY2] at hlk2;have HLk2:=hid hlk2;have HXY2:=hid hXY2;have hcond:(m1,m2).1<r.z∧k2+1<s.size:=⟨hz,by omega⟩;by_cases hX2:X2=0
           · have q0:((X2:Int)==0)=true:=by rw[beq_iff_eq];omega
             have q0':(X2==0)=true:=by rw[beq_iff_eq];exact hX2
             have hG2:=G_stay (s:=s) (r:=r) (k:=k2) (m:=(m1,m2)) hk2 hm0 hcond (by rw[hkn];show(mt s r kn (m1:Int)).1=0;rw[hXY2];exact hX2);have HG:=hid (show(L2++[mtk (m1,m2)])++G s r (k2+m1) (0,0)=T from by rw[List.append_assoc];have:=HTi.out;rw[hG2] at this;exact this);have HBd:=hid (And.intro hk2 (And.intro hmf (And.intro hk3 hkn)));clear hG2 hX2 hcond hlk2 hXY2 hSi hMi hTi hMt hm0 hz h1 hk2 hmf hkn
             go_wp2_with (first
              |(go_at_call 37;(with_reducible refine HLk2.out.mono ?_);rintro e w5 ⟨rfl,r5,k5⟩;have hB5:=B2.keptFd HSi.out HM.out k5;have HS5:=hid (HSi.out.look r5 k5);have n0:=hB5.at0;have n1:=hB5.at1;have na0:∀o:Obj,(w5.alloc o).cell? ⟨Mb,0,none⟩=some (.int .i64 m1):=fun o=>B2.at0 (hB5.of_block (Below.heap_alloc _ o _ hB5.lt));have na1:∀o:Obj,(w5.alloc o).cell? ⟨Mb,1,none⟩=some (.int .i64 m2):=fun o=>B2.at1 (hB5.of_block (Below.heap_alloc _ o _ hB5.lt));have HB5:=hid hB5;clear r5 k5 hB5)
              |(at_builtin;refine wpList_tq rfl (.tmp 110) (.tmp 116) rfl W.heap.size _ L2 rfl ((HS5.out.alloc (.cells #[.int .i64 X2,.int .i64 Y2] 71)).ow.alloc _) (w5.heap.size+1) 1 0 (m1:Int) (m2:Int) rfl ⟨by simp,by simp,by simp⟩ (by omega) (by have:=(HS5.out.alloc (.cells #[.int .i64 X2,.int .i64 Y2] 71)).bl.size;simp at this ⊢;omega) ?_;intro v' w' o' g' b';have hs5:=(HS5.out.alloc (.cells #[.int .i64 X2,.int .i64 Y2] 71)).alloc (.cells #[.int .u8 0,.int .i64 (m1:Int),.int .i64 (m2:Int)] 67);have hm6:=B2.apart hs5 (Mb:=Mb) (x:=.int .i64 m1) (y:=.int .i64 m2) (old_at _ (old_at _ HB5.out)) g';have t0:=hm6.at0;clear hm6;have HS6:=hid (((HS5.out.alloc (.cells #[.int .i64 X2,.int .i64 Y2] 71)).alloc _).app g' o' b');clear o' g' b' hs5 na0 na1))
             go_roundw
             case rel=>exact⟨k2+m1,kn,L2++[mtk (m1,m2)],HBd.out.2.1,by go_num,by have:=HBd.out;omega,HS6.out,HG.out⟩
             case measure=>(have hbd:=HBd.out;have hbd1:=hbd.1;have hbd2:=hbd.2.1;clear hbd;simp[intOf];try omega)
           · have q0:((X2:Int)==0)=false:=by rw[beq_eq_false_iff_ne];omega
             have q0':(X2==0)=false:=by rw[beq_eq_false_iff_ne];exact hX2
             have hbt2:=hid (byt_eq hk2);have hG2:=G_lazy (s:=s) (r:=r) (k:=k2) (m:=(m1,m2)) hk2 hm0 hcond (by rw[hkn];show(mt s r kn (m1:Int)).1≠0;rw[hXY2];exact hX2);rw[hkn] at hG2;have hG3:G s r k2 (m1,m2)=lit s k2::G s r kn (X2,Y2):=by rw[hG2];show _::G s r kn (mt s r kn (m1:Int))=_;rw[hXY2]
             have HG:=hid (show(L2++[lit s k2])++G s r kn (X2,Y2)=T from by rw[List.append_assoc];have:=HTi.out;rw[hG3] at this;exact this)
             have HMt2:=hid (show Mt s kn (X2,Y2) from by
              have:=(mt_is (s:=s) (r:=r) (k:=kn) (over:=(m1:Int)) (by rw[hXY2];exact hX2)).1;rw[hXY2] at this;exact this)
             clear hG2 hG3 hX2 hcond hlk2 hXY2 hSi hMi hTi hMt hm0 hz
             go_wp2_with (first
              |(go_at_call 37;(with_reducible refine HLk2.out.mono ?_);rintro e w5 ⟨rfl,r5,k5⟩;have hB5:=B2.keptFd HSi.out HM.out k5;have HS5:=hid (HSi.out.look r5 k5);have n0:=hB5.at0;have n1:=hB5.at1;have na0:∀o:Obj,(w5.alloc o).cell? ⟨Mb,0,none⟩=some (.int .i64 m1):=fun o=>B2.at0 (hB5.of_block (Below.heap_alloc _ o _ hB5.lt));have na1:∀o:Obj,(w5.alloc o).cell? ⟨Mb,1,none⟩=some (.int .i64 m2):=fun o=>B2.at1 (hB5.of_block (Below.heap_alloc _ o _ hB5.lt));have HB5:=hid hB5;clear r5 k5 hB5)
              |(at_builtin;refine wpList_tq rfl (.tmp 100) (.tmp 105) rfl W.heap.size _ L2 rfl ((HS5.out.alloc (.cells #[.int .i64 X2,.int .i64 Y2] 71)).ow.alloc _) (w5.heap.size+1) 1 ((s[k2]'hk2).toNat:Int) 0 0 rfl ⟨by simp,by simp,by simp⟩ (by omega) (by have:=HS5.out.bl.size;simp;omega) ?_;intro v' w' o' g' b';have hs6:=((HS5.out.alloc (.cells #[.int .i64 X2,.int .i64 Y2] 71)).alloc (.cells #[.int .u8 ((s[k2]'hk2).toNat:Int),.int .i64 0,.int .i64 0] 67));have hn6:=B2.apart hs6 (Mb:=w5.heap.size) (x:=.int .i64 X2) (y:=.int .i64 Y2) (old_at _ (new_at w5 _)) g';have hm6:=B2.apart hs6 (Mb:=Mb) (x:=.int .i64 m1) (y:=.int .i64 m2) (old_at _ (old_at _ HB5.out)) g';have u0:=hn6.at0;have u1:=hn6.at1;have t0:=hm6.at0;have t1:=hm6.at1;have tf0:=hm6.free 0;have tf1:=hm6.free 1;have HM6:=hid hm6;have HS6:=hid (hs6.app g' o' b');clear o' g' b' hs6 hn6 hm6 na0 na1))
             go_roundw
             case rel=>exact⟨kn,kn,X2,Y2,L2++[lit s k2],h1,rfl,by omega,by have:=HS6.out;rw[hbt2.out] at this;exact this.set HM6.out hW4,HM6.out.set _ _,HMt2.out,by omega,HG.out⟩
             case measure=>(simp[intOf];try omega)
         · have z2:decide ((kn:Int)<(s.size:Int))=false:=decide_eq_false (by omega)
           have z2':decide (kn<s.size)=false:=decide_eq_false h1;have hG2:=G_take (s:=s) (r:=r) (k:=k2) (m:=(m1,m2)) hk2 hm0 (fun q=>h1 (by have:=q.2;omega));have HG:=hid (show(L2++[mtk (m1,m2)])++G s r (k2+m1) (0,0)=T from by rw[List.append_assoc];have:=HTi.out;rw[hG2] at this;exact this);have HBd:=hid (And.intro hk2 (And.intro hmf (And.intro hk3 hkn)));clear hG2 hSi hMi hTi hMt hm0 hz h1 hk2 hmf hkn;go_wp2_with (at_builtin;refine wpList_tq rfl (.tmp 110) (.tmp 116) rfl W.heap.size _ L2 rfl (HSi.out.ow.alloc _) wr.heap.size 1 0 (m1:Int) (m2:Int) rfl ⟨by simp,by simp,by simp⟩ (by omega) (by have:=HSi.out.bl.size;simp at this ⊢;omega) ?_;intro v' w' o' g' b';have hs5:=HSi.out.alloc (.cells #[.int .u8 0,.int .i64 (m1:Int),.int .i64 (m2:Int)] 67);have hm6:=B2.apart hs5 (Mb:=Mb) (x:=.int .i64 m1) (y:=.int .i64 m2) (old_at _ HM.out) g';have t0:=hm6.at0;clear hm6;have HS6:=hid (hs5.app g' o' b');clear o' g' b' hs5);go_roundw
           case rel=>exact⟨k2+m1,k3,L2++[mtk (m1,m2)],HBd.out.2.1,by go_num,by have:=HBd.out;omega,HS6.out,HG.out⟩
           case measure=>(have hbd:=HBd.out;have hbd1:=hbd.1;have hbd2:=hbd.2.1;clear hbd;simp[intOf];try omega)
       · have z1:decide ((m1:Int)<(r.z:Int))=false:=decide_eq_false (by omega)
         have z1':decide (m1<r.z)=false:=decide_eq_false hz;have hG2:=G_take (s:=s) (r:=r) (k:=k2) (m:=(m1,m2)) hk2 hm0 (fun q=>hz q.1);have HG:=hid (show(L2++[mtk (m1,m2)])++G s r (k2+m1) (0,0)=T from by rw[List.append_assoc];have:=HTi.out;rw[hG2] at this;exact this);have HBd:=hid (And.intro hk2 (And.intro hmf (And.intro hk3 hkn)));clear hG2 hSi hMi hTi hMt hm0 hz hk2 hmf hkn;go_wp2_with (at_builtin;refine wpList_tq rfl (.tmp 110) (.tmp 116) rfl W.heap.size _ L2 rfl (HSi.out.ow.alloc _) wr.heap.size 1 0 (m1:Int) (m2:Int) rfl ⟨by simp,by simp,by simp⟩ (by omega) (by have:=HSi.out.bl.size;simp at this ⊢;omega) ?_;intro v' w' o' g' b';have hs5:=HSi.out.alloc (.cells #[.int .u8 0,.int .i64 (m1:Int),.int .i64 (m2:Int)] 67);have hm6:=B2.apart hs5 (Mb:=Mb) (x:=.int .i64 m1) (y:=.int .i64 m2) (old_at _ HM.out) g';have t0:=hm6.at0;clear hm6;have HS6:=hid (hs5.app g' o' b');clear o' g' b' hs5);go_roundw
         case rel=>exact⟨k2+m1,k3,L2++[mtk (m1,m2)],HBd.out.2.1,by go_num,by have:=HBd.out;omega,HS6.out,HG.out⟩
         case measure=>(have hbd:=HBd.out;have hbd1:=hbd.1;have hbd2:=hbd.2.1;clear hbd;simp[intOf];try omega)
  · have d1:decide ((k:Int)<(s.size:Int))=false:=decide_eq_false (by omega)
    have d1':decide (k<s.size)=false:=decide_eq_false hlt;rw[G_end (by omega),List.append_nil] at hTt;have HS:=hid hS;have HTt:=hid hTt;clear hS hTt;go_wp2_with fail;go_ret2;exact⟨_,rfl,by rw[←HTt.out];exact HS.out.ow,HS.out.bl⟩
end Q
end Go.Proofs.YtdpabanajgegjaaGreatDoor.V.Px
