/- Texts of one place, one behind the other: BpC, BpD. -/
import Derived.Test.YtacelhaidcmbcaaGreatDoorTBpB
import Derived.Test.YtacelhaidcmbcaaGreatDoorTMSaC
import Derived.Test.YtacelhaidcmbcaaGreatDoorTMBwG
import Derived.Deep.MidRow
set_option maxHeartbeats 8000000
set_option maxRecDepth 1000000
set_option linter.unusedVariables false
set_option linter.unusedSimpArgs false
namespace Go.Proofs.YtacelhaidcmbcaaGreatDoor.V
open Go.Lib (hid)
open Go Go.RowKit M U
attribute [local go_sem] Oper.semAt_some
structure Kq(R X n₁:Nat)(W W':World):Prop where
 k:Kept (Sx R X n₁) W W'
 t:∀ (i:Nat) (x y z:Int) (fz:Nat×Nat),W.heap[i]? =some (.cells #[.int .u8 x,.int .i64 y,.int .i64 z] 64 fz)→W'.heap[i]? =some (.cells #[.int .u8 x,.int .i64 y,.int .i64 z] 64 fz)
section
variable {R X n₁:Nat} {A B C W W':World}
theorem Kq.refl(W:World):Kq R X n₁ W W:=⟨Kept.refl _ _,fun _ _ _ _ _ h=>h⟩
theorem Kq.trans(h:Kq R X n₁ A B)(k:Kq R X n₁ B C):Kq R X n₁ A C:=⟨keptSx_t h.k k.k,fun i x y z fz e=>k.t i x y z fz (h.t i x y z fz e)⟩
theorem Kq.of_below(hb:Below W.heap.size W W'):Kq R X n₁ W W':=⟨(Kept.of_below hb).none _,fun i x y z fz e=>(hb.block i (qW.1 e).1).trans e⟩
theorem Kq.book(W:World)(l:Nat)(o o':Obj)(hl:n₁≤l)(h:W.heap[l]? =some o)(hc:o.isCells=false):Kq R X n₁ W (W.putObj l o'):=by
 refine⟨keptSx_b W l o o' hl h,fun i x y z fz e=> ?_⟩;rw[World.putObj_heap_other (fun q=> ?_)]
 · exact e
 · subst q
   rw[e] at h;cases h
   cases hc
end
theorem z7q{S:Nat→Prop}{w w':World}(h:Y.Tab w)(hk:Kept S w w')(h1:¬S 2)(h2:¬S 3):Y.Tab w':=
 ⟨hk.cell h.l0 h1,hk.cell h.l1 h1,hk.cell h.l2 h1,hk.cell h.l3 h1,hk.cell h.l4 h1,hk.cell h.d0 h2,hk.cell h.d1 h2,hk.cell h.d2 h2,hk.cell h.d3 h2,hk.cell h.d4 h2⟩
theorem ziP{L:List Tk}(hm:∀t∈L,may t=true):∀y∈sys L,y.e<2^y.b:=by
 intro y hy;unfold sys at hy;rw[List.mem_append,List.mem_flatMap] at hy;rcases hy with⟨t,ht,hy⟩|hy
 · have h1:=hm t ht
   unfold sy1 at hy
   split at hy
   · simp only[List.mem_singleton] at hy
     subst hy;simp
   · rename_i h0
     have hM:isM t=true:=by
      unfold may at h1;rw[Bool.or_eq_true] at h1;rcases h1 with q|q
      · exact absurd (z0v.1 q).1 h0
      · exact q
     have hM2:=z0G.1 hM;obtain⟨i1,i2,i3⟩:=z5Z (n:=t.n.toNat) (by omega);obtain⟨j1,j2,j3⟩:=z3i (n:=t.d.toNat) (by omega);have k1:=zj3 i1;simp only[List.mem_cons,List.not_mem_nil,or_false] at hy;rcases hy with rfl|rfl
     · show t.n.toNat - ll (lsy t.n.toNat)<2^lb (lsy t.n.toNat);omega
     · show t.d.toNat - dl (dsy t.d.toNat)<ds (dsy t.d.toNat);omega
 · simp only[List.mem_singleton] at hy
   subst hy;simp
def Oky(y:Sy):Prop:=((y.d=false→y.n<286)∧(y.d=true→y.n<30))∧y.b≤13∧y.e≤32768∧y.e<2^y.b
abbrev Oy:={y:Sy//Oky y}
def zgJ(y:Sy):Array Value:= #[sgv y]
theorem zbF(a:Nat):zgJ ⟨false,a,0,0⟩= #[.agg #[.bool false,.int .i64 a,.int .u32 0,.int .u8 0]]:=rfl
theorem ze0:zgJ ⟨false,256,0,0⟩= #[.agg #[.bool false,.int .i64 256,.int .u32 0,.int .u8 0]]:=rfl
theorem z3O{W W':World}(hb:Below W.heap.size W W')(row:Option Nat):W.grownBy W' row:=⟨hb.os,hb.tape,hb.output,hb.size,fun k hk _=>hb.block k hk⟩
theorem zb3{t:Tk}(ht:t.ok)(hm:may t=true):(t.n=0∧∃a:Nat,t.l=a∧a≤255)∨(∃a b:Nat,t.n=a∧t.d=b∧3≤a∧a≤258∧1≤b∧b≤32768):=by
 unfold may at hm;rw[Bool.or_eq_true] at hm;rcases hm with q|q
 · have:=z0v.1 q
   have:=ht.l;exact .inl ⟨by omega,t.l.toNat,by omega,by omega⟩
 · have:=z0G.1 q
   exact .inr ⟨t.n.toNat,t.d.toNat,by omega,by omega,by omega,by omega,by omega,by omega⟩
theorem z6w(m l Bs R X n₁ n c:Nat)(A:Option Addr)(L:List Tk)(hm:1≤m)(hn:n≤100000)(hB1:Bs<n₁)(hB2:Bs≠R)(hB3:Bs≠X)
 (hG:∀g,g= 2 ∨g= 3 →g<n₁∧g≠R∧g≠X) (W0:World) (hn1:n₁≤W0.heap.size) (J Jx:List Sy→World→Prop) (hJ:AbidesFrom W0.heap.size J)
 (hY:∀pre x W,Oky x→J pre W→pre.length<(sys L).length→YieldAt Fence.wide (m - 1) Tryz.prog l (zgJ x) W fun e W'=>
  (e=.returned (.bool true)∧J (pre++[x]) W'∧Kq R X n₁ W W')∨(e=.returned (.bool false)∧Jx (pre++[x]) W'))
 (hBs:W0.cell? ⟨Bs,0,none⟩=some (.slice A n c)) (hl:L.length=n) (hok:∀t∈L,t.ok) (hmay:∀t∈L,may t=true)
 (hc:0<n→∃b o,A=some ⟨b,o,none⟩∧b<n₁∧b≠R∧b≠X∧∀i,i<n→(L.getD i default).lies W0 b o i) (hT:Y.Tab W0) (h0:J [] W0):
 CallsIn Fence.wide m Tryz.prog 137 #[.func (.yield l) #[] #[],.pointer (some ⟨Bs,0,none⟩)] W0 fun e W'=>(∃v,e=.returned v)∧
  ((∃ys:List Sy,ys=sys L∧J ys W')∨(∃pre:List Sy,(∃r,pre++r=sys L)∧Jx pre W')):=by
 refine callsIn_of_wp Tryz.func137 rfl trivial ?_ rfl;simp only[Tryz.ntmps137,List.size_toArray,qC,List.length_nil,Nat.reduceAdd,Nat.reduceSub,Array.replicate_succ,Array.replicate_zero,List.push_toArray,List.append_toArray,List.nil_append,List.cons_append]
 have HPr:=hid (show ∀k,∃r,(L.take k).flatMap sy1++r=sys L from fun k=>⟨(L.drop k).flatMap sy1++[⟨false,256,0,0⟩],by
  rw[←qD,←List.flatMap_append,List.take_append_drop];rfl⟩)
 have HT:=hid hT;have HG:=hid hG;have HLen:=hid (fun(l d:Int) (n:Nat) (w:World) (H:Y.Tab w) (hn:3≤n∧n≤258)=>z5Y l d n w H hn);have HDist:=hid (fun(l d:Int) (n:Nat) (w:World) (H:Y.Tab w) (hn:1≤n∧n≤32768)=>z9k l d n w H hn);have HOk:=hid hok;have HMay:=hid hmay;have HLn:=hid hl;have HIn:=hid (fun(y:Sy) (hy:y∈sys L)=>(show Oky y from⟨z7r hmay hok y hy,(z8O hmay y hy).1,(z8O hmay y hy).2,ziP hmay y hy⟩));have HJ:=hid (fun pre W W' (h:J pre W) (hb:Below W.heap.size W W')=>hJ pre W W' none h (z3O hb none) (fun r e=>by cases e));have HY:=hid hY;have HCs:=hid hc;clear hT hG hok hmay hl hJ hY hc;gi_wp2
 gi_loopw [7] (fun i wr=> ∃ (k:Nat) (pre:List Sy),k≤n∧i=.int .i64 k∧pre=(L.take k).flatMap sy1∧J pre wr∧Kq R X n₁ W0 wr)
  (fun i _=>n - (intOf i).toNat)
 case atStart=>exact⟨0,[],qZ,rfl,rfl,h0,Kq.refl _⟩
 case round=>
  obtain⟨k,pre,hk,rfl,hp,hJs,hkp⟩:=hrel;by_cases hlt:k<n
  · have d1:decide ((k:Int)<(n:Int))=true:=q9T (by omega)
    have d1':decide (k<n)=true:=q9T hlt;obtain⟨b,o,rfl,hb1,hb2,hb3,hcs⟩:=HCs.out (by omega);obtain⟨c0,c1,c2⟩:=hcs k hlt;have e0:=hkp.k.cell c0 (sx_no hb1 hb2 hb3);have e1:=hkp.k.cell c1 (sx_no hb1 hb2 hb3);have e2:=hkp.k.cell c2 (sx_no hb1 hb2 hb3);have hkL:k<L.length:=by rw[HLn.out];exact hlt
    have hmem:L.getD k default∈L:=by
     rw[List.getD,qE hkL];exact List.getElem_mem _
    have hcase:=zb3 (HOk.out _ hmem) (HMay.out _ hmem);have hsucc:=z8a L k hkL;have hin:∀y∈sy1 (L.getD k default),Oky y:=fun y hy=>HIn.out y (List.mem_append_left _ (List.mem_flatMap.2 ⟨_,hmem,hy⟩))
    obtain⟨t,ht⟩:∃t,L.getD k default=t:=⟨_,rfl⟩
    rw[ht] at e0 e1 e2 hcase hsucc hin;rw[←hp] at hsucc
    have hlen:pre.length+(sy1 t).length+1≤(sys L).length:=by
     have h1:((L.take (k+1)).flatMap sy1).length≤(L.flatMap sy1).length:=by
      conv=>rhs;rw[←List.take_append_drop (k+1) L,List.flatMap_append,qA]
      omega
     rw[hsucc,qA] at h1;unfold sys;rw[qA,List.length_singleton];omega
    obtain⟨tl,tn,td⟩:=t;simp only at e0 e1 e2 hcase;have hk2:k<9223372036854775807:=by omega
    have hba:Below wr.heap.size wr (wr.alloc (.cells #[.int .u8 tl,.int .i64 tn,.int .i64 td] 64)):=qL;have hJa:=HJ.out pre wr _ hJs hba;have hka:Kq R X n₁ W0 (wr.alloc (.cells #[.int .u8 tl,.int .i64 tn,.int .i64 td] 64)):=hkp.trans (Kq.of_below hba);have hnew:=heap_alloc_new wr (.cells #[.int .u8 tl,.int .i64 tn,.int .i64 td] 64);have HK:=hid hka;have HS:=hid hsucc;have HLe:=hid hlen;rcases hcase with⟨rfl,a,rfl,ha⟩|⟨a,d,rfl,rfl,ha1,ha2,hd1,hd2⟩
    · have hsy:sy1 ⟨(a:Int),0,td⟩=[⟨false,a,0,0⟩]:=by
       show[(⟨false,(a:Int).toNat,0,0⟩:Sy)]=_
       rw[Int.toNat_natCast]
      rw[hsy] at hsucc hlen hin;have HS:=hid hsucc;have hlen2:pre.length<(sys L).length:=by simp at hlen;omega
      obtain⟨fn,tmps,assign,body,hy,hR⟩:=HY.out pre ⟨false,a,0,0⟩ _ (hin _ (by simp)) hJa hlen2;rw[zbF] at hy;clear hin hp hJs hkp hba hJa hka hsucc hlen hlen2 c0 c1 c2 hcs HCs ht hmem hkL hsy hnew h0;gi_wp2;refine hR.mono ?_
      rintro e W3 (⟨rfl,hJ3,hk3⟩|⟨rfl,hJx3⟩)
      · gi_wp2
        go_roundw
        case rel=>exact⟨k+1,pre++[⟨false,a,0,0⟩],by omega,by go_num,HS.out.symm,hJ3,HK.out.trans hk3⟩
        case measure=>simp[intOf];omega
      · gi_wp2
        refine bodyPost_ret (results_none rfl _ _ _) rfl ?_
        obtain⟨r,hr⟩:=HPr.out (k+1);rw[HS.out] at hr;exact⟨⟨_,rfl⟩,.inr ⟨_,⟨r,hr⟩,hJx3⟩⟩
    · have h0n:¬(a=0):=by omega
      have dz:decide ((a:Int)=0)=false:=qF (by omega);have dz2:((a:Int)==0)=false:=by rw[qN];omega
      have hsy:sy1 ⟨tl,(a:Int),(d:Int)⟩=[⟨false,257+lsy a,lex a,lb (lsy a)⟩,⟨true,dsy d,dex d,db (dsy d)⟩]:=by
       unfold sy1;rw[if_neg (by show ¬((a:Int)=0);omega)];show[(⟨false,257+lsy (a:Int).toNat,lex (a:Int).toNat,lb (lsy (a:Int).toNat)⟩:Sy),⟨true,dsy (d:Int).toNat,dex (d:Int).toNat,db (dsy (d:Int).toNat)⟩]=_
       rw[Int.toNat_natCast,Int.toNat_natCast]
      rw[hsy] at hsucc hlen hin;have hlen2:pre.length<(sys L).length:=by simp at hlen;omega
      have htk:Y.Tab (wr.alloc (.cells #[.int .u8 tl,.int .i64 a,.int .i64 d] 64)):=z7q HT.out HK.out.k (sx_no (HG.out _ (.inl rfl)).1 (HG.out _ (.inl rfl)).2.1 (HG.out _ (.inl rfl)).2.2) (sx_no (HG.out _ (.inr rfl)).1 (HG.out _ (.inr rfl)).2.1 (HG.out _ (.inr rfl)).2.2);have HL1:=hid (HLen.out tl d a _ htk ⟨ha1,ha2⟩);obtain⟨y1,hy1⟩:∃y1:Sy,(⟨false,257+lsy a,lex a,lb (lsy a)⟩:Sy)=y1:=⟨_,rfl⟩
      obtain⟨y2,hy2⟩:∃y2:Sy,(⟨true,dsy d,dex d,db (dsy d)⟩:Sy)=y2:=⟨_,rfl⟩
      rw[hy1] at HL1;rw[hy1,hy2] at hsucc hin;have hk1:=hin y1 (by simp);have hk2:=hin y2 (by simp);have HS:=hid hsucc;have HL2:=hid (fun w H=>HDist.out tl a d w H ⟨hd1,hd2⟩);rw[hy2] at HL2;have HJa:=hid hJa;have HN:=hid hnew;have HY1:=hid (fun W h=>HY.out pre y1 W hk1 h hlen2);have HY2:=hid (fun W h=>HY.out (pre++[y1]) y2 W hk2 h (by simp at hlen ⊢;omega));unfold zgJ at HY1 HY2;clear hin hp hJs hkp hba hJa hka hsucc hlen hlen2 c0 c1 c2 hcs HCs ht hmem hkL hsy hnew h0 hy1 hy2 htk hk1 hk2
      gi_wp2_with (refine⟨trivial,?_⟩;gi_at_call 138;(with_reducible refine(callsIn_wide.2 HL1.out).mono ?_);rintro e w1 ⟨rfl,b1⟩;obtain⟨fn,tmps,assign,body,hy,hR⟩:=HY1.out w1 (HJ.out _ _ _ HJa.out b1);have HK1:=hid (HK.out.trans (Kq.of_below b1));have HN1:=hid ((b1.block _ (by simp)).trans HN.out);clear b1)
      refine hR.mono ?_
      rintro e W3 (⟨rfl,hJ3,hk3⟩|⟨rfl,hJx3⟩)
      · have HJ3:=hid hJ3
        have HK3:=hid (HK1.out.trans hk3);have hN3:=hk3.t _ _ _ _ _ HN1.out;have htk:Y.Tab W3:=z7q HT.out HK3.out.k (sx_no (HG.out _ (.inl rfl)).1 (HG.out _ (.inl rfl)).2.1 (HG.out _ (.inl rfl)).2.2) (sx_no (HG.out _ (.inr rfl)).1 (HG.out _ (.inr rfl)).2.1 (HG.out _ (.inr rfl)).2.2);have t0:W3.cell? ⟨wr.heap.size,0,none⟩=some (.int .u8 tl):=cell_of_row _ _ 0 _ _ (0,0) hN3;have t1:W3.cell? ⟨wr.heap.size,1,none⟩=some (.int .i64 a):=cell_of_row _ _ 1 _ _ (0,0) hN3;have t2:W3.cell? ⟨wr.heap.size,2,none⟩=some (.int .i64 d):=cell_of_row _ _ 2 _ _ (0,0) hN3;have HL3:=hid (HL2.out W3 htk);clear hJ3 hk3 hN3 htk hy hR
        gi_wp2_with (refine⟨trivial,?_⟩;gi_at_call 139;(with_reducible refine(callsIn_wide.2 HL3.out).mono ?_);rintro e w4 ⟨rfl,b4⟩;obtain⟨fn2,tmps2,assign2,body2,hy2,hR2⟩:=HY2.out w4 (HJ.out _ _ _ HJ3.out b4);have HK4:=hid (HK3.out.trans (Kq.of_below b4));clear b4)
        refine hR2.mono ?_
        rintro e W5 (⟨rfl,hJ5,hk5⟩|⟨rfl,hJx5⟩)
        · gi_wp2
          go_roundw
          case rel=>exact⟨k+1,pre++[y1]++[y2],by omega,by go_num,by rw[HS.out,qD];rfl,hJ5,HK4.out.trans hk5⟩
          case measure=>simp[intOf];omega
        · gi_wp2
          refine bodyPost_ret (results_none rfl _ _ _) rfl ?_
          obtain⟨r,hr⟩:=HPr.out (k+1);rw[HS.out] at hr;exact⟨⟨_,rfl⟩,.inr ⟨_,⟨r,by rw[qD pre];exact hr⟩,hJx5⟩⟩
      · gi_wp2
        refine⟨trivial,?_⟩;gi_wp2;refine⟨fun _ h=>(by cases h),?_⟩;gi_wp2;refine bodyPost_ret (results_none rfl _ _ _) rfl ?_
        obtain⟨r,hr⟩:=HPr.out (k+1);rw[HS.out] at hr;exact⟨⟨_,rfl⟩,.inr ⟨_,⟨y2::r,by simpa using hr⟩,hJx3⟩⟩
  · obtain rfl:k=n:=by omega
    have d1:decide ((k:Int)<(k:Int))=false:=qF (by omega);have d1':decide (k<k)=false:=qF (by omega)
    have hpre:pre++[⟨false,256,0,0⟩]=sys L:=by
     rw[hp,List.take_of_length_le (by rw[HLn.out];exact qR)];rfl
    have hlen2:pre.length<(sys L).length:=by rw[←hpre];simp
    obtain⟨fn,tmps,assign,body,hy,hR⟩:=HY.out pre ⟨false,256,0,0⟩ _ (HIn.out _ (by rw[←hpre];simp)) hJs hlen2;rw[ze0] at hy;have HP:=hid hpre;clear hp hJs hkp hpre hlen2 HCs h0;gi_wp2;refine hR.mono ?_
    rintro e W3 (⟨rfl,hJ3,hk3⟩|⟨rfl,hJx3⟩)
    · gi_wp2
      go_end0;exact⟨⟨_,rfl⟩,.inl ⟨_,HP.out,hJ3⟩⟩
    · gi_wp2
      go_end0;exact⟨⟨_,rfl⟩,.inr ⟨_,⟨[],by rw[List.append_nil];exact HP.out⟩,hJx3⟩⟩
theorem z5P(A:Option Addr)(n c:Nat)(w:World):Calls Tryz.prog 111 #[.slice A n c] w fun e w'=>
 e=.returned (.func (.func 137) #[] #[.pointer (some ⟨w.heap.size,0,none⟩)])∧w'=w.alloc (.cells #[.slice A n c] 29):=by
 go_enter Tryz.func111,Tryz.ntmps111;go_wp2;go_ret;exact⟨by simp,rfl⟩
theorem z1R(m Bs R X n₁ n c:Nat)(A:Option Addr)(L:List Tk)(hm:1≤m)(hn:n≤100000)(hB1:Bs<n₁)(hB2:Bs≠R)(hB3:Bs≠X)
 (hG:∀g,g= 2 ∨g= 3 →g<n₁∧g≠R∧g≠X) (w:World) (hn1:n₁≤w.heap.size)
 (hBs:w.cell? ⟨Bs,0,none⟩=some (.slice A n c)) (hL:IsTks w A n L) (hmay:∀t∈L,may t=true) (hA:∀b o,A=some ⟨b,o,none⟩→0<n→b<n₁∧b≠R∧b≠X) (hT:Y.Tab w):
 SeqStopsK Fence.wide m Tryz.prog 137 #[.pointer (some ⟨Bs,0,none⟩)] (fun y:Oy=>zgJ y.1) (Kq R X n₁) (fun ys=>ys.map (·.1)=sys L) (fun pre=> ∃r,pre.map (·.1)++r=sys L) (sys L).length w:=fun l J Jx W hW hJ _ hY h0=>
 (z6w m l Bs R X n₁ n c A L hm hn hB1 hB2 hB3 hG W (qK hn1 hW.size) (fun l W=> ∃l':List Oy,l'.map (·.1)=l∧J l' W) (fun l W=> ∃l':List Oy,l'.map (·.1)=l∧Jx l' W)
  (fun s A B row hs hg hr=>by obtain⟨l',e,h⟩:=hs;exact⟨l',e,hJ l' A B row h hg hr⟩)
  (fun pre x W hx h hlen=>by
   obtain⟨l',e,h⟩:=h;obtain⟨fn,tmps,asg,body,hy,hR⟩:=hY l' ⟨x,hx⟩ W h (by rw[←List.length_map (f:=(·.1)),e];exact hlen);refine⟨fn,tmps,asg,body,hy,hR.mono ?_⟩;rintro e2 W' (⟨h1,h2,h3⟩|⟨h1,h2⟩)
   · exact .inl ⟨h1,⟨_,by rw[List.map_append,e];rfl,h2⟩,h3⟩
   · exact .inr ⟨h1,⟨_,by rw[List.map_append,e];rfl,h2⟩⟩)
  ((hW.cell (p:=⟨Bs,0,none⟩) (by show Bs<_;omega)).trans hBs) hL.leng hL.good hmay
  (fun hp=>by
   have hL2:=hL.below hW;rcases hL2.cells with g|⟨b,o,e,hb,hc⟩
   · omega
   · obtain⟨h1,h2,h3⟩:=hA b o e hp
     exact⟨b,o,e,h1,h2,h3,fun i hi=>hc i _ (by rw[List.getD,qE (by rw[hL.leng];exact hi)];rfl)⟩) (hT.below hW qR) ⟨[],rfl,h0⟩).mono (by
  rintro e W' ⟨h1,h2⟩;refine⟨h1,?_⟩;rcases h2 with⟨ys,rfl,l',e1,h⟩|⟨pre,⟨r,hr⟩,l',e1,h⟩
  · exact .inl ⟨l',e1,h⟩
  · exact .inr ⟨l',⟨r,by rw[e1];exact hr⟩,h⟩)
end Go.Proofs.YtacelhaidcmbcaaGreatDoor.V
namespace Go.Proofs.YtacelhaidcmbcaaGreatDoor.V
open Go.Lib (hid)
open Go Go.RowKit M U
attribute [local go_sem] Oper.semAt_some
theorem z7A{P:Program}{w:World}{g:Nat}{t T:TypeId}{C:Array Value}{d:TypeDesc}(h:w.heap[g]? =some (.cells C t (0,0)))(hu:P.underlying T=some d)(hd:d.isRow=true)(hi:(P.info? T).map (·.size)=some C.size):
 (Instr.loadAt T (.pointer (some ⟨g,0,none⟩))).run P w=.ok (.agg C) w:=by
 have e:=run_loadAt_mid (P:=P) w g 0 T C.toList d (fun j v hv=>by
  rw[Nat.zero_add,cell_of_row _ _ j _ _ (0,0) h]
  simpa using hv) hu hd (by simpa using hi)
 simpa using e
theorem z5J{P:Program}{w:World}{g:Nat}{t T:TypeId}{C D:Array Value}(h:w.heap[g]? =some (.cells D t (0,0)))(hi:(P.info? T).map (·.size)=some C.size)(ho:D.size=C.size)(h1:C.all (·.oneCell')=true):
 (Instr.storeAt T (.pointer (some ⟨g,0,none⟩)) (.agg C)).run P w=.ok () (w.setRow g C):=by
 simp only[Instr.storeAt,Instr.sureAddr,Sem.run_bind,Sem.run_pure,Result.andThen];exact run_storeVar_row w g t T D C h hi ho h1
section
variable {F:Fence} {n:Nat} {P:Program} {ops:Array Oper} {rest:List Oper} {o:Oper} {a:Act} {w w':World} {Q:Exit→Act→World→Prop}
theorem z3C(hgd:o.guard=none)(T:TypeId)(x:Operand)(ho:o.op=.load T x)(g q:Nat)(hx:a.eval x=.pointer (some ⟨g,q,none⟩))(C:Array Value)(hr:(Instr.loadAt T (.pointer (some ⟨g,q,none⟩))).run P w=.ok (.agg C) w)
 (h:wpListIn F n P ops Q rest (a.put o.dst (.agg C)) w):wpListIn F n P ops Q (o::rest) a w:=by
 refine wpListIn_plain hgd fun K hK=> ?_
 unfold Oper.wpIn;refine⟨?_,?_⟩
 · simp[Oper.about,ho]
 · rw[Oper.semAt_plain F _ _ (by rw[ho];intro c hc';cases hc')]
   unfold execOp;simp only[ho,hx,hr,Sem.run_bind,Sem.run_pure,Result.andThen_ok];exact hK _ _ h
theorem z2V(hgd:o.guard=none)(T:TypeId)(x y:Operand)(ho:o.op=.store T x y)(g q:Nat)(hx:a.eval x=.pointer (some ⟨g,q,none⟩))(v:Value)(hy:a.eval y=v)(hr:(Instr.storeAt T (.pointer (some ⟨g,q,none⟩)) v).run P w=.ok () w')
 (h:wpListIn F n P ops Q rest (a.put o.dst undef) w'):wpListIn F n P ops Q (o::rest) a w:=by
 refine wpListIn_plain hgd fun K hK=> ?_
 unfold Oper.wpIn;refine⟨?_,?_⟩
 · simp[Oper.about,ho]
 · rw[Oper.semAt_plain F _ _ (by rw[ho];intro c hc';cases hc')]
   unfold execOp;simp only[ho,hx,hy,hr,Sem.run_bind,Sem.run_pure,Result.andThen_ok];exact hK _ _ h
theorem z0J(hgd:o.guard=none)(T:TypeId)(x:Operand)(ho:o.op=.load T x)(g q:Nat)(hx:a.eval x=.pointer (some ⟨g,q,none⟩))(C:Array Value)(hr:(Instr.loadAt T (.pointer (some ⟨g,q,none⟩))).run P w=.ok (.agg C) w)
 (h:wpList P ops Q rest (a.put o.dst (.agg C)) w):wpList P ops Q (o::rest) a w:=by
 refine wpList_plain hgd fun K hK=> ?_
 unfold Oper.wp execOp;simp only[ho,hx,hr,Sem.run_bind,Sem.run_pure,Result.andThen_ok];exact hK _ _ h
theorem z0g(hgd:o.guard=none)(T:TypeId)(x y:Operand)(ho:o.op=.store T x y)(g q:Nat)(hx:a.eval x=.pointer (some ⟨g,q,none⟩))(v:Value)(hy:a.eval y=v)(hr:(Instr.storeAt T (.pointer (some ⟨g,q,none⟩)) v).run P w=.ok () w')
 (h:wpList P ops Q rest (a.put o.dst undef) w'):wpList P ops Q (o::rest) a w:=by
 refine wpList_plain hgd fun K hK=> ?_
 unfold Oper.wp execOp;simp only[ho,hx,hy,hr,Sem.run_bind,Sem.run_pure,Result.andThen_ok];exact hK _ _ h
end
def cF(f g:Nat→Nat)(b i:Nat):Value:=if i<286 then .int .i64 (f i:Nat) else if i<316 then .int .i64 (g (i - 286):Nat) else .int .i64 (b:Nat)
def CV(f g:Nat→Nat)(b:Nat):Array Value:=((List.range 317).map (cF f g b)).toArray
theorem z0R(f g:Nat→Nat)(b:Nat):(CV f g b).size=317:=by unfold CV;simp
theorem z9D(f g:Nat→Nat)(b i:Nat)(h:i<317):(CV f g b)[i]? =some (cF f g b i):=by
 unfold CV;rw[List.getElem?_toArray,List.getElem?_map,List.getElem?_range h];rfl
theorem zfb(f g:Nat→Nat)(b i:Nat):(cF f g b i).oneCell'=true:=by
 unfold cF
 split
 · rfl
 · split<;>rfl
theorem ziA(f g:Nat→Nat)(b:Nat):(CV f g b).all (·.oneCell')=true:=by
 unfold CV;refine all_oneCell_toArray (fun v hv=> ?_);obtain⟨i,_,rfl⟩:=List.mem_map.1 hv;exact zfb f g b i
def Cn(w:World)(X:Nat)(f g:Nat→Nat)(b:Nat):Prop:=w.heap[X]? =some (.cells (CV f g b) 158 (0,0))
section
variable {w w':World} {X:Nat} {f g f' g':Nat→Nat} {b b':Nat}
theorem Cn.new(w:World)(f g:Nat→Nat)(b:Nat):Cn (w.alloc (.cells (CV f g b) 158)) w.heap.size f g b:=heap_alloc_new _ _
theorem Cn.lt(h:Cn w X f g b):X<w.heap.size:=(qW.1 h).1
theorem Cn.below(h:Cn w X f g b)(hb:Below w.heap.size w w'):Cn w' X f g b:=(hb.block X h.lt).trans h
theorem Cn.alloc(h:Cn w X f g b)(o:Obj):Cn (w.alloc o) X f g b:=(Below.heap_alloc w o X h.lt).trans h
theorem Cn.lit(h:Cn w X f g b){i:Nat}(hi:i<286):w.cell? ⟨X,i,none⟩=some (.int .i64 (f i:Nat)):=by
 rw[cell_of_row _ _ i _ _ (0,0) h,z9D f g b i (by omega)];unfold cF;rw[if_pos hi]
theorem Cn.dist(h:Cn w X f g b){i:Nat}(hi:i<30):w.cell? ⟨X,286+i,none⟩=some (.int .i64 (g i:Nat)):=by
 rw[cell_of_row _ _ _ _ _ (0,0) h,z9D f g b _ (by omega)];unfold cF;rw[if_neg (by omega),if_pos (by omega),show 286+i - 286=i by omega]
theorem Cn.bits(h:Cn w X f g b):w.cell? ⟨X,316,none⟩=some (.int .i64 (b:Nat)):=by
 rw[cell_of_row _ _ _ _ _ (0,0) h,z9D f g b _ (by omega)];rfl
theorem Cn.free(h:Cn w X f g b)(i:Nat):w.frozen? ⟨X,i,none⟩=false:=by
 have h':w.heap[X]? =some (.cells (CV f g b) 158 (0,0)):=h;simp[World.frozen?,h']
theorem Cn.set(h:Cn w X f g b)(i:Nat)(v:Value)(e:∀j,j<317→cF f' g' b' j=if j=i then v else cF f g b j):Cn (w.setCell ⟨X,i,none⟩ v) X f' g' b':=by
 unfold Cn at h ⊢;rw[setCell_eq_setRow w X i (CV f g b) _ (0,0) v h,setRow_heap w X _ _ _ (0,0) h];congr 2;apply Array.ext_getElem?
 intro j;by_cases hj:j<317
 · rw[z9D _ _ _ j hj,e j hj,Array.getElem?_setIfInBounds]
   split
   · rename_i q;subst q;rw[if_pos (by rw[z0R];exact hj),if_pos rfl]
   · rename_i q;rw[if_neg (fun z=>q z.symm),z9D f g b j hj]
 · rw[Array.getElem?_eq_none (by rw[Array.size_setIfInBounds,z0R];omega),Array.getElem?_eq_none (by rw[z0R];omega)]
theorem Cn.nums(h:Cn w X f g b):z09 w .i64 (some ⟨X,0,none⟩) 286 (fun i=>(f i:Int)):=fun _=>⟨X,0,rfl,h.lt,fun i hi=>by rw[Nat.zero_add];exact h.lit hi⟩
theorem Cn.numsd(h:Cn w X f g b):z09 w .i64 (some ⟨X,286,none⟩) 30 (fun i=>(g i:Int)):=fun _=>⟨X,286,rfl,h.lt,fun i hi=>h.dist hi⟩
end
theorem zc0:(Tryz.prog.info? 158).map (fun i=>(i.zero,i.size))=some (some (.agg (CV (fun _=>0) (fun _=>0) 0)),317):=by kernel_rfl
theorem zgM(w:World):(zeroValue 158).run Tryz.prog w=.ok (.agg (CV (fun _=>0) (fun _=>0) 0)) w:=(zero_of_info zc0).1 w
theorem z5i:(Tryz.prog.info? 158).map (·.size)=some 317:=(zero_of_info zc0).2
theorem Cn.load{w:World}{X:Nat}{f g:Nat→Nat}{b:Nat}(h:Cn w X f g b):(Instr.loadAt 158 (.pointer (some ⟨X,0,none⟩))).run Tryz.prog w=.ok (.agg (CV f g b)) w:=
 z7A h Tryz.underlying158 rfl (by rw[z0R];exact z5i)
theorem Cn.store{w:World}{X:Nat}{f g:Nat→Nat}{b:Nat}(h:Cn w X f g b)(f' g':Nat→Nat)(b':Nat):
 (Instr.storeAt 158 (.pointer (some ⟨X,0,none⟩)) (.agg (CV f' g' b'))).run Tryz.prog w=.ok () (w.setRow X (CV f' g' b')):=
 z5J h (by rw[z0R];exact z5i) (by rw[z0R,z0R]) (ziA _ _ _)
theorem Cn.setRow{w:World}{X:Nat}{f g:Nat→Nat}{b:Nat}(h:Cn w X f g b)(f' g':Nat→Nat)(b':Nat):Cn (w.setRow X (CV f' g' b')) X f' g' b':=setRow_heap w X _ _ _ (0,0) h
def zh9(w2:World)(X n₁:Nat)(pre:List Oy)(W:World):Prop:=
 Cn W X (cs false (pre.map (·.1))) (cs true (pre.map (·.1))) (smb (pre.map (·.1)))∧Kq X X n₁ w2 W
theorem zh9.own{w2:World}{X n₁:Nat}(h0:X<n₁):OwnFrom n₁ (zh9 w2 X n₁):=fun pre W W' row hs hg hr=>by
 obtain⟨h1,h2⟩:=hs;refine⟨(hg.block X h1.lt (fun e=>by have:=(hr X e.symm).1;omega)).trans h1,⟨h2.k.grown hg (fun r e=> .inl (.inr (.inr (hr r e).1))),fun i x y z fz e=> ?_⟩⟩;have q:=h2.t i x y z fz e;refine(hg.block i (qW.1 q).1 (fun e2=> ?_)).trans q;obtain⟨_,o,ho,hc⟩:=hr i e2.symm;rw[q] at ho;cases ho
 cases hc
def AxC(n₁:Nat)(f:Oy→Nat→Act)(x:Oy)(a':Act)(W:World):Prop:=
 ∃Bx,n₁≤Bx∧W.heap[Bx]? =some (.cells #[.bool x.1.d,.int .i64 (x.1.n:Nat),.int .u32 (x.1.e:Nat),.int .u8 (x.1.b:Nat)] 203 (0,0))∧a'=f x Bx
theorem AxC.own{n₁:Nat}{f:Oy→Nat→Act}{x:Oy}{a':Act}:OwnFrom n₁ (fun(_:Unit) W=>AxC n₁ f x a' W):=fun _ W W' row hs hg hr=>by
 obtain⟨Bx,h1,h2,h3⟩:=hs;refine⟨Bx,h1,(hg.block Bx (qW.1 h2).1 (fun e=> ?_)).trans h2,h3⟩;obtain⟨_,o,ho,hc⟩:=hr Bx e.symm;rw[h2] at ho;cases ho
 cases hc
theorem Kq.setc{X n₁:Nat}{W:World}{f g:Nat→Nat}{b:Nat}(h:Cn W X f g b)(i:Nat)(v:Value):Kq X X n₁ W (W.setCell ⟨X,i,none⟩ v):=by
 refine⟨(Kept.refl _ W).setCell ⟨X,i,none⟩ (.inl (.inl rfl)) v,fun k x y z fz e=> ?_⟩;rw[Below.heap_setCell _ _ _ _ (fun q=> ?_)]
 · exact e
 · have h':W.heap[X]? =some (.cells (CV f g b) 158 (0,0)):=h
   rw[q,show(⟨X,i,none⟩:Addr).block=X from rfl,h'] at e;simp only[Option.some.injEq,Obj.cells.injEq] at e;exact absurd e.2.1 (by decide)
theorem z41:∀S T:List Sy,smb (S++T)=smb S+smb T
 |[],T=>by simp[smb]
 |y::S,T=>by simp only[List.cons_append,smb,z41 S T];omega
theorem zgR(S:List Sy)(yn ye yb b:Nat)(hn:yn<30):∀j,j<317→cF (cs false (S++[⟨true,yn,ye,yb⟩])) (cs true (S++[⟨true,yn,ye,yb⟩])) b j=if j=286+yn then .int .i64 ((cs true S yn+1:Nat):Int) else cF (cs false S) (cs true S) b j:=by
 intro j hj;unfold cF;simp only[z23,cs];by_cases h1:j<286
 · have h3:¬j=286+yn:=by omega
   rw[if_neg h3,if_pos h1,if_pos h1];simp
 · rw[if_neg h1]
   by_cases h2:j<316
   · rw[if_pos h2]
     by_cases h3:j=286+yn
     · subst h3
       rw[if_pos rfl,show 286+yn - 286=yn by omega];simp
     · have h4:¬(yn=j - 286):=fun q=>h3 (by omega)
       rw[if_neg h3,if_neg h1,if_pos h2];simp[h4]
   · have h3:¬j=286+yn:=by omega
     rw[if_neg h2,if_neg h3,if_neg h1,if_neg h2]
theorem zin(S:List Sy)(yn ye yb b:Nat)(hn:yn<286):∀j,j<317→cF (cs false (S++[⟨false,yn,ye,yb⟩])) (cs true (S++[⟨false,yn,ye,yb⟩])) b j=if j=yn then .int .i64 ((cs false S yn+1:Nat):Int) else cF (cs false S) (cs true S) b j:=by
 intro j hj;unfold cF;simp only[z23,cs];by_cases h1:j<286
 · rw[if_pos h1]
   by_cases h3:j=yn
   · subst h3
     rw[if_pos rfl];simp
   · have h4:¬(yn=j):=fun q=>h3 q.symm
     rw[if_neg h3,if_pos h1];simp[h4]
 · have h3:¬j=yn:=by omega
   rw[if_neg h1,if_neg h3,if_neg h1];simp
theorem zca(f g:Nat→Nat)(b b':Nat):∀j,j<317→cF f g b' j=if j=316 then .int .i64 (b':Nat) else cF f g b j:=by
 intro j hj;unfold cF;by_cases h1:j<286
 · rw[if_pos h1,if_neg (by omega),if_pos h1]
 · rw[if_neg h1,if_neg h1]
   by_cases h2:j<316
   · rw[if_pos h2,if_neg (by omega),if_pos h2]
   · rw[if_neg h2,if_neg h2,if_pos (by omega)]
theorem zeB{S:List Sy}(h:∀y∈S,y.b≤13):smb S≤13*S.length:=by
 induction S with
 |nil=>simp[smb]
 |cons y S ih=>
  have h1:=ih (fun z hz=>h z (List.mem_cons_of_mem _ hz));have h2:=h y List.mem_cons_self;simp only[smb,qC];omega
theorem Kq.alloc{R X n₁:Nat}(W:World)(o:Obj):Kq R X n₁ W (W.alloc o):=Kq.of_below ((Below.refl _ _).alloc qR o)
theorem count_any(A:Option Addr)(n c:Nat)(L:List Tk)(w:World)(hT:Y.Tab w)(h:IsTks w A n L)(hn:n≤100000)(hmay:∀t∈L,may t=true):
 Calls Tryz.prog 103 #[.slice A n c] w fun e w'=>e=.returned (.agg (CV (cs false (sys L)) (cs true (sys L)) (smb (sys L))))∧Below w.heap.size w w':=by
 have HH:=hid h;have HT:=hid hT;have HMay:=hid hmay;have hz:=zgM;have HN:=hid (show(sys L).length≤200001 from by have:=z1h L;have:=h.leng;omega);clear h hT hmay;refine(callsIn_wide (n:=5)).1 ?_
 refine callsIn_of_wp_marks Tryz.func103 rfl trivial ?_ rfl;simp only[Tryz.ntmps103,List.size_toArray,qC,List.length_nil,Nat.reduceAdd,Nat.reduceSub,Array.replicate_succ,Array.replicate_zero,List.push_toArray,List.append_toArray,List.nil_append,List.cons_append]
 gi_wp2_with (refine⟨trivial,?_⟩;gi_at_call 111;refine(callsIn_wide.2 (z5P _ _ _ _)).mono ?_;rintro e w' ⟨rfl,rfl⟩)
 have hb2:Below w.heap.size w (((w.alloc (.cells (CV (fun _=>0) (fun _=>0) 0) 158)).alloc (.cells (CV (fun _=>0) (fun _=>0) 0) 158)).alloc (.cells #[.slice A n c] 29)):=(((Below.refl _ w).alloc qR _).alloc (by simp) _).alloc (by simp;omega) _;have hz2:(((w.alloc (.cells (CV (fun _=>0) (fun _=>0) 0) 158)).alloc (.cells (CV (fun _=>0) (fun _=>0) 0) 158)).alloc (.cells #[.slice A n c] 29)).heap.size=w.heap.size+1+1+1:=by simp
 have k0:Cn (((w.alloc (.cells (CV (fun _=>0) (fun _=>0) 0) 158)).alloc (.cells (CV (fun _=>0) (fun _=>0) 0) 158)).alloc (.cells #[.slice A n c] 29)) w.heap.size (fun _=>0) (fun _=>0) 0:=((Cn.new w _ _ _).alloc _).alloc _
 have k1:Cn (((w.alloc (.cells (CV (fun _=>0) (fun _=>0) 0) 158)).alloc (.cells (CV (fun _=>0) (fun _=>0) 0) 158)).alloc (.cells #[.slice A n c] 29)) (w.heap.size+1) (fun _=>0) (fun _=>0) 0:=by
  have:=(Cn.new (w.alloc (.cells (CV (fun _=>0) (fun _=>0) 0) 158)) (fun _=>0) (fun _=>0) 0).alloc (.cells #[.slice A n c] 29);rw[World.size_alloc] at this;exact this
 have gb:(((w.alloc (.cells (CV (fun _=>0) (fun _=>0) 0) 158)).alloc (.cells (CV (fun _=>0) (fun _=>0) 0) 158)).alloc (.cells #[.slice A n c] 29)).heap[w.heap.size+1+1]? =some (.cells #[.slice A n c] 29 (0,0)):=by
  have:=new_at ((w.alloc (.cells (CV (fun _=>0) (fun _=>0) 0) 158)).alloc (.cells (CV (fun _=>0) (fun _=>0) 0) 158)) (.cells #[.slice A n c] 29);rw[World.size_alloc,World.size_alloc] at this;exact this
 obtain⟨w2,hw2⟩:∃w2,((w.alloc (.cells (CV (fun _=>0) (fun _=>0) 0) 158)).alloc (.cells (CV (fun _=>0) (fun _=>0) 0) 158)).alloc (.cells #[.slice A n c] 29)=w2:=⟨_,rfl⟩
 rw[hw2] at hb2 hz2 k0 k1 gb ⊢;clear hw2;obtain⟨X,hX⟩:∃X,w.heap.size+1=X:=⟨_,rfl⟩
 rw[hX] at hz2 k1 gb ⊢;have HB2:=hid hb2;have HZ2:=hid hz2;have HXe:=hid hX;have hT2:=HT.out.below hb2 qR;have gl1:=qB HT.out.l0;have gl2:=qB HT.out.d0;simp only at gl1 gl2
 have hA:∀b o,A=some ⟨b,o,none⟩→0<n→b<w2.heap.size∧b≠X∧b≠X:=fun b o e hp=>by
  obtain⟨b',o',e',hb',_⟩:=HH.out.at hp;rw[e] at e';simp only[Option.some.injEq,Addr.mk.injEq,and_true] at e';omega
 have K0:=hid k0
 have HFd:=hid (show ∀W,Kq X X w2.heap.size w2 W→Below w.heap.size w W from fun W hk=>
  HB2.out.trans (hk.k.below (by omega) (fun j hj=>by rcases hj with hj|hj|hj<;>omega)))
 have hXw:X<w2.heap.size:=by omega
 have h1w:w.heap.size<w2.heap.size:=by omega
 clear hb2 k0
 refine wpIn_rangeFunc_ownH rfl (by omega) (gf:= 137) (lb:= #[.pointer (some ⟨X+1,0,none⟩)]) rfl trivial (enters_of Tryz.func137 (by kernel_rfl) rfl)
  (z1R 4 (X+1) X X w2.heap.size n c A L (by omega) (by omega) (by omega) (by omega) (by omega) (fun g hg=>by rcases hg with rfl|rfl<;>(refine⟨?_,?_,?_⟩<;>omega)) w2 qR (one_cell gb) (HH.out.below HB2.out) HMay.out hA hT2)
  (fun h k=>h.trans k) (fun W l o o' hl h hc _=>Kq.book W l o o' hl h hc) (Below.refl _ _) (fun _=>rfl)
  (zh9 w2 X w2.heap.size) (fun _ _ _=>False) (zh9.own hXw) (fun _ _ _ _ _ hs _ _=>hs)
  ⟨k1,Kq.refl _⟩
  (AxC w2.heap.size (fun x Bx=> {tmps:= #[.slice A n c,undef,.pointer (some ⟨w.heap.size,0,none⟩),.pointer (some ⟨X,0,none⟩),.pointer (some ⟨Bx,0,none⟩),.slice A n c,.func (.func 137) #[] #[.pointer (some ⟨X+1,0,none⟩)],sgv x.1,undef,undef,undef,undef,undef,undef,undef,undef,undef,undef,undef,undef,undef,undef,undef,undef,undef,undef,undef,undef,undef,undef,undef,undef,undef,undef,undef],defers:=[]}))
  (fun x a'=>AxC.own)
  ?assign ?body ?done ?stop
 case assign=>
  rintro l pre x W K hm hK;have HK:=hid (fun(a':Act) (W':World) (h1:KeepsFrom w2.heap.size W W') (h2:Kq X X w2.heap.size W W') (h3:zh9 w2 X w2.heap.size pre W') h4=>hK a' W' h1 h2 h3 h4);have HM:=hid hm;clear hK hm k1 gb hA hT2;obtain⟨⟨yd,yn,ye,yb⟩,hy⟩:=x;unfold zgJ sgv;gi_wp2;exact HK.out _ _ ((KeepsOthers.alloc _ _).from _) (Kq.alloc _ _) ((zh9.own hXw).alloc _ HM.out) ⟨W.heap.size,HM.out.2.k.size,new_at _ _,rfl⟩
 case body=>
  rintro l' pre x a' W hl' ⟨r,hr⟩ ⟨hm1,hm2⟩ ⟨Bx,hBx,hR,rfl⟩ hlt;obtain⟨y,hy⟩:=x;have hlen:(pre.map (·.1)).length<200001:=by rw[List.length_map];exact Nat.lt_of_lt_of_le hlt HN.out
  obtain⟨S,hS⟩:∃S,pre.map (·.1)=S:=⟨_,rfl⟩
  have hMid:∀W',Cn W' X (cs false (S++[y])) (cs true (S++[y])) (smb (S++[y]))→Kq X X w2.heap.size w2 W'→zh9 w2 X w2.heap.size (pre++[(⟨y,hy⟩:Oy)]) W':=fun W' h1 h2=>⟨by rw[List.map_append,hS];exact h1,h2⟩
  have HMid:=hid hMid;rw[hS] at hlen hm1;have hy0:=hy.1.1;have hy1:=hy.1.2;have hy2:=hy.2.1;clear hMid;obtain⟨yd,yn,ye,yb⟩:=y;simp only at hR hy0 hy1 hy2;unfold sgv;dsimp only;have q0:W.cell? ⟨Bx,0,none⟩=some (.bool yd):=cell_of_row _ _ 0 _ _ (0,0) hR;have q1:W.cell? ⟨Bx,1,none⟩=some (.int .i64 yn):=cell_of_row _ _ 1 _ _ (0,0) hR;have q3:W.cell? ⟨Bx,3,none⟩=some (.int .u8 yb):=cell_of_row _ _ 3 _ _ (0,0) hR;have H1:=hid hm1;have H2:=hid hm2;have hXB:Bx≠X:=by omega
  have HXB:=hid hXB
  have hsm:smb S≤13*S.length:=zeB (fun y hy=>by
   rw[←hS] at hy;obtain⟨z,_,rfl⟩:=List.mem_map.1 hy;exact z.2.2.1)
  have hb0:=hm1.bits;obtain⟨b,hb⟩:∃b,smb S=b:=⟨_,rfl⟩
  have HSm:=hid (show smb (S++[⟨yd,yn,ye,yb⟩])=b+yb by rw[z41,←hb];simp[smb]);rw[hb] at hb0 hsm;have hb26:b≤2600013:=by omega
  have f316:=hm1.free 316;have HBe:=hid hb;cases yd
  · have hn:yn<286:=hy0 rfl
    have c0:=hm1.lit hn;have fx:=hm1.free yn;have hcl:=z2y false S yn;have HC:=hid (hm1.set (f':=cs false (S++[⟨false,yn,ye,yb⟩])) (g':=cs true (S++[⟨false,yn,ye,yb⟩])) (b':=smb S) yn _ (zin S yn ye yb (smb S) hn));obtain⟨v,hv⟩:∃v,cs false S yn=v:=⟨_,rfl⟩
    rw[hv] at c0 HC hcl;have hv2:v≤200001:=by omega
    have s0:=HC.out.bits;rw[hb] at s0;have f0:=HC.out.free 316;have HKq:=hid (Kq.setc (n₁:=w2.heap.size) hm1 yn (.int .i64 ((v+1:Nat):Int)));have HKs:=hid (Kq.setc (n₁:=w2.heap.size) HC.out 316 (.int .i64 ((b+yb:Nat):Int)));have HC2:=hid (HC.out.set (f':=cs false (S++[⟨false,yn,ye,yb⟩])) (g':=cs true (S++[⟨false,yn,ye,yb⟩])) (b':=b+yb) 316 _ (zca _ _ _ _));have t3:(W.setCell ⟨X,yn,none⟩ (.int .i64 ((v+1:Nat):Int))).cell? ⟨Bx,3,none⟩=some (.int .u8 yb):=(World.cell?_of_block (a:=⟨Bx,3,none⟩) (Below.heap_setCell _ _ _ _ hXB)).trans q3;clear hm1 hm2 hlen hS hR hy0 hy1 hcl hv hb hsm hXB hr hlt HBe k1 gb hA hT2;clear hz hz2;gi_wp2;exact⟨((KeepsOthers.setCell _ _ _).trans (KeepsOthers.setCell _ _ _)).from _,HKq.out.trans HKs.out,HMid.out _ (by rw[HSm.out];exact HC2.out) ((H2.out.trans HKq.out).trans HKs.out)⟩
  · have hn:yn<30:=hy1 rfl
    have c0:=hm1.dist hn;have fx:=hm1.free (286+yn);have hcl:=z2y true S yn;have HC:=hid (hm1.set (f':=cs false (S++[⟨true,yn,ye,yb⟩])) (g':=cs true (S++[⟨true,yn,ye,yb⟩])) (b':=smb S) (286+yn) _ (zgR S yn ye yb (smb S) hn));obtain⟨v,hv⟩:∃v,cs true S yn=v:=⟨_,rfl⟩
    rw[hv] at c0 HC hcl;have hv2:v≤200001:=by omega
    have s0:=HC.out.bits;rw[hb] at s0;have f0:=HC.out.free 316;have HKq:=hid (Kq.setc (n₁:=w2.heap.size) hm1 (286+yn) (.int .i64 ((v+1:Nat):Int)));have HKs:=hid (Kq.setc (n₁:=w2.heap.size) HC.out 316 (.int .i64 ((b+yb:Nat):Int)));have HC2:=hid (HC.out.set (f':=cs false (S++[⟨true,yn,ye,yb⟩])) (g':=cs true (S++[⟨true,yn,ye,yb⟩])) (b':=b+yb) 316 _ (zca _ _ _ _));have t3:(W.setCell ⟨X,286+yn,none⟩ (.int .i64 ((v+1:Nat):Int))).cell? ⟨Bx,3,none⟩=some (.int .u8 yb):=(World.cell?_of_block (a:=⟨Bx,3,none⟩) (Below.heap_setCell _ _ _ _ hXB)).trans q3;clear hm1 hm2 hlen hS hR hy0 hy1 hcl hv hb hsm hXB hr hlt HBe k1 gb hA hT2;clear hz hz2;gi_wp2;exact⟨((KeepsOthers.setCell _ _ _).trans (KeepsOthers.setCell _ _ _)).from _,HKq.out.trans HKs.out,HMid.out _ (by rw[HSm.out];exact HC2.out) ((H2.out.trans HKq.out).trans HKs.out)⟩
 case done=>
  rintro D ys W hD hS ⟨hm1,hm2⟩ hK;rw[hS] at hm1;have hld:=hm1.load;have hk0:Cn W w.heap.size (fun _=>0) (fun _=>0) 0:=(hm2.k.block _ h1w (sx_no h1w (by omega) (by omega))).trans K0.out;have hst:=hk0.store (cs false (sys L)) (cs true (sys L)) (smb (sys L));have hfin:=hk0.setRow (cs false (sys L)) (cs true (sys L)) (smb (sys L));have HKd:=hid (show(W.setRow w.heap.size (CV (cs false (sys L)) (cs true (sys L)) (smb (sys L)))).heap[D]? =some (.deferred (some [])) from(setRow_other W _ D _ (by omega)).trans hK);have HB:=hid (below_setRow (HFd.out W hm2) w.heap.size (CV (cs false (sys L)) (cs true (sys L)) (smb (sys L))) qR);have HF:=hid hfin;clear hS hm1 hm2 hA hK hfin hk0 k1 gb hT2;have HLd:=hid hld;have HSt:=hid hst;clear hld hst
  gi_wp2_with (first|refine z3C rfl 158 _ rfl _ _ rfl _ HLd.out ?_|refine z2V rfl 158 _ _ rfl _ _ rfl _ rfl HSt.out ?_)
  have hK':=HKd.out;refine⟨by simp,.inl ⟨_,_,rfl,run_takeDeferred hK',?_⟩⟩;have hF2:((W.setRow w.heap.size (CV (cs false (sys L)) (cs true (sys L)) (smb (sys L)))).putObj D (.deferred none)).heap[w.heap.size]? =some (.cells (CV (cs false (sys L)) (cs true (sys L)) (smb (sys L))) 158 (0,0)):=(World.putObj_heap_other (by omega)).trans HF.out;exact⟨_,results_cell_row rfl _ _ w.heap.size _ _ _ _ rfl hF2 Tryz.underlying158 rfl (by rw[z0R];exact z5i),rfl,HB.out.trans (belowK_b (w:=w) qR _ D _ _ (by omega) hK' rfl rfl)⟩
 case stop=>
  rintro D c pre W _ _ h _;exact h.elim
end Go.Proofs.YtacelhaidcmbcaaGreatDoor.V
