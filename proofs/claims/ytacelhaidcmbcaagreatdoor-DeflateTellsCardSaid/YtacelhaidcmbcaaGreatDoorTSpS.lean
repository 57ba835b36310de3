import Derived.Test.YtacelhaidcmbcaaGreatDoorTMSpQ
set_option maxHeartbeats 8000000
set_option maxRecDepth 1000000
namespace Go.Proofs.YtacelhaidcmbcaaGreatDoor.V
open Go.Lib (hid)
open Go Go.RowKit M U
open Go.ChangeShapes Go.WideShapes Go.Deep
set_option linter.unusedVariables false
set_option linter.unusedSimpArgs false
theorem Owp.low{B B':Nat}{w:World}{v:Value}{L:List Pv}(h:Owp B w v L)(hB:B'≤B):Owp B' w v L:=by
 obtain⟨h0,hh⟩:=h;refine⟨h0,?_⟩;rcases hh with⟨h1,h2⟩|⟨g,c,cs,h1,h2,r⟩
 · exact .inl ⟨h1,h2⟩
 · exact .inr ⟨g,c,cs,h1,qK hB h2,r⟩
theorem Chn.mem:∀ {l:List (Nat×Nat)} {a b:Nat} {q:Nat×Nat},Chn a l b→q∈l→q.1≤q.2∧q.2≤b
 |[],_,_,_,_,h=>absurd h (by simp)
 |p::l,a,b,q,hc,h=>by
  rcases List.mem_cons.1 h with rfl|h
  · exact⟨by rw[hc.1];exact hc.2.1,Chn.le hc.2.2⟩
  · exact Chn.mem hc.2.2 h
theorem zfM{ops:Array Oper}{o:Oper}{a:Act}{w:World}{K:Act→World→Prop}{Q:Exit→Act→World→Prop}{E:Prop}(hgd:o.guard=none)(s x:Operand)
 (ho:o.op=.call {callee:=.builtin .append,args:= #[s,x],argTypes:= #[30,30]}) (B:Nat) (v:Value) (L:List Pv) (hs:a.eval s=v) (h:Owp B w v L) (b c:Nat) (q:Pv)
 (hx:a.eval x=.slice (some ⟨b,0,none⟩) 1 c) (hc:w.cell? ⟨b,0,none⟩=some (.int .i64 q.f)∧w.cell? ⟨b,1,none⟩=some (.int .i64 q.t)∧w.cell? ⟨b,2,none⟩=some (.int .i64 q.z)∧w.cell? ⟨b,3,none⟩=some (.int .u8 q.k)) (hL:L.length≤1000000) (hB:B≤w.heap.size)
 (hK:∀v' w',Owp B w' v' (L++[q])→w.grownBy w' v.ownBlock→Below B w w'→K (a.put o.dst v') w'):if Region.wanted o (yielded ops a.tmps)=true then Oper.wp Tryz.prog o a w K Q else E:=by
 have hw:Region.wanted o (yielded ops a.tmps)=true:=by simp[Region.wanted,hgd]
 rw[if_pos hw];obtain⟨i,h1,h2,h3,h4⟩:=info_of z7O
 obtain⟨v',w',r1,r2,r3,_⟩:=run_append_own (P:= Tryz.prog) w B 30 o.type 46 i _ 4 32 Tryz.underlying30 h1 h2 h3 h4 rfl (by decide) v L.length (clp L) h ⟨b,0,none⟩ 1 c (clp [q]) rfl
  (z82 hc) (z79 _) (by unfold maxLen;omega) (by omega) hB
 unfold Oper.wp execOp;simp only[ho,resolve,invoke,builtin,Sem.run_bind,Sem.run_pure,Result.andThen_ok,List.map_toArray,List.map_cons,List.map_nil,hs,hx,r1];refine hK v' w' ?_ r3 ((Below.refl _ w).grown r3 hB (fun k hk=>(World.ownsRow.lt h k hk).1));unfold Owp;rw[qA,z13];exact r2
theorem zaO(A:Option Addr)(n c:Nat)(L:List Tk)(s:ByteArray)(w:World)(H:z5p w)(h:IsTks w A n L)(hnc:n≤c)(hn:n≤30000)(hs:s.size≤70000)(hm:∀t∈L,may t=true)(hz:Tx.szs L=s.size):
 Calls Tryz.prog 18 #[.slice A n c,.string s] w fun e w'=> ∃v,e=.returned (.tuple #[v,.int .i64 0])∧Owp w.heap.size w' v (pvs L s (pts L s))∧Below w.heap.size w w':=by
 have hG:Gv w A n c L s:=⟨H,h,hnc,hn,hs,hm,hz⟩;have HG:=hid hG;have hl:=h.leng;have hb1:=(Below.refl w.heap.size w).alloc qR (.cells #[.slice A n c] 29);have hb2:=hb1.alloc hb1.size (.cells #[.string s] 9);have hk1:=(Hb.new w 29 #[.slice A n c]).alloc (.cells #[.string s] 9);have hk2:=Hb.new (w.alloc (.cells #[.slice A n c] 29)) 9 #[.string s];simp only[World.size_alloc] at hk2;have HK:=hid (And.intro hk1 hk2);have HB:=hid hb2
 have HR:=hid (show Calls Tryz.prog 39 #[.slice A n c,.string s] ((w.alloc (.cells #[.slice A n c] 29)).alloc (.cells #[.string s] 9)) fun e w'=>e=.returned (.int .i64 0)∧Below ((w.alloc (.cells #[.slice A n c] 29)).alloc (.cells #[.string s] 9)).heap.size ((w.alloc (.cells #[.slice A n c] 29)).alloc (.cells #[.string s] 9)) w' from by
  have:=z5M A n c L s ((w.alloc (.cells #[.slice A n c] 29)).alloc (.cells #[.string s] 9)) (h.below hb2) hn hs;rw[zdx.2 ⟨hm,hz⟩] at this;exact this)
 have HCut:=hid (fun(w1:World) (b:Below w.heap.size w w1)=>zbS A n c L w1 (h.below b) hnc hn);have HJn:=hid (fun(lb sb mb tb m B N:Nat) (v:Value) (w1:World) (hO:z1e B w1 v (z91 L n (cnk n+1))) (hB:m<B) (hN:N≤100000) (C:Cs w lb sb mb tb m A n c L s N w1)=>z9c hG hO hB hN C);have hch:=zaz L s
 have hpl:(pts L s).length≤100:=by
  have h:=z0Z (kp L s) (cut L.length) (cnk L.length);have h2:(pts L s).length≤cnk L.length+1:=h;unfold cnk at h2;omega
 have hcn:cnk n≤29:=by unfold cnk;omega
 rw[hl] at hch;have HMm:=hid (fun(q:Nat×Nat) (hq:q∈pts L s)=>hch.mem hq);obtain⟨P,hP⟩:∃P,pts L s=P:=⟨_,rfl⟩
 rw[hP] at HJn HMm hpl ⊢;clear hch hP;have hmm:= @run_makeMap Tryz.prog;have hmf:∀ (fn:Fn) (first cap:Array Value) (w:World),(Instr.makeFunc fn first cap).run Tryz.prog w=.ok (.func fn first cap) w:=fun _ _ _ _=>rfl
 clear hb1 hb2 hk1 hk2 H h hm hz hG;go_enter Tryz.func18,Tryz.ntmps18
 go_upto_region 8 with(go_at_call 39;(with_reducible refine HR.out.mono ?_);rintro e w1 ⟨rfl,b1⟩;have hk1:=HK.out.1.next b1;have hk2:=HK.out.2.next b1;have q1:=hk1.cell1;have q2:=hk2.cell1;have K1:=hid hk1;have K2:=hid hk2;have B1:=hid (HB.out.trans (b1.mono HB.out.size));clear b1 hk1 hk2)
 obtain⟨m,hmE⟩:∃m,w1.heap.size=m:=⟨_,rfl⟩
 have k1:=((K1.out.alloc (.map #[] 0)).alloc (.cells #[.map (some m)] 94)).alloc (.cells #[.func (.func 40) #[] #[.pointer (some ⟨m+1,0,none⟩),.pointer (some ⟨w.heap.size,0,none⟩),.pointer (some ⟨w.heap.size+1,0,none⟩)]] 101);have k2:=((K2.out.alloc (.map #[] 0)).alloc (.cells #[.map (some m)] 94)).alloc (.cells #[.func (.func 40) #[] #[.pointer (some ⟨m+1,0,none⟩),.pointer (some ⟨w.heap.size,0,none⟩),.pointer (some ⟨w.heap.size+1,0,none⟩)]] 101);have k3:=(Hb.new (w1.alloc (.map #[] 0)) 94 #[.map (some m)]).alloc (.cells #[.func (.func 40) #[] #[.pointer (some ⟨m+1,0,none⟩),.pointer (some ⟨w.heap.size,0,none⟩),.pointer (some ⟨w.heap.size+1,0,none⟩)]] 101);have k4:=Hb.new ((w1.alloc (.map #[] 0)).alloc (.cells #[.map (some m)] 94)) 101 #[.func (.func 40) #[] #[.pointer (some ⟨m+1,0,none⟩),.pointer (some ⟨w.heap.size,0,none⟩),.pointer (some ⟨w.heap.size+1,0,none⟩)]];have b4:=((B1.out.alloc B1.out.size (.map #[] 0)).alloc (by have:=B1.out.size;simp;omega) (.cells #[.map (some m)] 94)).alloc (by have:=B1.out.size;simp;omega) (.cells #[.func (.func 40) #[] #[.pointer (some ⟨m+1,0,none⟩),.pointer (some ⟨w.heap.size,0,none⟩),.pointer (some ⟨w.heap.size+1,0,none⟩)]] 101);have m4:=(Mem.made w1 (kq L s)).of (w':=((w1.alloc (.map #[] 0)).alloc (.cells #[.map (some m)] 94)).alloc (.cells #[.func (.func 40) #[] #[.pointer (some ⟨m+1,0,none⟩),.pointer (some ⟨w.heap.size,0,none⟩),.pointer (some ⟨w.heap.size+1,0,none⟩)]] 101)) ((Below.heap_alloc _ _ _ (by simp;omega)).trans (Below.heap_alloc _ _ _ (by simp)));have hz1:=K1.out.lt;have hz2:=K2.out.lt;have hz4:(((w1.alloc (.map #[] 0)).alloc (.cells #[.map (some m)] 94)).alloc (.cells #[.func (.func 40) #[] #[.pointer (some ⟨m+1,0,none⟩),.pointer (some ⟨w.heap.size,0,none⟩),.pointer (some ⟨w.heap.size+1,0,none⟩)]] 101)).heap.size=m+1+1+1:=by simp[hmE]
 simp only[World.size_alloc,hmE] at k3 k4 m4 hz1 hz2;rw[hmE];generalize ((w1.alloc (.map #[] 0)).alloc (.cells #[.map (some m)] 94)).alloc (.cells #[.func (.func 40) #[] #[.pointer (some ⟨m+1,0,none⟩),.pointer (some ⟨w.heap.size,0,none⟩),.pointer (some ⟨w.heap.size+1,0,none⟩)]] 101)=w4 at k1 k2 k3 k4 b4 m4 hz4 ⊢;have cl:=k1.cell1;have C4:=hid (show Cs w w.heap.size (w.heap.size+1) (m+1) (m+1+1) m A n c L s 0 w4 from⟨k1.cell1,k2.cell1,k3.cell1,k4.cell1,m4,by omega,by omega,by omega,by omega,by omega,b4⟩);have HB4:=hid b4;clear k1 k2 k3 k4 b4 m4 hmE q1 q2 hmf hmm HR
 go_upto_region 9 with(first
  |(go_at_call 44;(with_reducible refine(HCut.out w4 HB4.out).mono ?_);rintro e w5 ⟨v5,rfl,o5,b5⟩;have O5:=hid o5;have C5:=hid (C4.out.next b5);have Z5:=hid b5.size;clear o5 b5)
  |(go_at_call 43;(with_reducible refine(HJn.out w.heap.size (w.heap.size+1) (m+1) (m+1+1) m w4.heap.size 0 v5 w5 O5.out (by omega) (by omega) C5.out).mono ?_);rintro e w6 ⟨v6,rfl,o6,N6,hN6,c6,k6⟩;obtain⟨A6,cc6,hv6⟩:=o6.form';rw[List.length_map] at hv6;subst hv6;have O6:=hid o6;have C6:=hid c6;have HN6:=hid hN6;have K6:=hid k6.size;clear o6 c6 k6 hN6))
 have HW6:=hid (show ∀w',Kept (One m) w6 w'→w6.heap.size≤w'.heap.size from fun w' h=>h.size);have hm6:m<w5.heap.size:=by have:=Z5.out;omega
 have hm66:m+1+1<w6.heap.size:=by have:=Z5.out;have:=K6.out;omega
 have hw6l:w.heap.size≤w6.heap.size:=C6.out.b.size
 go_loopw [10,27] (fun v i wr=> ∃j N':Nat,j≤P.length∧i=.int .i64 j∧Owp w6.heap.size wr v (pvs L s (P.take j))∧N'≤N6+j∧Cs w w.heap.size (w.heap.size+1) (m+1) (m+1+1) m A n c L s N' wr∧Kept (One m) w6 wr) (fun _ i _=>P.length - (intOf i).toNat)
 case atStart=>exact⟨0,N6,qZ,rfl,Owp.nil _ _,qR,C6.out,Kept.refl _ _⟩
 case round=>
  obtain⟨j,N1,hj,rfl,hO,hN1,hC,hK⟩:=hrel;have hPl:(pvs L s (P.take j)).length=j:=by unfold pvs;rw[List.length_map,List.length_take];omega
  obtain⟨A1,c1,hv⟩:=hO.form';rw[hPl] at hv;subst hv;have HOw:=hid hO;have HCw:=hid hC;have HKw:=hid hK;have hwr:=hK.size;by_cases hlt:j<P.length
  · have d1:decide ((j:Int)<(P.length:Int))=true:=q9T (by omega)
    have d1':decide (j<P.length)=true:=q9T hlt;obtain⟨⟨f,t⟩,hq⟩:∃q,P[j]? =some q:=⟨_,qE hlt⟩
    obtain⟨hft,htn⟩:=HMm.out (f,t) (List.mem_of_getElem? hq);simp only at hft htn;obtain⟨g,cc,hgv,hgc⟩:=O6.out.form (by rw[List.length_map];omega);simp only[Value.slice.injEq] at hgv;obtain⟨rfl,hgn,rfl⟩:=hgv;clear hgc hgn;have hgl:=O6.out.lt g rfl;obtain⟨n0,n1,n2,n3⟩:=O6.out.cell (i:=j) (q:=z3K L (f,t)) (List.length_map ..) (by rw[List.getElem?_map,hq];rfl);have n0:=hK.cell n0 (fun e=>by have:g=m:=e;omega);have n1:=hK.cell n1 (fun e=>by have:g=m:=e;omega);have n2:=hK.cell n2 (fun e=>by have:g=m:=e;omega);have n3:=hK.cell n3 (fun e=>by have:g=m:=e;omega);simp only[z3K] at n0 n1 n2 n3;have HT:=hid (fun(w1:World) (C:Cs w w.heap.size (w.heap.size+1) (m+1) (m+1+1) m A n c L s N1 w1)=>z2B HG.out hft htn (by have:=HN6.out;omega) C)
    have htk:pvs L s (P.take (j+1))=pvs L s (P.take j)++[⟨f,t,szt L t - szt L f,(kp L s f t).1⟩]:=by
     rw[List.take_add_one,hq,z0Y];rfl
    obtain⟨hxy,hys⟩:=HG.out.sub hft htn;have hkk:(kp L s f t).1≤2:=z53 _ _;obtain⟨x,hx⟩:∃x,szt L f=x:=⟨_,rfl⟩
    obtain⟨y,hy⟩:∃y,szt L t=y:=⟨_,rfl⟩
    obtain⟨k1,hk1⟩:∃k1,(kp L s f t).1=k1:=⟨_,rfl⟩
    obtain⟨k2,hk2⟩:∃k2,(kp L s f t).2=k2:=⟨_,rfl⟩
    obtain⟨d,hd⟩:∃d,y - x=d:=⟨_,rfl⟩
    rw[hx,hy,hk1,hk2] at HT;rw[hx,hy,hk1,hd] at htk;rw[hx] at n2;rw[hy] at n3;rw[hx,hy] at hxy;rw[hy] at hys;rw[hk1] at hkk;have hsb:(y:Int) - (x:Int)=(d:Int):=by omega
    have hw1:IntKind.i64.wrap (d:Int)=(d:Int):=by rw[IntKind.wrap_i64];omega
    have HTk:=hid htk;obtain⟨PL,hPL⟩:∃PL,pvs L s (P.take j)=PL:=⟨_,rfl⟩
    rw[hPL] at HOw HTk hPl;have hnx:=(Below.refl wr.heap.size wr).alloc qR (.cells #[.int .i64 f,.int .i64 t,.int .i64 x,.int .i64 y] 96);have HJM:=hid (And.intro hlt hN1);clear htk hO hC hK hq hx hy hk1 hk2 hd hPL hft htn hN1 hj;clear hgl
    go_upto_region 11 with fail
    have hk7:=Hb.new wr 96 #[.int .i64 f,.int .i64 t,.int .i64 x,.int .i64 y];have hc7:=HCw.out.next hnx
    have hK7:=HKw.out.trans (Kept.of_below hnx) (fun _ e=>e.elim);have ho7:=HOw.out.alloc (.cells #[.int .i64 f,.int .i64 t,.int .i64 x,.int .i64 y] 96);clear n0 n1 n2 n3 hnx;generalize wr.alloc (.cells #[.int .i64 f,.int .i64 t,.int .i64 x,.int .i64 y] 96)=w7 at hk7 hc7 hK7 ho7 ⊢;have HK7:=hid hk7;have C7:=hid hc7;have KK7:=hid hK7;have O7:=hid ho7;have HS:=hid (fun(w':World) (hk:Kept (One m) w7 w')=>(show w'.cell? ⟨m+1+1,0,none⟩=some (.func (.func 40) #[] #[.pointer (some ⟨m+1,0,none⟩),.pointer (some ⟨w.heap.size,0,none⟩),.pointer (some ⟨w.heap.size+1,0,none⟩)])∧w'.cell? ⟨wr.heap.size,0,none⟩=some (.int .i64 f)∧w'.cell? ⟨wr.heap.size,1,none⟩=some (.int .i64 t)∧w'.cell? ⟨wr.heap.size,2,none⟩=some (.int .i64 x)∧w'.cell? ⟨wr.heap.size,3,none⟩=some (.int .i64 y) from⟨hk.cell C7.out.ct C7.out.nt,(HK7.out.kept hk (fun e=>by have:wr.heap.size=m:=e;omega)).cells4⟩));have s7:=HS.out w7 (Kept.refl _ _);have hF0:=zc6;have hvl:=HOw.out.lt;clear hk7 hc7 hK7 ho7
    go_region_held3 (fun w':World=>w'.cell? ⟨m+1+1,0,none⟩=some (.func (.func 40) #[] #[.pointer (some ⟨m+1,0,none⟩),.pointer (some ⟨w.heap.size,0,none⟩),.pointer (some ⟨w.heap.size+1,0,none⟩)])∧w'.cell? ⟨wr.heap.size,0,none⟩=some (.int .i64 f)∧w'.cell? ⟨wr.heap.size,1,none⟩=some (.int .i64 t)∧w'.cell? ⟨wr.heap.size,2,none⟩=some (.int .i64 x)∧w'.cell? ⟨wr.heap.size,3,none⟩=some (.int .i64 y)) (first|exact s7|exact s8|exact s8a _|exact s9)
     (first
      |(go_at_call 40;(with_reducible refine(HT.out _ (by first|exact C7.out|exact C7.out.next (Below.refl _ _).drew)).mono ?_);rintro e w8 ⟨rfl,N8,hN8,c8,k8'⟩;have k8:Kept (One m) w7 w8:=(by first|exact k8'|exact(Kept.refl _ w7).drew.trans k8' (fun _ g=> .inl g));have s8:=HS.out w8 k8;have s8a:=fun o=>HS.out (w8.alloc o) (k8.alloc o);have C8:=hid c8;have K8:=hid k8;have O8:=hid (O7.out.at (fun g hg=>k8.block g (O7.out.lt g hg).2 (fun e=>by have h1:g=m:=e;have h2:=(O7.out.lt g hg).1;omega)));have HN8:=hid hN8;have hz8:=k8.size;have hz7:=HK7.out.lt;clear k8' k8 c8 hN8)
      |(refine zfM rfl (.tmp 31) (.tmp 46) rfl w6.heap.size _ PL rfl (O8.out.alloc _) w8.heap.size 1 ⟨f,t,d,k1⟩ rfl ⟨by simp,by simp,by simp,by simp⟩ (by omega) (by simp;omega) ?_;intro v9 w9 o9 g9 b9;have hp9:=((HK7.out.kept K8.out (fun e=>by have:wr.heap.size=m:=e;omega)).alloc (.cells #[.int .i64 f,.int .i64 t,.int .i64 d,.int .u8 k1] 46)).of (w':=w9) (g9.block _ (by simp;omega) (fun e=>by have:=(hvl _ e.symm).2;omega));have ct9:=(b9.cell (p:=⟨m+1+1,0,none⟩) (by show m+1+1<w6.heap.size;omega)).trans (s8a (.cells #[.int .i64 f,.int .i64 t,.int .i64 d,.int .u8 k1] 46)).1;have s9:=And.intro ct9 hp9.cells4;have k9:Kept (One m) w6 w9:=(((KK7.out.trans K8.out (fun _ g=> .inl g)).alloc (.cells #[.int .i64 f,.int .i64 t,.int .i64 d,.int .u8 k1] 46)).grown g9 (fun k e=> .inr (hvl k e).1));have M9:=hid ((C8.out.next ((Below.refl w8.heap.size w8).alloc qR (.cells #[.int .i64 f,.int .i64 t,.int .i64 d,.int .u8 k1] 46))).mem.of (w':=w9) (b9.block m (by omega)));have K9:=hid k9;have O9:=hid o9;clear o9 b9 g9 hp9 ct9 k9))
    rename_i hHeld
    clear hHeld s7 s8 s8a s9 hvl;go_wp2_with fail;go_roundw
    case rel=>exact⟨j+1,N8,HJM.out.1,by go_num,by rw[HTk.out];exact O9.out,by have:=HN8.out;have:=HJM.out.2;omega,C6.out.step K9.out M9.out,K9.out⟩
    case measure=>(have:=HJM.out.1;simp[intOf];try omega)
  · obtain rfl:j=P.length:=by omega
    have d1:decide ((P.length:Int)<(P.length:Int))=false:=qF (by omega);have d1':decide (P.length<P.length)=false:=qF (by omega);have HOf:=hid (show Owp w6.heap.size wr (.slice A1 P.length c1) (pvs L s P) by rw[List.take_of_length_le qR] at hO;exact hO);clear hO hC hK hj hN1;go_wp2_with fail;go_ret2;exact⟨_,rfl,HOf.out.low hw6l,HCw.out.b⟩
end Go.Proofs.YtacelhaidcmbcaaGreatDoor.V
