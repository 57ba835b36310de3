/- Texts of one place, one behind the other: BpE, BpF, BpG, BpH, BpI. -/
import Derived.Test.YtacelhaidcmbcaaGreatDoorTMBpC
import Derived.Test.YtacelhaidcmbcaaGreatDoorTMBlA
import Derived.Test.YtacelhaidcmbcaaGreatDoorTMPkE
import Derived.Deep.QuietTactic
import Derived.BigQuiet
import Derived.Test.YtacelhaidcmbcaaGreatDoorTMBwG
import Derived.Test.YtacelhaidcmbcaaGreatDoorTMRns
import Derived.Deep.CutRange
import Derived.Test.YtacelhaidcmbcaaGreatDoorTTbs
import Derived.Test.YtacelhaidcmbcaaGreatDoorTCdH
set_option maxHeartbeats 8000000
set_option maxRecDepth 1000000
set_option linter.unusedVariables false
set_option linter.unusedSimpArgs false
namespace Go.Proofs.YtacelhaidcmbcaaGreatDoor.V
open Go.Lib (hid)
open Go Go.RowKit M U
def z9C(W:World)(n:Nat)(f:Nat→Nat)(x:Ending)(w':World):Prop:=∃g,x=.returned (.tuple #[.slice (some ⟨g,0,none⟩) n n,.int .i64 0])∧W.heap.size≤g∧Br w' g n f∧Below W.heap.size W w'
theorem zbh(A:Option Addr)(n c' L:Nat)(c:Nat→Nat)(W:World)(hn:n≤320)(hc:∀i,c i≤1073741824)(H:z09 W .i64 A n (fun i=>(c i:Int)))(h1:1≤L)(h2:L≤15)(hb:n≤2^L):
 Calls Tryz.prog 129 #[.slice A n c',.int .i64 L] W (z9C W n (hfl c n L)):=
 zgw A n c' L _ c _ W hn hc H h1 h2 (z57 c n) (z62 c h1 hb)
theorem z7g{w:World}{g n:Nat}{f:Nat→Nat}(h:Br w g n f):z09 w .u8 (some ⟨g,0,none⟩) n (fun i=>(f i:Int)):=fun _=>⟨g,0,rfl,h.lt,fun i hi=>by rw[Nat.zero_add];exact h.cell hi⟩
def z8x(W:World)(f g:Nat→Nat)(x:Ending)(w':World):Prop:=∃a b,x=.returned (.tuple #[.agg #[.slice (some ⟨a,0,none⟩) 286 286,.slice (some ⟨b,0,none⟩) 30 30],.int .i64 0])∧W.heap.size≤a∧W.heap.size≤b∧Br w' a 286 f∧Br w' b 30 g∧Below W.heap.size W w'
theorem zc8(f g:Nat→Nat)(b:Nat)(w:World)(hf:∀i,f i≤1073741824)(hg:∀i,g i≤1073741824):Calls Tryz.prog 105 #[.agg (CV f g b)] w (z8x w (hfl f 286 15) (hfl g 30 15)):=by
 have HL1:=hid (show ∀W,Cn W w.heap.size f g b→Calls Tryz.prog 129 #[.slice (some ⟨w.heap.size,0,none⟩) 286 286,.int .i64 15] W (z9C W 286 (hfl f 286 15)) from fun W h=>zbh _ 286 286 15 f W (by omega) hf h.nums (by omega) (by omega) (by decide));have HL2:=hid (show ∀W,Cn W w.heap.size f g b→Calls Tryz.prog 129 #[.slice (some ⟨w.heap.size,286,none⟩) 30 30,.int .i64 15] W (z9C W 30 (hfl g 30 15)) from fun W h=>zbh _ 30 30 15 g W (by omega) hg h.numsd (by omega) (by omega) (by decide));have HC0:=hid ((Cn.new w f g b).alloc (.cells #[.slice none 0 0,.slice none 0 0] 74))
 have hk:C2 ((w.alloc (.cells (CV f g b) 158)).alloc (.cells #[.slice none 0 0,.slice none 0 0] 74)) (w.heap.size+1) (.slice none 0 0) (.slice none 0 0):=by
  have:=C2.new (w.alloc (.cells (CV f g b) 158)) (.slice none 0 0) (.slice none 0 0);rw[World.size_alloc] at this;exact this
 have HK:=hid hk;have HB:=hid (((Below.refl w.heap.size w).alloc qR (.cells (CV f g b) 158)).alloc (by simp) (.cells #[.slice none 0 0,.slice none 0 0] 74));unfold z9C at HL1 HL2;unfold z8x;clear hf hg hk;go_enter Tryz.func105,Tryz.ntmps105
 go_wp2_with (first
  |(go_at_call 129;(with_reducible refine(HL1.out _ HC0.out).mono ?_);rintro e w1 ⟨a,rfl,na,ra,b1⟩;have C1:=hid (HC0.out.below b1);have K1:=hid (HK.out.below b1);have R1:=hid ra;have N1:=hid na;have B1:=hid (HB.out.trans (b1.mono HB.out.size));clear b1 ra na)
  |(go_at_call 129;(with_reducible refine(HL2.out _ C1.out).mono ?_);rintro e w2 ⟨z,rfl,nz,rz,b2⟩;have k2:=K1.out.below b2;have K2:=hid k2;have c0:=k2.at0;have c1:=k2.at1;have f0:=k2.frozen 0;have f1:=k2.frozen 1;have R2:=hid (z0I R1.out b2);have R3:=hid rz;have N2:=hid nz;have B2:=hid (B1.out.trans (b2.mono B1.out.size));clear b2 rz nz k2))
 have n1:=N1.out;have n2:=N2.out;have n3:=B1.out.size;have n4:=World.rowIs.lt K1.out;simp only[World.size_alloc] at n1;refine bodyPost_ret (v:=.tuple #[.agg #[.slice (some ⟨a,0,none⟩) 286 286,.slice (some ⟨z,0,none⟩) 30 30],.int .i64 0]) (z0f (p:=2) (u:=3) (ty:= 74) rfl _ _ (w.heap.size+1) _ _ _ _ rfl (K2.out.put _ _).row Tryz.underlying74 rfl z24) rfl ⟨a,z,rfl,by omega,by omega,(R2.out.other (by show a≠w.heap.size+1;omega) _).other (by show a≠w.heap.size+1;omega) _,(R3.out.other (by show z≠w.heap.size+1;omega) _).other (by show z≠w.heap.size+1;omega) _,(B2.out.setCell (p:=⟨w.heap.size+1,0,none⟩) (by show w.heap.size≤w.heap.size+1;omega) _).setCell (p:=⟨w.heap.size+1,1,none⟩) (by show w.heap.size≤w.heap.size+1;omega) _⟩
theorem zf4(b:Bool)(S:List Sy)(h:S.length≤200001)(i:Nat):cs b S i≤1073741824:=qK (z2y b S i) (by omega)
theorem zgZ(L:List Tk)(w:World)(h:(sys L).length≤200001):Calls Tryz.prog 105 #[.agg (CV (cs false (sys L)) (cs true (sys L)) (smb (sys L)))] w (z8x w (ll1 L) (ll2 L)):=
 zc8 _ _ _ w (zf4 false _ h) (zf4 true _ h)
abbrev Cd:=Nat×Nat
def clc:List Cd→List Value
 |[]=> []
 |t::l=> .int .u32 (t.1:Int)::.int .u8 (t.2:Int)::clc l
theorem z1t:∀l,(clc l).length=l.length*2
 |[]=>rfl
 |t::l=>by simp only[clc,qC];rw[z1t l];omega
theorem z4m:∀l r,clc (l++r)=clc l++clc r
 |[],_=>rfl
 |t::l,r=>by simp only[List.cons_append,clc];rw[z4m l r]
theorem z8m:∀ (l:List Cd) (i:Nat) (t:Cd),l[i]? =some t→(clc l)[i*2]? =some (.int .u32 (t.1:Int))∧(clc l)[i*2+1]? =some (.int .u8 (t.2:Int))
 |[],i,t,h=>by simp at h
 |a::l,0,t,h=>by simp at h;subst h;simp[clc]
 |a::l,i+1,t,h=>by
  rw[List.getElem?_cons_succ] at h;obtain⟨h1,h2⟩:=z8m l i t h;simp only[clc];refine⟨?_,?_⟩
  · rw[show(i+1)*2=i*2+1+1 by omega];simpa using h1
  · rw[show(i+1)*2+1=i*2+1+1+1 by omega];simpa using h2
theorem zc4:∀ (l:List Cd),∀u∈clc l,u.oneCell'=true
 |[],u,h=>by simp[clc] at h
 |t::l,u,h=>by
  simp only[clc,List.mem_cons] at h;rcases h with rfl|rfl|h
  · rfl
  · rfl
  · exact zc4 l u h
structure z0b(w:World)(A:Option Addr)(n:Nat)(l:List Cd):Prop where
 leng:l.length=n
 cells:n=0∨∃b o,A=some ⟨b,o,none⟩∧b<w.heap.size∧∀ (i:Nat) (c:Cd),l[i]? =some c→w.cell? ⟨b,o+i*2,none⟩=some (.int .u32 (c.1:Int))∧w.cell? ⟨b,o+i*2+1,none⟩=some (.int .u8 (c.2:Int))
section
variable {w w':World} {A:Option Addr} {n:Nat} {l:List Cd}
theorem z0b.below(h:z0b w A n l)(hb:Below w.heap.size w w'):z0b w' A n l:=by
 refine⟨h.leng,?_⟩;rcases h.cells with g|⟨b,o,g1,g2,g3⟩
 · exact .inl g
 · exact .inr ⟨b,o,g1,Nat.lt_of_lt_of_le g2 hb.size,fun i x hx=>⟨(hb.cell g2).trans (g3 i x hx).1,(hb.cell g2).trans (g3 i x hx).2⟩⟩
theorem z0b.at(h:z0b w A n l)(hn:0<n):∃b o,A=some ⟨b,o,none⟩∧b<w.heap.size∧∀i,i<n→w.cell? ⟨b,o+i*2,none⟩=some (.int .u32 ((l.getD i default).1:Nat))∧w.cell? ⟨b,o+i*2+1,none⟩=some (.int .u8 ((l.getD i default).2:Nat)):=by
 rcases h.cells with g|⟨b,o,g1,g2,g3⟩
 · omega
 · exact⟨b,o,g1,g2,fun i hi=>g3 i _ (by rw[List.getD,qE (by rw[h.leng];exact hi)];rfl)⟩
theorem z0b.nil(w:World)(A:Option Addr):z0b w A 0 []:=⟨rfl,.inl rfl⟩
theorem z0b.of_row{g n:Nat}{l:List Cd}{cs:Array Value}{T:TypeId}(h:w.heap[g]? =some (.cells cs T (0,0)))(e:cs.toList=clc l)(hl:l.length=n):z0b w (some ⟨g,0,none⟩) n l:=by
 refine⟨hl,.inr ⟨g,0,rfl,(qW.1 h).1,fun i c hc=> ?_⟩⟩;obtain⟨h1,h2⟩:=z8m l i c hc;rw[←e] at h1 h2;rw[Nat.zero_add,cell_of_row _ _ _ _ _ (0,0) h,cell_of_row _ _ _ _ _ (0,0) h];simp only[Array.getElem?_toList] at h1 h2;exact⟨h1,h2⟩
end
def Owc(B:Nat)(w:World)(v:Value)(L:List Cd):Prop:=w.ownsRow B 128 2 v L.length (clc L)
section
variable {B:Nat} {w w':World} {v:Value} {L:List Cd}
theorem Owc.alloc(h:Owc B w v L)(o:Obj):Owc B (w.alloc o) v L:=World.ownsRow.alloc h o
theorem Owc.at(h:Owc B w v L)(e:∀g,v.ownBlock=some g→w'.heap[g]? =w.heap[g]?):Owc B w' v L:=z0c h e
theorem Owc.lt(h:Owc B w v L):∀g,v.ownBlock=some g→B≤g∧g<w.heap.size:=World.ownsRow.lt h
theorem Owc.below(h:Owc B w v L)(hb:Below w.heap.size w w'):Owc B w' v L:=h.at fun g hg=>hb.block g (h.lt g hg).2
theorem Owc.cds(h:Owc B w v L):∃A c,v=.slice A L.length c∧z0b w A L.length L:=by
 rcases h.2 with⟨rfl,h0⟩|⟨g,cap,cur,rfl,_,hh,_⟩
 · exact⟨none,0,by rw[h0],rfl,.inl h0⟩
 · refine⟨_,cap,rfl,rfl,.inr ⟨g,0,rfl,(qW.1 hh).1,fun i t ht=> ?_⟩⟩
   obtain⟨h1,h2⟩:=z8m L i t ht;have k:=fun j u hu=>h.cells (g:=g) rfl j u hu
   simp only[z0o] at k;rw[Nat.zero_add];have k1:=k _ _ h1;have k2:=k _ _ h2;rw[Nat.zero_add] at k1 k2;exact⟨k1,k2⟩
theorem Owc.lit(w:World)(cs:Array Value)(l:List Cd)(n:Nat)(hn:l.length=n)(h5:n≤1000)(e:cs.toList=clc l)(B:Nat)(hB:B≤w.heap.size):Owc B (w.alloc (.cells cs 128)) (.slice (some ⟨w.heap.size,0,none⟩) n n) l:=by
 have:=World.ownsRow_lit (base:=B) (e:= 128) (size:=2) w cs n hB (by unfold maxLen;omega) (by rw[←Array.length_toList,e,z1t,hn]);unfold Owc;rw[hn,←e];exact this
end
theorem z3m:(Tryz.prog.info? 128).map (fun i=>(i.zero,i.size,i.bytes))=some (some (.agg #[.int .u32 0,.int .u8 0]),2,8):=by kernel_rfl
theorem z0M{w:World}(ty:TypeId){B:Nat}{v:Value}{l:List Cd}(h:Owc B w v l){A:Option Addr}{n c:Nat}{r:List Cd}(hr:z0b w A n r)(hn:0<n)(hL:l.length+r.length≤3000000)(hB:B≤w.heap.size):
 ∃v' w',(Builtin.append_ #[118,118] ty #[v,.slice A n c]).run Tryz.prog w=.ok v' w'∧Owc B w' v' (l++r)∧Below B w w'∧w.grownBy w' v.ownBlock∧∀g,v'.ownBlock=some g→v.ownBlock=some g∨w.heap.size≤g:=by
 obtain⟨i,h1,h2,h3,h4⟩:=info_of z3m;obtain⟨b,q,rfl,hb,hc⟩:=hr.at hn;have hl:=hr.leng
 obtain⟨g,cap,w',r1,r2,r3,r4,_⟩:=run_append_lies (P:= Tryz.prog) w 118 ty B 128 i _ 2 8 Tryz.underlying118 h1 h2 h3 h4 rfl (by decide) v l.length (clc l) h ⟨b,q,none⟩ n c (clc r) (by rw[z1t];omega)
  (fun j u hu=>by
   rw[z0o];have hj:j<r.length*2:=by have:=(List.getElem?_eq_some_iff.1 hu).1;rw[z1t] at this;exact this
   obtain⟨k,hk⟩:∃k,j/2=k:=⟨_,rfl⟩
   have hkr:k<r.length:=by omega
   have hg:r[k]? =some (r.getD k default):=by rw[List.getD,qE hkr];rfl
   obtain⟨a1,a2⟩:=z8m r k _ hg;obtain⟨c1,c2⟩:=hc k (by omega);by_cases he:j%2=0
   · rw[show j=k*2 by omega] at hu ⊢
     rw[a1] at hu;rw[c1];exact hu
   · rw[show j=k*2+1 by omega] at hu ⊢
     rw[a2] at hu;rw[←Nat.add_assoc,c2];exact hu) (zc4 r) (by omega) (by unfold maxLen;omega) (by omega) hB _ rfl
 refine⟨_,w',r1,?_,(Below.refl _ w).grown r3 hB (fun k hk=>(World.ownsRow.lt h k hk).1),r3,fun k hk=> ?_⟩
 · unfold Owc
   rw[qA,z4m,hl];exact r2
 · obtain rfl:g=k:=by simpa [Value.ownBlock] using hk
   rcases r4 with q|q
   · exact .inl q
   · exact .inr (by omega)
theorem z8B{ops:Array Oper}{rest:List Oper}{o:Oper}{a:Act}{w:World}{Q:Exit→Act→World→Prop}(hgd:o.guard=none)(s x:Operand)
 (ho:o.op=.call {callee:=.builtin .append,args:= #[s,x],argTypes:= #[118,118]}) (B:Nat) (v:Value) (l:List Cd) (hs:a.eval s=v) (h:Owc B w v l) (A:Option Addr) (n c:Nat) (r:List Cd)
 (hx:a.eval x=.slice A n c) (hr:z0b w A n r) (hn:0<n) (hL:l.length+r.length≤3000000) (hB:B≤w.heap.size)
 (hK:∀v' w',Owc B w' v' (l++r)→Below B w w'→w.grownBy w' v.ownBlock→(∀g,v'.ownBlock=some g→v.ownBlock=some g∨w.heap.size≤g)→wpList Tryz.prog ops Q rest (a.put o.dst v') w'):wpList Tryz.prog ops Q (o::rest) a w:=
 wpList_plain hgd fun K hK'=>by
  obtain⟨v',w',r1,r2,r3,r4,r5⟩:=z0M (c:=c) o.type h hr hn hL hB;unfold Oper.wp execOp;simp only[ho,resolve,invoke,builtin,Sem.run_bind,Sem.run_pure,Result.andThen_ok,List.map_toArray,List.map_cons,List.map_nil,hs,hx,r1];exact hK' _ _ (hK v' w' r2 r3 r4 r5)
theorem zcS{ops:Array Oper}{o:Oper}{a:Act}{w:World}{K:Act→World→Prop}{Q:Exit→Act→World→Prop}{E:Prop}(hgd:o.guard=none)(s x:Operand)
 (ho:o.op=.call {callee:=.builtin .append,args:= #[s,x],argTypes:= #[118,118]}) (B:Nat) (v:Value) (l:List Cd) (hs:a.eval s=v) (h:Owc B w v l) (A:Option Addr) (n c:Nat) (r:List Cd)
 (hx:a.eval x=.slice A n c) (hr:z0b w A n r) (hn:0<n) (hL:l.length+r.length≤3000000) (hB:B≤w.heap.size)
 (hK:∀v' w',Owc B w' v' (l++r)→Below B w w'→w.grownBy w' v.ownBlock→(∀g,v'.ownBlock=some g→v.ownBlock=some g∨w.heap.size≤g)→K (a.put o.dst v') w'):if Region.wanted o (yielded ops a.tmps)=true then Oper.wp Tryz.prog o a w K Q else E:=by
 have hw:Region.wanted o (yielded ops a.tmps)=true:=by simp[Region.wanted,hgd]
 rw[if_pos hw];obtain⟨v',w',r1,r2,r3,r4,r5⟩:=z0M (c:=c) o.type h hr hn hL hB;unfold Oper.wp execOp;simp only[ho,resolve,invoke,builtin,Sem.run_bind,Sem.run_pure,Result.andThen_ok,List.map_toArray,List.map_cons,List.map_nil,hs,hx,r1];exact hK v' w' r2 r3 r4 r5
theorem z7m(l:List Nat)(least k:Nat):∀d,(∀j,k≤j→j<k+d→l.getD j 0=0)→upk l least (k+d)=upk l least k
 |0,_=>rfl
 |d+1,h=>by
  rw[←Nat.add_assoc,z2A,if_neg (by rw[h (k+d) (by omega) (by omega)];omega)];exact z7m l least k d (fun j h1 h2=>h j h1 (by omega))
theorem zho(l:List Nat)(least k:Nat)(h1:least≤k)(h2:k≤l.length)(hz:∀j,k≤j→j<l.length→l.getD j 0=0)(he:k=least∨0<l.getD (k - 1) 0):upt l least=k:=by
 have e:upt l least=upk l least l.length:=rfl;rw[e,show l.length=k+(l.length - k) by omega,z7m l least k _ (fun j a b=>hz j a (by omega))];rcases he with rfl|he
 · have:=z3W l k k;omega
 · by_cases h0:k=0
   · subst h0;have:=z3W l least 0;omega
   · obtain⟨q,rfl⟩:∃q,k=q+1:=⟨k - 1,by omega⟩
     have:=z3W l least q;rw[z2A,if_pos (by simpa using he)];by_cases h3:least=q+1
     · omega
     · omega
theorem told_any(A:Option Addr)(n c least:Nat)(l:List Nat)(w:World)(H:IsBys w A n l)(hc:n≤c)(h1:least≤n)(hn:n≤1000)(h0:1≤least):
 Calls Tryz.prog 130 #[.slice A n c,.int .i64 least] w fun e w'=>e=.returned (.slice A (upt l least) c)∧∃q,w'=w.drewN q:=by
 obtain⟨b,o,rfl,hb,hcs⟩:=H.at (by omega);have HCs:=hid hcs;have HUp:=hid (fun k a b c d=>zho l least k a b c d);have hlen:=H.leng;clear H hcs;go_enter Tryz.func130,Tryz.ntmps130;go_wp2_with fail
 go_loopw [5] (fun x wr=> ∃k:Nat,least≤k∧k≤n∧x=.int .i64 k∧(∀j,k≤j→j<n→l.getD j 0=0)∧∃q,wr=w.drewN q) (fun x _=>(intOf x).toNat)
 case atStart=>exact⟨n,h1,qR,rfl,fun j a b=>absurd b (by omega),0,rfl⟩
 case round=>
  obtain⟨k,hk1,hk2,rfl,hz,q,rfl⟩:=hrel;have HZ:=hid hz;clear hz;by_cases h3:least<k
  · have d1:decide ((least:Int)<(k:Int))=true:=q9T (by omega)
    have d1':decide (least<k)=true:=q9T h3;obtain⟨p,rfl⟩:∃p,k=p+1:=⟨k - 1,by omega⟩
    have e1:((p+1:Nat):Int) - 1=(p:Int):=by omega
    have e2:(p:Int)+1 - 1=(p:Int):=by omega
    have hp:p<n:=by omega
    have c0:(w.drewN q).cell? ⟨b,o+p,none⟩=some (.int .u8 (l.getD p 0:Nat)):=HCs.out p hp;obtain⟨x,hx⟩:∃x,l.getD p 0=x:=⟨_,rfl⟩
    rw[hx] at c0;by_cases hx0:x=0
    · subst hx0
      have HX:=hid hx;clear hx;go_wp2_with fail;go_roundw
      case rel=>exact⟨p,by omega,by omega,by go_num,fun j a b=>(by
       by_cases e:j=p
       · subst e;exact HX.out
       · exact HZ.out j (by omega) b),_,rfl⟩
      case measure=>(simp[intOf];try omega)
    · have d2:((x:Int)==0)=false:=by rw[qN];omega
      have d2':decide ((x:Int)=0)=false:=qF (by omega);have HX:=hid (HUp.out (p+1) (by omega) (by omega) (by rw[hlen];exact HZ.out) (.inr (by simp only[Nat.add_sub_cancel];omega)));clear hx;go_wp2_with fail;go_ret;exact⟨by rw[HX.out];rfl,_,rfl⟩
  · obtain rfl:k=least:=by omega
    have d1:decide ((k:Int)<(k:Int))=false:=qF (by omega);have d1':decide (k<k)=false:=qF (by omega);have HX:=hid (HUp.out k (by omega) (by omega) (by rw[hlen];exact HZ.out) (.inl rfl));go_wp2_with fail;go_ret;exact⟨by rw[HX.out];rfl,_,rfl⟩
theorem zhC(F:Nat→Value){cs:Array Value}(e:cs=((List.range 19).map F).toArray):∀i,i<19→cs[i]? =some (F i):=fun i hi=>by
 rw[e,List.getElem?_toArray,List.getElem?_map,List.getElem?_range hi];rfl
def In(w:World)(X:Nat)(f:Nat→Nat):Prop:=w.rowIs X 247 19 (fun i=> .int .i64 (f i:Nat))
section
variable {w w':World} {X:Nat} {f f':Nat→Nat}
theorem In.new(w:World):In (w.alloc (.cells #[.int .i64 0,.int .i64 0,.int .i64 0,.int .i64 0,.int .i64 0,.int .i64 0,.int .i64 0,.int .i64 0,.int .i64 0,.int .i64 0,.int .i64 0,.int .i64 0,.int .i64 0,.int .i64 0,.int .i64 0,.int .i64 0,.int .i64 0,.int .i64 0,.int .i64 0] 247)) w.heap.size (fun _=>0):=
 ⟨_,heap_alloc_new _ _,rfl,zhC _ rfl⟩
theorem In.lt(h:In w X f):X<w.heap.size:=World.rowIs.lt h
theorem In.cell(h:In w X f){i:Nat}(hi:i<19):w.cell? ⟨X,i,none⟩=some (.int .i64 (f i:Nat)):=World.rowIs.cell h hi
theorem In.free(h:In w X f)(i:Nat):w.frozen? ⟨X,i,none⟩=false:=World.rowIs.frozen h i
theorem In.set(h:In w X f)(i v:Nat)(e:∀j,j<19→f' j=if j=i then v else f j):In (w.setCell ⟨X,i,none⟩ (.int .i64 (v:Nat))) X f':=
 World.rowIs.congr (World.rowIs.set h i (.int .i64 (v:Nat))) (fun j hj=>by rw[e j hj];by_cases q:j=i<;>simp[q])
theorem In.alloc(h:In w X f)(o:Obj):In (w.alloc o) X f:=World.rowIs.alloc h o
theorem In.nums(h:In w X f):z09 w .i64 (some ⟨X,0,none⟩) 19 (fun i=>(f i:Int)):=fun _=>⟨X,0,rfl,h.lt,fun i hi=>by rw[Nat.zero_add];exact h.cell hi⟩
end
theorem z99(A:Option Addr)(n c:Nat)(r:List Rn)(w:World)(H:z3T w A n r)(hn:n≤2000)(hr:∀x∈r,Rok x):
 Calls Tryz.prog 132 #[.slice A n c] w fun e w'=> ∃g,e=.returned (.slice (some ⟨g,0,none⟩) 19 19)∧w.heap.size≤g∧Br w' g 19 (hfl (rc r) 19 7)∧Below w.heap.size w w':=by
 have HH:=hid H;have HR:=hid (show ∀i,i<n→(r.getD i default).s≤18 from fun i hi=>(hr _ (by rw[List.getD,qE (by rw[H.leng];exact hi)];exact List.getElem_mem _)).1);have hleng:=H.leng;have HL:=hid (show ∀W,In W w.heap.size (rc r)→Calls Tryz.prog 129 #[.slice (some ⟨w.heap.size,0,none⟩) 19 19,.int .i64 7] W (z9C W 19 (hfl (rc r) 19 7)) from fun W h=>zbh _ 19 19 7 (rc r) W (by omega) (fun i=>qK (zao r i) (by omega)) h.nums (by omega) (by omega) (by decide));unfold z9C at HL;clear H hr;go_enter Tryz.func132,Tryz.ntmps132;go_wp2_with fail
 go_loopw [10] (fun x wr=> ∃k:Nat,k≤n∧x=.int .i64 k∧In wr w.heap.size (rc (r.take k))∧Below w.heap.size w wr) (fun x _=>n - (intOf x).toNat)
 case atStart=>exact⟨0,qZ,rfl,In.new w,qL⟩
 case round=>
  obtain⟨k,hk,rfl,hi,hb⟩:=hrel;by_cases hlt:k<n
  · have d1:decide ((k:Int)<(n:Int))=true:=q9T (by omega)
    have d1':decide (k<n)=true:=q9T hlt;obtain⟨b,o,rfl,hbl,hcs⟩:=(HH.out.below hb).at (by omega);obtain⟨c0,c1⟩:=hcs k hlt;have hs:=HR.out k hlt;have hsucc:=zan r k (by omega);have hle:=zao (r.take k);rw[List.length_take] at hle;obtain⟨t,ht⟩:∃t,r.getD k default=t:=⟨_,rfl⟩
    rw[ht] at c0 c1 hs hsucc;obtain⟨s,e⟩:=t;simp only at c0 c1 hs hsucc;have hs2:s<19:=by omega
    have hk2:k≤2000:=by omega
    have v0:=(hi.alloc (.cells #[.int .u8 s,.int .u8 e] 138)).cell hs2;have f0:=(hi.alloc (.cells #[.int .u8 s,.int .u8 e] 138)).free s;obtain⟨v,hv⟩:∃v,rc (r.take k) s=v:=⟨_,rfl⟩
    have hv2:v≤2000:=by have:=hle s;omega
    rw[hv] at v0
    have HI:=hid ((hi.alloc (.cells #[.int .u8 s,.int .u8 e] 138)).set (f':=rc (r.take (k+1))) s (v+1) (fun j _=>by
     rw[hsucc j];by_cases q:j=s
     · subst q;simp[hv]
     · rw[if_neg (fun z=>q z.symm),if_neg q];rfl))
    have HB:=hid ((hb.alloc hb.size (.cells #[.int .u8 s,.int .u8 e] 138)).setCell (p:=⟨w.heap.size,s,none⟩) qR (.int .i64 ((v+1:Nat):Int)));clear hi hb hcs hsucc hle ht hv hs;go_wp2_with fail;go_roundw
    case rel=>exact⟨k+1,by omega,by go_num,HI.out,HB.out⟩
    case measure=>(simp[intOf];try omega)
  · obtain rfl:k=n:=by omega
    have d1:decide ((k:Int)<(k:Int))=false:=qF (by omega);have d1':decide (k<k)=false:=qF (by omega);rw[List.take_of_length_le (by omega)] at hi;have HI:=hid hi;have HB:=hid hb;clear hi hb;go_wp2_with (go_at_call 129;(with_reducible refine(HL.out _ HI.out).mono ?_);rintro e w1 ⟨g,rfl,ng,rg,b1⟩;have R1:=hid rg;have N1:=hid ng;have B1:=hid (HB.out.trans (b1.mono HB.out.size));clear rg ng b1);go_ret;exact⟨g,rfl,qK HB.out.size N1.out,R1.out,B1.out⟩
theorem zgf(w:World):Calls Tryz.prog 153 #[] w fun e w'=>e=.returned (.slice (some ⟨w.heap.size,0,none⟩) 19 19)∧Br w' w.heap.size 19 (fun i=>ord.getD i 0)∧Below w.heap.size w w':=by
 go_enter Tryz.func153,Tryz.ntmps153;go_wp2;go_ret;exact⟨rfl,⟨_,heap_alloc_new _ _,rfl,zhC _ rfl⟩,qL⟩
theorem z6T(g:Nat)(c:Nat)(f:Nat→Nat)(w:World)(H:Br w g 19 f)(hf:∀i,f i≤255):
 Calls Tryz.prog 133 #[.slice (some ⟨g,0,none⟩) 19 c] w fun e w'=> ∃z,e=.returned (.slice (some ⟨z,0,none⟩) 19 19)∧IsBys w' (some ⟨z,0,none⟩) 19 (inl f)∧Below w.heap.size w w':=by
 have HO:=hid (zgf w);have HH:=hid H;have hgl:=H.lt;have HOr:=hid (show ∀i,i<19→ord.getD i 0<19 by decide);clear H;go_enter Tryz.func133,Tryz.ntmps133;go_wp2_with (go_at_call 153;(with_reducible refine HO.out.mono ?_);rintro e w1 ⟨rfl,r1,b1⟩;have R1:=hid r1;have B1:=hid b1;clear r1 b1)
 go_loopw [9] (fun x wr=> ∃k:Nat,k≤19∧x=.int .i64 k∧Br wr w.heap.size 19 (fun i=>if i<k then f (ord.getD i 0) else ord.getD i 0)∧Below w.heap.size w wr) (fun x _=>19 - (intOf x).toNat)
 case atStart=>exact⟨0,qZ,rfl,R1.out.congr (fun i hi=>by rw[if_neg (by omega)]),B1.out⟩
 case round=>
  obtain⟨k,hk,rfl,hi,hb⟩:=hrel;by_cases hlt:k<19
  · have d1:decide ((k:Int)<19)=true:=q9T (by omega)
    have d1':decide (k<19)=true:=q9T hlt;have ho:=HOr.out k hlt;have c0:=hi.cell hlt;rw[if_neg (by omega)] at c0;obtain⟨s,hs⟩:∃s,ord.getD k 0=s:=⟨_,rfl⟩
    rw[hs] at ho c0;have c1:=(HH.out.below hb hgl).cell ho;have f0:=hi.frozen k;obtain⟨x,hx⟩:∃x,f s=x:=⟨_,rfl⟩
    rw[hx] at c1
    have HI:=hid ((hi.set k x).congr (f':=fun i=>if i<k+1 then f (ord.getD i 0) else ord.getD i 0) (fun i hi2=>by
     by_cases q:i=k
     · subst q;rw[if_pos rfl,if_pos (by omega),hs,hx]
     · rw[if_neg q]
       by_cases q2:i<k
       · rw[if_pos q2,if_pos (by omega)]
       · rw[if_neg q2,if_neg (by omega)]))
    have HB:=hid (hb.setCell (p:=⟨w.heap.size,k,none⟩) qR (.int .u8 x));clear hi hb hs hx;go_wp2_with fail;go_roundw
    case rel=>exact⟨k+1,by omega,by go_num,HI.out,HB.out⟩
    case measure=>(simp[intOf];try omega)
  · obtain rfl:k=19:=by omega
    have HI:=hid hi;have HB:=hid hb;clear hi hb;go_wp2_with fail;go_ret;refine⟨_,rfl,⟨by simp[inl,ord],by decide,fun x hx=> ?_,.inr ⟨w.heap.size,0,rfl,HI.out.lt,fun i x hx=> ?_⟩⟩,HB.out⟩
    · unfold inl at hx
      obtain⟨y,_,rfl⟩:=List.mem_map.1 hx;exact hf y
    · have hi2:i<19:=by
       have:=(List.getElem?_eq_some_iff.1 hx).1
       simpa [inl,ord] using this
      have hc:=HI.out.cell hi2;rw[if_pos hi2] at hc;unfold inl at hx;rw[List.getElem?_map] at hx;rw[Nat.zero_add,hc];obtain⟨y,hy,rfl⟩:=Option.map_eq_some_iff.1 hx;rw[List.getD,hy];rfl
def tb3(x1 x2:List Nat)(f:Nat→Nat):List Cd:=[(upt x1 257 - 257,5),(upt x2 1 - 1,5),(upt (inl f) 4 - 4,4)]
def tbi(f:Nat→Nat):List Cd:=((inl f).take (upt (inl f) 4)).map (fun x=>(x,3))
def tr1(f:Nat→Nat)(y:Rn):List Cd:=[(C.rc f 19 y.s,f y.s),(y.e,rbn y.s)]
def tbr(f:Nat→Nat)(r:List Rn):List Cd:=r.flatMap (tr1 f)
def rrn(x1 x2:List Nat):List Rn:=pk (x1.take (upt x1 257)++x2.take (upt x2 1))
noncomputable def rrf(x1 x2:List Nat):Nat→Nat:=hfl (rc (rrn x1 x2)) 19 7
noncomputable def tbl(x1 x2:List Nat):List Cd:=tb3 x1 x2 (rrf x1 x2)++tbi (rrf x1 x2)++tbr (rrf x1 x2) (rrn x1 x2)
theorem zcH(f:Nat→Nat)(r:List Rn)(k:Nat)(hk:k<r.length):tbr f (r.take (k+1))=tbr f (r.take k)++tr1 f (r.getD k default):=by
 unfold tbr;rw[List.take_add_one,List.getD,qE hk,List.flatMap_append];simp
theorem z6v(f:Nat→Nat):∀r:List Rn,(tbr f r).length=2*r.length
 |[]=>rfl
 |y::r=>by unfold tbr;rw[List.flatMap_cons,qA,qC];have:=z6v f r;unfold tbr at this;rw[this];show 2+_=_;omega
theorem z8t(n:Int)(s:Nat)(w:World)(hs:s≤255):Calls Tryz.prog 109 #[.int .u32 n,.int .i64 s] w fun e w'=>e=.returned (.agg #[.int .u32 n,.int .u8 s])∧w.alloc (.cells #[.int .u32 n,.int .u8 s] 128)=w':=by
 go_enter Tryz.func109,Tryz.ntmps109;go_wp2;exact bodyPost_ret (v:=.agg #[.int .u32 n,.int .u8 s]) (results_cell_row rfl _ _ w.heap.size _ _ _ _ rfl (heap_alloc_new _ _) Tryz.underlying128 rfl z6k) rfl ⟨rfl,rfl⟩
theorem z1v(n:Int)(s:Nat)(w:World)(hs:s≤255):Calls Tryz.prog 109 #[.int .u32 n,.int .i64 s] w fun e w'=>e=.returned (.agg #[.int .u32 n,.int .u8 s])∧Below w.heap.size w w':=
 (z8t n s w hs).mono fun e w' ⟨h1,h2⟩=>⟨h1,by rw[←h2];exact qL⟩
def zh7(W:World)(N:Nat)(r:List Rn)(e:Ending)(w':World):Prop:=∃A c,e=.returned (.tuple #[.slice A N c,.int .i64 0])∧z3T w' A N r∧Below W.heap.size W w'
theorem zaP(A:Option Addr)(n c:Nat)(l:List Nat)(w:World)(HT:U.Tab w)(H:IsBys w A n l)(hc:n≤c)(hn:n≤2000)(hok:∀x∈l,x≤15)(N:Nat)(hN:(pk l).length=N):
 Calls Tryz.prog 131 #[.slice A n c] w (zh7 w N (pk l)):=by
 refine(zdr A n c l w HT H hc hn (fun i hi=>hok _ (by rw[List.getD,qE (by rw[H.leng];exact hi)];exact List.getElem_mem _))).mono ?_
 rintro e w' ⟨v,rfl,ho,hb⟩;obtain⟨A',c',hv,hr⟩:=ho.rns (fun r hr=>by have:=zdp l hok r hr;unfold Rok at this;omega) (by have:=z4c l;rw[H.leng] at this;unfold maxLen;omega);rw[hN] at hv hr;exact⟨A',c',by rw[hv],hr,hb⟩
def z5o(W:World)(n:Nat)(f:Nat→Nat)(e:Ending)(w':World):Prop:=∃b c,e=.returned (.tuple #[.slice (some ⟨b,0,none⟩) n c,.int .i64 0])∧W.heap.size≤b∧C.Crow w' b n (C.rc f n) f∧Below W.heap.size W w'
theorem z1E(A:Option Addr)(n c:Nat)(f:Nat→Nat)(w:World)(hn:n≤1000)(h0:0<n)(hf:z4s f n)(H:z09 w .u8 A n (fun i=>(f i:Int))):
 Calls Tryz.prog 110 #[.slice A n c] w (z5o w n f):=by
 have h:=C.writes_any A n c f w (by unfold maxLen;omega) hf.byte H;rw[hf.erc.1,hf.erc.2] at h;refine h.mono ?_
 rintro e w' ⟨A',c',rfl,_,_,_,hb,hcr⟩;obtain⟨b,rfl,hbn,hcr⟩:=hcr h0;exact⟨b,c',rfl,hbn,hcr,hb⟩
theorem zbu(f:Nat→Nat)(hf:∀i,f i≤7):∀x∈inl f,x≤7:=fun x hx=>by
 unfold inl at hx;obtain⟨y,_,rfl⟩:=List.mem_map.1 hx;exact hf y
def ziF(W:World)(l:List Cd)(e:Ending)(w':World):Prop:=∃A c,e=.returned (.slice A l.length c)∧z0b w' A l.length l∧Below W.heap.size W w'
theorem z8N(A1 A2:Option Addr)(c1 c2:Nat)(x1 x2:List Nat)(w:World)(HT:U.Tab w)(H1:IsBys w A1 286 x1)(H2:IsBys w A2 30 x2)(hc1:286≤c1)(hc2:30≤c2)(h15:∀x∈x1,x≤15)(h16:∀x∈x2,x≤15):
 Calls Tryz.prog 106 #[.agg #[.slice A1 286 c1,.slice A2 30 c2]] w (ziF w (tbl x1 x2)):=by
 obtain⟨b1,o1,rfl,hb1,hz1⟩:=H1.at (by omega);clear hz1;obtain⟨b2,o2,rfl,hb2,hz2⟩:=H2.at (by omega);clear hz2;have hu1:=z1f x1 257;have hu2:=z1f x2 1;rw[H1.leng] at hu1;rw[H2.leng] at hu2;obtain⟨u1,hu1e⟩:∃u1,upt x1 257=u1:=⟨_,rfl⟩
 obtain⟨u2,hu2e⟩:∃u2,upt x2 1=u2:=⟨_,rfl⟩
 obtain⟨r,hr⟩:∃r,rrn x1 x2=r:=⟨_,rfl⟩
 obtain⟨f,hf⟩:∃f,rrf x1 x2=f:=⟨_,rfl⟩
 obtain⟨u3,hu3e⟩:∃u3,upt (inl f) 4=u3:=⟨_,rfl⟩
 obtain⟨N,hN⟩:∃N,r.length=N:=⟨_,rfl⟩
 rw[hu1e] at hu1;rw[hu2e] at hu2;have hu3:=z1f (inl f) 4;rw[hu3e,show(inl f).length=19 by simp[inl,ord]] at hu3;have hfe:f=hfl (rc r) 19 7:=by rw[←hf,←hr];rfl
 have hf7:∀i,f i≤7:=fun i=>by rw[hfe];exact z0e _ (by omega) (by decide) i
 have hpk:pk (x1.take u1++x2.take u2)=r:=by rw[←hr,←hu1e,←hu2e];rfl
 have hok:∀x∈x1.take u1++x2.take u2,x≤15:=fun x hx=>by
  rcases List.mem_append.1 hx with q|q
  · exact h15 x (List.mem_of_mem_take q)
  · exact h16 x (List.mem_of_mem_take q)
 have hlen:(x1.take u1++x2.take u2).length=u1+u2:=by rw[qA,List.length_take,List.length_take,H1.leng,H2.leng];omega
 have hN2:N≤316:=by have:=z4c (x1.take u1++x2.take u2);rw[hpk,hN,hlen] at this;omega
 have hrok:∀y∈r,Rok y:=by rw[←hpk];exact zdp _ hok
 have HTold1:=hid (show ∀W,Below w.heap.size w W→Calls Tryz.prog 130 #[.slice (some ⟨b1,o1,none⟩) 286 c1,.int .i64 257] W fun e w'=>e=.returned (.slice (some ⟨b1,o1,none⟩) u1 c1)∧Below W.heap.size W w' from fun W b=>by
  have h:=told_any (some ⟨b1,o1,none⟩) 286 c1 257 x1 W (H1.below b) hc1 (by omega) (by omega) (by omega);rw[hu1e] at h;exact h.mono fun e w' ⟨h1,q,h2⟩=>⟨h1,by rw[h2];exact z00 (Below.refl _ _) q⟩)
 have HTold2:=hid (show ∀W,Below w.heap.size w W→Calls Tryz.prog 130 #[.slice (some ⟨b2,o2,none⟩) 30 c2,.int .i64 1] W fun e w'=>e=.returned (.slice (some ⟨b2,o2,none⟩) u2 c2)∧Below W.heap.size W w' from fun W b=>by
  have h:=told_any (some ⟨b2,o2,none⟩) 30 c2 1 x2 W (H2.below b) hc2 (by omega) (by omega) (by omega);rw[hu2e] at h;exact h.mono fun e w' ⟨h1,q,h2⟩=>⟨h1,by rw[h2];exact z00 (Below.refl _ _) q⟩)
 have HCat:=hid (show ∀W z,Below w.heap.size w W→W.heap[z]? =some (.cells #[.slice (some ⟨b1,o1,none⟩) u1 c1,.slice (some ⟨b2,o2,none⟩) u2 c2] 40 (0,0))→Calls Tryz.prog 127 #[.slice (some ⟨z,0,none⟩) 2 2] W
  fun e w'=> ∃A c,e=.returned (.slice A (u1+u2) c)∧u1+u2≤c∧IsBys w' A (u1+u2) (x1.take u1++x2.take u2)∧Below W.heap.size W w' from fun W z b hz=>by
  have hfl:flt [⟨some ⟨b1,o1,none⟩,u1,c1,x1.take u1⟩,⟨some ⟨b2,o2,none⟩,u2,c2,x2.take u2⟩]=x1.take u1++x2.take u2:=by simp[flt]
  have h:=z4g z 2 [⟨some ⟨b1,o1,none⟩,u1,c1,x1.take u1⟩,⟨some ⟨b2,o2,none⟩,u2,c2,x2.take u2⟩] W rfl (by omega) (qW.1 hz).1
   (fun i hi=>by
    match i,hi with
    |0,_=>exact cell_of_row _ _ 0 _ _ (0,0) hz
    |1,_=>exact cell_of_row _ _ 1 _ _ (0,0) hz)
   (fun i hi=>by
    match i,hi with
    |0,_=>exact⟨(H1.below b).pre (j:=u1) (by omega),show 0<u1 by omega⟩
    |1,_=>exact⟨(H2.below b).pre (j:=u2) (by omega),show 0<u2 by omega⟩) (by rw[hfl,hlen];omega) (by rw[hfl,hlen];omega)
  rw[hfl] at h;unfold Cct at h;rw[hlen] at h;exact h.mono (by rintro e w' ⟨A,c,h1,h2,h3,h4,h5⟩;exact⟨A,c,h1,h2,h4,h5⟩))
 have HPack:=hid (show ∀W A c,Below w.heap.size w W→IsBys W A (u1+u2) (x1.take u1++x2.take u2)→u1+u2≤c→Calls Tryz.prog 131 #[.slice A (u1+u2) c] W (zh7 W N r) from fun W A c b h h2=>by
  have:=zaP A (u1+u2) c _ W (HT.below b qR) h h2 (by omega) hok N (by rw[hpk,hN]);rw[hpk] at this;exact this)
 have HLen:=hid (show ∀W A c,z3T W A N r→Calls Tryz.prog 132 #[.slice A N c] W fun e w'=> ∃g,e=.returned (.slice (some ⟨g,0,none⟩) 19 19)∧W.heap.size≤g∧Br w' g 19 f∧Below W.heap.size W w' from fun W A c h=>by
  have:=z99 A N c r W h (by omega) hrok;rw[←hfe] at this;exact this)
 have HOrd:=hid (fun(W:World) (g c:Nat) (h:Br W g 19 f)=>z6T g c f W h (fun i=>qK (hf7 i) (by omega)))
 have HTold3:=hid (show ∀W z,IsBys W (some ⟨z,0,none⟩) 19 (inl f)→Calls Tryz.prog 130 #[.slice (some ⟨z,0,none⟩) 19 19,.int .i64 4] W fun e w'=>e=.returned (.slice (some ⟨z,0,none⟩) u3 19)∧Below W.heap.size W w' from fun W z h=>by
  have h:=told_any (some ⟨z,0,none⟩) 19 19 4 (inl f) W h (by omega) (by omega) (by omega) (by omega);rw[hu3e] at h;exact h.mono fun e w' ⟨h1,q,h2⟩=>⟨h1,by rw[h2];exact z00 (Below.refl _ _) q⟩)
 have HWr:=hid (fun(W:World) (g c:Nat) (h:Br W g 19 f)=>z1E (some ⟨g,0,none⟩) 19 c f W (by omega) (by omega) (by rw[hfe];exact z1W _ (by omega) (by omega) (by decide) (by omega)) (z7g h))
 have HBits:=hid (show ∀ (s:Nat) (W:World),Below w.heap.size w W→s≤18→Calls Tryz.prog 134 #[.int .u8 s] W fun e w'=>e=.returned (.tuple #[.int .i64 (rbn s:Nat),.bool true])∧W=w' from fun s W b hs=>by
  have h:=U.bits_any s W (HT.below b qR) (by omega);have e:=zeI hs;rw[e,show max ((rbn s:Nat):Int) 0=((rbn s:Nat):Int) by omega,show decide ((0:Int)≤((rbn s:Nat):Int))=true from q9T (by omega)] at h;exact h)
 have HBx:=hid (fun(n:Int) (s:Nat) (W:World) (hs:s≤255)=>z8t n s W hs);have HBo5:=hid (show ∀ (n:Int) (W:World),Calls Tryz.prog 109 #[.int .u32 n,.int .i64 5] W fun e w'=>e=.returned (.agg #[.int .u32 n,.int .u8 5])∧Below W.heap.size W w' from fun n W=>z1v n 5 W (by omega));have HBo4:=hid (show ∀ (n:Int) (W:World),Calls Tryz.prog 109 #[.int .u32 n,.int .i64 4] W fun e w'=>e=.returned (.agg #[.int .u32 n,.int .u8 4])∧Below W.heap.size W w' from fun n W=>z1v n 4 W (by omega));have HBo3:=hid (show ∀ (n:Int) (W:World),Calls Tryz.prog 109 #[.int .u32 n,.int .i64 3] W fun e w'=>e=.returned (.agg #[.int .u32 n,.int .u8 3])∧Below W.heap.size W w' from fun n W=>z1v n 3 W (by omega));have HTbl:=hid (show tbl x1 x2=[(u1 - 257,5),(u2 - 1,5),(u3 - 4,4)]++tbi f++tbr f r by unfold tbl;rw[hf,hr];unfold tb3;rw[hu1e,hu2e,hu3e]);have HTi:=hid (show tbi f=((inl f).take u3).map (fun x=>(x,3)) by unfold tbi;rw[hu3e]);have HRok:=hid hrok;have HF7:=hid hf7;unfold zh7 at HPack;unfold z5o at HWr;unfold ziF;clear HT H1 H2 h15 h16 hu1e hu2e hu3e hr hf hfe hf7 hpk hok hlen hrok;go_enter Tryz.func106,Tryz.ntmps106;have hb0:Below w.heap.size w (w.alloc (.cells #[.slice (some ⟨b1,o1,none⟩) 286 c1,.slice (some ⟨b2,o2,none⟩) 30 c2] 74)):=qL;have HB0:=hid hb0;have HZ:=hid (C2.new w (.slice (some ⟨b1,o1,none⟩) 286 c1) (.slice (some ⟨b2,o2,none⟩) 30 c2));clear hb0
 go_wp2_with (first
  |(go_at_call 130;(with_reducible refine(HTold1.out _ HB0.out).mono ?_);rintro e w1 ⟨rfl,b1'⟩;have z1:=HZ.out.below b1';have s0:=z1.at0;have s1:=z1.at1;have B1:=hid (HB0.out.trans (b1'.mono HB0.out.size));clear b1' z1)
  |(go_at_call 130;(with_reducible refine(HTold2.out _ B1.out).mono ?_);rintro e w2 ⟨rfl,b2'⟩;have B2:=hid (B1.out.trans (b2'.mono B1.out.size));clear b2' s0 s1)
  |(go_at_call 127;(with_reducible refine(HCat.out _ _ (B2.out.alloc B2.out.size _) (heap_alloc_new _ _)).mono ?_);rintro e w3 ⟨A3,c3,rfl,k3,r3,b3⟩;have R3:=hid r3;have K3:=hid k3;have B3:=hid ((B2.out.alloc B2.out.size _).trans (b3.mono (B2.out.alloc B2.out.size _).size));clear r3 b3 k3)
  |(go_at_call 131;(with_reducible refine(HPack.out _ _ _ B3.out R3.out K3.out).mono ?_);rintro e w4 ⟨A4,c4,rfl,r4,b4⟩;have R4:=hid r4;have B4:=hid (B3.out.trans (b4.mono B3.out.size));clear r4 b4)
  |(go_at_call 132;(with_reducible refine(HLen.out _ _ _ R4.out).mono ?_);rintro e w5 ⟨g5,rfl,n5,r5,b5⟩;have R45:=hid (R4.out.below b5);have R5:=hid r5;have B5:=hid (B4.out.trans (b5.mono B4.out.size));clear r5 b5 n5)
  |(go_at_call 133;(with_reducible refine(HOrd.out _ _ _ R5.out).mono ?_);rintro e w6 ⟨z6,rfl,r6,b6⟩;have R46:=hid (R45.out.below b6);have R56:=hid (z0I R5.out b6);have R6:=hid r6;have B6:=hid (B5.out.trans (b6.mono B5.out.size));clear r6 b6)
  |(go_at_call 130;(with_reducible refine(HTold3.out _ _ R6.out).mono ?_);rintro e w7 ⟨rfl,b7⟩;have R47:=hid (R46.out.below b7);have R57:=hid (z0I R56.out b7);have R7:=hid (R6.out.below b7);have B7:=hid (B6.out.trans (b7.mono B6.out.size));clear b7)
  |(go_at_call 109;(with_reducible refine(HBo5.out ((u1:Int) - 257) w7).mono ?_);rintro e w8 ⟨rfl,b8⟩;have B8:=hid b8;clear b8)
  |(go_at_call 109;(with_reducible refine(HBo5.out ((u2:Int) - 1) w8).mono ?_);rintro e w9 ⟨rfl,b9⟩;have B9:=hid (B8.out.trans (b9.mono B8.out.size));clear b9)
  |(go_at_call 109;(with_reducible refine(HBo4.out ((u3:Int) - 4) w9).mono ?_);rintro e w10 ⟨rfl,b10⟩;have B10:=hid (B9.out.trans (b10.mono B9.out.size));clear b10))
 have HO:=hid (Owc.lit w10 #[.int .u32 ((u1:Int) - 257),.int .u8 5,.int .u32 ((u2:Int) - 1),.int .u8 5,.int .u32 ((u3:Int) - 4),.int .u8 4] [(u1 - 257,5),(u2 - 1,5),(u3 - 4,4)] 3 rfl (by omega) (by
  have e1:((u1 - 257:Nat):Int)=(u1:Int) - 257:=by omega
  have e2:((u2 - 1:Nat):Int)=(u2:Int) - 1:=by omega
  have e3:((u3 - 4:Nat):Int)=(u3:Int) - 4:=by omega
  simp only[clc,e1,e2,e3];rfl) w7.heap.size B10.out.size)
 have HB11:=hid (B10.out.alloc B10.out.size (.cells #[.int .u32 ((u1:Int) - 257),.int .u8 5,.int .u32 ((u2:Int) - 1),.int .u8 5,.int .u32 ((u3:Int) - 4),.int .u8 4] 128));have hz6:=(R7.out.at (by omega));obtain⟨z6',o6',e6,hz6l,hz6c⟩:=hz6;simp only[Option.some.injEq,Addr.mk.injEq,and_true] at e6;obtain⟨rfl,rfl⟩:=e6;have HZ6:=hid (show ∀i,i<19→w7.cell? ⟨z6,i,none⟩=some (.int .u8 ((inl f).getD i 0:Nat)) from fun i hi=>by have:=hz6c i hi;rw[Nat.zero_add] at this;exact this);clear hz6c
 go_loopw [9,55] (fun v x wr=> ∃k:Nat,k≤u3∧x=.int .i64 k∧Owc w7.heap.size wr v ([(u1 - 257,5),(u2 - 1,5),(u3 - 4,4)]++((inl f).take k).map (fun x=>(x,3)))∧Below w7.heap.size w7 wr) (fun _ x _=>u3 - (intOf x).toNat)
 case atStart=>exact⟨0,qZ,rfl,HO.out,HB11.out⟩
 case round=>
  obtain⟨k,hk,rfl,ho,hb⟩:=hrel;by_cases hlt:k<u3
  · have d1:decide ((k:Int)<(u3:Int))=true:=q9T (by omega)
    have d1':decide (k<u3)=true:=q9T hlt;have c0:=(hb.cell (p:=⟨z6,k,none⟩) hz6l).trans (HZ6.out k (by omega))
    have hs:(inl f).take (k+1)=(inl f).take k++[(inl f).getD k 0]:=by
     have hl:k<(inl f).length:=by simp[inl,ord];omega
     rw[List.take_add_one,List.getD,qE hl];rfl
    obtain⟨x,hx⟩:∃x,(inl f).getD k 0=x:=⟨_,rfl⟩
    rw[hx] at c0 hs;have hx255:x≤255:=by rw[←hx];exact R7.out.le k
    have HS:=hid hs;have HO:=hid ho;have HB:=hid hb;have hk2:k≤19:=by omega
    have HLl:=hid (show([(u1 - 257,5),(u2 - 1,5),(u3 - 4,4)]++((inl f).take k).map (fun x=>(x,3)):List Cd).length+1≤3000000 by simp[inl,ord];omega);clear ho hb hs hx
    go_wp2_with (first
     |(go_at_call 109;(with_reducible refine(HBo3.out (x:Int) _).mono ?_);rintro e w12 ⟨rfl,b12⟩;have O12:=hid ((HO.out.below b12).alloc (.cells #[.int .u32 (x:Int),.int .u8 3] 128));have B12:=hid ((HB.out.trans (b12.mono HB.out.size)).alloc (HB.out.trans (b12.mono HB.out.size)).size (.cells #[.int .u32 (x:Int),.int .u8 3] 128));clear b12)
     |(at_builtin;refine z8B rfl _ _ rfl w7.heap.size _ _ rfl O12.out (some ⟨w12.heap.size,0,none⟩) 1 1 [(x,3)] rfl (z0b.of_row (heap_alloc_new _ _) rfl rfl) (by omega) HLl.out B12.out.size ?_;intro v13 w13 o13 b13 g13 l13;have O13:=hid o13;have B13:=hid (B12.out.trans b13);clear o13 b13 g13 l13))
    go_roundw
    case rel=>exact⟨k+1,by omega,by go_num,by rw[HS.out,List.map_append,←qD];exact O13.out,B13.out⟩
    case measure=>(simp[intOf];try omega)
  · obtain rfl:k=u3:=by omega
    have d1:decide ((k:Int)<(k:Int))=false:=qF (by omega);have d1':decide (k<k)=false:=qF (by omega);rw[←HTi.out] at ho;have HO:=hid ho;have HB:=hid hb;obtain⟨T0,hT0⟩:∃T0,([(u1 - 257,5),(u2 - 1,5),(k - 4,4)]++tbi f:List Cd)=T0:=⟨_,rfl⟩
    rw[hT0] at HO HTbl;have hTl:T0.length≤22:=by rw[←hT0,HTi.out];simp[inl,ord];omega
    have HTl:=hid hTl;obtain⟨M0,hM0⟩:∃M0,wr.heap.size=M0:=⟨_,rfl⟩
    have HM0:=hid hM0;clear ho hb hT0 hTl;go_wp2_with (go_at_call 110;(with_reducible refine(HWr.out _ _ _ (R57.out.below HB.out R57.out.lt)).mono ?_);rintro e w11 ⟨bw,cw,rfl,nw,cr,b11⟩;have CR:=hid cr;have NW:=hid nw;have O11:=hid (HO.out.below b11);have B11:=hid (HB.out.trans (b11.mono HB.out.size));clear cr nw b11);have hr7:=R47.out
    go_loopw [9,73] (fun v x wz=> ∃j:Nat,j≤N∧x=.int .i64 j∧Owc w7.heap.size wz v (T0++tbr f (r.take j))∧(∀g,v.ownBlock=some g→g≠bw)∧C.Crow wz bw 19 (C.rc f 19) f∧Below w7.heap.size w7 wz) (fun _ x _=>N - (intOf x).toNat)
    case atStart=>exact⟨0,qZ,rfl,by show Owc _ _ _ (T0++[]);rw[List.append_nil];exact O11.out,fun g hg=>by have:=(HO.out.lt g hg).2;have:=NW.out;omega,CR.out,B11.out⟩
    case round=>
     obtain⟨j,hj,rfl,ho,hne,hcr,hb⟩:=hrel;by_cases hlt:j<N
     · have d2:decide ((j:Int)<(N:Int))=true:=q9T (by omega)
       have d2':decide (j<N)=true:=q9T hlt;obtain⟨b4,o4,e4,hbl,hcs⟩:=hr7.at (by omega);obtain⟨g0,g1⟩:=hcs j hlt;have c0:=(hb.cell (p:=⟨b4,o4+j*2,none⟩) hbl).trans g0;have y1:=(hb.cell (p:=⟨b4,o4+j*2+1,none⟩) hbl).trans g1;have hjr:j<r.length:=by omega
       have hy:=HRok.out (r.getD j default) (by rw[List.getD,qE hjr];exact List.getElem_mem _);have hs:=zcH f r j hjr;have hlen:=z6v f (r.take j);rw[List.length_take] at hlen;obtain⟨y,hye⟩:∃y,r.getD j default=y:=⟨_,rfl⟩
       rw[hye] at c0 y1 hy hs;obtain⟨ys,ye⟩:=y;simp only at c0 y1;have hys:ys≤18:=hy.1;have hye2:ye≤127:=hy.2;have m0:=hcr.cell1 (i:=ys) (by omega);have m1:=hcr.cell2 (i:=ys) (by omega);obtain⟨cc,hcc⟩:∃cc,C.rc f 19 ys=cc:=⟨_,rfl⟩
       obtain⟨ss,hss⟩:∃ss,f ys=ss:=⟨_,rfl⟩
       obtain⟨zz,hzz⟩:∃zz,rbn ys=zz:=⟨_,rfl⟩
       have hzz2:=z7F ys;have hs2:tbr f (r.take (j+1))=tbr f (r.take j)++[(cc,ss),(ye,zz)]:=by rw[hs,←hcc,←hss,←hzz];rfl
       rw[hcc] at m0;rw[hss] at m1;rw[hzz] at hzz2;have hbt:=HBits.out ys _ ((B7.out.trans (hb.mono B7.out.size)).alloc (B7.out.trans (hb.mono B7.out.size)).size (.cells #[.int .u8 ys,.int .u8 ye] 138)) hys;rw[hzz] at hbt;have HBt:=hid hbt;have HS:=hid hs2;have HO2:=hid ho;have HNe:=hid hne;have HCr:=hid hcr;have HB2:=hid hb;have HLl:=hid (show(T0++tbr f (r.take j)).length+2≤3000000 by rw[qA,hlen];have:=HTl.out;omega);have hj2:j≤316:=by omega
       subst e4;have hbwl:=hcr.lt;clear ho hne hcr hb hcs hs hs2 hlen hye hcc hss hzz hy g0 g1 hjr hbt;go_wp2_with (go_at_call 134;(with_reducible refine HBt.out.mono ?_);rintro e w12 ⟨rfl,rfl⟩);have k0:(wr.alloc (.cells #[.int .u8 ys,.int .u8 ye] 138)).cell? ⟨bw,ys*2,none⟩=some (.int .u32 cc):=(Below.cell (p:=⟨bw,ys*2,none⟩) ((Below.refl _ wr).alloc qR _) hbwl).trans m0;have k1:(wr.alloc (.cells #[.int .u8 ys,.int .u8 ye] 138)).cell? ⟨bw,ys*2+1,none⟩=some (.int .u8 ss):=(Below.cell (p:=⟨bw,ys*2+1,none⟩) ((Below.refl _ wr).alloc qR _) hbwl).trans m1;have hys2:ys<19:=by omega
       have hys3:(ys:Int)<19:=by omega
       have HZz:=hid (show zz≤255 by omega);have hu32:IntKind.u32.wrap (ye:Int)=(ye:Int):=IntWalk.u32_in _ ⟨by omega,by omega⟩;have HCl:=hid (show #[.int .u32 (cc:Int),.int .u8 (ss:Int),.int .u32 (IntKind.u32.wrap (ye:Int)),.int .u8 (zz:Int)].toList=clc [(cc,ss),(ye,zz)] by rw[hu32];rfl)
       have hN3:∀cs:Array Value,((((wr.alloc (.cells #[.int .u8 ys,.int .u8 ye] 138)).drew.alloc (.cells #[.int .u32 (IntKind.u32.wrap (ye:Int)),.int .u8 zz] 128)).alloc (.cells cs 128)).heap[wr.heap.size+2]? =some (.cells cs 128 (0,0))):=fun cs=>by
        have:=heap_alloc_new ((wr.alloc (.cells #[.int .u8 ys,.int .u8 ye] 138)).drew.alloc (.cells #[.int .u32 (IntKind.u32.wrap (ye:Int)),.int .u8 zz] 128)) (.cells cs 128)
        simpa using this
       have hb3:∀cs:Array Value,Below wr.heap.size wr (((wr.alloc (.cells #[.int .u8 ys,.int .u8 ye] 138)).drew.alloc (.cells #[.int .u32 (IntKind.u32.wrap (ye:Int)),.int .u8 zz] 128)).alloc (.cells cs 128)):=fun cs=>((((Below.refl _ wr).alloc qR _).drew).alloc (by simp) _).alloc (by simp;omega) _
       have hS3:∀cs:Array Value,w7.heap.size≤(((wr.alloc (.cells #[.int .u8 ys,.int .u8 ye] 138)).drew.alloc (.cells #[.int .u32 (IntKind.u32.wrap (ye:Int)),.int .u8 zz] 128)).alloc (.cells cs 128)).heap.size:=fun cs=>qK HB2.out.size (hb3 cs).size
       have HB3:=hid hb3;have HHN3:=hid hN3;have HHS3:=hid hS3;clear hu32 hN3 hb3 hS3
       go_region_law (first
        |(refine zcS rfl (.tmp 83) (.tmp 94) rfl w7.heap.size _ (T0++tbr f (r.take j)) rfl (((HO2.out.alloc _).alloc _).alloc _) (some ⟨wr.heap.size+2,0,none⟩) 2 2 [(cc,ss),(ye,zz)] (by simp[Act.eval]) (z0b.of_row (cs:= #[.int .u32 cc,.int .u8 ss,.int .u32 (IntKind.u32.wrap ye),.int .u8 zz]) (T:= 128) (HHN3.out _) HCl.out rfl) (by omega) HLl.out (HHS3.out _) ?_;intro v13 w13 o13 b13 g13 l13;have O13:=hid o13;have B13:=hid b13;have G13:=hid g13;have L13:=hid l13;clear o13 b13 g13 l13)
        |(rw[if_pos (by rfl)];go_simp;(with_reducible refine(HBx.out _ _ _ HZz.out).mono ?_);rintro e w' ⟨rfl,rfl⟩;dsimp only))
       all_goals
        go_wp2;go_roundw
        case rel=>
         exact⟨j+1,by omega,by go_num,by rw[HS.out,←qD];exact O13.out,fun g hg=>by
          rcases L13.out g hg with q|q
          · exact HNe.out g q
          · have h2:=qK (HB3.out _).size q
            omega,Crow.at' HCr.out ((G13.out.block bw (Nat.lt_of_lt_of_le hbwl (HB3.out _).size) (fun e=>HNe.out bw e.symm rfl)).trans ((HB3.out _).block bw hbwl)),(HB2.out.trans ((HB3.out _).mono HB2.out.size)).trans B13.out⟩
        case measure=>(simp[intOf];try omega)
     · obtain rfl:j=N:=by omega
       have d2:decide ((j:Int)<(j:Int))=false:=qF (by omega);have d2':decide (j<j)=false:=qF (by omega);rw[List.take_of_length_le (by omega),←HTbl.out] at ho;obtain⟨A9,c9,hv9,h9⟩:=ho.cds;have HV9:=hid hv9;have H9:=hid h9;have HB2:=hid hb;clear ho hne hcr hb hv9 h9;go_wp2_with fail;go_ret;exact⟨A9,c9,by rw[HV9.out];rfl,H9.out,B7.out.trans (HB2.out.mono B7.out.size)⟩
end Go.Proofs.YtacelhaidcmbcaaGreatDoor.V
namespace Go.Proofs.YtacelhaidcmbcaaGreatDoor.V
open Go Go.RowKit M U
def kF(f g:Nat→Nat)(b:Nat)(v1 v2 v3:Value)(i:Nat):Value:=if i<317 then cF f g b i else if i=317 then v1 else if i=318 then v2 else v3
def KV(f g:Nat→Nat)(b:Nat)(v1 v2 v3:Value):Array Value:=((List.range 320).map (kF f g b v1 v2 v3)).toArray
section
variable (f g:Nat→Nat) (b:Nat) (v1 v2 v3:Value)
theorem z0P:(KV f g b v1 v2 v3).size=320:=by unfold KV;simp
theorem zha(i:Nat)(h:i<320):(KV f g b v1 v2 v3)[i]? =some (kF f g b v1 v2 v3 i):=by
 unfold KV;rw[List.getElem?_toArray,List.getElem?_map,List.getElem?_range h];rfl
theorem zix(h1:v1.oneCell'=true)(h2:v2.oneCell'=true)(h3:v3.oneCell'=true):(KV f g b v1 v2 v3).all (·.oneCell')=true:=by
 unfold KV;refine all_oneCell_toArray (fun v hv=> ?_);obtain⟨i,_,rfl⟩:=List.mem_map.1 hv;unfold kF
 split
 · exact zfb f g b i
 · split
   · exact h1
   · split
     · exact h2
     · exact h3
end
def Kd(w:World)(X:Nat)(f g:Nat→Nat)(b:Nat)(v1 v2 v3:Value):Prop:=w.heap[X]? =some (.cells (KV f g b v1 v2 v3) 160 (0,0))
theorem zeW:(Tryz.prog.info? 160).map (fun i=>(i.zero,i.size))=some (some (.agg (KV (fun _=>0) (fun _=>0) 0 (.slice none 0 0) (.slice none 0 0) (.slice none 0 0))),320):=by kernel_rfl
theorem z85(w:World):(zeroValue 160).run Tryz.prog w=.ok (.agg (KV (fun _=>0) (fun _=>0) 0 (.slice none 0 0) (.slice none 0 0) (.slice none 0 0))) w:=(zero_of_info zeW).1 w
theorem z86:(Tryz.prog.info? 160).map (·.size)=some 320:=(zero_of_info zeW).2
section
variable {w w':World} {X:Nat} {f g:Nat→Nat} {b:Nat} {v1 v2 v3:Value}
theorem Kd.new(w:World)(f g:Nat→Nat)(b:Nat)(v1 v2 v3:Value):Kd (w.alloc (.cells (KV f g b v1 v2 v3) 160)) w.heap.size f g b v1 v2 v3:=heap_alloc_new _ _
theorem Kd.lt(h:Kd w X f g b v1 v2 v3):X<w.heap.size:=(qW.1 h).1
theorem Kd.below(h:Kd w X f g b v1 v2 v3)(hb:Below w.heap.size w w'):Kd w' X f g b v1 v2 v3:=(hb.block X h.lt).trans h
theorem Kd.alloc(h:Kd w X f g b v1 v2 v3)(o:Obj):Kd (w.alloc o) X f g b v1 v2 v3:=(Below.heap_alloc w o X h.lt).trans h
theorem Kd.other(h:Kd w X f g b v1 v2 v3){a:Addr}(ha:X≠a.block)(v:Value):Kd (w.setCell a v) X f g b v1 v2 v3:=(Below.heap_setCell _ _ _ _ ha).trans h
theorem Kd.cell(h:Kd w X f g b v1 v2 v3){i:Nat}(hi:i<320):w.cell? ⟨X,i,none⟩=some (kF f g b v1 v2 v3 i):=by
 rw[cell_of_row _ _ i _ _ (0,0) h,zha f g b v1 v2 v3 i hi]
theorem Kd.at1(h:Kd w X f g b v1 v2 v3):w.cell? ⟨X,317,none⟩=some v1:=h.cell (by omega)
theorem Kd.at2(h:Kd w X f g b v1 v2 v3):w.cell? ⟨X,318,none⟩=some v2:=h.cell (by omega)
theorem Kd.at3(h:Kd w X f g b v1 v2 v3):w.cell? ⟨X,319,none⟩=some v3:=h.cell (by omega)
theorem Kd.bits(h:Kd w X f g b v1 v2 v3):w.cell? ⟨X,316,none⟩=some (.int .i64 (b:Nat)):=h.cell (by omega)
theorem Kd.free(h:Kd w X f g b v1 v2 v3)(i:Nat):w.frozen? ⟨X,i,none⟩=false:=by
 have h':w.heap[X]? =some (.cells (KV f g b v1 v2 v3) 160 (0,0)):=h;simp[World.frozen?,h']
theorem Kd.nums(h:Kd w X f g b v1 v2 v3):z09 w .i64 (some ⟨X,0,none⟩) 286 (fun i=>(f i:Int)):=fun _=>⟨X,0,rfl,h.lt,fun i hi=>by
 rw[Nat.zero_add,h.cell (by omega)];unfold kF cF;rw[if_pos (by omega),if_pos hi]⟩
theorem Kd.numsd(h:Kd w X f g b v1 v2 v3):z09 w .i64 (some ⟨X,286,none⟩) 30 (fun i=>(g i:Int)):=fun _=>⟨X,286,rfl,h.lt,fun i hi=>by
 rw[h.cell (by omega)];unfold kF cF;rw[if_pos (by omega),if_neg (by omega),if_pos (by omega),show 286+i - 286=i by omega]⟩
theorem Kd.load(h:Kd w X f g b v1 v2 v3):(Instr.loadAt 160 (.pointer (some ⟨X,0,none⟩))).run Tryz.prog w=.ok (.agg (KV f g b v1 v2 v3)) w:=
 z7A h Tryz.underlying160 rfl (by rw[z0P];exact z86)
theorem Kd.counts(h:Kd w X f g b v1 v2 v3):(Instr.loadAt 158 (.pointer (some ⟨X,0,none⟩))).run Tryz.prog w=.ok (.agg (CV f g b)) w:=by
 have e:=run_loadAt_mid (P:= Tryz.prog) w X 0 158 (CV f g b).toList _ (fun j v hv=>by
  have hj:j<317:=by have:=(List.getElem?_eq_some_iff.1 hv).1;rw[Array.length_toList,z0R] at this;exact this
  rw[Nat.zero_add,h.cell (by omega)];rw[Array.getElem?_toList,z9D f g b j hj] at hv;rw[←hv];unfold kF;rw[if_pos hj]) Tryz.underlying158 rfl (by rw[Array.length_toList,z0R];exact z5i)
 simpa using e
theorem Kd.store(h:Kd w X f g b v1 v2 v3)(f' g':Nat→Nat)(b':Nat)(u1 u2 u3:Value)(h1:u1.oneCell'=true)(h2:u2.oneCell'=true)(h3:u3.oneCell'=true):
 (Instr.storeAt 160 (.pointer (some ⟨X,0,none⟩)) (.agg (KV f' g' b' u1 u2 u3))).run Tryz.prog w=.ok () (w.setRow X (KV f' g' b' u1 u2 u3)):=
 z5J h (by rw[z0P];exact z86) (by rw[z0P,z0P]) (zix _ _ _ _ _ _ h1 h2 h3)
theorem Kd.setRow(h:Kd w X f g b v1 v2 v3)(f' g':Nat→Nat)(b':Nat)(u1 u2 u3:Value):Kd (w.setRow X (KV f' g' b' u1 u2 u3)) X f' g' b' u1 u2 u3:=setRow_heap w X _ _ _ (0,0) h
theorem Kd.set(h:Kd w X f g b v1 v2 v3)(i:Nat)(v u1 u2 u3:Value)(e:∀j,j<320→kF f g b u1 u2 u3 j=if j=i then v else kF f g b v1 v2 v3 j):Kd (w.setCell ⟨X,i,none⟩ v) X f g b u1 u2 u3:=by
 unfold Kd at h ⊢;rw[setCell_eq_setRow w X i (KV f g b v1 v2 v3) _ (0,0) v h,setRow_heap w X _ _ _ (0,0) h];congr 2;apply Array.ext_getElem?
 intro j;by_cases hj:j<320
 · rw[zha _ _ _ _ _ _ j hj,e j hj,Array.getElem?_setIfInBounds]
   split
   · rename_i q;subst q;rw[if_pos (by rw[z0P];exact hj),if_pos rfl]
   · rename_i q;rw[if_neg (fun z=>q z.symm),zha f g b _ _ _ j hj]
 · rw[Array.getElem?_eq_none (by rw[Array.size_setIfInBounds,z0P];omega),Array.getElem?_eq_none (by rw[z0P];omega)]
theorem kF1(u:Value):∀j,j<320→kF f g b u v2 v3 j=if j=317 then u else kF f g b v1 v2 v3 j:=fun j hj=>by
 unfold kF;by_cases h:j<317
 · rw[if_pos h,if_neg (by omega),if_pos h]
 · rw[if_neg h,if_neg h]
   by_cases h2:j=317
   · rw[if_pos h2,if_pos h2]
   · rw[if_neg h2,if_neg h2,if_neg h2]
theorem kF2(u:Value):∀j,j<320→kF f g b v1 u v3 j=if j=318 then u else kF f g b v1 v2 v3 j:=fun j hj=>by
 unfold kF;by_cases h:j<317
 · rw[if_pos h,if_neg (by omega),if_pos h]
 · rw[if_neg h,if_neg h]
   by_cases h2:j=317
   · rw[if_pos h2,if_neg (by omega),if_pos h2]
   · rw[if_neg h2,if_neg h2]
     by_cases h3:j=318
     · rw[if_pos h3,if_pos h3]
     · rw[if_neg h3,if_neg h3,if_neg h3]
theorem kF3(u:Value):∀j,j<320→kF f g b v1 v2 u j=if j=319 then u else kF f g b v1 v2 v3 j:=fun j hj=>by
 unfold kF;by_cases h:j<317
 · rw[if_pos h,if_neg (by omega),if_pos h]
 · rw[if_neg h,if_neg h]
   by_cases h2:j=317
   · rw[if_pos h2,if_neg (by omega),if_pos h2]
   · rw[if_neg h2,if_neg h2]
     by_cases h3:j=318
     · rw[if_pos h3,if_neg (by omega),if_pos h3]
     · rw[if_neg h3,if_pos (by omega)]
end
theorem zgB(f g:Nat→Nat)(b:Nat): Tryz.prog.built 160 [(0,.agg (CV f g b))]=some (KV f g b (.slice none 0 0) (.slice none 0 0) (.slice none 0 0)):=by kernel_rfl
end Go.Proofs.YtacelhaidcmbcaaGreatDoor.V
namespace Go.Proofs.YtacelhaidcmbcaaGreatDoor.V
open Go.Lib (hid)
open Go Go.RowKit M U
theorem z1L{ops:Array Oper}{rest:List Oper}{o:Oper}{a:Act}{w:World}{Q:Exit→Act→World→Prop}(hg:o.guard=none)(x:Operand)(ho:o.op=.build 160 #[(0,x)])(f g:Nat→Nat)(b:Nat)(hx:a.eval x=.agg (CV f g b))
 (h:wpList Tryz.prog ops Q rest (a.put o.dst (.agg (KV f g b (.slice none 0 0) (.slice none 0 0) (.slice none 0 0)))) w):wpList Tryz.prog ops Q (o::rest) a w:=by
 have e: Tryz.prog.built 160 ((#[(0,x)]:Array (Nat×Operand)).map fun(i,x)=>(i,a.eval x)).toList=some (KV f g b (.slice none 0 0) (.slice none 0 0) (.slice none 0 0)):=by
  have:=zgB f g b;rw[←hx] at this
  simpa using this
 exact wpList_build hg 160 #[(0,x)] ho (by rw[e];rfl) (by rw[e];exact h)
structure Off(X:Nat)(w w':World):Prop where
 size:w.heap.size≤w'.heap.size
 same:∀j,j<w.heap.size→j≠X→w'.heap[j]? =w.heap[j]?
theorem Off.trans{X:Nat}{A B C:World}(h:Off X A B)(k:Off X B C):Off X A C:=⟨qK h.size k.size,fun j hj hX=>(k.same j (Nat.lt_of_lt_of_le hj h.size) hX).trans (h.same j hj hX)⟩
theorem Off.cellSet(X i:Nat)(w:World)(v:Value):Off X w (w.setCell ⟨X,i,none⟩ v):=⟨by rw[World.size_setCell];exact qR,fun j hj hX=>Below.heap_setCell _ _ _ _ hX⟩
theorem Off.rowSet(X:Nat)(w:World)(c:Array Value):Off X w (w.setRow X c):=⟨by simp[World.setRow],fun j hj hX=>setRow_other w X j c hX⟩
theorem Off.nums{X:Nat}{w w':World}{k:IntKind}{A:Option Addr}{n:Nat}{f:Nat→Int}(h:Off X w w')(H:z09 w k A n f)(hX:∀o,w.cell? ⟨X,o,none⟩≠some (.int k (f 0))):z09 w' k A n f:=fun hn=>by
 obtain⟨b,o,e,hlt,hc⟩:=H hn;have hb:b≠X:=fun q=>by subst q;exact hX (o+0) (hc 0 hn)
 exact⟨b,o,e,Nat.lt_of_lt_of_le hlt h.size,fun i hi=>(World.cell?_of_block (a:=⟨b,o+i,none⟩) (h.same b hlt hb)).trans (hc i hi)⟩
theorem Off.cds{X:Nat}{w w':World}{A:Option Addr}{n:Nat}{l:List Cd}(h:Off X w w')(H:z0b w A n l)(hX:∀o x,w.cell? ⟨X,o,none⟩≠some (.int .u32 x)):z0b w' A n l:=by
 refine⟨H.leng,?_⟩;rcases H.cells with g|⟨b,o,e,hlt,hc⟩
 · exact .inl g
 · by_cases hn:n=0
   · exact .inl hn
   · have hb:b≠X:=fun q=>by
      subst q;exact hX _ _ (hc 0 _ (qE (by rw[H.leng];omega))).1
     exact .inr ⟨b,o,e,Nat.lt_of_lt_of_le hlt h.size,fun i c hi=>⟨(World.cell?_of_block (a:=⟨b,o+i*2,none⟩) (h.same b hlt hb)).trans (hc i c hi).1,(World.cell?_of_block (a:=⟨b,o+i*2+1,none⟩) (h.same b hlt hb)).trans (hc i c hi).2⟩⟩
theorem Kd.no{w:World}{X:Nat}{f g:Nat→Nat}{b:Nat}{a1 a2 a3:Option Addr}{n1 n2 n3 c1 c2 c3:Nat}(h:Kd w X f g b (.slice a1 n1 c1) (.slice a2 n2 c2) (.slice a3 n3 c3)){k:IntKind}(hk:k≠.i64)(i:Nat)(x:Int):w.cell? ⟨X,i,none⟩≠some (.int k x):=by
 by_cases hi:i<320
 · rw[h.cell hi]
   unfold kF cF;intro e
   split at e
   · split at e
     · simp at e;exact hk e.1.symm
     · split at e
       · simp at e;exact hk e.1.symm
       · simp at e;exact hk e.1.symm
   · split at e
     · simp at e
     · split at e<;>simp at e
 · rw[cell_of_row _ _ i _ _ (0,0) h,Array.getElem?_eq_none (by rw[z0P];omega)]
   simp
def z4t(W:World)(S:List Sy)(n1:Nat)(l1 l2:Nat→Nat)(T:List Cd)(e:Ending)(w':World):Prop:=∃A1 c1 A2 c2 A3 c3,e=.returned (.tuple #[.agg (KV (cs false S) (cs true S) (smb S) (.slice A1 n1 c1) (.slice A2 30 c2) (.slice A3 T.length c3)),.int .i64 0])∧
 z09 w' .u8 A1 n1 (fun i=>(l1 i:Int))∧z09 w' .u8 A2 30 (fun i=>(l2 i:Int))∧z0b w' A3 T.length T∧Below W.heap.size W w'∧(∀b o,A1=some ⟨b,o,none⟩→W.heap.size≤b)∧(∀b o,A2=some ⟨b,o,none⟩→W.heap.size≤b)
theorem z3l(A:Option Addr)(n c:Nat)(L:List Tk)(w:World)(H:Y.Tab w)(hL:IsTks w A n L)(hn:n≤100000)(hm:∀t∈L,may t=true):
 Calls Tryz.prog 70 #[.int .u8 1,.slice A n c] w (z4t w (sys L) 288 fxl (fun _=>5) []):=by
 have hz:=z85;have hb:Below w.heap.size w (w.alloc (.cells (KV (fun _=>0) (fun _=>0) 0 (.slice none 0 0) (.slice none 0 0) (.slice none 0 0)) 160)):=qL;have HR0:=hid (Kd.new w (fun _=>0) (fun _=>0) 0 (.slice none 0 0) (.slice none 0 0) (.slice none 0 0));have HB0:=hid hb;have HCo:=hid (count_any A n c L _ (H.below hb qR) (hL.below hb) hn hm);have HFx:=hid zbz;obtain⟨S,hS⟩:∃S,sys L=S:=⟨_,rfl⟩
 rw[hS] at HCo ⊢
 have HSt:=hid (fun w1:World=>by
  have h:=(Kd.new w1 (fun _=>0) (fun _=>0) 0 (.slice none 0 0) (.slice none 0 0) (.slice none 0 0)).store (cs false S) (cs true S) (smb S) (.slice none 0 0) (.slice none 0 0) (.slice none 0 0) rfl rfl rfl;rw[World.setRow_alloc_new] at h;exact h)
 clear hb H hL hm hS;go_enter Tryz.func70,Tryz.ntmps70
 go_wp2_with (first
  |(go_at_call 103;(with_reducible refine HCo.out.mono ?_);rintro e w1 ⟨rfl,b1⟩;have R1:=hid (HR0.out.below b1);have B1:=hid (HB0.out.trans (b1.mono HB0.out.size));clear b1)
  |refine z1L rfl _ rfl _ _ _ rfl ?_
  |refine z0g rfl 160 _ _ rfl _ _ rfl _ rfl (HSt.out w1) ?_
  |(go_at_call 104;(with_reducible refine(HFx.out _).mono ?_);rintro e w2 ⟨A1,c1,A2,c2,rfl,s1,s2,b2,u1,u2⟩
    have U1:=hid (show ∀b o,A1=some ⟨b,o,none⟩→w.heap.size≤b from fun b o q=>by have h1:=u1 b o q;have h2:=B1.out.size;simp at h1;omega);have U2:=hid (show ∀b o,A2=some ⟨b,o,none⟩→w.heap.size≤b from fun b o q=>by have h1:=u2 b o q;have h2:=B1.out.size;simp at h1;omega);have kd:=(Kd.new w1 (cs false S) (cs true S) (smb S) (.slice none 0 0) (.slice none 0 0) (.slice none 0 0)).below b2;have k7:=kd.at1;have k8:=kd.at2;have f7:=kd.free 317;have f8:=kd.free 318;have KA:=hid ((kd.set 317 (.slice A1 288 c1) (.slice A1 288 c1) (.slice none 0 0) (.slice none 0 0) (kF1 _)).set 318 (.slice A2 30 c2) (.slice A1 288 c1) (.slice A2 30 c2) (.slice none 0 0) (kF2 _));have hX:w.heap.size≠w1.heap.size:=by have:=R1.out.lt;omega
    have r2:=(R1.out.alloc (.cells (KV (cs false S) (cs true S) (smb S) (.slice none 0 0) (.slice none 0 0) (.slice none 0 0)) 160)).below b2;have R2:=hid ((r2.other (a:=⟨w1.heap.size,317,none⟩) hX (.slice A1 288 c1)).other (a:=⟨w1.heap.size,318,none⟩) hX (.slice A2 30 c2));have N1:=hid ((Off.trans (Off.cellSet w1.heap.size 317 w2 (.slice A1 288 c1)) (Off.cellSet w1.heap.size 318 _ (.slice A2 30 c2))).nums s1 (fun o=>kd.no (by decide) o _));have N2:=hid ((Off.trans (Off.cellSet w1.heap.size 317 w2 (.slice A1 288 c1)) (Off.cellSet w1.heap.size 318 _ (.slice A2 30 c2))).nums s2 (fun o=>kd.no (by decide) o _));have B2:=hid ((((B1.out.alloc B1.out.size _).trans (b2.mono (B1.out.alloc B1.out.size _).size)).setCell (p:=⟨w1.heap.size,317,none⟩) B1.out.size (.slice A1 288 c1)).setCell (p:=⟨w1.heap.size,318,none⟩) B1.out.size (.slice A2 30 c2));have LD:=hid KA.out.load;have ST:=hid (R2.out.store (cs false S) (cs true S) (smb S) (.slice A1 288 c1) (.slice A2 30 c2) (.slice none 0 0) rfl rfl rfl);clear kd r2 s1 s2 b2 hX u1 u2)
  |refine z0J rfl 160 _ rfl _ _ rfl _ LD.out ?_
  |refine z0g rfl 160 _ _ rfl _ _ rfl _ rfl ST.out ?_)
 have hF:=R2.out.setRow (cs false S) (cs true S) (smb S) (.slice A1 288 c1) (.slice A2 30 c2) (.slice none 0 0);refine bodyPost_ret (v:=.tuple #[.agg (KV (cs false S) (cs true S) (smb S) (.slice A1 288 c1) (.slice A2 30 c2) (.slice none 0 0)),.int .i64 0]) (z0f (p:=4) (u:=5) (ty:= 160) rfl _ _ w.heap.size _ _ _ _ rfl hF Tryz.underlying160 rfl (by rw[z0P];exact z86)) rfl ⟨A1,c1,A2,c2,none,0,rfl,?_,?_,z0b.nil _ _,?_,U1.out,U2.out⟩
 · exact(Off.rowSet w.heap.size _ _).nums N1.out (fun o=>R2.out.no (by decide) o _)
 · exact(Off.rowSet w.heap.size _ _).nums N2.out (fun o=>R2.out.no (by decide) o _)
 · exact below_setRow B2.out w.heap.size _ qR
end Go.Proofs.YtacelhaidcmbcaaGreatDoor.V
