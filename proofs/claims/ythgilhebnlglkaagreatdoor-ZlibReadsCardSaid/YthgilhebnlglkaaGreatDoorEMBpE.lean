import Derived.Test.YthgilhebnlglkaaGreatDoorEMBpC
import Derived.Test.YthgilhebnlglkaaGreatDoorEMBlA
import Derived.Test.YthgilhebnlglkaaGreatDoorECdH
set_option linter.all false
set_option maxHeartbeats 8000000
set_option maxRecDepth 1000000
open Go.Proofs.Tryz
namespace Go.Proofs.YthgilhebnlglkaaGreatDoor.V
open Go Go.RowKit M U
def z9o(W:World)(n:Nat)(f:Nat->Nat)(x:Ending)(w':World):Prop:=∃g,x=.returned (.tuple #[.slice (some ⟨g,0,none⟩) n n,.int .i64 0])/\W.heap.size<=g/\Br w' g n f/\Below W.heap.size W w'
theorem zbf(A:Option Addr)(n c' L:Nat)(c:Nat->Nat)(W:World)(hn:n<=320)(hc:∀i,c i<=1073741824)(H:z0e W .i64 A n (λi=>(c i:Int)))(h1:1<=L)(h2:L<=15)(hb:n<=2^L)(hs:∀m e,Raw c n m e->20<m->zeT):
 Calls prog 274 #[.slice A n c',.int .i64 L] W (z9o W n (hfl c n L)):=
 zhc A n c' L _ c _ W hn hc H h1 h2 (z95 c n) (z5L c h1 hb) hs
theorem z6S{w:World}{g n:Nat}{f:Nat->Nat}(h:Br w g n f):z0e w .u8 (some ⟨g,0,none⟩) n (λi=>(f i:Int)):=λ_=>⟨g,0,rfl,h.lt,λi hi=>by rw[Nat.zero_add];exact h.cell hi⟩
def z8l(W:World)(f g:Nat->Nat)(x:Ending)(w':World):Prop:=∃a b,x=.returned (.tuple #[.agg #[.slice (some ⟨a,0,none⟩) 286 286,.slice (some ⟨b,0,none⟩) 30 30],.int .i64 0])/\W.heap.size<=a/\W.heap.size<=b/\Br w' a 286 f/\Br w' b 30 g/\Below W.heap.size W w'
theorem zcb(f g:Nat->Nat)(b:Nat)(w:World)(hf:∀i,f i<=1073741824)(hg:∀i,g i<=1073741824)(hsf:∀m e,Raw f 286 m e->20<m->zeT)(hsg:∀m e,Raw g 30 m e->20<m->zeT):Calls prog 242 #[.agg (CV f g b)] w (z8l w (hfl f 286 15) (hfl g 30 15)):=by
 have HL1:=qH (show ∀W,Cn W w.heap.size f g b->Calls prog 274 #[.slice (some ⟨w.heap.size,0,none⟩) 286 286,.int .i64 15] W (z9o W 286 (hfl f 286 15)) from λW h=>zbf _ 286 286 15 f W (by omega) hf h.nums (by omega) (by omega) (by decide) hsf);have HL2:=qH (show ∀W,Cn W w.heap.size f g b->Calls prog 274 #[.slice (some ⟨w.heap.size,286,none⟩) 30 30,.int .i64 15] W (z9o W 30 (hfl g 30 15)) from λW h=>zbf _ 30 30 15 g W (by omega) hg h.numsd (by omega) (by omega) (by decide) hsg);have HC0:=qH ((Cn.new w f g b).alloc (.cells #[.slice none 0 0,.slice none 0 0] 149));have hk:C2 ((w.alloc (.cells (CV f g b) 290)).alloc (.cells #[.slice none 0 0,.slice none 0 0] 149)) (w.heap.size+1) (.slice none 0 0) (.slice none 0 0):=by
  have:=C2.new (w.alloc (.cells (CV f g b) 290)) (.slice none 0 0) (.slice none 0 0);rw[World.size_alloc] at this;exact this
 have HK:=qH hk;have HB:=qH (((Below.refl w.heap.size w).alloc qR (.cells (CV f g b) 290)).alloc (by simp) (.cells #[.slice none 0 0,.slice none 0 0] 149));unfold z9o at HL1 HL2;unfold z8l;clear hf hg hk hsf hsg;go_enter func242,ntmps242
 go_wp2_with (first
  |(go_at_call 274;(with_reducible refine(HL1.o _ HC0.o).mono ?_);rintro e w1 ⟨a,rfl,na,ra,b1⟩;have C1:=qH (HC0.o.below b1);have K1:=qH (HK.o.below b1);obtain⟨R1,N1⟩:=qh2 ra na;have B1:=qbt HB b1;clear b1 ra na)
  |(go_at_call 274;(with_reducible refine(HL2.o _ C1.o).mono ?_);rintro e w2 ⟨z,rfl,nz,rz,b2⟩;have k2:=K1.o.below b2;have K2:=qH k2;have c0:=k2.at0;have c1:=k2.at1;have f0:=k2.frozen 0;have f1:=k2.frozen 1;have R2:=qH (z0L R1.o b2);obtain⟨R3,N2⟩:=qh2 rz nz;have B2:=qbt B1 b2;clear b2 rz nz k2))
 have n1:=N1.o;have n2:=N2.o;have n4:=World.rowIs.lt K1.o;simp only[World.size_alloc] at n1;refine bodyPost_ret (v:=.tuple #[.agg #[.slice (some ⟨a,0,none⟩) 286 286,.slice (some ⟨z,0,none⟩) 30 30],.int .i64 0]) (z0I (p:=2) (u:=3) (ty:= 149) rfl _ _ (w.heap.size+1) _ _ _ _ rfl (K2.o.put _ _).row underlying149 rfl z3g) rfl ⟨a,z,rfl,by omega,by omega,(R2.o.other (by show a≠w.heap.size+1;omega) _).other (by show a≠w.heap.size+1;omega) _,(R3.o.other (by show z≠w.heap.size+1;omega) _).other (by show z≠w.heap.size+1;omega) _,(B2.o.setCell (p:=⟨w.heap.size+1,0,none⟩) (by show w.heap.size<=w.heap.size+1;omega) _).setCell (p:=⟨w.heap.size+1,1,none⟩) (by show w.heap.size<=w.heap.size+1;omega) _⟩
theorem zfI(b:Bool)(S:List Sy)(h:S.length<=200001)(i:Nat):cs b S i<=1073741824:=qK (z5Q b S i) (by omega)
def zcx(L:List Tk):Prop:=(∀m e,Raw (cs false (sys L)) 286 m e->20<m->zeT)/\(∀m e,Raw (cs true (sys L)) 30 m e->20<m->zeT)/\z9m L
theorem zhQ(L:List Tk)(w:World)(h:(sys L).length<=200001)(hq:zcx L):Calls prog 242 #[.agg (CV (cs false (sys L)) (cs true (sys L)) (smb (sys L)))] w (z8l w (ll1 L) (ll2 L)):=
 zcb _ _ _ w (zfI false _ h) (zfI true _ h) hq.1 hq.2.1
abbrev Cd:=Nat×Nat
def clc:List Cd->List Value
 |[]=> []
 |t::l=> .int .u32 (t.1:Int)::.int .u8 (t.2:Int)::clc l
theorem z1l:∀l,(clc l).length=l.length*2
 |[]=>rfl
 |t::l=>by simp only[clc,qC];rw[z1l l];omega
theorem z46:∀l r,clc (l++r)=clc l++clc r
 |[],_=>rfl
 |t::l,r=>by simp only[List.cons_append,clc];rw[z46 l r]
theorem z86:∀ (l:List Cd) (i:Nat) (t:Cd),l[i]? =some t->(clc l)[i*2]? =some (.int .u32 (t.1:Int))/\(clc l)[i*2+1]? =some (.int .u8 (t.2:Int))
 |[],i,t,h=>by simp at h
 |a::l,0,t,h=>by simp at h;subst h;simp[clc]
 |a::l,i+1,t,h=>by
  rw[List.getElem?_cons_succ] at h;obtain⟨h1,h2⟩:=z86 l i t h;simp only[clc];refine⟨?_,?_⟩
  · rw[show(i+1)*2=i*2+1+1 by omega];simpa using h1
  · rw[show(i+1)*2+1=i*2+1+1+1 by omega];simpa using h2
theorem zc8:∀ (l:List Cd),∀u∈clc l,u.oneCell'=true
 |[],u,h=>by simp[clc] at h
 |t::l,u,h=>by
  simp only[clc,List.mem_cons] at h;rcases h with rfl|rfl|h
  · rfl
  · rfl
  · exact zc8 l u h
structure z0k(w:World)(A:Option Addr)(n:Nat)(l:List Cd):Prop where
 leng:l.length=n
 cells:n=0\/∃b o,A=some ⟨b,o,none⟩/\b<w.heap.size/\∀ (i:Nat) (c:Cd),l[i]? =some c->w.cell? ⟨b,o+i*2,none⟩=some (.int .u32 (c.1:Int))/\w.cell? ⟨b,o+i*2+1,none⟩=some (.int .u8 (c.2:Int))
section
variable {w w':World} {A:Option Addr} {n:Nat} {l:List Cd}
theorem z0k.below(h:z0k w A n l)(hb:Below w.heap.size w w'):z0k w' A n l:=by
 refine⟨h.leng,?_⟩;rcases h.cells with g|⟨b,o,g1,g2,g3⟩
 · exact .inl g
 · exact .inr ⟨b,o,g1,Nat.lt_of_lt_of_le g2 hb.size,λi x hx=>⟨(hb.cell g2).trans (g3 i x hx).1,(hb.cell g2).trans (g3 i x hx).2⟩⟩
theorem z0k.at(h:z0k w A n l)(hn:0<n):∃b o,A=some ⟨b,o,none⟩/\b<w.heap.size/\∀i,i<n->w.cell? ⟨b,o+i*2,none⟩=some (.int .u32 ((l.getD i default).1:Nat))/\w.cell? ⟨b,o+i*2+1,none⟩=some (.int .u8 ((l.getD i default).2:Nat)):=by
 rcases h.cells with g|⟨b,o,g1,g2,g3⟩
 · omega
 · exact⟨b,o,g1,g2,λi hi=>g3 i _ (by rw[List.getD,qE (by rw[h.leng];exact hi)];rfl)⟩
theorem z0k.nil(w:World)(A:Option Addr):z0k w A 0 []:=⟨rfl,.inl rfl⟩
theorem z0k.of_row{g n:Nat}{l:List Cd}{cs:Array Value}{T:TypeId}(h:w.heap[g]? =some (.cells cs T (0,0)))(e:cs.toList=clc l)(hl:l.length=n):z0k w (some ⟨g,0,none⟩) n l:=by
 refine⟨hl,.inr ⟨g,0,rfl,(qW.1 h).1,λi c hc=> ?_⟩⟩;obtain⟨h1,h2⟩:=z86 l i c hc;rw[<-e] at h1 h2;rw[Nat.zero_add,cell_of_row _ _ _ _ _ (0,0) h,cell_of_row _ _ _ _ _ (0,0) h];simp only[Array.getElem?_toList] at h1 h2;exact⟨h1,h2⟩
end
def Owc(B:Nat)(w:World)(v:Value)(L:List Cd):Prop:=w.ownsRow B 216 2 v L.length (clc L)
section
variable {B:Nat} {w w':World} {v:Value} {L:List Cd}
theorem Owc.alloc(h:Owc B w v L)(o:Obj):Owc B (w.alloc o) v L:=World.ownsRow.alloc h o
theorem Owc.at(h:Owc B w v L)(e:∀g,v.ownBlock=some g->w'.heap[g]? =w.heap[g]?):Owc B w' v L:=z0F h e
theorem Owc.lt(h:Owc B w v L):∀g,v.ownBlock=some g->B<=g/\g<w.heap.size:=World.ownsRow.lt h
theorem Owc.below(h:Owc B w v L)(hb:Below w.heap.size w w'):Owc B w' v L:=h.at λg hg=>hb.block g (h.lt g hg).2
theorem Owc.cds(h:Owc B w v L):∃A c,v=.slice A L.length c/\z0k w A L.length L:=by
 rcases h.2 with⟨rfl,h0⟩|⟨g,cap,cur,rfl,_,hh,_⟩
 · exact⟨none,0,by rw[h0],rfl,.inl h0⟩
 · refine⟨_,cap,rfl,rfl,.inr ⟨g,0,rfl,(qW.1 hh).1,λi t ht=> ?_⟩⟩
   obtain⟨h1,h2⟩:=z86 L i t ht;have k:=λj u hu=>h.cells (g:=g) rfl j u hu
   simp only[nadd_at] at k;rw[Nat.zero_add];have k1:=k _ _ h1;have k2:=k _ _ h2;rw[Nat.zero_add] at k1 k2;exact⟨k1,k2⟩
theorem Owc.lit(w:World)(cs:Array Value)(l:List Cd)(n:Nat)(hn:l.length=n)(h5:n<=1000)(e:cs.toList=clc l)(B:Nat)(hB:B<=w.heap.size):Owc B (w.alloc (.cells cs 216)) (.slice (some ⟨w.heap.size,0,none⟩) n n) l:=by
 have:=World.ownsRow_lit (base:=B) (e:= 216) (size:=2) w cs n hB (by unfold maxLen;omega) (by rw[<-Array.length_toList,e,z1l,hn]);unfold Owc;rw[hn,<-e];exact this
end
theorem z3i:(prog.info? 216).map (λi=>(i.zero,i.size,i.bytes))=some (some (.agg #[.int .u32 0,.int .u8 0]),2,8):=by kernel_rfl
theorem z0Q{w:World}(ty:TypeId){B:Nat}{v:Value}{l:List Cd}(h:Owc B w v l){A:Option Addr}{n c:Nat}{r:List Cd}(hr:z0k w A n r)(hn:0<n)(hL:l.length+r.length<=3000000)(hB:B<=w.heap.size):
 ∃v' w',(Builtin.append_ #[207,207] ty #[v,.slice A n c]).run prog w=.ok v' w'/\Owc B w' v' (l++r)/\Below B w w'/\w.grownBy w' v.ownBlock/\∀g,v'.ownBlock=some g->v.ownBlock=some g\/w.heap.size<=g:=by
 obtain⟨i,h1,h2,h3,h4⟩:=info_of z3i;obtain⟨b,q,rfl,hb,hc⟩:=hr.at hn;have hl:=hr.leng
 obtain⟨g,cap,w',r1,r2,r3,r4,_⟩:=run_append_lies (P:= prog) w 207 ty B 216 i _ 2 8 underlying207 h1 h2 h3 h4 rfl (by decide) v l.length (clc l) h ⟨b,q,none⟩ n c (clc r) (by rw[z1l];omega)
  (λj u hu=>by
   rw[nadd_at];have hj:j<r.length*2:=(by have:=(List.getElem?_eq_some_iff.1 hu).1;rw[z1l] at this;exact this);obtain⟨k,hk⟩:∃k,j/2=k:=⟨_,rfl⟩
   have hkr:k<r.length:=(by omega);have hg:r[k]? =some (r.getD k default):=(by rw[List.getD,qE hkr];rfl);obtain⟨a1,a2⟩:=z86 r k _ hg;obtain⟨c1,c2⟩:=hc k (by omega);by_cases he:j%2=0
   · rw[show j=k*2 by omega] at hu ⊢
     rw[a1] at hu;rw[c1];exact hu
   · rw[show j=k*2+1 by omega] at hu ⊢
     rw[a2] at hu;rw[<-Nat.add_assoc,c2];exact hu) (zc8 r) (by omega) (by unfold maxLen;omega) (by omega) hB _ rfl
 refine⟨_,w',r1,?_,(Below.refl _ w).grown r3 hB (λk hk=>(World.ownsRow.lt h k hk).1),r3,λk hk=> ?_⟩
 · unfold Owc
   rw[qA,z46,hl];exact r2
 · obtain rfl:g=k:=by simpa [Value.ownBlock] using hk
   rcases r4 with q|q
   · exact .inl q
   · exact .inr (by omega)
theorem z8o{ops:Array Oper}{rest:List Oper}{o:Oper}{a:Act}{w:World}{Q:Exit->Act->World->Prop}(hgd:o.guard=none)(s x:Operand)
 (ho:o.op=.call {callee:=.builtin .append,args:= #[s,x],argTypes:= #[207,207]}) (B:Nat) (v:Value) (l:List Cd) (hs:a.eval s=v) (h:Owc B w v l) (A:Option Addr) (n c:Nat) (r:List Cd)
 (hx:a.eval x=.slice A n c) (hr:z0k w A n r) (hn:0<n) (hL:l.length+r.length<=3000000) (hB:B<=w.heap.size)
 (hK:∀v' w',Owc B w' v' (l++r)->Below B w w'->w.grownBy w' v.ownBlock->(∀g,v'.ownBlock=some g->v.ownBlock=some g\/w.heap.size<=g)->wpList prog ops Q rest (a.put o.dst v') w'):wpList prog ops Q (o::rest) a w:=
 wpList_plain hgd λK hK'=>by
  obtain⟨v',w',r1,r2,r3,r4,r5⟩:=z0Q (c:=c) o.type h hr hn hL hB;unfold Oper.wp execOp;simp only[ho,resolve,invoke,builtin,Sem.run_bind,Sem.run_pure,Result.andThen_ok,List.map_toArray,List.map_cons,List.map_nil,hs,hx,r1];exact hK' _ _ (hK v' w' r2 r3 r4 r5)
theorem zcY{ops:Array Oper}{o:Oper}{a:Act}{w:World}{K:Act->World->Prop}{Q:Exit->Act->World->Prop}{E:Prop}(hgd:o.guard=none)(s x:Operand)
 (ho:o.op=.call {callee:=.builtin .append,args:= #[s,x],argTypes:= #[207,207]}) (B:Nat) (v:Value) (l:List Cd) (hs:a.eval s=v) (h:Owc B w v l) (A:Option Addr) (n c:Nat) (r:List Cd)
 (hx:a.eval x=.slice A n c) (hr:z0k w A n r) (hn:0<n) (hL:l.length+r.length<=3000000) (hB:B<=w.heap.size)
 (hK:∀v' w',Owc B w' v' (l++r)->Below B w w'->w.grownBy w' v.ownBlock->(∀g,v'.ownBlock=some g->v.ownBlock=some g\/w.heap.size<=g)->K (a.put o.dst v') w'):if Region.wanted o (yielded ops a.tmps)=true then Oper.wp prog o a w K Q else E:=by
 have hw:Region.wanted o (yielded ops a.tmps)=true:=(by simp[Region.wanted,hgd]);rw[if_pos hw];obtain⟨v',w',r1,r2,r3,r4,r5⟩:=z0Q (c:=c) o.type h hr hn hL hB;unfold Oper.wp execOp;simp only[ho,resolve,invoke,builtin,Sem.run_bind,Sem.run_pure,Result.andThen_ok,List.map_toArray,List.map_cons,List.map_nil,hs,hx,r1];exact hK v' w' r2 r3 r4 r5
theorem z6Z(l:List Nat)(least k:Nat):∀d,(∀j,k<=j->j<k+d->l.getD j 0=0)->upk l least (k+d)=upk l least k
 |0,_=>rfl
 |d+1,h=>by
  rw[<-Nat.add_assoc,z4i,if_neg (by rw[h (k+d) (by omega) (by omega)];omega)];exact z6Z l least k d (λj h1 h2=>h j h1 (by omega))
theorem zi9(l:List Nat)(least k:Nat)(h1:least<=k)(h2:k<=l.length)(hz:∀j,k<=j->j<l.length->l.getD j 0=0)(he:k=least\/0<l.getD (k - 1) 0):upt l least=k:=by
 have e:upt l least=upk l least l.length:=rfl;rw[e,show l.length=k+(l.length - k) by omega,z6Z l least k _ (λj a b=>hz j a (by omega))];rcases he with rfl|he
 · have:=z5a l k k;omega
 · by_cases h0:k=0
   · subst h0;have:=z5a l least 0;omega
   · obtain⟨q,rfl⟩:∃q,k=q+1:=⟨k - 1,by omega⟩
     have:=z5a l least q;rw[z4i,if_pos (by simpa using he)];by_cases h3:least=q+1
     · omega
     · omega
theorem told_any(A:Option Addr)(n c least:Nat)(l:List Nat)(w:World)(H:IsBys w A n l)(hc:n<=c)(h1:least<=n)(hn:n<=1000)(h0:1<=least):
 Calls prog 275 #[.slice A n c,.int .i64 least] w λe w'=>e=.returned (.slice A (upt l least) c)/\∃q,w'=w.drewN q:=by
 obtain⟨b,o,rfl,hb,hcs⟩:=H.at (by omega);have HCs:=qH hcs;have HUp:=qH (λk a b c d=>zi9 l least k a b c d);have hlen:=H.leng;clear H hcs;go_enter func275,ntmps275;go_wp2_with fail
 go_loopw [5] (λx wr=> ∃k:Nat,least<=k/\k<=n/\x=.int .i64 k/\(∀j,k<=j->j<n->l.getD j 0=0)/\∃q,wr=w.drewN q) (λx _=>(intOf x).toNat)
 case atStart=>exact⟨n,h1,qR,rfl,λj a b=>absurd b (by omega),0,rfl⟩
 case round=>
  obtain⟨k,hk1,hk2,rfl,hz,q,rfl⟩:=hrel;have HZ:=qH hz;clear hz;by_cases h3:least<k
  · obtain⟨d1,d1'⟩:=qdT h3;obtain⟨p,rfl⟩:∃p,k=p+1:=⟨k - 1,by omega⟩
    have e1:((p+1:Nat):Int) - 1=(p:Int):=(by omega);have e2:(p:Int)+1 - 1=(p:Int):=(by omega);have hp:p<n:=(by omega);have c0:(w.drewN q).cell? ⟨b,o+p,none⟩=some (.int .u8 (l.getD p 0:Nat)):=HCs.o p hp;generalize hx:l.getD p 0=x at c0;by_cases hx0:x=0
    · subst hx0
      have HX:=qH hx;clear hx;go_wp2_with fail;go_roundw
      case rel=>exact⟨p,by omega,by omega,by go_num,λj a b=>(by
       by_cases e:j=p
       · subst e;exact HX.o
       · exact HZ.o j (by omega) b),_,rfl⟩
      case measure=>(simp[intOf];try omega)
    · have d2:((x:Int)==0)=false:=by rw[qN];omega
      have HX:=qH (HUp.o (p+1) (by omega) (by omega) (by rw[hlen];exact HZ.o) (.inr (by simp only[Nat.add_sub_cancel];omega)));clear hx;go_wp2_with fail;go_ret;exact⟨by rw[HX.o];rfl,_,rfl⟩
  · obtain rfl:k=least:=by omega
    have HX:=qH (HUp.o k (by omega) (by omega) (by rw[hlen];exact HZ.o) (.inl rfl));go_wp2_with fail;go_ret;exact⟨by rw[HX.o];rfl,_,rfl⟩
theorem ziv(F:Nat->Value){cs:Array Value}(e:cs=((List.range 19).map F).toArray):∀i,i<19->cs[i]? =some (F i):=λi hi=>by
 rw[e,List.getElem?_toArray,List.getElem?_map,List.getElem?_range hi];rfl
def In(w:World)(X:Nat)(f:Nat->Nat):Prop:=w.rowIs X 394 19 (λi=> .int .i64 (f i:Nat))
section
variable {w w':World} {X:Nat} {f f':Nat->Nat}
theorem In.new(w:World):In (w.alloc (.cells #[.int .i64 0,.int .i64 0,.int .i64 0,.int .i64 0,.int .i64 0,.int .i64 0,.int .i64 0,.int .i64 0,.int .i64 0,.int .i64 0,.int .i64 0,.int .i64 0,.int .i64 0,.int .i64 0,.int .i64 0,.int .i64 0,.int .i64 0,.int .i64 0,.int .i64 0] 394)) w.heap.size (λ_=>0):=
 ⟨_,heap_alloc_new _ _,rfl,ziv _ rfl⟩
theorem In.lt(h:In w X f):X<w.heap.size:=World.rowIs.lt h
theorem In.cell(h:In w X f){i:Nat}(hi:i<19):w.cell? ⟨X,i,none⟩=some (.int .i64 (f i:Nat)):=World.rowIs.cell h hi
theorem In.free(h:In w X f)(i:Nat):w.frozen? ⟨X,i,none⟩=false:=World.rowIs.frozen h i
theorem In.set(h:In w X f)(i v:Nat)(e:∀j,j<19->f' j=if j=i then v else f j):In (w.setCell ⟨X,i,none⟩ (.int .i64 (v:Nat))) X f':=
 World.rowIs.congr (World.rowIs.set h i (.int .i64 (v:Nat))) (λj hj=>by rw[e j hj];by_cases q:j=i<;>simp[q])
theorem In.alloc(h:In w X f)(o:Obj):In (w.alloc o) X f:=World.rowIs.alloc h o
theorem In.nums(h:In w X f):z0e w .i64 (some ⟨X,0,none⟩) 19 (λi=>(f i:Int)):=λ_=>⟨X,0,rfl,h.lt,λi hi=>by rw[Nat.zero_add];exact h.cell hi⟩
end
theorem z8Y(A:Option Addr)(n c:Nat)(r:List Rn)(w:World)(H:z2q w A n r)(hn:n<=2000)(hr:∀x∈r,Rok x):
 Calls prog 277 #[.slice A n c] w λe w'=> ∃g,e=.returned (.slice (some ⟨g,0,none⟩) 19 19)/\w.heap.size<=g/\Br w' g 19 (hfl (rc r) 19 7)/\Below w.heap.size w w':=by
 have HH:=qH H;have HR:=qH (show ∀i,i<n->(r.getD i default).s<=18 from λi hi=>(hr _ (by rw[List.getD,qE (by rw[H.leng];exact hi)];exact List.getElem_mem _)).1);have hleng:=H.leng;have HL:=qH (show ∀W,In W w.heap.size (rc r)->Calls prog 274 #[.slice (some ⟨w.heap.size,0,none⟩) 19 19,.int .i64 7] W (z9o W 19 (hfl (rc r) 19 7)) from λW h=>zbf _ 19 19 7 (rc r) W (by omega) (λi=>qK (zgD r i) (by omega)) h.nums (by omega) (by omega) (by decide) (λm e h q=>absurd h.le (by omega)));unfold z9o at HL;clear H hr;go_enter func277,ntmps277;go_wp2_with fail
 go_loopw [10] (λx wr=> ∃k:Nat,k<=n/\x=.int .i64 k/\In wr w.heap.size (rc (r.take k))/\Below w.heap.size w wr) (λx _=>n - (intOf x).toNat)
 case atStart=>exact⟨0,qZ,rfl,In.new w,qL⟩
 case round=>
  obtain⟨k,hk,rfl,hi,hb⟩:=hrel;by_cases hlt:k<n
  · obtain⟨b,o,rfl,hbl,hcs⟩:=(HH.o.below hb).at (by omega)
    obtain⟨c0,c1⟩:=hcs k hlt;have hs:=HR.o k hlt;have hsucc:=zgC r k (by omega);have hle:=zgD (r.take k);rw[List.length_take] at hle;generalize ht:r.getD k default=t at c0 c1 hs hsucc;obtain⟨s,e⟩:=t;simp only at c0 c1 hs hsucc;have hs2:s<19:=(by omega);have hk2:k<=2000:=(by omega);have v0:=(hi.alloc (.cells #[.int .u8 s,.int .u8 e] 225)).cell hs2;have f0:=(hi.alloc (.cells #[.int .u8 s,.int .u8 e] 225)).free s;obtain⟨v,hv⟩:∃v,rc (r.take k) s=v:=⟨_,rfl⟩
    have hv2:v<=2000:=(by have:=hle s;omega);rw[hv] at v0;have HI:=qH ((hi.alloc (.cells #[.int .u8 s,.int .u8 e] 225)).set (f':=rc (r.take (k+1))) s (v+1) (λj _=>by
     rw[hsucc j];by_cases q:j=s
     · subst q;simp[hv]
     · rw[if_neg (λz=>q z.symm),if_neg q];rfl))
    have HB:=qH ((hb.alloc hb.size (.cells #[.int .u8 s,.int .u8 e] 225)).setCell (p:=⟨w.heap.size,s,none⟩) qR (.int .i64 ((v+1:Nat):Int)));clear hi hb hcs hsucc hle ht hv hs;go_wp2_with fail;go_roundw
    case rel=>exact⟨k+1,by omega,by go_num,HI.o,HB.o⟩
    case measure=>(simp[intOf];try omega)
  · obtain rfl:k=n:=by omega
    rw[List.take_of_length_le (by omega)] at hi;obtain⟨HI,HB⟩:=qh2 hi hb;clear hi hb;go_wp2_with (go_at_call 274;(with_reducible refine(HL.o _ HI.o).mono ?_);rintro e w1 ⟨g,rfl,ng,rg,b1⟩;obtain⟨R1,N1⟩:=qh2 rg ng;have B1:=qbt HB b1;clear rg ng b1);go_ret;exact⟨g,rfl,qK HB.o.size N1.o,R1.o,B1.o⟩
theorem zgT(w:World):Calls prog 258 #[] w λe w'=>e=.returned (.slice (some ⟨w.heap.size,0,none⟩) 19 19)/\Br w' w.heap.size 19 (λi=>ord.getD i 0)/\Below w.heap.size w w':=by
 go_enter func258,ntmps258;go_wp2;go_ret;exact⟨rfl,⟨_,heap_alloc_new _ _,rfl,ziv _ rfl⟩,qL⟩
theorem z6F(g:Nat)(c:Nat)(f:Nat->Nat)(w:World)(H:Br w g 19 f)(hf:∀i,f i<=255):
 Calls prog 278 #[.slice (some ⟨g,0,none⟩) 19 c] w λe w'=> ∃z,e=.returned (.slice (some ⟨z,0,none⟩) 19 19)/\IsBys w' (some ⟨z,0,none⟩) 19 (inl f)/\Below w.heap.size w w':=by
 have HO:=qH (zgT w);have HH:=qH H;have hgl:=H.lt;have HOr:=qH (show ∀i,i<19->ord.getD i 0<19 by decide);clear H;go_enter func278,ntmps278;go_wp2_with (go_at_call 258;(with_reducible refine HO.o.mono ?_);rintro e w1 ⟨rfl,r1,b1⟩;obtain⟨R1,B1⟩:=qh2 r1 b1;clear r1 b1)
 go_loopw [9] (λx wr=> ∃k:Nat,k<=19/\x=.int .i64 k/\Br wr w.heap.size 19 (λi=>if i<k then f (ord.getD i 0) else ord.getD i 0)/\Below w.heap.size w wr) (λx _=>19 - (intOf x).toNat)
 case atStart=>exact⟨0,qZ,rfl,R1.o.congr (λi hi=>by rw[if_neg (by omega)]),B1.o⟩
 case round=>
  obtain⟨k,hk,rfl,hi,hb⟩:=hrel;by_cases hlt:k<19
  · have d1:decide ((k:Int)<19)=true:=q9T (by omega)
    have d1':decide (k<19)=true:=q9T hlt;have ho:=HOr.o k hlt;have c0:=hi.cell hlt;rw[if_neg (by omega)] at c0;obtain⟨s,hs⟩:∃s,ord.getD k 0=s:=⟨_,rfl⟩
    rw[hs] at ho c0;have c1:=(HH.o.below hb hgl).cell ho;have f0:=hi.frozen k;obtain⟨x,hx⟩:∃x,f s=x:=⟨_,rfl⟩
    rw[hx] at c1;have HI:=qH ((hi.set k x).congr (f':=λi=>if i<k+1 then f (ord.getD i 0) else ord.getD i 0) (λi hi2=>by
     by_cases q:i=k
     · subst q;rw[if_pos rfl,if_pos (by omega),hs,hx]
     · rw[if_neg q]
       by_cases q2:i<k
       · rw[if_pos q2,if_pos (by omega)]
       · rw[if_neg q2,if_neg (by omega)]))
    have HB:=qH (hb.setCell (p:=⟨w.heap.size,k,none⟩) qR (.int .u8 x));clear hi hb hs hx;go_wp2_with fail;go_roundw
    case rel=>exact⟨k+1,by omega,by go_num,HI.o,HB.o⟩
    case measure=>(simp[intOf];try omega)
  · obtain rfl:k=19:=by omega
    obtain⟨HI,HB⟩:=qh2 hi hb;clear hi hb;go_wp2_with fail;go_ret;refine⟨_,rfl,⟨by simp[inl,ord],by decide,λx hx=> ?_,.inr ⟨w.heap.size,0,rfl,HI.o.lt,λi x hx=> ?_⟩⟩,HB.o⟩
    · unfold inl at hx
      obtain⟨y,_,rfl⟩:=List.mem_map.1 hx;exact hf y
    · have hi2:i<19:=by
       have:=(List.getElem?_eq_some_iff.1 hx).1
       simpa [inl,ord] using this
      have hc:=HI.o.cell hi2;rw[if_pos hi2] at hc;unfold inl at hx;rw[List.getElem?_map] at hx;rw[Nat.zero_add,hc];obtain⟨y,hy,rfl⟩:=Option.map_eq_some_iff.1 hx;rw[List.getD,hy];rfl
def tb3(x1 x2:List Nat)(f:Nat->Nat):List Cd:=[(upt x1 257 - 257,5),(upt x2 1 - 1,5),(upt (inl f) 4 - 4,4)]
def tbi(f:Nat->Nat):List Cd:=((inl f).take (upt (inl f) 4)).map (λx=>(x,3))
def tr1(f:Nat->Nat)(y:Rn):List Cd:=[(C.rc f 19 y.s,f y.s),(y.e,rbn y.s)]
def tbr(f:Nat->Nat)(r:List Rn):List Cd:=r.flatMap (tr1 f)
def rrn(x1 x2:List Nat):List Rn:=pk (x1.take (upt x1 257)++x2.take (upt x2 1))
noncomputable def rrf(x1 x2:List Nat):Nat->Nat:=hfl (rc (rrn x1 x2)) 19 7
noncomputable def tbl(x1 x2:List Nat):List Cd:=tb3 x1 x2 (rrf x1 x2)++tbi (rrf x1 x2)++tbr (rrf x1 x2) (rrn x1 x2)
theorem zcQ(f:Nat->Nat)(r:List Rn)(k:Nat)(hk:k<r.length):tbr f (r.take (k+1))=tbr f (r.take k)++tr1 f (r.getD k default):=by
 unfold tbr;rw[List.take_add_one,List.getD,qE hk,List.flatMap_append];simp
theorem z68(f:Nat->Nat):∀r:List Rn,(tbr f r).length=2*r.length
 |[]=>rfl
 |y::r=>by unfold tbr;rw[List.flatMap_cons,qA,qC];have:=z68 f r;unfold tbr at this;rw[this];show 2+_=_;omega
theorem z8f(n:Int)(s:Nat)(w:World)(hs:s<=255):Calls prog 246 #[.int .u32 n,.int .i64 s] w λe w'=>e=.returned (.agg #[.int .u32 n,.int .u8 s])/\w.alloc (.cells #[.int .u32 n,.int .u8 s] 216)=w':=by
 go_enter func246,ntmps246;go_wp2;exact bodyPost_ret (v:=.agg #[.int .u32 n,.int .u8 s]) (results_cell_row rfl _ _ w.heap.size _ _ _ _ rfl (heap_alloc_new _ _) underlying216 rfl zcq) rfl ⟨rfl,rfl⟩
theorem z1V(n:Int)(s:Nat)(w:World)(hs:s<=255):Calls prog 246 #[.int .u32 n,.int .i64 s] w λe w'=>e=.returned (.agg #[.int .u32 n,.int .u8 s])/\Below w.heap.size w w':=
 (z8f n s w hs).mono λe w' ⟨h1,h2⟩=>⟨h1,by rw[<-h2];exact qL⟩
def zhW(W:World)(N:Nat)(r:List Rn)(e:Ending)(w':World):Prop:=∃A c,e=.returned (.tuple #[.slice A N c,.int .i64 0])/\z2q w' A N r/\Below W.heap.size W w'
theorem zaN(A:Option Addr)(n c:Nat)(l:List Nat)(w:World)(HT:U.Tab w)(H:IsBys w A n l)(hc:n<=c)(hn:n<=2000)(hok:∀x∈l,x<=15)(N:Nat)(hN:(pk l).length=N):
 Calls prog 276 #[.slice A n c] w (zhW w N (pk l)):=by
 refine(zdy A n c l w HT H hc hn (λi hi=>hok _ (by rw[List.getD,qE (by rw[H.leng];exact hi)];exact List.getElem_mem _))).mono ?_
 rintro e w' ⟨v,rfl,ho,hb⟩;obtain⟨A',c',hv,hr⟩:=ho.rns (λr hr=>by have:=zgM l hok r hr;unfold Rok at this;omega) (by have:=z7w l;rw[H.leng] at this;unfold maxLen;omega);rw[hN] at hv hr;exact⟨A',c',by rw[hv],hr,hb⟩
def z4Y(W:World)(n:Nat)(f:Nat->Nat)(e:Ending)(w':World):Prop:=∃b c,e=.returned (.tuple #[.slice (some ⟨b,0,none⟩) n c,.int .i64 0])/\W.heap.size<=b/\C.Crow w' b n (C.rc f n) f/\Below W.heap.size W w'
theorem z1u(A:Option Addr)(n c:Nat)(f:Nat->Nat)(w:World)(hn:n<=1000)(h0:0<n)(hf:z9p f n)(H:z0e w .u8 A n (λi=>(f i:Int))):
 Calls prog 247 #[.slice A n c] w (z4Y w n f):=by
 have h:=C.writes_any A n c f w (by unfold maxLen;omega) hf.byte H;rw[hf.erc.1,hf.erc.2] at h;refine h.mono ?_
 rintro e w' ⟨A',c',rfl,_,_,_,hb,hcr⟩;obtain⟨b,rfl,hbn,hcr⟩:=hcr h0;exact⟨b,c',rfl,hbn,hcr,hb⟩
theorem zbu(f:Nat->Nat)(hf:∀i,f i<=7):∀x∈inl f,x<=7:=λx hx=>by
 unfold inl at hx;obtain⟨y,_,rfl⟩:=List.mem_map.1 hx;exact hf y
def zjH(W:World)(l:List Cd)(e:Ending)(w':World):Prop:=∃A c,e=.returned (.slice A l.length c)/\z0k w' A l.length l/\Below W.heap.size W w'
theorem z8z(A1 A2:Option Addr)(c1 c2:Nat)(x1 x2:List Nat)(w:World)(HT:U.Tab w)(H1:IsBys w A1 286 x1)(H2:IsBys w A2 30 x2)(hc1:286<=c1)(hc2:30<=c2)(h15:∀x∈x1,x<=15)(h16:∀x∈x2,x<=15):
 Calls prog 243 #[.agg #[.slice A1 286 c1,.slice A2 30 c2]] w (zjH w (tbl x1 x2)):=by
 obtain⟨b1,o1,rfl,hb1,hz1⟩:=H1.at (by omega);clear hz1;obtain⟨b2,o2,rfl,hb2,hz2⟩:=H2.at (by omega);clear hz2;have hu1:=z2h x1 257;have hu2:=z2h x2 1;rw[H1.leng] at hu1;rw[H2.leng] at hu2;obtain⟨u1,hu1e⟩:∃u1,upt x1 257=u1:=⟨_,rfl⟩
 obtain⟨u2,hu2e⟩:∃u2,upt x2 1=u2:=⟨_,rfl⟩
 obtain⟨r,hr⟩:∃r,rrn x1 x2=r:=⟨_,rfl⟩
 obtain⟨f,hf⟩:∃f,rrf x1 x2=f:=⟨_,rfl⟩
 obtain⟨u3,hu3e⟩:∃u3,upt (inl f) 4=u3:=⟨_,rfl⟩
 obtain⟨N,hN⟩:∃N,r.length=N:=⟨_,rfl⟩
 rw[hu1e] at hu1;rw[hu2e] at hu2;have hu3:=z2h (inl f) 4;rw[hu3e,show(inl f).length=19 by simp[inl,ord]] at hu3;have hfe:f=hfl (rc r) 19 7:=(by rw[<-hf,<-hr];rfl);have hf7:∀i,f i<=7:=λi=>by rw[hfe];exact z0C _ (by omega) (by decide) i
 have hpk:pk (x1.take u1++x2.take u2)=r:=(by rw[<-hr,<-hu1e,<-hu2e];rfl);have hok:∀x∈x1.take u1++x2.take u2,x<=15:=λx hx=>by
  rcases List.mem_append.1 hx with q|q
  · exact h15 x (List.mem_of_mem_take q)
  · exact h16 x (List.mem_of_mem_take q)
 have hlen:(x1.take u1++x2.take u2).length=u1+u2:=(by rw[qA,List.length_take,List.length_take,H1.leng,H2.leng];omega);have hN2:N<=316:=(by have:=z7w (x1.take u1++x2.take u2);rw[hpk,hN,hlen] at this;omega);have hrok:∀y∈r,Rok y:=(by rw[<-hpk];exact zgM _ hok);have HTold1:=qH (show ∀W,Below w.heap.size w W->Calls prog 275 #[.slice (some ⟨b1,o1,none⟩) 286 c1,.int .i64 257] W λe w'=>e=.returned (.slice (some ⟨b1,o1,none⟩) u1 c1)/\Below W.heap.size W w' from λW b=>by
  have h:=told_any (some ⟨b1,o1,none⟩) 286 c1 257 x1 W (H1.below b) hc1 (by omega) (by omega) (by omega);rw[hu1e] at h;exact h.mono λe w' ⟨h1,q,h2⟩=>⟨h1,by rw[h2];exact z0b (Below.refl _ _) q⟩)
 have HTold2:=qH (show ∀W,Below w.heap.size w W->Calls prog 275 #[.slice (some ⟨b2,o2,none⟩) 30 c2,.int .i64 1] W λe w'=>e=.returned (.slice (some ⟨b2,o2,none⟩) u2 c2)/\Below W.heap.size W w' from λW b=>by
  have h:=told_any (some ⟨b2,o2,none⟩) 30 c2 1 x2 W (H2.below b) hc2 (by omega) (by omega) (by omega);rw[hu2e] at h;exact h.mono λe w' ⟨h1,q,h2⟩=>⟨h1,by rw[h2];exact z0b (Below.refl _ _) q⟩)
 have HCat:=qH (show ∀W z,Below w.heap.size w W->W.heap[z]? =some (.cells #[.slice (some ⟨b1,o1,none⟩) u1 c1,.slice (some ⟨b2,o2,none⟩) u2 c2] 26 (0,0))->Calls prog 252 #[.slice (some ⟨z,0,none⟩) 2 2] W
  λe w'=> ∃A c,e=.returned (.slice A (u1+u2) c)/\u1+u2<=c/\IsBys w' A (u1+u2) (x1.take u1++x2.take u2)/\Below W.heap.size W w' from λW z b hz=>by
  have hfl:flt [⟨some ⟨b1,o1,none⟩,u1,c1,x1.take u1⟩,⟨some ⟨b2,o2,none⟩,u2,c2,x2.take u2⟩]=x1.take u1++x2.take u2:=by simp[flt]
  have h:=z44 z 2 [⟨some ⟨b1,o1,none⟩,u1,c1,x1.take u1⟩,⟨some ⟨b2,o2,none⟩,u2,c2,x2.take u2⟩] W rfl (by omega) (qW.1 hz).1
   (λi hi=>by
    match i,hi with
    |0,_=>exact cell_of_row _ _ 0 _ _ (0,0) hz
    |1,_=>exact cell_of_row _ _ 1 _ _ (0,0) hz)
   (λi hi=>by
    match i,hi with
    |0,_=>exact⟨(H1.below b).pre (j:=u1) (by omega),show 0<u1 by omega⟩
    |1,_=>exact⟨(H2.below b).pre (j:=u2) (by omega),show 0<u2 by omega⟩) (by rw[hfl,hlen];omega) (by rw[hfl,hlen];omega)
  rw[hfl] at h;unfold Cct at h;rw[hlen] at h;exact h.mono (by rintro e w' ⟨A,c,h1,h2,h3,h4,h5⟩;exact⟨A,c,h1,h2,h4,h5⟩))
 have HPack:=qH (show ∀W A c,Below w.heap.size w W->IsBys W A (u1+u2) (x1.take u1++x2.take u2)->u1+u2<=c->Calls prog 276 #[.slice A (u1+u2) c] W (zhW W N r) from λW A c b h h2=>by
  have:=zaN A (u1+u2) c _ W (HT.below b qR) h h2 (by omega) hok N (by rw[hpk,hN]);rw[hpk] at this;exact this)
 have HLen:=qH (show ∀W A c,z2q W A N r->Calls prog 277 #[.slice A N c] W λe w'=> ∃g,e=.returned (.slice (some ⟨g,0,none⟩) 19 19)/\W.heap.size<=g/\Br w' g 19 f/\Below W.heap.size W w' from λW A c h=>by
  have:=z8Y A N c r W h (by omega) hrok;rw[<-hfe] at this;exact this)
 have HOrd:=qH (λ(W:World) (g c:Nat) (h:Br W g 19 f)=>z6F g c f W h (λi=>qK (hf7 i) (by omega)));have HTold3:=qH (show ∀W z,IsBys W (some ⟨z,0,none⟩) 19 (inl f)->Calls prog 275 #[.slice (some ⟨z,0,none⟩) 19 19,.int .i64 4] W λe w'=>e=.returned (.slice (some ⟨z,0,none⟩) u3 19)/\Below W.heap.size W w' from λW z h=>by
  have h:=told_any (some ⟨z,0,none⟩) 19 19 4 (inl f) W h (by omega) (by omega) (by omega) (by omega);rw[hu3e] at h;exact h.mono λe w' ⟨h1,q,h2⟩=>⟨h1,by rw[h2];exact z0b (Below.refl _ _) q⟩)
 have HWr:=qH (λ(W:World) (g c:Nat) (h:Br W g 19 f)=>z1u (some ⟨g,0,none⟩) 19 c f W (by omega) (by omega) (by rw[hfe];exact ze9 _ (by omega) (by omega) (by decide) (by omega)) (z6S h));have HBits:=qH (show ∀ (s:Nat) (W:World),Below w.heap.size w W->s<=18->Calls prog 279 #[.int .u8 s] W λe w'=>e=.returned (.tuple #[.int .i64 (rbn s:Nat),.bool true])/\W=w' from λs W b hs=>by
  have h:=U.bits_any s W (HT.below b qR) (by omega);have e:=ziA hs;rw[e,show max ((rbn s:Nat):Int) 0=((rbn s:Nat):Int) by omega,show decide ((0:Int)<=((rbn s:Nat):Int))=true from q9T (by omega)] at h;exact h)
 have HBx:=qH (λ(n:Int) (s:Nat) (W:World) (hs:s<=255)=>z8f n s W hs);have HBo5:=qH (show ∀ (n:Int) (W:World),Calls prog 246 #[.int .u32 n,.int .i64 5] W λe w'=>e=.returned (.agg #[.int .u32 n,.int .u8 5])/\Below W.heap.size W w' from λn W=>z1V n 5 W (by omega));have HBo4:=qH (show ∀ (n:Int) (W:World),Calls prog 246 #[.int .u32 n,.int .i64 4] W λe w'=>e=.returned (.agg #[.int .u32 n,.int .u8 4])/\Below W.heap.size W w' from λn W=>z1V n 4 W (by omega));have HBo3:=qH (show ∀ (n:Int) (W:World),Calls prog 246 #[.int .u32 n,.int .i64 3] W λe w'=>e=.returned (.agg #[.int .u32 n,.int .u8 3])/\Below W.heap.size W w' from λn W=>z1V n 3 W (by omega));have HTbl:=qH (show tbl x1 x2=[(u1 - 257,5),(u2 - 1,5),(u3 - 4,4)]++tbi f++tbr f r by unfold tbl;rw[hf,hr];unfold tb3;rw[hu1e,hu2e,hu3e]);have HTi:=qH (show tbi f=((inl f).take u3).map (λx=>(x,3)) by unfold tbi;rw[hu3e]);have HRok:=qH hrok;unfold zhW at HPack;unfold z4Y at HWr;unfold zjH;clear HT H1 H2 h15 h16 hu1e hu2e hu3e hr hf hfe hf7 hpk hok hlen hrok;go_enter func243,ntmps243;have hb0:Below w.heap.size w (w.alloc (.cells #[.slice (some ⟨b1,o1,none⟩) 286 c1,.slice (some ⟨b2,o2,none⟩) 30 c2] 149)):=qL;have HB0:=qH hb0;have HZ:=qH (C2.new w (.slice (some ⟨b1,o1,none⟩) 286 c1) (.slice (some ⟨b2,o2,none⟩) 30 c2));clear hb0
 go_wp2_with (first
  |(go_at_call 275;(with_reducible refine(HTold1.o _ HB0.o).mono ?_);rintro e w1 ⟨rfl,b1'⟩;have z1:=HZ.o.below b1';have s0:=z1.at0;have s1:=z1.at1;have B1:=qbt HB0 b1';clear b1' z1)
  |(go_at_call 275;(with_reducible refine(HTold2.o _ B1.o).mono ?_);rintro e w2 ⟨rfl,b2'⟩;have B2:=qbt B1 b2';clear b2' s0 s1)
  |(go_at_call 252;(with_reducible refine(HCat.o _ _ (B2.o.alloc B2.o.size _) (heap_alloc_new _ _)).mono ?_);rintro e w3 ⟨A3,c3,rfl,k3,r3,b3⟩;obtain⟨R3,K3⟩:=qh2 r3 k3;have B3:=qH ((B2.o.alloc B2.o.size _).trans (b3.mono (B2.o.alloc B2.o.size _).size));clear r3 b3 k3)
  |(go_at_call 276;(with_reducible refine(HPack.o _ _ _ B3.o R3.o K3.o).mono ?_);rintro e w4 ⟨A4,c4,rfl,r4,b4⟩;have R4:=qH r4;have B4:=qbt B3 b4;clear r4 b4)
  |(go_at_call 277;(with_reducible refine(HLen.o _ _ _ R4.o).mono ?_);rintro e w5 ⟨g5,rfl,n5,r5,b5⟩;have R45:=qH (R4.o.below b5);have R5:=qH r5;have B5:=qbt B4 b5;clear r5 b5 n5)
  |(go_at_call 278;(with_reducible refine(HOrd.o _ _ _ R5.o).mono ?_);rintro e w6 ⟨z6,rfl,r6,b6⟩;have R46:=qH (R45.o.below b6);have R56:=qH (z0L R5.o b6);have R6:=qH r6;have B6:=qbt B5 b6;clear r6 b6)
  |(go_at_call 275;(with_reducible refine(HTold3.o _ _ R6.o).mono ?_);rintro e w7 ⟨rfl,b7⟩;have R47:=qH (R46.o.below b7);have R57:=qH (z0L R56.o b7);have R7:=qH (R6.o.below b7);have B7:=qbt B6 b7;clear b7)
  |(go_at_call 246;(with_reducible refine(HBo5.o ((u1:Int) - 257) w7).mono ?_);rintro e w8 ⟨rfl,b8⟩;have B8:=qH b8;clear b8)
  |(go_at_call 246;(with_reducible refine(HBo5.o ((u2:Int) - 1) w8).mono ?_);rintro e w9 ⟨rfl,b9⟩;have B9:=qbt B8 b9;clear b9)
  |(go_at_call 246;(with_reducible refine(HBo4.o ((u3:Int) - 4) w9).mono ?_);rintro e w10 ⟨rfl,b10⟩;have B10:=qbt B9 b10;clear b10))
 have HO:=qH (Owc.lit w10 #[.int .u32 ((u1:Int) - 257),.int .u8 5,.int .u32 ((u2:Int) - 1),.int .u8 5,.int .u32 ((u3:Int) - 4),.int .u8 4] [(u1 - 257,5),(u2 - 1,5),(u3 - 4,4)] 3 rfl (by omega) (by
  have e1:((u1 - 257:Nat):Int)=(u1:Int) - 257:=(by omega);have e2:((u2 - 1:Nat):Int)=(u2:Int) - 1:=(by omega);have e3:((u3 - 4:Nat):Int)=(u3:Int) - 4:=(by omega);simp only[clc,e1,e2,e3];rfl) w7.heap.size B10.o.size)
 have HB11:=qH (B10.o.alloc B10.o.size (.cells #[.int .u32 ((u1:Int) - 257),.int .u8 5,.int .u32 ((u2:Int) - 1),.int .u8 5,.int .u32 ((u3:Int) - 4),.int .u8 4] 216));have hz6:=(R7.o.at (by omega));obtain⟨z6',o6',e6,hz6l,hz6c⟩:=hz6;simp only[Option.some.injEq,Addr.mk.injEq,and_true] at e6;obtain⟨rfl,rfl⟩:=e6;have HZ6:=qH (show ∀i,i<19->w7.cell? ⟨z6,i,none⟩=some (.int .u8 ((inl f).getD i 0:Nat)) from λi hi=>by have:=hz6c i hi;rw[Nat.zero_add] at this;exact this);clear hz6c
 go_loopw [9,55] (λv x wr=> ∃k:Nat,k<=u3/\x=.int .i64 k/\Owc w7.heap.size wr v ([(u1 - 257,5),(u2 - 1,5),(u3 - 4,4)]++((inl f).take k).map (λx=>(x,3)))/\Below w7.heap.size w7 wr) (λ_ x _=>u3 - (intOf x).toNat)
 case atStart=>exact⟨0,qZ,rfl,HO.o,HB11.o⟩
 case round=>
  obtain⟨k,hk,rfl,ho,hb⟩:=hrel;by_cases hlt:k<u3
  · have c0:=(hb.cell (p:=⟨z6,k,none⟩) hz6l).trans (HZ6.o k (by omega))
    have hs:(inl f).take (k+1)=(inl f).take k++[(inl f).getD k 0]:=by
     have hl:k<(inl f).length:=(by simp[inl,ord];omega);rw[List.take_add_one,List.getD,qE hl];rfl
    obtain⟨x,hx⟩:∃x,(inl f).getD k 0=x:=⟨_,rfl⟩
    rw[hx] at c0 hs;have hx255:x<=255:=(by rw[<-hx];exact R7.o.le k);obtain⟨HS,HO,HB⟩:=qh3 hs ho hb;have hk2:k<=19:=(by omega);have HLl:=qH (show([(u1 - 257,5),(u2 - 1,5),(u3 - 4,4)]++((inl f).take k).map (λx=>(x,3)):List Cd).length+1<=3000000 by simp[inl,ord];omega);clear ho hb hs hx
    go_wp2_with (first
     |(go_at_call 246;(with_reducible refine(HBo3.o (x:Int) _).mono ?_);rintro e w12 ⟨rfl,b12⟩;have O12:=qH ((HO.o.below b12).alloc (.cells #[.int .u32 (x:Int),.int .u8 3] 216));have B12:=qH ((HB.o.trans (b12.mono HB.o.size)).alloc (HB.o.trans (b12.mono HB.o.size)).size (.cells #[.int .u32 (x:Int),.int .u8 3] 216));clear b12)
     |(at_builtin;refine z8o rfl _ _ rfl w7.heap.size _ _ rfl O12.o (some ⟨w12.heap.size,0,none⟩) 1 1 [(x,3)] rfl (z0k.of_row (heap_alloc_new _ _) rfl rfl) (by omega) HLl.o B12.o.size ?_;intro v13 w13 o13 b13 g13 l13;have O13:=qH o13;have B13:=qH (B12.o.trans b13);clear o13 b13 g13 l13))
    go_roundw
    case rel=>exact⟨k+1,by omega,by go_num,by rw[HS.o,List.map_append,<-qD];exact O13.o,B13.o⟩
    case measure=>(simp[intOf];try omega)
  · obtain rfl:k=u3:=by omega
    rw[<-HTi.o] at ho;obtain⟨HO,HB⟩:=qh2 ho hb;obtain⟨T0,hT0⟩:∃T0,([(u1 - 257,5),(u2 - 1,5),(k - 4,4)]++tbi f:List Cd)=T0:=⟨_,rfl⟩
    rw[hT0] at HO HTbl;have hTl:T0.length<=22:=(by rw[<-hT0,HTi.o];simp[inl,ord];omega);have HTl:=qH hTl;obtain⟨M0,hM0⟩:∃M0,wr.heap.size=M0:=⟨_,rfl⟩
    clear ho hb hT0 hTl;go_wp2_with (go_at_call 247;(with_reducible refine(HWr.o _ _ _ (R57.o.below HB.o R57.o.lt)).mono ?_);rintro e w11 ⟨bw,cw,rfl,nw,cr,b11⟩;obtain⟨CR,NW⟩:=qh2 cr nw;have O11:=qH (HO.o.below b11);have B11:=qbt HB b11;clear cr nw b11);have hr7:=R47.o
    go_loopw [9,73] (λv x wz=> ∃j:Nat,j<=N/\x=.int .i64 j/\Owc w7.heap.size wz v (T0++tbr f (r.take j))/\(∀g,v.ownBlock=some g->g≠bw)/\C.Crow wz bw 19 (C.rc f 19) f/\Below w7.heap.size w7 wz) (λ_ x _=>N - (intOf x).toNat)
    case atStart=>exact⟨0,qZ,rfl,by show Owc _ _ _ (T0++[]);rw[List.append_nil];exact O11.o,λg hg=>by have:=(HO.o.lt g hg).2;have:=NW.o;omega,CR.o,B11.o⟩
    case round=>
     obtain⟨j,hj,rfl,ho,hne,hcr,hb⟩:=hrel;by_cases hlt:j<N
     · obtain⟨b4,o4,e4,hbl,hcs⟩:=hr7.at (by omega)
       obtain⟨g0,g1⟩:=hcs j hlt;have c0:=(hb.cell (p:=⟨b4,o4+j*2,none⟩) hbl).trans g0;have y1:=(hb.cell (p:=⟨b4,o4+j*2+1,none⟩) hbl).trans g1;have hjr:j<r.length:=(by omega);have hy:=HRok.o (r.getD j default) (by rw[List.getD,qE hjr];exact List.getElem_mem _);have hs:=zcQ f r j hjr;have hlen:=z68 f (r.take j);rw[List.length_take] at hlen;generalize hye:r.getD j default=y at c0 y1 hy hs;obtain⟨ys,ye⟩:=y;simp only at c0 y1;have hys:ys<=18:=hy.1;have hye2:ye<=127:=hy.2;have m0:=hcr.cell1 (i:=ys) (by omega);have m1:=hcr.cell2 (i:=ys) (by omega);obtain⟨cc,hcc⟩:∃cc,C.rc f 19 ys=cc:=⟨_,rfl⟩
       obtain⟨ss,hss⟩:∃ss,f ys=ss:=⟨_,rfl⟩
       obtain⟨zz,hzz⟩:∃zz,rbn ys=zz:=⟨_,rfl⟩
       have hzz2:=zaz ys;have hs2:tbr f (r.take (j+1))=tbr f (r.take j)++[(cc,ss),(ye,zz)]:=(by rw[hs,<-hcc,<-hss,<-hzz];rfl);rw[hcc] at m0;rw[hss] at m1;rw[hzz] at hzz2;have hbt:=HBits.o ys _ ((B7.o.trans (hb.mono B7.o.size)).alloc (B7.o.trans (hb.mono B7.o.size)).size (.cells #[.int .u8 ys,.int .u8 ye] 225)) hys;rw[hzz] at hbt;obtain⟨HBt,HS,HO2,HNe,HCr,HB2⟩:=qh6 hbt hs2 ho hne hcr hb;have HLl:=qH (show(T0++tbr f (r.take j)).length+2<=3000000 by rw[qA,hlen];have:=HTl.o;omega);have hj2:j<=316:=(by omega);subst e4;have hbwl:=hcr.lt;clear ho hne hcr hb hcs hs hs2 hlen hye hcc hss hzz hy g0 g1 hjr hbt;go_wp2_with (go_at_call 279;(with_reducible refine HBt.o.mono ?_);rintro e w12 ⟨rfl,rfl⟩);have k0:(wr.alloc (.cells #[.int .u8 ys,.int .u8 ye] 225)).cell? ⟨bw,ys*2,none⟩=some (.int .u32 cc):=(Below.cell (p:=⟨bw,ys*2,none⟩) ((Below.refl _ wr).alloc qR _) hbwl).trans m0;have k1:(wr.alloc (.cells #[.int .u8 ys,.int .u8 ye] 225)).cell? ⟨bw,ys*2+1,none⟩=some (.int .u8 ss):=(Below.cell (p:=⟨bw,ys*2+1,none⟩) ((Below.refl _ wr).alloc qR _) hbwl).trans m1;have hys3:(ys:Int)<19:=(by omega);have HZz:=qH (show zz<=255 by omega);have hu32:IntKind.u32.wrap (ye:Int)=(ye:Int):=IntWalk.u32_in _ ⟨by omega,by omega⟩;have HCl:=qH (show #[.int .u32 (cc:Int),.int .u8 (ss:Int),.int .u32 (IntKind.u32.wrap (ye:Int)),.int .u8 (zz:Int)].toList=clc [(cc,ss),(ye,zz)] by rw[hu32];rfl);have hN3:∀cs:Array Value,((((wr.alloc (.cells #[.int .u8 ys,.int .u8 ye] 225)).drew.alloc (.cells #[.int .u32 (IntKind.u32.wrap (ye:Int)),.int .u8 zz] 216)).alloc (.cells cs 216)).heap[wr.heap.size+2]? =some (.cells cs 216 (0,0))):=λcs=>by
        have:=heap_alloc_new ((wr.alloc (.cells #[.int .u8 ys,.int .u8 ye] 225)).drew.alloc (.cells #[.int .u32 (IntKind.u32.wrap (ye:Int)),.int .u8 zz] 216)) (.cells cs 216)
        simpa using this
       have hb3:∀cs:Array Value,Below wr.heap.size wr (((wr.alloc (.cells #[.int .u8 ys,.int .u8 ye] 225)).drew.alloc (.cells #[.int .u32 (IntKind.u32.wrap (ye:Int)),.int .u8 zz] 216)).alloc (.cells cs 216)):=λcs=>((((Below.refl _ wr).alloc qR _).drew).alloc (by simp) _).alloc (by simp;omega) _
       have hS3:∀cs:Array Value,w7.heap.size<=(((wr.alloc (.cells #[.int .u8 ys,.int .u8 ye] 225)).drew.alloc (.cells #[.int .u32 (IntKind.u32.wrap (ye:Int)),.int .u8 zz] 216)).alloc (.cells cs 216)).heap.size:=λcs=>qK HB2.o.size (hb3 cs).size
       obtain⟨HB3,HHN3,HHS3⟩:=qh3 hb3 hN3 hS3;clear hu32 hN3 hb3 hS3
       go_region_law (first
        |(refine zcY rfl (.tmp 83) (.tmp 94) rfl w7.heap.size _ (T0++tbr f (r.take j)) rfl (((HO2.o.alloc _).alloc _).alloc _) (some ⟨wr.heap.size+2,0,none⟩) 2 2 [(cc,ss),(ye,zz)] (by simp[Act.eval]) (z0k.of_row (cs:= #[.int .u32 cc,.int .u8 ss,.int .u32 (IntKind.u32.wrap ye),.int .u8 zz]) (T:= 216) (HHN3.o _) HCl.o rfl) (by omega) HLl.o (HHS3.o _) ?_;intro v13 w13 o13 b13 g13 l13;obtain⟨O13,B13,G13,L13⟩:=qh4 o13 b13 g13 l13;clear o13 b13 g13 l13)
        |(rw[if_pos (by rfl)];go_simp;(with_reducible refine(HBx.o _ _ _ HZz.o).mono ?_);rintro e w' ⟨rfl,rfl⟩;dsimp only))
       all_goals
        go_wp2;go_roundw
        case rel=>
         exact⟨j+1,by omega,by go_num,by rw[HS.o,<-qD];exact O13.o,λg hg=>by
          rcases L13.o g hg with q|q
          · exact HNe.o g q
          · have h2:=qK (HB3.o _).size q
            omega,Crow.at' HCr.o ((G13.o.block bw (Nat.lt_of_lt_of_le hbwl (HB3.o _).size) (λe=>HNe.o bw e.symm rfl)).trans ((HB3.o _).block bw hbwl)),(HB2.o.trans ((HB3.o _).mono HB2.o.size)).trans B13.o⟩
        case measure=>(simp[intOf];try omega)
     · obtain rfl:j=N:=by omega
       rw[List.take_of_length_le (by omega),<-HTbl.o] at ho;obtain⟨A9,c9,hv9,h9⟩:=ho.cds;obtain⟨HV9,H9,HB2⟩:=qh3 hv9 h9 hb;clear ho hne hcr hb hv9 h9;go_wp2_with fail;go_ret;exact⟨A9,c9,by rw[HV9.o];rfl,H9.o,B7.o.trans (HB2.o.mono B7.o.size)⟩
def kF(f g:Nat->Nat)(b:Nat)(v1 v2 v3:Value)(i:Nat):Value:=if i<317 then cF f g b i else if i=317 then v1 else if i=318 then v2 else v3
def KV(f g:Nat->Nat)(b:Nat)(v1 v2 v3:Value):Array Value:=((List.range 320).map (kF f g b v1 v2 v3)).toArray
section
variable (f g:Nat->Nat) (b:Nat) (v1 v2 v3:Value)
theorem z0T:(KV f g b v1 v2 v3).size=320:=by unfold KV;simp
theorem zhZ(i:Nat)(h:i<320):(KV f g b v1 v2 v3)[i]? =some (kF f g b v1 v2 v3 i):=by
 unfold KV;rw[List.getElem?_toArray,List.getElem?_map,List.getElem?_range h];rfl
theorem zjz(h1:v1.oneCell'=true)(h2:v2.oneCell'=true)(h3:v3.oneCell'=true):(KV f g b v1 v2 v3).all (·.oneCell')=true:=by
 unfold KV;refine all_oneCell_toArray (λv hv=> ?_);obtain⟨i,_,rfl⟩:=List.mem_map.1 hv;unfold kF
 split
 · exact zfN f g b i
 · split
   · exact h1
   · split
     · exact h2
     · exact h3
end
def Kd(w:World)(X:Nat)(f g:Nat->Nat)(b:Nat)(v1 v2 v3:Value):Prop:=w.heap[X]? =some (.cells (KV f g b v1 v2 v3) 292 (0,0))
theorem zfA:(prog.info? 292).map (λi=>(i.zero,i.size))=some (some (.agg (KV (λ_=>0) (λ_=>0) 0 (.slice none 0 0) (.slice none 0 0) (.slice none 0 0))),320):=by kernel_rfl
theorem z7P(w:World):(zeroValue 292).run prog w=.ok (.agg (KV (λ_=>0) (λ_=>0) 0 (.slice none 0 0) (.slice none 0 0) (.slice none 0 0))) w:=(zero_of_info zfA).1 w
theorem z7Q:(prog.info? 292).map (·.size)=some 320:=(zero_of_info zfA).2
section
variable {w w':World} {X:Nat} {f g:Nat->Nat} {b:Nat} {v1 v2 v3:Value}
theorem Kd.new(w:World)(f g:Nat->Nat)(b:Nat)(v1 v2 v3:Value):Kd (w.alloc (.cells (KV f g b v1 v2 v3) 292)) w.heap.size f g b v1 v2 v3:=heap_alloc_new _ _
theorem Kd.lt(h:Kd w X f g b v1 v2 v3):X<w.heap.size:=(qW.1 h).1
theorem Kd.below(h:Kd w X f g b v1 v2 v3)(hb:Below w.heap.size w w'):Kd w' X f g b v1 v2 v3:=(hb.block X h.lt).trans h
theorem Kd.alloc(h:Kd w X f g b v1 v2 v3)(o:Obj):Kd (w.alloc o) X f g b v1 v2 v3:=(Below.heap_alloc w o X h.lt).trans h
theorem Kd.other(h:Kd w X f g b v1 v2 v3){a:Addr}(ha:X≠a.block)(v:Value):Kd (w.setCell a v) X f g b v1 v2 v3:=(Below.heap_setCell _ _ _ _ ha).trans h
theorem Kd.cell(h:Kd w X f g b v1 v2 v3){i:Nat}(hi:i<320):w.cell? ⟨X,i,none⟩=some (kF f g b v1 v2 v3 i):=by
 rw[cell_of_row _ _ i _ _ (0,0) h,zhZ f g b v1 v2 v3 i hi]
theorem Kd.at1(h:Kd w X f g b v1 v2 v3):w.cell? ⟨X,317,none⟩=some v1:=h.cell (by omega)
theorem Kd.at2(h:Kd w X f g b v1 v2 v3):w.cell? ⟨X,318,none⟩=some v2:=h.cell (by omega)
theorem Kd.at3(h:Kd w X f g b v1 v2 v3):w.cell? ⟨X,319,none⟩=some v3:=h.cell (by omega)
theorem Kd.bits(h:Kd w X f g b v1 v2 v3):w.cell? ⟨X,316,none⟩=some (.int .i64 (b:Nat)):=h.cell (by omega)
theorem Kd.free(h:Kd w X f g b v1 v2 v3)(i:Nat):w.frozen? ⟨X,i,none⟩=false:=by
 have h':w.heap[X]? =some (.cells (KV f g b v1 v2 v3) 292 (0,0)):=h;simp[World.frozen?,h']
theorem Kd.nums(h:Kd w X f g b v1 v2 v3):z0e w .i64 (some ⟨X,0,none⟩) 286 (λi=>(f i:Int)):=λ_=>⟨X,0,rfl,h.lt,λi hi=>by
 rw[Nat.zero_add,h.cell (by omega)];unfold kF cF;rw[if_pos (by omega),if_pos hi]⟩
theorem Kd.numsd(h:Kd w X f g b v1 v2 v3):z0e w .i64 (some ⟨X,286,none⟩) 30 (λi=>(g i:Int)):=λ_=>⟨X,286,rfl,h.lt,λi hi=>by
 rw[h.cell (by omega)];unfold kF cF;rw[if_pos (by omega),if_neg (by omega),if_pos (by omega),show 286+i - 286=i by omega]⟩
theorem Kd.load(h:Kd w X f g b v1 v2 v3):(Instr.loadAt 292 (.pointer (some ⟨X,0,none⟩))).run prog w=.ok (.agg (KV f g b v1 v2 v3)) w:=
 z7l h underlying292 rfl (by rw[z0T];exact z7Q)
theorem Kd.counts(h:Kd w X f g b v1 v2 v3):(Instr.loadAt 290 (.pointer (some ⟨X,0,none⟩))).run prog w=.ok (.agg (CV f g b)) w:=by
 have e:=run_loadAt_mid (P:= prog) w X 0 290 (CV f g b).toList _ (λj v hv=>by
  have hj:j<317:=(by have:=(List.getElem?_eq_some_iff.1 hv).1;rw[Array.length_toList,z0U] at this;exact this);rw[Nat.zero_add,h.cell (by omega)];rw[Array.getElem?_toList,z9q f g b j hj] at hv;rw[<-hv];unfold kF;rw[if_pos hj]) underlying290 rfl (by rw[Array.length_toList,z0U];exact z4Q)
 simpa using e
theorem Kd.store(h:Kd w X f g b v1 v2 v3)(f' g':Nat->Nat)(b':Nat)(u1 u2 u3:Value)(h1:u1.oneCell'=true)(h2:u2.oneCell'=true)(h3:u3.oneCell'=true):
 (Instr.storeAt 292 (.pointer (some ⟨X,0,none⟩)) (.agg (KV f' g' b' u1 u2 u3))).run prog w=.ok () (w.setRow X (KV f' g' b' u1 u2 u3)):=
 z5l h (by rw[z0T];exact z7Q) (by rw[z0T,z0T]) (zjz _ _ _ _ _ _ h1 h2 h3)
theorem Kd.setRow(h:Kd w X f g b v1 v2 v3)(f' g':Nat->Nat)(b':Nat)(u1 u2 u3:Value):Kd (w.setRow X (KV f' g' b' u1 u2 u3)) X f' g' b' u1 u2 u3:=setRow_heap w X _ _ _ (0,0) h
theorem Kd.set(h:Kd w X f g b v1 v2 v3)(i:Nat)(v u1 u2 u3:Value)(e:∀j,j<320->kF f g b u1 u2 u3 j=if j=i then v else kF f g b v1 v2 v3 j):Kd (w.setCell ⟨X,i,none⟩ v) X f g b u1 u2 u3:=by
 unfold Kd at h ⊢;rw[setCell_eq_setRow w X i (KV f g b v1 v2 v3) _ (0,0) v h,setRow_heap w X _ _ _ (0,0) h];congr 2;apply Array.ext_getElem?;intro j;by_cases hj:j<320
 · rw[zhZ _ _ _ _ _ _ j hj,e j hj,Array.getElem?_setIfInBounds]
   split
   · rename_i q;subst q;rw[if_pos (by rw[z0T];exact hj),if_pos rfl]
   · rename_i q;rw[if_neg (λz=>q z.symm),zhZ f g b _ _ _ j hj]
 · rw[Array.getElem?_eq_none (by rw[Array.size_setIfInBounds,z0T];omega),Array.getElem?_eq_none (by rw[z0T];omega)]
theorem kF1(u:Value):∀j,j<320->kF f g b u v2 v3 j=if j=317 then u else kF f g b v1 v2 v3 j:=λj hj=>by
 unfold kF;by_cases h:j<317
 · rw[if_pos h,if_neg (by omega),if_pos h]
 · rw[if_neg h,if_neg h]
   by_cases h2:j=317
   · rw[if_pos h2,if_pos h2]
   · rw[if_neg h2,if_neg h2,if_neg h2]
theorem kF2(u:Value):∀j,j<320->kF f g b v1 u v3 j=if j=318 then u else kF f g b v1 v2 v3 j:=λj hj=>by
 unfold kF;by_cases h:j<317
 · rw[if_pos h,if_neg (by omega),if_pos h]
 · rw[if_neg h,if_neg h]
   by_cases h2:j=317
   · rw[if_pos h2,if_neg (by omega),if_pos h2]
   · rw[if_neg h2,if_neg h2]
     by_cases h3:j=318
     · rw[if_pos h3,if_pos h3]
     · rw[if_neg h3,if_neg h3,if_neg h3]
theorem kF3(u:Value):∀j,j<320->kF f g b v1 v2 u j=if j=319 then u else kF f g b v1 v2 v3 j:=λj hj=>by
 unfold kF;by_cases h:j<317
 · rw[if_pos h,if_neg (by omega),if_pos h]
 · rw[if_neg h,if_neg h]
   by_cases h2:j=317
   · rw[if_pos h2,if_neg (by omega),if_pos h2]
   · rw[if_neg h2,if_neg h2]
     by_cases h3:j=318
     · rw[if_pos h3,if_neg (by omega),if_pos h3]
     · rw[if_neg h3,if_pos (by omega)]
end
theorem zhk(f g:Nat->Nat)(b:Nat): prog.built 292 [(0,.agg (CV f g b))]=some (KV f g b (.slice none 0 0) (.slice none 0 0) (.slice none 0 0)):=by kernel_rfl
theorem z1K{ops:Array Oper}{rest:List Oper}{o:Oper}{a:Act}{w:World}{Q:Exit->Act->World->Prop}(hg:o.guard=none)(x:Operand)(ho:o.op=.build 292 #[(0,x)])(f g:Nat->Nat)(b:Nat)(hx:a.eval x=.agg (CV f g b))
 (h:wpList prog ops Q rest (a.put o.dst (.agg (KV f g b (.slice none 0 0) (.slice none 0 0) (.slice none 0 0)))) w):wpList prog ops Q (o::rest) a w:=by
 have e: prog.built 292 ((#[(0,x)]:Array (Nat×Operand)).map λ(i,x)=>(i,a.eval x)).toList=some (KV f g b (.slice none 0 0) (.slice none 0 0) (.slice none 0 0)):=by
  have:=zhk f g b;rw[<-hx] at this
  simpa using this
 exact wpList_build hg 292 #[(0,x)] ho (by rw[e];rfl) (by rw[e];exact h)
structure Off(X:Nat)(w w':World):Prop where
 size:w.heap.size<=w'.heap.size
 same:∀j,j<w.heap.size->j≠X->w'.heap[j]? =w.heap[j]?
theorem Off.trans{X:Nat}{A B C:World}(h:Off X A B)(k:Off X B C):Off X A C:=⟨qK h.size k.size,λj hj hX=>(k.same j (Nat.lt_of_lt_of_le hj h.size) hX).trans (h.same j hj hX)⟩
theorem Off.cellSet(X i:Nat)(w:World)(v:Value):Off X w (w.setCell ⟨X,i,none⟩ v):=⟨by rw[World.size_setCell];exact qR,λj hj hX=>Below.heap_setCell _ _ _ _ hX⟩
theorem Off.rowSet(X:Nat)(w:World)(c:Array Value):Off X w (w.setRow X c):=⟨by simp[World.setRow],λj hj hX=>setRow_other w X j c hX⟩
theorem Off.nums{X:Nat}{w w':World}{k:IntKind}{A:Option Addr}{n:Nat}{f:Nat->Int}(h:Off X w w')(H:z0e w k A n f)(hX:∀o,w.cell? ⟨X,o,none⟩≠some (.int k (f 0))):z0e w' k A n f:=λhn=>by
 obtain⟨b,o,e,hlt,hc⟩:=H hn;have hb:b≠X:=λq=>by subst q;exact hX (o+0) (hc 0 hn)
 exact⟨b,o,e,Nat.lt_of_lt_of_le hlt h.size,λi hi=>(World.cell?_of_block (a:=⟨b,o+i,none⟩) (h.same b hlt hb)).trans (hc i hi)⟩
theorem Off.cds{X:Nat}{w w':World}{A:Option Addr}{n:Nat}{l:List Cd}(h:Off X w w')(H:z0k w A n l)(hX:∀o x,w.cell? ⟨X,o,none⟩≠some (.int .u32 x)):z0k w' A n l:=by
 refine⟨H.leng,?_⟩;rcases H.cells with g|⟨b,o,e,hlt,hc⟩
 · exact .inl g
 · by_cases hn:n=0
   · exact .inl hn
   · have hb:b≠X:=λq=>by
      subst q;exact hX _ _ (hc 0 _ (qE (by rw[H.leng];omega))).1
     exact .inr ⟨b,o,e,Nat.lt_of_lt_of_le hlt h.size,λi c hi=>⟨(World.cell?_of_block (a:=⟨b,o+i*2,none⟩) (h.same b hlt hb)).trans (hc i c hi).1,(World.cell?_of_block (a:=⟨b,o+i*2+1,none⟩) (h.same b hlt hb)).trans (hc i c hi).2⟩⟩
theorem Kd.no{w:World}{X:Nat}{f g:Nat->Nat}{b:Nat}{a1 a2 a3:Option Addr}{n1 n2 n3 c1 c2 c3:Nat}(h:Kd w X f g b (.slice a1 n1 c1) (.slice a2 n2 c2) (.slice a3 n3 c3)){k:IntKind}(hk:k≠.i64)(i:Nat)(x:Int):w.cell? ⟨X,i,none⟩≠some (.int k x):=by
 by_cases hi:i<320
 · rw[h.cell hi]
   unfold kF cF;intro e
   split at e
   · split at e
     · simp at e;exact hk e.1.symm
     · split at e
       · simp at e;exact hk e.1.symm
       · simp at e;exact hk e.1.symm
   · split at e
     · simp at e
     · split at e<;>simp at e
 · rw[cell_of_row _ _ i _ _ (0,0) h,Array.getElem?_eq_none (by rw[z0T];omega)]
   simp
def z4g(W:World)(S:List Sy)(n1:Nat)(l1 l2:Nat->Nat)(T:List Cd)(e:Ending)(w':World):Prop:=∃A1 c1 A2 c2 A3 c3,e=.returned (.tuple #[.agg (KV (cs false S) (cs true S) (smb S) (.slice A1 n1 c1) (.slice A2 30 c2) (.slice A3 T.length c3)),.int .i64 0])/\
 z0e w' .u8 A1 n1 (λi=>(l1 i:Int))/\z0e w' .u8 A2 30 (λi=>(l2 i:Int))/\z0k w' A3 T.length T/\Below W.heap.size W w'/\(∀b o,A1=some ⟨b,o,none⟩->W.heap.size<=b)/\(∀b o,A2=some ⟨b,o,none⟩->W.heap.size<=b)
theorem z3h(A:Option Addr)(n c:Nat)(L:List Tk)(w:World)(H:Y.Tab w)(hL:z0j w A n L)(hn:n<=100000)(hm:∀t∈L,may t=true)(hst:z9m L):
 Calls prog 202 #[.int .u8 1,.slice A n c] w (z4g w (sys L) 288 fxl (λ_=>5) []):=by
 have hz:=z7P;have hb:Below w.heap.size w (w.alloc (.cells (KV (λ_=>0) (λ_=>0) 0 (.slice none 0 0) (.slice none 0 0) (.slice none 0 0)) 292)):=qL;have HR0:=qH (Kd.new w (λ_=>0) (λ_=>0) 0 (.slice none 0 0) (.slice none 0 0) (.slice none 0 0));have HB0:=qH hb;have HCo:=qH (z84 L hst A n c _ (H.below hb qR) (hL.below hb) hn hm);have HFx:=qH fixed_f;generalize hS:sys L=S at HCo ⊢;have HSt:=qH (λw1:World=>by
  have h:=(Kd.new w1 (λ_=>0) (λ_=>0) 0 (.slice none 0 0) (.slice none 0 0) (.slice none 0 0)).store (cs false S) (cs true S) (smb S) (.slice none 0 0) (.slice none 0 0) (.slice none 0 0) rfl rfl rfl;rw[World.setRow_alloc_new] at h;exact h)
 clear hb H hL hm hS hst;go_enter func202,ntmps202
 go_wp2_with (first
  |(go_at_call 241;(with_reducible refine HCo.o.mono ?_);rintro e w1 ⟨rfl,b1⟩;have R1:=qH (HR0.o.below b1);have B1:=qbt HB0 b1;clear b1)
  |refine z1K rfl _ rfl _ _ _ rfl ?_
  |refine z0n rfl 292 _ _ rfl _ _ rfl _ rfl (HSt.o w1) ?_
  |(go_at_call 209;(with_reducible refine(HFx.o _).mono ?_);rintro e w2 ⟨A1,c1,A2,c2,rfl,s1,s2,b2,u1,u2,q30⟩
    clear q30;have U1:=qH (show ∀b o,A1=some ⟨b,o,none⟩->w.heap.size<=b from λb o q=>by have h1:=u1 b o q;have h2:=B1.o.size;simp at h1;omega);have U2:=qH (show ∀b o,A2=some ⟨b,o,none⟩->w.heap.size<=b from λb o q=>by have h1:=u2 b o q;have h2:=B1.o.size;simp at h1;omega);have kd:=(Kd.new w1 (cs false S) (cs true S) (smb S) (.slice none 0 0) (.slice none 0 0) (.slice none 0 0)).below b2;have k7:=kd.at1;have k8:=kd.at2;have f7:=kd.free 317;have f8:=kd.free 318;have KA:=qH ((kd.set 317 (.slice A1 288 c1) (.slice A1 288 c1) (.slice none 0 0) (.slice none 0 0) (kF1 _)).set 318 (.slice A2 30 c2) (.slice A1 288 c1) (.slice A2 30 c2) (.slice none 0 0) (kF2 _));have hX:w.heap.size≠w1.heap.size:=(by have:=R1.o.lt;omega);have r2:=(R1.o.alloc (.cells (KV (cs false S) (cs true S) (smb S) (.slice none 0 0) (.slice none 0 0) (.slice none 0 0)) 292)).below b2;have R2:=qH ((r2.other (a:=⟨w1.heap.size,317,none⟩) hX (.slice A1 288 c1)).other (a:=⟨w1.heap.size,318,none⟩) hX (.slice A2 30 c2));have N1:=qH ((Off.trans (Off.cellSet w1.heap.size 317 w2 (.slice A1 288 c1)) (Off.cellSet w1.heap.size 318 _ (.slice A2 30 c2))).nums s1 (λo=>kd.no (by decide) o _));have N2:=qH ((Off.trans (Off.cellSet w1.heap.size 317 w2 (.slice A1 288 c1)) (Off.cellSet w1.heap.size 318 _ (.slice A2 30 c2))).nums s2 (λo=>kd.no (by decide) o _));have B2:=qH ((((B1.o.alloc B1.o.size _).trans (b2.mono (B1.o.alloc B1.o.size _).size)).setCell (p:=⟨w1.heap.size,317,none⟩) B1.o.size (.slice A1 288 c1)).setCell (p:=⟨w1.heap.size,318,none⟩) B1.o.size (.slice A2 30 c2));have LD:=qH KA.o.load;have ST:=qH (R2.o.store (cs false S) (cs true S) (smb S) (.slice A1 288 c1) (.slice A2 30 c2) (.slice none 0 0) rfl rfl rfl);clear kd r2 s1 s2 b2 hX u1 u2)
  |refine z0M rfl 292 _ rfl _ _ rfl _ LD.o ?_
  |refine z0n rfl 292 _ _ rfl _ _ rfl _ rfl ST.o ?_)
 have hF:=R2.o.setRow (cs false S) (cs true S) (smb S) (.slice A1 288 c1) (.slice A2 30 c2) (.slice none 0 0);refine bodyPost_ret (v:=.tuple #[.agg (KV (cs false S) (cs true S) (smb S) (.slice A1 288 c1) (.slice A2 30 c2) (.slice none 0 0)),.int .i64 0]) (z0I (p:=4) (u:=5) (ty:= 292) rfl _ _ w.heap.size _ _ _ _ rfl hF underlying292 rfl (by rw[z0T];exact z7Q)) rfl ⟨A1,c1,A2,c2,none,0,rfl,?_,?_,z0k.nil _ _,?_,U1.o,U2.o⟩
 · exact(Off.rowSet w.heap.size _ _).nums N1.o (λo=>R2.o.no (by decide) o _)
 · exact(Off.rowSet w.heap.size _ _).nums N2.o (λo=>R2.o.no (by decide) o _)
 · exact below_setRow B2.o w.heap.size _ qR
theorem zev(A:Option Addr)(n c:Nat)(L:List Tk)(w:World)(H:Tabs w)(hL:z0j w A n L)(hn:n<=100000)(hm:∀t∈L,may t=true)(hq:zcx L):
 Calls prog 202 #[.int .u8 2,.slice A n c] w (z4g w (sys L) 286 (ll1 L) (ll2 L) (tbl (lx1 L) (lx2 L))):=by
 have hz:=z7P;have hb:Below w.heap.size w (w.alloc (.cells (KV (λ_=>0) (λ_=>0) 0 (.slice none 0 0) (.slice none 0 0) (.slice none 0 0)) 292)):=qL;have HR0:=qH (Kd.new w (λ_=>0) (λ_=>0) 0 (.slice none 0 0) (.slice none 0 0) (.slice none 0 0));have HB0:=qH hb;have HCo:=qH (z84 L hq.2.2 A n c _ (H.keep hb).2 (hL.below hb) hn hm);have HBs:=qH (λw1=>zhQ L w1 (by have:=z2U L;have:=hL.leng;omega) hq);obtain⟨S,hS⟩:∃S,sys L=S:=⟨_,rfl⟩
 obtain⟨T,hT⟩:∃T,tbl (lx1 L) (lx2 L)=T:=⟨_,rfl⟩
 have HTb:=qH (show ∀W a z,Below w.heap.size w W->Br W a 286 (ll1 L)->Br W z 30 (ll2 L)->Calls prog 243 #[.agg #[.slice (some ⟨a,0,none⟩) 286 286,.slice (some ⟨z,0,none⟩) 30 30]] W (zjH W T) from λW a z b ra rz=>by
  have h:=z8z (some ⟨a,0,none⟩) (some ⟨z,0,none⟩) 286 30 (lx1 L) (lx2 L) W (H.keep b).1 (IsBys.of_br ra (by omega) (λi=>qK (z0C _ (by omega) (by decide) i) (by omega))) (IsBys.of_br rz (by omega) (λi=>qK (z0C _ (by omega) (by decide) i) (by omega))) (by omega) (by omega)
   (λx hx=>by obtain⟨i,_,rfl⟩:=List.mem_map.1 hx;exact z0C _ (by omega) (by decide) i) (λx hx=>by obtain⟨i,_,rfl⟩:=List.mem_map.1 hx;exact z0C _ (by omega) (by decide) i)
  rw[hT] at h;exact h)
 obtain⟨l1,hl1⟩:∃l1,ll1 L=l1:=⟨_,rfl⟩
 obtain⟨l2,hl2⟩:∃l2,ll2 L=l2:=⟨_,rfl⟩
 rw[hS] at HCo HBs;rw[hl1,hl2] at HBs HTb;rw[hS,hT,hl1,hl2];unfold z8l at HBs;unfold zjH at HTb;have HSt:=qH (λw1:World=>by
  have h:=(Kd.new w1 (λ_=>0) (λ_=>0) 0 (.slice none 0 0) (.slice none 0 0) (.slice none 0 0)).store (cs false S) (cs true S) (smb S) (.slice none 0 0) (.slice none 0 0) (.slice none 0 0) rfl rfl rfl;rw[World.setRow_alloc_new] at h;exact h)
 have HLc:=qH (λw1:World=>(Kd.new w1 (cs false S) (cs true S) (smb S) (.slice none 0 0) (.slice none 0 0) (.slice none 0 0)).counts);clear hb H hL hm hS hT hl1 hl2 hq;go_enter func202,ntmps202
 go_wp2_with (first
  |(go_at_call 241;(with_reducible refine HCo.o.mono ?_);rintro e w1 ⟨rfl,b1⟩;have R1:=qH (HR0.o.below b1);have B1:=qbt HB0 b1;clear b1)
  |refine z1K rfl _ rfl _ _ _ rfl ?_
  |refine z0n rfl 292 _ _ rfl _ _ rfl _ rfl (HSt.o w1) ?_
  |refine z0M rfl 290 _ rfl _ _ rfl _ (HLc.o w1) ?_
  |(go_at_call 242;(with_reducible refine(HBs.o _).mono ?_);rintro e w2 ⟨a,z,rfl,na,nz,ra,rz,b2⟩
    have kd:=((Kd.new w1 (cs false S) (cs true S) (smb S) (.slice none 0 0) (.slice none 0 0) (.slice none 0 0)).below b2).alloc (.cells #[.slice (some ⟨a,0,none⟩) 286 286,.slice (some ⟨z,0,none⟩) 30 30] 149);have k7:=kd.at1;have k8:=kd.at2;have f7:=kd.free 317;have f8:=kd.free 318;have KA:=qH ((kd.set 317 (.slice (some ⟨a,0,none⟩) 286 286) (.slice (some ⟨a,0,none⟩) 286 286) (.slice none 0 0) (.slice none 0 0) (kF1 _)).set 318 (.slice (some ⟨z,0,none⟩) 30 30) (.slice (some ⟨a,0,none⟩) 286 286) (.slice (some ⟨z,0,none⟩) 30 30) (.slice none 0 0) (kF2 _));have U1:=qH (show w.heap.size<=a from by have:=B1.o.size;simp at na;omega);have U2:=qH (show w.heap.size<=z from by have:=B1.o.size;simp at nz;omega);have hX:w.heap.size≠w1.heap.size:=(by have:=R1.o.lt;omega);have haX:a≠w1.heap.size:=(by simp at na;omega);have hzX:z≠w1.heap.size:=(by simp at nz;omega);have r2:=((R1.o.alloc (.cells (KV (cs false S) (cs true S) (smb S) (.slice none 0 0) (.slice none 0 0) (.slice none 0 0)) 292)).below b2).alloc (.cells #[.slice (some ⟨a,0,none⟩) 286 286,.slice (some ⟨z,0,none⟩) 30 30] 149);have R2:=qH ((r2.other (a:=⟨w1.heap.size,317,none⟩) hX (.slice (some ⟨a,0,none⟩) 286 286)).other (a:=⟨w1.heap.size,318,none⟩) hX (.slice (some ⟨z,0,none⟩) 30 30));have N1:=qH (((ra.alloc (.cells #[.slice (some ⟨a,0,none⟩) 286 286,.slice (some ⟨z,0,none⟩) 30 30] 149)).other (a:=⟨w1.heap.size,317,none⟩) haX (.slice (some ⟨a,0,none⟩) 286 286)).other (a:=⟨w1.heap.size,318,none⟩) haX (.slice (some ⟨z,0,none⟩) 30 30));have N2:=qH (((rz.alloc (.cells #[.slice (some ⟨a,0,none⟩) 286 286,.slice (some ⟨z,0,none⟩) 30 30] 149)).other (a:=⟨w1.heap.size,317,none⟩) hzX (.slice (some ⟨a,0,none⟩) 286 286)).other (a:=⟨w1.heap.size,318,none⟩) hzX (.slice (some ⟨z,0,none⟩) 30 30));have bb:=((B1.o.alloc B1.o.size (.cells (KV (cs false S) (cs true S) (smb S) (.slice none 0 0) (.slice none 0 0) (.slice none 0 0)) 292)).trans (b2.mono (B1.o.alloc B1.o.size _).size));have B2:=qH (((bb.alloc bb.size (.cells #[.slice (some ⟨a,0,none⟩) 286 286,.slice (some ⟨z,0,none⟩) 30 30] 149)).setCell (p:=⟨w1.heap.size,317,none⟩) B1.o.size (.slice (some ⟨a,0,none⟩) 286 286)).setCell (p:=⟨w1.heap.size,318,none⟩) B1.o.size (.slice (some ⟨z,0,none⟩) 30 30));clear kd r2 ra rz na nz b2 hX haX hzX bb)
  |(go_at_call 243;(with_reducible refine(HTb.o _ _ _ B2.o N1.o N2.o).mono ?_);rintro e w3 ⟨A3,c3,rfl,i3,b3⟩
    have kd:=KA.o.below b3;have k9:=kd.at3;have f9:=kd.free 319;have KB:=qH (kd.set 319 (.slice A3 T.length c3) (.slice (some ⟨a,0,none⟩) 286 286) (.slice (some ⟨z,0,none⟩) 30 30) (.slice A3 T.length c3) (kF3 _));have hX:w.heap.size≠w1.heap.size:=(by have:=R1.o.lt;omega);have R3:=qH ((R2.o.below b3).other (a:=⟨w1.heap.size,319,none⟩) hX (.slice A3 T.length c3));have M1:=qH ((Off.cellSet w1.heap.size 319 w3 (.slice A3 T.length c3)).nums (z6S (z0L N1.o b3)) (λo=>kd.no (by decide) o _));have M2:=qH ((Off.cellSet w1.heap.size 319 w3 (.slice A3 T.length c3)).nums (z6S (z0L N2.o b3)) (λo=>kd.no (by decide) o _));have M3:=qH ((Off.cellSet w1.heap.size 319 w3 (.slice A3 T.length c3)).cds i3 (λo x=>kd.no (by decide) o x));have B3:=qH ((B2.o.trans (b3.mono B2.o.size)).setCell (p:=⟨w1.heap.size,319,none⟩) B1.o.size (.slice A3 T.length c3));have LD:=qH KB.o.load;have ST:=qH (R3.o.store (cs false S) (cs true S) (smb S) (.slice (some ⟨a,0,none⟩) 286 286) (.slice (some ⟨z,0,none⟩) 30 30) (.slice A3 T.length c3) rfl rfl rfl);clear kd i3 b3 hX)
  |refine z0M rfl 292 _ rfl _ _ rfl _ LD.o ?_
  |refine z0n rfl 292 _ _ rfl _ _ rfl _ rfl ST.o ?_)
 have hF:=R3.o.setRow (cs false S) (cs true S) (smb S) (.slice (some ⟨a,0,none⟩) 286 286) (.slice (some ⟨z,0,none⟩) 30 30) (.slice A3 T.length c3);refine bodyPost_ret (v:=.tuple #[.agg (KV (cs false S) (cs true S) (smb S) (.slice (some ⟨a,0,none⟩) 286 286) (.slice (some ⟨z,0,none⟩) 30 30) (.slice A3 T.length c3)),.int .i64 0]) (z0I (p:=4) (u:=5) (ty:= 292) rfl _ _ w.heap.size _ _ _ _ rfl hF underlying292 rfl (by rw[z0T];exact z7Q)) rfl ⟨_,286,_,30,A3,c3,rfl,?_,?_,?_,?_,λb o e=>(by cases e;exact U1.o),λb o e=>(by cases e;exact U2.o)⟩
 · exact(Off.rowSet w.heap.size _ _).nums M1.o (λo=>R3.o.no (by decide) o _)
 · exact(Off.rowSet w.heap.size _ _).nums M2.o (λo=>R3.o.no (by decide) o _)
 · exact(Off.rowSet w.heap.size _ _).cds M3.o (λo x=>R3.o.no (by decide) o x)
 · exact below_setRow B3.o w.heap.size _ qR
def szc:List Cd->Nat
 |[]=>0
 |c::l=>c.2+szc l
theorem z3Q:∀l r:List Cd,szc (l++r)=szc l+szc r
 |[],r=>by simp[szc]
 |c::l,r=>by simp only[List.cons_append,szc,z3Q l r];omega
theorem zcV(l:List Cd)(k:Nat)(hk:k<l.length):szc (l.take (k+1))=szc (l.take k)+(l.getD k default).2:=by
 rw[List.take_add_one,List.getD,qE hk,z3Q];simp[szc]
theorem zf2{l:List Cd}(h:∀c∈l,c.2<=255):szc l<=255*l.length:=by
 induction l with
 |nil=>simp[szc]
 |cons c l ih=>
  have h1:=ih (λz hz=>h z (List.mem_cons_of_mem _ hz));have h2:=h c List.mem_cons_self;simp only[szc,qC];omega
theorem zdl(n k:Nat):put n (k+1)=n%2::put (n/2) k:=by
 unfold put;rw[List.range_succ_eq_map,List.map_cons,List.map_map];congr 1
 · simp
 · apply List.map_congr_left
   intro i _;show n/2^(i+1)%2=n/2/2^i%2
   rw[Nat.pow_succ,Nat.mul_comm,Nat.div_div_eq_div_mul]
theorem z7o(c:Nat):∀s,put (rv c s) s=cdb c s
 |0=>rfl
 |s+1=>by
  rw[zdl,zeD,<-z7o c s];have h:rv c (s+1)=2*rv c s+c/2^s%2:=rfl;rw[h];have h2:c/2^s%2<2:=Nat.mod_lt _ (by decide);rw[show(2*rv c s+c/2^s%2)%2=c/2^s%2 by omega,show(2*rv c s+c/2^s%2) /2=rv c s by omega]
def cbs(c:Cd):List Nat:=put c.1 c.2
theorem z4T:∀l:List Cd,(l.flatMap cbs).length=szc l
 |[]=>rfl
 |c::l=>by rw[List.flatMap_cons,qA,z4T l];show(put c.1 c.2).length+_=_;rw[z0c];rfl
theorem zcN(f:Nat->Nat)(y:Rn):(tr1 f y).flatMap cbs=wrn f y:=by
 unfold tr1 wrn cbs;simp only[List.flatMap_cons,List.flatMap_nil,List.append_nil];rw[<-z7o];rfl
theorem z74(f:Nat->Nat):∀r:List Rn,(tbr f r).flatMap cbs=r.flatMap (wrn f)
 |[]=>rfl
 |y::r=>by
  have ih:=z74 f r;unfold tbr at ih ⊢;rw[List.flatMap_cons,List.flatMap_append,zcN,ih,List.flatMap_cons]
theorem zcR(x1 x2:List Nat):(tbl x1 x2).flatMap cbs=dyb x1 x2 (rrn x1 x2) (rrf x1 x2):=by
 obtain⟨f,hf⟩:∃f,rrf x1 x2=f:=⟨_,rfl⟩
 have h1:(tb3 x1 x2 f).flatMap cbs=put (upt x1 257 - 257) 5++put (upt x2 1 - 1) 5++put (upt (inl f) 4 - 4) 4:=(by simp[tb3,cbs]);have h2:(tbi f).flatMap cbs=((inl f).take (upt (inl f) 4)).flatMap (λx=>put x 3):=by
  unfold tbi;rw[List.flatMap_map];rfl
 unfold tbl dyb;rw[hf,List.flatMap_append,List.flatMap_append,z74,h1,h2]
def Rft(r:Rn):Prop:=r.e<2^rbn r.s
theorem zi3(n:Nat):∀r∈zrs n,Rft r:=by
 induction n using Nat.strongRecOn with
 |_ n ih=>
  intro r hr;by_cases h:11<=n
  · rw[z1I h,List.mem_cons] at hr
    rcases hr with rfl|hr
    · show _<128;simp only;omega
    · exact ih _ (by omega) r hr
  · by_cases h3:3<=n
    · rw[z1H h h3,List.mem_singleton] at hr
      subst hr;show _<8;simp only;omega
    · rw[z18 h3] at hr
      rw[List.eq_of_mem_replicate hr];show 0<1;omega
theorem zaA{v:Nat}(hv:v<=15):rbn v=0:=by unfold rbn;rw[if_pos (by omega)]
theorem zgS(v:Nat)(hv:v<=15)(n:Nat):∀r∈z9u v n,Rft r:=by
 induction n using Nat.strongRecOn with
 |_ n ih=>
  intro r hr;by_cases h:3<=n
  · rw[z1c h,List.mem_cons] at hr
    rcases hr with rfl|hr
    · show _<4;simp only;omega
    · exact ih _ (by omega) r hr
  · rw[z12 h] at hr
    rw[List.eq_of_mem_replicate hr];unfold Rft;rw[zaA hv];show 0<1;omega
theorem zk1:∀l:List Nat,(∀v∈l,v<=15)->∀r∈pk l,Rft r:=by
 intro l;generalize hn:l.length=n
 induction n using Nat.strongRecOn generalizing l with
 |_ n ih=>
  cases l with
  |nil=>intro _ r hr;rw[z5w] at hr;cases hr
  |cons v l=>
   intro hl r hr;rw[z31,List.mem_append] at hr;have hv:=hl v (by simp);rcases hr with hr|hr
   · unfold one at hr
     split at hr
     · exact zi3 _ r hr
     · unfold oth at hr
       rw[List.mem_cons] at hr;rcases hr with rfl|hr
       · unfold Rft;rw[zaA hv];show 0<1;omega
       · exact zgS v hv _ r hr
   · rw[qC] at hn
     exact ih (l.drop (ru v l)).length (by rw[List.length_drop];omega) _ rfl (λx hx=>hl x (by simp[List.mem_of_mem_drop hx])) r hr
theorem zgi(L:List Tk):(tbl (lx1 L) (lx2 L)).flatMap cbs=hdd L:=zcR _ _
theorem z9S(L:List Tk):(tbl (lx1 L) (lx2 L)).length<=1000/\∀c∈tbl (lx1 L) (lx2 L),c.2<=15/\c.1<2^c.2:=by
 have hr:rrn (lx1 L) (lx2 L)=rrs L:=rfl;have hf:rrf (lx1 L) (lx2 L)=ll3 L:=rfl;have hl:=zai L;have hall:∀v∈(lx1 L).take (upt (lx1 L) 257)++(lx2 L).take (upt (lx2 L) 1),v<=15:=λv hv=>by
  rcases List.mem_append.1 hv with q|q
  · obtain⟨i,_,rfl⟩:=List.mem_map.1 (List.mem_of_mem_take q);exact z0C _ (by omega) (by decide) i
  · obtain⟨i,_,rfl⟩:=List.mem_map.1 (List.mem_of_mem_take q);exact z0C _ (by omega) (by decide) i
 have hft:∀y∈rrs L,Rft y:=zk1 _ hall;have h7:∀i,ll3 L i<=7:=λi=>z0C _ (by omega) (by decide) i
 unfold tbl;rw[hr,hf];refine⟨?_,λc hc=> ?_⟩
 · rw[qA,qA,z68]
   have h1:(tbi (ll3 L)).length<=19:=by
    unfold tbi;rw[List.length_map,List.length_take];have:(inl (ll3 L)).length=19:=(by simp[inl,ord]);omega
   have h2:(tb3 (lx1 L) (lx2 L) (ll3 L)).length=3:=rfl;omega
 · rcases List.mem_append.1 hc with hc|hc
   · rcases List.mem_append.1 hc with hc|hc
     · have u1:=z2h (lx1 L) 257
       have u2:=z2h (lx2 L) 1;have u3:=z2h (inl (ll3 L)) 4;have l1:(lx1 L).length=286:=(by unfold lx1;simp);have l2:(lx2 L).length=30:=(by unfold lx2;simp);have l3:(inl (ll3 L)).length=19:=(by simp[inl,ord]);unfold tb3 at hc;simp only[List.mem_cons,List.not_mem_nil,or_false] at hc;rcases hc with rfl|rfl|rfl
       · exact⟨by simp,by show _<32;simp only;omega⟩
       · exact⟨by simp,by show _<32;simp only;omega⟩
       · exact⟨by simp,by show _<16;simp only;omega⟩
     · unfold tbi at hc
       obtain⟨x,hx,rfl⟩:=List.mem_map.1 hc;have:=zbu (ll3 L) h7 x (List.mem_of_mem_take hx);exact⟨by simp,by show x<8;omega⟩
   · unfold tbr at hc
     obtain⟨y,hy,hc⟩:=List.mem_flatMap.1 hc;have hy2:=hft y hy;unfold tr1 at hc;simp only[List.mem_cons,List.not_mem_nil,or_false] at hc;rcases hc with rfl|rfl
     · exact⟨qK (h7 _) (by omega),C.rc_lt _ _ _⟩
     · exact⟨qK (zaz _) (by omega),hy2⟩
theorem z7f{f:Nat->Nat}{c:Nat}:∀n,(∀i,i<n->f i<=c)->M.sm f n<=n*c
 |0,_=>by simp[M.sm]
 |n+1,h=>by
  have:=z7f n (λi hi=>h i (by omega));have:=h n (by omega);simp only[M.sm];rw[Nat.succ_mul];omega
theorem z3M(A B:Option Addr)(n c m d:Nat)(f g:Nat->Nat)(w:World)(H1:z0e w .i64 A n (λi=>(f i:Int)))(H2:z0e w .u8 B m (λi=>(g i:Int)))(hnm:n<=m)(hn:n<=400)(hf:∀i,f i<=200001)(hg:∀i,g i<=255):
 Calls prog 269 #[.slice A n c,.slice B m d] w λe w'=>e=.returned (.int .i64 (M.sm (λi=>f i*g i) n:Nat))/\w'=w:=by
 obtain⟨HN1,HN2⟩:=qh2 H1 H2;have hp:∀i,f i*g i<=51000255:=λi=>Nat.mul_le_mul (hf i) (hg i)
 have hcap:∀k,M.sm (λi=>f i*g i) k<=k*51000255:=λk=>z7f k (λi _=>hp i)
 obtain⟨HP,HCap,HF,HG⟩:=qh4 hp hcap hf hg;clear H1 H2 hp hcap hf hg;go_enter func269,ntmps269;go_wp2_with fail
 go_loopw [5,10] (λs x wr=> ∃k:Nat,k<=n/\x=.int .i64 k/\s=.int .i64 (M.sm (λi=>f i*g i) k:Nat)/\w=wr) (λ_ x _=>n - (intOf x).toNat)
 case atStart=>exact⟨0,qZ,rfl,rfl,rfl⟩
 case round=>
  obtain⟨k,hk,rfl,rfl,rfl⟩:=hrel;by_cases hlt:k<n
  · obtain⟨b1,o1,rfl,_hb1,hc1⟩:=HN1.o (by omega)
    obtain⟨b2,o2,rfl,_hb2,hc2⟩:=HN2.o (by omega);have c0:=hc1 k hlt;have c1:=hc2 k (by omega);simp only at c0 c1;have hs:M.sm (λi=>f i*g i) (k+1)=M.sm (λi=>f i*g i) k+f k*g k:=rfl;have hq:=HP.o k;have hS:=HCap.o k;have hS2:M.sm (λi=>f i*g i) k<=400*51000255:=qK hS (Nat.mul_le_mul_right _ (by omega));obtain⟨a,ha⟩:∃a,f k=a:=⟨_,rfl⟩
    obtain⟨z,hz⟩:∃z,g k=z:=⟨_,rfl⟩
    have hz2:z<=255:=(by rw[<-hz];exact HG.o k);rw[ha,hz] at hs hq;rw[ha] at c0;rw[hz] at c1;obtain⟨p,hp⟩:∃p,a*z=p:=⟨_,rfl⟩
    rw[hp] at hs hq;have e1:(a:Int)*(z:Int)=(p:Int):=(by rw[<-hp];exact(Int.natCast_mul a z).symm);obtain⟨s,hse⟩:∃s,M.sm (λi=>f i*g i) k=s:=⟨_,rfl⟩
    rw[hse] at hs hS2;have HS:=qH hs;have hkm:k<m:=(by omega);have hk4:k<=400:=(by omega);simp only[hse];clear hc1 hc2 hs hS ha hz hp hse;go_wp2_with fail;go_roundw
    case rel=>exact⟨k+1,by omega,by go_num,by rw[HS.o];go_num,trivial⟩
    case measure=>(simp[intOf];try omega)
  · obtain rfl:k=n:=by omega
    go_wp2_with fail;go_ret;exact⟨rfl,rfl⟩
theorem zbZ(S:List Sy)(A1 A2 A3:Option Addr)(n1 c1 c2 N c3:Nat)(l1 l2:Nat->Nat)(T:List Cd)(w:World)(hS:S.length<=200001)(hSb:smb S<=3000000)(H1:z0e w .u8 A1 n1 (λi=>(l1 i:Int)))(H2:z0e w .u8 A2 30 (λi=>(l2 i:Int)))(H3:z0k w A3 N T)(h1:286<=n1)(hN:N<=1000)(hT:∀c∈T,c.2<=255)(hl1:∀i,l1 i<=255)(hl2:∀i,l2 i<=255):
 Calls prog 234 #[.agg (KV (cs false S) (cs true S) (smb S) (.slice A1 n1 c1) (.slice A2 30 c2) (.slice A3 N c3))] w λe w'=>e=.returned (.int .i64 ((3+szc T+(M.sm (λi=>cs false S i*l1 i) 286+M.sm (λi=>cs true S i*l2 i) 30)+smb S:Nat):Int))/\Below w.heap.size w w':=by
 have HK:=qH (Kd.new w (cs false S) (cs true S) (smb S) (.slice A1 n1 c1) (.slice A2 30 c2) (.slice A3 N c3));have HB0:=qH ((Below.refl w.heap.size w).alloc qR (.cells (KV (cs false S) (cs true S) (smb S) (.slice A1 n1 c1) (.slice A2 30 c2) (.slice A3 N c3)) 292));have HW1:=qH (show ∀W,Below (w.heap.size+1) (w.alloc (.cells (KV (cs false S) (cs true S) (smb S) (.slice A1 n1 c1) (.slice A2 30 c2) (.slice A3 N c3)) 292)) W->∀q,Calls prog 269 #[.slice (some ⟨w.heap.size,0,none⟩) 286 286,.slice A1 n1 c1] (W.drewN q) λe w'=>e=.returned (.int .i64 (M.sm (λi=>cs false S i*l1 i) 286:Nat))/\w'=W.drewN q from λW b q=>by
  have hk:Kd W w.heap.size (cs false S) (cs true S) (smb S) (.slice A1 n1 c1) (.slice A2 30 c2) (.slice A3 N c3):=(Kd.new w _ _ _ _ _ _).below (b.mono (by simp));exact z3M _ _ 286 286 n1 c1 (cs false S) l1 (W.drewN q) (hk.nums.drewN q) ((H1.below (HB0.o.trans (b.mono (by omega)))).drewN q) h1 (by omega) (λi=>qK (z5Q false S i) hS) hl1)
 have HW2:=qH (show ∀W,Below (w.heap.size+1) (w.alloc (.cells (KV (cs false S) (cs true S) (smb S) (.slice A1 n1 c1) (.slice A2 30 c2) (.slice A3 N c3)) 292)) W->∀q,Calls prog 269 #[.slice (some ⟨w.heap.size,286,none⟩) 30 30,.slice A2 30 c2] (W.drewN q) λe w'=>e=.returned (.int .i64 (M.sm (λi=>cs true S i*l2 i) 30:Nat))/\w'=W.drewN q from λW b q=>by
  have hk:Kd W w.heap.size (cs false S) (cs true S) (smb S) (.slice A1 n1 c1) (.slice A2 30 c2) (.slice A3 N c3):=(Kd.new w _ _ _ _ _ _).below (b.mono (by simp));exact z3M _ _ 30 30 30 c2 (cs true S) l2 (W.drewN q) (hk.numsd.drewN q) ((H2.below (HB0.o.trans (b.mono (by omega)))).drewN q) (by omega) (by omega) (λi=>qK (z5Q true S i) hS) hl2)
 have H3':=qH H3;have hT2:∀k,szc (T.take k)<=255000:=λk=>by
  have h:=zf2 (l:=T.take k) (λc hc=>hT c (List.mem_of_mem_take hc));have:(T.take k).length<=1000:=(by rw[List.length_take,H3.leng];omega);omega
 have HT2:=qH hT2;have HTg:=qH (show ∀k,k<N->(T.getD k default).2<=255 from λk hk=>hT _ (by rw[List.getD,qE (by rw[H3.leng];exact hk)];exact List.getElem_mem _));have HLen:=qH H3.leng;have e1:M.sm (λi=>cs false S i*l1 i) 286<=286*51000255:=z7f 286 (λi _=>Nat.mul_le_mul (qK (z5Q false S i) hS) (hl1 i));have e2:M.sm (λi=>cs true S i*l2 i) 30<=30*51000255:=z7f 30 (λi _=>Nat.mul_le_mul (qK (z5Q true S i) hS) (hl2 i));obtain⟨X1,hX1⟩:∃X1,M.sm (λi=>cs false S i*l1 i) 286=X1:=⟨_,rfl⟩
 obtain⟨X2,hX2⟩:∃X2,M.sm (λi=>cs true S i*l2 i) 30=X2:=⟨_,rfl⟩
 obtain⟨b,hb⟩:∃b,smb S=b:=⟨_,rfl⟩
 rw[hX1] at HW1 e1;rw[hX2] at HW2 e2;rw[hb] at HK HB0 HW1 HW2 hSb;rw[hX1,hX2,hb];clear H1 H2 H3 hT hT2 hl1 hl2 hX1 hX2 hb h1 hS;go_enter func234,ntmps234;have k9:=HK.o.at3;go_wp2_with fail
 go_loopw [3,9] (λs x wr=> ∃k:Nat,k<=N/\x=.int .i64 k/\s=.int .i64 (3+szc (T.take k):Nat)/\Below (w.heap.size+1) (w.alloc (.cells (KV (cs false S) (cs true S) b (.slice A1 n1 c1) (.slice A2 30 c2) (.slice A3 N c3)) 292)) wr) (λ_ x _=>N - (intOf x).toNat)
 case atStart=>exact⟨0,qZ,rfl,rfl,Below.refl _ _⟩
 case round=>
  obtain⟨k,hk,rfl,rfl,hb⟩:=hrel;by_cases hlt:k<N
  · obtain⟨b3,o3,rfl,hb3,hc3⟩:=H3'.o.at (by omega)
    obtain⟨g0,g1⟩:=hc3 k hlt;have hbw:Below w.heap.size w wr:=HB0.o.trans (hb.mono (by omega));have c0:=(hbw.cell (p:=⟨b3,o3+k*2,none⟩) hb3).trans g0;have y1:=(hbw.cell (p:=⟨b3,o3+k*2+1,none⟩) hb3).trans g1;have hz:=HTg.o k hlt;have hs:=zcV T k (by rw[HLen.o];exact hlt);have hc:=HT2.o k;generalize ht:T.getD k default=t at c0 y1 hz hs;obtain⟨t0,t1⟩:=t;simp only at c0 y1 hz hs;obtain⟨s,hse⟩:∃s,szc (T.take k)=s:=⟨_,rfl⟩
    rw[hse] at hs hc;simp only[hse];obtain⟨HS,HB⟩:=qh2 hs hb;have hk2:k<=1000:=(by omega);clear hb hbw hc3 hs ht hse g0 g1;go_wp2_with fail;go_roundw
    case rel=>exact⟨k+1,by omega,by go_num,by rw[HS.o];go_num,HB.o.alloc (by have:=HB.o.size;simp at this;omega) _⟩
    case measure=>(simp[intOf];try omega)
  · obtain rfl:k=N:=by omega
    have kd:=HK.o.below (hb.mono (by simp));have k7:=kd.at1;have k8:=kd.at2;have k6:=kd.bits;have hc:=HT2.o k;rw[List.take_of_length_le (by rw[HLen.o];exact qR)] at hc;simp only[List.take_of_length_le (show T.length<=k by rw[HLen.o];exact qR)];obtain⟨s,hse⟩:∃s,szc T=s:=⟨_,rfl⟩
    rw[hse] at hc;simp only[hse];have HSe:=qH (show((3+szc T+(X1+X2)+b:Nat):Int)=3+(s:Int)+((X1:Int)+(X2:Int))+(b:Int) by rw[hse];omega);have HBw:=qH (HB0.o.trans (hb.mono (by omega)));have HQ1:=qH (HW1.o wr hb);have HQ2:=qH (HW2.o wr hb);clear kd hb hse;go_wp2_with fail
    go_quiet (first
     |(go_at_call 269;with_reducible refine Calls.quiet_of_same (HQ1.o _))
     |(go_at_call 269;with_reducible refine Calls.quiet_of_same (HQ2.o _)))
    go_wp2_with fail;go_ret;exact⟨by rw[HSe.o];rfl,z0b HBw.o nq⟩
attribute [local go_sem] Oper.semAt_some
abbrev Pz:={x:ByteArray×Bool//x.1.size<=65535}
def zjb(x:Pz):Array Value:= #[.string x.1.1,.bool x.1.2]
def pcs(s:ByteArray):List Pz:=
 if h:s.size<=65535 then[⟨(s,true),h⟩] else⟨(s.extract 0 65535,false),by simp only[ByteArray.size_extract];omega⟩::pcs (s.extract 65535 s.size)
termination_by s.size
decreasing_by
 rw[ByteArray.size_extract];omega
theorem z6n{s:ByteArray}(h:s.size<=65535):pcs s=[⟨(s,true),h⟩]:=by rw[pcs,dif_pos h]
theorem z4y{s:ByteArray}(h:¬s.size<=65535):pcs s=⟨(s.extract 0 65535,false),by simp only[ByteArray.size_extract];omega⟩::pcs (s.extract 65535 s.size):=by rw[pcs,dif_neg h]
theorem zgQ(s:ByteArray):(pcs s).length<=s.size/65535+1:=by
 generalize hn:s.size=n
 induction n using Nat.strongRecOn generalizing s with
 |_ n ih=>
  by_cases h:s.size<=65535
  · rw[z6n h];simp
  · rw[z4y h,qC]
    have:=ih (n - 65535) (by omega) (s.extract 65535 s.size) (by rw[ByteArray.size_extract];omega);omega
def stp(last:Bool):Nat->List Pz->List Nat
 |_,[]=> []
 |o,x::l=>stb o x.1.1 (last&&x.1.2)++stp last (o+(stb o x.1.1 (last&&x.1.2)).length) l
theorem z7b(last:Bool)(x:Pz):∀ (l:List Pz) (o:Nat),stp last o (l++[x])=stp last o l++stb (o+(stp last o l).length) x.1.1 (last&&x.1.2)
 |[],o=>by simp[stp]
 |y::l,o=>by
  simp only[List.cons_append,stp,z7b last x l];rw[qD,qA,Nat.add_assoc]
theorem zgn(last:Bool)(s:ByteArray)(o:Nat):stp last o (pcs s)=stm o s last:=by
 generalize hn:s.size=n
 induction n using Nat.strongRecOn generalizing s o with
 |_ n ih=>
  by_cases h:s.size<=65535
  · rw[z6n h,z6b h];simp[stp]
  · rw[z4y h,z7d h]
    simp only[stp,Bool.and_false];rw[ih (n - 65535) (by omega) (s.extract 65535 s.size) _ (by rw[ByteArray.size_extract];omega)]
theorem za4(last:Bool):∀ (l:List Pz) (o:Nat),(stp last o l).length<=524322*l.length
 |[],o=>by simp[stp]
 |x::l,o=>by
  have:=za4 last l (o+(stb o x.1.1 (last&&x.1.2)).length);have h:=x.2;have hp:pd (o+3)<=7:=(by unfold pd;omega);simp only[stp,qA,qC];rw[z0g] at*;omega
theorem z8R(m l Bs:Nat)(s:ByteArray)(hm:1<=m)(hs:s.size<=1000000)(Kp:World->World->Prop)(W0:World)(J Jx:List Pz->World->Prop)
 (hY:∀pre x W,J pre W->pre.length<(pcs s).length->YieldAt Fence.wide (m - 1) prog l (zjb x) W λe W'=>
  (e=.returned (.bool true)/\J (pre++[x]) W'/\Kp W W')\/(e=.returned (.bool false)/\Jx (pre++[x]) W'))
 (hBs:W0.cell? ⟨Bs,0,none⟩=some (.string s)) (h0:J [] W0):
 CallsIn Fence.wide m prog 271 #[.func (.yield l) #[] #[],.pointer (some ⟨Bs,0,none⟩)] W0 λe W'=>(∃v,e=.returned v)/\
  ((∃ys:List Pz,ys=pcs s/\J ys W')\/(∃pre:List Pz,(∃r,pre++r=pcs s)/\Jx pre W')):=by
 refine callsIn_of_wp func271 rfl trivial ?_ rfl;simp only[ntmps271,List.size_toArray,qC,List.length_nil,Nat.reduceAdd,Nat.reduceSub,Array.replicate_succ,Array.replicate_zero,List.push_toArray,List.append_toArray,List.nil_append,List.cons_append];have HY:=qH hY;clear hY;gi_wp2
 gi_loopw [3] (λv wr=> ∃ (t:ByteArray) (pre:List Pz),v=.string t/\t.size<=1000000/\pre++pcs t=pcs s/\J pre wr)
  (λv _=>match v with|.string t=>t.size|_=>0)
 case atStart=>exact⟨s,[],rfl,hs,rfl,h0⟩
 case round=>
  obtain⟨t,pre,rfl,ht,hp,hJs⟩:=hrel;by_cases hlt:t.size<=65535
  · have d1:decide ((65535:Int)<(t.size:Int))=false:=qF (by omega)
    rw[z6n hlt] at hp;obtain⟨fn,tmps,asg,body,hy,hR⟩:=HY.o pre ⟨(t,true),hlt⟩ wr hJs (by rw[<-hp];simp);unfold zjb at hy;dsimp only at hy;have HP:=qH hp;clear hp hJs h0;gi_wp2;refine hR.mono ?_
    rintro e W3 (⟨rfl,hJ3,hk3⟩|⟨rfl,hJx3⟩)
    · gi_wp2
      go_end0;exact⟨⟨_,rfl⟩,.inl ⟨_,HP.o,hJ3⟩⟩
    · gi_wp2
      go_end0;exact⟨⟨_,rfl⟩,.inr ⟨_,⟨[],by rw[List.append_nil];exact HP.o⟩,hJx3⟩⟩
  · have d1:decide ((65535:Int)<(t.size:Int))=true:=q9T (by omega)
    rw[z4y hlt] at hp;obtain⟨fn,tmps,asg,body,hy,hR⟩:=HY.o pre ⟨(t.extract 0 65535,false),by simp only[ByteArray.size_extract];omega⟩ wr hJs (by rw[<-hp];simp);unfold zjb at hy;dsimp only at hy;have HP:=qH hp;clear hp hJs h0;gi_wp2;refine hR.mono ?_
    rintro e W3 (⟨rfl,hJ3,hk3⟩|⟨rfl,hJx3⟩)
    · gi_wp2
      go_roundw
      case rel=>exact⟨t.extract 65535 t.size,_,rfl,by rw[ByteArray.size_extract];omega,by rw[qD];exact HP.o,hJ3⟩
      case measure=>(simp;try omega)
    · gi_wp2
      refine bodyPost_ret (results_none rfl _ _ _) rfl ?_
      exact⟨⟨_,rfl⟩,.inr ⟨_,⟨_,by rw[qD];exact HP.o⟩,hJx3⟩⟩
theorem z8Q(s:ByteArray)(w:World):Calls prog 239 #[.string s] w λe w'=>
 e=.returned (.func (.func 271) #[] #[.pointer (some ⟨w.heap.size,0,none⟩)])/\w'=w.alloc (.cells #[.string s] 9):=by
 go_enter func239,ntmps239;go_wp2;go_ret;exact⟨by simp,rfl⟩
theorem z5x(m Bs:Nat)(s:ByteArray)(hm:1<=m)(hs:s.size<=1000000)(Kp:World->World->Prop)(w:World)(hBs:w.cell? ⟨Bs,0,none⟩=some (.string s)):
 SeqStopsK Fence.wide m prog 271 #[.pointer (some ⟨Bs,0,none⟩)] zjb Kp (λys=>ys=pcs s) (λpre=> ∃r,pre++r=pcs s) (pcs s).length w:=λl J Jx W hW hJ _ hY h0=>
 z8R m l Bs s hm hs Kp W J Jx hY ((hW.cell (p:=⟨Bs,0,none⟩) (qB hBs)).trans hBs) h0
end Go.Proofs.YthgilhebnlglkaaGreatDoor.V
namespace Go.Proofs.YthgilhebnlglkaaGreatDoor.V
open Go Go.RowKit M U
attribute [local go_sem] Oper.semAt_some
def zjw(w2:World)(E n₁ o:Nat)(pre:List Pz)(W:World):Prop:=
 W.heap[E]? =some (.cells #[.int .i64 ((o+(stp false o pre).length:Nat):Int)] 3 (0,0))/\Kept (Sx E E n₁) w2 W
theorem zjw.own{w2:World}{E n₁ o:Nat}(h0:E<n₁):OwnFrom n₁ (zjw w2 E n₁ o):=λpre W W' row hs hg hr=>by
 obtain⟨h1,h2⟩:=hs;exact⟨(hg.block E (qW.1 h1).1 (λe=>by have:=(hr E e.symm).1;omega)).trans h1,h2.grown hg (λr e=> .inl (.inr (.inr (hr r e).1)))⟩
theorem z3y(s:ByteArray)(p:Nat)(w:World)(hs:s.size<=1000000)(hp:p<=1000000):
 Calls prog 233 #[.string s,.int .i64 p] w λe w'=>e=.returned (.int .i64 ((stm (p%8) s false).length:Nat))/\Below w.heap.size w w':=by
 obtain⟨o,ho⟩:∃o,p%8=o:=⟨_,rfl⟩
 have ho8:o<=7:=(by omega);have m1:(p:Int)%8=(o:Int):=(by omega);have m2:(p:Int).tmod 8=(o:Int):=(by rw[Int.tmod_eq_emod_of_nonneg (by omega)];omega);have HN:=qH (show(pcs s).length<=17 from by have:=zgQ s;omega);have HPc:=qH (show stp false o (pcs s)=stm o s false from zgn false s o);rw[ho];clear ho;refine(callsIn_wide (n:=5)).1 ?_
 refine callsIn_of_wp_marks func233 rfl trivial ?_ rfl;simp only[ntmps233,List.size_toArray,qC,List.length_nil,Nat.reduceAdd,Nat.reduceSub,Array.replicate_succ,Array.replicate_zero,List.push_toArray,List.append_toArray,List.nil_append,List.cons_append]
 gi_wp2_with (refine⟨trivial,?_⟩;gi_at_call 239;refine(callsIn_wide.2 (z8Q _ _)).mono ?_;rintro e w' ⟨rfl,rfl⟩)
 have hz2:((w.alloc (.cells #[.int .i64 o] 3)).alloc (.cells #[.string s] 9)).heap.size=w.heap.size+1+1:=(by simp);have hb2:Below w.heap.size w ((w.alloc (.cells #[.int .i64 o] 3)).alloc (.cells #[.string s] 9)):=((Below.refl _ w).alloc qR _).alloc (by simp) _;have g0:((w.alloc (.cells #[.int .i64 o] 3)).alloc (.cells #[.string s] 9)).heap[w.heap.size]? =some (.cells #[.int .i64 o] 3 (0,0)):=old_at _ (new_at _ _);have g1:((w.alloc (.cells #[.int .i64 o] 3)).alloc (.cells #[.string s] 9)).heap[w.heap.size+1]? =some (.cells #[.string s] 9 (0,0)):=by
  have:=new_at (w.alloc (.cells #[.int .i64 o] 3)) (.cells #[.string s] 9);rw[World.size_alloc] at this;exact this
 generalize hw2:(w.alloc (.cells #[.int .i64 o] 3)).alloc (.cells #[.string s] 9)=w2 at hz2 hb2 g0 g1 ⊢;clear hw2;have HB2:=qH hb2;have hEw:w.heap.size<w2.heap.size:=by omega
 have HFd:=qH (show ∀W,Kept (Sx w.heap.size w.heap.size w2.heap.size) w2 W->Below w.heap.size w W from λW hk=>
  HB2.o.trans (hk.below (by omega) (λj hj=>by rcases hj with hj|hj|hj<;>omega)))
 clear hb2 hz2 m1 m2
 refine wpIn_rangeFunc_ownF rfl (by omega) (gf:= 271) (lb:= #[.pointer (some ⟨w.heap.size+1,0,none⟩)]) rfl trivial (enters_of func271 (by kernel_rfl) rfl)
  (z5x 4 (w.heap.size+1) s (by omega) hs (Kept (Sx w.heap.size w.heap.size w2.heap.size)) w2 (one_cell g1))
  (λh k=>keptSx_t h k) (λW l o o' hl h _ _=>keptSx_b W l o o' hl h) (Below.refl _ _) (λ_=>rfl)
  (zjw w2 w.heap.size w2.heap.size o) (λ_ _ _=>False) (zjw.own hEw) (λ_ _ _ _ _ hs _ _=>hs)
  ⟨by simpa [stp] using g0,Kept.refl _ _⟩
  (λx=> {tmps:= #[.string s,.int .i64 p,undef,undef,.int .i64 0,.int .i64 o,.pointer (some ⟨w.heap.size,0,none⟩),.string x.1.1,.int .i64 p,.int .i64 o,.int .i64 o,.string s,.func (.func 271) #[] #[.pointer (some ⟨w.heap.size+1,0,none⟩)],.string x.1.1,.bool x.1.2,undef,undef,undef,undef,undef,undef,undef,undef,undef,undef,undef,undef,undef,undef,undef,undef,undef],defers:=[]})
  ?assign ?body ?done ?stop
 case assign=>
  intro l x W K hK;unfold zjb;gi_wp2;exact hK
 case body=>
  rintro l pre x W ⟨hm1,hm2⟩ hlt;obtain⟨⟨t,lb⟩,ht⟩:=x;have hsn:=z7b false ⟨(t,lb),ht⟩ pre o;have hle:=za4 false pre o;have hN:=HN.o;simp only at ht;have hlen:(stp false o (pre++[⟨(t,lb),ht⟩])).length=(stp false o pre).length+(3+pd (o+(stp false o pre).length+3)+32+t.size*8):=by
   rw[hsn,qA,z0g]
  obtain⟨e,he⟩:∃e,o+(stp false o pre).length=e:=⟨_,rfl⟩
  have hMid:∀W',W'.heap[w.heap.size]? =some (.cells #[.int .i64 ((e+3+pd (e+3)+(32+8*t.size):Nat):Int)] 3 (0,0))->Kept (Sx w.heap.size w.heap.size w2.heap.size) w2 W'->zjw w2 w.heap.size w2.heap.size o (pre++[⟨(t,lb),ht⟩]) W':=λW' h1 h2=>⟨by
   rw[hlen];rw[he];rw[show o+((stp false o pre).length+(3+pd (e+3)+32+t.size*8))=e+3+pd (e+3)+(32+8*t.size) by omega];exact h1,h2⟩
  have HMid:=qH hMid;rw[he] at hm1;have he2:e<=10000000:=(by omega);have s0:=one_cell hm1;have f0:=one_free hm1;obtain⟨H1,H2⟩:=qh2 hm1 hm2;obtain⟨q,hq⟩:∃q,pd (e+3)=q:=⟨_,rfl⟩
  have hq7:q<=7:=(by rw[<-hq];unfold pd;omega);obtain⟨r,hr⟩:∃r,(e+3)%8=r:=⟨_,rfl⟩
  have r1:((e:Int)+3)%8=(r:Int):=(by omega);have r2:((e:Int)+3).tmod 8=(r:Int):=(by rw[Int.tmod_eq_emod_of_nonneg (by omega)];omega);have r3:((8:Int) - (r:Int))%8=(q:Int):=(by rw[<-hq];unfold pd;omega);have r4:((8:Int) - (r:Int)).tmod 8=(q:Int):=(by rw[Int.tmod_eq_emod_of_nonneg (by omega)];rw[<-hq];unfold pd;omega);rw[hq] at HMid;dsimp only;clear hm1 hm2 hsn hle hlen hMid he hq hr hN g0 g1 hlt;gi_wp2;exact⟨((KeepsOthers.setCell _ _ _).trans (KeepsOthers.setCell _ _ _)).trans (KeepsOthers.setCell _ _ _),(((Kept.refl _ W).setCell ⟨w.heap.size,0,none⟩ (.inl (.inl rfl)) _).setCell ⟨w.heap.size,0,none⟩ (.inl (.inl rfl)) _).setCell ⟨w.heap.size,0,none⟩ (.inl (.inl rfl)) _,HMid.o _ (one_set (one_set (one_set H1.o _) _) _) (((H2.o.setCell ⟨w.heap.size,0,none⟩ (.inl (.inl rfl)) _).setCell ⟨w.heap.size,0,none⟩ (.inl (.inl rfl)) _).setCell ⟨w.heap.size,0,none⟩ (.inl (.inl rfl)) _)⟩
 case done=>
  rintro D ys W hD rfl ⟨hm1,hm2⟩ hK;rw[HPc.o] at hm1;have s0:=one_cell hm1;have HKd:=qH hK;have HB:=qH (HFd.o W hm2);have hle:=za4 false (pcs s) o;rw[HPc.o] at hle;have hN:=HN.o;generalize hZ:(stm o s false).length=Z at s0 hle;have hZ2:Z<=10000000:=(by omega);have HZe:=qH hZ;clear hm1 hm2 hK hZ hle hN g0 g1;gi_wp2;have hK':=HKd.o;refine⟨by simp,.inl ⟨_,_,rfl,run_takeDeferred hK',?_⟩⟩;exact⟨_,results_tmp rfl _ _ _,by rw[HZe.o,show(o:Int)+(Z:Int) - (o:Int)=(Z:Int) by omega];rfl,HB.o.trans (belowK_b (w:=w) qR _ D _ _ (by omega) hK' rfl rfl)⟩
 case stop=>
  rintro D c pre W _ _ h _;exact h.elim
end Go.Proofs.YthgilhebnlglkaaGreatDoor.V
namespace Go.Proofs.YthgilhebnlglkaaGreatDoor.V
open Go Go.RowKit M U
theorem z9A(l1 l2:Nat->Nat){S:List Sy}(h:∀y∈S,(y.d=false->y.n<286)/\(y.d=true->y.n<30)):M.sm (λi=>cs false S i*l1 i) 286+M.sm (λi=>cs true S i*l2 i) 30+smb S=wgh l1 l2 S:=by
 rw[z55 l1 l2 S h];congr 2
 · exact M.sm_congr _ (λi _=>Nat.mul_comm _ _)
 · exact M.sm_congr _ (λi _=>Nat.mul_comm _ _)
theorem zgq{L:List Tk}{n:Nat}(hl:L.length=n)(hn:n<=100000)(hm:∀t∈L,may t=true):(sys L).length<=200001/\smb (sys L)<=3000000:=by
 have h1:=z2U L;have h2:=zf5 (S:=sys L) (λy hy=>(zik hm y hy).1);omega
theorem z7g(k:Nat)(A:Option Addr)(n c:Nat)(L:List Tk)(raw:ByteArray)(p:Nat)(n1:Nat)(l1 l2:Nat->Nat)(T:List Cd)(w:World)(hk0:k≠0)(hk2:k<=2)(hL:z0j w A n L)(hn:n<=100000)(hr:raw.size<=1000000)(hp:p<=1000000)(hm:∀t∈L,may t=true)
 (HC:∀w1,Below w.heap.size w w1->Calls prog 202 #[.int .u8 k,.slice A n c] w1 (z4g w1 (sys L) n1 l1 l2 T)) (h1:286<=n1) (hT:T.length<=1000/\∀c∈T,c.2<=255) (hl1:∀i,l1 i<=255) (hl2:∀i,l2 i<=255):
 Calls prog 197 #[.int .u8 k,.slice A n c,.string raw,.int .i64 p] w λe w'=>e=.returned (.tuple #[.int .i64 ((3+szc T+wgh l1 l2 (sys L):Nat):Int),.int .i64 0])/\Below w.heap.size w w':=by
 have hz:=z7P;have hrf:=z22 k A n c L raw p w hL hn hr (by omega) (by omega);rw[show rfs k L=0 by unfold rfs;rw[if_neg (by rw[z4e hm];simp;omega)]] at hrf;obtain⟨HR,HCo⟩:=qh2 hrf HC;obtain⟨hs1,hs2⟩:=zgq hL.leng hn hm;have hin:=zij hm hL.good;have hw:=z9A l1 l2 hin;obtain⟨S,hS⟩:∃S,sys L=S:=⟨_,rfl⟩
 rw[hS] at HCo hs1 hs2 hw;have HSz:=qH (λ(A1 A2 A3:Option Addr) (c1 c2 c3:Nat) (w:World) (q1:z0e w .u8 A1 n1 (λi=>(l1 i:Int))) (q2:z0e w .u8 A2 30 (λi=>(l2 i:Int))) (q3:z0k w A3 T.length T)=>zbZ S A1 A2 A3 n1 c1 c2 T.length c3 l1 l2 T w hs1 hs2 q1 q2 q3 h1 hT.1 hT.2 hl1 hl2);rw[show(3+szc T+(M.sm (λi=>cs false S i*l1 i) 286+M.sm (λi=>cs true S i*l2 i) 30)+smb S:Nat)=3+szc T+wgh l1 l2 S by rw[<-hw];omega] at HSz;rw[hS];generalize hZ:3+szc T+wgh l1 l2 S=Z at HSz ⊢;have HSt:=qH (λ(w1:World) (A1 A2 A3:Option Addr) (c1 c2 c3:Nat)=>by
  have h:=(Kd.new w1 (λ_=>0) (λ_=>0) 0 (.slice none 0 0) (.slice none 0 0) (.slice none 0 0)).store (cs false S) (cs true S) (smb S) (.slice A1 n1 c1) (.slice A2 30 c2) (.slice A3 T.length c3) rfl rfl rfl;rw[World.setRow_alloc_new] at h;exact h)
 have HLd:=qH (λ(w1:World) (A1 A2 A3:Option Addr) (c1 c2 c3:Nat)=>(Kd.new w1 (cs false S) (cs true S) (smb S) (.slice A1 n1 c1) (.slice A2 30 c2) (.slice A3 T.length c3)).load);have e1:((k:Int)==0)=false:=(by rw[qN];omega);unfold z4g at HCo;clear hrf HC hL hm hin hw hS hZ hs1 hs2 hT hl1 hl2 h1;go_enter func197,ntmps197
 go_wp2_with (first
  |(go_at_call 199;(with_reducible refine HR.o.mono ?_);rintro e w1 ⟨rfl,b1⟩;have B1:=qH b1;clear b1)
  |(go_at_call 202;(with_reducible refine(HCo.o _ B1.o).mono ?_);rintro e w2 ⟨A1,c1,A2,c2,A3,c3,rfl,q1,q2,q3,b2, -, -⟩
    have bb:Below w2.heap.size w2 (w2.alloc (.cells (KV (cs false S) (cs true S) (smb S) (.slice A1 n1 c1) (.slice A2 30 c2) (.slice A3 T.length c3)) 292)):=qL;have Q1:=qH (q1.below bb);have Q2:=qH (q2.below bb);have Q3:=qH (q3.below bb);have B2:=qH ((B1.o.trans (b2.mono B1.o.size)).trans (bb.mono (B1.o.trans (b2.mono B1.o.size)).size));clear q1 q2 q3 b2 bb)
  |refine z0n rfl 292 _ _ rfl _ _ rfl _ rfl (HSt.o _ _ _ _ _ _ _) ?_
  |refine z0M rfl 292 _ rfl _ _ rfl _ (HLd.o _ _ _ _ _ _ _) ?_
  |(go_at_call 234;(with_reducible refine qcb B2 (HSz.o _ _ _ _ _ _ _ Q1.o Q2.o Q3.o) ?_);intro w3 B3))
 exact bodyPost_ret (v:=.tuple #[.int .i64 Z,.int .i64 0]) (by simp[results,results197,go_sem]) rfl ⟨rfl,B3.o⟩
theorem zck(L:List Tk)(raw:ByteArray)(last:Bool)(o:Nat):bkm 1 L raw last o=hdb 1 last++sfx L:=rfl
theorem zhO(L:List Tk)(raw:ByteArray)(last:Bool)(o:Nat):bkm 2 L raw last o=hdb 2 last++hdd L++sbs L:=rfl
theorem zgt(k:Nat)(A:Option Addr)(n c:Nat)(L:List Tk)(raw:ByteArray)(p:Nat)(w:World)(H:Tabs w)(hL:z0j w A n L)(hn:n<=100000)(hr:raw.size<=1000000)(hp:p<=1000000)(hk:k<=2)(hm:k≠0->∀t∈L,may t=true)(hq:zcx L):
 Calls prog 197 #[.int .u8 k,.slice A n c,.string raw,.int .i64 p] w λe w'=>e=.returned (.tuple #[.int .i64 ((bkm k L raw false (p%8)).length:Nat),.int .i64 0])/\Below w.heap.size w w':=by
 by_cases h0:k=0
 · subst h0
   have hrf:=z22 0 A n c L raw p w hL hn hr (by omega) (by omega);rw[show rfs 0 L=0 by unfold rfs;rw[if_neg (by omega)]] at hrf;have HR:=qH hrf;have HS:=qH (λw1=>z3y raw p w1 hr hp);show Calls prog 197 #[.int .u8 0,.slice A n c,.string raw,.int .i64 p] w λe w'=>e=.returned (.tuple #[.int .i64 ((stm (p%8) raw false).length:Nat),.int .i64 0])/\Below w.heap.size w w'
   generalize hZ:(stm (p%8) raw false).length=Z at HS ⊢;clear hrf hL hm H hZ;go_enter func197,ntmps197
   go_wp2_with (first
    |(go_at_call 199;refine HR.o.mono ?_;rintro e w1 ⟨rfl,b1⟩;have B1:=qH b1;clear b1)
    |(go_at_call 233;(with_reducible refine qcb B1 (HS.o _) ?_);intro w2 B2))
   exact bodyPost_ret (v:=.tuple #[.int .i64 Z,.int .i64 0]) (by simp[results,results197,go_sem]) rfl ⟨rfl,B2.o⟩
 · have hm':=hm h0
   by_cases h1:k=1
   · subst h1
     have h:=z7g 1 A n c L raw p 288 fxl (λ_=>5) [] w (by omega) (by omega) hL hn hr hp hm' (λw1 b=>z3h A n c L w1 (H.keep b).2 (hL.below b) hn hm' hq.2.2) (by omega) ⟨by simp,λc hc=>absurd hc (by simp)⟩ (λi=>qK (zfB i).2 (by omega)) (λ_=>by omega);rw[zck,qA,z0d];unfold sfx;rw[z4H];exact h
   · obtain rfl:k=2:=by omega
     have ht:=z9S L;have h:=z7g 2 A n c L raw p 286 (ll1 L) (ll2 L) (tbl (lx1 L) (lx2 L)) w (by omega) (by omega) hL hn hr hp hm' (λw1 b=>zev A n c L w1 (H.keep b) (hL.below b) hn hm' hq) (by omega) ⟨ht.1,λc hc=>qK (ht.2 c hc).1 (by omega)⟩ (λi=>qK (z0C _ (by omega) (by decide) i) (by omega)) (λi=>qK (z0C _ (by omega) (by decide) i) (by omega));rw[<-z4T,zgi] at h;rw[zhO,qA,qA,z0d];unfold sbs;rw[z4H];exact h
def SzC(L:List Tk):Prop:=∀ (k:Nat) (A:Option Addr) (n c:Nat) (raw:ByteArray) (p:Nat) (w:World),Tabs w->z0j w A n L->n<=100000->raw.size<=1000000->p<=1000000->k<=2->(k≠0->∀t∈L,may t=true)->
 Calls prog 197 #[.int .u8 k,.slice A n c,.string raw,.int .i64 p] w λe w'=>e=.returned (.tuple #[.int .i64 ((bkm k L raw false (p%8)).length:Nat),.int .i64 0])/\Below w.heap.size w w'
theorem zii{L:List Tk}(hq:zcx L):SzC L:=λk A n c raw p w H hL hn hr hp hk hm=>zgt k A n c L raw p w H hL hn hr hp hk hm hq
theorem z2Y{w:World}(ty:TypeId){B:Nat}{v:Value}{l:List Cd}(h:Owc B w v l){A:Option Addr}{n c:Nat}{r:List Cd}(hr:z0k w A n r)(hL:l.length+r.length<=3000000)(hB:B<=w.heap.size):
 ∃v' w',(Builtin.append_ #[207,207] ty #[v,.slice A n c]).run prog w=.ok v' w'/\Owc B w' v' (l++r)/\Below B w w':=by
 by_cases hn:0<n
 · obtain⟨v',w',r1,r2,r3,_⟩:=z0Q (c:=c) ty h hr hn hL hB
   exact⟨v',w',r1,r2,r3⟩
 · obtain rfl:n=0:=by omega
   obtain rfl:r=[]:=List.eq_nil_of_length_eq_zero hr.leng;rw[List.append_nil];obtain⟨i,h1,h2,h3,h4⟩:=info_of z3i;rcases A with _|a
   · refine⟨v,w,?_,h,Below.refl _ _⟩
     rcases h.2 with⟨rfl,q0⟩|⟨g,cap,cur,rfl,hg,hh,hcap,hm,hs,ht⟩
     · simp[Builtin.append_,run_underlying underlying207,sizeOf,typeInfo,h1,Builtin.lenOf,Builtin.firstCells]
     · simp[Builtin.append_,run_underlying underlying207,sizeOf,typeInfo,h1,Builtin.lenOf,Builtin.firstCells]
       rw[if_pos hcap];simp[storeCells]
   · obtain⟨v',w',r1,r2,r3,_⟩:=run_append_own (P:= prog) w B 207 ty 216 i _ 2 8 underlying207 h1 h2 h3 h4 rfl (by decide) v l.length (clc l) h a 0 c [] rfl (λj u hu=>by simp at hu) (by simp) (by unfold maxLen;omega) (by omega) hB
     rw[List.append_nil] at r2;exact⟨v',w',r1,r2,(Below.refl _ w).grown r3 hB (λk hk=>(World.ownsRow.lt h k hk).1)⟩
theorem z64{ops:Array Oper}{rest:List Oper}{o:Oper}{a:Act}{w:World}{Q:Exit->Act->World->Prop}(hgd:o.guard=none)(s x:Operand)
 (ho:o.op=.call {callee:=.builtin .append,args:= #[s,x],argTypes:= #[207,207]}) (B:Nat) (v:Value) (l:List Cd) (hs:a.eval s=v) (h:Owc B w v l) (A:Option Addr) (n c:Nat) (r:List Cd)
 (hx:a.eval x=.slice A n c) (hr:z0k w A n r) (hL:l.length+r.length<=3000000) (hB:B<=w.heap.size)
 (hK:∀v' w',Owc B w' v' (l++r)->Below B w w'->wpList prog ops Q rest (a.put o.dst v') w'):wpList prog ops Q (o::rest) a w:=
 wpList_plain hgd λK hK'=>by
  obtain⟨v',w',r1,r2,r3⟩:=z2Y (c:=c) o.type h hr hL hB;unfold Oper.wp execOp;simp only[ho,resolve,invoke,builtin,Sem.run_bind,Sem.run_pure,Result.andThen_ok,List.map_toArray,List.map_cons,List.map_nil,hs,hx,r1];exact hK' _ _ (hK v' w' r2 r3)
theorem zbA(n:Nat)(w:World)(h0:0<n)(hn:n<=2000):
 Calls prog 245 #[.slice none 0 0,.int .i64 n] w λe w'=> ∃v,e=.returned v/\Owc w.heap.size w' v []/\Below w.heap.size w w':=by
 obtain⟨i,h1,h2,h3,h4⟩:=info_of z3i;have hr:=λty=>Lib.run_append_nil_zeros (P:= prog) w 207 3 ty 216 i _ .i64 .i64 underlying207 (by kernel_rfl) h1 h2 n h0 (by omega) (by omega) (by rw[h4];omega)
 have hG:=grownCap_ge w n 0 216;have hG2:=grownCap_le_maxLen w n 0 216 (by unfold maxLen;omega);generalize hGe:grownCap w n 0 216 =G at hr hG hG2;have hsz:(Builtin.zeroCells (Value.agg #[.int .u32 0,.int .u8 0]).cells n++Builtin.zeroCells (Value.agg #[.int .u32 0,.int .u8 0]).cells (G - n)).size=G*2:=by
  rw[Array.size_append,size_zeroCells,size_zeroCells];show n*2+(G - n)*2=G*2
  omega
 generalize hcs:Builtin.zeroCells (Value.agg #[.int .u32 0,.int .u8 0]).cells n++Builtin.zeroCells (Value.agg #[.int .u32 0,.int .u8 0]).cells (G - n)=cs at hr hsz;have hown:=World.ownsRow_made (base:=w.heap.size) (e:= 216) (size:=2) w.drew cs G qR hG2 hsz;have HO:=qH hown;have e1:¬(G=0):=(by omega);clear hown hGe hG2 hcs hsz h1 h2 h3 h4;go_enter func245,ntmps245;go_wp2_with (at_builtin;refine Lib.wpList_append_run _ rfl _ _ _ _ rfl _ _ rfl rfl _ _ (hr _) ?_);go_ret;exact⟨_,rfl,HO.o,(Below.refl _ _).drew.alloc qR _⟩
structure Prk where
 A:Option Addr
 n:Nat
 c:Nat
 l:List Cd
instance:Inhabited Prk:=⟨⟨none,0,0,[]⟩⟩
def z51(Ps:List Prk):List Cd:=Ps.flatMap (·.l)
theorem z5N{Ps:List Prk}{k:Nat}(hk:k<Ps.length):z51 (Ps.take (k+1))=z51 (Ps.take k)++(Ps.getD k default).l:=by
 unfold z51;rw[List.take_add_one,List.flatMap_append,List.getD,qE hk];simp
theorem zhp(Ps:List Prk)(k:Nat):(z51 (Ps.take k)).length<=(z51 Ps).length:=by
 unfold z51
 conv=>rhs;rw[<-List.take_append_drop k Ps,List.flatMap_append,qA]
 omega
def Cck(w:World)(l:List Cd)(e:Ending)(w':World):Prop:=∃A c,e=.returned (.slice A l.length c)/\(∀b o,A=some ⟨b,o,none⟩->w.heap.size<=b)/\z0k w' A l.length l/\Below w.heap.size w w'
theorem z6L(z m:Nat)(Ps:List Prk)(w:World)(hm:Ps.length=m)(hm2:m<=100)(hz:z<w.heap.size)(hc:∀i,i<m->w.cell? ⟨z,i,none⟩=some (.slice (Ps.getD i default).A (Ps.getD i default).n (Ps.getD i default).c))
 (hp:∀i,i<m->z0k w (Ps.getD i default).A (Ps.getD i default).n (Ps.getD i default).l) (h0:0<(z51 Ps).length) (ht:(z51 Ps).length<=2000):
 Calls prog 204 #[.slice (some ⟨z,0,none⟩) m m] w (Cck w (z51 Ps)):=by
 obtain⟨HC,HP⟩:=qh2 hc hp;have HGr:=qH (λw=>zbA (z51 Ps).length w h0 ht);have HLe:=qH (λk=>zhp Ps k);generalize hT:(z51 Ps).length=T at HGr h0 ht;have HTe:=qH hT;unfold Cck;clear hc hp hT;go_enter func204,ntmps204;go_wp2
 go_loopw [3,11] (λs i wr=> ∃k t:Nat,k<=m/\s=.int .i64 t/\i=.int .i64 k/\t=(z51 (Ps.take k)).length/\w=wr) (λ_ i _=>m - (intOf i).toNat)
 case atStart=>exact⟨0,0,qZ,rfl,rfl,rfl,rfl⟩
 case round=>
  obtain⟨k,t,hk,rfl,rfl,ht2,rfl⟩:=hrel;by_cases hlt:k<m
  · have c0:=HC.o k hlt
    have pl:=(HP.o k hlt).leng;have hs:=z5N (Ps:=Ps) (k:=k) (by omega);have hle:=HLe.o (k+1);rw[HTe.o] at hle;have hs2:=congrArg List.length hs;rw[qA,pl,<-ht2] at hs2;obtain⟨A,hA⟩:∃A,(Ps.getD k default).A=A:=⟨_,rfl⟩
    obtain⟨n,hn⟩:∃n,(Ps.getD k default).n=n:=⟨_,rfl⟩
    obtain⟨c,hcc⟩:∃c,(Ps.getD k default).c=c:=⟨_,rfl⟩
    rw[hA,hn,hcc] at c0;rw[hn] at hs2;have HS:=qH hs2;have b1:t+n<=2000:=(by omega);have k2:k<=100:=(by omega);clear hs hs2 ht2 hA hn hcc pl hle;go_wp2;go_roundw
    case rel=>exact⟨k+1,t+n,by omega,by go_num,by go_num,HS.o.symm,trivial⟩
    case measure=>(simp[intOf];try omega)
  · obtain rfl:k=m:=by omega
    have d1:decide ((k:Int)<(k:Int))=false:=qF (by omega);have d1':decide (k<k)=false:=qF (by omega);have htT:t=T:=(by rw[<-HTe.o,ht2,List.take_of_length_le (by omega)]);subst htT;clear ht2;go_wp2_with (go_at_call 245;(with_reducible refine(HGr.o _).mono ?_);rintro e w1 ⟨v,rfl,o1,b1⟩;obtain⟨O1,B1⟩:=qh2 o1 b1;clear o1 b1)
    go_loopw [6,27] (λv i wr=> ∃j:Nat,j<=k/\i=.int .i64 j/\Owc w.heap.size wr v (z51 (Ps.take j))/\Below w.heap.size w wr) (λ_ i _=>k - (intOf i).toNat)
    case atStart=>exact⟨0,qZ,rfl,O1.o,B1.o⟩
    case round=>
     obtain⟨j,hj,rfl,ho,hb⟩:=hrel;by_cases hlt2:j<k
     · have c0:=(hb.cell (p:=⟨z,j,none⟩) hz).trans (HC.o j hlt2)
       have hi:=(HP.o j hlt2).below hb;have hs:=z5N (Ps:=Ps) (k:=j) (by omega);have hle:=HLe.o (j+1);rw[HTe.o,hs,qA] at hle;obtain⟨A,hA⟩:∃A,(Ps.getD j default).A=A:=⟨_,rfl⟩
       obtain⟨n,hn⟩:∃n,(Ps.getD j default).n=n:=⟨_,rfl⟩
       obtain⟨c,hcc⟩:∃c,(Ps.getD j default).c=c:=⟨_,rfl⟩
       obtain⟨l,hll⟩:∃l,(Ps.getD j default).l=l:=⟨_,rfl⟩
       rw[hA,hn,hcc] at c0;rw[hA,hn,hll] at hi;rw[hll] at hs hle;obtain⟨HS,HI,HO,HB⟩:=qh4 hs hi ho hb;have HL:=qH (show(z51 (Ps.take j)).length+l.length<=3000000 by omega);have k2:j<=100:=(by omega);clear hs hi ho hb hA hn hcc hll hle;go_wp2_with (at_builtin;refine z64 rfl _ _ rfl w.heap.size _ (z51 (Ps.take j)) rfl HO.o _ _ _ l rfl HI.o HL.o HB.o.size ?_;intro v2 w2 o2 b2;obtain⟨O2,B2⟩:=qh2 o2 b2;clear o2 b2);go_roundw
       case rel=>exact⟨j+1,by omega,by go_num,by rw[HS.o];exact O2.o,HB.o.trans B2.o⟩
       case measure=>(simp[intOf];try omega)
     · obtain rfl:j=k:=by omega
       rw[List.take_of_length_le (by omega)] at ho;obtain⟨A,c,hv,hb2⟩:=ho.cds;have HNew:=qH (show ∀b o,A=some ⟨b,o,none⟩->w.heap.size<=b from λb o e=>(ho.lt b (by rw[hv,e];rfl)).1);obtain⟨HV,HI,HB⟩:=qh3 hv hb2 hb;clear ho hv hb2 hb;go_wp2;go_ret;exact⟨A,c,by rw[HV.o];rfl,HNew.o,HI.o,HB.o⟩
def Put(w:World)(B p:Nat)(S:Nat->Prop)(most:Int)(V o:Nat)(X Y:List Nat)(e:Ending)(w':World):Prop:=
 ((((o+(X++Y).length+7) /8:Nat):Int)<=most->Did w B p S most (0,V+nb (X++Y)*2^o,o+(X++Y).length) e w')/\
 (¬(((o+(X++Y).length+7) /8:Nat):Int)<=most->e=.returned (.int .i64 4)/\Kept S w w')
theorem z83{w w':World}{B p:Nat}{S:Nat->Prop}{most:Int}{r:Int×Nat×Nat}{e:Ending}(hd:Did w B p S most r e w'):Kept S w w':=by
 obtain⟨_,S',_,hk,_⟩:=hd;exact hk
theorem zbR{w w':World}{B p:Nat}{S:Nat->Prop}{most:Int}{r:Int×Nat×Nat}{e:Ending}{V L:Nat}(h:Wt w B p S most V L)(hd:Did w B p S most r e w'):Below B w w':=by
 obtain⟨_,S',_,hk,_⟩:=hd;exact hk.below (by have:=h.lt h.self;omega) (λj hj=>(h.lt hj).1)
section
variable {w:World} {B p:Nat} {S:Nat->Prop} {most:Int} {V o:Nat} {X:List Nat}
theorem zc0(h:Wt w B p S most (V+nb X*2^o) (o+X.length))(c1 c2:Nat)(hc:c1<2^c2)(hs:c2<=16)(hL:o+X.length<=900000000):
 Calls prog 244 #[.pointer (some ⟨p,0,none⟩),.agg #[.int .u32 c1,.int .u8 c2]] w (Put w B p S most V o X (cbs (c1,c2))):=by
 have h16:2^c2<=2^16:=Nat.pow_le_pow_right (by decide) hs;have g:=Go.Proofs.YthgilhebnlglkaaGreatDoor.code_any h (c1:Nat) c2 (by omega) (by omega) hL;rw[Int.toNat_natCast] at g;have hlen:(X++cbs (c1,c2)).length=X.length+c2:=(by rw[qA];unfold cbs;rw[z0c]);by_cases hm:(((o+(X++cbs (c1,c2)).length+7) /8:Nat):Int)<=most
 · rw[z3n (by omega) hc (by rw[hlen,<-Nat.add_assoc] at hm;exact hm)] at g
   refine g.mono λe w' hd=>⟨λ_=> ?_,λq=>absurd hm q⟩
   have e1:nb (cbs (c1,c2))=c1:=(by unfold cbs;rw[zfn,Nat.mod_eq_of_lt hc]);rw[zgZ,e1,hlen,<-Nat.add_assoc];exact hd
 · rw[z2f (by omega) hc (by rw[hlen,<-Nat.add_assoc] at hm;exact hm)] at g
   exact g.mono λe w' hd=>⟨λq=>absurd q hm,λ_=>⟨hd.1,z83 hd⟩⟩
end
theorem z5O{o:Nat}{m:Int}{X Y:List Nat}(h:(((o+(X++Y).length+7) /8:Nat):Int)<=m):(((o+X.length+7) /8:Nat):Int)<=m:=by
 rw[qA] at h;omega
theorem z24{w:World}{B p:Nat}{S:Nat->Prop}{most:Int}{V o:Nat}{X:List Nat}(A:Option Addr)(n c:Nat)(l:List Cd)(h:Wt w B p S most (V+nb X*2^o) (o+X.length))(hl:z0k w A n l)(hA:∀b q,A=some ⟨b,q,none⟩->¬S b)
 (hc:∀c∈l,c.1<2^c.2/\c.2<=16) (h0:0<n) (hn:n<=2000) (hL:o+X.length<=800000000):
 Calls prog 203 #[.pointer (some ⟨p,0,none⟩),.slice A n c] w (Put w B p S most V o X (l.flatMap cbs)):=by
 obtain⟨b,q,rfl,hb,hcs⟩:=hl.at h0;have hS:=hA b q rfl;have hleng:=hl.leng;obtain⟨HH,HCs,HSb⟩:=qh3 h hcs hS;have HC:=qH (show ∀k,k<n->(l.getD k default).1<2^(l.getD k default).2/\(l.getD k default).2<=16 from λk hk=>hc _ (by rw[List.getD,qE (by omega)];exact List.getElem_mem _));have HSucc:=qH (show ∀k,k<n->X++(l.take (k+1)).flatMap cbs=(X++(l.take k).flatMap cbs)++cbs (l.getD k default) from λk hk=>by
  rw[List.take_add_one,List.getD,qE (by omega),List.flatMap_append,qD];simp)
 have HTot:=qH (show ∀k,k<=n->(X++(l.take k).flatMap cbs).length<=(X++l.flatMap cbs).length from λk hk=>by
  conv=>rhs;rw[<-List.take_append_drop k l,List.flatMap_append,<-qD,qA]
  omega)
 have HLen:=qH (show ∀k,k<=n->o+(X++(l.take k).flatMap cbs).length<=900000000 from λk hk=>by
  have:((l.take k).flatMap cbs).length<=32000:=by
   rw[z4T];have h1:∀r:List Cd,(∀c∈r,c.2<=16)->szc r<=16*r.length:=λr=>by
    induction r with
    |nil=>intro _;simp[szc]
    |cons y r ih=>
     intro hr;have:=ih (λz hz=>hr z (List.mem_cons_of_mem _ hz));have:=hr y List.mem_cons_self;simp only[szc,qC];omega
   have:=h1 (l.take k) (λy hy=>(hc y (List.mem_of_mem_take hy)).2);rw[List.length_take] at this;omega
  rw[qA];omega)
 clear h hl hA hc hcs hS;go_enter func203,ntmps203;go_wp2_with fail
 go_loopw [10] (λx wr=> ∃ (k:Nat) (S':Nat->Prop),k<=n/\x=.int .i64 k/\Wt wr B p S' most (V+nb (X++(l.take k).flatMap cbs)*2^o) (o+(X++(l.take k).flatMap cbs).length)/\Kept S w wr/\(∀j,S' j->S j\/w.heap.size<=j)/\(0<k->(((o+(X++(l.take k).flatMap cbs).length+7) /8:Nat):Int)<=most)) (λx _=>n - (intOf x).toNat)
 case atStart=>exact⟨0,S,qZ,rfl,by simpa using HH.o,Kept.refl _ _,λj hj=> .inl hj,λq=>absurd q (by omega)⟩
 case round=>
  obtain⟨k,S',hk,rfl,hw,hkp,hsub,hfit⟩:=hrel;by_cases hlt:k<n
  · obtain⟨g0,g1⟩:=HCs.o k hlt
    have c0:=hkp.cell g0 HSb.o;have y1:=hkp.cell g1 HSb.o;have hcc:=HC.o k hlt;have hsucc:=HSucc.o k hlt;have hlen:=HLen.o k hk;have htot:=HTot.o (k+1) hlt;generalize ht:l.getD k default=t at c0 y1 hcc hsucc;obtain⟨t1,t2⟩:=t;simp only at c0 y1 hcc;generalize hY:X++(l.take k).flatMap cbs=Y at hw hsucc hlen;have hk2:k<=2000:=(by omega);have hw2:=hw.keep (((Kept.refl NoB wr).alloc (.cells #[.int .u32 t1,.int .u8 t2] 216))) (λj _ q=>q);have HW:=qH (zc0 hw2 t1 t2 hcc.1 hcc.2 hlen);have HKa:=qH (hkp.alloc (.cells #[.int .u32 t1,.int .u8 t2] 216));obtain⟨HSub,HSu,HTt⟩:=qh3 hsub hsucc htot;unfold Put at HW;by_cases hm:(((o+(Y++cbs (t1,t2)).length+7) /8:Nat):Int)<=most
    · have HM:=qH hm
      clear g0 g1 hcc hsucc hlen htot ht hY hw hw2 hkp hsub hfit hm;go_wp2_with (go_at_call 244;(with_reducible refine HW.o.mono ?_);rintro e w1 ⟨hd,hno⟩;obtain⟨rfl,S2,h2,k2,i2⟩:=hd HM.o;obtain⟨H2,K2,I2⟩:=qh3 h2 k2 i2;clear hd hno h2 k2 i2);go_roundw
      case rel=>exact⟨k+1,S2,by omega,by go_num,by rw[HSu.o];exact H2.o,HKa.o.trans K2.o HSub.o,λj hj=>by
       rcases I2.o j hj with q|q
       · exact HSub.o j q
       · right;have:=HKa.o.size;omega,λ_=>by rw[HSu.o];exact HM.o⟩
      case measure=>(simp[intOf];try omega)
    · have HM:=qH hm
      clear g0 g1 hcc hsucc hlen htot ht hY hw hw2 hkp hsub hfit hm;go_wp2_with (go_at_call 244;(with_reducible refine HW.o.mono ?_);rintro e w1 ⟨hd,hno⟩;obtain⟨rfl,hbl⟩:=hno HM.o;have HBl:=qH hbl;clear hd hno hbl);go_ret;have h3:=HTt.o;rw[HSu.o] at h3;have h4:=HM.o;exact⟨λq=>absurd q (by omega),λ_=>⟨rfl,HKa.o.trans HBl.o HSub.o⟩⟩
  · obtain rfl:k=n:=by omega
    rw[List.take_of_length_le (by omega)] at hw hfit;obtain⟨HW,HK,HSub⟩:=qh3 hw hkp hsub;have HF:=qH (hfit h0);clear hw hkp hsub hfit;go_wp2_with fail;go_ret;exact⟨λ_=>⟨rfl,S',HW.o,HK.o,HSub.o⟩,λq=>absurd HF.o q⟩
def hdc(k:Nat)(last:Bool):List Cd:=[(if last then 1 else 0,1),(k,2)]
theorem zed(k:Nat)(last:Bool):(hdc k last).flatMap cbs=hdb k last:=by
 unfold hdc hdb cbs;simp
theorem zj7{k:Nat}(hk:k<=3)(last:Bool):∀c∈hdc k last,c.1<2^c.2/\c.2<=16:=by
 intro c hc;unfold hdc at hc;simp only[List.mem_cons,List.not_mem_nil,or_false] at hc;rcases hc with rfl|rfl
 · cases last<;>exact⟨by decide,by decide⟩
 · exact⟨by show k<4;omega,by show 2<=16;omega⟩
theorem zaJ(k:Nat)(last:Bool)(w:World)(hk:k<=255):Calls prog 205 #[.int .u8 k,.bool last] w λe w'=> ∃g,e=.returned (.slice (some ⟨g,0,none⟩) 2 2)/\w.heap.size<=g/\z0k w' (some ⟨g,0,none⟩) 2 (hdc k last)/\Below w.heap.size w w':=by
 have HB1:=qH (show ∀ (n:Int) (W:World),Calls prog 246 #[.int .u32 n,.int .i64 1] W λe w'=>e=.returned (.agg #[.int .u32 n,.int .u8 1])/\Below W.heap.size W w' from λn W=>z1V n 1 W (by omega));have HB2:=qH (show ∀ (n:Int) (W:World),Calls prog 246 #[.int .u32 n,.int .i64 2] W λe w'=>e=.returned (.agg #[.int .u32 n,.int .u8 2])/\Below W.heap.size W w' from λn W=>z1V n 2 W (by omega));cases last
 · go_enter func205,ntmps205
   go_wp2_with (first
    |(go_at_call 246;(with_reducible refine(HB1.o _ _).mono ?_);rintro e w1 ⟨rfl,b1⟩;have B1:=qH b1;clear b1)
    |(go_at_call 246;(with_reducible refine qcb B1 (HB2.o _ _) ?_);intro w2 B2))
   go_ret;exact⟨w2.heap.size,rfl,B2.o.size,z0k.of_row (heap_alloc_new _ _) rfl rfl,B2.o.alloc B2.o.size _⟩
 · go_enter func205,ntmps205
   go_wp2_with (first
    |(go_at_call 246;(with_reducible refine(HB1.o _ _).mono ?_);rintro e w1 ⟨rfl,b1⟩;have B1:=qH b1;clear b1)
    |(go_at_call 246;(with_reducible refine qcb B1 (HB2.o _ _) ?_);intro w2 B2))
   go_ret;exact⟨w2.heap.size,rfl,B2.o.size,z0k.of_row (heap_alloc_new _ _) rfl rfl,B2.o.alloc B2.o.size _⟩
theorem Did.go{w w1 w2:World}{B p:Nat}{S S1:Nat->Prop}{most:Int}{r:Int×Nat×Nat}{e:Ending}(k:Kept S w w1)(s:∀j,S1 j->S j\/w.heap.size<=j)(d:Did w1 B p S1 most r e w2):Did w B p S most r e w2:=by
 obtain⟨h1,S2,h2,h3,h4⟩:=d;exact⟨h1,S2,h2,k.trans h3 s,λj hj=>by
  rcases h4 j hj with q|q
  · exact s j q
  · right;have:=k.size;omega⟩
theorem ze3{w w1:World}{B p:Nat}{S:Nat->Prop}{most:Int}{V L:Nat}(h:Wt w B p S most V L)(k:Kept S w w1):Below B w w1:=k.below (by have:=h.lt h.self;omega) (λj hj=>(h.lt hj).1)
theorem zaS{w:World}{B p:Nat}{S:Nat->Prop}{most:Int}{V L:Nat}(h:Wt w B p S most V L){g:Nat}(hg:w.heap.size<=g):∀b q,(some ⟨g,0,none⟩:Option Addr)=some ⟨b,q,none⟩->¬S b:=λb q e hs=>by
 simp only[Option.some.injEq,Addr.mk.injEq,and_true] at e;have:=(h.lt hs).2;omega
theorem z0r{w w1:World}(S:Nat->Prop)(b:Below w.heap.size w w1):Kept S w w1:=(Kept.of_below b).none S
attribute [local go_sem] Oper.semAt_some
theorem z1J{w:World}{B p:Nat}{S:Nat->Prop}{most:Int}{V L:Nat}(h:Wt w B p S most V L){j:Nat}(hj:S j):∃o,w.heap[j]? =some o/\o.isCells=true:=by
 obtain⟨ao,c,hw,hS⟩:=h;rcases(hS j).1 hj with rfl|⟨a,ha,rfl⟩
 · have c0:=hw.c0
   unfold World.cell? at c0;cases e:w.heap[j]? with
   |none=>simp[e] at c0
   |some o=>
    cases o with
    |cells cs T fz=>exact⟨_,rfl,rfl⟩
    |_=>simp[e] at c0
 · subst ha
   rcases hw.own.2 with⟨e,_⟩|⟨g,cap,cur,e,_,hh,_⟩
   · simp at e
   · simp only[Value.slice.injEq,Option.some.injEq] at e
     obtain⟨rfl,_,_⟩:=e;exact⟨_,hh,rfl⟩
theorem z6W{w w':World}{B p:Nat}{S:Nat->Prop}{most:Int}{V L:Nat}(h:Wt w B p S most V L){row:Option Nat}(hg:w.grownBy w' row)(hr:∀r,row=some r->∃o:Obj,w.heap[r]? =some o/\o.isCells=false):Wt w' B p S most V L:=by
 refine h.keep (Kept.of_grown hg) (λj hj q=> ?_);obtain⟨o,ho,hc⟩:=z1J h hj;obtain⟨o2,ho2,hc2⟩:=hr j q;rw[ho] at ho2;cases ho2;rw[hc] at hc2;cases hc2
theorem z38{w w':World}{B p:Nat}{S:Nat->Prop}{most:Int}{V L:Nat}(h:Wt w B p S most V L)(k:Kept S w w'):KeepsOthers w w':=⟨k.size,λj o hj ho=>by
 refine(k.block j (qW.1 hj).1 (λq=> ?_)).trans hj;obtain⟨o2,ho2,hc⟩:=z1J h q;rw[hj] at ho2;cases ho2;rw[hc] at ho;cases ho⟩
end Go.Proofs.YthgilhebnlglkaaGreatDoor.V
namespace Go.Proofs.YthgilhebnlglkaaGreatDoor.V
open Go Go.RowKit M U
def z1Y(Q:Exit->Act->World->Prop):Exit->Act->World->Prop
 |.normal,a,w=>Q .normal a w
 |_,_,_=>False
theorem z1Y.imp{Q:Exit->Act->World->Prop}:∀ (e:Exit) (a:Act) (w:World),z1Y Q e a w->Q e a w:=λe a w h=>by
 cases e<;>first|exact h|exact h.elim
section
variable {n l:Nat} {P:Program} {md:Region.Mode} {ops:Array Oper} {Q:Exit->Act->World->Prop}
theorem z8t{o:Oper}{a:Act}{K:Act->World->Prop}(r:Result Next)(h:o.upon P a K (z1Y Q) r):o.uponIn (Fence.wide.inRound l) n P a K (z1Y Q) r:=by
 cases r with
 |ok x w'=>
  cases x with
  |value v=>exact h
  |skip=>exact h
  |defer d=>exact h
  |enter f args=>
   rw[Oper.upon_enter] at h;rw[Oper.uponIn_enter];exact⟨λq=>(by cases q),CallsIn.inRound l (CallsIn.mono (callsIn_wide.2 h) (λe w'' he=>by cases e<;>exact he))⟩
  |row row args=>
   refine⟨λq=>(by cases q),λc cs _=> ?_⟩;obtain⟨v,w'',r,s⟩:=(show Rows P row args w' _ from h) c cs;exact⟨v,w'',r,stepsIn_wide.2 s⟩
  |_=>exact h.elim
 |halt x w'=>cases x<;>first|exact h|exact h.elim
def zeU(ops:Array Oper):Prop:=∀ (j:Nat) (o:Oper),ops[j]? =some o->∀c,o.op≠.defer c
theorem z8U{i:Nat}{a:Act}{w:World}{K K':Act->World->Prop}(hp:zeU ops)(hK:∀a w,K a w->K' a w)(h:wpOp P ops (z1Y Q) i K a w):wpOpIn (Fence.wide.inRound l) n P ops (z1Y Q) i K' a w:=by
 unfold wpOp at h;unfold wpOpIn;cases ho:ops[i]? with
 |none=>rw[ho] at h;exact hK _ _ h
 |some o=>
  rw[ho] at h;have hd:=hp i o ho;simp only at h ⊢;by_cases hw:Region.wanted o (yielded ops a.tmps)=true
  · rw[if_pos hw] at h ⊢
    rcases h with h|⟨_,a',w',h⟩
    · refine⟨λf _=>trivial,?_⟩
      have h2:=z8t (n:=n) (l:=l) _ (Oper.wp_mono (o:=o) (a:=a) (w:=w) hK h);show o.uponIn _ n P a K' (z1Y Q) ((o.semAt (some l) a.eval).run P w)
      rw[Oper.semAt_some l a.eval o hd];exact h2
    · exact h.elim
  · rw[if_neg hw] at h ⊢
    exact⟨λf _=>trivial,hK _ _ h⟩
theorem z3r(hp:zeU ops):∀ (fuel:Nat) (listed:Array Bool) (a:Act) (w:World),wpAny P md ops (z1Y Q) fuel listed a w->wpAnyIn (Fence.wide.inRound l) n P md ops (z1Y Q) fuel listed a w
 |0,listed,a,w,h=>h
 |fuel+1,listed,a,w,h=>⟨h.1,λi hi=>z8U hp (λa w q=>z3r hp fuel _ a w q) (h.2 i hi)⟩
theorem z0N{id:Nat}{S:World->Prop}{a:Act}{w:World}(hm:P.follows .mixedOrders=true)(hp:zeU ops)(hS:S w.drew)
 (h:wpAnyH P .any ops (z1Y Q) S ops.size (Array.replicate ops.size false) a w.drew):(Code.region id ops true).wpIn (Fence.wide.inRound l) n P Q a w:=
 Code.wpIn_mono z1Y.imp (wpIn_region_any hm (z3r hp _ _ _ _ (wpAny_of_held _ _ _ _ h)))
theorem z1M(h:(ops.all λo=>match o.op with|.defer _=>false|_=>true)=true):zeU ops:=λj o ho c e=>by
 rw[Array.all_eq_true_iff_forall_mem] at h;have:=h o (Array.mem_of_getElem? ho);rw[e] at this;cases this
theorem zcP{S:World->Prop}{i fuel:Nat}{oi:Oper}{v:Value}{d:Option Tmp}{listed:Array Bool}{a:Act}{w:World}(hi:ops[i]? =some oi)(hd:oi.dst=d)(hs:Region.noSelect ops=true)(hf:Region.free md ops listed i=true)(hr:(Region.ready md ops listed).contains i=true)
 (hw:Region.wanted oi (yielded ops a.tmps)=true) (hy:∀w,S w->(execOp a.eval oi).run P w=.ok (.value v) w) (hS:S w) (h:wpAnyH P md ops (z1Y Q) S fuel (listed.setIfInBounds i true) (a.put d v) w):wpAnyH P md ops (z1Y Q) S (fuel+1) listed a w:=
 wpAnyH_take hi hs hf hr (λ_ _ _ h=>h) (.inl ⟨hw,hy⟩) hS (by rw[hd];exact h)
end
theorem zi4{w:World}{B p:Nat}{S:Nat->Prop}{most:Int}{V L:Nat}(h:Wt w B p S most V L){j:Nat}(hj:S j)(hp:j≠p){cs:Array Value}{T:TypeId}{fz:Nat×Nat}(he:w.heap[j]? =some (.cells cs T fz))(hT:T≠ 5):False:=by
 obtain⟨ao,c,hw,hS⟩:=h;rcases(hS j).1 hj with q|⟨a,ha,rfl⟩
 · exact hp q
 · subst ha
   rcases hw.own.2 with⟨e,_⟩|⟨g,cap,cur,e,_,hh,_⟩
   · simp at e
   · simp only[Value.slice.injEq,Option.some.injEq] at e
     obtain⟨rfl,_,_⟩:=e;rw[he] at hh;simp only[Option.some.injEq,Obj.cells.injEq] at hh;exact hT hh.2.1
structure Rg8(M p Bx b i yn ye yb cc ss:Nat)(w:World):Prop where
 s0:w.cell? ⟨M,0,none⟩=some (.pointer (some ⟨p,0,none⟩))
 s1:w.cell? ⟨Bx,1,none⟩=some (.int .i64 yn)
 s2:w.cell? ⟨Bx,2,none⟩=some (.int .u32 ye)
 s3:w.cell? ⟨Bx,3,none⟩=some (.int .u8 yb)
 s4:w.cell? ⟨b,i,none⟩=some (.int .u32 cc)
 s5:w.cell? ⟨b,i+1,none⟩=some (.int .u8 ss)
theorem Rg8.kept{M p Bx b i yn ye yb cc ss:Nat}{w w':World}{S:Nat->Prop}(h:Rg8 M p Bx b i yn ye yb cc ss w)(k:Kept S w w')(h1:¬S M)(h2:¬S Bx)(h3:¬S b):Rg8 M p Bx b i yn ye yb cc ss w':=
 ⟨k.cell h.s0 h1,k.cell h.s1 h2,k.cell h.s2 h2,k.cell h.s3 h2,k.cell h.s4 h3,k.cell h.s5 h3⟩
attribute [local go_sem] Oper.semAt_some
theorem zg4{w:World}{B p:Nat}{S:Nat->Prop}{most:Int}{V L:Nat}(h:Wt w B p S most V L):∃R,S R/\S p/\∀j,S j->j=R\/j=p:=by
 obtain⟨ao,c,hw,hS⟩:=h;cases ao with
 |none=>exact⟨p,(hS p).2 (.inl rfl),(hS p).2 (.inl rfl),λj hj=>by
  rcases(hS j).1 hj with q|⟨a,q,_⟩
  · exact .inl q
  · simp at q⟩
 |some a=>exact⟨a.block,(hS _).2 (.inr ⟨a,rfl,rfl⟩),(hS p).2 (.inl rfl),λj hj=>by
  rcases(hS j).1 hj with q|⟨b,q,e⟩
  · exact .inr q
  · cases q;exact .inl e⟩
theorem zi5{w:World}{B p:Nat}{S:Nat->Prop}{most:Int}{V L:Nat}(h:Wt w B p S most V L){j:Nat}(hj:S j)(x y z:Int)(fz:Nat×Nat)(he:w.heap[j]? =some (.cells #[.int .u8 x,.int .i64 y,.int .i64 z] 139 fz)):False:=by
 obtain⟨ao,c,hw,hS⟩:=h;rcases(hS j).1 hj with rfl|⟨a,ha,rfl⟩
 · have c0:=hw.c0
   rw[cell_of_row _ _ 0 _ _ fz he] at c0;cases c0
 · subst ha
   rcases hw.own.2 with⟨e,_⟩|⟨g,cap,cur,e,_,hh,_⟩
   · simp at e
   · simp only[Value.slice.injEq,Option.some.injEq] at e
     obtain⟨rfl,_,_⟩:=e;rw[he] at hh;simp only[Option.some.injEq,Obj.cells.injEq] at hh;have:=hh.2.1
     revert this
     decide
theorem zjO{w w':World}{B p:Nat}{S S0:Nat->Prop}{most:Int}{V L R n₁:Nat}(h:Wt w B p S most V L)(k:Kept S w w')(hs:∀j,S j->S0 j\/n₁<=j)(h0:∀j,S0 j->j=R\/j=p):Kq R p n₁ w w':=
 ⟨k.mono (λj hj=>by
  rcases hs j hj with q|q
  · rcases h0 j q with q|q
    · exact .inl q
    · exact .inr (.inl q)
  · exact .inr (.inr q)),λi x y z fz e=>(k.block i (qW.1 e).1 (λq=>zi5 h q x y z fz e)).trans e⟩
theorem Kq.grown{R p n₁:Nat}{w2 W W':World}{row:Option Nat}(h:Kq R p n₁ w2 W)(hg:W.grownBy W' row)(hr:∀r,row=some r->n₁<=r/\∃o:Obj,W.heap[r]? =some o/\o.isCells=false):Kq R p n₁ w2 W':=
 ⟨h.k.grown hg (λr e=> .inl (.inr (.inr (hr r e).1))),λi x y z fz e=>by
  have q:=h.t i x y z fz e;refine(hg.block i (qW.1 q).1 (λe2=> ?_)).trans q;obtain⟨_,o,ho,hc⟩:=hr i e2.symm;rw[q] at ho;cases ho;cases hc⟩
structure zhX(w2:World)(B p R:Nat)(S:Nat->Prop)(most:Int)(V o:Nat)(X:List Nat)(F:Sy->List Nat)(pre:List Oy)(W:World):Prop where
 wr:∃S',Wt W B p S' most (V+nb (X++(pre.map (·.1)).flatMap F)*2^o) (o+(X++(pre.map (·.1)).flatMap F).length)/\∀j,S' j->S j\/w2.heap.size<=j
 kp:Kq R p w2.heap.size w2 W
 fit:pre≠[]->(((o+(X++(pre.map (·.1)).flatMap F).length+7) /8:Nat):Int)<=most
theorem zhX.own{w2:World}{B p R:Nat}{S:Nat->Prop}{most:Int}{V o:Nat}{X:List Nat}{F:Sy->List Nat}:OwnFrom w2.heap.size (zhX w2 B p R S most V o X F):=λpre W W' row hs hg hr=>by
 obtain⟨⟨S',h1,h2⟩,h3,h4⟩:=hs;exact⟨⟨S',z6W h1 hg (λr e=>(hr r e).2),h2⟩,h3.grown hg hr,h4⟩
structure IxW(w2:World)(M:Nat)(S:Nat->Prop)(most:Int)(o:Nat)(X:List Nat)(F:Sy->List Nat)(c:Code)(pre:List Oy)(W:World):Prop where
 ret:c=.ret
 res:W.heap[M+1+1]? =some (.cells #[.int .i64 4] 27 (0,0))
 kp:Kept (λj=>S j\/M<=j) w2 W
 no:¬(((o+(X++(pre.map (·.1)).flatMap F).length+7) /8:Nat):Int)<=most
theorem IxW.own{w2:World}{M:Nat}{S:Nat->Prop}{most:Int}{o:Nat}{X:List Nat}{F:Sy->List Nat}{c:Code}(hM:M+1+1<w2.heap.size):OwnFrom w2.heap.size (IxW w2 M S most o X F c):=λpre W W' row hs hg hr=>by
 obtain⟨h1,h2,h3,h4⟩:=hs;exact⟨h1,(hg.block (M+1+1) (qW.1 h2).1 (λe=>by have:=(hr (M+1+1) e.symm).1;omega)).trans h2,h3.grown hg (λr e=> .inl (.inr (by have:=(hr r e).1;omega))),h4⟩
theorem zcE{w:World}{B p:Nat}{S:Nat->Prop}{most:Int}{V o:Nat}{X:List Nat}(A:Option Addr)(n c:Nat)(L:List Tk)(A1 A2:Option Addr)(n1 c1 c2:Nat)(l1 l2:Nat->Nat)(h:Wt w B p S most (V+nb X*2^o) (o+X.length))(HT:Y.Tab w)(hL:z0j w A n L)(hmay:∀t∈L,may t=true)(hn:n<=100000)
 (hg:∀g,g= 2 \/g= 3 ->g<B) (hA:∀b q,A=some ⟨b,q,none⟩->0<n->b<B)
 (H1:z0e w .u8 A1 n1 (λi=>(l1 i:Int))) (H2:z0e w .u8 A2 30 (λi=>(l2 i:Int))) (hn1:286<=n1) (hn2:n1<=1000) (F1:z9p l1 n1) (F2:z9p l2 30) (h1:∀i,l1 i<=15) (h2:∀i,l2 i<=15) (hLo:o+X.length<=100000000) (hst:z9m L):
 Calls prog 206 #[.pointer (some ⟨p,0,none⟩),.slice A n c,.agg #[.slice A1 n1 c1,.slice A2 30 c2]] w (Put w B p S most V o X ((sys L).flatMap (wsy l1 n1 l2 30))):=by
 obtain⟨HH,HTt,HLt,HMay,HSt⟩:=qh5 h HT hL hmay hst;have HN:=qH (show(sys L).length<=200001 from by have:=z2U L;have:=hL.leng;omega);have HW1:=qH (show ∀W,Below w.heap.size w W->Calls prog 247 #[.slice A1 n1 c1] W (z4Y W n1 l1) from λW b=>z1u A1 n1 c1 l1 W hn2 (by omega) F1 (H1.below b));have HW2:=qH (show ∀W,Below w.heap.size w W->Calls prog 247 #[.slice A2 30 c2] W (z4Y W 30 l2) from λW b=>z1u A2 30 c2 l2 W (by omega) (by omega) F2 (H2.below b));have hBw:B<=w.heap.size:=(by have:=h.lt h.self;omega);obtain⟨R,hSR,hSp,hRp⟩:=zg4 h;obtain⟨HRp,HL1,HL2,HG,HA⟩:=qh5 hRp h1 h2 hg hA;obtain⟨wb,hwb⟩:∃wb,((w.alloc (.cells #[.pointer (some ⟨p,0,none⟩)] 161)).alloc (.cells #[.slice A1 n1 c1,.slice A2 30 c2] 149)).alloc (.cells #[.int .i64 0] 27)=wb:=⟨_,rfl⟩
 have hzb:wb.heap.size=w.heap.size+1+1+1:=(by rw[<-hwb];simp);have hbb:Below w.heap.size w wb:=(by rw[<-hwb];exact(((Below.refl _ w).alloc qR _).alloc (by simp) _).alloc (by simp;omega) _);have g0:wb.heap[w.heap.size]? =some (.cells #[.pointer (some ⟨p,0,none⟩)] 161 (0,0)):=(by rw[<-hwb];exact old_at _ (old_at _ (new_at _ _)));have g1:wb.heap[w.heap.size+1]? =some (.cells #[.slice A1 n1 c1,.slice A2 30 c2] 149 (0,0)):=by
  rw[<-hwb];have:=old_at (.cells #[.int .i64 0] 27) (new_at (w.alloc (.cells #[.pointer (some ⟨p,0,none⟩)] 161)) (.cells #[.slice A1 n1 c1,.slice A2 30 c2] 149));rw[World.size_alloc] at this;exact this
 have g2:wb.heap[w.heap.size+1+1]? =some (.cells #[.int .i64 0] 27 (0,0)):=by
  rw[<-hwb];have:=new_at ((w.alloc (.cells #[.pointer (some ⟨p,0,none⟩)] 161)).alloc (.cells #[.slice A1 n1 c1,.slice A2 30 c2] 149)) (.cells #[.int .i64 0] 27);rw[World.size_alloc,World.size_alloc] at this;exact this
 generalize hM:w.heap.size=M at hzb hbb g0 g1 g2 hBw;obtain⟨HBb,HZb,HG0,HG1,HG2,HM,HWb⟩:=qh7 hbb hzb g0 g1 g2 hM hwb;clear h HT hL hmay hst H1 H2 F1 F2 hRp h1 h2 hg hA hzb hbb g0 g1 g2 hwb;refine(callsIn_wide (n:=5)).1 ?_
 refine callsIn_of_wp_marks func206 rfl trivial ?_ rfl;simp only[ntmps206,List.size_toArray,qC,List.length_nil,Nat.reduceAdd,Nat.reduceSub,Array.replicate_succ,Array.replicate_zero,List.push_toArray,List.append_toArray,List.nil_append,List.cons_append]
 gi_wp2_with (first
  |(refine⟨trivial,?_⟩;gi_at_call 248;refine(callsIn_wide.2 (z5t _ _ _ _)).mono ?_;rintro e w' ⟨rfl,rfl⟩)
  |(refine⟨trivial,?_⟩;gi_at_call 247;rw[HWb.o];refine(callsIn_wide.2 (HW1.o wb (by rw[HM.o];exact HBb.o))).mono ?_;rintro e w1 ⟨b1,d1,rfl,hb1,hcr1,hbl1⟩
    obtain⟨HBb1,HC1⟩:=qh2 hb1 hcr1;have HBl1:=qH (hbl1.alloc hbl1.size (.cells #[.slice (some ⟨b1,0,none⟩) n1 d1] 207));have HP1:=qH (new_at w1 (.cells #[.slice (some ⟨b1,0,none⟩) n1 d1] 207));have k1:(w1.alloc (.cells #[.slice (some ⟨b1,0,none⟩) n1 d1] 207)).cell? ⟨M+1,1,none⟩=some (.slice A2 30 c2):=by
     exact cell_of_row _ _ 1 _ _ (0,0) ((HBl1.o.block (M+1) (by have:=HZb.o;omega)).trans HG1.o)
    clear hb1 hcr1 hbl1)
  |(refine⟨trivial,?_⟩;gi_at_call 247;refine(callsIn_wide.2 (HW2.o _ (by rw[HM.o];exact HBb.o.trans (HBl1.o.mono (by have:=HZb.o;omega))))).mono ?_;rintro e w3 ⟨b2,d2,rfl,hb2,hcr2,hbl2⟩
    obtain⟨HBb2,HC2⟩:=qh2 hb2 hcr2;have HBl2:=qH (hbl2.alloc hbl2.size (.cells #[.slice (some ⟨b2,0,none⟩) 30 d2] 207));have HP2:=qH (new_at w3 (.cells #[.slice (some ⟨b2,0,none⟩) 30 d2] 207));clear hb2 hcr2 hbl2 k1))
 obtain⟨P1,hP1⟩:∃P1,w1.heap.size=P1:=⟨_,rfl⟩
 obtain⟨P2,hP2⟩:∃P2,w3.heap.size=P2:=⟨_,rfl⟩
 obtain⟨wa,hwa⟩:∃wa,w1.alloc (.cells #[.slice (some ⟨b1,0,none⟩) n1 d1] 207)=wa:=⟨_,rfl⟩
 obtain⟨wc,hwc⟩:∃wc,w3.alloc (.cells #[.slice (some ⟨b2,0,none⟩) 30 d2] 207)=wc:=⟨_,rfl⟩
 obtain⟨w2,hw2⟩:∃w2,wc.alloc (.cells #[.slice A n c] 92)=w2:=⟨_,rfl⟩
 have sa:wa.heap.size=P1+1:=(by rw[<-hwa,<-hP1];simp);have sc:wc.heap.size=P2+1:=(by rw[<-hwc,<-hP2];simp);have hz2:w2.heap.size=P2+1+1:=(by rw[<-hw2,<-sc];simp);have ba:=HBl1.o;have bc:=HBl2.o;have p1:=HP1.o;have p2:=HP2.o;rw[hwa] at ba bc p1;rw[hwc] at bc p2;rw[hP1] at p1;rw[hP2] at p2;have bd:Below wc.heap.size wc w2:=(by rw[<-hw2];exact qL);have zb:=HZb.o;have hb1:=HBb1.o;have hb2:=HBb2.o;have hb1l:b1<P1:=(by rw[<-hP1];exact HC1.o.lt);have hb2l:b2<P2:=(by rw[<-hP2];exact HC2.o.lt);rw[hwa] at hb2;have bsz:=ba.size;have csz:=bc.size;have bM:Below M w w2:=((HBb.o.trans (ba.mono (by omega))).trans (bc.mono (by omega))).trans (bd.mono (by omega));have bX:Below wb.heap.size wb w2:=(ba.trans (bc.mono (by omega))).trans (bd.mono (by omega));have bY:Below wa.heap.size wa w2:=bc.trans (bd.mono (by omega));have g0:w2.heap[M]? =some (.cells #[.pointer (some ⟨p,0,none⟩)] 161 (0,0)):=(bX.block M (by omega)).trans HG0.o;have g2:w2.heap[M+1+1]? =some (.cells #[.int .i64 0] 27 (0,0)):=(bX.block (M+1+1) (by omega)).trans HG2.o;have gp1:w2.heap[P1]? =some (.cells #[.slice (some ⟨b1,0,none⟩) n1 d1] 207 (0,0)):=(bY.block P1 (by omega)).trans p1;have gp2:w2.heap[P2]? =some (.cells #[.slice (some ⟨b2,0,none⟩) 30 d2] 207 (0,0)):=(bd.block P2 (by omega)).trans p2;have gp3:w2.heap[P2+1]? =some (.cells #[.slice A n c] 92 (0,0)):=(by rw[<-hw2,<-sc];exact new_at _ _);have cr1:C.Crow w2 b1 n1 (C.rc l1 n1) l1:=by
  have q:C.Crow wa b1 n1 (C.rc l1 n1) l1:=(by rw[<-hwa];exact HC1.o.alloc _);exact Crow.at' q (bY.block b1 (by omega))
 have cr2:C.Crow w2 b2 30 (C.rc l2 30) l2:=by
  have q:C.Crow wc b2 30 (C.rc l2 30) l2:=(by rw[<-hwc];exact HC2.o.alloc _);exact Crow.at' q (bd.block b2 (by omega))
 rw[hwc,hw2,hP1,hP2];have hRB:B<=R/\R<M:=(by have:=HH.o.lt hSR;rw[HM.o] at this;exact this);have hpB:B<=p/\p<M:=(by have:=HH.o.lt hSp;rw[HM.o] at this;exact this);have hgl:=HG.o;have hT2:=HTt.o.below bM (by rw[HM.o];exact qR);have hL2:=HLt.o.below (by rw[HM.o];exact bM);have hA2:∀b q,A=some ⟨b,q,none⟩->0<n->b<w2.heap.size/\b≠R/\b≠p:=λb q e hp=>by
  have:=HA.o b q e hp;omega
 obtain⟨HZ2,HG0,HG2,HGp1,HGp2,HCr1,HCr2⟩:=qh7 hz2 g0 g2 gp1 gp2 cr1 cr2;have HOr:=qH (show M+3<=b1/\b1<P1/\P1<b2/\b2<P2 from by omega);have HSl:=qH (show ∀j,S j->B<=j/\j<M from λj hj=>by have:=HH.o.lt hj;rw[HM.o] at this;exact this);have HWt2:=qH (HH.o.keep (Kept.of_below (by rw[HM.o];exact bM)) (λj _ q=>q));have HKf:=qH (show ∀W',Kept (λj=>S j\/M<=j) w2 W'->Kept S w W' from λW' k=>(z0r S (by rw[HM.o];exact bM)).trans k (λj hj=>hj.imp_right (λq=>by have:=HM.o;omega)));obtain⟨F,hF⟩:∃F,wsy l1 n1 l2 30=F:=⟨_,rfl⟩
 have HFe:=qH hF;rw[hF];obtain⟨HRB,HPB⟩:=qh2 hRB hpB;have hs0:P2+1<w2.heap.size:=(by omega);have hs1:P2+1≠R:=(by omega);have hs2:P2+1≠p:=(by omega);have hs3:∀g,g= 2 \/g= 3 ->g<w2.heap.size/\g≠R/\g≠p:=λg hg=>by
  have:=hgl g hg;omega
 clear HC1 HC2 HBl1 HBl2 HP1 HP2 HBb1 HBb2 HZb HG1 HWb HBb ba bc p1 p2 bd zb hb1 hb2 hb1l hb2l bsz csz bM bX bY g0 g2 gp1 gp2 cr1 cr2 sa sc hwa hwc hw2 hP1 hP2 hF hRB hpB hgl hz2
 refine wpIn_rangeFunc_ownH rfl (by omega) (gf:= 282) (lb:= #[.pointer (some ⟨P2+1,0,none⟩)]) rfl trivial (enters_of func282 (by kernel_rfl) rfl)
  (HSt.o 4 (P2+1) R p w2.heap.size n c A (by omega) (by omega) hs0 hs1 hs2 hs3 w2 qR (one_cell gp3) hL2 HMay.o hA2 hT2)
  (λh k=>h.trans k) (λW l o o' hl h hc _=>Kq.book W l o o' hl h hc) (Below.refl _ _) (λ_=>rfl)
  (zhX w2 B p R S most V o X F) (IxW w2 M S most o X F) zhX.own (λc=>IxW.own (by have:=HZ2.o;have:=HOr.o;omega))
  ⟨⟨S,by simpa using HWt2.o,λj hj=> .inl hj⟩,Kq.refl _,λq=>absurd rfl q⟩
  (AxC w2.heap.size (λx Bx=> {tmps:= #[.pointer (some ⟨p,0,none⟩),.slice A n c,.agg #[.slice A1 n1 c1,.slice A2 30 c2],.pointer (some ⟨M,0,none⟩),undef,.pointer (some ⟨M+1,0,none⟩),.pointer (some ⟨M+1+1,0,none⟩),.pointer (some ⟨P1,0,none⟩),.int .i64 0,.pointer (some ⟨P2,0,none⟩),.int .i64 0,.pointer (some ⟨Bx,0,none⟩),undef,undef,.tuple #[.slice (some ⟨b1,0,none⟩) n1 d1,.int .i64 0],.pointer (some ⟨M+1,0,none⟩),.slice A1 n1 c1,.tuple #[.slice (some ⟨b1,0,none⟩) n1 d1,.int .i64 0],.slice (some ⟨b1,0,none⟩) n1 d1,.int .i64 0,.tuple #[.slice (some ⟨b2,0,none⟩) 30 d2,.int .i64 0],.pointer (some ⟨M+1,1,none⟩),.slice A2 30 c2,.tuple #[.slice (some ⟨b2,0,none⟩) 30 d2,.int .i64 0],.slice (some ⟨b2,0,none⟩) 30 d2,.int .i64 0,.slice A n c,.func (.func 282) #[] #[.pointer (some ⟨P2+1,0,none⟩)],sgv x.1,undef,undef,undef,undef,undef,undef,undef,undef,undef,undef,undef,undef,undef,undef,undef,undef,undef],defers:=[]}))
  (λx a'=>AxC.own)
  ?assign ?body ?done ?stop
 case assign=>
  rintro l pre x W K hm hK;have HK:=qH (λ(a':Act) (W':World) (h1:KeepsFrom w2.heap.size W W') (h2:Kq R p w2.heap.size W W') (h3:zhX w2 B p R S most V o X F pre W') h4=>hK a' W' h1 h2 h3 h4);have HMd:=qH hm;clear hK hm gp3 hA2 hT2 hL2 hs0 hs1 hs2 hs3;obtain⟨⟨yd,yn,ye,yb⟩,hy⟩:=x;unfold zjc sgv;gi_wp2;exact HK.o _ _ ((KeepsOthers.alloc _ _).from _) (Kq.alloc _ _) (zhX.own.alloc _ HMd.o) ⟨W.heap.size,HMd.o.kp.k.size,new_at _ _,rfl⟩
 case body=>
  rintro l' pre x a' W hl' ⟨r,hr⟩ hm ⟨Bx,hBx,hR,rfl⟩ hlt;obtain⟨⟨S',hw,hsub⟩,hkp,hfit⟩:=hm;have hzz:=HZ2.o;have hor:=HOr.o;have hrb:=HRB.o;have hpb:=HPB.o;have hns:∀j,j<w2.heap.size->M<=j->¬Sx R p w2.heap.size j:=λj h1 h2=>sx_no h1 (by omega) (by omega)
  have c0:=one_cell ((hkp.k.block M (by omega) (hns M (by omega) (by omega))).trans HG0.o);have cp1:=one_cell ((hkp.k.block P1 (by omega) (hns P1 (by omega) (by omega))).trans HGp1.o);have cp2:=one_cell ((hkp.k.block P2 (by omega) (hns P2 (by omega) (by omega))).trans HGp2.o);have HG2W:=qH ((hkp.k.block (M+1+1) (by omega) (hns (M+1+1) (by omega) (by omega))).trans HG2.o);have cr1:C.Crow W b1 n1 (C.rc l1 n1) l1:=Crow.at' HCr1.o (hkp.k.block b1 (by omega) (hns b1 (by omega) (by omega)));have cr2:C.Crow W b2 30 (C.rc l2 30) l2:=Crow.at' HCr2.o (hkp.k.block b2 (by omega) (hns b2 (by omega) (by omega)));have HNs:=qH (show ¬S' (M+1+1) from λq=>by
   rcases hsub _ q with q|q
   · have:=HSl.o _ q;omega
   · omega)
  have HNb:=qH (show ∀j,j<w2.heap.size->M<=j->¬S' j from λj h1 h2 q=>by
   rcases hsub _ q with q|q
   · have:=HSl.o _ q;omega
   · omega)
  have HNm:=qH (HNb.o M (by omega) (by omega));have HNx2:=qH (show ¬S' Bx from λq=>zi4 hw q (by omega) hR (by decide));have HWz:=qH (show w2.heap.size<=W.heap.size from hkp.k.size);obtain⟨y,hy⟩:=x;have hlp:pre.length<=200001:=(by have:=HN.o;omega);obtain⟨Xp,hXp⟩:∃Xp,X++(pre.map (·.1)).flatMap F=Xp:=⟨_,rfl⟩
  have hlen:o+Xp.length<=800000000:=by
   have h1:=z4h l1 n1 l2 30 (λi=>qK (HL1.o i) (by omega)) (λi=>qK (HL2.o i) (by omega)) (pre.map (·.1)) (λy hy=>by
    obtain⟨z,_,rfl⟩:=List.mem_map.1 hy;exact z.2.2.1)
   rw[HFe.o,List.length_map] at h1;rw[<-hXp,qA];omega
  have hnx:X++((pre++[(⟨y,hy⟩:Oy)]).map (·.1)).flatMap F=Xp++F y:=by
   rw[List.map_append,List.flatMap_append,<-qD,hXp];simp
  rw[hXp] at hw;have hy0:=hy.1.1;have hy1:=hy.1.2;have hy2:=hy.2.1;have hy3:=hy.2.2.2;obtain⟨HNx,HWt,HSub,HKp,HLe⟩:=qh5 hnx hw hsub hkp hlen;have hmx: prog.follows .mixedOrders=true:=(by kernel_rfl);have HMid:=qH (show ∀wk w1 S2,Below W.heap.size W wk->(((o+(Xp++F y).length+7) /8:Nat):Int)<=most->Wt w1 B p S2 most (V+nb (Xp++F y)*2^o) (o+(Xp++F y).length)->Kept S' wk w1->(∀j,S2 j->S' j\/wk.heap.size<=j)->KeepsFrom w2.heap.size W w1/\Kq R p w2.heap.size W w1/\zhX w2 B p R S most V o X F (pre++[(⟨y,hy⟩:Oy)]) w1 from λwk w1 S2 bk hM1 h2 k2 i2=>by
   have k:=(z0r S' bk).trans k2 (λj hj=> .inl hj);have kq:=zjO HWt.o k HSub.o HRp.o;exact⟨(z38 HWt.o k).from _,kq,⟨S2,by rw[HNx.o];exact h2,λj hj=>by
    rcases i2 j hj with q|q
    · exact HSub.o j q
    · right;have:=HWz.o;have:=bk.size;omega⟩,HKp.o.trans kq,λ_=>by rw[HNx.o];exact hM1⟩)
  have HEnd:=qH (show ∀wk w1,Below W.heap.size W wk->¬(((o+(Xp++F y).length+7) /8:Nat):Int)<=most->Kept S' wk w1->w1.heap[M+1+1]? =some (.cells #[.int .i64 0] 27 (0,0))/\∀v,v=Value.int .i64 4->KeepsFrom w2.heap.size W (w1.setCell ⟨M+1+1,0,none⟩ v)/\IxW w2 M S most o X F .ret (pre++[(⟨y,hy⟩:Oy)]) (w1.setCell ⟨M+1+1,0,none⟩ v) from λwk w1 bk hM1 k1=>by
   have hz4:=HWz.o;have k:=(z0r S' bk).trans k1 (λj hj=> .inl hj);have g:=(k.block (M+1+1) (by omega) HNs.o).trans HG2W.o;refine⟨g,λv hv=>⟨((z38 HWt.o k).trans (KeepsOthers.setCell _ _ _)).from _,rfl,by rw[hv];exact one_set g _,?_,by rw[HNx.o];exact hM1⟩⟩;have hk0:Kept (λj=>S j\/M<=j) w2 W:=HKp.o.k.mono (λj hj=>by
    rcases hj with q|q|q
    · exact .inl (q▸hSR)
    · exact .inl (q▸hSp)
    · right;omega)
   have hk3:Kept (λj=>S j\/M<=j) w2 w1:=hk0.trans k (λj hj=>by
    rcases HSub.o j hj with q|q
    · exact .inl (.inl q)
    · exact .inr q)
   exact hk3.setCell ⟨M+1+1,0,none⟩ (.inl (.inr (by show M<=M+1+1;omega))) _)
  obtain⟨yd,yn,ye,yb⟩:=y;simp only at hR hy0 hy1 hy2 hy3;unfold sgv;dsimp only;have q0:W.cell? ⟨Bx,0,none⟩=some (.bool yd):=cell_of_row _ _ 0 _ _ (0,0) hR;have q1:W.cell? ⟨Bx,1,none⟩=some (.int .i64 yn):=cell_of_row _ _ 1 _ _ (0,0) hR;have q2:W.cell? ⟨Bx,2,none⟩=some (.int .u32 ye):=cell_of_row _ _ 2 _ _ (0,0) hR;have q3:W.cell? ⟨Bx,3,none⟩=some (.int .u8 yb):=cell_of_row _ _ 3 _ _ (0,0) hR;clear hkp hfit hzz hor hrb hpb hns hlp hXp hlen hnx hr hlt gp3 hA2 hT2 hL2 hs0 hs1 hs2 hs3 hl' hsub hR;cases yd
  case' false=>
   have hyn:yn<n1:=(by have:=hy0 rfl;omega);have hyn2:(yn:Int)<n1:=(by omega);have m0:=cr1.cell1 hyn;have m1:=cr1.cell2 hyn;have hcc2:=C.rc_lt l1 n1 yn;have hss2:=HL1.o yn;have hfy:F ⟨false,yn,ye,yb⟩=([(C.rc l1 n1 yn,l1 yn),(ye,yb)]:List Cd).flatMap cbs:=by
    rw[<-HFe.o];unfold wsy cbs C.rc;simp[z7o]
   obtain⟨cc,hcc⟩:∃cc,C.rc l1 n1 yn=cc:=⟨_,rfl⟩
   obtain⟨ss,hss⟩:∃ss,l1 yn=ss:=⟨_,rfl⟩
   rw[hcc] at m0 hcc2 hfy;rw[hss] at m1 hcc2 hss2 hfy;have bk:Below W.heap.size W ((W.alloc (.cells #[.int .u32 (cc:Int),.int .u8 (ss:Int),.int .u32 (ye:Int),.int .u8 (yb:Int)] 216)).drew):=((Below.refl _ W).alloc qR _).drew;have HS0:=qH (show Rg8 M p Bx b1 (yn*2) yn ye yb cc ss W.drew from⟨c0,q1,q2,q3,m0,m1⟩);have HS1:=qH (show Rg8 M p Bx b1 (yn*2) yn ye yb cc ss ((W.alloc (.cells #[.int .u32 (cc:Int),.int .u8 (ss:Int),.int .u32 (ye:Int),.int .u8 (yb:Int)] 216)).drew) from HS0.o.kept ((Kept.refl NoB W.drew).alloc (.cells #[.int .u32 (cc:Int),.int .u8 (ss:Int),.int .u32 (ye:Int),.int .u8 (yb:Int)] 216)) (λq=>q) (λq=>q) (λq=>q));have HKs:=qH (show ∀w5,Kept S' ((W.alloc (.cells #[.int .u32 (cc:Int),.int .u8 (ss:Int),.int .u32 (ye:Int),.int .u8 (yb:Int)] 216)).drew) w5->Rg8 M p Bx b1 (yn*2) yn ye yb cc ss w5 from λw5 k=>HS1.o.kept k HNm.o HNx2.o (HNb.o b1 (by have:=HOr.o;have:=HZ2.o;omega) (by have:=HOr.o;omega)));have HBk:=qH bk;have hpw:=z24 (w:=(W.alloc (.cells #[.int .u32 (cc:Int),.int .u8 (ss:Int),.int .u32 (ye:Int),.int .u8 (yb:Int)] 216)).drew) (some ⟨W.heap.size,0,none⟩) 2 2 [(cc,ss),(ye,yb)] (HWt.o.keep (Kept.of_below bk) (λj _ q=>q)) (z0k.of_row (heap_alloc_new W _) rfl rfl) (zaS HWt.o qR) (λc hc=>by
    simp only[List.mem_cons,List.not_mem_nil,or_false] at hc;rcases hc with rfl|rfl
    · exact⟨hcc2,by show ss<=16;omega⟩
    · exact⟨hy3,by show yb<=16;omega⟩) (by omega) (by omega) HLe.o
   rw[<-hfy] at hpw;unfold Put at hpw;have HPw:=qH hpw;by_cases hm:(((o+(Xp++F ⟨false,yn,ye,yb⟩).length+7) /8:Nat):Int)<=most
   case' pos=>
    have HR:=qH (λw5 S2 h2 k2 i2=>HMid.o _ w5 S2 HBk.o hm h2 k2 i2);have HM1:=qH hm;clear bk hpw hm hw hy0 hy1 hy2 hy3 hcc hss hcc2 hss2 hfy cr1 cr2;gi_wp2;refine z0N (S:=Rg8 M p Bx b1 (yn*2) yn ye yb cc ss) hmx (z1M (by kernel_rfl)) HS0.o ?_
   case' neg=>
    have HR:=qH (λw5 k1=>HEnd.o _ w5 HBk.o hm k1);have HM1:=qH hm;clear bk hpw hm hw hy0 hy1 hy2 hy3 hcc hss hcc2 hss2 hfy cr1 cr2;gi_wp2;refine z0N (S:=Rg8 M p Bx b1 (yn*2) yn ye yb cc ss) hmx (z1M (by kernel_rfl)) HS0.o ?_
  case' true=>
   have hyn:yn<30:=hy1 rfl;have hyn2:(yn:Int)<30:=(by omega);have m0:=cr2.cell1 hyn;have m1:=cr2.cell2 hyn;have hcc2:=C.rc_lt l2 30 yn;have hss2:=HL2.o yn;have hfy:F ⟨true,yn,ye,yb⟩=([(C.rc l2 30 yn,l2 yn),(ye,yb)]:List Cd).flatMap cbs:=by
    rw[<-HFe.o];unfold wsy cbs C.rc;simp[z7o]
   obtain⟨cc,hcc⟩:∃cc,C.rc l2 30 yn=cc:=⟨_,rfl⟩
   obtain⟨ss,hss⟩:∃ss,l2 yn=ss:=⟨_,rfl⟩
   rw[hcc] at m0 hcc2 hfy;rw[hss] at m1 hcc2 hss2 hfy;have bk:Below W.heap.size W ((W.alloc (.cells #[.int .u32 (cc:Int),.int .u8 (ss:Int),.int .u32 (ye:Int),.int .u8 (yb:Int)] 216)).drew):=((Below.refl _ W).alloc qR _).drew;have HS0:=qH (show Rg8 M p Bx b2 (yn*2) yn ye yb cc ss W.drew from⟨c0,q1,q2,q3,m0,m1⟩);have HS1:=qH (show Rg8 M p Bx b2 (yn*2) yn ye yb cc ss ((W.alloc (.cells #[.int .u32 (cc:Int),.int .u8 (ss:Int),.int .u32 (ye:Int),.int .u8 (yb:Int)] 216)).drew) from HS0.o.kept ((Kept.refl NoB W.drew).alloc (.cells #[.int .u32 (cc:Int),.int .u8 (ss:Int),.int .u32 (ye:Int),.int .u8 (yb:Int)] 216)) (λq=>q) (λq=>q) (λq=>q));have HKs:=qH (show ∀w5,Kept S' ((W.alloc (.cells #[.int .u32 (cc:Int),.int .u8 (ss:Int),.int .u32 (ye:Int),.int .u8 (yb:Int)] 216)).drew) w5->Rg8 M p Bx b2 (yn*2) yn ye yb cc ss w5 from λw5 k=>HS1.o.kept k HNm.o HNx2.o (HNb.o b2 (by have:=HOr.o;have:=HZ2.o;omega) (by have:=HOr.o;omega)));have HBk:=qH bk;have hpw:=z24 (w:=(W.alloc (.cells #[.int .u32 (cc:Int),.int .u8 (ss:Int),.int .u32 (ye:Int),.int .u8 (yb:Int)] 216)).drew) (some ⟨W.heap.size,0,none⟩) 2 2 [(cc,ss),(ye,yb)] (HWt.o.keep (Kept.of_below bk) (λj _ q=>q)) (z0k.of_row (heap_alloc_new W _) rfl rfl) (zaS HWt.o qR) (λc hc=>by
    simp only[List.mem_cons,List.not_mem_nil,or_false] at hc;rcases hc with rfl|rfl
    · exact⟨hcc2,by show ss<=16;omega⟩
    · exact⟨hy3,by show yb<=16;omega⟩) (by omega) (by omega) HLe.o
   rw[<-hfy] at hpw;unfold Put at hpw;have HPw:=qH hpw;by_cases hm:(((o+(Xp++F ⟨true,yn,ye,yb⟩).length+7) /8:Nat):Int)<=most
   case' pos=>
    have HR:=qH (λw5 S2 h2 k2 i2=>HMid.o _ w5 S2 HBk.o hm h2 k2 i2);have HM1:=qH hm;clear bk hpw hm hw hy0 hy1 hy2 hy3 hcc hss hcc2 hss2 hfy cr1 cr2;gi_wp2;refine z0N (S:=Rg8 M p Bx b2 (yn*2) yn ye yb cc ss) hmx (z1M (by kernel_rfl)) HS0.o ?_
   case' neg=>
    have HR:=qH (λw5 k1=>HEnd.o _ w5 HBk.o hm k1);have HM1:=qH hm;clear bk hpw hm hw hy0 hy1 hy2 hy3 hcc hss hcc2 hss2 hfy cr1 cr2;gi_wp2;refine z0N (S:=Rg8 M p Bx b2 (yn*2) yn ye yb cc ss) hmx (z1M (by kernel_rfl)) HS0.o ?_
  all_goals
   refine zcP (i:=0) (d:=some 33) (v:= ?_) rfl rfl (by kernel_rfl) (by kernel_rfl) (by kernel_rfl) (by rfl) (λw' hs=> ?_) HS0.o ?_
   rotate_left
   · (obtain⟨s0,s1,s2,s3,s4,s5⟩:=hs;go_simp;(try with_reducible rfl))
   (try simp only[Act.put,List.setIfInBounds_toArray,List.set_cons_zero,List.set_cons_succ])
   refine zcP (i:=1) (d:=some 34) (v:= ?_) rfl rfl (by kernel_rfl) (by kernel_rfl) (by kernel_rfl) (by rfl) (λw' hs=> ?_) HS0.o ?_
   rotate_left
   · (obtain⟨s0,s1,s2,s3,s4,s5⟩:=hs;go_simp;(try with_reducible rfl))
   (try simp only[Act.put,List.setIfInBounds_toArray,List.set_cons_zero,List.set_cons_succ])
   refine zcP (i:=2) (d:=some 35) (v:= ?_) rfl rfl (by kernel_rfl) (by kernel_rfl) (by kernel_rfl) (by rfl) (λw' hs=> ?_) HS0.o ?_
   rotate_left
   · (obtain⟨s0,s1,s2,s3,s4,s5⟩:=hs;go_simp;(try with_reducible rfl))
   (try simp only[Act.put,List.setIfInBounds_toArray,List.set_cons_zero,List.set_cons_succ])
   refine zcP (i:=3) (d:=some 36) (v:= ?_) rfl rfl (by kernel_rfl) (by kernel_rfl) (by kernel_rfl) (by rfl) (λw' hs=> ?_) HS0.o ?_
   rotate_left
   · (obtain⟨s0,s1,s2,s3,s4,s5⟩:=hs;go_simp;(try with_reducible rfl))
   (try simp only[Act.put,List.setIfInBounds_toArray,List.set_cons_zero,List.set_cons_succ])
   refine zcP (i:=4) (d:=some 37) (v:= ?_) rfl rfl (by kernel_rfl) (by kernel_rfl) (by kernel_rfl) (by rfl) (λw' hs=> ?_) HS0.o ?_
   rotate_left
   · (obtain⟨s0,s1,s2,s3,s4,s5⟩:=hs;go_simp;(try with_reducible rfl))
   (try simp only[Act.put,List.setIfInBounds_toArray,List.set_cons_zero,List.set_cons_succ])
   refine zcP (i:=5) (d:=some 38) (v:= ?_) rfl rfl (by kernel_rfl) (by kernel_rfl) (by kernel_rfl) (by rfl) (λw' hs=> ?_) HS0.o ?_
   rotate_left
   · (obtain⟨s0,s1,s2,s3,s4,s5⟩:=hs;go_simp;(try with_reducible rfl))
   (try simp only[Act.put,List.setIfInBounds_toArray,List.set_cons_zero,List.set_cons_succ])
   refine zcP (i:=6) (d:=some 39) (v:= ?_) rfl rfl (by kernel_rfl) (by kernel_rfl) (by kernel_rfl) (by rfl) (λw' hs=> ?_) HS0.o ?_
   rotate_left
   · (obtain⟨s0,s1,s2,s3,s4,s5⟩:=hs;go_simp;(try with_reducible rfl))
   (try simp only[Act.put,List.setIfInBounds_toArray,List.set_cons_zero,List.set_cons_succ])
   refine zcP (i:=7) (d:=some 40) (v:= ?_) rfl rfl (by kernel_rfl) (by kernel_rfl) (by kernel_rfl) (by rfl) (λw' hs=> ?_) HS0.o ?_
   rotate_left
   · (obtain⟨s0,s1,s2,s3,s4,s5⟩:=hs;go_simp;(try with_reducible rfl))
   (try simp only[Act.put,List.setIfInBounds_toArray,List.set_cons_zero,List.set_cons_succ])
   refine wpAnyH_ready (rs:=[8]) (by kernel_rfl) (by simp) (AllReadyH.cons rfl (λK hK=> ?_) AllReadyH.nil);go_simp;refine hK.out _ _ HS1.o (λ_=> ?_);clear hK K
   (try simp only[Act.put,List.setIfInBounds_toArray,List.set_cons_zero,List.set_cons_succ])
   refine wpAnyH_ready (rs:=[9]) (by kernel_rfl) (by simp) (AllReadyH.cons rfl (λK hK=> ?_) AllReadyH.nil);go_simp
   first|((with_reducible refine HPw.o.mono ?_);rintro e w5 ⟨hd,hno⟩;obtain⟨rfl,S2,h2,k2,i2⟩:=hd HM1.o;have HE:=qH (HR.o w5 S2 h2 k2 i2);have hs5:=HKs.o w5 k2;clear hd hno h2 k2 i2)|((with_reducible refine HPw.o.mono ?_);rintro e w5 ⟨hd,hno⟩;obtain⟨rfl,k1⟩:=hno (by have:=HM1.o;omega);obtain⟨g,hE⟩:=HR.o w5 k1;have g1:=one_cell g;have g2:=one_free g;have HE:=qH hE;have hs5:=HKs.o w5 k1;clear hd hno k1 hE)
   dsimp only;refine hK.out _ _ hs5 (λ_=> ?_);clear hK K
   (try simp only[Act.put,List.setIfInBounds_toArray,List.set_cons_zero,List.set_cons_succ])
   refine zcP (i:=10) (d:=some 13) (v:= ?_) rfl rfl (by kernel_rfl) (by kernel_rfl) (by kernel_rfl) (by rfl) (λw' hs=> ?_) hs5 ?_
   rotate_left
   · (go_simp;(try with_reducible rfl))
   (try simp only[Act.put,List.setIfInBounds_toArray,List.set_cons_zero,List.set_cons_succ])
   refine wpAnyH_done (by kernel_rfl) ?_ _;simp only[z1Y];clear hs5;gi_wp2
   first|exact HE.o|exact HE.o _ rfl
 case done=>
  rintro D ys W hD hS hm hK;obtain⟨⟨S',hw,hsub⟩,hkp,hfit⟩:=hm;have hzz:=HZ2.o;have hor:=HOr.o;have hrb:=HRB.o;have hpb:=HPB.o;have g:=(hkp.k.block (M+1+1) (by omega) (sx_no (by omega) (by omega) (by omega))).trans HG2.o;have g1:=one_cell g;have g2:=one_free g;have hne:ys≠[]:=λq=>by
   rw[q] at hS;have:=congrArg List.length hS;unfold sys at this;simp at this
  have hf:=hfit hne;rw[hS] at hw hf;obtain⟨HWt,HSub,HKp,HF,HKd,HGr⟩:=qh6 hw hsub hkp hf hK g;clear hw hsub hkp hfit hzz hor hrb hpb g hne hf hK hS gp3 hA2 hT2 hL2 hs0 hs1 hs2 hs3;gi_wp2;have hK':(W.setCell ⟨M+1+1,0,none⟩ (.int .i64 0)).heap[D]? =some (.deferred (some [])):=(KeepsOthers.setCell W ⟨M+1+1,0,none⟩ (.int .i64 0)).same D _ HKd.o rfl;refine⟨by simp,.inl ⟨_,_,rfl,run_takeDeferred hK',?_⟩⟩;have hc5:=cell_kept (one_cell (one_set HGr.o (.int .i64 0))) (grownBy_putObj' _ D (.deferred none)) (λr e=>by cases e;exact⟨_,hK',rfl⟩);have h1:Wt (W.setCell ⟨M+1+1,0,none⟩ (.int .i64 0)) B p S' most (V+nb (X++(sys L).flatMap F)*2^o) (o+(X++(sys L).flatMap F).length):=HWt.o.keep ((Kept.refl (λj=>j=M+1+1) W).setCell ⟨M+1+1,0,none⟩ (.inl rfl) _) (λj hj q=>by
   rcases HSub.o j hj with r|r
   · have:=HSl.o j r;omega
   · have:=HZ2.o;have:=HOr.o;omega)
  have h2:=z6W h1 (grownBy_putObj' _ D (.deferred none)) (λr e=>by cases e;exact⟨_,hK',rfl⟩);have hk3:Kept (λj=>S j\/M<=j) w2 W:=HKp.o.k.mono (λj hj=>by
   rcases hj with q|q|q
   · exact .inl (q▸hSR)
   · exact .inl (q▸hSp)
   · right;have:=HZ2.o;have:=HOr.o;omega)
  have hk4:=(hk3.setCell ⟨M+1+1,0,none⟩ (.inl (.inr (by show M<=M+1+1;omega))) (.int .i64 0)).grown (grownBy_putObj' _ D (.deferred none)) (λr e=>by cases e;exact .inl (.inr (by have:=HZ2.o;have:=HOr.o;omega)));have hFe:=HFe.o;subst hFe;refine⟨.int .i64 0,?_,λ_=>⟨rfl,S',h2,HKf.o _ hk4,λj hj=>by
   rcases HSub.o j hj with q|q
   · exact .inl q
   · right;have:=HZ2.o;have:=HM.o;have:=HOr.o;omega⟩,λq=>absurd HF.o q⟩
  simp[results,f206,go_sem,hc5]
 case stop=>
  rintro D c pre W hD ⟨r,hr⟩ ⟨rfl,hres,hkp,hno⟩ hK;have g1:=one_cell hres;have g2:=one_free hres;obtain⟨HKd,HKp⟩:=qh2 hK hkp
  have HNo:=qH (show ¬(((o+(X++(sys L).flatMap F).length+7) /8:Nat):Int)<=most from λq=>hno (by
   rw[<-hr,List.flatMap_append,<-qD] at q;exact z5O q))
  clear hK hkp hno hr gp3 hA2 hT2 hL2 hs0 hs1 hs2 hs3;gi_wp2;have hK':=HKd.o;refine⟨by simp,.inl ⟨_,_,rfl,run_takeDeferred hK',?_⟩⟩;have hc5:=cell_kept g1 (grownBy_putObj' _ D (.deferred none)) (λr e=>by cases e;exact⟨_,hK',rfl⟩);have hk4:=HKp.o.grown (grownBy_putObj' _ D (.deferred none)) (λr e=>by cases e;exact .inl (.inr (by have:=HZ2.o;have:=HOr.o;omega)));have hno:=HNo.o;have hFe:=HFe.o;subst hFe;refine⟨.int .i64 4,?_,λq=>absurd q (by omega),λ_=>⟨rfl,HKf.o _ hk4⟩⟩;simp[results,f206,go_sem,hc5]
end Go.Proofs.YthgilhebnlglkaaGreatDoor.V
namespace Go.Proofs.YthgilhebnlglkaaGreatDoor.V
open Go Go.RowKit M U
theorem zb8{w:World}{B g i:Nat}{v:Value}(hB:B<=w.heap.size)(h:∀w',Below B w w'->w'.cell? ⟨g,i,none⟩=some v):g<B:=by
 rcases Nat.lt_or_ge g B with q|q
 · exact q
 · have hl:=qB (h w (Below.refl _ _))
   have hb:Below B w (w.putObj g (.deferred none)):=(Below.refl B w).grown (grownBy_putObj' w g _) hB (λk e=>by cases e;exact q);have h2:=h _ hb;have h3:(w.putObj g (.deferred none)).heap[g]? =some (.deferred none):=World.putObj_heap_same hl;unfold World.cell? at h2;rw[h3] at h2;cases h2
theorem zh5{w:World}{B:Nat}{A:Option Addr}{n:Nat}{L:List Tk}(hB:B<=w.heap.size)(h:∀w',Below B w w'->z0j w' A n L):∀b q,A=some ⟨b,q,none⟩->0<n->b<B:=λb q e hn=>by
 have hc:∀w',Below B w w'->w'.cell? ⟨b,q+0*3,none⟩=some (.int .u8 (L.getD 0 default).l):=λw' hb=>by
  obtain⟨b',o',e',hb',hcs⟩:=(h w' hb).at hn;rw[e] at e';simp only[Option.some.injEq,Addr.mk.injEq,and_true] at e';obtain⟨rfl,rfl⟩:=e';exact(hcs 0 hn).1
 exact zb8 hB hc
theorem zdO{w:World}{B:Nat}(hB:B<=w.heap.size)(h:∀w',Below B w w'->Tabs w'):∀g,g= 2 \/g= 3 ->g<B:=λg hg=>by
 rcases hg with rfl|rfl
 · exact zb8 hB (λw' b=>(h w' b).2.l0)
 · exact zb8 hB (λw' b=>(h w' b).2.d0)
section
variable {w w5 w':World} {B p:Nat} {S S5:Nat->Prop} {most:Int} {V o:Nat} {X Y1 Y2:List Nat} {e:Ending}
theorem Put.step(k:Kept S w w5)(i:∀j,S5 j->S j\/w.heap.size<=j)(h:Put w5 B p S5 most V o (X++Y1) Y2 e w'):Put w B p S most V o X (Y1++Y2) e w':=by
 unfold Put at h ⊢;rw[qD] at h;exact⟨λq=>Did.go k i (h.1 q),λq=>⟨(h.2 q).1,k.trans (h.2 q).2 i⟩⟩
theorem Put.ret(h:Put w B p S most V o X Y1 e w'):∃v,e=.returned v:=by
 by_cases q:(((o+(X++Y1).length+7) /8:Nat):Int)<=most
 · exact⟨_,(h.1 q).1⟩
 · exact⟨_,(h.2 q).1⟩
theorem Put.full(hf:¬(((o+(X++Y1).length+7) /8:Nat):Int)<=most)(he:e=.returned (.int .i64 4))(k:Kept S w w'):Put w B p S most V o X (Y1++Y2) e w':=by
 refine⟨λq=>absurd q (λq=>hf ?_),λ_=>⟨he,k⟩⟩;rw[<-qD] at q;exact z5O q
end
theorem zkl{w:World}{B p:Nat}{S:Nat->Prop}{most:Int}{V o:Nat}(h:Wt w B p S most V o)(hL:o<=900000000)(hm:(((o+7) /8:Nat):Int)<=most):
 Calls prog 198 #[.pointer (some ⟨p,0,none⟩),.int .u64 0,.int .i64 0] w (Did w B p S most (0,V,o)):=by
 have g:=Go.Proofs.YthgilhebnlglkaaGreatDoor.bits_any h 0 0 (by omega) hL;have e:z4U most V o (0:Int).toNat 0=(0,V,o):=by
  have:=z3n (most:=most) (V:=V) (L:=o) (N:=0) (s:=0) (by omega) (by decide) (by simpa using hm)
  simpa using this
 rw[e] at g;exact g
theorem z9i{w:World}{B p:Nat}{S:Nat->Prop}{most:Int}{V o:Nat}(h:Wt w B p S most V o)(hL:o<=900000000)(hm:¬(((o+7) /8:Nat):Int)<=most):
 Calls prog 198 #[.pointer (some ⟨p,0,none⟩),.int .u64 0,.int .i64 0] w λe w'=>e=.returned (.int .i64 4)/\Kept S w w':=by
 have g:=Go.Proofs.YthgilhebnlglkaaGreatDoor.bits_any h 0 0 (by omega) hL;have e:z4U most V o (0:Int).toNat 0=(4,V,o):=by
  have:=z2f (most:=most) (V:=V) (L:=o) (N:=0) (s:=0) (by omega) (by decide) (by simpa using hm)
  simpa using this
 rw[e] at g;exact g.mono λe w' hd=>⟨hd.1,z83 hd⟩
theorem ziM(V o:Nat):V+nb []*2^o=V:=by simp[nb]
theorem zgF{w:World}{B p:Nat}{S:Nat->Prop}{most:Int}{V o:Nat}(k:Nat)(A:Option Addr)(n c:Nat)(raw:ByteArray)(last:Bool)(Y:List Nat)(h:Wt w B p S most V o)(hL:o<=50000000)(hm:¬(((o+7) /8:Nat):Int)<=most):
 Calls prog 163 #[.pointer (some ⟨p,0,none⟩),.int .u8 k,.slice A n c,.string raw,.bool last] w (Put w B p S most V o [] Y):=by
 have HB:=qH (z9i h (by omega) hm);have HF:=qH (show ¬(((o+Y.length+7) /8:Nat):Int)<=most from λq=>hm (by omega));clear h hm;unfold Put;go_enter func163,ntmps163;go_wp2_with (go_at_call 198;(with_reducible refine HB.o.mono ?_);rintro e w1 ⟨rfl,k1⟩;have K1:=qH k1;clear k1);go_ret;have hf:=HF.o;exact⟨λq=>absurd q (by omega),λ_=>⟨rfl,K1.o⟩⟩
theorem z0e.keepS{w w':World}{ki:IntKind}{A:Option Addr}{n:Nat}{f:Nat->Int}{S:Nat->Prop}(h:z0e w ki A n f)(k:Kept S w w')(hA:∀b q,A=some ⟨b,q,none⟩->¬S b):z0e w' ki A n f:=λhn=>by
 obtain⟨b,o,e,hlt,hc⟩:=h hn;exact⟨b,o,e,Nat.lt_of_lt_of_le hlt k.size,λj hj=>k.cell (hc j hj) (hA b o e)⟩
theorem ziF{w:World}{B p:Nat}{S:Nat->Prop}{most:Int}{V o:Nat}(k:Nat)(A:Option Addr)(n c:Nat)(L:List Tk)(raw:ByteArray)(last:Bool)(n1:Nat)(l1 l2:Nat->Nat)(T:List Cd)(hk0:k≠0)(hk2:k<=2)(h:Wt w B p S most V o)(hB:B<=w.heap.size)(hTb:∀w',Below B w w'->Tabs w')(hT:∀w',Below B w w'->z0j w' A n L)(hL:o<=50000000)(hn:n<=100000)(hr:raw.size<=200000)(hst:z9m L)(hmay:∀t∈L,may t=true)
 (HC:∀w1,Below B w w1->Calls prog 202 #[.int .u8 k,.slice A n c] w1 (z4g w1 (sys L) n1 l1 l2 T)) (h1:286<=n1) (h2:n1<=1000) (hTT:T.length<=1000/\∀c∈T,c.1<2^c.2/\c.2<=16) (F1:z9p l1 n1) (F2:z9p l2 30) (hl1:∀i,l1 i<=15) (hl2:∀i,l2 i<=15) (hm:(((o+7) /8:Nat):Int)<=most):
 Calls prog 163 #[.pointer (some ⟨p,0,none⟩),.int .u8 k,.slice A n c,.string raw,.bool last] w (Put w B p S most V o [] ((hdb k last++T.flatMap cbs)++(sys L).flatMap (wsy l1 n1 l2 30))):=by
 have HBi:=qH (zkl h (by omega) hm);have HH:=qH h;have hz:=z7P;have HRf:=qH (show ∀W,Below B w W->Calls prog 199 #[.int .u8 k,.slice A n c,.string raw,.int .i64 o] W λe w'=>e=.returned (.int .i64 0)/\Below W.heap.size W w' from λW b=>by
  have:=z22 k A n c L raw o W (hT W b) hn (by omega) (by omega) (by omega);rw[show rfs k L=0 by unfold rfs;rw[if_neg (by rw[z4e hmay];simp;omega)]] at this;exact this)
 have HLe:=qH (λ(w1:World) (S1:Nat->Prop) (h1:Wt w1 B p S1 most V o)=>zcG h1 (by omega));obtain⟨HCo,HB⟩:=qh2 HC hB;have hlg:=zdO hB hTb;have hlt:=zh5 hB hT
 have HSy:=qH (λ(w9:World) (S9:Nat->Prop) (X:List Nat) (A1 A2:Option Addr) (c1 c2:Nat) (b:Below B w w9) (h9:Wt w9 B p S9 most (V+nb X*2^o) (o+X.length)) (q1:z0e w9 .u8 A1 n1 (λi=>(l1 i:Int))) (q2:z0e w9 .u8 A2 30 (λi=>(l2 i:Int))) (hX:o+X.length<=100000000)=>
  zcE A n c L A1 A2 n1 c1 c2 l1 l2 h9 (hTb w9 b).2 (hT w9 b) hmay hn hlg hlt q1 q2 h1 h2 F1 F2 hl1 hl2 hX hst)
 generalize hY2:(sys L).flatMap (wsy l1 n1 l2 30)=Y2 at HSy ⊢;generalize hSL:sys L=SL at HCo;have e1:((k:Int)==0)=false:=(by rw[qN];omega);have HSt:=qH (λ(w1:World) (A1 A2 A3:Option Addr) (c1 c2 c3:Nat)=>by
  have h:=(Kd.new w1 (λ_=>0) (λ_=>0) 0 (.slice none 0 0) (.slice none 0 0) (.slice none 0 0)).store (cs false SL) (cs true SL) (smb SL) (.slice A1 n1 c1) (.slice A2 30 c2) (.slice A3 T.length c3) rfl rfl rfl;rw[World.setRow_alloc_new] at h;exact h)
 have HHd:=qH (show ∀W,Calls prog 205 #[.int .u8 k,.bool last] W λe w'=> ∃g,e=.returned (.slice (some ⟨g,0,none⟩) 2 2)/\W.heap.size<=g/\z0k w' (some ⟨g,0,none⟩) 2 (hdc k last)/\Below W.heap.size W w' from λW=>zaJ k last W (by omega));have HHk:=qH (zj7 (k:=k) (by omega) last);have HTl:=qH hTT;unfold z4g at HCo;clear h hT hTb hm hB HC hlg hlt F1 F2 hl1 hl2 hY2 hSL hTT hmay hst;go_enter func163,ntmps163
 go_wp2_with (first
  |(go_at_call 198;(with_reducible refine HBi.o.mono ?_);rintro e w1 hd;have b1:=zbR HH.o hd;obtain⟨rfl,S1,h1,k1,i1⟩:=hd;obtain⟨H1,K1,I1,B1⟩:=qh4 h1 k1 i1 b1;clear h1 k1 i1 b1)
  |(go_at_call 200;(with_reducible refine(HLe.o _ _ H1.o).mono ?_);rintro e w2 ⟨rfl,k2⟩;have b2:Below w1.heap.size w1 w2:=k2.below qR (λj g=>g.elim);have H2:=qH (H1.o.keep k2 (λ_ _ g=>g));have B2:=qH (B1.o.trans (b2.mono (qK HB.o K1.o.size)));have K2:=qH (K1.o.trans (z0r S1 b2) I1.o);clear k2 b2)
  |(go_at_call 199;(with_reducible refine(HRf.o _ B2.o).mono ?_);rintro e w3 ⟨rfl,b3⟩;have H3:=qH (H2.o.keep (Kept.of_below b3) (λ_ _ g=>g));have B3:=qH (B2.o.trans (b3.mono (qK HB.o K2.o.size)));have K3:=qH (K2.o.trans (z0r S1 b3) I1.o);clear b3)
  |(go_at_call 202;(with_reducible refine(HCo.o _ B3.o).mono ?_);rintro e w4 ⟨A1,c1,A2,c2,A3,c3,rfl,q1,q2,q3,b4,u1,u2⟩
    have bb:Below w4.heap.size w4 (w4.alloc (.cells (KV (cs false SL) (cs true SL) (smb SL) (.slice A1 n1 c1) (.slice A2 30 c2) (.slice A3 T.length c3)) 292)):=qL;have Q1:=qH (q1.below bb);have Q2:=qH (q2.below bb);have Q3:=qH (q3.below bb);have U1:=qH u1;have Z4:=qH (show w3.heap.size<=w4.heap.size from b4.size);have U2:=qH u2;have bc:=b4.trans (bb.mono b4.size);have H5:=qH (H3.o.keep (Kept.of_below bc) (λ_ _ g=>g));have K5:=qH (K3.o.trans (z0r S1 bc) I1.o);have B5:=qH (B3.o.trans (bc.mono (qK HB.o K3.o.size)));have KD:=qH (Kd.new w4 (cs false SL) (cs true SL) (smb SL) (.slice A1 n1 c1) (.slice A2 30 c2) (.slice A3 T.length c3));clear q1 q2 q3 b4 bb bc u1 u2)
  |refine z0n rfl 292 _ _ rfl _ _ rfl _ rfl (HSt.o _ _ _ _ _ _ _) ?_)
 obtain⟨w5,hw5⟩:∃w5,w4.alloc (.cells (KV (cs false SL) (cs true SL) (smb SL) (.slice A1 n1 c1) (.slice A2 30 c2) (.slice A3 T.length c3)) 292)=w5:=⟨_,rfl⟩
 obtain⟨XX,hXX⟩:∃XX,w4.heap.size=XX:=⟨_,rfl⟩
 rw[hw5] at Q1 Q2 Q3 H5 K5 B5 KD ⊢;rw[hXX] at KD Z4 ⊢;have r5:=KD.o.at3;have hS1:∀j,S1 j->j<w3.heap.size:=λj hj=>(H3.o.lt hj).2
 have HS1:=qH hS1;obtain⟨Y1,hY1⟩:∃Y1,hdb k last++T.flatMap cbs=Y1:=⟨_,rfl⟩
 have HY1:=qH hY1;rw[hY1];have HPw:=qH (show ∀ (w8:World) (A8:Option Addr) (c8:Nat),Wt w8 B p S1 most V o->z0k w8 A8 (hdc k last++T).length (hdc k last++T)->(∀b q,A8=some ⟨b,q,none⟩->¬S1 b)->Calls prog 203 #[.pointer (some ⟨p,0,none⟩),.slice A8 (hdc k last++T).length c8] w8 (Put w8 B p S1 most V o [] Y1) from λw8 A8 c8 h8 i8 f8=>by
  have:=z24 (X:=[]) (w:=w8) (B:=B) (p:=p) (S:=S1) (most:=most) (V:=V) (o:=o) A8 (hdc k last++T).length c8 (hdc k last++T) (by rw[ziM];exact h8) i8 f8 (λc hc=>by
   rcases List.mem_append.1 hc with q|q
   · exact HHk.o c q
   · exact HTl.o.2 c q) (by simp[hdc]) (by have:=HTl.o.1;simp[hdc];omega) (by simp;omega)
  rw[List.flatMap_append,zed,HY1.o] at this;exact this)
 have HCc:=qH (show ∀ (w7:World) (z g:Nat),z<w7.heap.size->w7.heap[z]? =some (.cells #[.slice (some ⟨g,0,none⟩) 2 2,.slice A3 T.length c3] 207 (0,0))->z0k w7 (some ⟨g,0,none⟩) 2 (hdc k last)->z0k w7 A3 T.length T->Calls prog 204 #[.slice (some ⟨z,0,none⟩) 2 2] w7 (Cck w7 (hdc k last++T)) from λw7 z g hz hr i1 i2=>by
  have:=z6L z 2 [⟨some ⟨g,0,none⟩,2,2,hdc k last⟩,⟨A3,T.length,c3,T⟩] w7 rfl (by omega) hz (λi hi=>by
   match i,hi with
   |0,_=>exact cell_of_row _ _ 0 _ _ (0,0) hr
   |1,_=>exact cell_of_row _ _ 1 _ _ (0,0) hr) (λi hi=>by
   match i,hi with
   |0,_=>exact i1
   |1,_=>exact i2) (by simp[z51,hdc]) (by have:=HTl.o.1;simp[z51,hdc];omega)
  simpa [z51] using this)
 unfold Cck at HCc;generalize hN:(hdc k last++T).length=N at HPw HCc;have HZ5:=qH (show XX<w5.heap.size from KD.o.lt);clear hN hw5 hXX hS1 hY1 HSt HCo HRf HLe HBi
 have HL1:=qH (show o+Y1.length<=100000000 from by
  rw[<-HY1.o,qA,z0d,z4T];have h1:=zf2 (l:=T) (λc hc=>qK (HTl.o.2 c hc).2 (by omega));have h2:=HTl.o.1;omega)
 by_cases m1:(((o+([]++Y1).length+7) /8:Nat):Int)<=most
 · have M1:=qH m1
   clear m1
   go_region_law (first
    |(rw[if_pos (by rfl)];go_simp;(with_reducible refine(HHd.o _).mono ?_);rintro e w6 ⟨g,rfl,ng,ig,bg⟩
      have b6:Below w5.heap.size w5 w6:=(Below.refl _ w5).drew.trans bg;have r6:=(KD.o.below b6).at3;obtain⟨B6,IG⟩:=qh2 b6 ig;clear b6 ig ng bg;dsimp only)
    |(rw[if_pos (by rfl)];go_simp;(with_reducible refine(HCc.o _ _ _ (by simp) (heap_alloc_new _ _) (IG.o.below ((Below.refl _ w6).alloc qR _)) ((Q3.o.below B6.o).below ((Below.refl _ w6).alloc qR _))).mono ?_);rintro e w8 ⟨A8,c8,rfl,f8,i8,b8⟩
      have b68:=B6.o.trans ((((Below.refl _ w6).alloc qR _).trans (b8.mono (by simp))).mono B6.o.size);have B8:=qH b68;have H8:=qH (H5.o.keep (Kept.of_below b68) (λ_ _ g=>g));have I8:=qH i8;have F8:=qH (show ∀b q,A8=some ⟨b,q,none⟩->¬S1 b from λb q e hs=>by have h1:=f8 b q e;have h2:=HS1.o b hs;have h3:=Z4.o;have h4:=HZ5.o;have h5:=B6.o.size;simp at h1;omega);clear f8 i8 b8 b68;dsimp only)
    |(rw[if_pos (by rfl)];go_simp;(with_reducible refine(HPw.o _ _ _ H8.o I8.o F8.o).mono ?_);rintro e w9 hp;obtain⟨he,S9,h9,k9,i9⟩:=hp.1 M1.o;cases he;obtain⟨H9,K9,I9⟩:=qh3 h9 k9 i9;clear hp h9 k9 i9;dsimp only))
   all_goals
    have k59:=(z0r S1 B8.o).trans K9.o (λj hj=> .inl hj);have hx:¬S1 XX:=λhs=>by have h2:=HS1.o _ hs;have h3:=Z4.o;omega
    have kd9:Kd w9 XX (cs false SL) (cs true SL) (smb SL) (.slice A1 n1 c1) (.slice A2 30 c2) (.slice A3 T.length c3):=(k59.block XX HZ5.o hx).trans KD.o;have x1:=kd9.at1;have x2:=kd9.at2;have KK:=qH (K5.o.trans k59 I1.o);have II:=qH (show ∀j,S9 j->S j\/w.heap.size<=j from λj hj=>by
     rcases I9.o j hj with q|q
     · exact I1.o j q
     · right;have h1:=K5.o.size;have h2:=B8.o.size;omega)
    have q1:=z0e.keepS Q1.o k59 (λb q e hs=>by have h2:=HS1.o _ hs;have h3:=U1.o b q e;omega);have q2:=z0e.keepS Q2.o k59 (λb q e hs=>by have h2:=HS1.o _ hs;have h3:=U2.o b q e;omega);have hs:=HSy.o w9 S9 ([]++Y1) A1 A2 c1 c2 (B5.o.trans (ze3 H5.o k59)) H9.o q1 q2 (by have:=HL1.o;simpa using this);have HW:=qH hs;clear k59 hx kd9 q1 q2 hs;go_wp2_with (go_at_call 206;(with_reducible refine HW.o.mono ?_);rintro e w10 hp;obtain⟨v10,rfl⟩:=hp.ret;have P10:=qH (Put.step KK.o II.o hp);clear hp);go_ret;rw[HY1.o];exact P10.o
 · have M1:=qH m1
   clear m1
   go_region_law (first
    |(rw[if_pos (by rfl)];go_simp;(with_reducible refine(HHd.o _).mono ?_);rintro e w6 ⟨g,rfl,ng,ig,bg⟩
      have b6:Below w5.heap.size w5 w6:=(Below.refl _ w5).drew.trans bg;have r6:=(KD.o.below b6).at3;obtain⟨B6,IG⟩:=qh2 b6 ig;clear b6 ig ng bg;dsimp only)
    |(rw[if_pos (by rfl)];go_simp;(with_reducible refine(HCc.o _ _ _ (by simp) (heap_alloc_new _ _) (IG.o.below ((Below.refl _ w6).alloc qR _)) ((Q3.o.below B6.o).below ((Below.refl _ w6).alloc qR _))).mono ?_);rintro e w8 ⟨A8,c8,rfl,f8,i8,b8⟩
      have b68:=B6.o.trans ((((Below.refl _ w6).alloc qR _).trans (b8.mono (by simp))).mono B6.o.size);have B8:=qH b68;have H8:=qH (H5.o.keep (Kept.of_below b68) (λ_ _ g=>g));have I8:=qH i8;have F8:=qH (show ∀b q,A8=some ⟨b,q,none⟩->¬S1 b from λb q e hs=>by have h1:=f8 b q e;have h2:=HS1.o b hs;have h3:=Z4.o;have h4:=HZ5.o;have h5:=B6.o.size;simp at h1;omega);clear f8 i8 b8 b68;dsimp only)
    |(rw[if_pos (by rfl)];go_simp;(with_reducible refine(HPw.o _ _ _ H8.o I8.o F8.o).mono ?_);rintro e w9 hp;obtain⟨he,k9⟩:=hp.2 (by have:=M1.o;omega);cases he;have K9:=qH (K5.o.trans ((z0r S1 B8.o).trans k9 (λj hj=> .inl hj)) I1.o);clear hp k9;dsimp only))
   all_goals
    go_wp2;go_ret;rw[<-qD,HY1.o];exact Put.full (by have:=M1.o;omega) rfl K9.o
def zjv(k:Nat)(L:List Tk):Prop:=∀ (w:World) (B p:Nat) (S:Nat->Prop) (most:Int) (V o:Nat) (A:Option Addr) (n c:Nat) (raw:ByteArray) (last:Bool),Wt w B p S most V o->B<=w.heap.size->(∀w',Below B w w'->Tabs w')->(∀w',Below B w w'->z0j w' A n L)->o<=50000000->n<=100000->raw.size<=200000->k<=2->(k≠0->∀t∈L,may t=true)->
 Calls prog 163 #[.pointer (some ⟨p,0,none⟩),.int .u8 k,.slice A n c,.string raw,.bool last] w (Put w B p S most V o [] (bkm k L raw last o))
