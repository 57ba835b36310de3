import Derived.Test.YthgilhebnlglkaaGreatDoorKMBpC
import Derived.Test.YthgilhebnlglkaaGreatDoorKMBlN
import Derived.Test.YthgilhebnlglkaaGreatDoorKCdH
set_option linter.all false
set_option maxHeartbeats 0
set_option maxRecDepth 1000000
open Go.Proofs.Tryz
namespace Go.Proofs.YthgilhebnlglkaaGreatDoor
namespace V
open Go Go.RowKit M U
def rJ(W:World)(n:Nat)(f:Nat->Nat)(x:Ending)(w':World):Prop:=∃g,x=.returned (.tuple #[.slice (some ⟨g,0,none⟩) n n,.int .i64 0])/\W.heap.size<=g/\Br w' g n f/\Below W.heap.size W w'
theorem uw(A:Option Addr)(n b L:Nat)(c:Nat->Nat)(W:World)(j:n<=320)(g:∀i,c i<=1073741824)(H:av W .i64 A n (λi=>(c i:Int)))(a:1<=L)(h:L<=15)(d:n<=2^L)(hs:∀m e,Raw c n m e->20<m->wM):
 Calls prog 274 #[.slice A n b,.int .i64 L] W (rJ W n (hfl c n L)):=
 GH A n b L _ c _ W j g H a h (hf_lv c n) (hf_nds c a d) hs
theorem mW{w:World}{g n:Nat}{f:Nat->Nat}(h:Br w g n f):av w .u8 (some ⟨g,0,none⟩) n (λi=>(f i:Int)):=λ_=>⟨g,0,rfl,h.lt,λi hi=>by rw[Aa];exact h.cell hi⟩
def pL(W:World)(f g:Nat->Nat)(x:Ending)(w':World):Prop:=∃a b,x=.returned (.tuple #[.agg #[.slice (some ⟨a,0,none⟩) 286 286,.slice (some ⟨b,0,none⟩) 30 30],.int .i64 0])/\W.heap.size<=a/\W.heap.size<=b/\Br w' a 286 f/\Br w' b 30 g/\Below W.heap.size W w'
theorem vP(f g:Nat->Nat)(b:Nat)(w:World)(hf:∀i,f i<=1073741824)(s:∀i,g i<=1073741824)(j:∀m e,Raw f 286 m e->20<m->wM)(l:∀m e,Raw g 30 m e->20<m->wM):Calls prog 242 #[.agg (CV f g b)] w (pL w (hfl f 286 15) (hfl g 30 15)):=by
 have k:=qH (show ∀W,Cn W w.heap.size f g b->Calls prog 274 #[.slice (some ⟨w.heap.size,0,none⟩) 286 286,.int .i64 15] W (rJ W 286 (hfl f 286 15)) from λW h=>uw _ 286 286 15 f W (by omega) hf h.nums (by omega) (by omega) (by decide) j);have n:=qH (show ∀W,Cn W w.heap.size f g b->Calls prog 274 #[.slice (some ⟨w.heap.size,286,none⟩) 30 30,.int .i64 15] W (rJ W 30 (hfl g 30 15)) from λW h=>uw _ 30 30 15 g W (by omega) s h.numsd (by omega) (by omega) (by decide) l);have d:=qH ((Cn.new w f g b).alloc (.cells #[.slice none 0 0,.slice none 0 0] 149));have y:C2 ((w.alloc (.cells (CV f g b) 290)).alloc (.cells #[.slice none 0 0,.slice none 0 0] 149)) (w.heap.size+1) (.slice none 0 0) (.slice none 0 0):=by
  have:=C2.new (w.alloc (.cells (CV f g b) 290)) (.slice none 0 0) (.slice none 0 0);rw[World.size_alloc] at this;exact this
 have G:=qH y;have E:=qH (((Below.refl w.heap.size w).alloc qR (.cells (CV f g b) 290)).alloc (by simp) (.cells #[.slice none 0 0,.slice none 0 0] 149));unfold rJ at k n;unfold pL;clear hf s y j l;go_enter func242,ntmps242
 go_wp2_with (first
  |(go_at_call 274;(with_reducible refine(k.o _ d.o).mono ?_);rintro e Q ⟨a,rfl,B,A,q⟩;have M:=qH (d.o.below q);have x:=qH (G.o.below q);obtain⟨L,K⟩:=qh2 A B;have F:=qbt E q;clear q A B)
  |(go_at_call 274;(with_reducible refine(n.o _ M.o).mono ?_);rintro e R ⟨z,rfl,nz,C,r⟩;have c:=x.o.below r;have D:=qH c;have c0:=c.at0;have c1:=c.at1;have S:=c.frozen 0;have O:=c.frozen 1;have R2:=qH (bp L.o r);obtain⟨R3,I⟩:=qh2 C nz;have H:=qbt F r;clear r C nz c))
 have J:=K.o;have N:=I.o;have P:=World.rowIs.lt x.o;simp only[World.size_alloc] at J;refine bodyPost_ret (v:=.tuple #[.agg #[.slice (some ⟨a,0,none⟩) 286 286,.slice (some ⟨z,0,none⟩) 30 30],.int .i64 0]) (aX (p:=2) (u:=3) (ty:= 149) rfl _ _ (w.heap.size+1) _ _ _ _ rfl (D.o.put _ _).row underlying149 rfl kW) rfl ⟨a,z,rfl,by omega,by omega,(R2.o.other (by show a≠w.heap.size+1;omega) _).other (by show a≠w.heap.size+1;omega) _,(R3.o.other (by show z≠w.heap.size+1;omega) _).other (by show z≠w.heap.size+1;omega) _,(H.o.setCell (p:=⟨w.heap.size+1,0,none⟩) (by show w.heap.size<=w.heap.size+1;omega) _).setCell (p:=⟨w.heap.size+1,1,none⟩) (by show w.heap.size<=w.heap.size+1;omega) _⟩
theorem EG(b:Bool)(S:List Sy)(h:S.length<=200001)(i:Nat):cs b S i<=1073741824:=qK (kS b S i) (by omega)
def wI(L:List Tk):Prop:=(∀m e,Raw (cs false (sys L)) 286 m e->20<m->wM)/\(∀m e,Raw (cs true (sys L)) 30 m e->20<m->wM)/\rI L
theorem IS(L:List Tk):wI L:=⟨λ_ _ _ _=>LC,λ_ _ _ _=>LC,xe L⟩
theorem Ik(L:List Tk)(w:World)(h:(sys L).length<=200001)(a:wI L):Calls prog 242 #[.agg (CV (cs false (sys L)) (cs true (sys L)) (smb (sys L)))] w (pL w (ll1 L) (ll2 L)):=
 vP _ _ _ w (EG false _ h) (EG true _ h) a.1 a.2.1
abbrev Cd:=Nat×Nat
def clc:List Cd->List Value
 |[]=> []
 |t::l=> .int .u32 (t.1:Int)::.int .u8 (t.2:Int)::clc l
theorem cI:∀l,(clc l).length=l.length*2
 |[]=>rfl
 |t::l=>by simp only[clc,qC];rw[cI l];omega
theorem iu:∀l r,clc (l++r)=clc l++clc r
 |[],_=>rfl
 |t::l,r=>by simp only[Ac,clc];rw[iu l r]
theorem pq:∀ (l:List Cd) (i:Nat) (t:Cd),l[i]? =some t->(clc l)[i*2]? =some (.int .u32 (t.1:Int))/\(clc l)[i*2+1]? =some (.int .u8 (t.2:Int))
 |[],i,t,h=>by simp at h
 |a::l,0,t,h=>by simp at h;subst h;simp[clc]
 |a::l,i+1,t,h=>by
  rw[C0] at h;obtain⟨b,c⟩:=pq l i t h;simp only[clc];refine⟨?_,?_⟩
  · rw[show(i+1)*2=i*2+1+1 by omega];simpa using b
  · rw[show(i+1)*2+1=i*2+1+1+1 by omega];simpa using c
theorem vL:∀ (l:List Cd),∀u∈clc l,u.oneCell'=true
 |[],u,h=>by simp[clc] at h
 |t::l,u,h=>by
  simp only[clc,Ab] at h;rcases h with rfl|rfl|h
  · rfl
  · rfl
  · exact vL l u h
structure az(w:World)(A:Option Addr)(n:Nat)(l:List Cd):Prop where
 leng:l.length=n
 cells:n=0\/∃b o,A=some ⟨b,o,none⟩/\b<w.heap.size/\∀ (i:Nat) (c:Cd),l[i]? =some c->w.cell? ⟨b,o+i*2,none⟩=some (.int .u32 (c.1:Int))/\w.cell? ⟨b,o+i*2+1,none⟩=some (.int .u8 (c.2:Int))
section
variable {w w':World} {A:Option Addr} {n:Nat} {l:List Cd}
theorem az.below(h:az w A n l)(a:Below w.heap.size w w'):az w' A n l:=by
 refine⟨h.leng,?_⟩;rcases h.cells with g|⟨b,o,g1,g2,g3⟩
 · exact .inl g
 · exact .inr ⟨b,o,g1,Ag g2 a.size,λi x c=>⟨(a.cell g2).trans (g3 i x c).1,(a.cell g2).trans (g3 i x c).2⟩⟩
theorem az.at(h:az w A n l)(a:0<n):∃b o,A=some ⟨b,o,none⟩/\b<w.heap.size/\∀i,i<n->w.cell? ⟨b,o+i*2,none⟩=some (.int .u32 ((l.getD i default).1:Nat))/\w.cell? ⟨b,o+i*2+1,none⟩=some (.int .u8 ((l.getD i default).2:Nat)):=by
 rcases h.cells with g|⟨b,o,g1,g2,g3⟩
 · omega
 · exact⟨b,o,g1,g2,λi hi=>g3 i _ (by rw[List.getD,qE (by rw[h.leng];exact hi)];rfl)⟩
theorem az.nil(w:World)(A:Option Addr):az w A 0 []:=⟨rfl,.inl rfl⟩
theorem az.of_row{g n:Nat}{l:List Cd}{cs:Array Value}{T:TypeId}(h:w.heap[g]? =some (.cells cs T (0,0)))(e:cs.toList=clc l)(f:l.length=n):az w (some ⟨g,0,none⟩) n l:=by
 refine⟨f,.inr ⟨g,0,rfl,(qW.1 h).1,λi c d=> ?_⟩⟩;obtain⟨a,b⟩:=pq l i c d;rw[<-e] at a b;rw[Aa,cell_of_row _ _ _ _ _ (0,0) h,cell_of_row _ _ _ _ _ (0,0) h];simp only[BM] at a b;exact⟨a,b⟩
end
def Owc(B:Nat)(w:World)(v:Value)(L:List Cd):Prop:=w.ownsRow B 216 2 v L.length (clc L)
section
variable {B:Nat} {w w':World} {v:Value} {L:List Cd}
theorem Owc.alloc(h:Owc B w v L)(o:Obj):Owc B (w.alloc o) v L:=World.ownsRow.alloc h o
theorem Owc.at(h:Owc B w v L)(e:∀g,v.ownBlock=some g->w'.heap[g]? =w.heap[g]?):Owc B w' v L:=aM h e
theorem Owc.lt(h:Owc B w v L):∀g,v.ownBlock=some g->B<=g/\g<w.heap.size:=World.ownsRow.lt h
theorem Owc.below(h:Owc B w v L)(b:Below w.heap.size w w'):Owc B w' v L:=h.at λg a=>b.block g (h.lt g a).2
theorem Owc.cds(h:Owc B w v L):∃A c,v=.slice A L.length c/\az w A L.length L:=by
 rcases h.2 with⟨rfl,e⟩|⟨g,a,q,rfl,_,p,_⟩
 · exact⟨none,0,by rw[e],rfl,.inl e⟩
 · refine⟨_,a,rfl,rfl,.inr ⟨g,0,rfl,(qW.1 p).1,λi t o=> ?_⟩⟩
   obtain⟨f,r⟩:=pq L i t o;have k:=λj u m=>h.cells (g:=g) rfl j u m
   simp only[nadd_at] at k;rw[Aa];have d:=k _ _ f;have b:=k _ _ r;rw[Aa] at d b;exact⟨d,b⟩
theorem Owc.lit(w:World)(cs:Array Value)(l:List Cd)(n:Nat)(a:l.length=n)(c:n<=1000)(e:cs.toList=clc l)(B:Nat)(b:B<=w.heap.size):Owc B (w.alloc (.cells cs 216)) (.slice (some ⟨w.heap.size,0,none⟩) n n) l:=by
 have:=World.ownsRow_lit (base:=B) (e:= 216) (size:=2) w cs n b (by unfold maxLen;omega) (by rw[<-As,e,cI,a]);unfold Owc;rw[a,<-e];exact this
end
theorem fK:(prog.info? 216).map (λi=>(i.zero,i.size,i.bytes))=some (some (.agg #[.int .u32 0,.int .u8 0]),2,8):=by kernel_rfl
theorem bH{w:World}(ty:TypeId){B:Nat}{v:Value}{l:List Cd}(h:Owc B w v l){A:Option Addr}{n c:Nat}{r:List Cd}(o:az w A n r)(x:0<n)(O:l.length+r.length<=3000000)(m:B<=w.heap.size):
 ∃f w',(Builtin.append_ #[207,207] ty #[v,.slice A n c]).run prog w=.ok f w'/\Owc B w' f (l++r)/\Below B w w'/\w.grownBy w' v.ownBlock/\∀g,f.ownBlock=some g->v.ownBlock=some g\/w.heap.size<=g:=by
 obtain⟨i,D,F,H,J⟩:=info_of fK;obtain⟨b,q,rfl,S,C⟩:=o.at x;have z:=o.leng
 obtain⟨g,K,w',M,E,p,G,_⟩:=run_append_lies (P:= prog) w 207 ty B 216 i _ 2 8 underlying207 D F H J rfl (by decide) v l.length (clc l) h ⟨b,q,none⟩ n c (clc r) (by rw[cI];omega)
  (λj u a=>by
   rw[nadd_at];have R:j<r.length*2:=(by have:=(An.1 a).1;rw[cI] at this;exact this);obtain⟨k,d⟩:∃k,j/2=k:=⟨_,rfl⟩
   have e:k<r.length:=(by omega);have y:r[k]? =some (r.getD k default):=(by rw[List.getD,qE e];rfl);obtain⟨N,s⟩:=pq r k _ y;obtain⟨c1,I⟩:=C k (by omega);by_cases Q:j%2=0
   · rw[show j=k*2 by omega] at a ⊢
     rw[N] at a;rw[c1];exact a
   · rw[show j=k*2+1 by omega] at a ⊢
     rw[s] at a;rw[<-AC,I];exact a) (vL r) (by omega) (by unfold maxLen;omega) (by omega) m _ rfl
 refine⟨_,w',M,?_,(Below.refl _ w).grown p m (λk d=>(World.ownsRow.lt h k d).1),p,λk d=> ?_⟩
 · unfold Owc
   rw[qA,iu,z];exact E
 · obtain rfl:g=k:=by simpa [Value.ownBlock] using d
   rcases G with q|q
   · exact .inl q
   · exact .inr (by omega)
theorem pO{e:Array Oper}{b:List Oper}{o:Oper}{a:Act}{w:World}{Q:Exit->Act->World->Prop}(f:o.guard=none)(s x:Operand)
 (u:o.op=.call {callee:=.builtin .append,args:= #[s,x],argTypes:= #[207,207]}) (B:Nat) (v:Value) (l:List Cd) (hs:a.eval s=v) (h:Owc B w v l) (A:Option Addr) (n c:Nat) (r:List Cd)
 (j:a.eval x=.slice A n c) (D:az w A n r) (F:0<n) (y:l.length+r.length<=3000000) (m:B<=w.heap.size)
 (E:∀d w',Owc B w' d (l++r)->Below B w w'->w.grownBy w' v.ownBlock->(∀g,d.ownBlock=some g->v.ownBlock=some g\/w.heap.size<=g)->wpList prog e Q b (a.put o.dst d) w'):wpList prog e Q (o::b) a w:=
 wpList_plain f λK i=>by
  obtain⟨d,w',z,C,p,k,q⟩:=bH (c:=c) o.type h D F y m;unfold Oper.wp execOp;simp only[u,resolve,invoke,builtin,Sem.run_bind,Sem.run_pure,Result.andThen_ok,AV,Al,Av,hs,j,z];exact i _ _ (E d w' C p k q)
theorem xj{d:Array Oper}{o:Oper}{a:Act}{w:World}{K:Act->World->Prop}{Q:Exit->Act->World->Prop}{E:Prop}(e:o.guard=none)(s x:Operand)
 (p:o.op=.call {callee:=.builtin .append,args:= #[s,x],argTypes:= #[207,207]}) (B:Nat) (v:Value) (l:List Cd) (hs:a.eval s=v) (h:Owc B w v l) (A:Option Addr) (n c:Nat) (r:List Cd)
 (f:a.eval x=.slice A n c) (C:az w A n r) (F:0<n) (q:l.length+r.length<=3000000) (j:B<=w.heap.size)
 (D:∀b w',Owc B w' b (l++r)->Below B w w'->w.grownBy w' v.ownBlock->(∀g,b.ownBlock=some g->v.ownBlock=some g\/w.heap.size<=g)->K (a.put o.dst b) w'):if Region.wanted o (yielded d a.tmps)=true then Oper.wp prog o a w K Q else E:=by
 have u:Region.wanted o (yielded d a.tmps)=true:=(by simp[Region.wanted,e]);rw[A7 u];obtain⟨b,w',y,z,k,i,m⟩:=bH (c:=c) o.type h C F q j;unfold Oper.wp execOp;simp only[p,resolve,invoke,builtin,Sem.run_bind,Sem.run_pure,Result.andThen_ok,AV,Al,Av,hs,f,y];exact D b w' z k i m
theorem nv(l:List Nat)(a k:Nat):∀d,(∀j,k<=j->j<k+d->l.getD j 0=0)->upk l a (k+d)=upk l a k
 |0,_=>rfl
 |d+1,h=>by
  rw[<-AC,upk_succ,A0 (by rw[h (k+d) (by omega) (by omega)];omega)];exact nv l a k d (λj b c=>h j b (by omega))
theorem IM(l:List Nat)(c k:Nat)(g:c<=k)(i:k<=l.length)(d:∀j,k<=j->j<l.length->l.getD j 0=0)(he:k=c\/0<l.getD (k - 1) 0):upt l c=k:=by
 have e:upt l c=upk l c l.length:=rfl;rw[e,show l.length=k+(l.length - k) by omega,nv l c k _ (λj a b=>d j a (by omega))];rcases he with rfl|he
 · have:=jJ l k k;omega
 · by_cases f:k=0
   · subst f;have:=jJ l c 0;omega
   · obtain⟨q,rfl⟩:∃q,k=q+1:=⟨k - 1,by omega⟩
     have:=jJ l c q;rw[upk_succ,A7 (by simpa using he)];by_cases h:c=q+1
     · omega
     · omega
theorem told_any(A:Option Addr)(n c least:Nat)(l:List Nat)(w:World)(H:IsBys w A n l)(J:n<=c)(D:least<=n)(P:n<=1000)(Q:1<=least):
 Calls prog 275 #[.slice A n c,.int .i64 least] w λe w'=>e=.returned (.slice A (upt l least) c)/\∃q,w'=w.drewN q:=by
 obtain⟨b,o,rfl,N,m⟩:=H.at (by omega);have t:=qH m;have i:=qH (λk a b c d=>IM l least k a b c d);have g:=H.leng;clear H m;go_enter func275,ntmps275;go_wp2_with fail
 go_loopw [5] (λx wr=> ∃k:Nat,least<=k/\k<=n/\x=.int .i64 k/\(∀j,k<=j->j<n->l.getD j 0=0)/\∃q,wr=w.drewN q) (λx _=>(intOf x).toNat)
 case atStart=>exact⟨n,D,qR,rfl,λj a b=>absurd b (by omega),0,rfl⟩
 case round=>
  obtain⟨k,z,G,rfl,y,q,rfl⟩:=hrel;have s:=qH y;clear y;by_cases F:least<k
  · obtain⟨I,C⟩:=qdT F;obtain⟨p,rfl⟩:∃p,k=p+1:=⟨k - 1,by omega⟩
    have K:((p+1:Nat):Int) - 1=(p:Int):=(by omega);have M:(p:Int)+1 - 1=(p:Int):=(by omega);have E:p<n:=(by omega);have c0:(w.drewN q).cell? ⟨b,o+p,none⟩=some (.int .u8 (l.getD p 0:Nat)):=t.o p E;generalize r:l.getD p 0=x at c0;by_cases u:x=0
    · subst u
      have h:=qH r;clear r;go_wp2_with fail;go_roundw
      case rel=>exact⟨p,by omega,by omega,by go_num,λj a b=>(by
       by_cases e:j=p
       · subst e;exact h.o
       · exact s.o j (by omega) b),_,rfl⟩
      case measure=>(simp[intOf];try omega)
    · have O:((x:Int)==0)=false:=by rw[qN];omega
      have h:=qH (i.o (p+1) (by omega) (by omega) (by rw[g];exact s.o) (.inr (by simp only[Bo];omega)));clear r;go_wp2_with fail;go_ret;exact⟨by rw[h.o];rfl,_,rfl⟩
  · obtain rfl:k=least:=by omega
    have h:=qH (i.o k (by omega) (by omega) (by rw[g];exact s.o) (.inl rfl));go_wp2_with fail;go_ret;exact⟨by rw[h.o];rfl,_,rfl⟩
theorem J3(F:Nat->Value){cs:Array Value}(e:cs=((List.range 19).map F).toArray):∀i,i<19->cs[i]? =some (F i):=λi hi=>by
 rw[e,Cb,Am,Bj hi];rfl
def In(w:World)(X:Nat)(f:Nat->Nat):Prop:=w.rowIs X 394 19 (λi=> .int .i64 (f i:Nat))
section
variable {w w':World} {X:Nat} {f f':Nat->Nat}
theorem In.new(w:World):In (w.alloc (.cells #[.int .i64 0,.int .i64 0,.int .i64 0,.int .i64 0,.int .i64 0,.int .i64 0,.int .i64 0,.int .i64 0,.int .i64 0,.int .i64 0,.int .i64 0,.int .i64 0,.int .i64 0,.int .i64 0,.int .i64 0,.int .i64 0,.int .i64 0,.int .i64 0,.int .i64 0] 394)) w.heap.size (λ_=>0):=
 ⟨_,heap_alloc_new _ _,rfl,J3 _ rfl⟩
theorem In.lt(h:In w X f):X<w.heap.size:=World.rowIs.lt h
theorem In.cell(h:In w X f){i:Nat}(hi:i<19):w.cell? ⟨X,i,none⟩=some (.int .i64 (f i:Nat)):=World.rowIs.cell h hi
theorem In.free(h:In w X f)(i:Nat):w.frozen? ⟨X,i,none⟩=false:=World.rowIs.frozen h i
theorem In.set(h:In w X f)(i v:Nat)(e:∀j,j<19->f' j=if j=i then v else f j):In (w.setCell ⟨X,i,none⟩ (.int .i64 (v:Nat))) X f':=
 World.rowIs.congr (World.rowIs.set h i (.int .i64 (v:Nat))) (λj a=>by rw[e j a];by_cases q:j=i<;>simp[q])
theorem In.alloc(h:In w X f)(o:Obj):In (w.alloc o) X f:=World.rowIs.alloc h o
theorem In.nums(h:In w X f):av w .i64 (some ⟨X,0,none⟩) 19 (λi=>(f i:Int)):=λ_=>⟨X,0,rfl,h.lt,λi hi=>by rw[Aa];exact h.cell hi⟩
end
theorem qy(A:Option Addr)(n c:Nat)(r:List Rn)(w:World)(H:eC w A n r)(hn:n<=2000)(O:∀x∈r,Rok x):
 Calls prog 277 #[.slice A n c] w λe w'=> ∃g,e=.returned (.slice (some ⟨g,0,none⟩) 19 19)/\w.heap.size<=g/\Br w' g 19 (hfl (rc r) 19 7)/\Below w.heap.size w w':=by
 have P:=qH H;have R:=qH (show ∀i,i<n->(r.getD i default).s<=18 from λi hi=>(O _ (by rw[List.getD,qE (by rw[H.leng];exact hi)];exact AW _)).1);have F:=H.leng;have J:=qH (show ∀W,In W w.heap.size (rc r)->Calls prog 274 #[.slice (some ⟨w.heap.size,0,none⟩) 19 19,.int .i64 7] W (rJ W 19 (hfl (rc r) 19 7)) from λW h=>uw _ 19 19 7 (rc r) W (by omega) (λi=>qK (Ga r i) (by omega)) h.nums (by omega) (by omega) (by decide) (λm e h q=>absurd h.le (by omega)));unfold rJ at J;clear H O;go_enter func277,ntmps277;go_wp2_with fail
 go_loopw [10] (λx wr=> ∃k:Nat,k<=n/\x=.int .i64 k/\In wr w.heap.size (rc (r.take k))/\Below w.heap.size w wr) (λx _=>n - (intOf x).toNat)
 case atStart=>exact⟨0,qZ,rfl,In.new w,qL⟩
 case round=>
  obtain⟨k,hk,rfl,hi,u⟩:=hrel;by_cases y:k<n
  · obtain⟨b,o,rfl,T,C⟩:=(P.o.below u).at (by omega)
    obtain⟨c0,c1⟩:=C k y;have hs:=R.o k y;have a:=G9 r k (by omega);have d:=Ga (r.take k);rw[Af] at d;generalize U:r.getD k default=t at c0 c1 hs a;obtain⟨s,e⟩:=t;simp only at c0 c1 hs a;have G:s<19:=(by omega);have a0:k<=2000:=(by omega);have V:=(hi.alloc (.cells #[.int .u8 s,.int .u8 e] 225)).cell G;have f0:=(hi.alloc (.cells #[.int .u8 s,.int .u8 e] 225)).free s;obtain⟨v,E⟩:∃v,rc (r.take k) s=v:=⟨_,rfl⟩
    have S:v<=2000:=(by have:=d s;omega);rw[E] at V;have I:=qH ((hi.alloc (.cells #[.int .u8 s,.int .u8 e] 225)).set (f':=rc (r.take (k+1))) s (v+1) (λj _=>by
     rw[a j];by_cases q:j=s
     · subst q;simp[E]
     · rw[A0 (λz=>q z.symm),A0 q];rfl))
    have D:=qH ((u.alloc u.size (.cells #[.int .u8 s,.int .u8 e] 225)).setCell (p:=⟨w.heap.size,s,none⟩) qR (.int .i64 ((v+1:Nat):Int)));clear hi u C a d U E hs;go_wp2_with fail;go_roundw
    case rel=>exact⟨k+1,by omega,by go_num,I.o,D.o⟩
    case measure=>(simp[intOf];try omega)
  · obtain rfl:k=n:=by omega
    rw[Aj (by omega)] at hi;obtain⟨I,D⟩:=qh2 hi u;clear hi u;go_wp2_with (go_at_call 274;(with_reducible refine(J.o _ I.o).mono ?_);rintro e w1 ⟨g,rfl,N,M,K⟩;obtain⟨Z,Y⟩:=qh2 M N;have Q:=qbt D K;clear M N K);go_ret;exact⟨g,rfl,qK D.o.size Y.o,Z.o,Q.o⟩
theorem Gl(w:World):Calls prog 258 #[] w λe w'=>e=.returned (.slice (some ⟨w.heap.size,0,none⟩) 19 19)/\Br w' w.heap.size 19 (λi=>ord.getD i 0)/\Below w.heap.size w w':=by
 go_enter func258,ntmps258;go_wp2;go_ret;exact⟨rfl,⟨_,heap_alloc_new _ _,rfl,J3 _ rfl⟩,qL⟩
theorem mC(g:Nat)(c:Nat)(f:Nat->Nat)(w:World)(H:Br w g 19 f)(hf:∀i,f i<=255):
 Calls prog 278 #[.slice (some ⟨g,0,none⟩) 19 c] w λe w'=> ∃z,e=.returned (.slice (some ⟨z,0,none⟩) 19 19)/\IsBys w' (some ⟨z,0,none⟩) 19 (inl f)/\Below w.heap.size w w':=by
 have K:=qH (Gl w);have J:=qH H;have t:=H.lt;have m:=qH (show ∀i,i<19->ord.getD i 0<19 by decide);clear H;go_enter func278,ntmps278;go_wp2_with (go_at_call 258;(with_reducible refine K.o.mono ?_);rintro e Q ⟨rfl,F,E⟩;obtain⟨N,I⟩:=qh2 F E;clear F E)
 go_loopw [9] (λx wr=> ∃k:Nat,k<=19/\x=.int .i64 k/\Br wr w.heap.size 19 (λi=>if i<k then f (ord.getD i 0) else ord.getD i 0)/\Below w.heap.size w wr) (λx _=>19 - (intOf x).toNat)
 case atStart=>exact⟨0,qZ,rfl,N.o.congr (λi hi=>by rw[A0 (by omega)]),I.o⟩
 case round=>
  obtain⟨k,P,rfl,hi,h⟩:=hrel;by_cases d:k<19
  · have O:decide ((k:Int)<19)=true:=q9T (by omega)
    have G:decide (k<19)=true:=q9T d;have D:=m.o k d;have c0:=hi.cell d;rw[A0 (by omega)] at c0;obtain⟨s,hs⟩:∃s,ord.getD k 0=s:=⟨_,rfl⟩
    rw[hs] at D c0;have c1:=(J.o.below h t).cell D;have R:=hi.frozen k;obtain⟨x,a⟩:∃x,f s=x:=⟨_,rfl⟩
    rw[a] at c1;have j:=qH ((hi.set k x).congr (f':=λi=>if i<k+1 then f (ord.getD i 0) else ord.getD i 0) (λi b=>by
     by_cases q:i=k
     · subst q;rw[A7 rfl,A7 (by omega),hs,a]
     · rw[A0 q]
       by_cases u:i<k
       · rw[A7 u,A7 (by omega)]
       · rw[A0 u,A0 (by omega)]))
    have r:=qH (h.setCell (p:=⟨w.heap.size,k,none⟩) qR (.int .u8 x));clear hi h hs a;go_wp2_with fail;go_roundw
    case rel=>exact⟨k+1,by omega,by go_num,j.o,r.o⟩
    case measure=>(simp[intOf];try omega)
  · obtain rfl:k=19:=by omega
    obtain⟨j,r⟩:=qh2 hi h;clear hi h;go_wp2_with fail;go_ret;refine⟨_,rfl,⟨by simp[inl,ord],by decide,λx a=> ?_,.inr ⟨w.heap.size,0,rfl,j.o.lt,λi x a=> ?_⟩⟩,r.o⟩
    · unfold inl at a
      obtain⟨y,_,rfl⟩:=Ay.1 a;exact hf y
    · have b:i<19:=by
       have:=(An.1 a).1
       simpa [inl,ord] using this
      have C:=j.o.cell b;rw[A7 b] at C;unfold inl at a;rw[Am] at a;rw[Aa,C];obtain⟨y,M,rfl⟩:=Option.map_eq_some_iff.1 a;rw[List.getD,M];rfl
def tb3(x1 x2:List Nat)(f:Nat->Nat):List Cd:=[(upt x1 257 - 257,5),(upt x2 1 - 1,5),(upt (inl f) 4 - 4,4)]
def tbi(f:Nat->Nat):List Cd:=((inl f).take (upt (inl f) 4)).map (λx=>(x,3))
def tr1(f:Nat->Nat)(y:Rn):List Cd:=[(C.rc f 19 y.s,f y.s),(y.e,rbn y.s)]
def tbr(f:Nat->Nat)(r:List Rn):List Cd:=r.flatMap (tr1 f)
def rrn(x1 x2:List Nat):List Rn:=pk (x1.take (upt x1 257)++x2.take (upt x2 1))
noncomputable def rrf(x1 x2:List Nat):Nat->Nat:=hfl (rc (rrn x1 x2)) 19 7
noncomputable def tbl(x1 x2:List Nat):List Cd:=tb3 x1 x2 (rrf x1 x2)++tbi (rrf x1 x2)++tbr (rrf x1 x2) (rrn x1 x2)
theorem wY(f:Nat->Nat)(r:List Rn)(k:Nat)(a:k<r.length):tbr f (r.take (k+1))=tbr f (r.take k)++tr1 f (r.getD k default):=by
 unfold tbr;rw[Bd,List.getD,qE a,AL];simp
theorem lJ(f:Nat->Nat):∀r:List Rn,(tbr f r).length=2*r.length
 |[]=>rfl
 |y::r=>by unfold tbr;rw[AZ,qA,qC];have:=lJ f r;unfold tbr at this;rw[this];show 2+_=_;omega
theorem pF(n:Int)(s:Nat)(w:World)(hs:s<=255):Calls prog 246 #[.int .u32 n,.int .i64 s] w λe w'=>e=.returned (.agg #[.int .u32 n,.int .u8 s])/\w.alloc (.cells #[.int .u32 n,.int .u8 s] 216)=w':=by
 go_enter func246,ntmps246;go_wp2;exact bodyPost_ret (v:=.agg #[.int .u32 n,.int .u8 s]) (results_cell_row rfl _ _ w.heap.size _ _ _ _ rfl (heap_alloc_new _ _) underlying216 rfl lj) rfl ⟨rfl,rfl⟩
theorem cL(n:Int)(s:Nat)(w:World)(hs:s<=255):Calls prog 246 #[.int .u32 n,.int .i64 s] w λe w'=>e=.returned (.agg #[.int .u32 n,.int .u8 s])/\Below w.heap.size w w':=
 (pF n s w hs).mono λe w' ⟨a,b⟩=>⟨a,by rw[<-b];exact qL⟩
def Is(W:World)(N:Nat)(r:List Rn)(e:Ending)(w':World):Prop:=∃A c,e=.returned (.tuple #[.slice A N c,.int .i64 0])/\eC w' A N r/\Below W.heap.size W w'
theorem tP(A:Option Addr)(n c:Nat)(l:List Nat)(w:World)(j:U.Tab w)(H:IsBys w A n l)(p:n<=c)(q:n<=2000)(a:∀x∈l,x<=15)(N:Nat)(h:(pk l).length=N):
 Calls prog 276 #[.slice A n c] w (Is w N (pk l)):=by
 refine(xW A n c l w j H p q (λi hi=>a _ (by rw[List.getD,qE (by rw[H.leng];exact hi)];exact AW _))).mono ?_
 rintro e w' ⟨v,rfl,k,g⟩;obtain⟨o,m,d,b⟩:=k.rns (λr b=>by have:=pk_ok l a r b;unfold Rok at this;omega) (by have:=og l;rw[H.leng] at this;unfold maxLen;omega);rw[h] at d b;exact⟨o,m,by rw[d],b,g⟩
def jx(W:World)(n:Nat)(f:Nat->Nat)(e:Ending)(w':World):Prop:=∃b c,e=.returned (.tuple #[.slice (some ⟨b,0,none⟩) n c,.int .i64 0])/\W.heap.size<=b/\C.Crow w' b n (C.rc f n) f/\Below W.heap.size W w'
theorem cW(A:Option Addr)(n c:Nat)(f:Nat->Nat)(w:World)(o:n<=1000)(k:0<n)(hf:rK f n)(H:av w .u8 A n (λi=>(f i:Int))):
 Calls prog 247 #[.slice A n c] w (jx w n f):=by
 have h:=C.writes_any A n c f w (by unfold maxLen;omega) hf.byte H;rw[hf.erc.1,hf.erc.2] at h;refine h.mono ?_
 rintro e w' ⟨m,j,rfl,_,_,_,g,a⟩;obtain⟨b,rfl,d,a⟩:=a k;exact⟨b,j,rfl,d,a,g⟩
theorem uK(f:Nat->Nat)(hf:∀i,f i<=7):∀x∈inl f,x<=7:=λx a=>by
 unfold inl at a;obtain⟨y,_,rfl⟩:=Ay.1 a;exact hf y
def KJ(W:World)(l:List Cd)(e:Ending)(w':World):Prop:=∃A c,e=.returned (.slice A l.length c)/\az w' A l.length l/\Below W.heap.size W w'
theorem pZ(A1 A2:Option Addr)(c1 Y:Nat)(u D:List Nat)(w:World)(HT:U.Tab w)(H1:IsBys w A1 286 u)(H2:IsBys w A2 30 D)(bJ:286<=c1)(bF:30<=Y)(ay:∀x∈u,x<=15)(aQ:∀x∈D,x<=15):
 Calls prog 243 #[.agg #[.slice A1 286 c1,.slice A2 30 Y]] w (KJ w (tbl u D)):=by
 obtain⟨b1,o1,rfl,bU,bn⟩:=H1.at (by omega);clear bn;obtain⟨b2,o2,rfl,bP,bz⟩:=H2.at (by omega);clear bz;have aS:=upt_le u 257;have aw:=upt_le D 1;rw[H1.leng] at aS;rw[H2.leng] at aw;obtain⟨u1,E⟩:∃u1,upt u 257=u1:=⟨_,rfl⟩
 obtain⟨u2,G⟩:∃u2,upt D 1=u2:=⟨_,rfl⟩
 obtain⟨r,hr⟩:∃r,rrn u D=r:=⟨_,rfl⟩
 obtain⟨f,hf⟩:∃f,rrf u D=f:=⟨_,rfl⟩
 obtain⟨u3,F⟩:∃u3,upt (inl f) 4=u3:=⟨_,rfl⟩
 obtain⟨N,hN⟩:∃N,r.length=N:=⟨_,rfl⟩
 rw[E] at aS;rw[G] at aw;have bh:=upt_le (inl f) 4;rw[F,show(inl f).length=19 by simp[inl,ord]] at bh;have hfe:f=hfl (rc r) 19 7:=(by rw[<-hf,<-hr];rfl);have aL:∀i,f i<=7:=λi=>by rw[hfe];exact hfl_le _ (by omega) (by decide) i
 have R:pk (u.take u1++D.take u2)=r:=(by rw[<-hr,<-E,<-G];rfl);have al:∀x∈u.take u1++D.take u2,x<=15:=λx hx=>by
  rcases AH.1 hx with q|q
  · exact ay x (AO q)
  · exact aQ x (AO q)
 have a:(u.take u1++D.take u2).length=u1+u2:=(by rw[qA,Af,Af,H1.leng,H2.leng];omega);have bT:N<=316:=(by have:=og (u.take u1++D.take u2);rw[R,hN,a] at this;omega);have P:∀y∈r,Rok y:=(by rw[<-R];exact pk_ok _ al);have a0:=qH (show ∀W,Below w.heap.size w W->Calls prog 275 #[.slice (some ⟨b1,o1,none⟩) 286 c1,.int .i64 257] W λe w'=>e=.returned (.slice (some ⟨b1,o1,none⟩) u1 c1)/\Below W.heap.size W w' from λW b=>by
  have h:=told_any (some ⟨b1,o1,none⟩) 286 c1 257 u W (H1.below b) bJ (by omega) (by omega) (by omega);rw[E] at h;exact h.mono λe w' ⟨h1,q,Z⟩=>⟨h1,by rw[Z];exact aj (Below.refl _ _) q⟩)
 have a4:=qH (show ∀W,Below w.heap.size w W->Calls prog 275 #[.slice (some ⟨b2,o2,none⟩) 30 Y,.int .i64 1] W λe w'=>e=.returned (.slice (some ⟨b2,o2,none⟩) u2 Y)/\Below W.heap.size W w' from λW b=>by
  have h:=told_any (some ⟨b2,o2,none⟩) 30 Y 1 D W (H2.below b) bF (by omega) (by omega) (by omega);rw[G] at h;exact h.mono λe w' ⟨h1,q,Z⟩=>⟨h1,by rw[Z];exact aj (Below.refl _ _) q⟩)
 have aB:=qH (show ∀W z,Below w.heap.size w W->W.heap[z]? =some (.cells #[.slice (some ⟨b1,o1,none⟩) u1 c1,.slice (some ⟨b2,o2,none⟩) u2 Y] 26 (0,0))->Calls prog 252 #[.slice (some ⟨z,0,none⟩) 2 2] W
  λe w'=> ∃A c,e=.returned (.slice A (u1+u2) c)/\u1+u2<=c/\IsBys w' A (u1+u2) (u.take u1++D.take u2)/\Below W.heap.size W w' from λW z b hz=>by
  have hfl:flt [⟨some ⟨b1,o1,none⟩,u1,c1,u.take u1⟩,⟨some ⟨b2,o2,none⟩,u2,Y,D.take u2⟩]=u.take u1++D.take u2:=by simp[flt]
  have h:=ik z 2 [⟨some ⟨b1,o1,none⟩,u1,c1,u.take u1⟩,⟨some ⟨b2,o2,none⟩,u2,Y,D.take u2⟩] W rfl (by omega) (qW.1 hz).1
   (λi hi=>by
    match i,hi with
    |0,_=>exact cell_of_row _ _ 0 _ _ (0,0) hz
    |1,_=>exact cell_of_row _ _ 1 _ _ (0,0) hz)
   (λi hi=>by
    match i,hi with
    |0,_=>exact⟨(H1.below b).pre (j:=u1) (by omega),show 0<u1 by omega⟩
    |1,_=>exact⟨(H2.below b).pre (j:=u2) (by omega),show 0<u2 by omega⟩) (by rw[hfl,a];omega) (by rw[hfl,a];omega)
  rw[hfl] at h;unfold Cct at h;rw[a] at h;exact h.mono (by rintro e w' ⟨A,c,h1,Z,h3,h4,h5⟩;exact⟨A,c,h1,Z,h4,h5⟩))
 have M:=qH (show ∀W A c,Below w.heap.size w W->IsBys W A (u1+u2) (u.take u1++D.take u2)->u1+u2<=c->Calls prog 276 #[.slice A (u1+u2) c] W (Is W N r) from λW A c b h Z=>by
  have:=tP A (u1+u2) c _ W (HT.below b qR) h Z (by omega) al N (by rw[R,hN]);rw[R] at this;exact this)
 have aH:=qH (show ∀W A c,eC W A N r->Calls prog 277 #[.slice A N c] W λe w'=> ∃g,e=.returned (.slice (some ⟨g,0,none⟩) 19 19)/\W.heap.size<=g/\Br w' g 19 f/\Below W.heap.size W w' from λW A c h=>by
  have:=qy A N c r W h (by omega) P;rw[<-hfe] at this;exact this)
 have aY:=qH (λ(W:World) (g c:Nat) (h:Br W g 19 f)=>mC g c f W h (λi=>qK (aL i) (by omega)));have a3:=qH (show ∀W z,IsBys W (some ⟨z,0,none⟩) 19 (inl f)->Calls prog 275 #[.slice (some ⟨z,0,none⟩) 19 19,.int .i64 4] W λe w'=>e=.returned (.slice (some ⟨z,0,none⟩) u3 19)/\Below W.heap.size W w' from λW z h=>by
  have h:=told_any (some ⟨z,0,none⟩) 19 19 4 (inl f) W h (by omega) (by omega) (by omega) (by omega);rw[F] at h;exact h.mono λe w' ⟨h1,q,Z⟩=>⟨h1,by rw[Z];exact aj (Below.refl _ _) q⟩)
 have aN:=qH (λ(W:World) (g c:Nat) (h:Br W g 19 f)=>cW (some ⟨g,0,none⟩) 19 c f W (by omega) (by omega) (by rw[hfe];exact hfl_fine _ (by omega) (by omega) (by decide) (by omega)) (mW h));have ae:=qH (show ∀ (s:Nat) (W:World),Below w.heap.size w W->s<=18->Calls prog 279 #[.int .u8 s] W λe w'=>e=.returned (.tuple #[.int .i64 (rbn s:Nat),.bool true])/\W=w' from λs W b hs=>by
  have h:=U.bits_any s W (HT.below b qR) (by omega);have e:=Jc hs;rw[e,show max ((rbn s:Nat):Int) 0=((rbn s:Nat):Int) by omega,show decide ((0:Int)<=((rbn s:Nat):Int))=true from q9T (by omega)] at h;exact h)
 have bA:=qH (λ(n:Int) (s:Nat) (W:World) (hs:s<=255)=>pF n s W hs);have ab:=qH (show ∀ (n:Int) (W:World),Calls prog 246 #[.int .u32 n,.int .i64 5] W λe w'=>e=.returned (.agg #[.int .u32 n,.int .u8 5])/\Below W.heap.size W w' from λn W=>cL n 5 W (by omega));have aC:=qH (show ∀ (n:Int) (W:World),Calls prog 246 #[.int .u32 n,.int .i64 4] W λe w'=>e=.returned (.agg #[.int .u32 n,.int .u8 4])/\Below W.heap.size W w' from λn W=>cL n 4 W (by omega));have aE:=qH (show ∀ (n:Int) (W:World),Calls prog 246 #[.int .u32 n,.int .i64 3] W λe w'=>e=.returned (.agg #[.int .u32 n,.int .u8 3])/\Below W.heap.size W w' from λn W=>cL n 3 W (by omega));have a8:=qH (show tbl u D=[(u1 - 257,5),(u2 - 1,5),(u3 - 4,4)]++tbi f++tbr f r by unfold tbl;rw[hf,hr];unfold tb3;rw[E,G,F]);have aA:=qH (show tbi f=((inl f).take u3).map (λx=>(x,3)) by unfold tbi;rw[F]);have b0:=qH P;unfold Is at M;unfold jx at aN;unfold KJ;clear HT H1 H2 ay aQ E G F hr hf hfe aL R al a P;go_enter func243,ntmps243;have ba:Below w.heap.size w (w.alloc (.cells #[.slice (some ⟨b1,o1,none⟩) 286 c1,.slice (some ⟨b2,o2,none⟩) 30 Y] 149)):=qL;have aO:=qH ba;have HZ:=qH (C2.new w (.slice (some ⟨b1,o1,none⟩) 286 c1) (.slice (some ⟨b2,o2,none⟩) 30 Y));clear ba
 go_wp2_with (first
  |(go_at_call 275;(with_reducible refine(a0.o _ aO.o).mono ?_);rintro e w1 ⟨rfl,aq⟩;have z1:=HZ.o.below aq;have s0:=z1.at0;have s1:=z1.at1;have B1:=qbt aO aq;clear aq z1)
  |(go_at_call 275;(with_reducible refine(a4.o _ B1.o).mono ?_);rintro e w2 ⟨rfl,aZ⟩;have B2:=qbt B1 aZ;clear aZ s0 s1)
  |(go_at_call 252;(with_reducible refine(aB.o _ _ (B2.o.alloc B2.o.size _) (heap_alloc_new _ _)).mono ?_);rintro e w3 ⟨A3,c3,rfl,k3,r3,b3⟩;obtain⟨R3,K3⟩:=qh2 r3 k3;have B3:=qH ((B2.o.alloc B2.o.size _).trans (b3.mono (B2.o.alloc B2.o.size _).size));clear r3 b3 k3)
  |(go_at_call 276;(with_reducible refine(M.o _ _ _ B3.o R3.o K3.o).mono ?_);rintro e w4 ⟨A4,c4,rfl,r4,b4⟩;have R4:=qH r4;have B4:=qbt B3 b4;clear r4 b4)
  |(go_at_call 277;(with_reducible refine(aH.o _ _ _ R4.o).mono ?_);rintro e w5 ⟨g5,rfl,n5,r5,b5⟩;have bB:=qH (R4.o.below b5);have R5:=qH r5;have B5:=qbt B4 b5;clear r5 b5 n5)
  |(go_at_call 278;(with_reducible refine(aY.o _ _ _ R5.o).mono ?_);rintro e w6 ⟨z6,rfl,r6,b6⟩;have bj:=qH (bB.o.below b6);have bx:=qH (bp R5.o b6);have R6:=qH r6;have B6:=qbt B5 b6;clear r6 b6)
  |(go_at_call 275;(with_reducible refine(a3.o _ _ R6.o).mono ?_);rintro e K ⟨rfl,b7⟩;have bH:=qH (bj.o.below b7);have ax:=qH (bp bx.o b7);have R7:=qH (R6.o.below b7);have B7:=qbt B6 b7;clear b7)
  |(go_at_call 246;(with_reducible refine(ab.o ((u1:Int) - 257) K).mono ?_);rintro e w8 ⟨rfl,b8⟩;have B8:=qH b8;clear b8)
  |(go_at_call 246;(with_reducible refine(ab.o ((u2:Int) - 1) w8).mono ?_);rintro e w9 ⟨rfl,b9⟩;have B9:=qbt B8 b9;clear b9)
  |(go_at_call 246;(with_reducible refine(aC.o ((u3:Int) - 4) w9).mono ?_);rintro e bD ⟨rfl,aU⟩;have am:=qbt B9 aU;clear aU))
 have HO:=qH (Owc.lit bD #[.int .u32 ((u1:Int) - 257),.int .u8 5,.int .u32 ((u2:Int) - 1),.int .u8 5,.int .u32 ((u3:Int) - 4),.int .u8 4] [(u1 - 257,5),(u2 - 1,5),(u3 - 4,4)] 3 rfl (by omega) (by
  have e1:((u1 - 257:Nat):Int)=(u1:Int) - 257:=(by omega);have e2:((u2 - 1:Nat):Int)=(u2:Int) - 1:=(by omega);have e3:((u3 - 4:Nat):Int)=(u3:Int) - 4:=(by omega);simp only[clc,e1,e2,e3];rfl) K.heap.size am.o.size)
 have aV:=qH (am.o.alloc am.o.size (.cells #[.int .u32 ((u1:Int) - 257),.int .u8 5,.int .u32 ((u2:Int) - 1),.int .u8 5,.int .u32 ((u3:Int) - 4),.int .u8 4] 216));have bI:=(R7.o.at (by omega));obtain⟨bS,bM,e6,aR,aa⟩:=bI;simp only[Option.some.injEq,Addr.mk.injEq,AU] at e6;obtain⟨rfl,rfl⟩:=e6;have bG:=qH (show ∀i,i<19->K.cell? ⟨z6,i,none⟩=some (.int .u8 ((inl f).getD i 0:Nat)) from λi hi=>by have:=aa i hi;rw[Aa] at this;exact this);clear aa
 go_loopw [9,55] (λv x wr=> ∃k:Nat,k<=u3/\x=.int .i64 k/\Owc K.heap.size wr v ([(u1 - 257,5),(u2 - 1,5),(u3 - 4,4)]++((inl f).take k).map (λx=>(x,3)))/\Below K.heap.size K wr) (λ_ x _=>u3 - (intOf x).toNat)
 case atStart=>exact⟨0,qZ,rfl,HO.o,aV.o⟩
 case round=>
  obtain⟨k,hk,rfl,Q,I⟩:=hrel;by_cases aW:k<u3
  · have c0:=(I.cell (p:=⟨z6,k,none⟩) aR).trans (bG.o k (by omega))
    have hs:(inl f).take (k+1)=(inl f).take k++[(inl f).getD k 0]:=by
     have hl:k<(inl f).length:=(by simp[inl,ord];omega);rw[Bd,List.getD,qE hl];rfl
    obtain⟨x,hx⟩:∃x,(inl f).getD k 0=x:=⟨_,rfl⟩
    rw[hx] at c0 hs;have bv:x<=255:=(by rw[<-hx];exact R7.o.le k);obtain⟨HS,HO,HB⟩:=qh3 hs Q I;have bR:k<=19:=(by omega);have ar:=qH (show([(u1 - 257,5),(u2 - 1,5),(u3 - 4,4)]++((inl f).take k).map (λx=>(x,3)):List Cd).length+1<=3000000 by simp[inl,ord];omega);clear Q I hs hx
    go_wp2_with (first
     |(go_at_call 246;(with_reducible refine(aE.o (x:Int) _).mono ?_);rintro e aJ ⟨rfl,a1⟩;have bg:=qH ((HO.o.below a1).alloc (.cells #[.int .u32 (x:Int),.int .u8 3] 216));have aK:=qH ((HB.o.trans (a1.mono HB.o.size)).alloc (HB.o.trans (a1.mono HB.o.size)).size (.cells #[.int .u32 (x:Int),.int .u8 3] 216));clear a1)
     |(at_builtin;refine pO rfl _ _ rfl K.heap.size _ _ rfl bg.o (some ⟨aJ.heap.size,0,none⟩) 1 1 [(x,3)] rfl (az.of_row (heap_alloc_new _ _) rfl rfl) (by omega) ar.o aK.o.size ?_;intro br bk V S a6 a2;have ag:=qH V;have ai:=qH (aK.o.trans S);clear V S a6 a2))
    go_roundw
    case rel=>exact⟨k+1,by omega,by go_num,by rw[HS.o,Aw,<-qD];exact ag.o,ai.o⟩
    case measure=>(simp[intOf];try omega)
  · obtain rfl:k=u3:=by omega
    rw[<-aA.o] at Q;obtain⟨HO,HB⟩:=qh2 Q I;obtain⟨T0,ad⟩:∃T0,([(u1 - 257,5),(u2 - 1,5),(k - 4,4)]++tbi f:List Cd)=T0:=⟨_,rfl⟩
    rw[ad] at HO a8;have aX:T0.length<=22:=(by rw[<-ad,aA.o];simp[inl,ord];omega);have bt:=qH aX;obtain⟨M0,bO⟩:∃M0,wr.heap.size=M0:=⟨_,rfl⟩
    clear Q I ad aX;go_wp2_with (go_at_call 247;(with_reducible refine(aN.o _ _ _ (ax.o.below HB.o ax.o.lt)).mono ?_);rintro e bN ⟨bw,cw,rfl,nw,cr,af⟩;obtain⟨CR,NW⟩:=qh2 cr nw;have bf:=qH (HO.o.below af);have bo:=qbt HB af;clear cr nw af);have bC:=bH.o
    go_loopw [9,73] (λv x wz=> ∃j:Nat,j<=N/\x=.int .i64 j/\Owc K.heap.size wz v (T0++tbr f (r.take j))/\(∀g,v.ownBlock=some g->g≠bw)/\C.Crow wz bw 19 (C.rc f 19) f/\Below K.heap.size K wz) (λ_ x _=>N - (intOf x).toNat)
    case atStart=>exact⟨0,qZ,rfl,by show Owc _ _ _ (T0++[]);rw[Az];exact bf.o,λg hg=>by have:=(HO.o.lt g hg).2;have:=NW.o;omega,CR.o,bo.o⟩
    case round=>
     obtain⟨j,hj,rfl,Q,an,J,I⟩:=hrel;by_cases aW:j<N
     · obtain⟨b4,o4,e4,aP,bb⟩:=bC.at (by omega)
       obtain⟨g0,g1⟩:=bb j aW;have c0:=(I.cell (p:=⟨b4,o4+j*2,none⟩) aP).trans g0;have y1:=(I.cell (p:=⟨b4,o4+j*2+1,none⟩) aP).trans g1;have ao:j<r.length:=(by omega);have hy:=b0.o (r.getD j default) (by rw[List.getD,qE ao];exact AW _);have hs:=wY f r j ao;have a:=lJ f (r.take j);rw[Af] at a;generalize bl:r.getD j default=y at c0 y1 hy hs;obtain⟨d,m⟩:=y;simp only at c0 y1;have bE:d<=18:=hy.1;have bL:m<=127:=hy.2;have m0:=J.cell1 (i:=d) (by omega);have m1:=J.cell2 (i:=d) (by omega);obtain⟨cc,ac⟩:∃cc,C.rc f 19 d=cc:=⟨_,rfl⟩
       obtain⟨ss,ap⟩:∃ss,f d=ss:=⟨_,rfl⟩
       obtain⟨zz,a7⟩:∃zz,rbn d=zz:=⟨_,rfl⟩
       have aM:=ts d;have aI:tbr f (r.take (j+1))=tbr f (r.take j)++[(cc,ss),(m,zz)]:=(by rw[hs,<-ac,<-ap,<-a7];rfl);rw[ac] at m0;rw[ap] at m1;rw[a7] at aM;have ak:=ae.o d _ ((B7.o.trans (I.mono B7.o.size)).alloc (B7.o.trans (I.mono B7.o.size)).size (.cells #[.int .u8 d,.int .u8 m] 225)) bE;rw[a7] at ak;obtain⟨bm,HS,be,aD,bc,O⟩:=qh6 ak aI Q an J I;have ar:=qH (show(T0++tbr f (r.take j)).length+2<=3000000 by rw[qA,a];have:=bt.o;omega);have bQ:j<=316:=(by omega);subst e4;have H:=J.lt;clear Q an J I bb hs aI a bl ac ap a7 hy g0 g1 ao ak;go_wp2_with (go_at_call 279;(with_reducible refine bm.o.mono ?_);rintro e aJ ⟨rfl,rfl⟩);have k0:(wr.alloc (.cells #[.int .u8 d,.int .u8 m] 225)).cell? ⟨bw,d*2,none⟩=some (.int .u32 cc):=(Below.cell (p:=⟨bw,d*2,none⟩) ((Below.refl _ wr).alloc qR _) H).trans m0;have k1:(wr.alloc (.cells #[.int .u8 d,.int .u8 m] 225)).cell? ⟨bw,d*2+1,none⟩=some (.int .u8 ss):=(Below.cell (p:=⟨bw,d*2+1,none⟩) ((Below.refl _ wr).alloc qR _) H).trans m1;have bK:(d:Int)<19:=(by omega);have bd:=qH (show zz<=255 by omega);have a9:IntKind.u32.wrap (m:Int)=(m:Int):=IntWalk.u32_in _ ⟨by omega,by omega⟩;have bu:=qH (show #[.int .u32 (cc:Int),.int .u8 (ss:Int),.int .u32 (IntKind.u32.wrap (m:Int)),.int .u8 (zz:Int)].toList=clc [(cc,ss),(m,zz)] by rw[a9];rfl);have aG:∀cs:Array Value,((((wr.alloc (.cells #[.int .u8 d,.int .u8 m] 225)).drew.alloc (.cells #[.int .u32 (IntKind.u32.wrap (m:Int)),.int .u8 zz] 216)).alloc (.cells cs 216)).heap[wr.heap.size+2]? =some (.cells cs 216 (0,0))):=λcs=>by
        have:=heap_alloc_new ((wr.alloc (.cells #[.int .u8 d,.int .u8 m] 225)).drew.alloc (.cells #[.int .u32 (IntKind.u32.wrap (m:Int)),.int .u8 zz] 216)) (.cells cs 216)
        simpa using this
       have ah:∀cs:Array Value,Below wr.heap.size wr (((wr.alloc (.cells #[.int .u8 d,.int .u8 m] 225)).drew.alloc (.cells #[.int .u32 (IntKind.u32.wrap (m:Int)),.int .u8 zz] 216)).alloc (.cells cs 216)):=λcs=>((((Below.refl _ wr).alloc qR _).drew).alloc (by simp) _).alloc (by simp;omega) _
       have aF:∀cs:Array Value,K.heap.size<=(((wr.alloc (.cells #[.int .u8 d,.int .u8 m] 225)).drew.alloc (.cells #[.int .u32 (IntKind.u32.wrap (m:Int)),.int .u8 zz] 216)).alloc (.cells cs 216)).heap.size:=λcs=>qK O.o.size (ah cs).size
       obtain⟨a5,au,av⟩:=qh3 ah aG aF;clear a9 aG ah aF
       go_region_law (first
        |(refine xj rfl (.tmp 83) (.tmp 94) rfl K.heap.size _ (T0++tbr f (r.take j)) rfl (((be.o.alloc _).alloc _).alloc _) (some ⟨wr.heap.size+2,0,none⟩) 2 2 [(cc,ss),(m,zz)] (by simp[Act.eval]) (az.of_row (cs:= #[.int .u32 cc,.int .u8 ss,.int .u32 (IntKind.u32.wrap m),.int .u8 zz]) (T:= 216) (au.o _) bu.o rfl) (by omega) ar.o (av.o _) ?_;intro br bk V S a6 a2;obtain⟨ag,ai,bq,bs⟩:=qh4 V S a6 a2;clear V S a6 a2)
        |(rw[A7 (by rfl)];go_simp;(with_reducible refine(bA.o _ _ _ bd.o).mono ?_);rintro e w' ⟨rfl,rfl⟩;dsimp only))
       all_goals
        go_wp2;go_roundw
        case rel=>
         exact⟨j+1,by omega,by go_num,by rw[HS.o,<-qD];exact ag.o,λg hg=>by
          rcases bs.o g hg with q|q
          · exact aD.o g q
          · have Z:=qK (a5.o _).size q
            omega,Crow.at' bc.o ((bq.o.block bw (Ag H (a5.o _).size) (λe=>aD.o bw e.symm rfl)).trans ((a5.o _).block bw H)),(O.o.trans ((a5.o _).mono O.o.size)).trans ai.o⟩
        case measure=>(simp[intOf];try omega)
     · obtain rfl:j=N:=by omega
       rw[Aj (by omega),<-a8.o] at Q;obtain⟨A9,c9,aT,h9⟩:=Q.cds;obtain⟨bi,H9,O⟩:=qh3 aT h9 I;clear Q an J I aT h9;go_wp2_with fail;go_ret;exact⟨A9,c9,by rw[bi.o];rfl,H9.o,B7.o.trans (O.o.mono B7.o.size)⟩
def kF(f g:Nat->Nat)(b:Nat)(v1 v2 v3:Value)(i:Nat):Value:=if i<317 then cF f g b i else if i=317 then v1 else if i=318 then v2 else v3
def KV(f g:Nat->Nat)(b:Nat)(v1 v2 v3:Value):Array Value:=((List.range 320).map (kF f g b v1 v2 v3)).toArray
section
variable (f g:Nat->Nat) (b:Nat) (v1 v2 v3:Value)
theorem bJ:(KV f g b v1 v2 v3).size=320:=by unfold KV;simp
theorem Iv(i:Nat)(h:i<320):(KV f g b v1 v2 v3)[i]? =some (kF f g b v1 v2 v3 i):=by
 unfold KV;rw[Cb,Am,Bj h];rfl
theorem Kx(a:v1.oneCell'=true)(c:v2.oneCell'=true)(e:v3.oneCell'=true):(KV f g b v1 v2 v3).all (·.oneCell')=true:=by
 unfold KV;refine all_oneCell_toArray (λv d=> ?_);obtain⟨i,_,rfl⟩:=Ay.1 d;unfold kF
 split
 · exact EM f g b i
 · split
   · exact a
   · split
     · exact c
     · exact e
end
def Kd(w:World)(X:Nat)(f g:Nat->Nat)(b:Nat)(v1 v2 v3:Value):Prop:=w.heap[X]? =some (.cells (KV f g b v1 v2 v3) 292 (0,0))
theorem Ev:(prog.info? 292).map (λi=>(i.zero,i.size))=some (some (.agg (KV (λ_=>0) (λ_=>0) 0 (.slice none 0 0) (.slice none 0 0) (.slice none 0 0))),320):=by kernel_rfl
theorem oJ(w:World):(zeroValue 292).run prog w=.ok (.agg (KV (λ_=>0) (λ_=>0) 0 (.slice none 0 0) (.slice none 0 0) (.slice none 0 0))) w:=(zero_of_info Ev).1 w
theorem oK:(prog.info? 292).map (·.size)=some 320:=(zero_of_info Ev).2
section
variable {w w':World} {X:Nat} {f g:Nat->Nat} {b:Nat} {v1 v2 v3:Value}
theorem Kd.new(w:World)(f g:Nat->Nat)(b:Nat)(v1 v2 v3:Value):Kd (w.alloc (.cells (KV f g b v1 v2 v3) 292)) w.heap.size f g b v1 v2 v3:=heap_alloc_new _ _
theorem Kd.lt(h:Kd w X f g b v1 v2 v3):X<w.heap.size:=(qW.1 h).1
theorem Kd.below(h:Kd w X f g b v1 v2 v3)(a:Below w.heap.size w w'):Kd w' X f g b v1 v2 v3:=(a.block X h.lt).trans h
theorem Kd.alloc(h:Kd w X f g b v1 v2 v3)(o:Obj):Kd (w.alloc o) X f g b v1 v2 v3:=(Below.heap_alloc w o X h.lt).trans h
theorem Kd.other(h:Kd w X f g b v1 v2 v3){a:Addr}(c:X≠a.block)(v:Value):Kd (w.setCell a v) X f g b v1 v2 v3:=(Below.heap_setCell _ _ _ _ c).trans h
theorem Kd.cell(h:Kd w X f g b v1 v2 v3){i:Nat}(hi:i<320):w.cell? ⟨X,i,none⟩=some (kF f g b v1 v2 v3 i):=by
 rw[cell_of_row _ _ i _ _ (0,0) h,Iv f g b v1 v2 v3 i hi]
theorem Kd.at1(h:Kd w X f g b v1 v2 v3):w.cell? ⟨X,317,none⟩=some v1:=h.cell (by omega)
theorem Kd.at2(h:Kd w X f g b v1 v2 v3):w.cell? ⟨X,318,none⟩=some v2:=h.cell (by omega)
theorem Kd.at3(h:Kd w X f g b v1 v2 v3):w.cell? ⟨X,319,none⟩=some v3:=h.cell (by omega)
theorem Kd.bits(h:Kd w X f g b v1 v2 v3):w.cell? ⟨X,316,none⟩=some (.int .i64 (b:Nat)):=h.cell (by omega)
theorem Kd.free(h:Kd w X f g b v1 v2 v3)(i:Nat):w.frozen? ⟨X,i,none⟩=false:=by
 have a:w.heap[X]? =some (.cells (KV f g b v1 v2 v3) 292 (0,0)):=h;simp[World.frozen?,a]
theorem Kd.nums(h:Kd w X f g b v1 v2 v3):av w .i64 (some ⟨X,0,none⟩) 286 (λi=>(f i:Int)):=λ_=>⟨X,0,rfl,h.lt,λi hi=>by
 rw[Aa,h.cell (by omega)];unfold kF cF;rw[A7 (by omega),A7 hi]⟩
theorem Kd.numsd(h:Kd w X f g b v1 v2 v3):av w .i64 (some ⟨X,286,none⟩) 30 (λi=>(g i:Int)):=λ_=>⟨X,286,rfl,h.lt,λi hi=>by
 rw[h.cell (by omega)];unfold kF cF;rw[A7 (by omega),A0 (by omega),A7 (by omega),show 286+i - 286=i by omega]⟩
theorem Kd.load(h:Kd w X f g b v1 v2 v3):(Instr.loadAt 292 (.pointer (some ⟨X,0,none⟩))).run prog w=.ok (.agg (KV f g b v1 v2 v3)) w:=
 nU h underlying292 rfl (by rw[bJ];exact oK)
theorem Kd.counts(h:Kd w X f g b v1 v2 v3):(Instr.loadAt 290 (.pointer (some ⟨X,0,none⟩))).run prog w=.ok (.agg (CV f g b)) w:=by
 have e:=run_loadAt_mid (P:= prog) w X 0 290 (CV f g b).toList _ (λj v a=>by
  have c:j<317:=(by have:=(An.1 a).1;rw[As,bK] at this;exact this);rw[Aa,h.cell (by omega)];rw[BM,rL f g b j c] at a;rw[<-a];unfold kF;rw[A7 c]) underlying290 rfl (by rw[As,bK];exact jo)
 simpa using e
theorem Kd.store(h:Kd w X f g b v1 v2 v3)(f' g':Nat->Nat)(b':Nat)(c d a:Value)(e:c.oneCell'=true)(j:d.oneCell'=true)(i:a.oneCell'=true):
 (Instr.storeAt 292 (.pointer (some ⟨X,0,none⟩)) (.agg (KV f' g' b' c d a))).run prog w=.ok () (w.setRow X (KV f' g' b' c d a)):=
 jY h (by rw[bJ];exact oK) (by rw[bJ,bJ]) (Kx _ _ _ _ _ _ e j i)
theorem Kd.setRow(h:Kd w X f g b v1 v2 v3)(f' g':Nat->Nat)(b':Nat)(a c u3:Value):Kd (w.setRow X (KV f' g' b' a c u3)) X f' g' b' a c u3:=setRow_heap w X _ _ _ (0,0) h
theorem Kd.set(h:Kd w X f g b v1 v2 v3)(i:Nat)(v c d u3:Value)(e:∀j,j<320->kF f g b c d u3 j=if j=i then v else kF f g b v1 v2 v3 j):Kd (w.setCell ⟨X,i,none⟩ v) X f g b c d u3:=by
 unfold Kd at h ⊢;rw[setCell_eq_setRow w X i (KV f g b v1 v2 v3) _ (0,0) v h,setRow_heap w X _ _ _ (0,0) h];congr 2;apply Cl;intro j;by_cases a:j<320
 · rw[Iv _ _ _ _ _ _ j a,e j a,Ad]
   split
   · rename_i q;subst q;rw[A7 (by rw[bJ];exact a),A7 rfl]
   · rename_i q;rw[A0 (λz=>q z.symm),Iv f g b _ _ _ j a]
 · rw[AT (by rw[DB,bJ];omega),AT (by rw[bJ];omega)]
theorem kF1(u:Value):∀j,j<320->kF f g b u v2 v3 j=if j=317 then u else kF f g b v1 v2 v3 j:=λj c=>by
 unfold kF;by_cases h:j<317
 · rw[A7 h,A0 (by omega),A7 h]
 · rw[A0 h,A0 h]
   by_cases a:j=317
   · rw[A7 a,A7 a]
   · rw[A0 a,A0 a,A0 a]
theorem kF2(u:Value):∀j,j<320->kF f g b v1 u v3 j=if j=318 then u else kF f g b v1 v2 v3 j:=λj d=>by
 unfold kF;by_cases h:j<317
 · rw[A7 h,A0 (by omega),A7 h]
 · rw[A0 h,A0 h]
   by_cases c:j=317
   · rw[A7 c,A0 (by omega),A7 c]
   · rw[A0 c,A0 c]
     by_cases a:j=318
     · rw[A7 a,A7 a]
     · rw[A0 a,A0 a,A0 a]
theorem kF3(u:Value):∀j,j<320->kF f g b v1 v2 u j=if j=319 then u else kF f g b v1 v2 v3 j:=λj d=>by
 unfold kF;by_cases h:j<317
 · rw[A7 h,A0 (by omega),A7 h]
 · rw[A0 h,A0 h]
   by_cases a:j=317
   · rw[A7 a,A0 (by omega),A7 a]
   · rw[A0 a,A0 a]
     by_cases c:j=318
     · rw[A7 c,A0 (by omega),A7 c]
     · rw[A0 c,A7 (by omega)]
end
theorem GS(f g:Nat->Nat)(b:Nat): prog.built 292 [(0,.agg (CV f g b))]=some (KV f g b (.slice none 0 0) (.slice none 0 0) (.slice none 0 0)):=by kernel_rfl
theorem dr{d:Array Oper}{c:List Oper}{o:Oper}{a:Act}{w:World}{Q:Exit->Act->World->Prop}(k:o.guard=none)(x:Operand)(m:o.op=.build 292 #[(0,x)])(f g:Nat->Nat)(b:Nat)(j:a.eval x=.agg (CV f g b))
 (h:wpList prog d Q c (a.put o.dst (.agg (KV f g b (.slice none 0 0) (.slice none 0 0) (.slice none 0 0)))) w):wpList prog d Q (o::c) a w:=by
 have e: prog.built 292 ((#[(0,x)]:Array (Nat×Operand)).map λ(i,x)=>(i,a.eval x)).toList=some (KV f g b (.slice none 0 0) (.slice none 0 0) (.slice none 0 0)):=by
  have:=GS f g b;rw[<-j] at this
  simpa using this
 exact wpList_build k 292 #[(0,x)] m (by rw[e];rfl) (by rw[e];exact h)
structure Off(X:Nat)(w w':World):Prop where
 size:w.heap.size<=w'.heap.size
 same:∀j,j<w.heap.size->j≠X->w'.heap[j]? =w.heap[j]?
theorem Off.trans{X:Nat}{A B C:World}(h:Off X A B)(k:Off X B C):Off X A C:=⟨qK h.size k.size,λj a c=>(k.same j (Ag a h.size) c).trans (h.same j a c)⟩
theorem Off.cellSet(X i:Nat)(w:World)(v:Value):Off X w (w.setCell ⟨X,i,none⟩ v):=⟨by rw[World.size_setCell];exact qR,λj c a=>Below.heap_setCell _ _ _ _ a⟩
theorem Off.rowSet(X:Nat)(w:World)(c:Array Value):Off X w (w.setRow X c):=⟨by simp[World.setRow],λj d a=>setRow_other w X j c a⟩
theorem Off.nums{X:Nat}{w w':World}{k:IntKind}{A:Option Addr}{n:Nat}{f:Nat->Int}(h:Off X w w')(H:av w k A n f)(p:∀o,w.cell? ⟨X,o,none⟩≠some (.int k (f 0))):av w' k A n f:=λj=>by
 obtain⟨b,o,e,c,d⟩:=H j;have m:b≠X:=λq=>by subst q;exact p (o+0) (d 0 j)
 exact⟨b,o,e,Ag c h.size,λi hi=>(World.cell?_of_block (a:=⟨b,o+i,none⟩) (h.same b c m)).trans (d i hi)⟩
theorem Off.cds{X:Nat}{w w':World}{A:Option Addr}{n:Nat}{l:List Cd}(h:Off X w w')(H:az w A n l)(k:∀o x,w.cell? ⟨X,o,none⟩≠some (.int .u32 x)):az w' A n l:=by
 refine⟨H.leng,?_⟩;rcases H.cells with g|⟨b,o,e,hlt,hc⟩
 · exact .inl g
 · by_cases j:n=0
   · exact .inl j
   · have d:b≠X:=λq=>by
      subst q;exact k _ _ (hc 0 _ (qE (by rw[H.leng];omega))).1
     exact .inr ⟨b,o,e,Ag hlt h.size,λi c hi=>⟨(World.cell?_of_block (a:=⟨b,o+i*2,none⟩) (h.same b hlt d)).trans (hc i c hi).1,(World.cell?_of_block (a:=⟨b,o+i*2+1,none⟩) (h.same b hlt d)).trans (hc i c hi).2⟩⟩
theorem Kd.no{w:World}{X:Nat}{f g:Nat->Nat}{b:Nat}{p c q:Option Addr}{m d r c1 j o:Nat}(h:Kd w X f g b (.slice p m c1) (.slice c d j) (.slice q r o)){k:IntKind}(a:k≠.i64)(i:Nat)(x:Int):w.cell? ⟨X,i,none⟩≠some (.int k x):=by
 by_cases hi:i<320
 · rw[h.cell hi]
   unfold kF cF;intro e
   split at e
   · split at e
     · simp at e;exact a e.1.symm
     · split at e
       · simp at e;exact a e.1.symm
       · simp at e;exact a e.1.symm
   · split at e
     · simp at e
     · split at e<;>simp at e
 · rw[cell_of_row _ _ i _ _ (0,0) h,AT (by rw[bJ];omega)]
   simp
def gj(W:World)(S:List Sy)(n1:Nat)(l1 l2:Nat->Nat)(T:List Cd)(e:Ending)(w':World):Prop:=∃A1 c1 A2 c2 A3 c3,e=.returned (.tuple #[.agg (KV (cs false S) (cs true S) (smb S) (.slice A1 n1 c1) (.slice A2 30 c2) (.slice A3 T.length c3)),.int .i64 0])/\
 av w' .u8 A1 n1 (λi=>(l1 i:Int))/\av w' .u8 A2 30 (λi=>(l2 i:Int))/\az w' A3 T.length T/\Below W.heap.size W w'/\(∀b o,A1=some ⟨b,o,none⟩->W.heap.size<=b)/\(∀b o,A2=some ⟨b,o,none⟩->W.heap.size<=b)
theorem fJ(A:Option Addr)(n c:Nat)(L:List Tk)(w:World)(H:Y.Tab w)(M:IsTks w A n L)(hn:n<=100000)(O:∀t∈L,may t=true)(r:rI L):
 Calls prog 202 #[.int .u8 1,.slice A n c] w (gj w (sys L) 288 fxl (λ_=>5) []):=by
 have hz:=oJ;have x:Below w.heap.size w (w.alloc (.cells (KV (λ_=>0) (λ_=>0) 0 (.slice none 0 0) (.slice none 0 0) (.slice none 0 0)) 292)):=qL;have D:=qH (Kd.new w (λ_=>0) (λ_=>0) 0 (.slice none 0 0) (.slice none 0 0) (.slice none 0 0));have E:=qH x;have s:=qH (pa L r A n c _ (H.below x qR) (M.below x) hn O);have z:=qH fixed_f;generalize hS:sys L=S at s ⊢;have F:=qH (λd:World=>by
  have h:=(Kd.new d (λ_=>0) (λ_=>0) 0 (.slice none 0 0) (.slice none 0 0) (.slice none 0 0)).store (cs false S) (cs true S) (smb S) (.slice none 0 0) (.slice none 0 0) (.slice none 0 0) rfl rfl rfl;rw[World.setRow_alloc_new] at h;exact h)
 clear x H M O hS r;go_enter func202,ntmps202
 go_wp2_with (first
  |(go_at_call 241;(with_reducible refine s.o.mono ?_);rintro e d ⟨rfl,I⟩;have Q:=qH (D.o.below I);have m:=qbt E I;clear I)
  |refine dr rfl _ rfl _ _ _ rfl ?_
  |refine aB rfl 292 _ _ rfl _ _ rfl _ rfl (F.o d) ?_
  |(go_at_call 209;(with_reducible refine(z.o _).mono ?_);rintro e T ⟨i,c1,j,k,rfl,U,K,y,R,N,J⟩
    clear J;have U1:=qH (show ∀b o,i=some ⟨b,o,none⟩->w.heap.size<=b from λb o q=>by have G:=R b o q;have h2:=m.o.size;simp at G;omega);have U2:=qH (show ∀b o,j=some ⟨b,o,none⟩->w.heap.size<=b from λb o q=>by have G:=N b o q;have h2:=m.o.size;simp at G;omega);have kd:=(Kd.new d (cs false S) (cs true S) (smb S) (.slice none 0 0) (.slice none 0 0) (.slice none 0 0)).below y;have k7:=kd.at1;have k8:=kd.at2;have f7:=kd.free 317;have f8:=kd.free 318;have W:=qH ((kd.set 317 (.slice i 288 c1) (.slice i 288 c1) (.slice none 0 0) (.slice none 0 0) (kF1 _)).set 318 (.slice j 30 k) (.slice i 288 c1) (.slice j 30 k) (.slice none 0 0) (kF2 _));have C:w.heap.size≠d.heap.size:=(by have:=Q.o.lt;omega);have P:=(Q.o.alloc (.cells (KV (cs false S) (cs true S) (smb S) (.slice none 0 0) (.slice none 0 0) (.slice none 0 0)) 292)).below y;have R2:=qH ((P.other (a:=⟨d.heap.size,317,none⟩) C (.slice i 288 c1)).other (a:=⟨d.heap.size,318,none⟩) C (.slice j 30 k));have N1:=qH ((Off.trans (Off.cellSet d.heap.size 317 T (.slice i 288 c1)) (Off.cellSet d.heap.size 318 _ (.slice j 30 k))).nums U (λo=>kd.no (by decide) o _));have N2:=qH ((Off.trans (Off.cellSet d.heap.size 317 T (.slice i 288 c1)) (Off.cellSet d.heap.size 318 _ (.slice j 30 k))).nums K (λo=>kd.no (by decide) o _));have Z:=qH ((((m.o.alloc m.o.size _).trans (y.mono (m.o.alloc m.o.size _).size)).setCell (p:=⟨d.heap.size,317,none⟩) m.o.size (.slice i 288 c1)).setCell (p:=⟨d.heap.size,318,none⟩) m.o.size (.slice j 30 k));have LD:=qH W.o.load;have V:=qH (R2.o.store (cs false S) (cs true S) (smb S) (.slice i 288 c1) (.slice j 30 k) (.slice none 0 0) rfl rfl rfl);clear kd P U K y C R N)
  |refine bC rfl 292 _ rfl _ _ rfl _ LD.o ?_
  |refine aB rfl 292 _ _ rfl _ _ rfl _ rfl V.o ?_)
 have hF:=R2.o.setRow (cs false S) (cs true S) (smb S) (.slice i 288 c1) (.slice j 30 k) (.slice none 0 0);refine bodyPost_ret (v:=.tuple #[.agg (KV (cs false S) (cs true S) (smb S) (.slice i 288 c1) (.slice j 30 k) (.slice none 0 0)),.int .i64 0]) (aX (p:=4) (u:=5) (ty:= 292) rfl _ _ w.heap.size _ _ _ _ rfl hF underlying292 rfl (by rw[bJ];exact oK)) rfl ⟨i,c1,j,k,none,0,rfl,?_,?_,az.nil _ _,?_,U1.o,U2.o⟩
 · exact(Off.rowSet w.heap.size _ _).nums N1.o (λo=>R2.o.no (by decide) o _)
 · exact(Off.rowSet w.heap.size _ _).nums N2.o (λo=>R2.o.no (by decide) o _)
 · exact below_setRow Z.o w.heap.size _ qR
theorem pf(A:Option Addr)(n c:Nat)(L:List Tk)(w:World)(H:Tabs w)(P:IsTks w A n L)(hn:n<=100000)(hm:∀t∈L,may t=true)(N:wI L):
 Calls prog 202 #[.int .u8 2,.slice A n c] w (gj w (sys L) 286 (ll1 L) (ll2 L) (tbl (lx1 L) (lx2 L))):=by
 have hz:=oJ;have J:Below w.heap.size w (w.alloc (.cells (KV (λ_=>0) (λ_=>0) 0 (.slice none 0 0) (.slice none 0 0) (.slice none 0 0)) 292)):=qL;have Q:=qH (Kd.new w (λ_=>0) (λ_=>0) 0 (.slice none 0 0) (.slice none 0 0) (.slice none 0 0));have U:=qH J;have F:=qH (pa L N.2.2 A n c _ (H.keep J).2 (P.below J) hn hm);have q:=qH (λd=>Ik L d (by have:=fj L;have:=P.leng;omega) N);obtain⟨S,hS⟩:∃S,sys L=S:=⟨_,rfl⟩
 obtain⟨T,R⟩:∃T,tbl (lx1 L) (lx2 L)=T:=⟨_,rfl⟩
 have s:=qH (show ∀W a z,Below w.heap.size w W->Br W a 286 (ll1 L)->Br W z 30 (ll2 L)->Calls prog 243 #[.agg #[.slice (some ⟨a,0,none⟩) 286 286,.slice (some ⟨z,0,none⟩) 30 30]] W (KJ W T) from λW a z b G I=>by
  have h:=pZ (some ⟨a,0,none⟩) (some ⟨z,0,none⟩) 286 30 (lx1 L) (lx2 L) W (H.keep b).1 (IsBys.of_br G (by omega) (λi=>qK (hfl_le _ (by omega) (by decide) i) (by omega))) (IsBys.of_br I (by omega) (λi=>qK (hfl_le _ (by omega) (by decide) i) (by omega))) (by omega) (by omega)
   (λx M=>by obtain⟨i,_,rfl⟩:=Ay.1 M;exact hfl_le _ (by omega) (by decide) i) (λx M=>by obtain⟨i,_,rfl⟩:=Ay.1 M;exact hfl_le _ (by omega) (by decide) i)
  rw[R] at h;exact h)
 obtain⟨l1,y⟩:∃l1,ll1 L=l1:=⟨_,rfl⟩
 obtain⟨l2,D⟩:∃l2,ll2 L=l2:=⟨_,rfl⟩
 rw[hS] at F q;rw[y,D] at q s;rw[hS,R,y,D];unfold pL at q;unfold KJ at s;have V:=qH (λd:World=>by
  have h:=(Kd.new d (λ_=>0) (λ_=>0) 0 (.slice none 0 0) (.slice none 0 0) (.slice none 0 0)).store (cs false S) (cs true S) (smb S) (.slice none 0 0) (.slice none 0 0) (.slice none 0 0) rfl rfl rfl;rw[World.setRow_alloc_new] at h;exact h)
 have a0:=qH (λd:World=>(Kd.new d (cs false S) (cs true S) (smb S) (.slice none 0 0) (.slice none 0 0) (.slice none 0 0)).counts);clear J H P hm hS R y D N;go_enter func202,ntmps202
 go_wp2_with (first
  |(go_at_call 241;(with_reducible refine F.o.mono ?_);rintro e d ⟨rfl,Z⟩;have R1:=qH (Q.o.below Z);have m:=qbt U Z;clear Z)
  |refine dr rfl _ rfl _ _ _ rfl ?_
  |refine aB rfl 292 _ _ rfl _ _ rfl _ rfl (V.o d) ?_
  |refine bC rfl 290 _ rfl _ _ rfl _ (a0.o d) ?_
  |(go_at_call 242;(with_reducible refine(q.o _).mono ?_);rintro e w2 ⟨a,z,rfl,na,nz,G,I,K⟩
    have kd:=((Kd.new d (cs false S) (cs true S) (smb S) (.slice none 0 0) (.slice none 0 0) (.slice none 0 0)).below K).alloc (.cells #[.slice (some ⟨a,0,none⟩) 286 286,.slice (some ⟨z,0,none⟩) 30 30] 149);have k7:=kd.at1;have k8:=kd.at2;have f7:=kd.free 317;have f8:=kd.free 318;have KA:=qH ((kd.set 317 (.slice (some ⟨a,0,none⟩) 286 286) (.slice (some ⟨a,0,none⟩) 286 286) (.slice none 0 0) (.slice none 0 0) (kF1 _)).set 318 (.slice (some ⟨z,0,none⟩) 30 30) (.slice (some ⟨a,0,none⟩) 286 286) (.slice (some ⟨z,0,none⟩) 30 30) (.slice none 0 0) (kF2 _));have U1:=qH (show w.heap.size<=a from by have:=m.o.size;simp at na;omega);have U2:=qH (show w.heap.size<=z from by have:=m.o.size;simp at nz;omega);have E:w.heap.size≠d.heap.size:=(by have:=R1.o.lt;omega);have C:a≠d.heap.size:=(by simp at na;omega);have r:z≠d.heap.size:=(by simp at nz;omega);have r2:=((R1.o.alloc (.cells (KV (cs false S) (cs true S) (smb S) (.slice none 0 0) (.slice none 0 0) (.slice none 0 0)) 292)).below K).alloc (.cells #[.slice (some ⟨a,0,none⟩) 286 286,.slice (some ⟨z,0,none⟩) 30 30] 149);have R2:=qH ((r2.other (a:=⟨d.heap.size,317,none⟩) E (.slice (some ⟨a,0,none⟩) 286 286)).other (a:=⟨d.heap.size,318,none⟩) E (.slice (some ⟨z,0,none⟩) 30 30));have N1:=qH (((G.alloc (.cells #[.slice (some ⟨a,0,none⟩) 286 286,.slice (some ⟨z,0,none⟩) 30 30] 149)).other (a:=⟨d.heap.size,317,none⟩) C (.slice (some ⟨a,0,none⟩) 286 286)).other (a:=⟨d.heap.size,318,none⟩) C (.slice (some ⟨z,0,none⟩) 30 30));have N2:=qH (((I.alloc (.cells #[.slice (some ⟨a,0,none⟩) 286 286,.slice (some ⟨z,0,none⟩) 30 30] 149)).other (a:=⟨d.heap.size,317,none⟩) r (.slice (some ⟨a,0,none⟩) 286 286)).other (a:=⟨d.heap.size,318,none⟩) r (.slice (some ⟨z,0,none⟩) 30 30));have O:=((m.o.alloc m.o.size (.cells (KV (cs false S) (cs true S) (smb S) (.slice none 0 0) (.slice none 0 0) (.slice none 0 0)) 292)).trans (K.mono (m.o.alloc m.o.size _).size));have Y:=qH (((O.alloc O.size (.cells #[.slice (some ⟨a,0,none⟩) 286 286,.slice (some ⟨z,0,none⟩) 30 30] 149)).setCell (p:=⟨d.heap.size,317,none⟩) m.o.size (.slice (some ⟨a,0,none⟩) 286 286)).setCell (p:=⟨d.heap.size,318,none⟩) m.o.size (.slice (some ⟨z,0,none⟩) 30 30));clear kd r2 G I na nz K E C r O)
  |(go_at_call 243;(with_reducible refine(s.o _ _ _ Y.o N1.o N2.o).mono ?_);rintro e w3 ⟨j,k,rfl,i3,b3⟩
    have kd:=KA.o.below b3;have k9:=kd.at3;have f9:=kd.free 319;have KB:=qH (kd.set 319 (.slice j T.length k) (.slice (some ⟨a,0,none⟩) 286 286) (.slice (some ⟨z,0,none⟩) 30 30) (.slice j T.length k) (kF3 _));have E:w.heap.size≠d.heap.size:=(by have:=R1.o.lt;omega);have R3:=qH ((R2.o.below b3).other (a:=⟨d.heap.size,319,none⟩) E (.slice j T.length k));have M1:=qH ((Off.cellSet d.heap.size 319 w3 (.slice j T.length k)).nums (mW (bp N1.o b3)) (λo=>kd.no (by decide) o _));have M2:=qH ((Off.cellSet d.heap.size 319 w3 (.slice j T.length k)).nums (mW (bp N2.o b3)) (λo=>kd.no (by decide) o _));have M3:=qH ((Off.cellSet d.heap.size 319 w3 (.slice j T.length k)).cds i3 (λo x=>kd.no (by decide) o x));have B3:=qH ((Y.o.trans (b3.mono Y.o.size)).setCell (p:=⟨d.heap.size,319,none⟩) m.o.size (.slice j T.length k));have LD:=qH KB.o.load;have ST:=qH (R3.o.store (cs false S) (cs true S) (smb S) (.slice (some ⟨a,0,none⟩) 286 286) (.slice (some ⟨z,0,none⟩) 30 30) (.slice j T.length k) rfl rfl rfl);clear kd i3 b3 E)
  |refine bC rfl 292 _ rfl _ _ rfl _ LD.o ?_
  |refine aB rfl 292 _ _ rfl _ _ rfl _ rfl ST.o ?_)
 have hF:=R3.o.setRow (cs false S) (cs true S) (smb S) (.slice (some ⟨a,0,none⟩) 286 286) (.slice (some ⟨z,0,none⟩) 30 30) (.slice j T.length k);refine bodyPost_ret (v:=.tuple #[.agg (KV (cs false S) (cs true S) (smb S) (.slice (some ⟨a,0,none⟩) 286 286) (.slice (some ⟨z,0,none⟩) 30 30) (.slice j T.length k)),.int .i64 0]) (aX (p:=4) (u:=5) (ty:= 292) rfl _ _ w.heap.size _ _ _ _ rfl hF underlying292 rfl (by rw[bJ];exact oK)) rfl ⟨_,286,_,30,j,k,rfl,?_,?_,?_,?_,λb o e=>(by cases e;exact U1.o),λb o e=>(by cases e;exact U2.o)⟩
 · exact(Off.rowSet w.heap.size _ _).nums M1.o (λo=>R3.o.no (by decide) o _)
 · exact(Off.rowSet w.heap.size _ _).nums M2.o (λo=>R3.o.no (by decide) o _)
 · exact(Off.rowSet w.heap.size _ _).cds M3.o (λo x=>R3.o.no (by decide) o x)
 · exact below_setRow B3.o w.heap.size _ qR
theorem qY(A:Option Addr)(n c:Nat)(L:List Tk)(w:World)(H:Tabs w)(d:IsTks w A n L)(a:n<=100000)(e:∀t∈L,may t=true):
 Calls prog 202 #[.int .u8 2,.slice A n c] w (gj w (sys L) 286 (ll1 L) (ll2 L) (tbl (lx1 L) (lx2 L))):=pf A n c L w H d a e (IS L)
def szc:List Cd->Nat
 |[]=>0
 |c::l=>c.2+szc l
theorem gP:∀l r:List Cd,szc (l++r)=szc l+szc r
 |[],r=>by simp[szc]
 |c::l,r=>by simp only[Ac,szc,gP l r];omega
theorem xc(l:List Cd)(k:Nat)(a:k<l.length):szc (l.take (k+1))=szc (l.take k)+(l.getD k default).2:=by
 rw[Bd,List.getD,qE a,gP];simp[szc]
theorem DQ{l:List Cd}(h:∀c∈l,c.2<=255):szc l<=255*l.length:=by
 induction l with
 |nil=>simp[szc]
 |cons c l ih=>
  have d:=ih (λz a=>h z (AK _ a));have e:=h c Aq;simp only[szc,qC];omega
theorem xJ(n k:Nat):put n (k+1)=n%2::put (n/2) k:=by
 unfold put;rw[Dc,Al,BC];congr 1
 · simp
 · apply BG
   intro i _;show n/2^(i+1)%2=n/2/2^i%2
   rw[AN,Ao,BJ]
theorem nX(c:Nat):∀s,put (rv c s) s=cdb c s
 |0=>rfl
 |s+1=>by
  rw[xJ,cdb_succ,<-nX c s];have h:rv c (s+1)=2*rv c s+c/2^s%2:=rfl;rw[h];have a:c/2^s%2<2:=AR _ (by decide);rw[show(2*rv c s+c/2^s%2)%2=c/2^s%2 by omega,show(2*rv c s+c/2^s%2) /2=rv c s by omega]
def cbs(c:Cd):List Nat:=put c.1 c.2
theorem fR:∀l:List Cd,(l.flatMap cbs).length=szc l
 |[]=>rfl
 |c::l=>by rw[AZ,qA,fR l];show(put c.1 c.2).length+_=_;rw[put_length];rfl
theorem wV(f:Nat->Nat)(y:Rn):(tr1 f y).flatMap cbs=wrn f y:=by
 unfold tr1 wrn cbs;simp only[AZ,Dn,Az];rw[<-nX];rfl
theorem nC(f:Nat->Nat):∀r:List Rn,(tbr f r).flatMap cbs=r.flatMap (wrn f)
 |[]=>rfl
 |y::r=>by
  have a:=nC f r;unfold tbr at a ⊢;rw[AZ,AL,wV,a,AZ]
theorem wZ(c a:List Nat):(tbl c a).flatMap cbs=dyb c a (rrn c a) (rrf c a):=by
 obtain⟨f,hf⟩:∃f,rrf c a=f:=⟨_,rfl⟩
 have d:(tb3 c a f).flatMap cbs=put (upt c 257 - 257) 5++put (upt a 1 - 1) 5++put (upt (inl f) 4 - 4) 4:=(by simp[tb3,cbs]);have e:(tbi f).flatMap cbs=((inl f).take (upt (inl f) 4)).flatMap (λx=>put x 3):=by
  unfold tbi;rw[List.flatMap_map];rfl
 unfold tbl dyb;rw[hf,AL,AL,nC,d,e]
def Rft(r:Rn):Prop:=r.e<2^rbn r.s
theorem zrs_ft(n:Nat):∀r∈zrs n,Rft r:=by
 induction n using Nat.strongRecOn with
 |_ n ih=>
  intro r hr;by_cases h:11<=n
  · rw[bB h,Ab] at hr
    rcases hr with rfl|hr
    · show _<128;simp only;omega
    · exact ih _ (by omega) r hr
  · by_cases a:3<=n
    · rw[bA h a,Bc] at hr
      subst hr;show _<8;simp only;omega
    · rw[aV a] at hr
      rw[BD hr];show 0<1;omega
theorem rbn_few{v:Nat}(a:v<=15):rbn v=0:=by unfold rbn;rw[A7 (by omega)]
theorem oths_ft(v:Nat)(a:v<=15)(n:Nat):∀r∈qs v n,Rft r:=by
 induction n using Nat.strongRecOn with
 |_ n ih=>
  intro r hr;by_cases h:3<=n
  · rw[bf h,Ab] at hr
    rcases hr with rfl|hr
    · show _<4;simp only;omega
    · exact ih _ (by omega) r hr
  · rw[bE h] at hr
    rw[BD hr];unfold Rft;rw[rbn_few a];show 0<1;omega
theorem pk_ft:∀l:List Nat,(∀v∈l,v<=15)->∀r∈pk l,Rft r:=by
 intro l;generalize e:l.length=n
 induction n using Nat.strongRecOn generalizing l with
 |_ n ih=>
  cases l with
  |nil=>intro _ r hr;rw[gY] at hr;cases hr
  |cons v l=>
   intro c r hr;rw[aZ,AH] at hr;have a:=c v (by simp);rcases hr with hr|hr
   · unfold one at hr
     split at hr
     · exact zrs_ft _ r hr
     · unfold oth at hr
       rw[Ab] at hr;rcases hr with rfl|hr
       · unfold Rft;rw[rbn_few a];show 0<1;omega
       · exact oths_ft v a _ r hr
   · rw[qC] at e
     exact ih (l.drop (ru v l)).length (by rw[AF];omega) _ rfl (λx d=>c x (by simp[BV d])) r hr
theorem sx(L:List Tk):(tbl (lx1 L) (lx2 L)).flatMap cbs=hdd L:=wZ _ _
theorem jM(L:List Tk):(tbl (lx1 L) (lx2 L)).length<=1000/\∀c∈tbl (lx1 L) (lx2 L),c.2<=15/\c.1<2^c.2:=by
 have o:rrn (lx1 L) (lx2 L)=rrs L:=rfl;have hf:rrf (lx1 L) (lx2 L)=ll3 L:=rfl;have E:=rrs_len L;have a:∀v∈(lx1 L).take (upt (lx1 L) 257)++(lx2 L).take (upt (lx2 L) 1),v<=15:=λv m=>by
  rcases AH.1 m with q|q
  · obtain⟨i,_,rfl⟩:=Ay.1 (AO q);exact hfl_le _ (by omega) (by decide) i
  · obtain⟨i,_,rfl⟩:=Ay.1 (AO q);exact hfl_le _ (by omega) (by decide) i
 have e:∀y∈rrs L,Rft y:=pk_ft _ a;have h:∀i,ll3 L i<=7:=λi=>hfl_le _ (by omega) (by decide) i
 unfold tbl;rw[o,hf];refine⟨?_,λc hc=> ?_⟩
 · rw[qA,qA,lJ]
   have s:(tbi (ll3 L)).length<=19:=by
    unfold tbi;rw[Ah,Af];have:(inl (ll3 L)).length=19:=(by simp[inl,ord]);omega
   have D:(tb3 (lx1 L) (lx2 L) (ll3 L)).length=3:=rfl;omega
 · rcases AH.1 hc with hc|hc
   · rcases AH.1 hc with hc|hc
     · have t:=upt_le (lx1 L) 257
       have z:=upt_le (lx2 L) 1;have r:=upt_le (inl (ll3 L)) 4;have u:(lx1 L).length=286:=(by unfold lx1;simp);have F:(lx2 L).length=30:=(by unfold lx2;simp);have p:(inl (ll3 L)).length=19:=(by simp[inl,ord]);unfold tb3 at hc;simp only[Ab,BH,BI] at hc;rcases hc with rfl|rfl|rfl
       · exact⟨by simp,by show _<32;simp only;omega⟩
       · exact⟨by simp,by show _<32;simp only;omega⟩
       · exact⟨by simp,by show _<16;simp only;omega⟩
     · unfold tbi at hc
       obtain⟨x,j,rfl⟩:=Ay.1 hc;have:=uK (ll3 L) h x (AO j);exact⟨by simp,by show x<8;omega⟩
   · unfold tbr at hc
     obtain⟨y,k,hc⟩:=Cg.1 hc;have d:=e y k;unfold tr1 at hc;simp only[Ab,BH,BI] at hc;rcases hc with rfl|rfl
     · exact⟨qK (h _) (by omega),C.rc_lt _ _ _⟩
     · exact⟨qK (ts _) (by omega),d⟩
theorem nP{f:Nat->Nat}{c:Nat}:∀n,(∀i,i<n->f i<=c)->M.sm f n<=n*c
 |0,_=>by simp[M.sm]
 |n+1,h=>by
  have:=nP n (λi hi=>h i (by omega));have:=h n (by omega);simp only[M.sm];rw[C9];omega
theorem gL(A B:Option Addr)(n c m d:Nat)(f g:Nat->Nat)(w:World)(J:av w .i64 A n (λi=>(f i:Int)))(N:av w .u8 B m (λi=>(g i:Int)))(O:n<=m)(hn:n<=400)(hf:∀i,f i<=200001)(D:∀i,g i<=255):
 Calls prog 269 #[.slice A n c,.slice B m d] w λe w'=>e=.returned (.int .i64 (M.sm (λi=>f i*g i) n:Nat))/\w'=w:=by
 obtain⟨F,G⟩:=qh2 J N;have j:∀i,f i*g i<=51000255:=λi=>BS (hf i) (D i)
 have h:∀k,M.sm (λi=>f i*g i) k<=k*51000255:=λk=>nP k (λi _=>j i)
 obtain⟨Q,r,Z,U⟩:=qh4 j h hf D;clear J N j h hf D;go_enter func269,ntmps269;go_wp2_with fail
 go_loopw [5,10] (λs x wr=> ∃k:Nat,k<=n/\x=.int .i64 k/\s=.int .i64 (M.sm (λi=>f i*g i) k:Nat)/\w=wr) (λ_ x _=>n - (intOf x).toNat)
 case atStart=>exact⟨0,qZ,rfl,rfl,rfl⟩
 case round=>
  obtain⟨k,Y,rfl,rfl,rfl⟩:=hrel;by_cases H:k<n
  · obtain⟨b1,W,rfl,_hb1,u⟩:=F.o (by omega)
    obtain⟨b2,V,rfl,_hb2,t⟩:=G.o (by omega);have c0:=u k H;have c1:=t k (by omega);simp only at c0 c1;have hs:M.sm (λi=>f i*g i) (k+1)=M.sm (λi=>f i*g i) k+f k*g k:=rfl;have I:=Q.o k;have K:=r.o k;have E:M.sm (λi=>f i*g i) k<=400*51000255:=qK K (CF _ (by omega));obtain⟨a,C⟩:∃a,f k=a:=⟨_,rfl⟩
    obtain⟨z,y⟩:∃z,g k=z:=⟨_,rfl⟩
    have R:z<=255:=(by rw[<-y];exact U.o k);rw[C,y] at hs I;rw[C] at c0;rw[y] at c1;obtain⟨p,j⟩:∃p,a*z=p:=⟨_,rfl⟩
    rw[j] at hs I;have e1:(a:Int)*(z:Int)=(p:Int):=(by rw[<-j];exact(Cc a z).symm);obtain⟨s,q⟩:∃s,M.sm (λi=>f i*g i) k=s:=⟨_,rfl⟩
    rw[q] at hs E;have T:=qH hs;have S:k<m:=(by omega);have P:k<=400:=(by omega);simp only[q];clear u t hs K C y j q;go_wp2_with fail;go_roundw
    case rel=>exact⟨k+1,by omega,by go_num,by rw[T.o];go_num,trivial⟩
    case measure=>(simp[intOf];try omega)
  · obtain rfl:k=n:=by omega
    go_wp2_with fail;go_ret;exact⟨rfl,rfl⟩
theorem vB(S:List Sy)(y u C:Option Addr)(d c1 z N D:Nat)(P I:Nat->Nat)(T:List Cd)(w:World)(hS:S.length<=200001)(a6:smb S<=3000000)(H1:av w .u8 y d (λi=>(P i:Int)))(H2:av w .u8 u 30 (λi=>(I i:Int)))(H3:az w C N T)(h1:286<=d)(hN:N<=1000)(hT:∀c∈T,c.2<=255)(E:∀i,P i<=255)(Q:∀i,I i<=255):
 Calls prog 234 #[.agg (KV (cs false S) (cs true S) (smb S) (.slice y d c1) (.slice u 30 z) (.slice C N D))] w λe w'=>e=.returned (.int .i64 ((3+szc T+(M.sm (λi=>cs false S i*P i) 286+M.sm (λi=>cs true S i*I i) 30)+smb S:Nat):Int))/\Below w.heap.size w w':=by
 have HK:=qH (Kd.new w (cs false S) (cs true S) (smb S) (.slice y d c1) (.slice u 30 z) (.slice C N D));have m:=qH ((Below.refl w.heap.size w).alloc qR (.cells (KV (cs false S) (cs true S) (smb S) (.slice y d c1) (.slice u 30 z) (.slice C N D)) 292));have H:=qH (show ∀W,Below (w.heap.size+1) (w.alloc (.cells (KV (cs false S) (cs true S) (smb S) (.slice y d c1) (.slice u 30 z) (.slice C N D)) 292)) W->∀q,Calls prog 269 #[.slice (some ⟨w.heap.size,0,none⟩) 286 286,.slice y d c1] (W.drewN q) λe w'=>e=.returned (.int .i64 (M.sm (λi=>cs false S i*P i) 286:Nat))/\w'=W.drewN q from λW b q=>by
  have U:Kd W w.heap.size (cs false S) (cs true S) (smb S) (.slice y d c1) (.slice u 30 z) (.slice C N D):=(Kd.new w _ _ _ _ _ _).below (b.mono (by simp));exact gL _ _ 286 286 d c1 (cs false S) P (W.drewN q) (U.nums.drewN q) ((H1.below (m.o.trans (b.mono (by omega)))).drewN q) h1 (by omega) (λi=>qK (kS false S i) hS) E)
 have J:=qH (show ∀W,Below (w.heap.size+1) (w.alloc (.cells (KV (cs false S) (cs true S) (smb S) (.slice y d c1) (.slice u 30 z) (.slice C N D)) 292)) W->∀q,Calls prog 269 #[.slice (some ⟨w.heap.size,286,none⟩) 30 30,.slice u 30 z] (W.drewN q) λe w'=>e=.returned (.int .i64 (M.sm (λi=>cs true S i*I i) 30:Nat))/\w'=W.drewN q from λW b q=>by
  have U:Kd W w.heap.size (cs false S) (cs true S) (smb S) (.slice y d c1) (.slice u 30 z) (.slice C N D):=(Kd.new w _ _ _ _ _ _).below (b.mono (by simp));exact gL _ _ 30 30 30 z (cs true S) I (W.drewN q) (U.numsd.drewN q) ((H2.below (m.o.trans (b.mono (by omega)))).drewN q) (by omega) (by omega) (λi=>qK (kS true S i) hS) Q)
 have a2:=qH H3;have a0:∀k,szc (T.take k)<=255000:=λk=>by
  have h:=DQ (l:=T.take k) (λc R=>hT c (AO R));have:(T.take k).length<=1000:=(by rw[Af,H3.leng];omega);omega
 have Z:=qH a0;have a5:=qH (show ∀k,k<N->(T.getD k default).2<=255 from λk U=>hT _ (by rw[List.getD,qE (by rw[H3.leng];exact U)];exact AW _));have r:=qH H3.leng;have e1:M.sm (λi=>cs false S i*P i) 286<=286*51000255:=nP 286 (λi _=>BS (qK (kS false S i) hS) (E i));have e2:M.sm (λi=>cs true S i*I i) 30<=30*51000255:=nP 30 (λi _=>BS (qK (kS true S i) hS) (Q i));obtain⟨X1,F⟩:∃X1,M.sm (λi=>cs false S i*P i) 286=X1:=⟨_,rfl⟩
 obtain⟨X2,G⟩:∃X2,M.sm (λi=>cs true S i*I i) 30=X2:=⟨_,rfl⟩
 obtain⟨b,j⟩:∃b,smb S=b:=⟨_,rfl⟩
 rw[F] at H e1;rw[G] at J e2;rw[j] at HK m H J a6;rw[F,G,j];clear H1 H2 H3 hT a0 E Q F G j h1 hS;go_enter func234,ntmps234;have k9:=HK.o.at3;go_wp2_with fail
 go_loopw [3,9] (λs x wr=> ∃k:Nat,k<=N/\x=.int .i64 k/\s=.int .i64 (3+szc (T.take k):Nat)/\Below (w.heap.size+1) (w.alloc (.cells (KV (cs false S) (cs true S) b (.slice y d c1) (.slice u 30 z) (.slice C N D)) 292)) wr) (λ_ x _=>N - (intOf x).toNat)
 case atStart=>exact⟨0,qZ,rfl,rfl,Below.refl _ _⟩
 case round=>
  obtain⟨k,U,rfl,rfl,j⟩:=hrel;by_cases O:k<N
  · obtain⟨b3,o3,rfl,Y,V⟩:=a2.o.at (by omega)
    obtain⟨g0,g1⟩:=V k O;have K:Below w.heap.size w wr:=m.o.trans (j.mono (by omega));have c0:=(K.cell (p:=⟨b3,o3+k*2,none⟩) Y).trans g0;have y1:=(K.cell (p:=⟨b3,o3+k*2+1,none⟩) Y).trans g1;have hz:=a5.o k O;have hs:=xc T k (by rw[r.o];exact O);have R:=Z.o k;generalize ht:T.getD k default=t at c0 y1 hz hs;obtain⟨t0,t1⟩:=t;simp only at c0 y1 hz hs;obtain⟨s,a⟩:∃s,szc (T.take k)=s:=⟨_,rfl⟩
    rw[a] at hs R;simp only[a];obtain⟨HS,HB⟩:=qh2 hs j;have a8:k<=1000:=(by omega);clear j K V hs ht a g0 g1;go_wp2_with fail;go_roundw
    case rel=>exact⟨k+1,by omega,by go_num,by rw[HS.o];go_num,HB.o.alloc (by have:=HB.o.size;simp at this;omega) _⟩
    case measure=>(simp[intOf];try omega)
  · obtain rfl:k=N:=by omega
    have kd:=HK.o.below (j.mono (by simp));have k7:=kd.at1;have k8:=kd.at2;have k6:=kd.bits;have R:=Z.o k;rw[Aj (by rw[r.o];exact qR)] at R;simp only[Aj (show T.length<=k by rw[r.o];exact qR)];obtain⟨s,a⟩:∃s,szc T=s:=⟨_,rfl⟩
    rw[a] at R;simp only[a];have a3:=qH (show((3+szc T+(X1+X2)+b:Nat):Int)=3+(s:Int)+((X1:Int)+(X2:Int))+(b:Int) by rw[a];omega);have a4:=qH (m.o.trans (j.mono (by omega)));have a1:=qH (H.o wr j);have a7:=qH (J.o wr j);clear kd j a;go_wp2_with fail
    go_quiet (first
     |(go_at_call 269;with_reducible refine Calls.quiet_of_same (a1.o _))
     |(go_at_call 269;with_reducible refine Calls.quiet_of_same (a7.o _)))
    go_wp2_with fail;go_ret;exact⟨by rw[a3.o];rfl,aj a4.o nq⟩
attribute [local go_sem] Oper.semAt_some
abbrev Pz:={x:ByteArray×Bool//x.1.size<=65535}
def Iz(x:Pz):Array Value:= #[.string x.1.1,.bool x.1.2]
def pcs(s:ByteArray):List Pz:=
 if h:s.size<=65535 then[⟨(s,true),h⟩] else⟨(s.extract 0 65535,false),by simp only[Ae];omega⟩::pcs (s.extract 65535 s.size)
termination_by s.size
decreasing_by
 rw[Ae];omega
theorem iV{s:ByteArray}(h:s.size<=65535):pcs s=[⟨(s,true),h⟩]:=by rw[pcs,Bl h]
theorem eH{s:ByteArray}(h:¬s.size<=65535):pcs s=⟨(s.extract 0 65535,false),by simp only[Ae];omega⟩::pcs (s.extract 65535 s.size):=by rw[pcs,Bz h]
theorem tK(s:ByteArray):(pcs s).length<=s.size/65535+1:=by
 generalize a:s.size=n
 induction n using Nat.strongRecOn generalizing s with
 |_ n ih=>
  by_cases h:s.size<=65535
  · rw[iV h];simp
  · rw[eH h,qC]
    have:=ih (n - 65535) (by omega) (s.extract 65535 s.size) (by rw[Ae];omega);omega
def stp(last:Bool):Nat->List Pz->List Nat
 |_,[]=> []
 |o,x::l=>stb o x.1.1 (last&&x.1.2)++stp last (o+(stb o x.1.1 (last&&x.1.2)).length) l
theorem iN(last:Bool)(x:Pz):∀ (l:List Pz) (o:Nat),stp last o (l++[x])=stp last o l++stb (o+(stp last o l).length) x.1.1 (last&&x.1.2)
 |[],o=>by simp[stp]
 |y::l,o=>by
  simp only[Ac,stp,iN last x l];rw[qD,qA,AC]
theorem sM(last:Bool)(s:ByteArray)(o:Nat):stp last o (pcs s)=stm o s last:=by
 generalize a:s.size=n
 induction n using Nat.strongRecOn generalizing s o with
 |_ n ih=>
  by_cases h:s.size<=65535
  · rw[iV h,lN h];simp[stp]
  · rw[eH h,nM h]
    simp only[stp,Bool.and_false];rw[ih (n - 65535) (by omega) (s.extract 65535 s.size) _ (by rw[Ae];omega)]
theorem nK(last:Bool):∀ (l:List Pz) (o:Nat),(stp last o l).length<=524322*l.length
 |[],o=>by simp[stp]
 |x::l,o=>by
  have:=nK last l (o+(stb o x.1.1 (last&&x.1.2)).length);have h:=x.2;have a:pd (o+3)<=7:=(by unfold pd;omega);simp only[stp,qA,qC];rw[stb_length] at*;omega
theorem qp(m l Bs:Nat)(s:ByteArray)(N:1<=m)(hs:s.size<=1000000)(K:World->World->Prop)(y:World)(J E:List Pz->World->Prop)
 (F:∀a x W,J a W->a.length<(pcs s).length->YieldAt Fence.wide (m - 1) prog l (Iz x) W λe j=>
  (e=.returned (.bool true)/\J (a++[x]) j/\K W j)\/(e=.returned (.bool false)/\E (a++[x]) j))
 (H:y.cell? ⟨Bs,0,none⟩=some (.string s)) (C:J [] y):
 CallsIn Fence.wide m prog 271 #[.func (.yield l) #[] #[],.pointer (some ⟨Bs,0,none⟩)] y λe j=>(∃v,e=.returned v)/\
  ((∃D:List Pz,D=pcs s/\J D j)\/(∃a:List Pz,(∃r,a++r=pcs s)/\E a j)):=by
 refine callsIn_of_wp func271 rfl trivial ?_ rfl;simp only[ntmps271,AE,qC,AB,Nat.reduceAdd,Nat.reduceSub,Be,Bf,Bg,Bh,Ap,Ac];have G:=qH F;clear F;gi_wp2
 gi_loopw [3] (λv wr=> ∃ (t:ByteArray) (a:List Pz),v=.string t/\t.size<=1000000/\a++pcs t=pcs s/\J a wr)
  (λv _=>match v with|.string t=>t.size|_=>0)
 case atStart=>exact⟨s,[],rfl,hs,rfl,C⟩
 case round=>
  obtain⟨t,a,rfl,O,d,c⟩:=hrel;by_cases i:t.size<=65535
  · have I:decide ((65535:Int)<(t.size:Int))=false:=qF (by omega)
    rw[iV i] at d;obtain⟨fn,tmps,z,body,p,q⟩:=G.o a ⟨(t,true),i⟩ wr c (by rw[<-d];simp);unfold Iz at p;dsimp only at p;have k:=qH d;clear d c C;gi_wp2;refine q.mono ?_
    rintro e M (⟨rfl,h,u⟩|⟨rfl,hJx3⟩)
    · gi_wp2
      go_end0;exact⟨⟨_,rfl⟩,.inl ⟨_,k.o,h⟩⟩
    · gi_wp2
      go_end0;exact⟨⟨_,rfl⟩,.inr ⟨_,⟨[],by rw[Az];exact k.o⟩,hJx3⟩⟩
  · have I:decide ((65535:Int)<(t.size:Int))=true:=q9T (by omega)
    rw[eH i] at d;obtain⟨fn,tmps,z,body,p,q⟩:=G.o a ⟨(t.extract 0 65535,false),by simp only[Ae];omega⟩ wr c (by rw[<-d];simp);unfold Iz at p;dsimp only at p;have k:=qH d;clear d c C;gi_wp2;refine q.mono ?_
    rintro e M (⟨rfl,h,u⟩|⟨rfl,hJx3⟩)
    · gi_wp2
      go_roundw
      case rel=>exact⟨t.extract 65535 t.size,_,rfl,by rw[Ae];omega,by rw[qD];exact k.o,h⟩
      case measure=>(simp;try omega)
    · gi_wp2
      refine bodyPost_ret (results_none rfl _ _ _) rfl ?_
      exact⟨⟨_,rfl⟩,.inr ⟨_,⟨_,by rw[qD];exact k.o⟩,hJx3⟩⟩
theorem gZ(s:ByteArray)(w:World):Calls prog 239 #[.string s] w λe w'=>
 e=.returned (.func (.func 271) #[] #[.pointer (some ⟨w.heap.size,0,none⟩)])/\w'=w.alloc (.cells #[.string s] 9):=by
 go_enter func239,ntmps239;go_wp2;go_ret;exact⟨by simp,rfl⟩
theorem ev(m Bs:Nat)(s:ByteArray)(e:1<=m)(hs:s.size<=1000000)(d:World->World->Prop)(w:World)(a:w.cell? ⟨Bs,0,none⟩=some (.string s)):
 SeqStopsK Fence.wide m prog 271 #[.pointer (some ⟨Bs,0,none⟩)] Iz d (λj=>j=pcs s) (λc=> ∃r,c++r=pcs s) (pcs s).length w:=λl J k W i q _ h o=>
 qp m l Bs s e hs d W J k h ((i.cell (p:=⟨Bs,0,none⟩) (qB a)).trans a) o
end V
namespace V
open Go Go.RowKit M U
attribute [local go_sem] Oper.semAt_some
def Kv(w2:World)(E n₁ o:Nat)(pre:List Pz)(W:World):Prop:=
 W.heap[E]? =some (.cells #[.int .i64 ((o+(stp false o pre).length:Nat):Int)] 3 (0,0))/\Kept (Sx E E n₁) w2 W
theorem Kv.own{j:World}{E n₁ o:Nat}(k:E<n₁):OwnFrom n₁ (Kv j E n₁ o):=λh W m row hs c d=>by
 obtain⟨a,i⟩:=hs;exact⟨(c.block E (qW.1 a).1 (λe=>by have:=(d E e.symm).1;omega)).trans a,i.grown c (λr e=> .inl (.inr (.inr (d r e).1)))⟩
theorem gn(s:ByteArray)(p:Nat)(w:World)(hs:s.size<=1000000)(hp:p<=1000000):
 Calls prog 233 #[.string s,.int .i64 p] w λe w'=>e=.returned (.int .i64 ((stm (p%8) s false).length:Nat))/\Below w.heap.size w w':=by
 obtain⟨o,ho⟩:∃o,p%8=o:=⟨_,rfl⟩
 have a3:o<=7:=(by omega);have m1:(p:Int)%8=(o:Int):=(by omega);have m2:(p:Int).tmod 8=(o:Int):=(by rw[BE (by omega)];omega);have HN:=qH (show(pcs s).length<=17 from by have:=tK s;omega);have G:=qH (show stp false o (pcs s)=stm o s false from sM false s o);rw[ho];clear ho;refine(callsIn_wide (n:=5)).1 ?_
 refine callsIn_of_wp_marks func233 rfl trivial ?_ rfl;simp only[ntmps233,AE,qC,AB,Nat.reduceAdd,Nat.reduceSub,Be,Bf,Bg,Bh,Ap,Ac]
 gi_wp2_with (refine⟨trivial,?_⟩;gi_at_call 239;refine(callsIn_wide.2 (gZ _ _)).mono ?_;rintro e w' ⟨rfl,rfl⟩)
 have J:((w.alloc (.cells #[.int .i64 o] 3)).alloc (.cells #[.string s] 9)).heap.size=w.heap.size+1+1:=(by simp);have E:Below w.heap.size w ((w.alloc (.cells #[.int .i64 o] 3)).alloc (.cells #[.string s] 9)):=((Below.refl _ w).alloc qR _).alloc (by simp) _;have N:((w.alloc (.cells #[.int .i64 o] 3)).alloc (.cells #[.string s] 9)).heap[w.heap.size]? =some (.cells #[.int .i64 o] 3 (0,0)):=old_at _ (new_at _ _);have M:((w.alloc (.cells #[.int .i64 o] 3)).alloc (.cells #[.string s] 9)).heap[w.heap.size+1]? =some (.cells #[.string s] 9 (0,0)):=by
  have:=new_at (w.alloc (.cells #[.int .i64 o] 3)) (.cells #[.string s] 9);rw[World.size_alloc] at this;exact this
 generalize Q:(w.alloc (.cells #[.int .i64 o] 3)).alloc (.cells #[.string s] 9)=m at J E N M ⊢;clear Q;have T:=qH E;have a0:w.heap.size<m.heap.size:=by omega
 have U:=qH (show ∀W,Kept (Sx w.heap.size w.heap.size m.heap.size) m W->Below w.heap.size w W from λW hk=>
  T.o.trans (hk.below (by omega) (λj hj=>by rcases hj with hj|hj|hj<;>omega)))
 clear E J m1 m2
 refine wpIn_rangeFunc_ownF rfl (by omega) (gf:= 271) (lb:= #[.pointer (some ⟨w.heap.size+1,0,none⟩)]) rfl trivial (enters_of func271 (by kernel_rfl) rfl)
  (ev 4 (w.heap.size+1) s (by omega) hs (Kept (Sx w.heap.size w.heap.size m.heap.size)) m (one_cell M))
  (λh k=>keptSx_t h k) (λW l o o' hl h _ _=>keptSx_b W l o o' hl h) (Below.refl _ _) (λ_=>rfl)
  (Kv m w.heap.size m.heap.size o) (λ_ _ _=>False) (Kv.own a0) (λ_ _ _ _ _ hs _ _=>hs)
  ⟨by simpa [stp] using N,Kept.refl _ _⟩
  (λx=> {tmps:= #[.string s,.int .i64 p,undef,undef,.int .i64 0,.int .i64 o,.pointer (some ⟨w.heap.size,0,none⟩),.string x.1.1,.int .i64 p,.int .i64 o,.int .i64 o,.string s,.func (.func 271) #[] #[.pointer (some ⟨w.heap.size+1,0,none⟩)],.string x.1.1,.bool x.1.2,undef,undef,undef,undef,undef,undef,undef,undef,undef,undef,undef,undef,undef,undef,undef,undef,undef],defers:=[]})
  ?assign ?body ?done ?stop
 case assign=>
  intro l x W K O;unfold Iz;gi_wp2;exact O
 case body=>
  rintro l a x W ⟨d,i⟩ a1;obtain⟨⟨t,lb⟩,P⟩:=x;have H:=iN false ⟨(t,lb),P⟩ a o;have u:=nK false a o;have R:=HN.o;simp only at P;have z:(stp false o (a++[⟨(t,lb),P⟩])).length=(stp false o a).length+(3+pd (o+(stp false o a).length+3)+32+t.size*8):=by
   rw[H,qA,stb_length]
  obtain⟨e,S⟩:∃e,o+(stp false o a).length=e:=⟨_,rfl⟩
  have y:∀W',W'.heap[w.heap.size]? =some (.cells #[.int .i64 ((e+3+pd (e+3)+(32+8*t.size):Nat):Int)] 3 (0,0))->Kept (Sx w.heap.size w.heap.size m.heap.size) m W'->Kv m w.heap.size m.heap.size o (a++[⟨(t,lb),P⟩]) W':=λW' h1 h2=>⟨by
   rw[z];rw[S];rw[show o+((stp false o a).length+(3+pd (e+3)+32+t.size*8))=e+3+pd (e+3)+(32+8*t.size) by omega];exact h1,h2⟩
  have C:=qH y;rw[S] at d;have a2:e<=10000000:=(by omega);have s0:=one_cell d;have f0:=one_free d;obtain⟨H1,H2⟩:=qh2 d i;obtain⟨q,F⟩:∃q,pd (e+3)=q:=⟨_,rfl⟩
  have a4:q<=7:=(by rw[<-F];unfold pd;omega);obtain⟨r,hr⟩:∃r,(e+3)%8=r:=⟨_,rfl⟩
  have r1:((e:Int)+3)%8=(r:Int):=(by omega);have r2:((e:Int)+3).tmod 8=(r:Int):=(by rw[BE (by omega)];omega);have r3:((8:Int) - (r:Int))%8=(q:Int):=(by rw[<-F];unfold pd;omega);have r4:((8:Int) - (r:Int)).tmod 8=(q:Int):=(by rw[BE (by omega)];rw[<-F];unfold pd;omega);rw[F] at C;dsimp only;clear d i H u z y S F hr R N M a1;gi_wp2;exact⟨((KeepsOthers.setCell _ _ _).trans (KeepsOthers.setCell _ _ _)).trans (KeepsOthers.setCell _ _ _),(((Kept.refl _ W).setCell ⟨w.heap.size,0,none⟩ (.inl (.inl rfl)) _).setCell ⟨w.heap.size,0,none⟩ (.inl (.inl rfl)) _).setCell ⟨w.heap.size,0,none⟩ (.inl (.inl rfl)) _,C.o _ (one_set (one_set (one_set H1.o _) _) _) (((H2.o.setCell ⟨w.heap.size,0,none⟩ (.inl (.inl rfl)) _).setCell ⟨w.heap.size,0,none⟩ (.inl (.inl rfl)) _).setCell ⟨w.heap.size,0,none⟩ (.inl (.inl rfl)) _)⟩
 case done=>
  rintro D ys W hD rfl ⟨d,i⟩ O;rw[G.o] at d;have s0:=one_cell d;have V:=qH O;have HB:=qH (U.o W i);have u:=nK false (pcs s) o;rw[G.o] at u;have R:=HN.o;generalize hZ:(stm o s false).length=Z at s0 u;have a5:Z<=10000000:=(by omega);have Y:=qH hZ;clear d i O hZ u R N M;gi_wp2;have I:=V.o;refine⟨by simp,.inl ⟨_,_,rfl,run_takeDeferred I,?_⟩⟩;exact⟨_,results_tmp rfl _ _ _,by rw[Y.o,show(o:Int)+(Z:Int) - (o:Int)=(Z:Int) by omega];rfl,HB.o.trans (belowK_b (w:=w) qR _ D _ _ (by omega) I rfl rfl)⟩
 case stop=>
  rintro D c a W _ _ h _;exact h.elim
end V
namespace V
open Go Go.RowKit M U
theorem rZ(a c:Nat->Nat){S:List Sy}(h:∀y∈S,(y.d=false->y.n<286)/\(y.d=true->y.n<30)):M.sm (λi=>cs false S i*a i) 286+M.sm (λi=>cs true S i*c i) 30+smb S=wgh a c S:=by
 rw[jG a c S h];congr 2
 · exact M.sm_congr _ (λi _=>Ao _ _)
 · exact M.sm_congr _ (λi _=>Ao _ _)
theorem FL{L:List Tk}{n:Nat}(e:L.length=n)(i:n<=100000)(c:∀t∈L,may t=true):(sys L).length<=200001/\smb (sys L)<=3000000:=by
 have d:=fj L;have h:=DT (S:=sys L) (λy a=>(xd c y a).1);omega
theorem nR(k:Nat)(A:Option Addr)(n c:Nat)(L:List Tk)(F:ByteArray)(p:Nat)(x:Nat)(d a:Nat->Nat)(T:List Cd)(w:World)(a1:k≠0)(a0:k<=2)(N:IsTks w A n L)(hn:n<=100000)(hr:F.size<=1000000)(hp:p<=1000000)(P:∀t∈L,may t=true)
 (HC:∀m,Below w.heap.size w m->Calls prog 202 #[.int .u8 k,.slice A n c] m (gj m (sys L) x d a T)) (h1:286<=x) (U:T.length<=1000/\∀c∈T,c.2<=255) (I:∀i,d i<=255) (K:∀i,a i<=255):
 Calls prog 197 #[.int .u8 k,.slice A n c,.string F,.int .i64 p] w λe w'=>e=.returned (.tuple #[.int .i64 ((3+szc T+wgh d a (sys L):Nat):Int),.int .i64 0])/\Below w.heap.size w w':=by
 have hz:=oJ;have y:=cA k A n c L F p w N hn hr (by omega) (by omega);rw[show rfs k L=0 by unfold rfs;rw[A0 (by rw[iD P];simp;omega)]] at y;obtain⟨HR,E⟩:=qh2 y HC;obtain⟨z,C⟩:=FL N.leng hn P;have J:=sJ P N.good;have W:=rZ d a J;obtain⟨S,hS⟩:∃S,sys L=S:=⟨_,rfl⟩
 rw[hS] at E z C W;have u:=qH (λ(q j r:Option Addr) (c1 D s:Nat) (w:World) (R:av w .u8 q x (λi=>(d i:Int))) (O:av w .u8 j 30 (λi=>(a i:Int))) (Q:az w r T.length T)=>vB S q j r x c1 D T.length s d a T w z C R O Q h1 U.1 U.2 I K);rw[show(3+szc T+(M.sm (λi=>cs false S i*d i) 286+M.sm (λi=>cs true S i*a i) 30)+smb S:Nat)=3+szc T+wgh d a S by rw[<-W];omega] at u;rw[hS];generalize hZ:3+szc T+wgh d a S=Z at u ⊢;have V:=qH (λ(m:World) (q j r:Option Addr) (c1 D s:Nat)=>by
  have h:=(Kd.new m (λ_=>0) (λ_=>0) 0 (.slice none 0 0) (.slice none 0 0) (.slice none 0 0)).store (cs false S) (cs true S) (smb S) (.slice q x c1) (.slice j 30 D) (.slice r T.length s) rfl rfl rfl;rw[World.setRow_alloc_new] at h;exact h)
 have Y:=qH (λ(m:World) (q j r:Option Addr) (c1 D s:Nat)=>(Kd.new m (cs false S) (cs true S) (smb S) (.slice q x c1) (.slice j 30 D) (.slice r T.length s)).load);have e1:((k:Int)==0)=false:=(by rw[qN];omega);unfold gj at E;clear y HC N P J W hS hZ z C U I K h1;go_enter func197,ntmps197
 go_wp2_with (first
  |(go_at_call 199;(with_reducible refine HR.o.mono ?_);rintro e m ⟨rfl,b1⟩;have H:=qH b1;clear b1)
  |(go_at_call 202;(with_reducible refine(E.o _ H.o).mono ?_);rintro e w2 ⟨q,c1,j,D,r,s,rfl,R,O,Q,b2, -, -⟩
    have G:Below w2.heap.size w2 (w2.alloc (.cells (KV (cs false S) (cs true S) (smb S) (.slice q x c1) (.slice j 30 D) (.slice r T.length s)) 292)):=qL;have Q1:=qH (R.below G);have Q2:=qH (O.below G);have Q3:=qH (Q.below G);have B2:=qH ((H.o.trans (b2.mono H.o.size)).trans (G.mono (H.o.trans (b2.mono H.o.size)).size));clear R O Q b2 G)
  |refine aB rfl 292 _ _ rfl _ _ rfl _ rfl (V.o _ _ _ _ _ _ _) ?_
  |refine bC rfl 292 _ rfl _ _ rfl _ (Y.o _ _ _ _ _ _ _) ?_
  |(go_at_call 234;(with_reducible refine qcb B2 (u.o _ _ _ _ _ _ _ Q1.o Q2.o Q3.o) ?_);intro w3 B3))
 exact bodyPost_ret (v:=.tuple #[.int .i64 Z,.int .i64 0]) (by simp[results,results197,go_sem]) rfl ⟨rfl,B3.o⟩
theorem wg(L:List Tk)(a:ByteArray)(last:Bool)(o:Nat):bkm 1 L a last o=hdb 1 last++sfx L:=rfl
theorem we(L:List Tk)(a:ByteArray)(last:Bool)(o:Nat):bkm 2 L a last o=hdb 2 last++hdd L++sbs L:=rfl
theorem FP(k:Nat)(A:Option Addr)(n c:Nat)(L:List Tk)(a:ByteArray)(p:Nat)(w:World)(H:Tabs w)(m:IsTks w A n L)(r:n<=100000)(s:a.size<=1000000)(x:p<=1000000)(N:k<=2)(z:k≠0->∀t∈L,may t=true)(y:wI L):
 Calls prog 197 #[.int .u8 k,.slice A n c,.string a,.int .i64 p] w λe w'=>e=.returned (.tuple #[.int .i64 ((bkm k L a false (p%8)).length:Nat),.int .i64 0])/\Below w.heap.size w w':=by
 by_cases F:k=0
 · subst F
   have j:=cA 0 A n c L a p w m r s (by omega) (by omega);rw[show rfs 0 L=0 by unfold rfs;rw[A0 (by omega)]] at j;have I:=qH j;have E:=qH (λq=>gn a p q s x);show Calls prog 197 #[.int .u8 0,.slice A n c,.string a,.int .i64 p] w λe w'=>e=.returned (.tuple #[.int .i64 ((stm (p%8) a false).length:Nat),.int .i64 0])/\Below w.heap.size w w'
   generalize M:(stm (p%8) a false).length=Z at E ⊢;clear j m z H M;go_enter func197,ntmps197
   go_wp2_with (first
    |(go_at_call 199;refine I.o.mono ?_;rintro e q ⟨rfl,D⟩;have G:=qH D;clear D)
    |(go_at_call 233;(with_reducible refine qcb G (E.o _) ?_);intro O K))
   exact bodyPost_ret (v:=.tuple #[.int .i64 Z,.int .i64 0]) (by simp[results,results197,go_sem]) rfl ⟨rfl,K.o⟩
 · have d:=z F
   by_cases J:k=1
   · subst J
     have h:=nR 1 A n c L a p 288 fxl (λ_=>5) [] w (by omega) (by omega) m r s x d (λq b=>fJ A n c L q (H.keep b).2 (m.below b) r d y.2.2) (by omega) ⟨by simp,λc u=>absurd u (by simp)⟩ (λi=>qK (fxl_in i).2 (by omega)) (λ_=>by omega);rw[wg,qA,hdb_length];unfold sfx;rw[jh];exact h
   · obtain rfl:k=2:=by omega
     have C:=jM L;have h:=nR 2 A n c L a p 286 (ll1 L) (ll2 L) (tbl (lx1 L) (lx2 L)) w (by omega) (by omega) m r s x d (λq b=>pf A n c L q (H.keep b) (m.below b) r d y) (by omega) ⟨C.1,λc u=>qK (C.2 c u).1 (by omega)⟩ (λi=>qK (hfl_le _ (by omega) (by decide) i) (by omega)) (λi=>qK (hfl_le _ (by omega) (by decide) i) (by omega));rw[<-fR,sx] at h;rw[we,qA,qA,hdb_length];unfold sbs;rw[jh];exact h
def SzC(L:List Tk):Prop:=∀ (k:Nat) (A:Option Addr) (n c:Nat) (raw:ByteArray) (p:Nat) (w:World),Tabs w->IsTks w A n L->n<=100000->raw.size<=1000000->p<=1000000->k<=2->(k≠0->∀t∈L,may t=true)->
 Calls prog 197 #[.int .u8 k,.slice A n c,.string raw,.int .i64 p] w λe w'=>e=.returned (.tuple #[.int .i64 ((bkm k L raw false (p%8)).length:Nat),.int .i64 0])/\Below w.heap.size w w'
theorem IR{L:List Tk}(h:wI L):SzC L:=λk A n c a p w H j o m e i d=>FP k A n c L a p w H j o m e i d h
theorem Fy(L:List Tk):SzC L:=IR (IS L)
theorem fm{w:World}(ty:TypeId){B:Nat}{v:Value}{l:List Cd}(h:Owc B w v l){A:Option Addr}{n c:Nat}{r:List Cd}(x:az w A n r)(y:l.length+r.length<=3000000)(p:B<=w.heap.size):
 ∃d w',(Builtin.append_ #[207,207] ty #[v,.slice A n c]).run prog w=.ok d w'/\Owc B w' d (l++r)/\Below B w w':=by
 by_cases I:0<n
 · obtain⟨d,w',s,m,q,_⟩:=bH (c:=c) ty h x I y p
   exact⟨d,w',s,m,q⟩
 · obtain rfl:n=0:=by omega
   obtain rfl:r=[]:=D3 x.leng;rw[Az];obtain⟨i,o,D,E,F⟩:=info_of fK;rcases A with _|a
   · refine⟨v,w,?_,h,Below.refl _ _⟩
     rcases h.2 with⟨rfl,O⟩|⟨g,G,z,rfl,J,N,e,K,hs,M⟩
     · simp[Builtin.append_,run_underlying underlying207,sizeOf,typeInfo,o,Builtin.lenOf,Builtin.firstCells]
     · simp[Builtin.append_,run_underlying underlying207,sizeOf,typeInfo,o,Builtin.lenOf,Builtin.firstCells]
       rw[A7 e];simp[storeCells]
   · obtain⟨d,w',s,m,q,_⟩:=run_append_own (P:= prog) w B 207 ty 216 i _ 2 8 underlying207 o D E F rfl (by decide) v l.length (clc l) h a 0 c [] rfl (λj u H=>by simp at H) (by simp) (by unfold maxLen;omega) (by omega) p
     rw[Az] at m;exact⟨d,w',s,m,(Below.refl _ w).grown q p (λk C=>(World.ownsRow.lt h k C).1)⟩
theorem lD{e:Array Oper}{d:List Oper}{o:Oper}{a:Act}{w:World}{Q:Exit->Act->World->Prop}(j:o.guard=none)(s x:Operand)
 (u:o.op=.call {callee:=.builtin .append,args:= #[s,x],argTypes:= #[207,207]}) (B:Nat) (v:Value) (l:List Cd) (hs:a.eval s=v) (h:Owc B w v l) (A:Option Addr) (n c:Nat) (r:List Cd)
 (m:a.eval x=.slice A n c) (D:az w A n r) (y:l.length+r.length<=3000000) (p:B<=w.heap.size)
 (E:∀i w',Owc B w' i (l++r)->Below B w w'->wpList prog e Q d (a.put o.dst i) w'):wpList prog e Q (o::d) a w:=
 wpList_plain j λK k=>by
  obtain⟨i,w',z,C,q⟩:=fm (c:=c) o.type h D y p;unfold Oper.wp execOp;simp only[u,resolve,invoke,builtin,Sem.run_bind,Sem.run_pure,Result.andThen_ok,AV,Al,Av,hs,m,z];exact k _ _ (E i w' C q)
theorem uS(n:Nat)(w:World)(x:0<n)(z:n<=2000):
 Calls prog 245 #[.slice none 0 0,.int .i64 n] w λe w'=> ∃v,e=.returned v/\Owc w.heap.size w' v []/\Below w.heap.size w w':=by
 obtain⟨i,m,p,s,q⟩:=info_of fK;have k:=λty=>Lib.run_append_nil_zeros (P:= prog) w 207 3 ty 216 i _ .i64 .i64 underlying207 (by kernel_rfl) m p n x (by omega) (by omega) (by rw[q];omega)
 have u:=grownCap_ge w n 0 216;have d:=grownCap_le_maxLen w n 0 216 (by unfold maxLen;omega);generalize h:grownCap w n 0 216 =G at k u d;have c:(Builtin.zeroCells (Value.agg #[.int .u32 0,.int .u8 0]).cells n++Builtin.zeroCells (Value.agg #[.int .u32 0,.int .u8 0]).cells (G - n)).size=G*2:=by
  rw[DI,size_zeroCells,size_zeroCells];show n*2+(G - n)*2=G*2
  omega
 generalize j:Builtin.zeroCells (Value.agg #[.int .u32 0,.int .u8 0]).cells n++Builtin.zeroCells (Value.agg #[.int .u32 0,.int .u8 0]).cells (G - n)=cs at k c;have a:=World.ownsRow_made (base:=w.heap.size) (e:= 216) (size:=2) w.drew cs G qR d c;have r:=qH a;have y:¬(G=0):=(by omega);clear a h d j c m p s q;go_enter func245,ntmps245;go_wp2_with (at_builtin;refine Lib.wpList_append_run _ rfl _ _ _ _ rfl _ _ rfl rfl _ _ (k _) ?_);go_ret;exact⟨_,rfl,r.o,(Below.refl _ _).drew.alloc qR _⟩
structure Prk where
 A:Option Addr
 n:Nat
 c:Nat
 l:List Cd
instance:Inhabited Prk:=⟨⟨none,0,0,[]⟩⟩
def jz(Ps:List Prk):List Cd:=Ps.flatMap (·.l)
theorem kM{Ps:List Prk}{k:Nat}(a:k<Ps.length):jz (Ps.take (k+1))=jz (Ps.take k)++(Ps.getD k default).l:=by
 unfold jz;rw[Bd,AL,List.getD,qE a];simp
theorem Ha(Ps:List Prk)(k:Nat):(jz (Ps.take k)).length<=(jz Ps).length:=by
 unfold jz
 conv=>rhs;rw[<-Bb k Ps,AL,qA]
 omega
def Cck(w:World)(l:List Cd)(e:Ending)(w':World):Prop:=∃A c,e=.returned (.slice A l.length c)/\(∀b o,A=some ⟨b,o,none⟩->w.heap.size<=b)/\az w' A l.length l/\Below w.heap.size w w'
theorem mN(z m:Nat)(Ps:List Prk)(w:World)(hm:Ps.length=m)(a0:m<=100)(hz:z<w.heap.size)(S:∀i,i<m->w.cell? ⟨z,i,none⟩=some (.slice (Ps.getD i default).A (Ps.getD i default).n (Ps.getD i default).c))
 (W:∀i,i<m->az w (Ps.getD i default).A (Ps.getD i default).n (Ps.getD i default).l) (h0:0<(jz Ps).length) (Y:(jz Ps).length<=2000):
 Calls prog 204 #[.slice (some ⟨z,0,none⟩) m m] w (Cck w (jz Ps)):=by
 obtain⟨Z,HP⟩:=qh2 S W;have H:=qH (λw=>uS (jz Ps).length w h0 Y);have I:=qH (λk=>Ha Ps k);generalize V:(jz Ps).length=T at H h0 Y;have u:=qH V;unfold Cck;clear S W V;go_enter func204,ntmps204;go_wp2
 go_loopw [3,11] (λs i wr=> ∃k t:Nat,k<=m/\s=.int .i64 t/\i=.int .i64 k/\t=(jz (Ps.take k)).length/\w=wr) (λ_ i _=>m - (intOf i).toNat)
 case atStart=>exact⟨0,0,qZ,rfl,rfl,rfl,rfl⟩
 case round=>
  obtain⟨k,t,hk,rfl,rfl,h,rfl⟩:=hrel;by_cases J:k<m
  · have c0:=Z.o k J
    have pl:=(HP.o k J).leng;have hs:=kM (Ps:=Ps) (k:=k) (by omega);have a:=I.o (k+1);rw[u.o] at a;have q:=congrArg List.length hs;rw[qA,pl,<-h] at q;obtain⟨A,D⟩:∃A,(Ps.getD k default).A=A:=⟨_,rfl⟩
    obtain⟨n,y⟩:∃n,(Ps.getD k default).n=n:=⟨_,rfl⟩
    obtain⟨c,d⟩:∃c,(Ps.getD k default).c=c:=⟨_,rfl⟩
    rw[D,y,d] at c0;rw[y] at q;have O:=qH q;have N:t+n<=2000:=(by omega);have k2:k<=100:=(by omega);clear hs q h D y d pl a;go_wp2;go_roundw
    case rel=>exact⟨k+1,t+n,by omega,by go_num,by go_num,O.o.symm,trivial⟩
    case measure=>(simp[intOf];try omega)
  · obtain rfl:k=m:=by omega
    have d1:decide ((k:Int)<(k:Int))=false:=qF (by omega);have a1:decide (k<k)=false:=qF (by omega);have P:t=T:=(by rw[<-u.o,h,Aj (by omega)]);subst P;clear h;go_wp2_with (go_at_call 245;(with_reducible refine(H.o _).mono ?_);rintro e w1 ⟨v,rfl,U,N⟩;obtain⟨O1,B1⟩:=qh2 U N;clear U N)
    go_loopw [6,27] (λv i wr=> ∃j:Nat,j<=k/\i=.int .i64 j/\Owc w.heap.size wr v (jz (Ps.take j))/\Below w.heap.size w wr) (λ_ i _=>k - (intOf i).toNat)
    case atStart=>exact⟨0,qZ,rfl,O1.o,B1.o⟩
    case round=>
     obtain⟨j,hj,rfl,C,E⟩:=hrel;by_cases r:j<k
     · have c0:=(E.cell (p:=⟨z,j,none⟩) hz).trans (Z.o j r)
       have hi:=(HP.o j r).below E;have hs:=kM (Ps:=Ps) (k:=j) (by omega);have a:=I.o (j+1);rw[u.o,hs,qA] at a;obtain⟨A,D⟩:∃A,(Ps.getD j default).A=A:=⟨_,rfl⟩
       obtain⟨n,y⟩:∃n,(Ps.getD j default).n=n:=⟨_,rfl⟩
       obtain⟨c,d⟩:∃c,(Ps.getD j default).c=c:=⟨_,rfl⟩
       obtain⟨l,x⟩:∃l,(Ps.getD j default).l=l:=⟨_,rfl⟩
       rw[D,y,d] at c0;rw[D,y,x] at hi;rw[x] at hs a;obtain⟨O,Q,HO,K⟩:=qh4 hs hi C E;have HL:=qH (show(jz (Ps.take j)).length+l.length<=3000000 by omega);have k2:j<=100:=(by omega);clear hs hi C E D y d x a;go_wp2_with (at_builtin;refine lD rfl _ _ rfl w.heap.size _ (jz (Ps.take j)) rfl HO.o _ _ _ l rfl Q.o HL.o K.o.size ?_;intro v2 w2 R b2;obtain⟨O2,B2⟩:=qh2 R b2;clear R b2);go_roundw
       case rel=>exact⟨j+1,by omega,by go_num,by rw[O.o];exact O2.o,K.o.trans B2.o⟩
       case measure=>(simp[intOf];try omega)
     · obtain rfl:j=k:=by omega
       rw[Aj (by omega)] at C;obtain⟨A,c,M,G⟩:=C.cds;have F:=qH (show ∀b o,A=some ⟨b,o,none⟩->w.heap.size<=b from λb o e=>(C.lt b (by rw[M,e];rfl)).1);obtain⟨HV,Q,K⟩:=qh3 M G E;clear C M G E;go_wp2;go_ret;exact⟨A,c,by rw[HV.o];rfl,F.o,Q.o,K.o⟩
def Put(w:World)(B p:Nat)(S:Nat->Prop)(most:Int)(V o:Nat)(X Y:List Nat)(e:Ending)(w':World):Prop:=
 ((((o+(X++Y).length+7) /8:Nat):Int)<=most->Did w B p S most (0,V+nb (X++Y)*2^o,o+(X++Y).length) e w')/\
 (¬(((o+(X++Y).length+7) /8:Nat):Int)<=most->e=.returned (.int .i64 4)/\Kept S w w')
theorem jj{w w':World}{B p:Nat}{S:Nat->Prop}{most:Int}{r:Int×Nat×Nat}{e:Ending}(c:Did w B p S most r e w'):Kept S w w':=by
 obtain⟨_,d,_,a,_⟩:=c;exact a
theorem kR{w w':World}{B p:Nat}{S:Nat->Prop}{most:Int}{r:Int×Nat×Nat}{e:Ending}{V L:Nat}(h:Wt w B p S most V L)(d:Did w B p S most r e w'):Below B w w':=by
 obtain⟨_,i,_,c,_⟩:=d;exact c.below (by have:=h.lt h.self;omega) (λj a=>(h.lt a).1)
section
variable {w:World} {B p:Nat} {S:Nat->Prop} {most:Int} {V o:Nat} {X:List Nat}
theorem vD(h:Wt w B p S most (V+nb X*2^o) (o+X.length))(c1 c2:Nat)(i:c1<2^c2)(hs:c2<=16)(k:o+X.length<=900000000):
 Calls prog 244 #[.pointer (some ⟨p,0,none⟩),.agg #[.int .u32 c1,.int .u8 c2]] w (Put w B p S most V o X (cbs (c1,c2))):=by
 have j:2^c2<=2^16:=Ak (by decide) hs;have g:=Go.Proofs.YthgilhebnlglkaaGreatDoor.code_any h (c1:Nat) c2 (by omega) (by omega) k;rw[Au] at g;have a:(X++cbs (c1,c2)).length=X.length+c2:=(by rw[qA];unfold cbs;rw[put_length]);by_cases c:(((o+(X++cbs (c1,c2)).length+7) /8:Nat):Int)<=most
 · rw[fU (by omega) i (by rw[a,<-AC] at c;exact c)] at g
   refine g.mono λe w' d=>⟨λ_=> ?_,λq=>absurd c q⟩
   have m:nb (cbs (c1,c2))=c1:=(by unfold cbs;rw[nb_put,Ar i]);rw[me,m,a,<-AC];exact d
 · rw[dX (by omega) i (by rw[a,<-AC] at c;exact c)] at g
   exact g.mono λe w' d=>⟨λq=>absurd q c,λ_=>⟨d.1,jj d⟩⟩
end
theorem kN{o:Nat}{m:Int}{X Y:List Nat}(h:(((o+(X++Y).length+7) /8:Nat):Int)<=m):(((o+X.length+7) /8:Nat):Int)<=m:=by
 rw[qA] at h;omega
theorem bQ{w:World}{B p:Nat}{S:Nat->Prop}{most:Int}{V o:Nat}{X:List Nat}(A:Option Addr)(n c:Nat)(l:List Cd)(h:Wt w B p S most (V+nb X*2^o) (o+X.length))(hl:az w A n l)(hA:∀b q,A=some ⟨b,q,none⟩->¬S b)
 (hc:∀c∈l,c.1<2^c.2/\c.2<=16) (h0:0<n) (hn:n<=2000) (hL:o+X.length<=800000000):
 Calls prog 203 #[.pointer (some ⟨p,0,none⟩),.slice A n c] w (Put w B p S most V o X (l.flatMap cbs)):=by
 obtain⟨b,q,rfl,hb,T⟩:=hl.at h0;have hS:=hA b q rfl;have a1:=hl.leng;obtain⟨HH,a0,O⟩:=qh3 h T hS;have HC:=qH (show ∀k,k<n->(l.getD k default).1<2^(l.getD k default).2/\(l.getD k default).2<=16 from λk M=>hc _ (by rw[List.getD,qE (by omega)];exact AW _));have K:=qH (show ∀k,k<n->X++(l.take (k+1)).flatMap cbs=(X++(l.take k).flatMap cbs)++cbs (l.getD k default) from λk M=>by
  rw[Bd,List.getD,qE (by omega),AL,qD];simp)
 have U:=qH (show ∀k,k<=n->(X++(l.take k).flatMap cbs).length<=(X++l.flatMap cbs).length from λk M=>by
  conv=>rhs;rw[<-Bb k l,AL,<-qD,qA]
  omega)
 have P:=qH (show ∀k,k<=n->o+(X++(l.take k).flatMap cbs).length<=900000000 from λk M=>by
  have:((l.take k).flatMap cbs).length<=32000:=by
   rw[fR];have h1:∀r:List Cd,(∀c∈r,c.2<=16)->szc r<=16*r.length:=λr=>by
    induction r with
    |nil=>intro _;simp[szc]
    |cons y r ih=>
     intro hr;have:=ih (λz hz=>hr z (AK _ hz));have:=hr y Aq;simp only[szc,qC];omega
   have:=h1 (l.take k) (λy hy=>(hc y (AO hy)).2);rw[Af] at this;omega
  rw[qA];omega)
 clear h hl hA hc T hS;go_enter func203,ntmps203;go_wp2_with fail
 go_loopw [10] (λx wr=> ∃ (k:Nat) (S':Nat->Prop),k<=n/\x=.int .i64 k/\Wt wr B p S' most (V+nb (X++(l.take k).flatMap cbs)*2^o) (o+(X++(l.take k).flatMap cbs).length)/\Kept S w wr/\(∀j,S' j->S j\/w.heap.size<=j)/\(0<k->(((o+(X++(l.take k).flatMap cbs).length+7) /8:Nat):Int)<=most)) (λx _=>n - (intOf x).toNat)
 case atStart=>exact⟨0,S,qZ,rfl,by simpa using HH.o,Kept.refl _ _,λj hj=> .inl hj,λq=>absurd q (by omega)⟩
 case round=>
  obtain⟨k,S',M,rfl,I,s,i,d⟩:=hrel;by_cases F:k<n
  · obtain⟨g0,g1⟩:=a0.o k F
    have c0:=s.cell g0 O.o;have y1:=s.cell g1 O.o;have C:=HC.o k F;have a:=K.o k F;have u:=P.o k M;have D:=U.o (k+1) F;generalize ht:l.getD k default=t at c0 y1 C a;obtain⟨t1,W⟩:=t;simp only at c0 y1 C;generalize hY:X++(l.take k).flatMap cbs=Y at I a u;have a4:k<=2000:=(by omega);have H:=I.keep (((Kept.refl NoB wr).alloc (.cells #[.int .u32 t1,.int .u8 W] 216))) (λj _ q=>q);have Q:=qH (vD H t1 W C.1 C.2 u);have J:=qH (s.alloc (.cells #[.int .u32 t1,.int .u8 W] 216));obtain⟨m,G,a3⟩:=qh3 i a D;unfold Put at Q;by_cases Z:(((o+(Y++cbs (t1,W)).length+7) /8:Nat):Int)<=most
    · have R:=qH Z
      clear g0 g1 C a u D ht hY I H s i d Z;go_wp2_with (go_at_call 244;(with_reducible refine Q.o.mono ?_);rintro e w1 ⟨hd,E⟩;obtain⟨rfl,S2,h2,k2,i2⟩:=hd R.o;obtain⟨H2,K2,I2⟩:=qh3 h2 k2 i2;clear hd E h2 k2 i2);go_roundw
      case rel=>exact⟨k+1,S2,by omega,by go_num,by rw[G.o];exact H2.o,J.o.trans K2.o m.o,λj hj=>by
       rcases I2.o j hj with q|q
       · exact m.o j q
       · right;have:=J.o.size;omega,λ_=>by rw[G.o];exact R.o⟩
      case measure=>(simp[intOf];try omega)
    · have R:=qH Z
      clear g0 g1 C a u D ht hY I H s i d Z;go_wp2_with (go_at_call 244;(with_reducible refine Q.o.mono ?_);rintro e w1 ⟨hd,E⟩;obtain⟨rfl,N⟩:=E R.o;have a2:=qH N;clear hd E N);go_ret;have h3:=a3.o;rw[G.o] at h3;have h4:=R.o;exact⟨λq=>absurd q (by omega),λ_=>⟨rfl,J.o.trans a2.o m.o⟩⟩
  · obtain rfl:k=n:=by omega
    rw[Aj (by omega)] at I d;obtain⟨Q,HK,m⟩:=qh3 I s i;have HF:=qH (d h0);clear I s i d;go_wp2_with fail;go_ret;exact⟨λ_=>⟨rfl,S',Q.o,HK.o,m.o⟩,λq=>absurd HF.o q⟩
def hdc(k:Nat)(last:Bool):List Cd:=[(if last then 1 else 0,1),(k,2)]
theorem oQ(k:Nat)(last:Bool):(hdc k last).flatMap cbs=hdb k last:=by
 unfold hdc hdb cbs;simp
theorem Ex{k:Nat}(d:k<=3)(last:Bool):∀c∈hdc k last,c.1<2^c.2/\c.2<=16:=by
 intro c a;unfold hdc at a;simp only[Ab,BH,BI] at a;rcases a with rfl|rfl
 · cases last<;>exact⟨by decide,by decide⟩
 · exact⟨by show k<4;omega,by show 2<=16;omega⟩
theorem ku(k:Nat)(last:Bool)(w:World)(q:k<=255):Calls prog 205 #[.int .u8 k,.bool last] w λe w'=> ∃g,e=.returned (.slice (some ⟨g,0,none⟩) 2 2)/\w.heap.size<=g/\az w' (some ⟨g,0,none⟩) 2 (hdc k last)/\Below w.heap.size w w':=by
 have d:=qH (show ∀ (n:Int) (W:World),Calls prog 246 #[.int .u32 n,.int .i64 1] W λe w'=>e=.returned (.agg #[.int .u32 n,.int .u8 1])/\Below W.heap.size W w' from λn W=>cL n 1 W (by omega));have c:=qH (show ∀ (n:Int) (W:World),Calls prog 246 #[.int .u32 n,.int .i64 2] W λe w'=>e=.returned (.agg #[.int .u32 n,.int .u8 2])/\Below W.heap.size W w' from λn W=>cL n 2 W (by omega));cases last
 · go_enter func205,ntmps205
   go_wp2_with (first
    |(go_at_call 246;(with_reducible refine(d.o _ _).mono ?_);rintro e m ⟨rfl,h⟩;have j:=qH h;clear h)
    |(go_at_call 246;(with_reducible refine qcb j (c.o _ _) ?_);intro i a))
   go_ret;exact⟨i.heap.size,rfl,a.o.size,az.of_row (heap_alloc_new _ _) rfl rfl,a.o.alloc a.o.size _⟩
 · go_enter func205,ntmps205
   go_wp2_with (first
    |(go_at_call 246;(with_reducible refine(d.o _ _).mono ?_);rintro e m ⟨rfl,h⟩;have j:=qH h;clear h)
    |(go_at_call 246;(with_reducible refine qcb j (c.o _ _) ?_);intro i a))
   go_ret;exact⟨i.heap.size,rfl,a.o.size,az.of_row (heap_alloc_new _ _) rfl rfl,a.o.alloc a.o.size _⟩
theorem xor16(n:Nat)(h:n<=65535):bits .xor .u16 65535 (n:Int)=((65535 - n:Nat):Int):=by
 show IntKind.u16.wrap ((BitVec.ofInt 16 65535^^^BitVec.ofInt 16 (n:Int)).toNat:Int)=_
 rw[BitVec.ofInt_natCast,show BitVec.ofInt 16 65535=BitVec.allOnes 16 from by decide,BitVec.allOnes_xor,BitVec.toNat_not,BitVec.toNat_ofNat,Ar (by omega)];have e:(2^16 - 1 - n:Nat)=65535 - n:=rfl;rw[e];exact IntWalk.u16_in _ ⟨by omega,by omega⟩
theorem KZ:IntKind.u16.signed=false:=rfl
theorem Lh:IntKind.u16.max=65535:=by decide
theorem Did.go{w c w2:World}{B p:Nat}{S a:Nat->Prop}{most:Int}{r:Int×Nat×Nat}{e:Ending}(k:Kept S w c)(s:∀j,a j->S j\/w.heap.size<=j)(d:Did c B p a most r e w2):Did w B p S most r e w2:=by
 obtain⟨i,h,u,m,x⟩:=d;exact⟨i,h,u,k.trans m s,λj t=>by
  rcases x j t with q|q
  · exact s j q
  · right;have:=k.size;omega⟩
theorem yL{w w1:World}{B p:Nat}{S:Nat->Prop}{most:Int}{V L:Nat}(h:Wt w B p S most V L)(k:Kept S w w1):Below B w w1:=k.below (by have:=h.lt h.self;omega) (λj a=>(h.lt a).1)
theorem iZ{w:World}{B p:Nat}{S:Nat->Prop}{most:Int}{V L:Nat}(h:Wt w B p S most V L){g:Nat}(a:w.heap.size<=g):∀b q,(some ⟨g,0,none⟩:Option Addr)=some ⟨b,q,none⟩->¬S b:=λb q e hs=>by
 simp only[Option.some.injEq,Addr.mk.injEq,AU] at e;have:=(h.lt hs).2;omega
theorem aq{w w1:World}(S:Nat->Prop)(b:Below w.heap.size w w1):Kept S w w1:=(Kept.of_below b).none S
theorem pN{w:World}{B p:Nat}{S:Nat->Prop}{most:Int}{V o:Nat}{X:List Nat}(t:ByteArray)(last:Bool)(h:Wt w B p S most (V+nb X*2^o) (o+X.length))(ht:t.size<=65535)(hL:o+X.length<=200000000):
 Calls prog 240 #[.pointer (some ⟨p,0,none⟩),.string t,.bool last] w (Put w B p S most V o X (stb (o+X.length) t last)):=by
 obtain⟨n,P⟩:∃n,t.size=n:=⟨_,rfl⟩
 obtain⟨m,hm⟩:∃m,65535 - n=m:=⟨_,rfl⟩
 rw[P] at ht;obtain⟨X1,r⟩:∃X1,X++hdb 0 last=X1:=⟨_,rfl⟩
 have l1:X1.length=X.length+3:=(by rw[<-r,qA,hdb_length]);obtain⟨X2,s⟩:∃X2,X1++List.replicate (pd (o+X1.length)) 0=X2:=⟨_,rfl⟩
 have l2:X2.length=X1.length+pd (o+X1.length):=(by rw[<-s,qA,AP]);obtain⟨X3,x⟩:∃X3,X2++[(n,16),(m,16)].flatMap cbs=X3:=⟨_,rfl⟩
 have l3:X3.length=X2.length+32:=(by rw[<-x,qA,fR];rfl);obtain⟨X4,y⟩:∃X4,X3++byb t t.size=X4:=⟨_,rfl⟩
 have l4:X4.length=X3.length+n*8:=(by rw[<-y,qA,byb_length,P]);have Z:pd (o+X1.length)<=7:=(by unfold pd;omega);have h8:(o+X3.length)%8=0:=by
  have:(o+X1.length+pd (o+X1.length))%8=0:=(by unfold pd;omega);omega
 have z:X++stb (o+X.length) t last=X4:=by
  rw[<-y,<-x,<-s,<-r];unfold stb;rw[qA,hdb_length,P,hm,<-AC];simp[cbs]
 obtain⟨a0,U,a4,D,HH⟩:=qh5 r s x y h;have a2:=qH (show ∀W,Calls prog 205 #[.int .u8 0,.bool last] W λe w'=> ∃g,e=.returned (.slice (some ⟨g,0,none⟩) 2 2)/\W.heap.size<=g/\az w' (some ⟨g,0,none⟩) 2 (hdc 0 last)/\Below W.heap.size W w' from λW=>ku 0 last W (by omega));have C:=qH (show ∀ (n:Int) (W:World),Calls prog 246 #[.int .u32 n,.int .i64 16] W λe w'=>e=.returned (.agg #[.int .u32 n,.int .u8 16])/\Below W.heap.size W w' from λn W=>cL n 16 W (by omega));have hx:=xor16 n (by omega);rw[hm] at hx;have a9:=KZ;have a7:=Lh;have a8:m<=65535:=(by omega);have R:=qH (show o+X1.length<=900000000 by omega);have a5:=qH (show o+X2.length<=800000000 by omega);have I:=qH (show o+X3.length<=900000000 by omega);have a3:=qH (show o+X.length<=800000000 by omega);obtain⟨H8,HN⟩:=qh2 h8 P;have T:=qH (Ex (k:=0) (by omega) last);have a6:=qH (show ∀c∈([(n,16),(m,16)]:List Cd),c.1<2^c.2/\c.2<=16 from λc hc=>by
  simp only[Ab,BH,BI] at hc;rcases hc with rfl|rfl
  · exact⟨by show n<65536;omega,qR⟩
  · exact⟨by show m<65536;omega,qR⟩)
 unfold Put;rw[z];rcases(show((((o+X1.length+7) /8:Nat):Int)<=most/\(((o+X3.length+7) /8:Nat):Int)<=most/\(((o+X4.length+7) /8:Nat):Int)<=most)\/((((o+X1.length+7) /8:Nat):Int)<=most/\(((o+X3.length+7) /8:Nat):Int)<=most/\¬(((o+X4.length+7) /8:Nat):Int)<=most)\/((((o+X1.length+7) /8:Nat):Int)<=most/\¬(((o+X3.length+7) /8:Nat):Int)<=most/\¬(((o+X4.length+7) /8:Nat):Int)<=most)\/(¬(((o+X1.length+7) /8:Nat):Int)<=most/\¬(((o+X3.length+7) /8:Nat):Int)<=most/\¬(((o+X4.length+7) /8:Nat):Int)<=most) by omega) with⟨M,H,G⟩|⟨M,H,G⟩|⟨M,H,G⟩|⟨M,H,G⟩
 all_goals
  obtain⟨M1,M3,M4⟩:=qh3 M H G;clear h l1 l2 l3 l4 Z h8 hm z r s x y G H M;go_enter func240,ntmps240
  go_wp2_with (first
   |(go_at_call 205;(with_reducible refine(a2.o _).mono ?_);rintro e w1 ⟨g1,rfl,n1,i1,b1⟩
     have N:=qH (bQ (some ⟨g1,0,none⟩) 2 2 (hdc 0 last) (HH.o.keep (Kept.of_below b1) (λj _ q=>q)) i1 (iZ HH.o n1) T.o (by omega) (by omega) a3.o);have K1:=qH (aq S b1);rw[oQ] at N;unfold Put at N;rw[a0.o] at N;clear n1 i1 b1)
   |(go_at_call 203;(with_reducible refine N.o.mono ?_);rintro e w2 ⟨d,a⟩;
     first
     |(have q:=d M1.o
       obtain⟨rfl,S2,h2,k2,i2⟩:=q;have H2:=qH h2;have K2:=qH (K1.o.trans k2 (λj u=> .inl u));have I2:=qH (show ∀j,S2 j->S j\/w.heap.size<=j from λj u=>by
        rcases i2 j u with q|q
        · exact .inl q
        · right;have:=K1.o.size;omega)
       clear d a h2 k2 i2)
     |(have q:=a (by have:=M1.o;omega);obtain⟨rfl,i⟩:=q;have BL:=qH (K1.o.trans i (λj u=> .inl u));clear d a i))
   |(go_at_call 272;(with_reducible refine(rE H2.o R.o).mono ?_);rintro e w3 ⟨rfl,S3,h3,k3,i3⟩
     have H3:=qH (show Wt w3 B p S3 most (V+nb X2*2^o) (o+X2.length) by have q:=h3;rw[U.o] at q;exact q);have K3:=qH (K2.o.trans k3 I2.o);have Q:=qH (show ∀j,S3 j->S j\/w.heap.size<=j from λj u=>by
      rcases i3 j u with q|q
      · exact I2.o j q
      · right;have:=K2.o.size;omega)
     clear h3 k3 i3)
   |(go_at_call 246;(with_reducible refine(C.o (n:Int) w3).mono ?_);rintro e w4 ⟨rfl,b4⟩;have E:=qH b4;clear b4)
   |(go_at_call 246;(with_reducible refine(C.o (m:Int) w4).mono ?_);rintro e w5 ⟨rfl,O⟩
     have bb:=(E.o.trans (O.mono E.o.size)).alloc (E.o.trans (O.mono E.o.size)).size (.cells #[.int .u32 (n:Int),.int .u8 16,.int .u32 (m:Int),.int .u8 16] 216);have P5:=qH (bQ (some ⟨w5.heap.size,0,none⟩) 2 2 [(n,16),(m,16)] (H3.o.keep (Kept.of_below bb) (λj _ q=>q)) (az.of_row (heap_alloc_new _ _) rfl rfl) (iZ H3.o (E.o.trans (O.mono E.o.size)).size) a6.o (by omega) (by omega) a5.o);have Y:=qH (K3.o.trans (aq S3 bb) Q.o);unfold Put at P5;rw[a4.o] at P5;clear O bb)
   |(go_at_call 203;(with_reducible refine P5.o.mono ?_);rintro e w6 ⟨d,a⟩;
     first
     |(have q:=d M3.o
       obtain⟨rfl,S6,h6,k6,i6⟩:=q;have H6:=qH h6;have K6:=qH (Y.o.trans k6 Q.o);have I6:=qH (show ∀j,S6 j->S j\/w.heap.size<=j from λj u=>by
        rcases i6 j u with q|q
        · exact Q.o j q
        · right;have:=Y.o.size;omega)
       clear d a h6 k6 i6)
     |(have q:=a (by have:=M3.o;omega);obtain⟨rfl,i⟩:=q;have BL:=qH (Y.o.trans i Q.o);clear d a i))
   |(go_at_call 273;(with_reducible refine(rf H6.o t (by rw[HN.o];omega) I.o H8.o (by rw[D.o];exact M4.o)).mono ?_);rintro e w7 d;have J:=Did.go K6.o I6.o d;rw[D.o] at J;obtain⟨rfl,K⟩:=J;have D7:=qH K;clear d K)
   |(go_at_call 273;(with_reducible refine(mU H6.o t (by rw[HN.o];omega) I.o H8.o (by rw[D.o];have:=M4.o;omega)).mono ?_);rintro e w7 d;have F:=jj d;obtain⟨rfl,a1⟩:=d;have BL:=qH (K6.o.trans F I6.o);clear F a1))
  go_ret;have h4:=M4.o
  first|exact⟨λ_=>⟨rfl,D7.o⟩,λq=>absurd h4 (by omega)⟩|exact⟨λq=>absurd q (by omega),λ_=>⟨rfl,BL.o⟩⟩
attribute [local go_sem] Oper.semAt_some
theorem dp{w:World}{B p:Nat}{S:Nat->Prop}{most:Int}{V L:Nat}(h:Wt w B p S most V L){j:Nat}(m:S j):∃o,w.heap[j]? =some o/\o.isCells=true:=by
 obtain⟨s,c,d,i⟩:=h;rcases(i j).1 m with rfl|⟨a,ha,rfl⟩
 · have c0:=d.c0
   unfold World.cell? at c0;cases e:w.heap[j]? with
   |none=>simp[e] at c0
   |some o=>
    cases o with
    |cells cs T fz=>exact⟨_,rfl,rfl⟩
    |_=>simp[e] at c0
 · subst ha
   rcases d.own.2 with⟨e,_⟩|⟨g,k,r,e,_,q,_⟩
   · simp at e
   · simp only[Value.slice.injEq,Option.some.injEq] at e
     obtain⟨rfl,_,_⟩:=e;exact⟨_,q,rfl⟩
theorem eD{w w':World}{B p:Nat}{S:Nat->Prop}{most:Int}{V L:Nat}(h:Wt w B p S most V L){row:Option Nat}(d:w.grownBy w' row)(m:∀r,row=some r->∃o:Obj,w.heap[r]? =some o/\o.isCells=false):Wt w' B p S most V L:=by
 refine h.keep (Kept.of_grown d) (λj e q=> ?_);obtain⟨o,i,k⟩:=dp h e;obtain⟨s,c,a⟩:=m j q;rw[i] at c;cases c;rw[k] at a;cases a
theorem bV{w w':World}{B p:Nat}{S:Nat->Prop}{most:Int}{V L:Nat}(h:Wt w B p S most V L)(k:Kept S w w'):KeepsOthers w w':=⟨k.size,λj o c d=>by
 refine(k.block j (qW.1 c).1 (λq=> ?_)).trans c;obtain⟨i,a,e⟩:=dp h q;rw[c] at a;cases a;rw[e] at d;cases d⟩
structure MidS(w2:World)(B p:Nat)(S:Nat->Prop)(most:Int)(V o:Nat)(X:List Nat)(last:Bool)(pre:List Pz)(W:World):Prop where
 wr:∃S',Wt W B p S' most (V+nb (X++stp last (o+X.length) pre)*2^o) (o+(X++stp last (o+X.length) pre).length)/\∀j,S' j->S j\/w2.heap.size<=j
 kp:Kept (λj=>S j\/w2.heap.size<=j) w2 W
 fit:pre≠[]->(((o+(X++stp last (o+X.length) pre).length+7) /8:Nat):Int)<=most
theorem MidS.own{d:World}{B p:Nat}{S:Nat->Prop}{most:Int}{V o:Nat}{X:List Nat}{last:Bool}:OwnFrom d.heap.size (MidS d B p S most V o X last):=λh W s row hs a c=>by
 obtain⟨⟨k,i,m⟩,j,q⟩:=hs;exact⟨⟨k,eD i a (λr e=>(c r e).2),m⟩,j.grown a (λr e=> .inl (.inr (c r e).1)),q⟩
structure IxS(w2:World)(M:Nat)(S:Nat->Prop)(most:Int)(o:Nat)(X:List Nat)(last:Bool)(c:Code)(pre:List Pz)(W:World):Prop where
 ret:c=.ret
 res:W.heap[M+1+1]? =some (.cells #[.int .i64 4] 27 (0,0))
 kp:Kept (λj=>S j\/M<=j) w2 W
 no:¬(((o+(X++stp last (o+X.length) pre).length+7) /8:Nat):Int)<=most
theorem IxS.own{a:World}{M:Nat}{S:Nat->Prop}{most:Int}{o:Nat}{X:List Nat}{last:Bool}{c:Code}(t:M+1+1<a.heap.size):OwnFrom a.heap.size (IxS a M S most o X last c):=λj W s row hs d h=>by
 obtain⟨k,i,m,q⟩:=hs;exact⟨k,(d.block (M+1+1) (qW.1 i).1 (λe=>by have:=(h (M+1+1) e.symm).1;omega)).trans i,m.grown d (λr e=> .inl (.inr (by have:=(h r e).1;omega))),q⟩
theorem jR(last:Bool):∀ (l r:List Pz) (o:Nat),(stp last o l).length<=(stp last o (l++r)).length
 |[],r,o=>by simp[stp]
 |x::l,r,o=>by
  have:=jR last l r (o+(stb o x.1.1 (last&&x.1.2)).length);simp only[Ac,stp,qA];omega
theorem Jl(s:ByteArray):pcs s≠[]:=by
 by_cases h:s.size<=65535
 · rw[iV h];simp
 · rw[eH h];simp
theorem lA{w:World}{B p:Nat}{S:Nat->Prop}{most:Int}{V o:Nat}{X:List Nat}(s:ByteArray)(last:Bool)(h:Wt w B p S most (V+nb X*2^o) (o+X.length))(hs:s.size<=1000000)(hL:o+X.length<=100000000):
 Calls prog 201 #[.pointer (some ⟨p,0,none⟩),.string s,.bool last] w (Put w B p S most V o X (stm (o+X.length) s last)):=by
 have HH:=qH h;have HN:=qH (show(pcs s).length<=17 from by have:=tK s;omega);have ai:=qH (show stp last (o+X.length) (pcs s)=stm (o+X.length) s last from sM last s _);have ar:B<=w.heap.size:=(by have:=h.lt h.self;omega);clear h;refine(callsIn_wide (n:=5)).1 ?_
 refine callsIn_of_wp_marks func201 rfl trivial ?_ rfl;simp only[ntmps201,AE,qC,AB,Nat.reduceAdd,Nat.reduceSub,Be,Bf,Bg,Bh,Ap,Ac]
 gi_wp2_with (refine⟨trivial,?_⟩;gi_at_call 239;refine(callsIn_wide.2 (gZ _ _)).mono ?_;rintro e w' ⟨rfl,rfl⟩)
 obtain⟨w2,E⟩:∃w2,(((w.alloc (.cells #[.pointer (some ⟨p,0,none⟩)] 161)).alloc (.cells #[.bool last] 4)).alloc (.cells #[.int .i64 0] 27)).alloc (.cells #[.string s] 9)=w2:=⟨_,rfl⟩
 have a9:w2.heap.size=w.heap.size+1+1+1+1:=(by rw[<-E];simp);have a1:Below w.heap.size w w2:=(by rw[<-E];exact((((Below.refl _ w).alloc qR _).alloc (by simp) _).alloc (by simp;omega) _).alloc (by simp;omega) _);have g0:w2.heap[w.heap.size]? =some (.cells #[.pointer (some ⟨p,0,none⟩)] 161 (0,0)):=(by rw[<-E];exact old_at _ (old_at _ (old_at _ (new_at _ _))));have g1:w2.heap[w.heap.size+1]? =some (.cells #[.bool last] 4 (0,0)):=by
  rw[<-E];have:=old_at (.cells #[.string s] 9) (old_at (.cells #[.int .i64 0] 27) (new_at (w.alloc (.cells #[.pointer (some ⟨p,0,none⟩)] 161)) (.cells #[.bool last] 4)));rw[World.size_alloc] at this;exact this
 have g2:w2.heap[w.heap.size+1+1]? =some (.cells #[.int .i64 0] 27 (0,0)):=by
  rw[<-E];have:=old_at (.cells #[.string s] 9) (new_at ((w.alloc (.cells #[.pointer (some ⟨p,0,none⟩)] 161)).alloc (.cells #[.bool last] 4)) (.cells #[.int .i64 0] 27));rw[World.size_alloc,World.size_alloc] at this;exact this
 have g3:w2.heap[w.heap.size+1+1+1]? =some (.cells #[.string s] 9 (0,0)):=by
  rw[<-E];have:=new_at (((w.alloc (.cells #[.pointer (some ⟨p,0,none⟩)] 161)).alloc (.cells #[.bool last] 4)).alloc (.cells #[.int .i64 0] 27)) (.cells #[.string s] 9);rw[World.size_alloc,World.size_alloc,World.size_alloc] at this;exact this
 rw[E];clear E;obtain⟨M,hM⟩:∃M,w.heap.size=M:=⟨_,rfl⟩
 rw[hM] at a9 g0 g1 g2 g3 a1;have HM:=qH hM;have Y:=qH (show ∀j,S j->B<=j/\j<M from λj y=>by have:=HH.o.lt y;omega);have ae:=qH (HH.o.keep (Kept.of_below (by rw[hM];exact a1)) (λj _ q=>q));obtain⟨ap,ao,ak,H⟩:=qh4 g0 g1 g2 a9;have af:=qH (show ∀W',Kept (λj=>S j\/M<=j) w2 W'->Kept S w W' from λW' k=>(aq S (by rw[hM];exact a1)).trans k (λj y=>y.imp_right (λq=>by omega)));rw[hM];clear a9 a1 g0 g1 g2
 refine wpIn_rangeFunc_ownF rfl (by omega) (gf:= 271) (lb:= #[.pointer (some ⟨M+1+1+1,0,none⟩)]) rfl trivial (enters_of func271 (by kernel_rfl) rfl)
  (ev 4 (M+1+1+1) s (by omega) hs (λ_ _=>True) w2 (one_cell g3))
  (λ_ _=>trivial) (λ_ _ _ _ _ _ _ _=>trivial) (Below.refl _ _) (λ_=>rfl)
  (MidS w2 B p S most V o X last) (IxS w2 M S most o X last) MidS.own (λc=>IxS.own (by have:=H.o;omega))
  ⟨⟨S,by simpa [stp] using ae.o,λj y=> .inl y⟩,Kept.refl _ _,λq=>absurd rfl q⟩
  (λx=> {tmps:= #[.pointer (some ⟨p,0,none⟩),.string s,.bool last,.pointer (some ⟨M,0,none⟩),undef,.pointer (some ⟨M+1,0,none⟩),.pointer (some ⟨M+1+1,0,none⟩),.string x.1.1,.bool x.1.2,undef,.string s,.func (.func 271) #[] #[.pointer (some ⟨M+1+1+1,0,none⟩)],.string x.1.1,.bool x.1.2,undef,undef,undef,undef,undef,undef,undef,undef,undef,undef],defers:=[]})
  ?assign ?body ?done ?stop
 case assign=>
  intro l x W K hK;unfold Iz;gi_wp2;exact hK
 case body=>
  rintro l C x W O ag;obtain⟨⟨S',hw,i⟩,a,m⟩:=O;have hz:=H.o;have P:∀j,j<w2.heap.size->M<=j->¬(S j\/w2.heap.size<=j):=λj h1 R q=>by
   rcases q with q|q
   · have:=Y.o j q;omega
   · omega
  have c0:=one_cell ((a.block M (by omega) (P M (by omega) (by omega))).trans ap.o);have c1:=one_cell ((a.block (M+1) (by omega) (P (M+1) (by omega) (by omega))).trans ao.o);have ad:=qH ((a.block (M+1+1) (by omega) (P (M+1+1) (by omega) (by omega))).trans ak.o);have an:=qH (show ¬S' (M+1+1) from λq=>by
   rcases i _ q with q|q
   · have:=Y.o _ q;omega
   · omega)
  have ac:=qH (show w2.heap.size<=W.heap.size from a.size);have ah:=nK last C (o+X.length);have hN:=HN.o;have a2:=iN last x C (o+X.length);obtain⟨⟨t,lb⟩,ht⟩:=x;simp only at ht a2;obtain⟨Xp,N⟩:∃Xp,X++stp last (o+X.length) C=Xp:=⟨_,rfl⟩
  have Q:Xp.length=X.length+(stp last (o+X.length) C).length:=(by rw[<-N,qA]);have U:X++stp last (o+X.length) (C++[⟨(t,lb),ht⟩])=Xp++stb (o+Xp.length) t (last&&lb):=by
   rw[a2,<-qD,N,Q,AC]
  rw[N] at hw;generalize F:(last&&lb)=z at U;have HW:=qH (pN t z hw ht (by omega));obtain⟨a0,u,I,a6⟩:=qh4 hw i a U;unfold Put at HW;dsimp only;by_cases hm:(((o+(Xp++stb (o+Xp.length) t z).length+7) /8:Nat):Int)<=most
  · have G:=qH hm
    have a3:=qH (show ∀w1 S2,Wt w1 B p S2 most (V+nb (Xp++stb (o+Xp.length) t z)*2^o) (o+(Xp++stb (o+Xp.length) t z).length)->Kept S' W w1->(∀j,S2 j->S' j\/W.heap.size<=j)->KeepsOthers W w1/\True/\MidS w2 B p S most V o X last (C++[⟨(t,lb),ht⟩]) w1 from λw1 S2 R k2 i2=>⟨bV a0.o k2,trivial,⟨S2,by rw[a6.o];exact R,λj y=>by
     rcases i2 j y with q|q
     · exact u.o j q
     · right;have:=ac.o;omega⟩,I.o.trans k2 (λj y=> .inl (u.o j y)),λ_=>by rw[a6.o];exact G.o⟩)
    clear hw i a m hz P ah hN a2 N Q U hm ag;cases last
    · obtain rfl:false=z:=by simpa using F
      clear F
      gi_wp2_with (refine⟨trivial,?_⟩;gi_at_call 240;refine(CallsIn.inRound l (callsIn_wide.2 HW.o)).mono ?_;rintro e w1 ⟨Z,d⟩;obtain⟨rfl,S2,R,k2,i2⟩:=Z G.o;have HR:=qH (a3.o w1 S2 R k2 i2);clear Z d R k2 i2)
      exact HR.o
    · obtain rfl:lb=z:=by simpa using F
      clear F
      gi_wp2_with (refine⟨trivial,?_⟩;gi_at_call 240;refine(CallsIn.inRound l (callsIn_wide.2 HW.o)).mono ?_;rintro e w1 ⟨Z,d⟩;obtain⟨rfl,S2,R,k2,i2⟩:=Z G.o;have HR:=qH (a3.o w1 S2 R k2 i2);clear Z d R k2 i2)
      exact HR.o
  · have G:=qH hm
    have a4:=qH (show ∀w1,Kept S' W w1->w1.heap[M+1+1]? =some (.cells #[.int .i64 0] 27 (0,0))/\∀v,v=Value.int .i64 4->KeepsOthers W (w1.setCell ⟨M+1+1,0,none⟩ v)/\IxS w2 M S most o X last .ret (C++[⟨(t,lb),ht⟩]) (w1.setCell ⟨M+1+1,0,none⟩ v) from λw1 T=>by
     have av:=ac.o;have g:=(T.block (M+1+1) (by omega) an.o).trans ad.o;refine⟨g,λv hv=>⟨(bV a0.o T).trans (KeepsOthers.setCell _ _ _),rfl,by rw[hv];exact one_set g _,?_,by rw[a6.o];have:=G.o;omega⟩⟩;have a8:Kept (λj=>S j\/M<=j) w2 w1:=(I.o.mono (λj y=>y.imp_right (λq=>by omega))).trans T (λj y=>by
      rcases u.o j y with q|q
      · exact .inl (.inl q)
      · exact .inr q)
     exact a8.setCell ⟨M+1+1,0,none⟩ (.inl (.inr (by show M<=M+1+1;omega))) _)
    clear hw i a m hz P ah hN a2 N Q U hm ag;cases last
    · obtain rfl:false=z:=by simpa using F
      clear F
      gi_wp2_with (refine⟨trivial,?_⟩;gi_at_call 240;refine(CallsIn.inRound l (callsIn_wide.2 HW.o)).mono ?_;rintro e w1 ⟨Z,d⟩;obtain⟨rfl,T⟩:=d (by have:=G.o;omega);obtain⟨g,hR⟩:=a4.o w1 T;have g1:=one_cell g;have g2:=one_free g;have HR:=qH hR;clear Z d T hR)
      exact HR.o _ rfl
    · obtain rfl:lb=z:=by simpa using F
      clear F
      gi_wp2_with (refine⟨trivial,?_⟩;gi_at_call 240;refine(CallsIn.inRound l (callsIn_wide.2 HW.o)).mono ?_;rintro e w1 ⟨Z,d⟩;obtain⟨rfl,T⟩:=d (by have:=G.o;omega);obtain⟨g,hR⟩:=a4.o w1 T;have g1:=one_cell g;have g2:=one_free g;have HR:=qH hR;clear Z d T hR)
      exact HR.o _ rfl
 case done=>
  rintro D ys W hD rfl O hK;obtain⟨⟨S',hw,i⟩,a,m⟩:=O;have hz:=H.o;have au:M+1+1+1+1<=D:=(by omega);have g:=(a.block (M+1+1) (by omega) (λq=>by
   rcases q with q|q
   · have:=Y.o _ q;omega
   · omega)).trans ak.o
  have g1:=one_cell g;have g2:=one_free g;rw[ai.o] at hw m;obtain⟨a0,u,I⟩:=qh3 hw i a;have HF:=qH (m (Jl s));obtain⟨ab,am⟩:=qh2 hK g;clear hw i a m hz g hK;gi_wp2;have J:(W.setCell ⟨M+1+1,0,none⟩ (.int .i64 0)).heap[D]? =some (.deferred (some [])):=(KeepsOthers.setCell W ⟨M+1+1,0,none⟩ (.int .i64 0)).same D _ ab.o rfl;refine⟨by simp,.inl ⟨_,_,rfl,run_takeDeferred J,?_⟩⟩;have aa:=cell_kept (one_cell (one_set am.o (.int .i64 0))) (grownBy_putObj' _ D (.deferred none)) (λr e=>by cases e;exact⟨_,J,rfl⟩);have h1:Wt (W.setCell ⟨M+1+1,0,none⟩ (.int .i64 0)) B p S' most (V+nb (X++stm (o+X.length) s last)*2^o) (o+(X++stm (o+X.length) s last).length):=a0.o.keep ((Kept.refl (λj=>j=M+1+1) W).setCell ⟨M+1+1,0,none⟩ (.inl rfl) _) (λj y q=>by
   rcases u.o j y with r|r
   · have:=Y.o j r;omega
   · have:=H.o;omega)
  have R:=eD h1 (grownBy_putObj' _ D (.deferred none)) (λr e=>by cases e;exact⟨_,J,rfl⟩);have a8:Kept (λj=>S j\/M<=j) w2 W:=I.o.mono (λj y=>y.imp_right (λq=>by have:=H.o;omega));have a7:=(a8.setCell ⟨M+1+1,0,none⟩ (.inl (.inr (by show M<=M+1+1;omega))) (.int .i64 0)).grown (grownBy_putObj' _ D (.deferred none)) (λr e=>by cases e;exact .inl (.inr (by omega)));refine⟨.int .i64 0,?_,λ_=>⟨rfl,S',R,af.o _ a7,λj y=>by
   rcases u.o j y with q|q
   · exact .inl q
   · right;have:=H.o;have:=HM.o;omega⟩,λq=>absurd HF.o q⟩
  simp[results,f201,go_sem,aa]
 case stop=>
  rintro D c C W hD ⟨r,hr⟩ ⟨rfl,a5,a,d⟩ hK;have g1:=one_cell a5;have g2:=one_free a5;obtain⟨ab,I⟩:=qh2 hK a;have aj:=jR last C r (o+X.length);rw[hr,ai.o] at aj
  have al:=qH (show ¬(((o+(X++stm (o+X.length) s last).length+7) /8:Nat):Int)<=most from λq=>d (by
   rw[qA] at q ⊢;omega))
  clear hK a aj d hr;gi_wp2;have J:=ab.o;refine⟨by simp,.inl ⟨_,_,rfl,run_takeDeferred J,?_⟩⟩;have aa:=cell_kept g1 (grownBy_putObj' _ D (.deferred none)) (λr e=>by cases e;exact⟨_,J,rfl⟩);have a7:=I.o.grown (grownBy_putObj' _ D (.deferred none)) (λr e=>by cases e;exact .inl (.inr (by have:=H.o;omega)));have d:=al.o;refine⟨.int .i64 4,?_,λq=>absurd q (by omega),λ_=>⟨rfl,af.o _ a7⟩⟩;simp[results,f201,go_sem,aa]
end V
namespace V
open Go Go.RowKit M U
def dI(Q:Exit->Act->World->Prop):Exit->Act->World->Prop
 |.normal,a,w=>Q .normal a w
 |_,_,_=>False
theorem dI.imp{Q:Exit->Act->World->Prop}:∀ (e:Exit) (a:Act) (w:World),dI Q e a w->Q e a w:=λe a w h=>by
 cases e<;>first|exact h|exact h.elim
section
variable {n l:Nat} {P:Program} {md:Region.Mode} {ops:Array Oper} {Q:Exit->Act->World->Prop}
theorem pU{o:Oper}{a:Act}{K:Act->World->Prop}(r:Result Next)(h:o.upon P a K (dI Q) r):o.uponIn (Fence.wide.inRound l) n P a K (dI Q) r:=by
 cases r with
 |ok x w'=>
  cases x with
  |value v=>exact h
  |skip=>exact h
  |defer d=>exact h
  |enter f args=>
   rw[Oper.upon_enter] at h;rw[Oper.uponIn_enter];exact⟨λq=>(by cases q),CallsIn.inRound l (CallsIn.mono (callsIn_wide.2 h) (λe i j=>by cases e<;>exact j))⟩
  |row row args=>
   refine⟨λq=>(by cases q),λc cs _=> ?_⟩;obtain⟨v,i,r,s⟩:=(show Rows P row args w' _ from h) c cs;exact⟨v,i,r,stepsIn_wide.2 s⟩
  |_=>exact h.elim
 |halt x w'=>cases x<;>first|exact h|exact h.elim
def zQ(ops:Array Oper):Prop:=∀ (j:Nat) (o:Oper),ops[j]? =some o->∀c,o.op≠.defer c
theorem qt{i:Nat}{a:Act}{w:World}{K c:Act->World->Prop}(k:zQ ops)(e:∀a w,K a w->c a w)(h:wpOp P ops (dI Q) i K a w):wpOpIn (Fence.wide.inRound l) n P ops (dI Q) i c a w:=by
 unfold wpOp at h;unfold wpOpIn;cases d:ops[i]? with
 |none=>rw[d] at h;exact e _ _ h
 |some o=>
  rw[d] at h;have m:=k i o d;simp only at h ⊢;by_cases j:Region.wanted o (yielded ops a.tmps)=true
  · rw[A7 j] at h ⊢
    rcases h with h|⟨_,a',w',h⟩
    · refine⟨λf _=>trivial,?_⟩
      have q:=pU (n:=n) (l:=l) _ (Oper.wp_mono (o:=o) (a:=a) (w:=w) e h);show o.uponIn _ n P a c (dI Q) ((o.semAt (some l) a.eval).run P w)
      rw[Oper.semAt_some l a.eval o m];exact q
    · exact h.elim
  · rw[A0 j] at h ⊢
    exact⟨λf _=>trivial,e _ _ h⟩
theorem fY(d:zQ ops):∀ (fuel:Nat) (c:Array Bool) (a:Act) (w:World),wpAny P md ops (dI Q) fuel c a w->wpAnyIn (Fence.wide.inRound l) n P md ops (dI Q) fuel c a w
 |0,c,a,w,h=>h
 |fuel+1,c,a,w,h=>⟨h.1,λi hi=>qt d (λa w q=>fY d fuel _ a w q) (h.2 i hi)⟩
theorem bD{d:Nat}{S:World->Prop}{a:Act}{w:World}(e:P.follows .mixedOrders=true)(c:zQ ops)(i:S w.drew)
 (h:wpAnyH P .any ops (dI Q) S ops.size (Array.replicate ops.size false) a w.drew):(Code.region d ops true).wpIn (Fence.wide.inRound l) n P Q a w:=
 Code.wpIn_mono dI.imp (wpIn_region_any e (fY c _ _ _ _ (wpAny_of_held _ _ _ _ h)))
theorem dv(h:(ops.all λo=>match o.op with|.defer _=>false|_=>true)=true):zQ ops:=λj o a c e=>by
 rw[Array.all_eq_true_iff_forall_mem] at h;have:=h o (Array.mem_of_getElem? a);rw[e] at this;cases this
theorem wX{S:World->Prop}{i e:Nat}{j:Oper}{v:Value}{d:Option Tmp}{c:Array Bool}{a:Act}{w:World}(hi:ops[i]? =some j)(q:j.dst=d)(hs:Region.noSelect ops=true)(hf:Region.free md ops c i=true)(s:(Region.ready md ops c).contains i=true)
 (r:Region.wanted j (yielded ops a.tmps)=true) (m:∀w,S w->(execOp a.eval j).run P w=.ok (.value v) w) (k:S w) (h:wpAnyH P md ops (dI Q) S e (c.setIfInBounds i true) (a.put d v) w):wpAnyH P md ops (dI Q) S (e+1) c a w:=
 wpAnyH_take hi hs hf s (λ_ _ _ h=>h) (.inl ⟨r,m⟩) k (by rw[q];exact h)
end
theorem IE{w:World}{B p:Nat}{S:Nat->Prop}{most:Int}{V L:Nat}(h:Wt w B p S most V L){j:Nat}(s:S j)(r:j≠p){cs:Array Value}{T:TypeId}{fz:Nat×Nat}(x:w.heap[j]? =some (.cells cs T fz))(i:T≠ 5):False:=by
 obtain⟨z,c,u,k⟩:=h;rcases(k j).1 s with q|⟨a,ha,rfl⟩
 · exact r q
 · subst ha
   rcases u.own.2 with⟨e,_⟩|⟨g,m,y,e,_,d,_⟩
   · simp at e
   · simp only[Value.slice.injEq,Option.some.injEq] at e
     obtain⟨rfl,_,_⟩:=e;rw[x] at d;simp only[Option.some.injEq,Obj.cells.injEq] at d;exact i d.2.1
structure Rg8(M p Bx b i yn ye yb cc ss:Nat)(w:World):Prop where
 s0:w.cell? ⟨M,0,none⟩=some (.pointer (some ⟨p,0,none⟩))
 s1:w.cell? ⟨Bx,1,none⟩=some (.int .i64 yn)
 s2:w.cell? ⟨Bx,2,none⟩=some (.int .u32 ye)
 s3:w.cell? ⟨Bx,3,none⟩=some (.int .u8 yb)
 s4:w.cell? ⟨b,i,none⟩=some (.int .u32 cc)
 s5:w.cell? ⟨b,i+1,none⟩=some (.int .u8 ss)
theorem Rg8.kept{M p Bx b i d q j e c:Nat}{w w':World}{S:Nat->Prop}(h:Rg8 M p Bx b i d q j e c w)(k:Kept S w w')(r:¬S M)(a:¬S Bx)(m:¬S b):Rg8 M p Bx b i d q j e c w':=
 ⟨k.cell h.s0 r,k.cell h.s1 a,k.cell h.s2 a,k.cell h.s3 a,k.cell h.s4 m,k.cell h.s5 m⟩
attribute [local go_sem] Oper.semAt_some
theorem Fa{w:World}{B p:Nat}{S:Nat->Prop}{most:Int}{V L:Nat}(h:Wt w B p S most V L):∃R,S R/\S p/\∀j,S j->j=R\/j=p:=by
 obtain⟨k,c,m,d⟩:=h;cases k with
 |none=>exact⟨p,(d p).2 (.inl rfl),(d p).2 (.inl rfl),λj i=>by
  rcases(d j).1 i with q|⟨a,q,_⟩
  · exact .inl q
  · simp at q⟩
 |some a=>exact⟨a.block,(d _).2 (.inr ⟨a,rfl,rfl⟩),(d p).2 (.inl rfl),λj i=>by
  rcases(d j).1 i with q|⟨b,q,e⟩
  · exact .inr q
  · cases q;exact .inl e⟩
theorem IF{w:World}{B p:Nat}{S:Nat->Prop}{most:Int}{V L:Nat}(h:Wt w B p S most V L){j:Nat}(r:S j)(x y z:Int)(fz:Nat×Nat)(k:w.heap[j]? =some (.cells #[.int .u8 x,.int .i64 y,.int .i64 z] 139 fz)):False:=by
 obtain⟨u,c,i,m⟩:=h;rcases(m j).1 r with rfl|⟨a,ha,rfl⟩
 · have c0:=i.c0
   rw[cell_of_row _ _ 0 _ _ fz k] at c0;cases c0
 · subst ha
   rcases i.own.2 with⟨e,_⟩|⟨g,q,s,e,_,d,_⟩
   · simp at e
   · simp only[Value.slice.injEq,Option.some.injEq] at e
     obtain⟨rfl,_,_⟩:=e;rw[k] at d;simp only[Option.some.injEq,Obj.cells.injEq] at d;have:=d.2.1
     revert this
     decide
theorem KQ{w w':World}{B p:Nat}{S a:Nat->Prop}{most:Int}{V L R n₁:Nat}(h:Wt w B p S most V L)(k:Kept S w w')(hs:∀j,S j->a j\/n₁<=j)(c:∀j,a j->j=R\/j=p):Kq R p n₁ w w':=
 ⟨k.mono (λj d=>by
  rcases hs j d with q|q
  · rcases c j q with q|q
    · exact .inl q
    · exact .inr (.inl q)
  · exact .inr (.inr q)),λi x y z fz e=>(k.block i (qW.1 e).1 (λq=>IF h q x y z fz e)).trans e⟩
theorem Kq.grown{R p n₁:Nat}{j W W':World}{row:Option Nat}(h:Kq R p n₁ j W)(a:W.grownBy W' row)(d:∀r,row=some r->n₁<=r/\∃o:Obj,W.heap[r]? =some o/\o.isCells=false):Kq R p n₁ j W':=
 ⟨h.k.grown a (λr e=> .inl (.inr (.inr (d r e).1))),λi x y z fz e=>by
  have q:=h.t i x y z fz e;refine(a.block i (qW.1 q).1 (λm=> ?_)).trans q;obtain⟨_,o,c,s⟩:=d i m.symm;rw[q] at c;cases c;cases s⟩
structure It(w2:World)(B p R:Nat)(S:Nat->Prop)(most:Int)(V o:Nat)(X:List Nat)(F:Sy->List Nat)(pre:List Oy)(W:World):Prop where
 wr:∃S',Wt W B p S' most (V+nb (X++(pre.map (·.1)).flatMap F)*2^o) (o+(X++(pre.map (·.1)).flatMap F).length)/\∀j,S' j->S j\/w2.heap.size<=j
 kp:Kq R p w2.heap.size w2 W
 fit:pre≠[]->(((o+(X++(pre.map (·.1)).flatMap F).length+7) /8:Nat):Int)<=most
theorem It.own{d:World}{B p R:Nat}{S:Nat->Prop}{most:Int}{V o:Nat}{X:List Nat}{F:Sy->List Nat}:OwnFrom d.heap.size (It d B p R S most V o X F):=λh W s row hs a c=>by
 obtain⟨⟨k,i,m⟩,j,q⟩:=hs;exact⟨⟨k,eD i a (λr e=>(c r e).2),m⟩,j.grown a c,q⟩
structure IxW(w2:World)(M:Nat)(S:Nat->Prop)(most:Int)(o:Nat)(X:List Nat)(F:Sy->List Nat)(c:Code)(pre:List Oy)(W:World):Prop where
 ret:c=.ret
 res:W.heap[M+1+1]? =some (.cells #[.int .i64 4] 27 (0,0))
 kp:Kept (λj=>S j\/M<=j) w2 W
 no:¬(((o+(X++(pre.map (·.1)).flatMap F).length+7) /8:Nat):Int)<=most
theorem IxW.own{a:World}{M:Nat}{S:Nat->Prop}{most:Int}{o:Nat}{X:List Nat}{F:Sy->List Nat}{c:Code}(t:M+1+1<a.heap.size):OwnFrom a.heap.size (IxW a M S most o X F c):=λj W s row hs d h=>by
 obtain⟨k,i,m,q⟩:=hs;exact⟨k,(d.block (M+1+1) (qW.1 i).1 (λe=>by have:=(h (M+1+1) e.symm).1;omega)).trans i,m.grown d (λr e=> .inl (.inr (by have:=(h r e).1;omega))),q⟩
theorem wN{w:World}{B p:Nat}{S:Nat->Prop}{most:Int}{V o:Nat}{X:List Nat}(A:Option Addr)(n c:Nat)(L:List Tk)(A1 A2:Option Addr)(n1 c1 c2:Nat)(l1 l2:Nat->Nat)(h:Wt w B p S most (V+nb X*2^o) (o+X.length))(HT:Y.Tab w)(hL:IsTks w A n L)(aT:∀t∈L,may t=true)(hn:n<=100000)
 (hg:∀g,g= 2 \/g= 3 ->g<B) (hA:∀b q,A=some ⟨b,q,none⟩->0<n->b<B)
 (H1:av w .u8 A1 n1 (λi=>(l1 i:Int))) (H2:av w .u8 A2 30 (λi=>(l2 i:Int))) (cu:286<=n1) (cp:n1<=1000) (F1:rK l1 n1) (F2:rK l2 30) (h1:∀i,l1 i<=15) (h2:∀i,l2 i<=15) (cs:o+X.length<=100000000) (bW:rI L):
 Calls prog 206 #[.pointer (some ⟨p,0,none⟩),.slice A n c,.agg #[.slice A1 n1 c1,.slice A2 30 c2]] w (Put w B p S most V o X ((sys L).flatMap (wsy l1 n1 l2 30))):=by
 obtain⟨HH,cr,ch,bP,co⟩:=qh5 h HT hL aT bW;have HN:=qH (show(sys L).length<=200001 from by have:=fj L;have:=hL.leng;omega);have ca:=qH (show ∀W,Below w.heap.size w W->Calls prog 247 #[.slice A1 n1 c1] W (jx W n1 l1) from λW b=>cW A1 n1 c1 l1 W cp (by omega) F1 (H1.below b));have cb:=qH (show ∀W,Below w.heap.size w W->Calls prog 247 #[.slice A2 30 c2] W (jx W 30 l2) from λW b=>cW A2 30 c2 l2 W (by omega) (by omega) F2 (H2.below b));have cg:B<=w.heap.size:=(by have:=h.lt h.self;omega);obtain⟨R,b5,bb,bU⟩:=Fa h;obtain⟨cq,bw,c3,HG,HA⟩:=qh5 bU h1 h2 hg hA;obtain⟨wb,a9⟩:∃wb,((w.alloc (.cells #[.pointer (some ⟨p,0,none⟩)] 161)).alloc (.cells #[.slice A1 n1 c1,.slice A2 30 c2] 149)).alloc (.cells #[.int .i64 0] 27)=wb:=⟨_,rfl⟩
 have b6:wb.heap.size=w.heap.size+1+1+1:=(by rw[<-a9];simp);have bm:Below w.heap.size w wb:=(by rw[<-a9];exact(((Below.refl _ w).alloc qR _).alloc (by simp) _).alloc (by simp;omega) _);have g0:wb.heap[w.heap.size]? =some (.cells #[.pointer (some ⟨p,0,none⟩)] 161 (0,0)):=(by rw[<-a9];exact old_at _ (old_at _ (new_at _ _)));have g1:wb.heap[w.heap.size+1]? =some (.cells #[.slice A1 n1 c1,.slice A2 30 c2] 149 (0,0)):=by
  rw[<-a9];have:=old_at (.cells #[.int .i64 0] 27) (new_at (w.alloc (.cells #[.pointer (some ⟨p,0,none⟩)] 161)) (.cells #[.slice A1 n1 c1,.slice A2 30 c2] 149));rw[World.size_alloc] at this;exact this
 have g2:wb.heap[w.heap.size+1+1]? =some (.cells #[.int .i64 0] 27 (0,0)):=by
  rw[<-a9];have:=new_at ((w.alloc (.cells #[.pointer (some ⟨p,0,none⟩)] 161)).alloc (.cells #[.slice A1 n1 c1,.slice A2 30 c2] 149)) (.cells #[.int .i64 0] 27);rw[World.size_alloc,World.size_alloc] at this;exact this
 generalize hM:w.heap.size=M at b6 bm g0 g1 g2 cg;obtain⟨aK,aN,bs,bR,aO,HM,bN⟩:=qh7 bm b6 g0 g1 g2 hM a9;clear h HT hL aT bW H1 H2 F1 F2 bU h1 h2 hg hA b6 bm g0 g1 g2 a9;refine(callsIn_wide (n:=5)).1 ?_
 refine callsIn_of_wp_marks func206 rfl trivial ?_ rfl;simp only[ntmps206,AE,qC,AB,Nat.reduceAdd,Nat.reduceSub,Be,Bf,Bg,Bh,Ap,Ac]
 gi_wp2_with (first
  |(refine⟨trivial,?_⟩;gi_at_call 248;refine(callsIn_wide.2 (km _ _ _ _)).mono ?_;rintro e w' ⟨rfl,rfl⟩)
  |(refine⟨trivial,?_⟩;gi_at_call 247;rw[bN.o];refine(callsIn_wide.2 (ca.o wb (by rw[HM.o];exact aK.o))).mono ?_;rintro e w1 ⟨I,d1,rfl,aP,aX,aC⟩
    obtain⟨aZ,b8⟩:=qh2 aP aX;have ac:=qH (aC.alloc aC.size (.cells #[.slice (some ⟨I,0,none⟩) n1 d1] 207));have bJ:=qH (new_at w1 (.cells #[.slice (some ⟨I,0,none⟩) n1 d1] 207));have k1:(w1.alloc (.cells #[.slice (some ⟨I,0,none⟩) n1 d1] 207)).cell? ⟨M+1,1,none⟩=some (.slice A2 30 c2):=by
     exact cell_of_row _ _ 1 _ _ (0,0) ((ac.o.block (M+1) (by have:=aN.o;omega)).trans bR.o)
    clear aP aX aC)
  |(refine⟨trivial,?_⟩;gi_at_call 247;refine(callsIn_wide.2 (cb.o _ (by rw[HM.o];exact aK.o.trans (ac.o.mono (by have:=aN.o;omega))))).mono ?_;rintro e w3 ⟨U,d2,rfl,ao,aS,aD⟩
    obtain⟨aR,b3⟩:=qh2 ao aS;have b0:=qH (aD.alloc aD.size (.cells #[.slice (some ⟨U,0,none⟩) 30 d2] 207));have bt:=qH (new_at w3 (.cells #[.slice (some ⟨U,0,none⟩) 30 d2] 207));clear ao aS aD k1))
 obtain⟨P1,aF⟩:∃P1,w1.heap.size=P1:=⟨_,rfl⟩
 obtain⟨P2,am⟩:∃P2,w3.heap.size=P2:=⟨_,rfl⟩
 obtain⟨wa,aA⟩:∃wa,w1.alloc (.cells #[.slice (some ⟨I,0,none⟩) n1 d1] 207)=wa:=⟨_,rfl⟩
 obtain⟨wc,ar⟩:∃wc,w3.alloc (.cells #[.slice (some ⟨U,0,none⟩) 30 d2] 207)=wc:=⟨_,rfl⟩
 obtain⟨w2,aE⟩:∃w2,wc.alloc (.cells #[.slice A n c] 92)=w2:=⟨_,rfl⟩
 have sa:wa.heap.size=P1+1:=(by rw[<-aA,<-aF];simp);have sc:wc.heap.size=P2+1:=(by rw[<-ar,<-am];simp);have c4:w2.heap.size=P2+1+1:=(by rw[<-aE,<-sc];simp);have ba:=ac.o;have bc:=b0.o;have p1:=bJ.o;have p2:=bt.o;rw[aA] at ba bc p1;rw[ar] at bc p2;rw[aF] at p1;rw[am] at p2;have bd:Below wc.heap.size wc w2:=(by rw[<-aE];exact qL);have zb:=aN.o;have aP:=aZ.o;have ao:=aR.o;have c8:I<P1:=(by rw[<-aF];exact b8.o.lt);have bZ:U<P2:=(by rw[<-am];exact b3.o.lt);rw[aA] at ao;have ce:=ba.size;have ci:=bc.size;have bM:Below M w w2:=((aK.o.trans (ba.mono (by omega))).trans (bc.mono (by omega))).trans (bd.mono (by omega));have bX:Below wb.heap.size wb w2:=(ba.trans (bc.mono (by omega))).trans (bd.mono (by omega));have bY:Below wa.heap.size wa w2:=bc.trans (bd.mono (by omega));have g0:w2.heap[M]? =some (.cells #[.pointer (some ⟨p,0,none⟩)] 161 (0,0)):=(bX.block M (by omega)).trans bs.o;have g2:w2.heap[M+1+1]? =some (.cells #[.int .i64 0] 27 (0,0)):=(bX.block (M+1+1) (by omega)).trans aO.o;have bI:w2.heap[P1]? =some (.cells #[.slice (some ⟨I,0,none⟩) n1 d1] 207 (0,0)):=(bY.block P1 (by omega)).trans p1;have bK:w2.heap[P2]? =some (.cells #[.slice (some ⟨U,0,none⟩) 30 d2] 207 (0,0)):=(bd.block P2 (by omega)).trans p2;have aG:w2.heap[P2+1]? =some (.cells #[.slice A n c] 92 (0,0)):=(by rw[<-aE,<-sc];exact new_at _ _);have a4:C.Crow w2 I n1 (C.rc l1 n1) l1:=by
  have q:C.Crow wa I n1 (C.rc l1 n1) l1:=(by rw[<-aA];exact b8.o.alloc _);exact Crow.at' q (bY.block I (by omega))
 have a5:C.Crow w2 U 30 (C.rc l2 30) l2:=by
  have q:C.Crow wc U 30 (C.rc l2 30) l2:=(by rw[<-ar];exact b3.o.alloc _);exact Crow.at' q (bd.block U (by omega))
 rw[ar,aE,aF,am];have bT:B<=R/\R<M:=(by have:=HH.o.lt b5;rw[HM.o] at this;exact this);have bz:B<=p/\p<M:=(by have:=HH.o.lt bb;rw[HM.o] at this;exact this);have bF:=HG.o;have aH:=cr.o.below bM (by rw[HM.o];exact qR);have ax:=ch.o.below (by rw[HM.o];exact bM);have aw:∀b q,A=some ⟨b,q,none⟩->0<n->b<w2.heap.size/\b≠R/\b≠p:=λb q e hp=>by
  have:=HA.o b q e hp;omega
 obtain⟨a0,bs,aO,bv,bx,bL,bE⟩:=qh7 c4 g0 g2 bI bK a4 a5;have H:=qH (show M+3<=I/\I<P1/\P1<U/\U<P2 from by omega);have b7:=qH (show ∀j,S j->B<=j/\j<M from λj hj=>by have:=HH.o.lt hj;rw[HM.o] at this;exact this);have bC:=qH (HH.o.keep (Kept.of_below (by rw[HM.o];exact bM)) (λj _ q=>q));have bS:=qH (show ∀W',Kept (λj=>S j\/M<=j) w2 W'->Kept S w W' from λW' k=>(aq S (by rw[HM.o];exact bM)).trans k (λj hj=>hj.imp_right (λq=>by have:=HM.o;omega)));obtain⟨F,hF⟩:∃F,wsy l1 n1 l2 30=F:=⟨_,rfl⟩
 have al:=qH hF;rw[hF];obtain⟨c6,c5⟩:=qh2 bT bz;have au:P2+1<w2.heap.size:=(by omega);have ay:P2+1≠R:=(by omega);have ap:P2+1≠p:=(by omega);have ak:∀g,g= 2 \/g= 3 ->g<w2.heap.size/\g≠R/\g≠p:=λg hg=>by
  have:=bF g hg;omega
 clear b8 b3 ac b0 bJ bt aZ aR aN bR bN aK ba bc p1 p2 bd zb aP ao c8 bZ ce ci bM bX bY g0 g2 bI bK a4 a5 sa sc aA ar aE aF am hF bT bz bF c4
 refine wpIn_rangeFunc_ownH rfl (by omega) (gf:= 282) (lb:= #[.pointer (some ⟨P2+1,0,none⟩)]) rfl trivial (enters_of func282 (by kernel_rfl) rfl)
  (co.o 4 (P2+1) R p w2.heap.size n c A (by omega) (by omega) au ay ap ak w2 qR (one_cell aG) ax bP.o aw aH)
  (λh k=>h.trans k) (λW l o o' hl h hc _=>Kq.book W l o o' hl h hc) (Below.refl _ _) (λ_=>rfl)
  (It w2 B p R S most V o X F) (IxW w2 M S most o X F) It.own (λc=>IxW.own (by have:=a0.o;have:=H.o;omega))
  ⟨⟨S,by simpa using bC.o,λj hj=> .inl hj⟩,Kq.refl _,λq=>absurd rfl q⟩
  (AxC w2.heap.size (λx Bx=> {tmps:= #[.pointer (some ⟨p,0,none⟩),.slice A n c,.agg #[.slice A1 n1 c1,.slice A2 30 c2],.pointer (some ⟨M,0,none⟩),undef,.pointer (some ⟨M+1,0,none⟩),.pointer (some ⟨M+1+1,0,none⟩),.pointer (some ⟨P1,0,none⟩),.int .i64 0,.pointer (some ⟨P2,0,none⟩),.int .i64 0,.pointer (some ⟨Bx,0,none⟩),undef,undef,.tuple #[.slice (some ⟨I,0,none⟩) n1 d1,.int .i64 0],.pointer (some ⟨M+1,0,none⟩),.slice A1 n1 c1,.tuple #[.slice (some ⟨I,0,none⟩) n1 d1,.int .i64 0],.slice (some ⟨I,0,none⟩) n1 d1,.int .i64 0,.tuple #[.slice (some ⟨U,0,none⟩) 30 d2,.int .i64 0],.pointer (some ⟨M+1,1,none⟩),.slice A2 30 c2,.tuple #[.slice (some ⟨U,0,none⟩) 30 d2,.int .i64 0],.slice (some ⟨U,0,none⟩) 30 d2,.int .i64 0,.slice A n c,.func (.func 282) #[] #[.pointer (some ⟨P2+1,0,none⟩)],sgv x.1,undef,undef,undef,undef,undef,undef,undef,undef,undef,undef,undef,undef,undef,undef,undef,undef,undef],defers:=[]}))
  (λx a'=>AxC.own)
  ?assign ?body ?done ?stop
 case assign=>
  rintro l a3 x W K hm hK;have HK:=qH (λ(a':Act) (W':World) (h1:KeepsFrom w2.heap.size W W') (h2:Kq R p w2.heap.size W W') (h3:It w2 B p R S most V o X F a3 W') h4=>hK a' W' h1 h2 h3 h4);have bH:=qH hm;clear hK hm aG aw aH ax au ay ap ak;obtain⟨⟨yd,a,G,u⟩,hy⟩:=x;unfold EB sgv;gi_wp2;exact HK.o _ _ ((KeepsOthers.alloc _ _).from _) (Kq.alloc _ _) (It.own.alloc _ bH.o) ⟨W.heap.size,bH.o.kp.k.size,new_at _ _,rfl⟩
 case body=>
  rintro l' a3 x a' W cj ⟨r,hr⟩ hm ⟨Bx,ct,hR,rfl⟩ cn;obtain⟨⟨S',hw,N⟩,s,ad⟩:=hm;have br:=a0.o;have bo:=H.o;have bh:=c6.o;have b4:=c5.o;have aa:∀j,j<w2.heap.size->M<=j->¬Sx R p w2.heap.size j:=λj h1 h2=>sx_no h1 (by omega) (by omega)
  have c0:=one_cell ((s.k.block M (by omega) (aa M (by omega) (by omega))).trans bs.o);have cv:=one_cell ((s.k.block P1 (by omega) (aa P1 (by omega) (by omega))).trans bv.o);have cw:=one_cell ((s.k.block P2 (by omega) (aa P2 (by omega) (by omega))).trans bx.o);have bA:=qH ((s.k.block (M+1+1) (by omega) (aa (M+1+1) (by omega) (by omega))).trans aO.o);have a4:C.Crow W I n1 (C.rc l1 n1) l1:=Crow.at' bL.o (s.k.block I (by omega) (aa I (by omega) (by omega)));have a5:C.Crow W U 30 (C.rc l2 30) l2:=Crow.at' bE.o (s.k.block U (by omega) (aa U (by omega) (by omega)));have cl:=qH (show ¬S' (M+1+1) from λq=>by
   rcases N _ q with q|q
   · have:=b7.o _ q;omega
   · omega)
  have bl:=qH (show ∀j,j<w2.heap.size->M<=j->¬S' j from λj h1 h2 q=>by
   rcases N _ q with q|q
   · have:=b7.o _ q;omega
   · omega)
  have c9:=qH (bl.o M (by omega) (by omega));have aY:=qH (show ¬S' Bx from λq=>IE hw q (by omega) hR (by decide));have bu:=qH (show w2.heap.size<=W.heap.size from s.k.size);obtain⟨y,hy⟩:=x;have cf:a3.length<=200001:=(by have:=HN.o;omega);obtain⟨Xp,aJ⟩:∃Xp,X++(a3.map (·.1)).flatMap F=Xp:=⟨_,rfl⟩
  have aV:o+Xp.length<=800000000:=by
   have h1:=iE l1 n1 l2 30 (λi=>qK (bw.o i) (by omega)) (λi=>qK (c3.o i) (by omega)) (a3.map (·.1)) (λy hy=>by
    obtain⟨z,_,rfl⟩:=Ay.1 hy;exact z.2.2.1)
   rw[al.o,Ah] at h1;rw[<-aJ,qA];omega
  have bG:X++((a3++[(⟨y,hy⟩:Oy)]).map (·.1)).flatMap F=Xp++F y:=by
   rw[Aw,AL,<-qD,aJ];simp
  rw[aJ] at hw;have ag:=hy.1.1;have ah:=hy.1.2;have ai:=hy.2.1;have a8:=hy.2.2.2;obtain⟨b9,a2,a1,ae,c7⟩:=qh5 bG hw N s aV;have aI: prog.follows .mixedOrders=true:=(by kernel_rfl);have aQ:=qH (show ∀wk w1 S2,Below W.heap.size W wk->(((o+(Xp++F y).length+7) /8:Nat):Int)<=most->Wt w1 B p S2 most (V+nb (Xp++F y)*2^o) (o+(Xp++F y).length)->Kept S' wk w1->(∀j,S2 j->S' j\/wk.heap.size<=j)->KeepsFrom w2.heap.size W w1/\Kq R p w2.heap.size W w1/\It w2 B p R S most V o X F (a3++[(⟨y,hy⟩:Oy)]) w1 from λwk w1 S2 bk be h2 k2 i2=>by
   have k:=(aq S' bk).trans k2 (λj hj=> .inl hj);have kq:=KQ a2.o k a1.o cq.o;exact⟨(bV a2.o k).from _,kq,⟨S2,by rw[b9.o];exact h2,λj hj=>by
    rcases i2 j hj with q|q
    · exact a1.o j q
    · right;have:=bu.o;have:=bk.size;omega⟩,ae.o.trans kq,λ_=>by rw[b9.o];exact be⟩)
  have aU:=qH (show ∀wk w1,Below W.heap.size W wk->¬(((o+(Xp++F y).length+7) /8:Nat):Int)<=most->Kept S' wk w1->w1.heap[M+1+1]? =some (.cells #[.int .i64 0] 27 (0,0))/\∀v,v=Value.int .i64 4->KeepsFrom w2.heap.size W (w1.setCell ⟨M+1+1,0,none⟩ v)/\IxW w2 M S most o X F .ret (a3++[(⟨y,hy⟩:Oy)]) (w1.setCell ⟨M+1+1,0,none⟩ v) from λwk w1 bk be k1=>by
   have cx:=bu.o;have k:=(aq S' bk).trans k1 (λj hj=> .inl hj);have g:=(k.block (M+1+1) (by omega) cl.o).trans bA.o;refine⟨g,λv hv=>⟨((bV a2.o k).trans (KeepsOthers.setCell _ _ _)).from _,rfl,by rw[hv];exact one_set g _,?_,by rw[b9.o];exact be⟩⟩;have cm:Kept (λj=>S j\/M<=j) w2 W:=ae.o.k.mono (λj hj=>by
    rcases hj with q|q|q
    · exact .inl (q▸b5)
    · exact .inl (q▸bb)
    · right;omega)
   have bi:Kept (λj=>S j\/M<=j) w2 w1:=cm.trans k (λj hj=>by
    rcases a1.o j hj with q|q
    · exact .inl (.inl q)
    · exact .inr q)
   exact bi.setCell ⟨M+1+1,0,none⟩ (.inl (.inr (by show M<=M+1+1;omega))) _)
  obtain⟨yd,a,G,u⟩:=y;simp only at hR ag ah ai a8;unfold sgv;dsimp only;have q0:W.cell? ⟨Bx,0,none⟩=some (.bool yd):=cell_of_row _ _ 0 _ _ (0,0) hR;have q1:W.cell? ⟨Bx,1,none⟩=some (.int .i64 a):=cell_of_row _ _ 1 _ _ (0,0) hR;have q2:W.cell? ⟨Bx,2,none⟩=some (.int .u32 G):=cell_of_row _ _ 2 _ _ (0,0) hR;have q3:W.cell? ⟨Bx,3,none⟩=some (.int .u8 u):=cell_of_row _ _ 3 _ _ (0,0) hR;clear s ad br bo bh b4 aa cf aJ aV bG hr cn aG aw aH ax au ay ap ak cj N hR;cases yd
  case' false=>
   have an:a<n1:=(by have:=ag rfl;omega);have bB:(a:Int)<n1:=(by omega);have m0:=a4.cell1 an;have m1:=a4.cell2 an;have m:=C.rc_lt l1 n1 a;have O:=bw.o a;have T:F ⟨false,a,G,u⟩=([(C.rc l1 n1 a,l1 a),(G,u)]:List Cd).flatMap cbs:=by
    rw[<-al.o];unfold wsy cbs C.rc;simp[nX]
   obtain⟨cc,a7⟩:∃cc,C.rc l1 n1 a=cc:=⟨_,rfl⟩
   obtain⟨ss,ab⟩:∃ss,l1 a=ss:=⟨_,rfl⟩
   rw[a7] at m0 m T;rw[ab] at m1 m O T;have bk:Below W.heap.size W ((W.alloc (.cells #[.int .u32 (cc:Int),.int .u8 (ss:Int),.int .u32 (G:Int),.int .u8 (u:Int)] 216)).drew):=((Below.refl _ W).alloc qR _).drew;have E:=qH (show Rg8 M p Bx I (a*2) a G u cc ss W.drew from⟨c0,q1,q2,q3,m0,m1⟩);have aL:=qH (show Rg8 M p Bx I (a*2) a G u cc ss ((W.alloc (.cells #[.int .u32 (cc:Int),.int .u8 (ss:Int),.int .u32 (G:Int),.int .u8 (u:Int)] 216)).drew) from E.o.kept ((Kept.refl NoB W.drew).alloc (.cells #[.int .u32 (cc:Int),.int .u8 (ss:Int),.int .u32 (G:Int),.int .u8 (u:Int)] 216)) (λq=>q) (λq=>q) (λq=>q));have bj:=qH (show ∀Z,Kept S' ((W.alloc (.cells #[.int .u32 (cc:Int),.int .u8 (ss:Int),.int .u32 (G:Int),.int .u8 (u:Int)] 216)).drew) Z->Rg8 M p Bx I (a*2) a G u cc ss Z from λZ k=>aL.o.kept k c9.o aY.o (bl.o I (by have:=H.o;have:=a0.o;omega) (by have:=H.o;omega)));have aB:=qH bk;have J:=bQ (w:=(W.alloc (.cells #[.int .u32 (cc:Int),.int .u8 (ss:Int),.int .u32 (G:Int),.int .u8 (u:Int)] 216)).drew) (some ⟨W.heap.size,0,none⟩) 2 2 [(cc,ss),(G,u)] (a2.o.keep (Kept.of_below bk) (λj _ q=>q)) (az.of_row (heap_alloc_new W _) rfl rfl) (iZ a2.o qR) (λc hc=>by
    simp only[Ab,BH,BI] at hc;rcases hc with rfl|rfl
    · exact⟨m,by show ss<=16;omega⟩
    · exact⟨a8,by show u<=16;omega⟩) (by omega) (by omega) c7.o
   rw[<-T] at J;unfold Put at J;have bp:=qH J;by_cases hm:(((o+(Xp++F ⟨false,a,G,u⟩).length+7) /8:Nat):Int)<=most
   case' pos=>
    have HR:=qH (λZ S2 h2 k2 i2=>aQ.o _ Z S2 aB.o hm h2 k2 i2);have aj:=qH hm;clear bk J hm hw ag ah ai a8 a7 ab m O T a4 a5;gi_wp2;refine bD (S:=Rg8 M p Bx I (a*2) a G u cc ss) aI (dv (by kernel_rfl)) E.o ?_
   case' neg=>
    have HR:=qH (λZ k1=>aU.o _ Z aB.o hm k1);have aj:=qH hm;clear bk J hm hw ag ah ai a8 a7 ab m O T a4 a5;gi_wp2;refine bD (S:=Rg8 M p Bx I (a*2) a G u cc ss) aI (dv (by kernel_rfl)) E.o ?_
  case' true=>
   have an:a<30:=ah rfl;have bB:(a:Int)<30:=(by omega);have m0:=a5.cell1 an;have m1:=a5.cell2 an;have m:=C.rc_lt l2 30 a;have O:=c3.o a;have T:F ⟨true,a,G,u⟩=([(C.rc l2 30 a,l2 a),(G,u)]:List Cd).flatMap cbs:=by
    rw[<-al.o];unfold wsy cbs C.rc;simp[nX]
   obtain⟨cc,a7⟩:∃cc,C.rc l2 30 a=cc:=⟨_,rfl⟩
   obtain⟨ss,ab⟩:∃ss,l2 a=ss:=⟨_,rfl⟩
   rw[a7] at m0 m T;rw[ab] at m1 m O T;have bk:Below W.heap.size W ((W.alloc (.cells #[.int .u32 (cc:Int),.int .u8 (ss:Int),.int .u32 (G:Int),.int .u8 (u:Int)] 216)).drew):=((Below.refl _ W).alloc qR _).drew;have E:=qH (show Rg8 M p Bx U (a*2) a G u cc ss W.drew from⟨c0,q1,q2,q3,m0,m1⟩);have aL:=qH (show Rg8 M p Bx U (a*2) a G u cc ss ((W.alloc (.cells #[.int .u32 (cc:Int),.int .u8 (ss:Int),.int .u32 (G:Int),.int .u8 (u:Int)] 216)).drew) from E.o.kept ((Kept.refl NoB W.drew).alloc (.cells #[.int .u32 (cc:Int),.int .u8 (ss:Int),.int .u32 (G:Int),.int .u8 (u:Int)] 216)) (λq=>q) (λq=>q) (λq=>q));have bj:=qH (show ∀Z,Kept S' ((W.alloc (.cells #[.int .u32 (cc:Int),.int .u8 (ss:Int),.int .u32 (G:Int),.int .u8 (u:Int)] 216)).drew) Z->Rg8 M p Bx U (a*2) a G u cc ss Z from λZ k=>aL.o.kept k c9.o aY.o (bl.o U (by have:=H.o;have:=a0.o;omega) (by have:=H.o;omega)));have aB:=qH bk;have J:=bQ (w:=(W.alloc (.cells #[.int .u32 (cc:Int),.int .u8 (ss:Int),.int .u32 (G:Int),.int .u8 (u:Int)] 216)).drew) (some ⟨W.heap.size,0,none⟩) 2 2 [(cc,ss),(G,u)] (a2.o.keep (Kept.of_below bk) (λj _ q=>q)) (az.of_row (heap_alloc_new W _) rfl rfl) (iZ a2.o qR) (λc hc=>by
    simp only[Ab,BH,BI] at hc;rcases hc with rfl|rfl
    · exact⟨m,by show ss<=16;omega⟩
    · exact⟨a8,by show u<=16;omega⟩) (by omega) (by omega) c7.o
   rw[<-T] at J;unfold Put at J;have bp:=qH J;by_cases hm:(((o+(Xp++F ⟨true,a,G,u⟩).length+7) /8:Nat):Int)<=most
   case' pos=>
    have HR:=qH (λZ S2 h2 k2 i2=>aQ.o _ Z S2 aB.o hm h2 k2 i2);have aj:=qH hm;clear bk J hm hw ag ah ai a8 a7 ab m O T a4 a5;gi_wp2;refine bD (S:=Rg8 M p Bx U (a*2) a G u cc ss) aI (dv (by kernel_rfl)) E.o ?_
   case' neg=>
    have HR:=qH (λZ k1=>aU.o _ Z aB.o hm k1);have aj:=qH hm;clear bk J hm hw ag ah ai a8 a7 ab m O T a4 a5;gi_wp2;refine bD (S:=Rg8 M p Bx U (a*2) a G u cc ss) aI (dv (by kernel_rfl)) E.o ?_
  all_goals
   refine wX (i:=0) (d:=some 33) (v:= ?_) rfl rfl (by kernel_rfl) (by kernel_rfl) (by kernel_rfl) (by rfl) (λw' hs=> ?_) E.o ?_
   rotate_left
   · (obtain⟨s0,s1,s2,s3,s4,s5⟩:=hs;go_simp;(try with_reducible rfl))
   (try simp only[Act.put,List.setIfInBounds_toArray,List.set_cons_zero,List.set_cons_succ])
   refine wX (i:=1) (d:=some 34) (v:= ?_) rfl rfl (by kernel_rfl) (by kernel_rfl) (by kernel_rfl) (by rfl) (λw' hs=> ?_) E.o ?_
   rotate_left
   · (obtain⟨s0,s1,s2,s3,s4,s5⟩:=hs;go_simp;(try with_reducible rfl))
   (try simp only[Act.put,List.setIfInBounds_toArray,List.set_cons_zero,List.set_cons_succ])
   refine wX (i:=2) (d:=some 35) (v:= ?_) rfl rfl (by kernel_rfl) (by kernel_rfl) (by kernel_rfl) (by rfl) (λw' hs=> ?_) E.o ?_
   rotate_left
   · (obtain⟨s0,s1,s2,s3,s4,s5⟩:=hs;go_simp;(try with_reducible rfl))
   (try simp only[Act.put,List.setIfInBounds_toArray,List.set_cons_zero,List.set_cons_succ])
   refine wX (i:=3) (d:=some 36) (v:= ?_) rfl rfl (by kernel_rfl) (by kernel_rfl) (by kernel_rfl) (by rfl) (λw' hs=> ?_) E.o ?_
   rotate_left
   · (obtain⟨s0,s1,s2,s3,s4,s5⟩:=hs;go_simp;(try with_reducible rfl))
   (try simp only[Act.put,List.setIfInBounds_toArray,List.set_cons_zero,List.set_cons_succ])
   refine wX (i:=4) (d:=some 37) (v:= ?_) rfl rfl (by kernel_rfl) (by kernel_rfl) (by kernel_rfl) (by rfl) (λw' hs=> ?_) E.o ?_
   rotate_left
   · (obtain⟨s0,s1,s2,s3,s4,s5⟩:=hs;go_simp;(try with_reducible rfl))
   (try simp only[Act.put,List.setIfInBounds_toArray,List.set_cons_zero,List.set_cons_succ])
   refine wX (i:=5) (d:=some 38) (v:= ?_) rfl rfl (by kernel_rfl) (by kernel_rfl) (by kernel_rfl) (by rfl) (λw' hs=> ?_) E.o ?_
   rotate_left
   · (obtain⟨s0,s1,s2,s3,s4,s5⟩:=hs;go_simp;(try with_reducible rfl))
   (try simp only[Act.put,List.setIfInBounds_toArray,List.set_cons_zero,List.set_cons_succ])
   refine wX (i:=6) (d:=some 39) (v:= ?_) rfl rfl (by kernel_rfl) (by kernel_rfl) (by kernel_rfl) (by rfl) (λw' hs=> ?_) E.o ?_
   rotate_left
   · (obtain⟨s0,s1,s2,s3,s4,s5⟩:=hs;go_simp;(try with_reducible rfl))
   (try simp only[Act.put,List.setIfInBounds_toArray,List.set_cons_zero,List.set_cons_succ])
   refine wX (i:=7) (d:=some 40) (v:= ?_) rfl rfl (by kernel_rfl) (by kernel_rfl) (by kernel_rfl) (by rfl) (λw' hs=> ?_) E.o ?_
   rotate_left
   · (obtain⟨s0,s1,s2,s3,s4,s5⟩:=hs;go_simp;(try with_reducible rfl))
   (try simp only[Act.put,List.setIfInBounds_toArray,List.set_cons_zero,List.set_cons_succ])
   refine wpAnyH_ready (rs:=[8]) (by kernel_rfl) (by simp) (AllReadyH.cons rfl (λK hK=> ?_) AllReadyH.nil);go_simp;refine hK.out _ _ aL.o (λ_=> ?_);clear hK K
   (try simp only[Act.put,List.setIfInBounds_toArray,List.set_cons_zero,List.set_cons_succ])
   refine wpAnyH_ready (rs:=[9]) (by kernel_rfl) (by simp) (AllReadyH.cons rfl (λK hK=> ?_) AllReadyH.nil);go_simp
   first|((with_reducible refine bp.o.mono ?_);rintro e Z ⟨hd,a6⟩;obtain⟨rfl,S2,h2,k2,i2⟩:=hd aj.o;have HE:=qH (HR.o Z S2 h2 k2 i2);have aM:=bj.o Z k2;clear hd a6 h2 k2 i2)|((with_reducible refine bp.o.mono ?_);rintro e Z ⟨hd,a6⟩;obtain⟨rfl,k1⟩:=a6 (by have:=aj.o;omega);obtain⟨g,hE⟩:=HR.o Z k1;have g1:=one_cell g;have g2:=one_free g;have HE:=qH hE;have aM:=bj.o Z k1;clear hd a6 k1 hE)
   dsimp only;refine hK.out _ _ aM (λ_=> ?_);clear hK K
   (try simp only[Act.put,List.setIfInBounds_toArray,List.set_cons_zero,List.set_cons_succ])
   refine wX (i:=10) (d:=some 13) (v:= ?_) rfl rfl (by kernel_rfl) (by kernel_rfl) (by kernel_rfl) (by rfl) (λw' hs=> ?_) aM ?_
   rotate_left
   · (go_simp;(try with_reducible rfl))
   (try simp only[Act.put,List.setIfInBounds_toArray,List.set_cons_zero,List.set_cons_succ])
   refine wpAnyH_done (by kernel_rfl) ?_ _;simp only[dI];clear aM;gi_wp2
   first|exact HE.o|exact HE.o _ rfl
 case done=>
  rintro D ys W hD hS hm hK;obtain⟨⟨S',hw,N⟩,s,ad⟩:=hm;have br:=a0.o;have bo:=H.o;have bh:=c6.o;have b4:=c5.o;have g:=(s.k.block (M+1+1) (by omega) (sx_no (by omega) (by omega) (by omega))).trans aO.o;have g1:=one_cell g;have g2:=one_free g;have bO:ys≠[]:=λq=>by
   rw[q] at hS;have:=congrArg List.length hS;unfold sys at this;simp at this
  have hf:=ad bO;rw[hS] at hw hf;obtain⟨a2,a1,ae,HF,bq,ck⟩:=qh6 hw N s hf hK g;clear hw N s ad br bo bh b4 g bO hf hK hS aG aw aH ax au ay ap ak;gi_wp2;have af:(W.setCell ⟨M+1+1,0,none⟩ (.int .i64 0)).heap[D]? =some (.deferred (some [])):=(KeepsOthers.setCell W ⟨M+1+1,0,none⟩ (.int .i64 0)).same D _ bq.o rfl;refine⟨by simp,.inl ⟨_,_,rfl,run_takeDeferred af,?_⟩⟩;have bn:=cell_kept (one_cell (one_set ck.o (.int .i64 0))) (grownBy_putObj' _ D (.deferred none)) (λr e=>by cases e;exact⟨_,af,rfl⟩);have h1:Wt (W.setCell ⟨M+1+1,0,none⟩ (.int .i64 0)) B p S' most (V+nb (X++(sys L).flatMap F)*2^o) (o+(X++(sys L).flatMap F).length):=a2.o.keep ((Kept.refl (λj=>j=M+1+1) W).setCell ⟨M+1+1,0,none⟩ (.inl rfl) _) (λj hj q=>by
   rcases a1.o j hj with r|r
   · have:=b7.o j r;omega
   · have:=a0.o;have:=H.o;omega)
  have h2:=eD h1 (grownBy_putObj' _ D (.deferred none)) (λr e=>by cases e;exact⟨_,af,rfl⟩);have bi:Kept (λj=>S j\/M<=j) w2 W:=ae.o.k.mono (λj hj=>by
   rcases hj with q|q|q
   · exact .inl (q▸b5)
   · exact .inl (q▸bb)
   · right;have:=a0.o;have:=H.o;omega)
  have bg:=(bi.setCell ⟨M+1+1,0,none⟩ (.inl (.inr (by show M<=M+1+1;omega))) (.int .i64 0)).grown (grownBy_putObj' _ D (.deferred none)) (λr e=>by cases e;exact .inl (.inr (by have:=a0.o;have:=H.o;omega)));have bf:=al.o;subst bf;refine⟨.int .i64 0,?_,λ_=>⟨rfl,S',h2,bS.o _ bg,λj hj=>by
   rcases a1.o j hj with q|q
   · exact .inl q
   · right;have:=a0.o;have:=HM.o;have:=H.o;omega⟩,λq=>absurd HF.o q⟩
  simp[results,f206,go_sem,bn]
 case stop=>
  rintro D c a3 W hD ⟨r,hr⟩ ⟨rfl,aW,s,a6⟩ hK;have g1:=one_cell aW;have g2:=one_free aW;obtain⟨bq,ae⟩:=qh2 hK s
  have cd:=qH (show ¬(((o+(X++(sys L).flatMap F).length+7) /8:Nat):Int)<=most from λq=>a6 (by
   rw[<-hr,AL,<-qD] at q;exact kN q))
  clear hK s a6 hr aG aw aH ax au ay ap ak;gi_wp2;have af:=bq.o;refine⟨by simp,.inl ⟨_,_,rfl,run_takeDeferred af,?_⟩⟩;have bn:=cell_kept g1 (grownBy_putObj' _ D (.deferred none)) (λr e=>by cases e;exact⟨_,af,rfl⟩);have bg:=ae.o.grown (grownBy_putObj' _ D (.deferred none)) (λr e=>by cases e;exact .inl (.inr (by have:=a0.o;have:=H.o;omega)));have a6:=cd.o;have bf:=al.o;subst bf;refine⟨.int .i64 4,?_,λq=>absurd q (by omega),λ_=>⟨rfl,bS.o _ bg⟩⟩;simp[results,f206,go_sem,bn]
end V
namespace V
open Go Go.RowKit M U
theorem uo{w:World}{B g i:Nat}{v:Value}(d:B<=w.heap.size)(h:∀w',Below B w w'->w'.cell? ⟨g,i,none⟩=some v):g<B:=by
 rcases By g B with q|q
 · exact q
 · have m:=qB (h w (Below.refl _ _))
   have c:Below B w (w.putObj g (.deferred none)):=(Below.refl B w).grown (grownBy_putObj' w g _) d (λk e=>by cases e;exact q);have a:=h _ c;have j:(w.putObj g (.deferred none)).heap[g]? =some (.deferred none):=World.putObj_heap_same m;unfold World.cell? at a;rw[j] at a;cases a
theorem GA{w:World}{B:Nat}{A:Option Addr}{n:Nat}{L:List Tk}(i:B<=w.heap.size)(h:∀w',Below B w w'->IsTks w' A n L):∀b q,A=some ⟨b,q,none⟩->0<n->b<B:=λb q e c=>by
 have j:∀w',Below B w w'->w'.cell? ⟨b,q+0*3,none⟩=some (.int .u8 (L.getD 0 default).l):=λw' d=>by
  obtain⟨b',m,e',k,a⟩:=(h w' d).at c;rw[e] at e';simp only[Option.some.injEq,Addr.mk.injEq,AU] at e';obtain⟨rfl,rfl⟩:=e';exact(a 0 c).1
 exact uo i j
theorem yA{w:World}{B:Nat}(a:B<=w.heap.size)(h:∀w',Below B w w'->Tabs w'):∀g,g= 2 \/g= 3 ->g<B:=λg c=>by
 rcases c with rfl|rfl
 · exact uo a (λw' b=>(h w' b).2.l0)
 · exact uo a (λw' b=>(h w' b).2.d0)
section
variable {w w5 w':World} {B p:Nat} {S S5:Nat->Prop} {most:Int} {V o:Nat} {X Y1 Y2:List Nat} {e:Ending}
theorem Put.step(k:Kept S w w5)(i:∀j,S5 j->S j\/w.heap.size<=j)(h:Put w5 B p S5 most V o (X++Y1) Y2 e w'):Put w B p S most V o X (Y1++Y2) e w':=by
 unfold Put at h ⊢;rw[qD] at h;exact⟨λq=>Did.go k i (h.1 q),λq=>⟨(h.2 q).1,k.trans (h.2 q).2 i⟩⟩
theorem Put.go(k:Kept S w w5)(i:∀j,S5 j->S j\/w.heap.size<=j)(h:Put w5 B p S5 most V o X Y1 e w'):Put w B p S most V o X Y1 e w':=by
 unfold Put at h ⊢;exact⟨λq=>Did.go k i (h.1 q),λq=>⟨(h.2 q).1,k.trans (h.2 q).2 i⟩⟩
theorem Put.ret(h:Put w B p S most V o X Y1 e w'):∃v,e=.returned v:=by
 by_cases q:(((o+(X++Y1).length+7) /8:Nat):Int)<=most
 · exact⟨_,(h.1 q).1⟩
 · exact⟨_,(h.2 q).1⟩
theorem Put.full(hf:¬(((o+(X++Y1).length+7) /8:Nat):Int)<=most)(a:e=.returned (.int .i64 4))(k:Kept S w w'):Put w B p S most V o X (Y1++Y2) e w':=by
 refine⟨λq=>absurd q (λq=>hf ?_),λ_=>⟨a,k⟩⟩;rw[<-qD] at q;exact kN q
end
theorem Kg{w:World}{B p:Nat}{S:Nat->Prop}{most:Int}{V o:Nat}(h:Wt w B p S most V o)(a:o<=900000000)(c:(((o+7) /8:Nat):Int)<=most):
 Calls prog 198 #[.pointer (some ⟨p,0,none⟩),.int .u64 0,.int .i64 0] w (Did w B p S most (0,V,o)):=by
 have g:=Go.Proofs.YthgilhebnlglkaaGreatDoor.bits_any h 0 0 (by omega) a;have e:jt most V o (0:Int).toNat 0=(0,V,o):=by
  have:=fU (most:=most) (V:=V) (L:=o) (N:=0) (s:=0) (by omega) (by decide) (by simpa using c)
  simpa using this
 rw[e] at g;exact g
theorem rB{w:World}{B p:Nat}{S:Nat->Prop}{most:Int}{V o:Nat}(h:Wt w B p S most V o)(c:o<=900000000)(d:¬(((o+7) /8:Nat):Int)<=most):
 Calls prog 198 #[.pointer (some ⟨p,0,none⟩),.int .u64 0,.int .i64 0] w λe w'=>e=.returned (.int .i64 4)/\Kept S w w':=by
 have g:=Go.Proofs.YthgilhebnlglkaaGreatDoor.bits_any h 0 0 (by omega) c;have e:jt most V o (0:Int).toNat 0=(4,V,o):=by
  have:=dX (most:=most) (V:=V) (L:=o) (N:=0) (s:=0) (by omega) (by decide) (by simpa using d)
  simpa using this
 rw[e] at g;exact g.mono λe w' a=>⟨a.1,jj a⟩
theorem Eh(V o:Nat):V+nb []*2^o=V:=by simp[nb]
theorem Gb{w:World}{B p:Nat}{S:Nat->Prop}{most:Int}{V o:Nat}(k:Nat)(A:Option Addr)(n c:Nat)(a:ByteArray)(last:Bool)(Y:List Nat)(h:Wt w B p S most V o)(s:o<=50000000)(d:¬(((o+7) /8:Nat):Int)<=most):
 Calls prog 163 #[.pointer (some ⟨p,0,none⟩),.int .u8 k,.slice A n c,.string a,.bool last] w (Put w B p S most V o [] Y):=by
 have m:=qH (rB h (by omega) d);have j:=qH (show ¬(((o+Y.length+7) /8:Nat):Int)<=most from λq=>d (by omega));clear h d;unfold Put;go_enter func163,ntmps163;go_wp2_with (go_at_call 198;(with_reducible refine m.o.mono ?_);rintro e t ⟨rfl,i⟩;have r:=qH i;clear i);go_ret;have hf:=j.o;exact⟨λq=>absurd q (by omega),λ_=>⟨rfl,r.o⟩⟩
theorem tw{w:World}{B p:Nat}{S:Nat->Prop}{most:Int}{V o:Nat}(A:Option Addr)(n c:Nat)(L:List Tk)(a:ByteArray)(last:Bool)(h:Wt w B p S most V o)(G:B<=w.heap.size)(C:∀w',Below B w w'->IsTks w' A n L)(hL:o<=50000000)(Z:n<=100000)(hr:a.size<=200000)(D:(((o+7) /8:Nat):Int)<=most):
 Calls prog 163 #[.pointer (some ⟨p,0,none⟩),.int .u8 0,.slice A n c,.string a,.bool last] w (Put w B p S most V o [] (stm o a last)):=by
 have y:=qH (Kg h (by omega) D);have R:=qH h;have m:=qH (show ∀W,Below B w W->Calls prog 199 #[.int .u8 0,.slice A n c,.string a,.int .i64 o] W λe w'=>e=.returned (.int .i64 0)/\Below W.heap.size W w' from λW b=>by
  have:=cA 0 A n c L a o W (C W b) Z (by omega) (by omega) (by omega);rw[show rfs 0 L=0 by unfold rfs;rw[A0 (by omega)]] at this;exact this)
 have s:=qH (λ(d:World) (i:Nat->Prop) (k:Wt d B p i most V o)=>nm k (by omega))
 have q:=qH (λ(d:World) (i:Nat->Prop) (k:Wt d B p i most V o)=>(show Calls prog 201 #[.pointer (some ⟨p,0,none⟩),.string a,.bool last] d (Put d B p i most V o [] (stm o a last)) from
  lA a last (X:=[]) (by rw[Eh];exact k) (by omega) (by simp;omega)))
 have M:=qH G;clear h C D G;go_enter func163,ntmps163
 go_wp2_with (first
  |(go_at_call 198;(with_reducible refine y.o.mono ?_);rintro e d I;have F:=kR R.o I;obtain⟨rfl,i,k,H,J⟩:=I;obtain⟨E,z,u,O⟩:=qh4 k H J F;clear k H J F)
  |(go_at_call 200;(with_reducible refine(s.o _ _ E.o).mono ?_);rintro e w2 ⟨rfl,t⟩;have x:Below d.heap.size d w2:=t.below qR (λj g=>g.elim);have H2:=qH (E.o.keep t (λ_ _ g=>g));have T:=qH (O.o.trans (x.mono (qK M.o z.o.size)));have K:=qH (z.o.trans (aq i x) u.o);clear t x)
  |(go_at_call 199;(with_reducible refine(m.o _ T.o).mono ?_);rintro e w3 ⟨rfl,b3⟩;have Y:=qH (H2.o.keep (Kept.of_below b3) (λ_ _ g=>g));have U:=qH (K.o.trans (aq i b3) u.o);clear b3)
  |(go_at_call 201;(with_reducible refine(q.o _ _ Y.o).mono ?_);rintro e w4 r;obtain⟨v4,rfl⟩:=r.ret;have N:=qH (r.go U.o u.o);clear r))
 go_ret;exact N.o
theorem av.keepS{w w':World}{c:IntKind}{A:Option Addr}{n:Nat}{f:Nat->Int}{S:Nat->Prop}(h:av w c A n f)(k:Kept S w w')(i:∀b q,A=some ⟨b,q,none⟩->¬S b):av w' c A n f:=λr=>by
 obtain⟨b,o,e,a,m⟩:=h r;exact⟨b,o,e,Ag a k.size,λj d=>k.cell (m j d) (i b o e)⟩
theorem E8{w:World}{B p:Nat}{S:Nat->Prop}{most:Int}{V o:Nat}(k:Nat)(A:Option Addr)(n c:Nat)(L:List Tk)(U:ByteArray)(last:Bool)(r:Nat)(l1 l2:Nat->Nat)(T:List Cd)(au:k≠0)(ap:k<=2)(h:Wt w B p S most V o)(hB:B<=w.heap.size)(a2:∀w',Below B w w'->Tabs w')(hT:∀w',Below B w w'->IsTks w' A n L)(hL:o<=50000000)(hn:n<=100000)(hr:U.size<=200000)(ac:rI L)(y:∀t∈L,may t=true)
 (HC:∀D,Below B w D->Calls prog 202 #[.int .u8 k,.slice A n c] D (gj D (sys L) r l1 l2 T)) (u:286<=r) (h2:r<=1000) (aj:T.length<=1000/\∀c∈T,c.1<2^c.2/\c.2<=16) (F1:rK l1 r) (F2:rK l2 30) (a5:∀i,l1 i<=15) (af:∀i,l2 i<=15) (hm:(((o+7) /8:Nat):Int)<=most):
 Calls prog 163 #[.pointer (some ⟨p,0,none⟩),.int .u8 k,.slice A n c,.string U,.bool last] w (Put w B p S most V o [] ((hdb k last++T.flatMap cbs)++(sys L).flatMap (wsy l1 r l2 30))):=by
 have ae:=qH (Kg h (by omega) hm);have HH:=qH h;have hz:=oJ;have a9:=qH (show ∀W,Below B w W->Calls prog 199 #[.int .u8 k,.slice A n c,.string U,.int .i64 o] W λe w'=>e=.returned (.int .i64 0)/\Below W.heap.size W w' from λW b=>by
  have:=cA k A n c L U o W (hT W b) hn (by omega) (by omega) (by omega);rw[show rfs k L=0 by unfold rfs;rw[A0 (by rw[iD y];simp;omega)]] at this;exact this)
 have ai:=qH (λ(D:World) (a:Nat->Prop) (u:Wt D B p a most V o)=>nm u (by omega));obtain⟨O,HB⟩:=qh2 HC hB;have aa:=yA hB a2;have ad:=GA hB hT
 have a6:=qH (λ(E:World) (S9:Nat->Prop) (X:List Nat) (G F:Option Addr) (c1 K:Nat) (b:Below B w E) (h9:Wt E B p S9 most (V+nb X*2^o) (o+X.length)) (q1:av E .u8 G r (λi=>(l1 i:Int))) (q2:av E .u8 F 30 (λi=>(l2 i:Int))) (hX:o+X.length<=100000000)=>
  wN A n c L G F r c1 K l1 l2 h9 (a2 E b).2 (hT E b) y hn aa ad q1 q2 u h2 F1 F2 a5 af hX ac)
 generalize al:(sys L).flatMap (wsy l1 r l2 30)=Y2 at a6 ⊢;generalize an:sys L=d at O;have e1:((k:Int)==0)=false:=(by rw[qN];omega);have ah:=qH (λ(D:World) (G F Y:Option Addr) (c1 K Z:Nat)=>by
  have h:=(Kd.new D (λ_=>0) (λ_=>0) 0 (.slice none 0 0) (.slice none 0 0) (.slice none 0 0)).store (cs false d) (cs true d) (smb d) (.slice G r c1) (.slice F 30 K) (.slice Y T.length Z) rfl rfl rfl;rw[World.setRow_alloc_new] at h;exact h)
 have a7:=qH (show ∀W,Calls prog 205 #[.int .u8 k,.bool last] W λe w'=> ∃g,e=.returned (.slice (some ⟨g,0,none⟩) 2 2)/\W.heap.size<=g/\az w' (some ⟨g,0,none⟩) 2 (hdc k last)/\Below W.heap.size W w' from λW=>ku k last W (by omega));have am:=qH (Ex (k:=k) (by omega) last);have x:=qH aj;unfold gj at O;clear h hT a2 hm hB HC aa ad F1 F2 a5 af al an aj y ac;go_enter func163,ntmps163
 go_wp2_with (first
  |(go_at_call 198;(with_reducible refine ae.o.mono ?_);rintro e D hd;have b1:=kR HH.o hd;obtain⟨rfl,a,u,k1,i1⟩:=hd;obtain⟨H1,K1,I1,B1⟩:=qh4 u k1 i1 b1;clear u k1 i1 b1)
  |(go_at_call 200;(with_reducible refine(ai.o _ _ H1.o).mono ?_);rintro e w2 ⟨rfl,k2⟩;have b2:Below D.heap.size D w2:=k2.below qR (λj g=>g.elim);have H2:=qH (H1.o.keep k2 (λ_ _ g=>g));have B2:=qH (B1.o.trans (b2.mono (qK HB.o K1.o.size)));have K2:=qH (K1.o.trans (aq a b2) I1.o);clear k2 b2)
  |(go_at_call 199;(with_reducible refine(a9.o _ B2.o).mono ?_);rintro e w3 ⟨rfl,b3⟩;have H3:=qH (H2.o.keep (Kept.of_below b3) (λ_ _ g=>g));have B3:=qH (B2.o.trans (b3.mono (qK HB.o K2.o.size)));have K3:=qH (K2.o.trans (aq a b3) I1.o);clear b3)
  |(go_at_call 202;(with_reducible refine(O.o _ B3.o).mono ?_);rintro e w4 ⟨G,c1,F,K,Y,Z,rfl,q1,q2,q3,b4,u1,u2⟩
    have bb:Below w4.heap.size w4 (w4.alloc (.cells (KV (cs false d) (cs true d) (smb d) (.slice G r c1) (.slice F 30 K) (.slice Y T.length Z)) 292)):=qL;have Q1:=qH (q1.below bb);have Q2:=qH (q2.below bb);have Q3:=qH (q3.below bb);have U1:=qH u1;have Z4:=qH (show w3.heap.size<=w4.heap.size from b4.size);have U2:=qH u2;have bc:=b4.trans (bb.mono b4.size);have H5:=qH (H3.o.keep (Kept.of_below bc) (λ_ _ g=>g));have K5:=qH (K3.o.trans (aq a bc) I1.o);have B5:=qH (B3.o.trans (bc.mono (qK HB.o K3.o.size)));have KD:=qH (Kd.new w4 (cs false d) (cs true d) (smb d) (.slice G r c1) (.slice F 30 K) (.slice Y T.length Z));clear q1 q2 q3 b4 bb bc u1 u2)
  |refine aB rfl 292 _ _ rfl _ _ rfl _ rfl (ah.o _ _ _ _ _ _ _) ?_)
 obtain⟨w5,ab⟩:∃w5,w4.alloc (.cells (KV (cs false d) (cs true d) (smb d) (.slice G r c1) (.slice F 30 K) (.slice Y T.length Z)) 292)=w5:=⟨_,rfl⟩
 obtain⟨XX,ag⟩:∃XX,w4.heap.size=XX:=⟨_,rfl⟩
 rw[ab] at Q1 Q2 Q3 H5 K5 B5 KD ⊢;rw[ag] at KD Z4 ⊢;have r5:=KD.o.at3;have a8:∀j,a j->j<w3.heap.size:=λj hj=>(H3.o.lt hj).2
 have C:=qH a8;obtain⟨Y1,a0⟩:∃Y1,hdb k last++T.flatMap cbs=Y1:=⟨_,rfl⟩
 have H:=qH a0;rw[a0];have a4:=qH (show ∀ (w8:World) (R:Option Addr) (c8:Nat),Wt w8 B p a most V o->az w8 R (hdc k last++T).length (hdc k last++T)->(∀b q,R=some ⟨b,q,none⟩->¬a b)->Calls prog 203 #[.pointer (some ⟨p,0,none⟩),.slice R (hdc k last++T).length c8] w8 (Put w8 B p a most V o [] Y1) from λw8 R c8 h8 i8 f8=>by
  have:=bQ (X:=[]) (w:=w8) (B:=B) (p:=p) (S:=a) (most:=most) (V:=V) (o:=o) R (hdc k last++T).length c8 (hdc k last++T) (by rw[Eh];exact h8) i8 f8 (λc hc=>by
   rcases AH.1 hc with q|q
   · exact am.o c q
   · exact x.o.2 c q) (by simp[hdc]) (by have:=x.o.1;simp[hdc];omega) (by simp;omega)
  rw[AL,oQ,H.o] at this;exact this)
 have I:=qH (show ∀ (w7:World) (z g:Nat),z<w7.heap.size->w7.heap[z]? =some (.cells #[.slice (some ⟨g,0,none⟩) 2 2,.slice Y T.length Z] 207 (0,0))->az w7 (some ⟨g,0,none⟩) 2 (hdc k last)->az w7 Y T.length T->Calls prog 204 #[.slice (some ⟨z,0,none⟩) 2 2] w7 (Cck w7 (hdc k last++T)) from λw7 z g hz hr i1 i2=>by
  have:=mN z 2 [⟨some ⟨g,0,none⟩,2,2,hdc k last⟩,⟨Y,T.length,Z,T⟩] w7 rfl (by omega) hz (λi hi=>by
   match i,hi with
   |0,_=>exact cell_of_row _ _ 0 _ _ (0,0) hr
   |1,_=>exact cell_of_row _ _ 1 _ _ (0,0) hr) (λi hi=>by
   match i,hi with
   |0,_=>exact i1
   |1,_=>exact i2) (by simp[jz,hdc]) (by have:=x.o.1;simp[jz,hdc];omega)
  simpa [jz] using this)
 unfold Cck at I;generalize hN:(hdc k last++T).length=N at a4 I;have a1:=qH (show XX<w5.heap.size from KD.o.lt);clear hN ab ag a8 a0 ah O a9 ai ae
 have ak:=qH (show o+Y1.length<=100000000 from by
  rw[<-H.o,qA,hdb_length,fR];have u:=DQ (l:=T) (λc hc=>qK (x.o.2 c hc).2 (by omega));have h2:=x.o.1;omega)
 by_cases m1:(((o+([]++Y1).length+7) /8:Nat):Int)<=most
 · have M1:=qH m1
   clear m1
   go_region_law (first
    |(rw[A7 (by rfl)];go_simp;(with_reducible refine(a7.o _).mono ?_);rintro e w6 ⟨g,rfl,ng,ig,bg⟩
      have b6:Below w5.heap.size w5 w6:=(Below.refl _ w5).drew.trans bg;have r6:=(KD.o.below b6).at3;obtain⟨M,IG⟩:=qh2 b6 ig;clear b6 ig ng bg;dsimp only)
    |(rw[A7 (by rfl)];go_simp;(with_reducible refine(I.o _ _ _ (by simp) (heap_alloc_new _ _) (IG.o.below ((Below.refl _ w6).alloc qR _)) ((Q3.o.below M.o).below ((Below.refl _ w6).alloc qR _))).mono ?_);rintro e w8 ⟨R,c8,rfl,f8,i8,b8⟩
      have m:=M.o.trans ((((Below.refl _ w6).alloc qR _).trans (b8.mono (by simp))).mono M.o.size);have B8:=qH m;have H8:=qH (H5.o.keep (Kept.of_below m) (λ_ _ g=>g));have I8:=qH i8;have F8:=qH (show ∀b q,R=some ⟨b,q,none⟩->¬a b from λb q e hs=>by have u:=f8 b q e;have h2:=C.o b hs;have h3:=Z4.o;have h4:=a1.o;have h5:=M.o.size;simp at u;omega);clear f8 i8 b8 m;dsimp only)
    |(rw[A7 (by rfl)];go_simp;(with_reducible refine(a4.o _ _ _ H8.o I8.o F8.o).mono ?_);rintro e E J;obtain⟨he,S9,h9,k9,i9⟩:=J.1 M1.o;cases he;obtain⟨H9,K9,I9⟩:=qh3 h9 k9 i9;clear J h9 k9 i9;dsimp only))
   all_goals
    have s:=(aq a B8.o).trans K9.o (λj hj=> .inl hj);have hx:¬a XX:=λhs=>by have h2:=C.o _ hs;have h3:=Z4.o;omega
    have a3:Kd E XX (cs false d) (cs true d) (smb d) (.slice G r c1) (.slice F 30 K) (.slice Y T.length Z):=(s.block XX a1.o hx).trans KD.o;have x1:=a3.at1;have x2:=a3.at2;have KK:=qH (K5.o.trans s I1.o);have II:=qH (show ∀j,S9 j->S j\/w.heap.size<=j from λj hj=>by
     rcases I9.o j hj with q|q
     · exact I1.o j q
     · right;have u:=K5.o.size;have h2:=B8.o.size;omega)
    have q1:=av.keepS Q1.o s (λb q e hs=>by have h2:=C.o _ hs;have h3:=U1.o b q e;omega);have q2:=av.keepS Q2.o s (λb q e hs=>by have h2:=C.o _ hs;have h3:=U2.o b q e;omega);have hs:=a6.o E S9 ([]++Y1) G F c1 K (B5.o.trans (yL H5.o s)) H9.o q1 q2 (by have:=ak.o;simpa using this);have HW:=qH hs;clear s hx a3 q1 q2 hs;go_wp2_with (go_at_call 206;(with_reducible refine HW.o.mono ?_);rintro e ar J;obtain⟨ao,rfl⟩:=J.ret;have P10:=qH (Put.step KK.o II.o J);clear J);go_ret;rw[H.o];exact P10.o
 · have M1:=qH m1
   clear m1
   go_region_law (first
    |(rw[A7 (by rfl)];go_simp;(with_reducible refine(a7.o _).mono ?_);rintro e w6 ⟨g,rfl,ng,ig,bg⟩
      have b6:Below w5.heap.size w5 w6:=(Below.refl _ w5).drew.trans bg;have r6:=(KD.o.below b6).at3;obtain⟨M,IG⟩:=qh2 b6 ig;clear b6 ig ng bg;dsimp only)
    |(rw[A7 (by rfl)];go_simp;(with_reducible refine(I.o _ _ _ (by simp) (heap_alloc_new _ _) (IG.o.below ((Below.refl _ w6).alloc qR _)) ((Q3.o.below M.o).below ((Below.refl _ w6).alloc qR _))).mono ?_);rintro e w8 ⟨R,c8,rfl,f8,i8,b8⟩
      have m:=M.o.trans ((((Below.refl _ w6).alloc qR _).trans (b8.mono (by simp))).mono M.o.size);have B8:=qH m;have H8:=qH (H5.o.keep (Kept.of_below m) (λ_ _ g=>g));have I8:=qH i8;have F8:=qH (show ∀b q,R=some ⟨b,q,none⟩->¬a b from λb q e hs=>by have u:=f8 b q e;have h2:=C.o b hs;have h3:=Z4.o;have h4:=a1.o;have h5:=M.o.size;simp at u;omega);clear f8 i8 b8 m;dsimp only)
    |(rw[A7 (by rfl)];go_simp;(with_reducible refine(a4.o _ _ _ H8.o I8.o F8.o).mono ?_);rintro e E J;obtain⟨he,k9⟩:=J.2 (by have:=M1.o;omega);cases he;have K9:=qH (K5.o.trans ((aq a B8.o).trans k9 (λj hj=> .inl hj)) I1.o);clear J k9;dsimp only))
   all_goals
    go_wp2;go_ret;rw[<-qD,H.o];exact Put.full (by have:=M1.o;omega) rfl K9.o
theorem xG{w:World}{B p:Nat}{S:Nat->Prop}{most:Int}{V o:Nat}(k:Nat)(A:Option Addr)(n c:Nat)(L:List Tk)(a:ByteArray)(last:Bool)(h:Wt w B p S most V o)(x:B<=w.heap.size)(j:∀w',Below B w w'->Tabs w')(q:∀w',Below B w w'->IsTks w' A n L)(s:o<=50000000)(r:n<=100000)(z:a.size<=200000)(F:k<=2)(D:k≠0->∀t∈L,may t=true):
 Calls prog 163 #[.pointer (some ⟨p,0,none⟩),.int .u8 k,.slice A n c,.string a,.bool last] w (Put w B p S most V o [] (bkm k L a last o)):=by
 by_cases hf:(((o+7) /8:Nat):Int)<=most
 · by_cases C:k=0
   · subst C
     exact tw A n c L a last h x q s r z hf
   · have d:=D C
     by_cases E:k=1
     · subst E
       have g:=E8 1 A n c L a last 288 fxl (λ_=>5) [] (by omega) (by omega) h x j q s r z (xe L) d (λm b=>fJ A n c L m (j m b).2 (q m b) r d (xe L)) (by omega) (by omega) ⟨by simp,λc u=>absurd u (by simp)⟩ oU qS (λi=>(fxl_in i).2) (λ_=>by omega) hf;rw[Dn,Az] at g;rw[wg];unfold sfx;exact g
     · obtain rfl:k=2:=by omega
       have y:=jM L;have g:=E8 2 A n c L a last 286 (ll1 L) (ll2 L) (tbl (lx1 L) (lx2 L)) (by omega) (by omega) h x j q s r z (xe L) d (λm b=>qY A n c L m (j m b) (q m b) r d) (by omega) (by omega) ⟨y.1,λc u=>⟨(y.2 c u).2,qK (y.2 c u).1 (by omega)⟩⟩ (hfl_fine _ (by decide) (by decide) (by decide) (by decide)) (hfl_fine _ (by decide) (by decide) (by decide) (by decide)) (λi=>hfl_le _ (by omega) (by decide) i) (λi=>hfl_le _ (by omega) (by decide) i) hf;rw[sx] at g;rw[we];unfold sbs;exact g
 · exact Gb k A n c a last _ h s hf
def Ku(k:Nat)(L:List Tk):Prop:=∀ (w:World) (B p:Nat) (S:Nat->Prop) (most:Int) (V o:Nat) (A:Option Addr) (n c:Nat) (raw:ByteArray) (last:Bool),Wt w B p S most V o->B<=w.heap.size->(∀w',Below B w w'->Tabs w')->(∀w',Below B w w'->IsTks w' A n L)->o<=50000000->n<=100000->raw.size<=200000->k<=2->(k≠0->∀t∈L,may t=true)->
 Calls prog 163 #[.pointer (some ⟨p,0,none⟩),.int .u8 k,.slice A n c,.string raw,.bool last] w (Put w B p S most V o [] (bkm k L raw last o))
theorem xF(k:Nat)(L:List Tk):Ku k L:=λw B p S most V o A n c a last h m d i r t s q j=>xG k A n c L a last h m d i r t s q j
